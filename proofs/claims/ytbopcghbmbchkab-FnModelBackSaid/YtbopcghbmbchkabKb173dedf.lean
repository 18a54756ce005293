/- ModelOk of package spec: the walk. -/
import Derived.Test.YtbopcghbmbchkabK7a543de2
namespace Go.Proofs.Ytbopcghbmbchkab
section
open Go.RowKit
set_option linter.unusedVariables false
set_option linter.unusedSimpArgs false

set_option maxHeartbeats 3200000 in
set_option maxRecDepth 100000 in
theorem specModelOk_any (s : MSig) (m : MModel) (w : World) (v v' : Value) (h1 : RSig w v s) (h2 : RModel w v' m) :
    Calls Try.prog 59 #[v, v'] w fun e w' => e = .returned (.bool (modelB s m)) ∧ Below w.heap.size w w' := by
  obtain ⟨Asa, csa, rfl⟩ := h1.form
  obtain ⟨Ama, cma, Amb, cmb, rfl⟩ := h2.form
  have hb : Below w.heap.size w ((w.alloc (.cells #[.int .i64 s.sorts, .slice Asa s.ops.length csa] 25)).alloc (.cells #[.slice Ama m.sizes.length cma, .slice Amb m.tables.length cmb] 30)) := (below_alloc _ _).alloc (by simp) _
  have HB := Lib.hid hb
  have hsz : ((w.alloc (.cells #[.int .i64 s.sorts, .slice Asa s.ops.length csa] 25)).alloc (.cells #[.slice Ama m.sizes.length cma, .slice Amb m.tables.length cmb] 30)).heap.size = w.heap.size + 2 := by simp
  have Hs := Lib.hid (h1.keep hb)
  have s0 := cell_keep (below_alloc (w.alloc (.cells #[.int .i64 s.sorts, .slice Asa s.ops.length csa] 25)) (.cells #[.slice Ama m.sizes.length cma, .slice Amb m.tables.length cmb] 30)) (bx_at (w) #[.int .i64 s.sorts, .slice Asa s.ops.length csa] 25 (k := 0) rfl)
  have s1 := cell_keep (below_alloc (w.alloc (.cells #[.int .i64 s.sorts, .slice Asa s.ops.length csa] 25)) (.cells #[.slice Ama m.sizes.length cma, .slice Amb m.tables.length cmb] 30)) (bx_at (w) #[.int .i64 s.sorts, .slice Asa s.ops.length csa] 25 (k := 1) rfl)
  have Hm := Lib.hid (h2.keep hb)
  have m0 := bx_at (w.alloc (.cells #[.int .i64 s.sorts, .slice Asa s.ops.length csa] 25)) #[.slice Ama m.sizes.length cma, .slice Amb m.tables.length cmb] 30 (k := 0) rfl
  have m1 := bx_at (w.alloc (.cells #[.int .i64 s.sorts, .slice Asa s.ops.length csa] 25)) #[.slice Ama m.sizes.length cma, .slice Amb m.tables.length cmb] 30 (k := 1) rfl
  simp only [World.size_alloc] at m0 m1
  generalize hW : (w.alloc (.cells #[.int .i64 s.sorts, .slice Asa s.ops.length csa] 25)).alloc (.cells #[.slice Ama m.sizes.length cma, .slice Amb m.tables.length cmb] 30) = W at HB hsz Hs s0 s1 Hm m0 m1
  clear hb h1 h2
  have hl1 := Hs.out.of.2.len
  have hl2 := Hm.out.of.1.len
  have hl3 := Hm.out.of.2.len
  cases hv : validB s with
  | false =>
    have HV := Lib.hid hv
    have HE := Lib.hid (model_no1 (m := m) hv)
    clear hv
    go_enter Try.func59, Try.ntmps59
    go_wp2_with fail
    clear hW
    refine (specSigValid_any _ s _ Hs.out).mono ?_
    rw [HV.out]
    rintro e w1 ⟨rfl, hb⟩
    replace HB := Lib.hid (sz_keep HB.out hb)
    replace s0 := cell_keep hb s0
    replace s1 := cell_keep hb s1
    replace m0 := cell_keep hb m0
    replace m1 := cell_keep hb m1
    replace Hs := Lib.hid (Hs.out.keep hb)
    replace Hm := Lib.hid (Hm.out.keep hb)
    clear hb
    go_wp2
    go_ret
    exact ⟨ret_bool HE.out.symm, HB.out⟩
  | true =>
    have HV := Lib.hid hv
    have hsv := valid_sorts hv
    clear hv
    by_cases hs : (m.sizes.length : Int) = s.sorts
    · have e1 : ((m.sizes.length : Int) != s.sorts) = false := by simp [hs]
      have HSL := Lib.hid hs
      have hms3 : m.sizes.length ≤ 3 := by omega
      by_cases ho : m.tables.length = s.ops.length
      · have e2 : ((m.tables.length : Int) != (s.ops.length : Int)) = false := by simp [ho]
        have HOL := Lib.hid ho
        have hle : m.tables.length ≤ s.ops.length := by omega
        clear ho hs
        go_enter Try.func59, Try.ntmps59
        go_wp2_with fail
        clear hW
        refine (specSigValid_any _ s _ Hs.out).mono ?_
        rw [HV.out]
        rintro e w1 ⟨rfl, hb⟩
        replace HB := Lib.hid (sz_keep HB.out hb)
        replace s0 := cell_keep hb s0
        replace s1 := cell_keep hb s1
        replace m0 := cell_keep hb m0
        replace m1 := cell_keep hb m1
        replace Hs := Lib.hid (Hs.out.keep hb)
        replace Hm := Lib.hid (Hm.out.keep hb)
        clear hb
        have HC := Lib.hid (And.intro s0 (And.intro s1 (And.intro m0 m1)))
        go_wp2
        clear s0 s1 m0 m1
        go_loopw [5] (fun i wr => ∃ k : Nat, k ≤ m.sizes.length ∧ i = .int .i64 k ∧ sizesB (m.sizes.take k) = true ∧ Below w1.heap.size w1 wr) (fun i _ => m.sizes.length - (intOf i).toNat)
        case atStart => exact ⟨0, Nat.zero_le _, rfl, rfl, Below.refl _ _⟩
        case round =>
          obtain ⟨k, hk, rfl, hb0, hd⟩ := hrel
          have HB0 := Lib.hid hb0
          have HD := Lib.hid hd
          have f2 := cell_keep hd HC.out.2.2.1
          clear hb0 hd
          by_cases hlt : k < m.sizes.length
          · obtain ⟨b3, o3, c3, e, hx⟩ := (Hm.out.of.1.keep HD.out).at_ hlt
            cases e
            have hlt' : (k : Int) < (m.sizes.length : Int) := by omega
            have HT := Lib.hid (all_take (p := fun z => inB z 1 3) hlt)
            have HN := Lib.hid (sizesB_bad hlt)
            generalize m.sizes[k] = z at hx HT HN
            obtain ⟨r, hr⟩ : ∃ r, inB z 1 3 = r := ⟨_, rfl⟩
            have HR := Lib.hid hr
            clear hr
            go_wp2_with fail
            refine (l1In_is z 1 3 _ r HR.out).mono ?_
            rintro e w2 ⟨rfl, rfl⟩
            clear f2 hx
            cases r with
            | true =>
              go_wp2
              go_roundw
              case rel => exact ⟨k + 1, by omega, by go_num, by unfold sizesB; rw [HT.out, HR.out]; have := HB0.out; unfold sizesB at this; rw [this]; rfl, HD.out⟩
              case measure => simp [intOf]; omega
            | false =>
              have HF := Lib.hid (model_no4 (s := s) (HN.out HR.out))
              go_wp2
              go_ret
              exact ⟨ret_bool HF.out.symm, sz_keep HB.out HD.out⟩
          · have hkn : k = m.sizes.length := by omega
            have hlt' : ¬ (k : Int) < (m.sizes.length : Int) := by omega
            have HT := Lib.hid (show m.sizes.take k = m.sizes from take_all (by omega))
            rw [HT.out] at HB0
            have HZ := Lib.hid (sizesB_iff.1 HB0.out)
            go_wp2
            clear f2
            go_loopw [6, 7, 8] (fun i p q wr => ∃ k : Nat, k ≤ m.tables.length ∧ i = .int .i64 k ∧ allTab s m k = true ∧ Below w1.heap.size w1 wr) (fun i _ _ _ => m.tables.length - (intOf i).toNat)
            case atStart => exact ⟨0, Nat.zero_le _, rfl, allTab_zero _ _, HD.out⟩
            case round =>
              clear HD
              obtain ⟨j, hj, rfl, hal, hd⟩ := hrel
              have HAL := Lib.hid hal
              have HD := Lib.hid hd
              have f1 := cell_keep hd HC.out.2.1
              have f2 := cell_keep hd HC.out.2.2.1
              have f3 := cell_keep hd HC.out.2.2.2
              clear hal hd
              by_cases hjl : j < m.tables.length
              · have hjl' : (j : Int) < (m.tables.length : Int) := by omega
                have hja : j < s.ops.length := by omega
                have hja' : (j : Int) < (s.ops.length : Int) := by omega
                have hj0 : (0 : Int) ≤ (j : Int) := by omega
                obtain ⟨b7, o7, c7, u7, e, hra, hri⟩ := (Hs.out.of.2.keep HD.out).at_ hja
                cases e
                obtain ⟨b8, o8, c8, u8, e, hrb, hrj⟩ := (Hm.out.of.2.keep HD.out).at_ hjl
                cases e
                have hvr := valid_row HV.out hja
                have HIN := Lib.hid (show ∀ x ∈ s.ops[j], 0 ≤ x ∧ x < (m.sizes.length : Int) from fun y hy => by have := hvr.2.2 y hy; have := HSL.out; omega)
                have HR13 := Lib.hid (And.intro hvr.1 hvr.2.1)
                have HTA := Lib.hid (tabB_at hja hjl)
                have HBAD := Lib.hid (fun h => model_no5 (s := s) hjl h)
                have HSUC := Lib.hid (allTab_succ s m j)
                generalize s.ops[j] = row at hri hra HIN HTA HR13
                generalize m.tables[j] = table at hrj hrb HTA
                have HRI := Lib.hid hri
                have HRJ := Lib.hid hrj
                have htl := hrj.len
                obtain ⟨A7, d7, rfl, -⟩ := hri.form
                obtain ⟨A8, d8, rfl, -⟩ := hrj.form
                obtain ⟨q, hq⟩ : ∃ q, waysM (ledM m.sizes row.dropLast) = q := ⟨_, rfl⟩
                have HQ := Lib.hid hq
                clear hri hrj hvr hq
                have HMS := Lib.hid (Hm.out.of.1.keep HD.out)
                obtain ⟨w2, hw2⟩ : ∃ w2, w2 = wr.drew := ⟨_, rfl⟩
                have HD2 := Lib.hid (show Below w1.heap.size w1 wr.drew from map_drew HD.out)
                by_cases hlen : (table.length : Int) = q
                · have HLEN := Lib.hid hlen
                  have e3 : ((table.length : Int) != q) = false := by simp [hlen]
                  clear hlen
                  go_wp2_with fail
                  refine wp_region_held_drew (S := (fun w' => w'.cell? ⟨w.heap.size + 1, 0, none⟩ = some (.slice Ama m.sizes.length cma) ∧ w'.cell? ⟨w.heap.size + 1, 1, none⟩ = some (.slice (some ⟨b8, o8, none⟩) m.tables.length cmb) ∧ w'.cell? ⟨b8, o8 + j, none⟩ = some (.slice A8 table.length d8))) (by kernel_rfl) ?_ (fun hHeld => ?_)
                  · exact ⟨f2, f3, hrb⟩
                  refine wpAnyH_take (i := 0) (oi := _) (v := ?_) rfl (by kernel_rfl) (by kernel_rfl) (by kernel_rfl) (fun _ _ _ h => h) (Or.inl ⟨by rfl, ?_⟩) (by assumption) ?_
                  rotate_left
                  · first | (intro w' hSw; (try dsimp only at hSw); go_simp; done) | (intro w' hSw; (try dsimp only at hSw); go_simp; with_reducible rfl)
                  try simp only [Act.put, List.getElem_toArray, List.getElem_cons_zero, List.getElem_cons_succ, List.setIfInBounds_toArray, List.set_cons_zero, List.set_cons_succ]
                  refine wpAnyH_take (i := 1) (oi := _) (v := ?_) rfl (by kernel_rfl) (by kernel_rfl) (by kernel_rfl) (fun _ _ _ h => h) (Or.inl ⟨by rfl, ?_⟩) (by assumption) ?_
                  rotate_left
                  · first | (intro w' hSw; (try dsimp only at hSw); go_simp; done) | (intro w' hSw; (try dsimp only at hSw); go_simp; with_reducible rfl)
                  try simp only [Act.put, List.getElem_toArray, List.getElem_cons_zero, List.getElem_cons_succ, List.setIfInBounds_toArray, List.set_cons_zero, List.set_cons_succ]
                  refine wpAnyH_take (i := 2) (oi := _) (v := ?_) rfl (by kernel_rfl) (by kernel_rfl) (by kernel_rfl) (fun _ _ _ h => h) (Or.inl ⟨by rfl, ?_⟩) (by assumption) ?_
                  rotate_left
                  · first | (intro w' hSw; (try dsimp only at hSw); go_simp; done) | (intro w' hSw; (try dsimp only at hSw); go_simp; with_reducible rfl)
                  try simp only [Act.put, List.getElem_toArray, List.getElem_cons_zero, List.getElem_cons_succ, List.setIfInBounds_toArray, List.set_cons_zero, List.set_cons_succ]
                  refine wpAnyH_take (i := 3) (oi := _) (v := ?_) rfl (by kernel_rfl) (by kernel_rfl) (by kernel_rfl) (fun _ _ _ h => h) (Or.inl ⟨by rfl, ?_⟩) (by assumption) ?_
                  rotate_left
                  · first | (intro w' hSw; (try dsimp only at hSw); go_simp; done) | (intro w' hSw; (try dsimp only at hSw); go_simp; with_reducible rfl)
                  try simp only [Act.put, List.getElem_toArray, List.getElem_cons_zero, List.getElem_cons_succ, List.setIfInBounds_toArray, List.set_cons_zero, List.set_cons_succ]
                  refine wpAnyH_take (i := 4) (oi := _) (v := ?_) rfl (by kernel_rfl) (by kernel_rfl) (by kernel_rfl) (fun _ _ _ h => h) (Or.inl ⟨by rfl, ?_⟩) (by assumption) ?_
                  rotate_left
                  · first | (intro w' hSw; (try dsimp only at hSw); go_simp; done) | (intro w' hSw; (try dsimp only at hSw); go_simp; with_reducible rfl)
                  try simp only [Act.put, List.getElem_toArray, List.getElem_cons_zero, List.getElem_cons_succ, List.setIfInBounds_toArray, List.set_cons_zero, List.set_cons_succ]
                  refine wpAnyH_take (i := 5) (oi := _) (v := ?_) rfl (by kernel_rfl) (by kernel_rfl) (by kernel_rfl) (fun _ _ _ h => h) (Or.inl ⟨by rfl, ?_⟩) (by assumption) ?_
                  rotate_left
                  · first | (intro w' hSw; (try dsimp only at hSw); go_simp; done) | (intro w' hSw; (try dsimp only at hSw); go_simp; with_reducible rfl)
                  try simp only [Act.put, List.getElem_toArray, List.getElem_cons_zero, List.getElem_cons_succ, List.setIfInBounds_toArray, List.set_cons_zero, List.set_cons_succ]
                  refine wpAnyH_take (i := 6) (oi := _) (v := ?_) rfl (by kernel_rfl) (by kernel_rfl) (by kernel_rfl) (fun _ _ _ h => h) (Or.inl ⟨by rfl, ?_⟩) (by assumption) ?_
                  rotate_left
                  · first | (intro w' hSw; (try dsimp only at hSw); go_simp; done) | (intro w' hSw; (try dsimp only at hSw); go_simp; with_reducible rfl)
                  try simp only [Act.put, List.getElem_toArray, List.getElem_cons_zero, List.getElem_cons_succ, List.setIfInBounds_toArray, List.set_cons_zero, List.set_cons_succ]
                  refine wpAnyH_take (i := 7) (oi := _) (v := ?_) rfl (by kernel_rfl) (by kernel_rfl) (by kernel_rfl) (fun _ _ _ h => h) (Or.inl ⟨by rfl, ?_⟩) (by assumption) ?_
                  rotate_left
                  · first | (intro w' hSw; (try dsimp only at hSw); go_simp; done) | (intro w' hSw; (try dsimp only at hSw); go_simp; with_reducible rfl)
                  try simp only [Act.put, List.getElem_toArray, List.getElem_cons_zero, List.getElem_cons_succ, List.setIfInBounds_toArray, List.set_cons_zero, List.set_cons_succ]
                  refine wpAnyH_take (i := 8) (oi := _) (v := ?_) rfl (by kernel_rfl) (by kernel_rfl) (by kernel_rfl) (fun _ _ _ h => h) (Or.inl ⟨by rfl, ?_⟩) (by assumption) ?_
                  rotate_left
                  · first | (intro w' hSw; (try dsimp only at hSw); go_simp; done) | (intro w' hSw; (try dsimp only at hSw); go_simp; with_reducible rfl)
                  try simp only [Act.put, List.getElem_toArray, List.getElem_cons_zero, List.getElem_cons_succ, List.setIfInBounds_toArray, List.set_cons_zero, List.set_cons_succ]
                  refine wpAnyH_ready (rs := [9]) (by kernel_rfl) (by simp) ?_
                  refine AllReadyH.cons (o := _) rfl (fun K hK => ?_) AllReadyH.nil
                  go_simp
                  refine (l5Rows_any m.sizes row _ _ _ (HMS.out.keep (map_drew (Below.refl _ _))) (HRI.out.keep (map_drew (Below.refl _ _))) HR13.out.1 HR13.out.2 HZ.out HIN.out hms3).mono ?_
                  rw [HQ.out]
                  rintro x w5 ⟨rfl, rfl⟩
                  go_wp2_with fail
                  refine hK.out _ _ ?_ (fun hHeld => ?_)
                  · exact ⟨f2, f3, hrb⟩
                  clear hK K
                  try simp only [Act.put, List.getElem_toArray, List.getElem_cons_zero, List.getElem_cons_succ, List.setIfInBounds_toArray, List.set_cons_zero, List.set_cons_succ]
                  refine wpAnyH_take (i := 10) (oi := _) (v := ?_) rfl (by kernel_rfl) (by kernel_rfl) (by kernel_rfl) (fun _ _ _ h => h) (Or.inl ⟨by rfl, ?_⟩) (by assumption) ?_
                  rotate_left
                  · first | (intro w' hSw; (try dsimp only at hSw); go_simp; done) | (intro w' hSw; (try dsimp only at hSw); go_simp; with_reducible rfl)
                  try simp only [Act.put, List.getElem_toArray, List.getElem_cons_zero, List.getElem_cons_succ, List.setIfInBounds_toArray, List.set_cons_zero, List.set_cons_succ]
                  refine wpAnyH_done (by kernel_rfl) ?_ _
                  go_wp2
                  -- the values of the table
                  obtain ⟨n, hn⟩ : ∃ n : Nat, row.length = n + 1 := ⟨row.length - 1, by have := HR13.out; omega⟩
                  have hn2 : n ≤ 2 := by have := HR13.out; omega
                  have hne : n < row.length := by omega
                  obtain ⟨b1, o1, c1, e, hx⟩ := (HRI.out.keep (map_drew (Below.refl _ _))).at_ hne
                  cases e
                  have HLS : Hid (row.getLastD (-1) = row[n]) := by
                    have := last_at (row := row) (by omega)
                    simp only [hn, Nat.add_sub_cancel] at this
                    exact this
                  have HIL := Lib.hid (HIN.out _ (List.getElem_mem hne))
                  generalize row[n] = last at hx HLS HIL
                  obtain ⟨t, rfl⟩ : ∃ t : Nat, last = (t : Int) := ⟨last.toNat, by have := HIL.out; omega⟩
                  have htm : t < m.sizes.length := by have := HIL.out; omega
                  obtain ⟨b2, o2, c2, e, hy⟩ := (HMS.out.keep (map_drew (Below.refl _ _))).at_ htm
                  cases e
                  have HSZ := Lib.hid (HZ.out _ (List.getElem_mem htm))
                  have HGD := Lib.hid (getD_at (l := m.sizes) 0 htm)
                  generalize m.sizes[t] = z at hy HSZ HGD
                  have HC2 := Lib.hid (And.intro f2 (And.intro f3 (And.intro hrb (And.intro hx hy))))
                  clear f1 f2 f3 hra hrb hx hy e3
                  go_loopw [8] (fun i wk => ∃ k : Nat, k ≤ table.length ∧ i = .int .i64 k ∧ belowB (table.take k) z = true ∧ Below wr.heap.size wr wk) (fun i _ => table.length - (intOf i).toNat)
                  case atStart => exact ⟨0, Nat.zero_le _, rfl, rfl, map_drew (Below.refl _ _)⟩
                  case round =>
                    obtain ⟨k, hk, rfl, hb0, hd⟩ := hrel
                    have HB9 := Lib.hid hb0
                    have HK := Lib.hid hd
                    have g2 := cell_keep hd HC2.out.1
                    have g3 := cell_keep hd HC2.out.2.1
                    have g4 := cell_keep hd HC2.out.2.2.1
                    have g5 := cell_keep hd HC2.out.2.2.2.1
                    have g6 := cell_keep hd HC2.out.2.2.2.2
                    clear hb0 hd
                    by_cases hkt : k < table.length
                    · have hkt' : (k : Int) < (table.length : Int) := by omega
                      obtain ⟨b9, o9, c9, e, hv⟩ := (HRJ.out.keep HK.out).at_ hkt
                      cases e
                      have HT := Lib.hid (belowB_step (z := z) hkt)
                      have HN := Lib.hid (belowB_no (z := z) hkt)
                      generalize table[k] = y at hv HT HN
                      obtain ⟨r, hr⟩ : ∃ r, inSize z y = r := ⟨_, rfl⟩
                      have HR := Lib.hid hr
                      have hz13 := HSZ.out
                      have htm' : (t : Int) < (m.sizes.length : Int) := by omega
                      have hw1 : IntKind.i64.wrap ((row.length : Int) - 1) = (n : Int) := by rw [IntKind.wrap_i64]; omega
                      have hw2 : IntKind.i64.wrap (z - 1) = z - 1 := by rw [IntKind.wrap_i64]; omega
                      have hnn : (n : Int) < (row.length : Int) := by omega
                      have hrl3 : (row.length : Int) ≤ 3 := by omega
                      clear hr hn
                      go_wp2_with fail
                      refine wp_region_held_drew (S := (fun w' => w'.cell? ⟨w.heap.size + 1, 0, none⟩ = some (.slice (some ⟨b2, o2, none⟩) m.sizes.length cma) ∧ w'.cell? ⟨w.heap.size + 1, 1, none⟩ = some (.slice (some ⟨b8, o8, none⟩) m.tables.length cmb) ∧ w'.cell? ⟨b8, o8 + j, none⟩ = some (.slice (some ⟨b9, o9, none⟩) table.length d8) ∧ w'.cell? ⟨b1, o1 + n, none⟩ = some (.int .i64 (t : Int)) ∧ w'.cell? ⟨b2, o2 + t, none⟩ = some (.int .i64 z) ∧ w'.cell? ⟨b9, o9 + k, none⟩ = some (.int .i64 y))) (by kernel_rfl) ?_ (fun hHeld => ?_)
                      · exact ⟨g2, g3, g4, g5, g6, hv⟩
                      refine wpAnyH_take (i := 0) (oi := _) (v := ?_) rfl (by kernel_rfl) (by kernel_rfl) (by kernel_rfl) (fun _ _ _ h => h) (Or.inl ⟨by rfl, ?_⟩) (by assumption) ?_
                      rotate_left
                      · first | (intro w' hSw; (try dsimp only at hSw); go_simp; done) | (intro w' hSw; (try dsimp only at hSw); go_simp; with_reducible rfl)
                      try simp only [Act.put, List.getElem_toArray, List.getElem_cons_zero, List.getElem_cons_succ, List.setIfInBounds_toArray, List.set_cons_zero, List.set_cons_succ]
                      refine wpAnyH_take (i := 1) (oi := _) (v := ?_) rfl (by kernel_rfl) (by kernel_rfl) (by kernel_rfl) (fun _ _ _ h => h) (Or.inl ⟨by rfl, ?_⟩) (by assumption) ?_
                      rotate_left
                      · first | (intro w' hSw; (try dsimp only at hSw); go_simp; done) | (intro w' hSw; (try dsimp only at hSw); go_simp; with_reducible rfl)
                      try simp only [Act.put, List.getElem_toArray, List.getElem_cons_zero, List.getElem_cons_succ, List.setIfInBounds_toArray, List.set_cons_zero, List.set_cons_succ]
                      refine wpAnyH_take (i := 2) (oi := _) (v := ?_) rfl (by kernel_rfl) (by kernel_rfl) (by kernel_rfl) (fun _ _ _ h => h) (Or.inl ⟨by rfl, ?_⟩) (by assumption) ?_
                      rotate_left
                      · first | (intro w' hSw; (try dsimp only at hSw); go_simp; done) | (intro w' hSw; (try dsimp only at hSw); go_simp; with_reducible rfl)
                      try simp only [Act.put, List.getElem_toArray, List.getElem_cons_zero, List.getElem_cons_succ, List.setIfInBounds_toArray, List.set_cons_zero, List.set_cons_succ]
                      refine wpAnyH_take (i := 3) (oi := _) (v := ?_) rfl (by kernel_rfl) (by kernel_rfl) (by kernel_rfl) (fun _ _ _ h => h) (Or.inl ⟨by rfl, ?_⟩) (by assumption) ?_
                      rotate_left
                      · first | (intro w' hSw; (try dsimp only at hSw); go_simp; done) | (intro w' hSw; (try dsimp only at hSw); go_simp; with_reducible rfl)
                      try simp only [Act.put, List.getElem_toArray, List.getElem_cons_zero, List.getElem_cons_succ, List.setIfInBounds_toArray, List.set_cons_zero, List.set_cons_succ]
                      refine wpAnyH_take (i := 4) (oi := _) (v := ?_) rfl (by kernel_rfl) (by kernel_rfl) (by kernel_rfl) (fun _ _ _ h => h) (Or.inl ⟨by rfl, ?_⟩) (by assumption) ?_
                      rotate_left
                      · first | (intro w' hSw; (try dsimp only at hSw); go_simp; done) | (intro w' hSw; (try dsimp only at hSw); go_simp; with_reducible rfl)
                      try simp only [Act.put, List.getElem_toArray, List.getElem_cons_zero, List.getElem_cons_succ, List.setIfInBounds_toArray, List.set_cons_zero, List.set_cons_succ]
                      refine wpAnyH_take (i := 5) (oi := _) (v := ?_) rfl (by kernel_rfl) (by kernel_rfl) (by kernel_rfl) (fun _ _ _ h => h) (Or.inl ⟨by rfl, ?_⟩) (by assumption) ?_
                      rotate_left
                      · first | (intro w' hSw; (try dsimp only at hSw); go_simp; done) | (intro w' hSw; (try dsimp only at hSw); go_simp; with_reducible rfl)
                      try simp only [Act.put, List.getElem_toArray, List.getElem_cons_zero, List.getElem_cons_succ, List.setIfInBounds_toArray, List.set_cons_zero, List.set_cons_succ]
                      refine wpAnyH_take (i := 6) (oi := _) (v := ?_) rfl (by kernel_rfl) (by kernel_rfl) (by kernel_rfl) (fun _ _ _ h => h) (Or.inl ⟨by rfl, ?_⟩) (by assumption) ?_
                      rotate_left
                      · first | (intro w' hSw; (try dsimp only at hSw); go_simp; done) | (intro w' hSw; (try dsimp only at hSw); go_simp; with_reducible rfl)
                      try simp only [Act.put, List.getElem_toArray, List.getElem_cons_zero, List.getElem_cons_succ, List.setIfInBounds_toArray, List.set_cons_zero, List.set_cons_succ]
                      refine wpAnyH_take (i := 7) (oi := _) (v := ?_) rfl (by kernel_rfl) (by kernel_rfl) (by kernel_rfl) (fun _ _ _ h => h) (Or.inl ⟨by rfl, ?_⟩) (by assumption) ?_
                      rotate_left
                      · first | (intro w' hSw; (try dsimp only at hSw); go_simp; done) | (intro w' hSw; (try dsimp only at hSw); go_simp; with_reducible rfl)
                      try simp only [Act.put, List.getElem_toArray, List.getElem_cons_zero, List.getElem_cons_succ, List.setIfInBounds_toArray, List.set_cons_zero, List.set_cons_succ]
                      refine wpAnyH_take (i := 8) (oi := _) (v := ?_) rfl (by kernel_rfl) (by kernel_rfl) (by kernel_rfl) (fun _ _ _ h => h) (Or.inl ⟨by rfl, ?_⟩) (by assumption) ?_
                      rotate_left
                      · first | (intro w' hSw; (try dsimp only at hSw); go_simp; done) | (intro w' hSw; (try dsimp only at hSw); go_simp; with_reducible rfl)
                      try simp only [Act.put, List.getElem_toArray, List.getElem_cons_zero, List.getElem_cons_succ, List.setIfInBounds_toArray, List.set_cons_zero, List.set_cons_succ]
                      refine wpAnyH_take (i := 9) (oi := _) (v := ?_) rfl (by kernel_rfl) (by kernel_rfl) (by kernel_rfl) (fun _ _ _ h => h) (Or.inl ⟨by rfl, ?_⟩) (by assumption) ?_
                      rotate_left
                      · first | (intro w' hSw; (try dsimp only at hSw); go_simp; done) | (intro w' hSw; (try dsimp only at hSw); go_simp; with_reducible rfl)
                      try simp only [Act.put, List.getElem_toArray, List.getElem_cons_zero, List.getElem_cons_succ, List.setIfInBounds_toArray, List.set_cons_zero, List.set_cons_succ]
                      refine wpAnyH_take (i := 10) (oi := _) (v := ?_) rfl (by kernel_rfl) (by kernel_rfl) (by kernel_rfl) (fun _ _ _ h => h) (Or.inl ⟨by rfl, ?_⟩) (by assumption) ?_
                      rotate_left
                      · first | (intro w' hSw; (try dsimp only at hSw); go_simp; done) | (intro w' hSw; (try dsimp only at hSw); go_simp; with_reducible rfl)
                      try simp only [Act.put, List.getElem_toArray, List.getElem_cons_zero, List.getElem_cons_succ, List.setIfInBounds_toArray, List.set_cons_zero, List.set_cons_succ]
                      refine wpAnyH_take (i := 11) (oi := _) (v := ?_) rfl (by kernel_rfl) (by kernel_rfl) (by kernel_rfl) (fun _ _ _ h => h) (Or.inl ⟨by rfl, ?_⟩) (by assumption) ?_
                      rotate_left
                      · first | (intro w' hSw; (try dsimp only at hSw); go_simp; done) | (intro w' hSw; (try dsimp only at hSw); go_simp; with_reducible rfl)
                      try simp only [Act.put, List.getElem_toArray, List.getElem_cons_zero, List.getElem_cons_succ, List.setIfInBounds_toArray, List.set_cons_zero, List.set_cons_succ]
                      refine wpAnyH_take (i := 12) (oi := _) (v := ?_) rfl (by kernel_rfl) (by kernel_rfl) (by kernel_rfl) (fun _ _ _ h => h) (Or.inl ⟨by rfl, ?_⟩) (by assumption) ?_
                      rotate_left
                      · first | (intro w' hSw; (try dsimp only at hSw); go_simp; done) | (intro w' hSw; (try dsimp only at hSw); go_simp; with_reducible rfl)
                      try simp only [Act.put, List.getElem_toArray, List.getElem_cons_zero, List.getElem_cons_succ, List.setIfInBounds_toArray, List.set_cons_zero, List.set_cons_succ]
                      refine wpAnyH_take (i := 13) (oi := _) (v := ?_) rfl (by kernel_rfl) (by kernel_rfl) (by kernel_rfl) (fun _ _ _ h => h) (Or.inl ⟨by rfl, ?_⟩) (by assumption) ?_
                      rotate_left
                      · first | (intro w' hSw; (try dsimp only at hSw); go_simp; done) | (intro w' hSw; (try dsimp only at hSw); go_simp; with_reducible rfl)
                      try simp only [Act.put, List.getElem_toArray, List.getElem_cons_zero, List.getElem_cons_succ, List.setIfInBounds_toArray, List.set_cons_zero, List.set_cons_succ]
                      refine wpAnyH_take (i := 14) (oi := _) (v := ?_) rfl (by kernel_rfl) (by kernel_rfl) (by kernel_rfl) (fun _ _ _ h => h) (Or.inl ⟨by rfl, ?_⟩) (by assumption) ?_
                      rotate_left
                      · first | (intro w' hSw; (try dsimp only at hSw); go_simp; done) | (intro w' hSw; (try dsimp only at hSw); go_simp; with_reducible rfl)
                      try simp only [Act.put, List.getElem_toArray, List.getElem_cons_zero, List.getElem_cons_succ, List.setIfInBounds_toArray, List.set_cons_zero, List.set_cons_succ]
                      refine wpAnyH_take (i := 15) (oi := _) (v := ?_) rfl (by kernel_rfl) (by kernel_rfl) (by kernel_rfl) (fun _ _ _ h => h) (Or.inl ⟨by rfl, ?_⟩) (by assumption) ?_
                      rotate_left
                      · first | (intro w' hSw; (try dsimp only at hSw); go_simp; done) | (intro w' hSw; (try dsimp only at hSw); go_simp; with_reducible rfl)
                      try simp only [Act.put, List.getElem_toArray, List.getElem_cons_zero, List.getElem_cons_succ, List.setIfInBounds_toArray, List.set_cons_zero, List.set_cons_succ]
                      refine wpAnyH_take (i := 16) (oi := _) (v := ?_) rfl (by kernel_rfl) (by kernel_rfl) (by kernel_rfl) (fun _ _ _ h => h) (Or.inl ⟨by rfl, ?_⟩) (by assumption) ?_
                      rotate_left
                      · first | (intro w' hSw; (try dsimp only at hSw); go_simp; done) | (intro w' hSw; (try dsimp only at hSw); go_simp; with_reducible rfl)
                      try simp only [Act.put, List.getElem_toArray, List.getElem_cons_zero, List.getElem_cons_succ, List.setIfInBounds_toArray, List.set_cons_zero, List.set_cons_succ]
                      refine wpAnyH_take (i := 17) (oi := _) (v := ?_) rfl (by kernel_rfl) (by kernel_rfl) (by kernel_rfl) (fun _ _ _ h => h) (Or.inl ⟨by rfl, ?_⟩) (by assumption) ?_
                      rotate_left
                      · first | (intro w' hSw; (try dsimp only at hSw); go_simp; done) | (intro w' hSw; (try dsimp only at hSw); go_simp; with_reducible rfl)
                      try simp only [Act.put, List.getElem_toArray, List.getElem_cons_zero, List.getElem_cons_succ, List.setIfInBounds_toArray, List.set_cons_zero, List.set_cons_succ]
                      refine wpAnyH_take (i := 18) (oi := _) (v := ?_) rfl (by kernel_rfl) (by kernel_rfl) (by kernel_rfl) (fun _ _ _ h => h) (Or.inl ⟨by rfl, ?_⟩) (by assumption) ?_
                      rotate_left
                      · first | (intro w' hSw; (try dsimp only at hSw); go_simp; done) | (intro w' hSw; (try dsimp only at hSw); go_simp; with_reducible rfl)
                      try simp only [Act.put, List.getElem_toArray, List.getElem_cons_zero, List.getElem_cons_succ, List.setIfInBounds_toArray, List.set_cons_zero, List.set_cons_succ]
                      refine wpAnyH_ready (rs := [19]) (by kernel_rfl) (by simp) ?_
                      refine AllReadyH.cons (o := _) rfl (fun K hK => ?_) AllReadyH.nil
                      go_simp
                      refine (l1In_is y 0 (z - 1) _ r (by rw [inSize_inB rfl]; exact HR.out)).mono ?_
                      rintro x w6 ⟨rfl, rfl⟩
                      go_wp2_with fail
                      refine hK.out _ _ ?_ (fun hHeld => ?_)
                      · exact ⟨g2, g3, g4, g5, g6, hv⟩
                      clear hK K
                      try simp only [Act.put, List.getElem_toArray, List.getElem_cons_zero, List.getElem_cons_succ, List.setIfInBounds_toArray, List.set_cons_zero, List.set_cons_succ]
                      refine wpAnyH_take (i := 20) (oi := _) (v := ?_) rfl (by kernel_rfl) (by kernel_rfl) (by kernel_rfl) (fun _ _ _ h => h) (Or.inl ⟨by rfl, ?_⟩) (by assumption) ?_
                      rotate_left
                      · first | (intro w' hSw; (try dsimp only at hSw); go_simp; done) | (intro w' hSw; (try dsimp only at hSw); go_simp; with_reducible rfl)
                      try simp only [Act.put, List.getElem_toArray, List.getElem_cons_zero, List.getElem_cons_succ, List.setIfInBounds_toArray, List.set_cons_zero, List.set_cons_succ]
                      refine wpAnyH_done (by kernel_rfl) ?_ _
                      have HX6 := Lib.hid (map_drew HK.out)
                      clear g2 g3 g4 g5 g6 hv
                      cases r with
                      | true =>
                        go_wp2
                        go_roundw
                        case rel => exact ⟨k + 1, by omega, by go_num, by rw [HT.out, HB9.out, HR.out]; rfl, HX6.out⟩
                        case measure => simp [intOf]; omega
                      | false =>
                        have HF := Lib.hid (HBAD.out (HTA.out.trans (tableB_val (by rw [HLS.out, Int.toNat_natCast, HGD.out]; exact HN.out HR.out))))
                        go_wp2
                        go_ret
                        exact ⟨ret_bool HF.out.symm, sz_keep HB.out (sz_keep HD.out HX6.out)⟩
                    · have hkn2 : k = table.length := by omega
                      have hlt2 : ¬ (k : Int) < (table.length : Int) := by omega
                      have HTT := Lib.hid (show table.take k = table from take_all (by omega))
                      rw [HTT.out] at HB9
                      have HTY := Lib.hid (tableB_yes (sizes := m.sizes) (row := row) (by rw [HQ.out]; exact HLEN.out) (by rw [HLS.out, Int.toNat_natCast, HGD.out]; exact HB9.out))
                      go_wp2
                      go_roundw
                      case rel => exact ⟨j + 1, by omega, by go_num, by rw [HSUC.out, HAL.out, HTA.out, HTY.out]; rfl, sz_keep HD.out HK.out⟩
                      case measure => simp [intOf]; omega
                · have HF := Lib.hid (HBAD.out (HTA.out.trans (tableB_len (by rw [HQ.out]; exact hlen))))
                  have e3 : ((table.length : Int) != q) = true := by simpa using hlen
                  clear hlen
                  go_wp2_with fail
                  refine wp_region_held_drew (S := (fun w' => w'.cell? ⟨w.heap.size + 1, 0, none⟩ = some (.slice Ama m.sizes.length cma) ∧ w'.cell? ⟨w.heap.size + 1, 1, none⟩ = some (.slice (some ⟨b8, o8, none⟩) m.tables.length cmb) ∧ w'.cell? ⟨b8, o8 + j, none⟩ = some (.slice A8 table.length d8))) (by kernel_rfl) ?_ (fun hHeld => ?_)
                  · exact ⟨f2, f3, hrb⟩
                  refine wpAnyH_take (i := 0) (oi := _) (v := ?_) rfl (by kernel_rfl) (by kernel_rfl) (by kernel_rfl) (fun _ _ _ h => h) (Or.inl ⟨by rfl, ?_⟩) (by assumption) ?_
                  rotate_left
                  · first | (intro w' hSw; (try dsimp only at hSw); go_simp; done) | (intro w' hSw; (try dsimp only at hSw); go_simp; with_reducible rfl)
                  try simp only [Act.put, List.getElem_toArray, List.getElem_cons_zero, List.getElem_cons_succ, List.setIfInBounds_toArray, List.set_cons_zero, List.set_cons_succ]
                  refine wpAnyH_take (i := 1) (oi := _) (v := ?_) rfl (by kernel_rfl) (by kernel_rfl) (by kernel_rfl) (fun _ _ _ h => h) (Or.inl ⟨by rfl, ?_⟩) (by assumption) ?_
                  rotate_left
                  · first | (intro w' hSw; (try dsimp only at hSw); go_simp; done) | (intro w' hSw; (try dsimp only at hSw); go_simp; with_reducible rfl)
                  try simp only [Act.put, List.getElem_toArray, List.getElem_cons_zero, List.getElem_cons_succ, List.setIfInBounds_toArray, List.set_cons_zero, List.set_cons_succ]
                  refine wpAnyH_take (i := 2) (oi := _) (v := ?_) rfl (by kernel_rfl) (by kernel_rfl) (by kernel_rfl) (fun _ _ _ h => h) (Or.inl ⟨by rfl, ?_⟩) (by assumption) ?_
                  rotate_left
                  · first | (intro w' hSw; (try dsimp only at hSw); go_simp; done) | (intro w' hSw; (try dsimp only at hSw); go_simp; with_reducible rfl)
                  try simp only [Act.put, List.getElem_toArray, List.getElem_cons_zero, List.getElem_cons_succ, List.setIfInBounds_toArray, List.set_cons_zero, List.set_cons_succ]
                  refine wpAnyH_take (i := 3) (oi := _) (v := ?_) rfl (by kernel_rfl) (by kernel_rfl) (by kernel_rfl) (fun _ _ _ h => h) (Or.inl ⟨by rfl, ?_⟩) (by assumption) ?_
                  rotate_left
                  · first | (intro w' hSw; (try dsimp only at hSw); go_simp; done) | (intro w' hSw; (try dsimp only at hSw); go_simp; with_reducible rfl)
                  try simp only [Act.put, List.getElem_toArray, List.getElem_cons_zero, List.getElem_cons_succ, List.setIfInBounds_toArray, List.set_cons_zero, List.set_cons_succ]
                  refine wpAnyH_take (i := 4) (oi := _) (v := ?_) rfl (by kernel_rfl) (by kernel_rfl) (by kernel_rfl) (fun _ _ _ h => h) (Or.inl ⟨by rfl, ?_⟩) (by assumption) ?_
                  rotate_left
                  · first | (intro w' hSw; (try dsimp only at hSw); go_simp; done) | (intro w' hSw; (try dsimp only at hSw); go_simp; with_reducible rfl)
                  try simp only [Act.put, List.getElem_toArray, List.getElem_cons_zero, List.getElem_cons_succ, List.setIfInBounds_toArray, List.set_cons_zero, List.set_cons_succ]
                  refine wpAnyH_take (i := 5) (oi := _) (v := ?_) rfl (by kernel_rfl) (by kernel_rfl) (by kernel_rfl) (fun _ _ _ h => h) (Or.inl ⟨by rfl, ?_⟩) (by assumption) ?_
                  rotate_left
                  · first | (intro w' hSw; (try dsimp only at hSw); go_simp; done) | (intro w' hSw; (try dsimp only at hSw); go_simp; with_reducible rfl)
                  try simp only [Act.put, List.getElem_toArray, List.getElem_cons_zero, List.getElem_cons_succ, List.setIfInBounds_toArray, List.set_cons_zero, List.set_cons_succ]
                  refine wpAnyH_take (i := 6) (oi := _) (v := ?_) rfl (by kernel_rfl) (by kernel_rfl) (by kernel_rfl) (fun _ _ _ h => h) (Or.inl ⟨by rfl, ?_⟩) (by assumption) ?_
                  rotate_left
                  · first | (intro w' hSw; (try dsimp only at hSw); go_simp; done) | (intro w' hSw; (try dsimp only at hSw); go_simp; with_reducible rfl)
                  try simp only [Act.put, List.getElem_toArray, List.getElem_cons_zero, List.getElem_cons_succ, List.setIfInBounds_toArray, List.set_cons_zero, List.set_cons_succ]
                  refine wpAnyH_take (i := 7) (oi := _) (v := ?_) rfl (by kernel_rfl) (by kernel_rfl) (by kernel_rfl) (fun _ _ _ h => h) (Or.inl ⟨by rfl, ?_⟩) (by assumption) ?_
                  rotate_left
                  · first | (intro w' hSw; (try dsimp only at hSw); go_simp; done) | (intro w' hSw; (try dsimp only at hSw); go_simp; with_reducible rfl)
                  try simp only [Act.put, List.getElem_toArray, List.getElem_cons_zero, List.getElem_cons_succ, List.setIfInBounds_toArray, List.set_cons_zero, List.set_cons_succ]
                  refine wpAnyH_take (i := 8) (oi := _) (v := ?_) rfl (by kernel_rfl) (by kernel_rfl) (by kernel_rfl) (fun _ _ _ h => h) (Or.inl ⟨by rfl, ?_⟩) (by assumption) ?_
                  rotate_left
                  · first | (intro w' hSw; (try dsimp only at hSw); go_simp; done) | (intro w' hSw; (try dsimp only at hSw); go_simp; with_reducible rfl)
                  try simp only [Act.put, List.getElem_toArray, List.getElem_cons_zero, List.getElem_cons_succ, List.setIfInBounds_toArray, List.set_cons_zero, List.set_cons_succ]
                  refine wpAnyH_ready (rs := [9]) (by kernel_rfl) (by simp) ?_
                  refine AllReadyH.cons (o := _) rfl (fun K hK => ?_) AllReadyH.nil
                  go_simp
                  refine (l5Rows_any m.sizes row _ _ _ (HMS.out.keep (map_drew (Below.refl _ _))) (HRI.out.keep (map_drew (Below.refl _ _))) HR13.out.1 HR13.out.2 HZ.out HIN.out hms3).mono ?_
                  rw [HQ.out]
                  rintro x w5 ⟨rfl, rfl⟩
                  go_wp2_with fail
                  refine hK.out _ _ ?_ (fun hHeld => ?_)
                  · exact ⟨f2, f3, hrb⟩
                  clear hK K
                  try simp only [Act.put, List.getElem_toArray, List.getElem_cons_zero, List.getElem_cons_succ, List.setIfInBounds_toArray, List.set_cons_zero, List.set_cons_succ]
                  refine wpAnyH_take (i := 10) (oi := _) (v := ?_) rfl (by kernel_rfl) (by kernel_rfl) (by kernel_rfl) (fun _ _ _ h => h) (Or.inl ⟨by rfl, ?_⟩) (by assumption) ?_
                  rotate_left
                  · first | (intro w' hSw; (try dsimp only at hSw); go_simp; done) | (intro w' hSw; (try dsimp only at hSw); go_simp; with_reducible rfl)
                  try simp only [Act.put, List.getElem_toArray, List.getElem_cons_zero, List.getElem_cons_succ, List.setIfInBounds_toArray, List.set_cons_zero, List.set_cons_succ]
                  refine wpAnyH_done (by kernel_rfl) ?_ _
                  clear f1 f2 f3 hra hrb
                  go_wp2
                  go_ret
                  exact ⟨ret_bool HF.out.symm, sz_keep HB.out HD2.out⟩
              · have hkn2 : j = m.tables.length := by omega
                have hlt2 : ¬ (j : Int) < (m.tables.length : Int) := by omega
                have HE := Lib.hid (model_yes HV.out HSL.out HOL.out (sizesB_iff.2 HZ.out) (by rw [← hkn2]; exact HAL.out))
                go_wp2
                clear f1 f2 f3
                go_ret
                exact ⟨ret_bool HE.out.symm, sz_keep HB.out HD.out⟩
      · have e2 : ((m.tables.length : Int) != (s.ops.length : Int)) = true := by simp; omega
        have HE := Lib.hid (model_no3 ho)
        clear ho hs
        go_enter Try.func59, Try.ntmps59
        go_wp2_with fail
        clear hW
        refine (specSigValid_any _ s _ Hs.out).mono ?_
        rw [HV.out]
        rintro e w1 ⟨rfl, hb⟩
        replace HB := Lib.hid (sz_keep HB.out hb)
        replace s0 := cell_keep hb s0
        replace s1 := cell_keep hb s1
        replace m0 := cell_keep hb m0
        replace m1 := cell_keep hb m1
        replace Hs := Lib.hid (Hs.out.keep hb)
        replace Hm := Lib.hid (Hm.out.keep hb)
        clear hb
        go_wp2
        go_ret
        exact ⟨ret_bool HE.out.symm, HB.out⟩
    · have e1 : ((m.sizes.length : Int) != s.sorts) = true := by simpa using hs
      have HE := Lib.hid (model_no2 hs)
      clear hs
      go_enter Try.func59, Try.ntmps59
      go_wp2_with fail
      clear hW
      refine (specSigValid_any _ s _ Hs.out).mono ?_
      rw [HV.out]
      rintro e w1 ⟨rfl, hb⟩
      replace HB := Lib.hid (sz_keep HB.out hb)
      replace s0 := cell_keep hb s0
      replace s1 := cell_keep hb s1
      replace m0 := cell_keep hb m0
      replace m1 := cell_keep hb m1
      replace Hs := Lib.hid (Hs.out.keep hb)
      replace Hm := Lib.hid (Hm.out.keep hb)
      clear hb
      go_wp2
      go_ret
      exact ⟨ret_bool HE.out.symm, HB.out⟩
end
end Go.Proofs.Ytbopcghbmbchkab
