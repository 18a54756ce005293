/- ModelOk of package spec: the walk. · Equality of rows, of lists of rows, of signatures (package laws). · The model of one value for each sort is a model (plain). · laws.single: the model of one value for each sort. -/
import Derived.Test.YtkhabmoidpgapaaK288f4dd8
namespace Go.Proofs.Ytkhabmoidpgapaa
section
open Go.RowKit
set_option linter.unusedVariables false
set_option linter.unusedSimpArgs false

set_option maxHeartbeats 3200000 in
set_option maxRecDepth 100000 in
theorem specModelOk_any (s : MSig) (m : MModel) (w : World) (v v' : Value) (h1 : RSig w v s) (h2 : RModel w v' m) :
    Calls Try.prog 11 #[v, v'] w fun e w' => e = .returned (.bool (modelB s m)) ∧ Below w.heap.size w w' := by
  obtain ⟨Asa, csa, rfl⟩ := h1.form
  obtain ⟨Ama, cma, Amb, cmb, rfl⟩ := h2.form
  have hb : Below w.heap.size w ((w.alloc (.cells #[.int .i64 s.sorts, .slice Asa s.ops.length csa] 25)).alloc (.cells #[.slice Ama m.sizes.length cma, .slice Amb m.tables.length cmb] 28)) := (below_alloc _ _).alloc (by simp) _
  have HB := Lib.hid hb
  have hsz : ((w.alloc (.cells #[.int .i64 s.sorts, .slice Asa s.ops.length csa] 25)).alloc (.cells #[.slice Ama m.sizes.length cma, .slice Amb m.tables.length cmb] 28)).heap.size = w.heap.size + 2 := by simp
  have Hs := Lib.hid (h1.keep hb)
  have s0 := cell_keep (below_alloc (w.alloc (.cells #[.int .i64 s.sorts, .slice Asa s.ops.length csa] 25)) (.cells #[.slice Ama m.sizes.length cma, .slice Amb m.tables.length cmb] 28)) (bx_at (w) #[.int .i64 s.sorts, .slice Asa s.ops.length csa] 25 (k := 0) rfl)
  have s1 := cell_keep (below_alloc (w.alloc (.cells #[.int .i64 s.sorts, .slice Asa s.ops.length csa] 25)) (.cells #[.slice Ama m.sizes.length cma, .slice Amb m.tables.length cmb] 28)) (bx_at (w) #[.int .i64 s.sorts, .slice Asa s.ops.length csa] 25 (k := 1) rfl)
  have Hm := Lib.hid (h2.keep hb)
  have m0 := bx_at (w.alloc (.cells #[.int .i64 s.sorts, .slice Asa s.ops.length csa] 25)) #[.slice Ama m.sizes.length cma, .slice Amb m.tables.length cmb] 28 (k := 0) rfl
  have m1 := bx_at (w.alloc (.cells #[.int .i64 s.sorts, .slice Asa s.ops.length csa] 25)) #[.slice Ama m.sizes.length cma, .slice Amb m.tables.length cmb] 28 (k := 1) rfl
  simp only [World.size_alloc] at m0 m1
  generalize hW : (w.alloc (.cells #[.int .i64 s.sorts, .slice Asa s.ops.length csa] 25)).alloc (.cells #[.slice Ama m.sizes.length cma, .slice Amb m.tables.length cmb] 28) = W at HB hsz Hs s0 s1 Hm m0 m1
  clear hb h1 h2
  have hl1 := Hs.out.of.2.len
  have hl2 := Hm.out.of.1.len
  have hl3 := Hm.out.of.2.len
  cases hv : validB s with
  | false =>
    have HV := Lib.hid hv
    have HE := Lib.hid (model_no1 (m := m) hv)
    clear hv
    go_enter Try.func11, Try.ntmps11
    go_wp2_with fail
    clear hW
    refine (specSigValid_any _ s _ Hs.out).mono ?_
    rw [HV.out]
    rintro e w1 ⟨rfl, hb⟩
    replace HB := Lib.hid (sz_keep HB.out hb)
    replace s0 := cell_keep hb s0
    replace s1 := cell_keep hb s1
    replace m0 := cell_keep hb m0
    replace m1 := cell_keep hb m1
    replace Hs := Lib.hid (Hs.out.keep hb)
    replace Hm := Lib.hid (Hm.out.keep hb)
    clear hb
    go_wp2
    go_ret
    exact ⟨ret_bool HE.out.symm, HB.out⟩
  | true =>
    have HV := Lib.hid hv
    have hsv := valid_sorts hv
    clear hv
    by_cases hs : (m.sizes.length : Int) = s.sorts
    · have e1 : ((m.sizes.length : Int) != s.sorts) = false := by simp [hs]
      have HSL := Lib.hid hs
      have hms3 : m.sizes.length ≤ 3 := by omega
      by_cases ho : m.tables.length = s.ops.length
      · have e2 : ((m.tables.length : Int) != (s.ops.length : Int)) = false := by simp [ho]
        have HOL := Lib.hid ho
        have hle : m.tables.length ≤ s.ops.length := by omega
        clear ho hs
        go_enter Try.func11, Try.ntmps11
        go_wp2_with fail
        clear hW
        refine (specSigValid_any _ s _ Hs.out).mono ?_
        rw [HV.out]
        rintro e w1 ⟨rfl, hb⟩
        replace HB := Lib.hid (sz_keep HB.out hb)
        replace s0 := cell_keep hb s0
        replace s1 := cell_keep hb s1
        replace m0 := cell_keep hb m0
        replace m1 := cell_keep hb m1
        replace Hs := Lib.hid (Hs.out.keep hb)
        replace Hm := Lib.hid (Hm.out.keep hb)
        clear hb
        have HC := Lib.hid (And.intro s0 (And.intro s1 (And.intro m0 m1)))
        go_wp2
        clear s0 s1 m0 m1
        go_loopw [5] (fun i wr => ∃ k : Nat, k ≤ m.sizes.length ∧ i = .int .i64 k ∧ sizesB (m.sizes.take k) = true ∧ Below w1.heap.size w1 wr) (fun i _ => m.sizes.length - (intOf i).toNat)
        case atStart => exact ⟨0, Nat.zero_le _, rfl, rfl, Below.refl _ _⟩
        case round =>
          obtain ⟨k, hk, rfl, hb0, hd⟩ := hrel
          have HB0 := Lib.hid hb0
          have HD := Lib.hid hd
          have f2 := cell_keep hd HC.out.2.2.1
          clear hb0 hd
          by_cases hlt : k < m.sizes.length
          · obtain ⟨b3, o3, c3, e, hx⟩ := (Hm.out.of.1.keep HD.out).at_ hlt
            cases e
            have hlt' : (k : Int) < (m.sizes.length : Int) := by omega
            have HT := Lib.hid (all_take (p := fun z => inB z 1 3) hlt)
            have HN := Lib.hid (sizesB_bad hlt)
            generalize m.sizes[k] = z at hx HT HN
            obtain ⟨r, hr⟩ : ∃ r, inB z 1 3 = r := ⟨_, rfl⟩
            have HR := Lib.hid hr
            clear hr
            go_wp2_with fail
            refine (l1In_is z 1 3 _ r HR.out).mono ?_
            rintro e w2 ⟨rfl, rfl⟩
            clear f2 hx
            cases r with
            | true =>
              go_wp2
              go_roundw
              case rel => exact ⟨k + 1, by omega, by go_num, by unfold sizesB; rw [HT.out, HR.out]; have := HB0.out; unfold sizesB at this; rw [this]; rfl, HD.out⟩
              case measure => simp [intOf]; omega
            | false =>
              have HF := Lib.hid (model_no4 (s := s) (HN.out HR.out))
              go_wp2
              go_ret
              exact ⟨ret_bool HF.out.symm, sz_keep HB.out HD.out⟩
          · have hkn : k = m.sizes.length := by omega
            have hlt' : ¬ (k : Int) < (m.sizes.length : Int) := by omega
            have HT := Lib.hid (show m.sizes.take k = m.sizes from take_all (by omega))
            rw [HT.out] at HB0
            have HZ := Lib.hid (sizesB_iff.1 HB0.out)
            go_wp2
            clear f2
            go_loopw [6, 7, 8] (fun i p q wr => ∃ k : Nat, k ≤ m.tables.length ∧ i = .int .i64 k ∧ allTab s m k = true ∧ Below w1.heap.size w1 wr) (fun i _ _ _ => m.tables.length - (intOf i).toNat)
            case atStart => exact ⟨0, Nat.zero_le _, rfl, allTab_zero _ _, HD.out⟩
            case round =>
              clear HD
              obtain ⟨j, hj, rfl, hal, hd⟩ := hrel
              have HAL := Lib.hid hal
              have HD := Lib.hid hd
              have f1 := cell_keep hd HC.out.2.1
              have f2 := cell_keep hd HC.out.2.2.1
              have f3 := cell_keep hd HC.out.2.2.2
              clear hal hd
              by_cases hjl : j < m.tables.length
              · have hjl' : (j : Int) < (m.tables.length : Int) := by omega
                have hja : j < s.ops.length := by omega
                have hja' : (j : Int) < (s.ops.length : Int) := by omega
                have hj0 : (0 : Int) ≤ (j : Int) := by omega
                obtain ⟨b7, o7, c7, u7, e, hra, hri⟩ := (Hs.out.of.2.keep HD.out).at_ hja
                cases e
                obtain ⟨b8, o8, c8, u8, e, hrb, hrj⟩ := (Hm.out.of.2.keep HD.out).at_ hjl
                cases e
                have hvr := valid_row HV.out hja
                have HIN := Lib.hid (show ∀ x ∈ s.ops[j], 0 ≤ x ∧ x < (m.sizes.length : Int) from fun y hy => by have := hvr.2.2 y hy; have := HSL.out; omega)
                have HR13 := Lib.hid (And.intro hvr.1 hvr.2.1)
                have HTA := Lib.hid (tabB_at hja hjl)
                have HBAD := Lib.hid (fun h => model_no5 (s := s) hjl h)
                have HSUC := Lib.hid (allTab_succ s m j)
                generalize s.ops[j] = row at hri hra HIN HTA HR13
                generalize m.tables[j] = table at hrj hrb HTA
                have HRI := Lib.hid hri
                have HRJ := Lib.hid hrj
                have htl := hrj.len
                obtain ⟨A7, d7, rfl, -⟩ := hri.form
                obtain ⟨A8, d8, rfl, -⟩ := hrj.form
                obtain ⟨q, hq⟩ : ∃ q, waysM (ledM m.sizes row.dropLast) = q := ⟨_, rfl⟩
                have HQ := Lib.hid hq
                clear hri hrj hvr hq
                have HMS := Lib.hid (Hm.out.of.1.keep HD.out)
                obtain ⟨w2, hw2⟩ : ∃ w2, w2 = wr.drew := ⟨_, rfl⟩
                have HD2 := Lib.hid (show Below w1.heap.size w1 wr.drew from map_drew HD.out)
                by_cases hlen : (table.length : Int) = q
                · have HLEN := Lib.hid hlen
                  have e3 : ((table.length : Int) != q) = false := by simp [hlen]
                  clear hlen
                  go_wp2_with fail
                  refine wp_region_held_drew (S := (fun w' => w'.cell? ⟨w.heap.size + 1, 0, none⟩ = some (.slice Ama m.sizes.length cma) ∧ w'.cell? ⟨w.heap.size + 1, 1, none⟩ = some (.slice (some ⟨b8, o8, none⟩) m.tables.length cmb) ∧ w'.cell? ⟨b8, o8 + j, none⟩ = some (.slice A8 table.length d8))) (by kernel_rfl) ?_ (fun hHeld => ?_)
                  · exact ⟨f2, f3, hrb⟩
                  refine wpAnyH_take (i := 0) (oi := _) (v := ?_) rfl (by kernel_rfl) (by kernel_rfl) (by kernel_rfl) (fun _ _ _ h => h) (Or.inl ⟨by rfl, ?_⟩) (by assumption) ?_
                  rotate_left
                  · first | (intro w' hSw; (try dsimp only at hSw); go_simp; done) | (intro w' hSw; (try dsimp only at hSw); go_simp; with_reducible rfl)
                  try simp only [Act.put, List.getElem_toArray, List.getElem_cons_zero, List.getElem_cons_succ, List.setIfInBounds_toArray, List.set_cons_zero, List.set_cons_succ]
                  refine wpAnyH_take (i := 1) (oi := _) (v := ?_) rfl (by kernel_rfl) (by kernel_rfl) (by kernel_rfl) (fun _ _ _ h => h) (Or.inl ⟨by rfl, ?_⟩) (by assumption) ?_
                  rotate_left
                  · first | (intro w' hSw; (try dsimp only at hSw); go_simp; done) | (intro w' hSw; (try dsimp only at hSw); go_simp; with_reducible rfl)
                  try simp only [Act.put, List.getElem_toArray, List.getElem_cons_zero, List.getElem_cons_succ, List.setIfInBounds_toArray, List.set_cons_zero, List.set_cons_succ]
                  refine wpAnyH_take (i := 2) (oi := _) (v := ?_) rfl (by kernel_rfl) (by kernel_rfl) (by kernel_rfl) (fun _ _ _ h => h) (Or.inl ⟨by rfl, ?_⟩) (by assumption) ?_
                  rotate_left
                  · first | (intro w' hSw; (try dsimp only at hSw); go_simp; done) | (intro w' hSw; (try dsimp only at hSw); go_simp; with_reducible rfl)
                  try simp only [Act.put, List.getElem_toArray, List.getElem_cons_zero, List.getElem_cons_succ, List.setIfInBounds_toArray, List.set_cons_zero, List.set_cons_succ]
                  refine wpAnyH_take (i := 3) (oi := _) (v := ?_) rfl (by kernel_rfl) (by kernel_rfl) (by kernel_rfl) (fun _ _ _ h => h) (Or.inl ⟨by rfl, ?_⟩) (by assumption) ?_
                  rotate_left
                  · first | (intro w' hSw; (try dsimp only at hSw); go_simp; done) | (intro w' hSw; (try dsimp only at hSw); go_simp; with_reducible rfl)
                  try simp only [Act.put, List.getElem_toArray, List.getElem_cons_zero, List.getElem_cons_succ, List.setIfInBounds_toArray, List.set_cons_zero, List.set_cons_succ]
                  refine wpAnyH_take (i := 4) (oi := _) (v := ?_) rfl (by kernel_rfl) (by kernel_rfl) (by kernel_rfl) (fun _ _ _ h => h) (Or.inl ⟨by rfl, ?_⟩) (by assumption) ?_
                  rotate_left
                  · first | (intro w' hSw; (try dsimp only at hSw); go_simp; done) | (intro w' hSw; (try dsimp only at hSw); go_simp; with_reducible rfl)
                  try simp only [Act.put, List.getElem_toArray, List.getElem_cons_zero, List.getElem_cons_succ, List.setIfInBounds_toArray, List.set_cons_zero, List.set_cons_succ]
                  refine wpAnyH_take (i := 5) (oi := _) (v := ?_) rfl (by kernel_rfl) (by kernel_rfl) (by kernel_rfl) (fun _ _ _ h => h) (Or.inl ⟨by rfl, ?_⟩) (by assumption) ?_
                  rotate_left
                  · first | (intro w' hSw; (try dsimp only at hSw); go_simp; done) | (intro w' hSw; (try dsimp only at hSw); go_simp; with_reducible rfl)
                  try simp only [Act.put, List.getElem_toArray, List.getElem_cons_zero, List.getElem_cons_succ, List.setIfInBounds_toArray, List.set_cons_zero, List.set_cons_succ]
                  refine wpAnyH_take (i := 6) (oi := _) (v := ?_) rfl (by kernel_rfl) (by kernel_rfl) (by kernel_rfl) (fun _ _ _ h => h) (Or.inl ⟨by rfl, ?_⟩) (by assumption) ?_
                  rotate_left
                  · first | (intro w' hSw; (try dsimp only at hSw); go_simp; done) | (intro w' hSw; (try dsimp only at hSw); go_simp; with_reducible rfl)
                  try simp only [Act.put, List.getElem_toArray, List.getElem_cons_zero, List.getElem_cons_succ, List.setIfInBounds_toArray, List.set_cons_zero, List.set_cons_succ]
                  refine wpAnyH_take (i := 7) (oi := _) (v := ?_) rfl (by kernel_rfl) (by kernel_rfl) (by kernel_rfl) (fun _ _ _ h => h) (Or.inl ⟨by rfl, ?_⟩) (by assumption) ?_
                  rotate_left
                  · first | (intro w' hSw; (try dsimp only at hSw); go_simp; done) | (intro w' hSw; (try dsimp only at hSw); go_simp; with_reducible rfl)
                  try simp only [Act.put, List.getElem_toArray, List.getElem_cons_zero, List.getElem_cons_succ, List.setIfInBounds_toArray, List.set_cons_zero, List.set_cons_succ]
                  refine wpAnyH_take (i := 8) (oi := _) (v := ?_) rfl (by kernel_rfl) (by kernel_rfl) (by kernel_rfl) (fun _ _ _ h => h) (Or.inl ⟨by rfl, ?_⟩) (by assumption) ?_
                  rotate_left
                  · first | (intro w' hSw; (try dsimp only at hSw); go_simp; done) | (intro w' hSw; (try dsimp only at hSw); go_simp; with_reducible rfl)
                  try simp only [Act.put, List.getElem_toArray, List.getElem_cons_zero, List.getElem_cons_succ, List.setIfInBounds_toArray, List.set_cons_zero, List.set_cons_succ]
                  refine wpAnyH_ready (rs := [9]) (by kernel_rfl) (by simp) ?_
                  refine AllReadyH.cons (o := _) rfl (fun K hK => ?_) AllReadyH.nil
                  go_simp
                  refine (l5Rows_any m.sizes row _ _ _ (HMS.out.keep (map_drew (Below.refl _ _))) (HRI.out.keep (map_drew (Below.refl _ _))) HR13.out.1 HR13.out.2 HZ.out HIN.out hms3).mono ?_
                  rw [HQ.out]
                  rintro x w5 ⟨rfl, rfl⟩
                  go_wp2_with fail
                  refine hK.out _ _ ?_ (fun hHeld => ?_)
                  · exact ⟨f2, f3, hrb⟩
                  clear hK K
                  try simp only [Act.put, List.getElem_toArray, List.getElem_cons_zero, List.getElem_cons_succ, List.setIfInBounds_toArray, List.set_cons_zero, List.set_cons_succ]
                  refine wpAnyH_take (i := 10) (oi := _) (v := ?_) rfl (by kernel_rfl) (by kernel_rfl) (by kernel_rfl) (fun _ _ _ h => h) (Or.inl ⟨by rfl, ?_⟩) (by assumption) ?_
                  rotate_left
                  · first | (intro w' hSw; (try dsimp only at hSw); go_simp; done) | (intro w' hSw; (try dsimp only at hSw); go_simp; with_reducible rfl)
                  try simp only [Act.put, List.getElem_toArray, List.getElem_cons_zero, List.getElem_cons_succ, List.setIfInBounds_toArray, List.set_cons_zero, List.set_cons_succ]
                  refine wpAnyH_done (by kernel_rfl) ?_ _
                  go_wp2
                  -- the values of the table
                  obtain ⟨n, hn⟩ : ∃ n : Nat, row.length = n + 1 := ⟨row.length - 1, by have := HR13.out; omega⟩
                  have hn2 : n ≤ 2 := by have := HR13.out; omega
                  have hne : n < row.length := by omega
                  obtain ⟨b1, o1, c1, e, hx⟩ := (HRI.out.keep (map_drew (Below.refl _ _))).at_ hne
                  cases e
                  have HLS : Hid (row.getLastD (-1) = row[n]) := by
                    have := last_at (row := row) (by omega)
                    simp only [hn, Nat.add_sub_cancel] at this
                    exact this
                  have HIL := Lib.hid (HIN.out _ (List.getElem_mem hne))
                  generalize row[n] = last at hx HLS HIL
                  obtain ⟨t, rfl⟩ : ∃ t : Nat, last = (t : Int) := ⟨last.toNat, by have := HIL.out; omega⟩
                  have htm : t < m.sizes.length := by have := HIL.out; omega
                  obtain ⟨b2, o2, c2, e, hy⟩ := (HMS.out.keep (map_drew (Below.refl _ _))).at_ htm
                  cases e
                  have HSZ := Lib.hid (HZ.out _ (List.getElem_mem htm))
                  have HGD := Lib.hid (getD_at (l := m.sizes) 0 htm)
                  generalize m.sizes[t] = z at hy HSZ HGD
                  have HC2 := Lib.hid (And.intro f2 (And.intro f3 (And.intro hrb (And.intro hx hy))))
                  clear f1 f2 f3 hra hrb hx hy e3
                  go_loopw [8] (fun i wk => ∃ k : Nat, k ≤ table.length ∧ i = .int .i64 k ∧ belowB (table.take k) z = true ∧ Below wr.heap.size wr wk) (fun i _ => table.length - (intOf i).toNat)
                  case atStart => exact ⟨0, Nat.zero_le _, rfl, rfl, map_drew (Below.refl _ _)⟩
                  case round =>
                    obtain ⟨k, hk, rfl, hb0, hd⟩ := hrel
                    have HB9 := Lib.hid hb0
                    have HK := Lib.hid hd
                    have g2 := cell_keep hd HC2.out.1
                    have g3 := cell_keep hd HC2.out.2.1
                    have g4 := cell_keep hd HC2.out.2.2.1
                    have g5 := cell_keep hd HC2.out.2.2.2.1
                    have g6 := cell_keep hd HC2.out.2.2.2.2
                    clear hb0 hd
                    by_cases hkt : k < table.length
                    · have hkt' : (k : Int) < (table.length : Int) := by omega
                      obtain ⟨b9, o9, c9, e, hv⟩ := (HRJ.out.keep HK.out).at_ hkt
                      cases e
                      have HT := Lib.hid (belowB_step (z := z) hkt)
                      have HN := Lib.hid (belowB_no (z := z) hkt)
                      generalize table[k] = y at hv HT HN
                      obtain ⟨r, hr⟩ : ∃ r, inSize z y = r := ⟨_, rfl⟩
                      have HR := Lib.hid hr
                      have hz13 := HSZ.out
                      have htm' : (t : Int) < (m.sizes.length : Int) := by omega
                      have hw1 : IntKind.i64.wrap ((row.length : Int) - 1) = (n : Int) := by rw [IntKind.wrap_i64]; omega
                      have hw2 : IntKind.i64.wrap (z - 1) = z - 1 := by rw [IntKind.wrap_i64]; omega
                      have hnn : (n : Int) < (row.length : Int) := by omega
                      have hrl3 : (row.length : Int) ≤ 3 := by omega
                      clear hr hn
                      go_wp2_with fail
                      refine wp_region_held_drew (S := (fun w' => w'.cell? ⟨w.heap.size + 1, 0, none⟩ = some (.slice (some ⟨b2, o2, none⟩) m.sizes.length cma) ∧ w'.cell? ⟨w.heap.size + 1, 1, none⟩ = some (.slice (some ⟨b8, o8, none⟩) m.tables.length cmb) ∧ w'.cell? ⟨b8, o8 + j, none⟩ = some (.slice (some ⟨b9, o9, none⟩) table.length d8) ∧ w'.cell? ⟨b1, o1 + n, none⟩ = some (.int .i64 (t : Int)) ∧ w'.cell? ⟨b2, o2 + t, none⟩ = some (.int .i64 z) ∧ w'.cell? ⟨b9, o9 + k, none⟩ = some (.int .i64 y))) (by kernel_rfl) ?_ (fun hHeld => ?_)
                      · exact ⟨g2, g3, g4, g5, g6, hv⟩
                      refine wpAnyH_take (i := 0) (oi := _) (v := ?_) rfl (by kernel_rfl) (by kernel_rfl) (by kernel_rfl) (fun _ _ _ h => h) (Or.inl ⟨by rfl, ?_⟩) (by assumption) ?_
                      rotate_left
                      · first | (intro w' hSw; (try dsimp only at hSw); go_simp; done) | (intro w' hSw; (try dsimp only at hSw); go_simp; with_reducible rfl)
                      try simp only [Act.put, List.getElem_toArray, List.getElem_cons_zero, List.getElem_cons_succ, List.setIfInBounds_toArray, List.set_cons_zero, List.set_cons_succ]
                      refine wpAnyH_take (i := 1) (oi := _) (v := ?_) rfl (by kernel_rfl) (by kernel_rfl) (by kernel_rfl) (fun _ _ _ h => h) (Or.inl ⟨by rfl, ?_⟩) (by assumption) ?_
                      rotate_left
                      · first | (intro w' hSw; (try dsimp only at hSw); go_simp; done) | (intro w' hSw; (try dsimp only at hSw); go_simp; with_reducible rfl)
                      try simp only [Act.put, List.getElem_toArray, List.getElem_cons_zero, List.getElem_cons_succ, List.setIfInBounds_toArray, List.set_cons_zero, List.set_cons_succ]
                      refine wpAnyH_take (i := 2) (oi := _) (v := ?_) rfl (by kernel_rfl) (by kernel_rfl) (by kernel_rfl) (fun _ _ _ h => h) (Or.inl ⟨by rfl, ?_⟩) (by assumption) ?_
                      rotate_left
                      · first | (intro w' hSw; (try dsimp only at hSw); go_simp; done) | (intro w' hSw; (try dsimp only at hSw); go_simp; with_reducible rfl)
                      try simp only [Act.put, List.getElem_toArray, List.getElem_cons_zero, List.getElem_cons_succ, List.setIfInBounds_toArray, List.set_cons_zero, List.set_cons_succ]
                      refine wpAnyH_take (i := 3) (oi := _) (v := ?_) rfl (by kernel_rfl) (by kernel_rfl) (by kernel_rfl) (fun _ _ _ h => h) (Or.inl ⟨by rfl, ?_⟩) (by assumption) ?_
                      rotate_left
                      · first | (intro w' hSw; (try dsimp only at hSw); go_simp; done) | (intro w' hSw; (try dsimp only at hSw); go_simp; with_reducible rfl)
                      try simp only [Act.put, List.getElem_toArray, List.getElem_cons_zero, List.getElem_cons_succ, List.setIfInBounds_toArray, List.set_cons_zero, List.set_cons_succ]
                      refine wpAnyH_take (i := 4) (oi := _) (v := ?_) rfl (by kernel_rfl) (by kernel_rfl) (by kernel_rfl) (fun _ _ _ h => h) (Or.inl ⟨by rfl, ?_⟩) (by assumption) ?_
                      rotate_left
                      · first | (intro w' hSw; (try dsimp only at hSw); go_simp; done) | (intro w' hSw; (try dsimp only at hSw); go_simp; with_reducible rfl)
                      try simp only [Act.put, List.getElem_toArray, List.getElem_cons_zero, List.getElem_cons_succ, List.setIfInBounds_toArray, List.set_cons_zero, List.set_cons_succ]
                      refine wpAnyH_take (i := 5) (oi := _) (v := ?_) rfl (by kernel_rfl) (by kernel_rfl) (by kernel_rfl) (fun _ _ _ h => h) (Or.inl ⟨by rfl, ?_⟩) (by assumption) ?_
                      rotate_left
                      · first | (intro w' hSw; (try dsimp only at hSw); go_simp; done) | (intro w' hSw; (try dsimp only at hSw); go_simp; with_reducible rfl)
                      try simp only [Act.put, List.getElem_toArray, List.getElem_cons_zero, List.getElem_cons_succ, List.setIfInBounds_toArray, List.set_cons_zero, List.set_cons_succ]
                      refine wpAnyH_take (i := 6) (oi := _) (v := ?_) rfl (by kernel_rfl) (by kernel_rfl) (by kernel_rfl) (fun _ _ _ h => h) (Or.inl ⟨by rfl, ?_⟩) (by assumption) ?_
                      rotate_left
                      · first | (intro w' hSw; (try dsimp only at hSw); go_simp; done) | (intro w' hSw; (try dsimp only at hSw); go_simp; with_reducible rfl)
                      try simp only [Act.put, List.getElem_toArray, List.getElem_cons_zero, List.getElem_cons_succ, List.setIfInBounds_toArray, List.set_cons_zero, List.set_cons_succ]
                      refine wpAnyH_take (i := 7) (oi := _) (v := ?_) rfl (by kernel_rfl) (by kernel_rfl) (by kernel_rfl) (fun _ _ _ h => h) (Or.inl ⟨by rfl, ?_⟩) (by assumption) ?_
                      rotate_left
                      · first | (intro w' hSw; (try dsimp only at hSw); go_simp; done) | (intro w' hSw; (try dsimp only at hSw); go_simp; with_reducible rfl)
                      try simp only [Act.put, List.getElem_toArray, List.getElem_cons_zero, List.getElem_cons_succ, List.setIfInBounds_toArray, List.set_cons_zero, List.set_cons_succ]
                      refine wpAnyH_take (i := 8) (oi := _) (v := ?_) rfl (by kernel_rfl) (by kernel_rfl) (by kernel_rfl) (fun _ _ _ h => h) (Or.inl ⟨by rfl, ?_⟩) (by assumption) ?_
                      rotate_left
                      · first | (intro w' hSw; (try dsimp only at hSw); go_simp; done) | (intro w' hSw; (try dsimp only at hSw); go_simp; with_reducible rfl)
                      try simp only [Act.put, List.getElem_toArray, List.getElem_cons_zero, List.getElem_cons_succ, List.setIfInBounds_toArray, List.set_cons_zero, List.set_cons_succ]
                      refine wpAnyH_take (i := 9) (oi := _) (v := ?_) rfl (by kernel_rfl) (by kernel_rfl) (by kernel_rfl) (fun _ _ _ h => h) (Or.inl ⟨by rfl, ?_⟩) (by assumption) ?_
                      rotate_left
                      · first | (intro w' hSw; (try dsimp only at hSw); go_simp; done) | (intro w' hSw; (try dsimp only at hSw); go_simp; with_reducible rfl)
                      try simp only [Act.put, List.getElem_toArray, List.getElem_cons_zero, List.getElem_cons_succ, List.setIfInBounds_toArray, List.set_cons_zero, List.set_cons_succ]
                      refine wpAnyH_take (i := 10) (oi := _) (v := ?_) rfl (by kernel_rfl) (by kernel_rfl) (by kernel_rfl) (fun _ _ _ h => h) (Or.inl ⟨by rfl, ?_⟩) (by assumption) ?_
                      rotate_left
                      · first | (intro w' hSw; (try dsimp only at hSw); go_simp; done) | (intro w' hSw; (try dsimp only at hSw); go_simp; with_reducible rfl)
                      try simp only [Act.put, List.getElem_toArray, List.getElem_cons_zero, List.getElem_cons_succ, List.setIfInBounds_toArray, List.set_cons_zero, List.set_cons_succ]
                      refine wpAnyH_take (i := 11) (oi := _) (v := ?_) rfl (by kernel_rfl) (by kernel_rfl) (by kernel_rfl) (fun _ _ _ h => h) (Or.inl ⟨by rfl, ?_⟩) (by assumption) ?_
                      rotate_left
                      · first | (intro w' hSw; (try dsimp only at hSw); go_simp; done) | (intro w' hSw; (try dsimp only at hSw); go_simp; with_reducible rfl)
                      try simp only [Act.put, List.getElem_toArray, List.getElem_cons_zero, List.getElem_cons_succ, List.setIfInBounds_toArray, List.set_cons_zero, List.set_cons_succ]
                      refine wpAnyH_take (i := 12) (oi := _) (v := ?_) rfl (by kernel_rfl) (by kernel_rfl) (by kernel_rfl) (fun _ _ _ h => h) (Or.inl ⟨by rfl, ?_⟩) (by assumption) ?_
                      rotate_left
                      · first | (intro w' hSw; (try dsimp only at hSw); go_simp; done) | (intro w' hSw; (try dsimp only at hSw); go_simp; with_reducible rfl)
                      try simp only [Act.put, List.getElem_toArray, List.getElem_cons_zero, List.getElem_cons_succ, List.setIfInBounds_toArray, List.set_cons_zero, List.set_cons_succ]
                      refine wpAnyH_take (i := 13) (oi := _) (v := ?_) rfl (by kernel_rfl) (by kernel_rfl) (by kernel_rfl) (fun _ _ _ h => h) (Or.inl ⟨by rfl, ?_⟩) (by assumption) ?_
                      rotate_left
                      · first | (intro w' hSw; (try dsimp only at hSw); go_simp; done) | (intro w' hSw; (try dsimp only at hSw); go_simp; with_reducible rfl)
                      try simp only [Act.put, List.getElem_toArray, List.getElem_cons_zero, List.getElem_cons_succ, List.setIfInBounds_toArray, List.set_cons_zero, List.set_cons_succ]
                      refine wpAnyH_take (i := 14) (oi := _) (v := ?_) rfl (by kernel_rfl) (by kernel_rfl) (by kernel_rfl) (fun _ _ _ h => h) (Or.inl ⟨by rfl, ?_⟩) (by assumption) ?_
                      rotate_left
                      · first | (intro w' hSw; (try dsimp only at hSw); go_simp; done) | (intro w' hSw; (try dsimp only at hSw); go_simp; with_reducible rfl)
                      try simp only [Act.put, List.getElem_toArray, List.getElem_cons_zero, List.getElem_cons_succ, List.setIfInBounds_toArray, List.set_cons_zero, List.set_cons_succ]
                      refine wpAnyH_take (i := 15) (oi := _) (v := ?_) rfl (by kernel_rfl) (by kernel_rfl) (by kernel_rfl) (fun _ _ _ h => h) (Or.inl ⟨by rfl, ?_⟩) (by assumption) ?_
                      rotate_left
                      · first | (intro w' hSw; (try dsimp only at hSw); go_simp; done) | (intro w' hSw; (try dsimp only at hSw); go_simp; with_reducible rfl)
                      try simp only [Act.put, List.getElem_toArray, List.getElem_cons_zero, List.getElem_cons_succ, List.setIfInBounds_toArray, List.set_cons_zero, List.set_cons_succ]
                      refine wpAnyH_take (i := 16) (oi := _) (v := ?_) rfl (by kernel_rfl) (by kernel_rfl) (by kernel_rfl) (fun _ _ _ h => h) (Or.inl ⟨by rfl, ?_⟩) (by assumption) ?_
                      rotate_left
                      · first | (intro w' hSw; (try dsimp only at hSw); go_simp; done) | (intro w' hSw; (try dsimp only at hSw); go_simp; with_reducible rfl)
                      try simp only [Act.put, List.getElem_toArray, List.getElem_cons_zero, List.getElem_cons_succ, List.setIfInBounds_toArray, List.set_cons_zero, List.set_cons_succ]
                      refine wpAnyH_take (i := 17) (oi := _) (v := ?_) rfl (by kernel_rfl) (by kernel_rfl) (by kernel_rfl) (fun _ _ _ h => h) (Or.inl ⟨by rfl, ?_⟩) (by assumption) ?_
                      rotate_left
                      · first | (intro w' hSw; (try dsimp only at hSw); go_simp; done) | (intro w' hSw; (try dsimp only at hSw); go_simp; with_reducible rfl)
                      try simp only [Act.put, List.getElem_toArray, List.getElem_cons_zero, List.getElem_cons_succ, List.setIfInBounds_toArray, List.set_cons_zero, List.set_cons_succ]
                      refine wpAnyH_take (i := 18) (oi := _) (v := ?_) rfl (by kernel_rfl) (by kernel_rfl) (by kernel_rfl) (fun _ _ _ h => h) (Or.inl ⟨by rfl, ?_⟩) (by assumption) ?_
                      rotate_left
                      · first | (intro w' hSw; (try dsimp only at hSw); go_simp; done) | (intro w' hSw; (try dsimp only at hSw); go_simp; with_reducible rfl)
                      try simp only [Act.put, List.getElem_toArray, List.getElem_cons_zero, List.getElem_cons_succ, List.setIfInBounds_toArray, List.set_cons_zero, List.set_cons_succ]
                      refine wpAnyH_ready (rs := [19]) (by kernel_rfl) (by simp) ?_
                      refine AllReadyH.cons (o := _) rfl (fun K hK => ?_) AllReadyH.nil
                      go_simp
                      refine (l1In_is y 0 (z - 1) _ r (by rw [inSize_inB rfl]; exact HR.out)).mono ?_
                      rintro x w6 ⟨rfl, rfl⟩
                      go_wp2_with fail
                      refine hK.out _ _ ?_ (fun hHeld => ?_)
                      · exact ⟨g2, g3, g4, g5, g6, hv⟩
                      clear hK K
                      try simp only [Act.put, List.getElem_toArray, List.getElem_cons_zero, List.getElem_cons_succ, List.setIfInBounds_toArray, List.set_cons_zero, List.set_cons_succ]
                      refine wpAnyH_take (i := 20) (oi := _) (v := ?_) rfl (by kernel_rfl) (by kernel_rfl) (by kernel_rfl) (fun _ _ _ h => h) (Or.inl ⟨by rfl, ?_⟩) (by assumption) ?_
                      rotate_left
                      · first | (intro w' hSw; (try dsimp only at hSw); go_simp; done) | (intro w' hSw; (try dsimp only at hSw); go_simp; with_reducible rfl)
                      try simp only [Act.put, List.getElem_toArray, List.getElem_cons_zero, List.getElem_cons_succ, List.setIfInBounds_toArray, List.set_cons_zero, List.set_cons_succ]
                      refine wpAnyH_done (by kernel_rfl) ?_ _
                      have HX6 := Lib.hid (map_drew HK.out)
                      clear g2 g3 g4 g5 g6 hv
                      cases r with
                      | true =>
                        go_wp2
                        go_roundw
                        case rel => exact ⟨k + 1, by omega, by go_num, by rw [HT.out, HB9.out, HR.out]; rfl, HX6.out⟩
                        case measure => simp [intOf]; omega
                      | false =>
                        have HF := Lib.hid (HBAD.out (HTA.out.trans (tableB_val (by rw [HLS.out, Int.toNat_natCast, HGD.out]; exact HN.out HR.out))))
                        go_wp2
                        go_ret
                        exact ⟨ret_bool HF.out.symm, sz_keep HB.out (sz_keep HD.out HX6.out)⟩
                    · have hkn2 : k = table.length := by omega
                      have hlt2 : ¬ (k : Int) < (table.length : Int) := by omega
                      have HTT := Lib.hid (show table.take k = table from take_all (by omega))
                      rw [HTT.out] at HB9
                      have HTY := Lib.hid (tableB_yes (sizes := m.sizes) (row := row) (by rw [HQ.out]; exact HLEN.out) (by rw [HLS.out, Int.toNat_natCast, HGD.out]; exact HB9.out))
                      go_wp2
                      go_roundw
                      case rel => exact ⟨j + 1, by omega, by go_num, by rw [HSUC.out, HAL.out, HTA.out, HTY.out]; rfl, sz_keep HD.out HK.out⟩
                      case measure => simp [intOf]; omega
                · have HF := Lib.hid (HBAD.out (HTA.out.trans (tableB_len (by rw [HQ.out]; exact hlen))))
                  have e3 : ((table.length : Int) != q) = true := by simpa using hlen
                  clear hlen
                  go_wp2_with fail
                  refine wp_region_held_drew (S := (fun w' => w'.cell? ⟨w.heap.size + 1, 0, none⟩ = some (.slice Ama m.sizes.length cma) ∧ w'.cell? ⟨w.heap.size + 1, 1, none⟩ = some (.slice (some ⟨b8, o8, none⟩) m.tables.length cmb) ∧ w'.cell? ⟨b8, o8 + j, none⟩ = some (.slice A8 table.length d8))) (by kernel_rfl) ?_ (fun hHeld => ?_)
                  · exact ⟨f2, f3, hrb⟩
                  refine wpAnyH_take (i := 0) (oi := _) (v := ?_) rfl (by kernel_rfl) (by kernel_rfl) (by kernel_rfl) (fun _ _ _ h => h) (Or.inl ⟨by rfl, ?_⟩) (by assumption) ?_
                  rotate_left
                  · first | (intro w' hSw; (try dsimp only at hSw); go_simp; done) | (intro w' hSw; (try dsimp only at hSw); go_simp; with_reducible rfl)
                  try simp only [Act.put, List.getElem_toArray, List.getElem_cons_zero, List.getElem_cons_succ, List.setIfInBounds_toArray, List.set_cons_zero, List.set_cons_succ]
                  refine wpAnyH_take (i := 1) (oi := _) (v := ?_) rfl (by kernel_rfl) (by kernel_rfl) (by kernel_rfl) (fun _ _ _ h => h) (Or.inl ⟨by rfl, ?_⟩) (by assumption) ?_
                  rotate_left
                  · first | (intro w' hSw; (try dsimp only at hSw); go_simp; done) | (intro w' hSw; (try dsimp only at hSw); go_simp; with_reducible rfl)
                  try simp only [Act.put, List.getElem_toArray, List.getElem_cons_zero, List.getElem_cons_succ, List.setIfInBounds_toArray, List.set_cons_zero, List.set_cons_succ]
                  refine wpAnyH_take (i := 2) (oi := _) (v := ?_) rfl (by kernel_rfl) (by kernel_rfl) (by kernel_rfl) (fun _ _ _ h => h) (Or.inl ⟨by rfl, ?_⟩) (by assumption) ?_
                  rotate_left
                  · first | (intro w' hSw; (try dsimp only at hSw); go_simp; done) | (intro w' hSw; (try dsimp only at hSw); go_simp; with_reducible rfl)
                  try simp only [Act.put, List.getElem_toArray, List.getElem_cons_zero, List.getElem_cons_succ, List.setIfInBounds_toArray, List.set_cons_zero, List.set_cons_succ]
                  refine wpAnyH_take (i := 3) (oi := _) (v := ?_) rfl (by kernel_rfl) (by kernel_rfl) (by kernel_rfl) (fun _ _ _ h => h) (Or.inl ⟨by rfl, ?_⟩) (by assumption) ?_
                  rotate_left
                  · first | (intro w' hSw; (try dsimp only at hSw); go_simp; done) | (intro w' hSw; (try dsimp only at hSw); go_simp; with_reducible rfl)
                  try simp only [Act.put, List.getElem_toArray, List.getElem_cons_zero, List.getElem_cons_succ, List.setIfInBounds_toArray, List.set_cons_zero, List.set_cons_succ]
                  refine wpAnyH_take (i := 4) (oi := _) (v := ?_) rfl (by kernel_rfl) (by kernel_rfl) (by kernel_rfl) (fun _ _ _ h => h) (Or.inl ⟨by rfl, ?_⟩) (by assumption) ?_
                  rotate_left
                  · first | (intro w' hSw; (try dsimp only at hSw); go_simp; done) | (intro w' hSw; (try dsimp only at hSw); go_simp; with_reducible rfl)
                  try simp only [Act.put, List.getElem_toArray, List.getElem_cons_zero, List.getElem_cons_succ, List.setIfInBounds_toArray, List.set_cons_zero, List.set_cons_succ]
                  refine wpAnyH_take (i := 5) (oi := _) (v := ?_) rfl (by kernel_rfl) (by kernel_rfl) (by kernel_rfl) (fun _ _ _ h => h) (Or.inl ⟨by rfl, ?_⟩) (by assumption) ?_
                  rotate_left
                  · first | (intro w' hSw; (try dsimp only at hSw); go_simp; done) | (intro w' hSw; (try dsimp only at hSw); go_simp; with_reducible rfl)
                  try simp only [Act.put, List.getElem_toArray, List.getElem_cons_zero, List.getElem_cons_succ, List.setIfInBounds_toArray, List.set_cons_zero, List.set_cons_succ]
                  refine wpAnyH_take (i := 6) (oi := _) (v := ?_) rfl (by kernel_rfl) (by kernel_rfl) (by kernel_rfl) (fun _ _ _ h => h) (Or.inl ⟨by rfl, ?_⟩) (by assumption) ?_
                  rotate_left
                  · first | (intro w' hSw; (try dsimp only at hSw); go_simp; done) | (intro w' hSw; (try dsimp only at hSw); go_simp; with_reducible rfl)
                  try simp only [Act.put, List.getElem_toArray, List.getElem_cons_zero, List.getElem_cons_succ, List.setIfInBounds_toArray, List.set_cons_zero, List.set_cons_succ]
                  refine wpAnyH_take (i := 7) (oi := _) (v := ?_) rfl (by kernel_rfl) (by kernel_rfl) (by kernel_rfl) (fun _ _ _ h => h) (Or.inl ⟨by rfl, ?_⟩) (by assumption) ?_
                  rotate_left
                  · first | (intro w' hSw; (try dsimp only at hSw); go_simp; done) | (intro w' hSw; (try dsimp only at hSw); go_simp; with_reducible rfl)
                  try simp only [Act.put, List.getElem_toArray, List.getElem_cons_zero, List.getElem_cons_succ, List.setIfInBounds_toArray, List.set_cons_zero, List.set_cons_succ]
                  refine wpAnyH_take (i := 8) (oi := _) (v := ?_) rfl (by kernel_rfl) (by kernel_rfl) (by kernel_rfl) (fun _ _ _ h => h) (Or.inl ⟨by rfl, ?_⟩) (by assumption) ?_
                  rotate_left
                  · first | (intro w' hSw; (try dsimp only at hSw); go_simp; done) | (intro w' hSw; (try dsimp only at hSw); go_simp; with_reducible rfl)
                  try simp only [Act.put, List.getElem_toArray, List.getElem_cons_zero, List.getElem_cons_succ, List.setIfInBounds_toArray, List.set_cons_zero, List.set_cons_succ]
                  refine wpAnyH_ready (rs := [9]) (by kernel_rfl) (by simp) ?_
                  refine AllReadyH.cons (o := _) rfl (fun K hK => ?_) AllReadyH.nil
                  go_simp
                  refine (l5Rows_any m.sizes row _ _ _ (HMS.out.keep (map_drew (Below.refl _ _))) (HRI.out.keep (map_drew (Below.refl _ _))) HR13.out.1 HR13.out.2 HZ.out HIN.out hms3).mono ?_
                  rw [HQ.out]
                  rintro x w5 ⟨rfl, rfl⟩
                  go_wp2_with fail
                  refine hK.out _ _ ?_ (fun hHeld => ?_)
                  · exact ⟨f2, f3, hrb⟩
                  clear hK K
                  try simp only [Act.put, List.getElem_toArray, List.getElem_cons_zero, List.getElem_cons_succ, List.setIfInBounds_toArray, List.set_cons_zero, List.set_cons_succ]
                  refine wpAnyH_take (i := 10) (oi := _) (v := ?_) rfl (by kernel_rfl) (by kernel_rfl) (by kernel_rfl) (fun _ _ _ h => h) (Or.inl ⟨by rfl, ?_⟩) (by assumption) ?_
                  rotate_left
                  · first | (intro w' hSw; (try dsimp only at hSw); go_simp; done) | (intro w' hSw; (try dsimp only at hSw); go_simp; with_reducible rfl)
                  try simp only [Act.put, List.getElem_toArray, List.getElem_cons_zero, List.getElem_cons_succ, List.setIfInBounds_toArray, List.set_cons_zero, List.set_cons_succ]
                  refine wpAnyH_done (by kernel_rfl) ?_ _
                  clear f1 f2 f3 hra hrb
                  go_wp2
                  go_ret
                  exact ⟨ret_bool HF.out.symm, sz_keep HB.out HD2.out⟩
              · have hkn2 : j = m.tables.length := by omega
                have hlt2 : ¬ (j : Int) < (m.tables.length : Int) := by omega
                have HE := Lib.hid (model_yes HV.out HSL.out HOL.out (sizesB_iff.2 HZ.out) (by rw [← hkn2]; exact HAL.out))
                go_wp2
                clear f1 f2 f3
                go_ret
                exact ⟨ret_bool HE.out.symm, sz_keep HB.out HD.out⟩
      · have e2 : ((m.tables.length : Int) != (s.ops.length : Int)) = true := by simp; omega
        have HE := Lib.hid (model_no3 ho)
        clear ho hs
        go_enter Try.func11, Try.ntmps11
        go_wp2_with fail
        clear hW
        refine (specSigValid_any _ s _ Hs.out).mono ?_
        rw [HV.out]
        rintro e w1 ⟨rfl, hb⟩
        replace HB := Lib.hid (sz_keep HB.out hb)
        replace s0 := cell_keep hb s0
        replace s1 := cell_keep hb s1
        replace m0 := cell_keep hb m0
        replace m1 := cell_keep hb m1
        replace Hs := Lib.hid (Hs.out.keep hb)
        replace Hm := Lib.hid (Hm.out.keep hb)
        clear hb
        go_wp2
        go_ret
        exact ⟨ret_bool HE.out.symm, HB.out⟩
    · have e1 : ((m.sizes.length : Int) != s.sorts) = true := by simpa using hs
      have HE := Lib.hid (model_no2 hs)
      clear hs
      go_enter Try.func11, Try.ntmps11
      go_wp2_with fail
      clear hW
      refine (specSigValid_any _ s _ Hs.out).mono ?_
      rw [HV.out]
      rintro e w1 ⟨rfl, hb⟩
      replace HB := Lib.hid (sz_keep HB.out hb)
      replace s0 := cell_keep hb s0
      replace s1 := cell_keep hb s1
      replace m0 := cell_keep hb m0
      replace m1 := cell_keep hb m1
      replace Hs := Lib.hid (Hs.out.keep hb)
      replace Hm := Lib.hid (Hm.out.keep hb)
      clear hb
      go_wp2
      go_ret
      exact ⟨ret_bool HE.out.symm, HB.out⟩
end

section
open Go.RowKit
set_option linter.unusedVariables false

theorem sameInts_any (v v' : Value) (xs ys : List Int) (w : World) (h : RInts w v xs) (h' : RInts w v' ys) :
    Calls Try.prog 22 #[v, v'] w fun e w' => e = .returned (.bool (sameI xs ys)) ∧ Drawn w w' := by
  have H := Lib.hid h
  have H' := Lib.hid h'
  have hn := h.len
  have hn' := h'.len
  obtain ⟨A, c, rfl, -⟩ := h.form
  obtain ⟨A', c', rfl, -⟩ := h'.form
  clear h h'
  by_cases hl : xs.length = ys.length
  · have hl' : ((xs.length : Int) != (ys.length : Int)) = false := by simp [hl]
    have HL := Lib.hid hl
    have hle : xs.length ≤ ys.length := by omega
    have hge : ys.length ≤ xs.length := by omega
    clear hl
    go_enter Try.func22, Try.ntmps22
    go_wp2
    go_loopw [5] (fun i wr => ∃ k : Nat, k ≤ xs.length ∧ i = .int .i64 k ∧ xs.take k = ys.take k ∧ Drawn w wr) (fun i _ => xs.length - (intOf i).toNat)
    case atStart => exact ⟨0, Nat.zero_le _, rfl, rfl, Drawn.refl _⟩
    case round =>
      obtain ⟨k, hk, rfl, hb0, hd⟩ := hrel
      have hb := Lib.hid hb0
      have HD := Lib.hid hd
      clear hb0 hd
      by_cases hlt : k < xs.length
      · obtain ⟨b, o, c3, e, hx⟩ := (H.out.keep HD.out.below).at_ hlt
        cases e
        obtain ⟨b', o', c4, e, hy⟩ := (H'.out.keep HD.out.below).at_ (show k < ys.length by omega)
        cases e
        have hs1 : (k : Int) < (xs.length : Int) := by omega
        have hs2 : (k : Int) < (ys.length : Int) := by omega
        have HT := Lib.hid (take_succ_eq hlt (show k < ys.length by omega) hb.out)
        have HN := Lib.hid (ne_of_at hlt (show k < ys.length by omega))
        generalize xs[k] = x at hx HT HN
        generalize ys[k]'(by omega) = y at hy HT HN
        by_cases hxy : x = y
        · subst hxy
          have e1 : (x != x) = false := by simp
          have e2 : (x == x) = true := by simp
          go_wp2_with fail
          go_quiet (fail)
          go_wp2
          go_roundw
          case rel => exact ⟨k + 1, by omega, by go_num, HT.out (by simp), HD.out.more _⟩
          case measure => simp [intOf]; omega
        · have e1 : (x != y) = true := by simpa using hxy
          have e2 : (x == y) = false := by simpa using hxy
          have HXY := Lib.hid hxy
          clear hxy
          go_wp2_with fail
          go_quiet (fail)
          go_wp2
          go_ret
          exact ⟨ret_bool (by unfold sameI; simpa using (HN.out HXY.out)), HD.out.more _⟩
      · go_wp2
        go_ret
        have h := hb.out
        rw [take_all (by omega), take_all (by omega)] at h
        exact ⟨ret_bool (by unfold sameI; simpa using h), HD.out⟩
  · have hl' : ((xs.length : Int) != (ys.length : Int)) = true := by simp; omega
    have HL := Lib.hid hl
    clear hl
    go_enter Try.func22, Try.ntmps22
    go_wp2
    go_ret
    exact ⟨ret_bool (by unfold sameI; simp; rintro rfl; exact HL.out rfl), Drawn.refl _⟩

theorem sameInts_is (v v' : Value) (xs ys : List Int) (w : World) (b : Bool) (hb : sameI xs ys = b) (h : RInts w v xs) (h' : RInts w v' ys) :
    Calls Try.prog 22 #[v, v'] w fun e w' => e = .returned (.bool b) ∧ Drawn w w' := by
  subst hb; exact sameInts_any v v' xs ys w h h'
end

section
open Go.RowKit

def singleM (s : MSig) : MModel := ⟨List.replicate s.sorts.toNat 1, List.replicate s.ops.length [0]⟩
theorem ways_ones : ∀ {zs : List Int}, (∀ z ∈ zs, z = 1) → waysM zs = 1
  | [], _ => rfl
  | z :: zs, h => by
    show z * waysM zs = 1
    rw [h z (List.mem_cons_self ..), ways_ones (fun x hx => h x (List.mem_cons_of_mem _ hx))]; rfl
theorem led_ones {n : Nat} {row : List Int} (h : ∀ x ∈ row, 0 ≤ x ∧ x < (n : Int) ∧ x < 100) : ∀ z ∈ ledM (List.replicate n 1) row, z = 1 := by
  intro z hz
  unfold ledM at hz
  obtain ⟨x, hx, rfl⟩ := List.mem_map.1 hz
  obtain ⟨h0, h1, h2⟩ := h x hx
  rw [if_pos h2, getD_at _ (show x.toNat < (List.replicate n (1 : Int)).length by rw [List.length_replicate]; omega), List.getElem_replicate]
theorem single_model {s : MSig} : modelB s (singleM s) = validB s := by
  cases hv : validB s with
  | false => exact model_no1 hv
  | true =>
    obtain ⟨h1, h2, h3⟩ := valid_sorts hv
    refine facts_model ⟨hv, by simp [singleM]; omega, by simp [singleM], fun z hz => ?_, fun k hk => ?_⟩
    · rw [show (singleM s).sizes = List.replicate s.sorts.toNat 1 from rfl] at hz
      rw [(List.mem_replicate.1 hz).2]; omega
    · obtain ⟨r1, r2, r3⟩ := opRow_valid hv hk
      have e : (singleM s).tables.getD k [] = [0] := by
        show (List.replicate s.ops.length [0]).getD k [] = [0]
        rw [getD_at _ (by simpa using hk), List.getElem_replicate]
      rw [e]
      unfold tableB belowB
      have hl : 0 ≤ (opRow s k).getLastD (-1) ∧ (opRow s k).getLastD (-1) < s.sorts := by
        have : (opRow s k).getLastD (-1) ∈ opRow s k := by
          rw [last_at (row := opRow s k) (by omega)]; exact List.getElem_mem _
        exact r3 _ this
      have e2 : (singleM s).sizes.getD ((opRow s k).getLastD (-1)).toNat 0 = 1 := by
        show (List.replicate s.sorts.toNat (1 : Int)).getD _ 0 = 1
        rw [getD_at _ (show ((opRow s k).getLastD (-1)).toNat < (List.replicate s.sorts.toNat (1 : Int)).length by rw [List.length_replicate]; omega), List.getElem_replicate]
      rw [e2]
      have e3 : waysM (ledM (singleM s).sizes (opRow s k).dropLast) = 1 := ways_ones (led_ones fun x hx => by have := r3 x (List.mem_of_mem_dropLast' hx); omega)
      rw [e3]
      decide
end

section
open Go.RowKit
set_option linter.unusedVariables false
set_option linter.unusedSimpArgs false

theorem rep_succ {α : Type} (n : Nat) (x : α) : List.replicate (n + 1) x = List.replicate n x ++ [x] := List.replicate_succ'

set_option maxHeartbeats 3200000 in
set_option maxRecDepth 100000 in
theorem single_any (s : MSig) (w : World) (v : Value) (h1 : RSig w v s) (h0 : 0 ≤ s.sorts) (hs1 : s.sorts ≤ 1000) (hs2 : s.ops.length ≤ 1000) :
    Calls Try.prog 12 #[v] w fun e w' => ∃ u, e = .returned u ∧ OModel w' w.heap.size u (singleM s) ∧ Below w.heap.size w w' := by
  obtain ⟨i0, hi0, hz0, hz1, hz2⟩ := info_parts Try.info_int
  obtain ⟨i1, hj, hy0, hy1, hy2⟩ := info_parts Try.info_ints
  obtain ⟨Asa, csa, rfl⟩ := h1.form
  have hb : Below w.heap.size w ((w.alloc (.cells #[.int .i64 s.sorts, .slice Asa s.ops.length csa] 25)).alloc (.cells #[.slice none 0 0, .slice none 0 0] 28)) := (below_alloc _ _).alloc (by simp) _
  have HB := Lib.hid hb
  have hsz : ((w.alloc (.cells #[.int .i64 s.sorts, .slice Asa s.ops.length csa] 25)).alloc (.cells #[.slice none 0 0, .slice none 0 0] 28)).heap.size = w.heap.size + 2 := by simp
  have Hs := Lib.hid (h1.keep hb)
  have s0 := cell_keep (below_alloc (w.alloc (.cells #[.int .i64 s.sorts, .slice Asa s.ops.length csa] 25)) (.cells #[.slice none 0 0, .slice none 0 0] 28)) (bx_at (w) #[.int .i64 s.sorts, .slice Asa s.ops.length csa] 25 (k := 0) rfl)
  have s1 := cell_keep (below_alloc (w.alloc (.cells #[.int .i64 s.sorts, .slice Asa s.ops.length csa] 25)) (.cells #[.slice none 0 0, .slice none 0 0] 28)) (bx_at (w) #[.int .i64 s.sorts, .slice Asa s.ops.length csa] 25 (k := 1) rfl)
  have HZr := Lib.hid (show ((w.alloc (.cells #[.int .i64 s.sorts, .slice Asa s.ops.length csa] 25)).alloc (.cells #[.slice none 0 0, .slice none 0 0] 28)).heap[w.heap.size + 1]? = some (.cells #[.slice none 0 0, .slice none 0 0] 28 (0, 0)) from (congrArg (fun i => ((w.alloc (.cells #[.int .i64 s.sorts, .slice Asa s.ops.length csa] 25)).alloc (.cells #[.slice none 0 0, .slice none 0 0] 28)).heap[i]?) (by simp)).trans (heap_alloc_new (w.alloc (.cells #[.int .i64 s.sorts, .slice Asa s.ops.length csa] 25)) _))
  generalize hW : (w.alloc (.cells #[.int .i64 s.sorts, .slice Asa s.ops.length csa] 25)).alloc (.cells #[.slice none 0 0, .slice none 0 0] 28) = W at HB hsz Hs s0 s1 HZr
  clear hb h1
  have hb3 := below_alloc W (.cells #[.slice none 0 0, .slice none 0 0] 28)
  have hl3 : (W.alloc (.cells #[.slice none 0 0, .slice none 0 0] 28)).heap[W.heap.size]? = some (.cells #[.slice none 0 0, .slice none 0 0] 28 (0, 0)) := heap_alloc_new W _
  generalize hW3 : W.alloc (.cells #[.slice none 0 0, .slice none 0 0] 28) = W3 at hb3 hl3
  have hl4 : ((W3.setCell ⟨W.heap.size, 0, none⟩ (.slice none 0 0)).setCell ⟨W.heap.size, 1, none⟩ (.slice none 0 0)).heap[W.heap.size]? = some (.cells #[.slice none 0 0, .slice none 0 0] 28 (0, 0)) := blk_set (blk_set hl3 0 (.slice none 0 0)) 1 (.slice none 0 0)
  have hb4 : Below W.heap.size W ((W3.setCell ⟨W.heap.size, 0, none⟩ (.slice none 0 0)).setCell ⟨W.heap.size, 1, none⟩ (.slice none 0 0)) := (hb3.setCell (p := ⟨W.heap.size, 0, none⟩) (Nat.le_refl _) _).setCell (p := ⟨W.heap.size, 1, none⟩) (Nat.le_refl _) _
  have j0 := blk_cell hl3 0
  have j1 := blk_cell hl3 1
  have jf0 := blk_free hl3 0
  have jf1 := blk_free hl3 1
  simp at j0 j1
  have HWS := Lib.hid hsz
  clear hsz
  generalize hW4 : (W3.setCell ⟨W.heap.size, 0, none⟩ (.slice none 0 0)).setCell ⟨W.heap.size, 1, none⟩ (.slice none 0 0) = W4 at hl4 hb4
  have HL4 := Lib.hid hl4
  have HB4 := Lib.hid hb4
  have hlt4 : W.heap.size < W4.heap.size := (Array.getElem?_eq_some_iff.1 HL4.out).1
  have HC0 := Lib.hid (And.intro s0 s1)
  clear hb3 hl3 hl4 hb4
  go_enter Try.func12, Try.ntmps12
  go_wp2
  clear hW hW3 hW4 j0 j1 jf0 jf1 s0 s1
  go_loopw [4] (fun i wr => ∃ k : Nat, ∃ u, (k : Int) ≤ s.sorts ∧ i = .int .i64 k ∧ Loc 28 W4 wr W.heap.size #[u, .slice none 0 0] u (List.replicate k 1)) (fun i _ => s.sorts.toNat - (intOf i).toNat)
  case atStart => exact ⟨0, _, h0, rfl, Loc.start HL4.out⟩
  case round =>
    obtain ⟨k, u, hk, rfl, hloc⟩ := hrel
    have HLOC := Lib.hid hloc
    have HBW := Lib.hid (hloc.below HB4.out (Nat.le_refl _))
    obtain ⟨Au, cu, rfl, -⟩ := own_reads hloc.own
    have s0 := cell_keep HBW.out HC0.out.1
    have s1 := cell_keep HBW.out HC0.out.2
    clear hloc
    by_cases hlt : (k : Int) < s.sorts
    · have hs3 := HLOC.out.gr.size
      have HLEN := Lib.hid (List.length_replicate (n := k) (a := (1 : Int)))
      have HSUC := Lib.hid (rep_succ k (1 : Int))
      have l0 := blk_cell HLOC.out.loc 0
      simp only [List.getElem?_toArray, List.getElem?_cons_zero] at l0
      generalize List.replicate k (1 : Int) = ps at HLOC HLEN HSUC l0 hs3
      clear s0 s1
      have s0 := cell_keep HBW.out HC0.out.1
      go_wp2_with (at_builtin; refine wpList_append_own _ rfl _ _ 26 rfl W4.heap.size 3 i0 (.int .i64 0) 1 8 Try.underlying26 hi0 hz0 hz1 hz2 rfl (by decide) _ ps.length (ps.map (Value.int .i64)) rfl (own_keep HLOC.out.own (below_alloc wr _)) ⟨wr.heap.size, 0, none⟩ 1 1 ([(1 : Int)].map (Value.int .i64)) rfl (by simp) (led_new wr (1 : Int)) (ints_one _) (by rw [HLEN.out, maxLen_eq]; omega) (by rw [HLEN.out]; omega) (by simp; omega) ?_)
      intro v6 w6 hv6 hg6 _
      have HO6 := Lib.hid (led_app (rs := [(1 : Int)]) rfl hv6)
      obtain ⟨A6, c6, rfl, -⟩ := own_reads hv6
      have HN := Lib.hid (HLOC.out.push (cs' := #[.slice A6 (ps.length + 1) c6, .slice none 0 0]) hg6 HO6.out 0 rfl)
      have hl6 := HLOC.out.grown hg6
      have q0 := blk_cell hl6 0
      have qf := blk_free hl6 0
      simp at q0
      clear hv6 hg6 hl6 l0 s0
      go_wp2
      go_roundw
      case rel => exact ⟨k + 1, _, by omega, by go_num, by rw [HSUC.out]; exact HN.out⟩
      case measure => simp [intOf]; omega
    · obtain ⟨wz, rfl⟩ : ∃ wz : World, wz = wr := ⟨_, rfl⟩
      have HKS := Lib.hid (show s.sorts.toNat = k by omega)
      have OU := Lib.hid HLOC.out.own
      have HLZ := Lib.hid HLOC.out.loc
      have HBZ := Lib.hid HBW.out
      have HUB := Lib.hid (fun k e => (own_lt HLOC.out.own k e).2)
      have hz4 := HLOC.out.gr.size
      go_wp2
      clear s0 s1 HBW HLOC
      go_loopw [5] (fun i wr => ∃ j : Nat, ∃ u, j ≤ s.ops.length ∧ i = .int .i64 j ∧ LocR 28 wz wr W.heap.size #[.slice Au (List.replicate k (1 : Int)).length cu, u] u (List.replicate j [0])) (fun i _ => s.ops.length - (intOf i).toNat)
      case atStart => exact ⟨0, _, Nat.zero_le _, rfl, LocR.start HLZ.out⟩
      case round =>
        obtain ⟨j, u, hjl, rfl, hloc⟩ := hrel
        have HLOC := Lib.hid hloc
        have HBW := Lib.hid (hloc.below HBZ.out (Nat.le_refl _))
        obtain ⟨us, q1, q2, q3, q4⟩ := hloc.own
        obtain ⟨Av, cv, rfl, -⟩ := own_reads q1
        have HU1 := Lib.hid q1
        have HU2 := Lib.hid q2
        have HU3 := Lib.hid q3
        have HU4 := Lib.hid q4
        have s0 := cell_keep HBW.out HC0.out.1
        have s1 := cell_keep HBW.out HC0.out.2
        clear hloc q1 q2 q3 q4
        by_cases hlt2 : j < s.ops.length
        · have hlt3 : (j : Int) < (s.ops.length : Int) := by omega
          have hs3 := HLOC.out.gr.size
          have HLEN := Lib.hid (List.length_replicate (n := j) (a := [(0 : Int)]))
          have HSUC := Lib.hid (rep_succ j [(0 : Int)])
          have l0 := blk_cell HLOC.out.loc 1
          simp only [List.getElem?_toArray, List.getElem?_cons_zero, List.getElem?_cons_succ] at l0
          generalize List.replicate j [(0 : Int)] = ps at HLOC HLEN HSUC l0 HU1 HU2 HU3
          have HROW := Lib.hid (show OInts (wr.alloc (.cells #[.int .i64 0] 3)) wr.heap.size (.slice (some ⟨wr.heap.size, 0, none⟩) 1 1) [0] from World.ownsRow_lit wr #[.int .i64 0] 1 (Nat.le_refl _) (by unfold maxLen; omega) rfl)
          have hownU := (HU1.out.alloc (.cells #[.int .i64 0] 3)).alloc (.cells #[.slice (some ⟨wr.heap.size, 0, none⟩) 1 1] 26)
          have f3 : ((wr.alloc (.cells #[.int .i64 0] 3)).alloc (.cells #[.slice (some ⟨wr.heap.size, 0, none⟩) 1 1] 26)).cell? ⟨wr.heap.size + 1, 0, none⟩ = some (.slice (some ⟨wr.heap.size, 0, none⟩) 1 1) := by
            rw [World.cell?_alloc_at _ _ _ _ (by simp)]; rfl
          clear s0
          go_wp2_with (at_builtin; refine wpList_append_own _ rfl _ _ 23 rfl wz.heap.size 26 i1 (.slice none 0 0) 1 24 Try.underlying23 hj hy0 hy1 hy2 rfl (by decide) _ _ _ rfl hownU ⟨wr.heap.size + 1, 0, none⟩ 1 1 [.slice (some ⟨wr.heap.size, 0, none⟩) 1 1] rfl rfl ?c1 ?c2 ?c3 ?c4 ?c5 ?_)
          any_goals first
            | exact new_one f3
            | (rw [HLEN.out]; unfold maxLen; omega)
            | (rw [HLEN.out]; omega)
            | (simp; omega)
            | (intro u hu; simp at hu; subst hu; rfl)
            | rfl
          intro v7 w7 hv7 hg7 _
          obtain ⟨A7, c7, rfl, -⟩ := own_reads hv7
          obtain ⟨hp, hl7⟩ := HLOC.out.push (cs' := #[.slice Au (List.replicate k (1 : Int)).length cu, .slice A7 (ps.length + 1) c7]) (below_alloc wr (.cells #[.int .i64 0] 3)) HROW.out HU1.out HU2.out HU3.out HU4.out hv7 hg7 1 rfl
          have HN := Lib.hid hp
          have q0 := blk_cell hl7 1
          have qf := blk_free hl7 1
          simp at q0
          clear hv7 hg7 hp hl7 l0 f3 hownU s1
          go_wp2
          go_roundw
          case rel => exact ⟨j + 1, _, by omega, by go_num, by rw [HSUC.out]; exact HN.out⟩
          case measure => simp [intOf]; omega
        · have hlt3 : ¬ (j : Int) < (s.ops.length : Int) := by omega
          have HE := Lib.hid (show singleM s = ⟨List.replicate k 1, List.replicate j [0]⟩ by unfold singleM; rw [HKS.out, show s.ops.length = j by omega])
          have OU2 := Lib.hid (HLOC.out.other OU.out (own_not OU.out HLZ.out (by decide)))
          have OV := Lib.hid HLOC.out.own
          have hbw : Below w.heap.size w wr := sz_keep HB.out HBW.out
          have hres := blk_held HZr.out HBW.out
          have t0 := blk_cell hres 0
          have t1 := blk_cell hres 1
          have tf0 := blk_free hres 0
          have tf1 := blk_free hres 1
          simp at t0 t1
          have l0 := blk_cell HLOC.out.loc 0
          have l1 := blk_cell HLOC.out.loc 1
          simp only [List.getElem?_toArray, List.getElem?_cons_zero, List.getElem?_cons_succ] at l0 l1
          have hw1 := HWS.out
          have d1 := blk_set (blk_set hres 0 (.slice Au (List.replicate k (1 : Int)).length cu)) 1 (.slice Av (List.replicate j [(0 : Int)]).length cv)
          have n0 := ((OU2.out.setLow (b := w.heap.size + 1) (by omega) 0 (.slice Au (List.replicate k (1 : Int)).length cu)).setLow (b := w.heap.size + 1) (by omega) 1 (.slice Av (List.replicate j [(0 : Int)]).length cv))
          have n1 := ((OV.out.setLow' (b := w.heap.size + 1) (by omega) 0 (.slice Au (List.replicate k (1 : Int)).length cu)).setLow' (b := w.heap.size + 1) (by omega) 1 (.slice Av (List.replicate j [(0 : Int)]).length cv))
          have hbz := ((hbw.setCell (p := ⟨w.heap.size + 1, 0, none⟩) (by show w.heap.size ≤ w.heap.size + 1; omega) (.slice Au (List.replicate k (1 : Int)).length cu)).setCell (p := ⟨w.heap.size + 1, 1, none⟩) (by show w.heap.size ≤ w.heap.size + 1; omega) (.slice Av (List.replicate j [(0 : Int)]).length cv))
          have HD := Lib.hid (And.intro d1 (And.intro n0 (And.intro n1 hbz)))
          clear d1 n0 n1 hbz hres hbw hw1
          generalize (List.replicate k (1 : Int)) = zs at HD HE l0 l1 OU2 OV HUB HLOC
          generalize (List.replicate j [(0 : Int)]) = rows at HD HE l0 l1 OV HLOC
          go_wp2
          obtain ⟨d1, n0, n1, hbz⟩ := HD.out
          generalize (wr.setCell ⟨w.heap.size + 1, 0, none⟩ (.slice Au zs.length cu)).setCell ⟨w.heap.size + 1, 1, none⟩ (.slice Av rows.length cv) = w9 at d1 hbz n0 n1 ⊢
          have k0 := blk_cell d1 0
          have k1 := blk_cell d1 1
          simp at k0 k1
          clear t0 t1 tf0 tf1 l0 l1 s0 s1
          refine bodyPost_ret (v := .agg #[.slice Au zs.length cu, .slice Av rows.length cv]) (by simp [results, Try.results12, go_sem, k0, k1]) rfl ?_
          exact ⟨_, rfl, by rw [HE.out]; exact ⟨_, _, rfl, n0.base (by have := HWS.out; omega), wz.heap.size, by have := HWS.out; omega, HUB.out, n1⟩, hbz⟩
end
end Go.Proofs.Ytkhabmoidpgapaa
