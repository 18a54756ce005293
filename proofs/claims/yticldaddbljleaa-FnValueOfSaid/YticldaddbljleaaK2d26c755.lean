/- ModelOk of package spec: the walk. · What is kept while l20Into fills a local map and a local signature. No walk. · How a term that was read lies in memory: a letter, or an operation with a slice of terms. No walk. · firstTerm and opWithTerms: a row is read as a term. By induction on a number that bounds the row's length. -/
import Derived.Test.YticldaddbljleaaKdb1d92a9
import Derived.Maps.AppendAt
import Derived.Deep.AppendLies
namespace Go.Proofs.Yticldaddbljleaa
section
open Go.RowKit
set_option linter.unusedVariables false
set_option linter.unusedSimpArgs false

set_option maxHeartbeats 3200000 in
set_option maxRecDepth 100000 in
theorem specModelOk_any (s : MSig) (m : MModel) (w : World) (v v' : Value) (h1 : RSig w v s) (h2 : RModel w v' m) :
    Calls Try.prog 89 #[v, v'] w fun e w' => e = .returned (.bool (modelB s m)) ∧ Below w.heap.size w w' := by
  obtain ⟨Asa, csa, rfl⟩ := h1.form
  obtain ⟨Ama, cma, Amb, cmb, rfl⟩ := h2.form
  have hb : Below w.heap.size w ((w.alloc (.cells #[.int .i64 s.sorts, .slice Asa s.ops.length csa] 25)).alloc (.cells #[.slice Ama m.sizes.length cma, .slice Amb m.tables.length cmb] 28)) := (below_alloc _ _).alloc (by simp) _
  have HB := Lib.hid hb
  have hsz : ((w.alloc (.cells #[.int .i64 s.sorts, .slice Asa s.ops.length csa] 25)).alloc (.cells #[.slice Ama m.sizes.length cma, .slice Amb m.tables.length cmb] 28)).heap.size = w.heap.size + 2 := by simp
  have Hs := Lib.hid (h1.keep hb)
  have s0 := cell_keep (below_alloc (w.alloc (.cells #[.int .i64 s.sorts, .slice Asa s.ops.length csa] 25)) (.cells #[.slice Ama m.sizes.length cma, .slice Amb m.tables.length cmb] 28)) (bx_at (w) #[.int .i64 s.sorts, .slice Asa s.ops.length csa] 25 (k := 0) rfl)
  have s1 := cell_keep (below_alloc (w.alloc (.cells #[.int .i64 s.sorts, .slice Asa s.ops.length csa] 25)) (.cells #[.slice Ama m.sizes.length cma, .slice Amb m.tables.length cmb] 28)) (bx_at (w) #[.int .i64 s.sorts, .slice Asa s.ops.length csa] 25 (k := 1) rfl)
  have Hm := Lib.hid (h2.keep hb)
  have m0 := bx_at (w.alloc (.cells #[.int .i64 s.sorts, .slice Asa s.ops.length csa] 25)) #[.slice Ama m.sizes.length cma, .slice Amb m.tables.length cmb] 28 (k := 0) rfl
  have m1 := bx_at (w.alloc (.cells #[.int .i64 s.sorts, .slice Asa s.ops.length csa] 25)) #[.slice Ama m.sizes.length cma, .slice Amb m.tables.length cmb] 28 (k := 1) rfl
  simp only [World.size_alloc] at m0 m1
  generalize hW : (w.alloc (.cells #[.int .i64 s.sorts, .slice Asa s.ops.length csa] 25)).alloc (.cells #[.slice Ama m.sizes.length cma, .slice Amb m.tables.length cmb] 28) = W at HB hsz Hs s0 s1 Hm m0 m1
  clear hb h1 h2
  have hl1 := Hs.out.of.2.len
  have hl2 := Hm.out.of.1.len
  have hl3 := Hm.out.of.2.len
  cases hv : validB s with
  | false =>
    have HV := Lib.hid hv
    have HE := Lib.hid (model_no1 (m := m) hv)
    clear hv
    go_enter Try.func89, Try.ntmps89
    go_wp2_with fail
    clear hW
    refine (specSigValid_any _ s _ Hs.out).mono ?_
    rw [HV.out]
    rintro e w1 ⟨rfl, hb⟩
    replace HB := Lib.hid (sz_keep HB.out hb)
    replace s0 := cell_keep hb s0
    replace s1 := cell_keep hb s1
    replace m0 := cell_keep hb m0
    replace m1 := cell_keep hb m1
    replace Hs := Lib.hid (Hs.out.keep hb)
    replace Hm := Lib.hid (Hm.out.keep hb)
    clear hb
    go_wp2
    go_ret
    exact ⟨ret_bool HE.out.symm, HB.out⟩
  | true =>
    have HV := Lib.hid hv
    have hsv := valid_sorts hv
    clear hv
    by_cases hs : (m.sizes.length : Int) = s.sorts
    · have e1 : ((m.sizes.length : Int) != s.sorts) = false := by simp [hs]
      have HSL := Lib.hid hs
      have hms3 : m.sizes.length ≤ 3 := by omega
      by_cases ho : m.tables.length = s.ops.length
      · have e2 : ((m.tables.length : Int) != (s.ops.length : Int)) = false := by simp [ho]
        have HOL := Lib.hid ho
        have hle : m.tables.length ≤ s.ops.length := by omega
        clear ho hs
        go_enter Try.func89, Try.ntmps89
        go_wp2_with fail
        clear hW
        refine (specSigValid_any _ s _ Hs.out).mono ?_
        rw [HV.out]
        rintro e w1 ⟨rfl, hb⟩
        replace HB := Lib.hid (sz_keep HB.out hb)
        replace s0 := cell_keep hb s0
        replace s1 := cell_keep hb s1
        replace m0 := cell_keep hb m0
        replace m1 := cell_keep hb m1
        replace Hs := Lib.hid (Hs.out.keep hb)
        replace Hm := Lib.hid (Hm.out.keep hb)
        clear hb
        have HC := Lib.hid (And.intro s0 (And.intro s1 (And.intro m0 m1)))
        go_wp2
        clear s0 s1 m0 m1
        go_loopw [5] (fun i wr => ∃ k : Nat, k ≤ m.sizes.length ∧ i = .int .i64 k ∧ sizesB (m.sizes.take k) = true ∧ Below w1.heap.size w1 wr) (fun i _ => m.sizes.length - (intOf i).toNat)
        case atStart => exact ⟨0, Nat.zero_le _, rfl, rfl, Below.refl _ _⟩
        case round =>
          obtain ⟨k, hk, rfl, hb0, hd⟩ := hrel
          have HB0 := Lib.hid hb0
          have HD := Lib.hid hd
          have f2 := cell_keep hd HC.out.2.2.1
          clear hb0 hd
          by_cases hlt : k < m.sizes.length
          · obtain ⟨b3, o3, c3, e, hx⟩ := (Hm.out.of.1.keep HD.out).at_ hlt
            cases e
            have hlt' : (k : Int) < (m.sizes.length : Int) := by omega
            have HT := Lib.hid (all_take (p := fun z => inB z 1 3) hlt)
            have HN := Lib.hid (sizesB_bad hlt)
            generalize m.sizes[k] = z at hx HT HN
            obtain ⟨r, hr⟩ : ∃ r, inB z 1 3 = r := ⟨_, rfl⟩
            have HR := Lib.hid hr
            clear hr
            go_wp2_with fail
            refine (l1In_is z 1 3 _ r HR.out).mono ?_
            rintro e w2 ⟨rfl, rfl⟩
            clear f2 hx
            cases r with
            | true =>
              go_wp2
              go_roundw
              case rel => exact ⟨k + 1, by omega, by go_num, by unfold sizesB; rw [HT.out, HR.out]; have := HB0.out; unfold sizesB at this; rw [this]; rfl, HD.out⟩
              case measure => simp [intOf]; omega
            | false =>
              have HF := Lib.hid (model_no4 (s := s) (HN.out HR.out))
              go_wp2
              go_ret
              exact ⟨ret_bool HF.out.symm, sz_keep HB.out HD.out⟩
          · have hkn : k = m.sizes.length := by omega
            have hlt' : ¬ (k : Int) < (m.sizes.length : Int) := by omega
            have HT := Lib.hid (show m.sizes.take k = m.sizes from take_all (by omega))
            rw [HT.out] at HB0
            have HZ := Lib.hid (sizesB_iff.1 HB0.out)
            go_wp2
            clear f2
            go_loopw [6, 7, 8] (fun i p q wr => ∃ k : Nat, k ≤ m.tables.length ∧ i = .int .i64 k ∧ allTab s m k = true ∧ Below w1.heap.size w1 wr) (fun i _ _ _ => m.tables.length - (intOf i).toNat)
            case atStart => exact ⟨0, Nat.zero_le _, rfl, allTab_zero _ _, HD.out⟩
            case round =>
              clear HD
              obtain ⟨j, hj, rfl, hal, hd⟩ := hrel
              have HAL := Lib.hid hal
              have HD := Lib.hid hd
              have f1 := cell_keep hd HC.out.2.1
              have f2 := cell_keep hd HC.out.2.2.1
              have f3 := cell_keep hd HC.out.2.2.2
              clear hal hd
              by_cases hjl : j < m.tables.length
              · have hjl' : (j : Int) < (m.tables.length : Int) := by omega
                have hja : j < s.ops.length := by omega
                have hja' : (j : Int) < (s.ops.length : Int) := by omega
                have hj0 : (0 : Int) ≤ (j : Int) := by omega
                obtain ⟨b7, o7, c7, u7, e, hra, hri⟩ := (Hs.out.of.2.keep HD.out).at_ hja
                cases e
                obtain ⟨b8, o8, c8, u8, e, hrb, hrj⟩ := (Hm.out.of.2.keep HD.out).at_ hjl
                cases e
                have hvr := valid_row HV.out hja
                have HIN := Lib.hid (show ∀ x ∈ s.ops[j], 0 ≤ x ∧ x < (m.sizes.length : Int) from fun y hy => by have := hvr.2.2 y hy; have := HSL.out; omega)
                have HR13 := Lib.hid (And.intro hvr.1 hvr.2.1)
                have HTA := Lib.hid (tabB_at hja hjl)
                have HBAD := Lib.hid (fun h => model_no5 (s := s) hjl h)
                have HSUC := Lib.hid (allTab_succ s m j)
                generalize s.ops[j] = row at hri hra HIN HTA HR13
                generalize m.tables[j] = table at hrj hrb HTA
                have HRI := Lib.hid hri
                have HRJ := Lib.hid hrj
                have htl := hrj.len
                obtain ⟨A7, d7, rfl, -⟩ := hri.form
                obtain ⟨A8, d8, rfl, -⟩ := hrj.form
                obtain ⟨q, hq⟩ : ∃ q, waysM (ledM m.sizes row.dropLast) = q := ⟨_, rfl⟩
                have HQ := Lib.hid hq
                clear hri hrj hvr hq
                have HMS := Lib.hid (Hm.out.of.1.keep HD.out)
                obtain ⟨w2, hw2⟩ : ∃ w2, w2 = wr.drew := ⟨_, rfl⟩
                have HD2 := Lib.hid (show Below w1.heap.size w1 wr.drew from map_drew HD.out)
                by_cases hlen : (table.length : Int) = q
                · have HLEN := Lib.hid hlen
                  have e3 : ((table.length : Int) != q) = false := by simp [hlen]
                  clear hlen
                  go_wp2_with fail
                  refine wp_region_held_drew (S := (fun w' => w'.cell? ⟨w.heap.size + 1, 0, none⟩ = some (.slice Ama m.sizes.length cma) ∧ w'.cell? ⟨w.heap.size + 1, 1, none⟩ = some (.slice (some ⟨b8, o8, none⟩) m.tables.length cmb) ∧ w'.cell? ⟨b8, o8 + j, none⟩ = some (.slice A8 table.length d8))) (by kernel_rfl) ?_ (fun hHeld => ?_)
                  · exact ⟨f2, f3, hrb⟩
                  refine wpAnyH_take (i := 0) (oi := _) (v := ?_) rfl (by kernel_rfl) (by kernel_rfl) (by kernel_rfl) (fun _ _ _ h => h) (Or.inl ⟨by rfl, ?_⟩) (by assumption) ?_
                  rotate_left
                  · first | (intro w' hSw; (try dsimp only at hSw); go_simp; done) | (intro w' hSw; (try dsimp only at hSw); go_simp; with_reducible rfl)
                  try simp only [Act.put, List.getElem_toArray, List.getElem_cons_zero, List.getElem_cons_succ, List.setIfInBounds_toArray, List.set_cons_zero, List.set_cons_succ]
                  refine wpAnyH_take (i := 1) (oi := _) (v := ?_) rfl (by kernel_rfl) (by kernel_rfl) (by kernel_rfl) (fun _ _ _ h => h) (Or.inl ⟨by rfl, ?_⟩) (by assumption) ?_
                  rotate_left
                  · first | (intro w' hSw; (try dsimp only at hSw); go_simp; done) | (intro w' hSw; (try dsimp only at hSw); go_simp; with_reducible rfl)
                  try simp only [Act.put, List.getElem_toArray, List.getElem_cons_zero, List.getElem_cons_succ, List.setIfInBounds_toArray, List.set_cons_zero, List.set_cons_succ]
                  refine wpAnyH_take (i := 2) (oi := _) (v := ?_) rfl (by kernel_rfl) (by kernel_rfl) (by kernel_rfl) (fun _ _ _ h => h) (Or.inl ⟨by rfl, ?_⟩) (by assumption) ?_
                  rotate_left
                  · first | (intro w' hSw; (try dsimp only at hSw); go_simp; done) | (intro w' hSw; (try dsimp only at hSw); go_simp; with_reducible rfl)
                  try simp only [Act.put, List.getElem_toArray, List.getElem_cons_zero, List.getElem_cons_succ, List.setIfInBounds_toArray, List.set_cons_zero, List.set_cons_succ]
                  refine wpAnyH_take (i := 3) (oi := _) (v := ?_) rfl (by kernel_rfl) (by kernel_rfl) (by kernel_rfl) (fun _ _ _ h => h) (Or.inl ⟨by rfl, ?_⟩) (by assumption) ?_
                  rotate_left
                  · first | (intro w' hSw; (try dsimp only at hSw); go_simp; done) | (intro w' hSw; (try dsimp only at hSw); go_simp; with_reducible rfl)
                  try simp only [Act.put, List.getElem_toArray, List.getElem_cons_zero, List.getElem_cons_succ, List.setIfInBounds_toArray, List.set_cons_zero, List.set_cons_succ]
                  refine wpAnyH_take (i := 4) (oi := _) (v := ?_) rfl (by kernel_rfl) (by kernel_rfl) (by kernel_rfl) (fun _ _ _ h => h) (Or.inl ⟨by rfl, ?_⟩) (by assumption) ?_
                  rotate_left
                  · first | (intro w' hSw; (try dsimp only at hSw); go_simp; done) | (intro w' hSw; (try dsimp only at hSw); go_simp; with_reducible rfl)
                  try simp only [Act.put, List.getElem_toArray, List.getElem_cons_zero, List.getElem_cons_succ, List.setIfInBounds_toArray, List.set_cons_zero, List.set_cons_succ]
                  refine wpAnyH_take (i := 5) (oi := _) (v := ?_) rfl (by kernel_rfl) (by kernel_rfl) (by kernel_rfl) (fun _ _ _ h => h) (Or.inl ⟨by rfl, ?_⟩) (by assumption) ?_
                  rotate_left
                  · first | (intro w' hSw; (try dsimp only at hSw); go_simp; done) | (intro w' hSw; (try dsimp only at hSw); go_simp; with_reducible rfl)
                  try simp only [Act.put, List.getElem_toArray, List.getElem_cons_zero, List.getElem_cons_succ, List.setIfInBounds_toArray, List.set_cons_zero, List.set_cons_succ]
                  refine wpAnyH_take (i := 6) (oi := _) (v := ?_) rfl (by kernel_rfl) (by kernel_rfl) (by kernel_rfl) (fun _ _ _ h => h) (Or.inl ⟨by rfl, ?_⟩) (by assumption) ?_
                  rotate_left
                  · first | (intro w' hSw; (try dsimp only at hSw); go_simp; done) | (intro w' hSw; (try dsimp only at hSw); go_simp; with_reducible rfl)
                  try simp only [Act.put, List.getElem_toArray, List.getElem_cons_zero, List.getElem_cons_succ, List.setIfInBounds_toArray, List.set_cons_zero, List.set_cons_succ]
                  refine wpAnyH_take (i := 7) (oi := _) (v := ?_) rfl (by kernel_rfl) (by kernel_rfl) (by kernel_rfl) (fun _ _ _ h => h) (Or.inl ⟨by rfl, ?_⟩) (by assumption) ?_
                  rotate_left
                  · first | (intro w' hSw; (try dsimp only at hSw); go_simp; done) | (intro w' hSw; (try dsimp only at hSw); go_simp; with_reducible rfl)
                  try simp only [Act.put, List.getElem_toArray, List.getElem_cons_zero, List.getElem_cons_succ, List.setIfInBounds_toArray, List.set_cons_zero, List.set_cons_succ]
                  refine wpAnyH_take (i := 8) (oi := _) (v := ?_) rfl (by kernel_rfl) (by kernel_rfl) (by kernel_rfl) (fun _ _ _ h => h) (Or.inl ⟨by rfl, ?_⟩) (by assumption) ?_
                  rotate_left
                  · first | (intro w' hSw; (try dsimp only at hSw); go_simp; done) | (intro w' hSw; (try dsimp only at hSw); go_simp; with_reducible rfl)
                  try simp only [Act.put, List.getElem_toArray, List.getElem_cons_zero, List.getElem_cons_succ, List.setIfInBounds_toArray, List.set_cons_zero, List.set_cons_succ]
                  refine wpAnyH_ready (rs := [9]) (by kernel_rfl) (by simp) ?_
                  refine AllReadyH.cons (o := _) rfl (fun K hK => ?_) AllReadyH.nil
                  go_simp
                  refine (l5Rows_any m.sizes row _ _ _ (HMS.out.keep (map_drew (Below.refl _ _))) (HRI.out.keep (map_drew (Below.refl _ _))) HR13.out.1 HR13.out.2 HZ.out HIN.out hms3).mono ?_
                  rw [HQ.out]
                  rintro x w5 ⟨rfl, rfl⟩
                  go_wp2_with fail
                  refine hK.out _ _ ?_ (fun hHeld => ?_)
                  · exact ⟨f2, f3, hrb⟩
                  clear hK K
                  try simp only [Act.put, List.getElem_toArray, List.getElem_cons_zero, List.getElem_cons_succ, List.setIfInBounds_toArray, List.set_cons_zero, List.set_cons_succ]
                  refine wpAnyH_take (i := 10) (oi := _) (v := ?_) rfl (by kernel_rfl) (by kernel_rfl) (by kernel_rfl) (fun _ _ _ h => h) (Or.inl ⟨by rfl, ?_⟩) (by assumption) ?_
                  rotate_left
                  · first | (intro w' hSw; (try dsimp only at hSw); go_simp; done) | (intro w' hSw; (try dsimp only at hSw); go_simp; with_reducible rfl)
                  try simp only [Act.put, List.getElem_toArray, List.getElem_cons_zero, List.getElem_cons_succ, List.setIfInBounds_toArray, List.set_cons_zero, List.set_cons_succ]
                  refine wpAnyH_done (by kernel_rfl) ?_ _
                  go_wp2
                  -- the values of the table
                  obtain ⟨n, hn⟩ : ∃ n : Nat, row.length = n + 1 := ⟨row.length - 1, by have := HR13.out; omega⟩
                  have hn2 : n ≤ 2 := by have := HR13.out; omega
                  have hne : n < row.length := by omega
                  obtain ⟨b1, o1, c1, e, hx⟩ := (HRI.out.keep (map_drew (Below.refl _ _))).at_ hne
                  cases e
                  have HLS : Hid (row.getLastD (-1) = row[n]) := by
                    have := last_at (row := row) (by omega)
                    simp only [hn, Nat.add_sub_cancel] at this
                    exact this
                  have HIL := Lib.hid (HIN.out _ (List.getElem_mem hne))
                  generalize row[n] = last at hx HLS HIL
                  obtain ⟨t, rfl⟩ : ∃ t : Nat, last = (t : Int) := ⟨last.toNat, by have := HIL.out; omega⟩
                  have htm : t < m.sizes.length := by have := HIL.out; omega
                  obtain ⟨b2, o2, c2, e, hy⟩ := (HMS.out.keep (map_drew (Below.refl _ _))).at_ htm
                  cases e
                  have HSZ := Lib.hid (HZ.out _ (List.getElem_mem htm))
                  have HGD := Lib.hid (getD_at (l := m.sizes) 0 htm)
                  generalize m.sizes[t] = z at hy HSZ HGD
                  have HC2 := Lib.hid (And.intro f2 (And.intro f3 (And.intro hrb (And.intro hx hy))))
                  clear f1 f2 f3 hra hrb hx hy e3
                  go_loopw [8] (fun i wk => ∃ k : Nat, k ≤ table.length ∧ i = .int .i64 k ∧ belowB (table.take k) z = true ∧ Below wr.heap.size wr wk) (fun i _ => table.length - (intOf i).toNat)
                  case atStart => exact ⟨0, Nat.zero_le _, rfl, rfl, map_drew (Below.refl _ _)⟩
                  case round =>
                    obtain ⟨k, hk, rfl, hb0, hd⟩ := hrel
                    have HB9 := Lib.hid hb0
                    have HK := Lib.hid hd
                    have g2 := cell_keep hd HC2.out.1
                    have g3 := cell_keep hd HC2.out.2.1
                    have g4 := cell_keep hd HC2.out.2.2.1
                    have g5 := cell_keep hd HC2.out.2.2.2.1
                    have g6 := cell_keep hd HC2.out.2.2.2.2
                    clear hb0 hd
                    by_cases hkt : k < table.length
                    · have hkt' : (k : Int) < (table.length : Int) := by omega
                      obtain ⟨b9, o9, c9, e, hv⟩ := (HRJ.out.keep HK.out).at_ hkt
                      cases e
                      have HT := Lib.hid (belowB_step (z := z) hkt)
                      have HN := Lib.hid (belowB_no (z := z) hkt)
                      generalize table[k] = y at hv HT HN
                      obtain ⟨r, hr⟩ : ∃ r, inSize z y = r := ⟨_, rfl⟩
                      have HR := Lib.hid hr
                      have hz13 := HSZ.out
                      have htm' : (t : Int) < (m.sizes.length : Int) := by omega
                      have hw1 : IntKind.i64.wrap ((row.length : Int) - 1) = (n : Int) := by rw [IntKind.wrap_i64]; omega
                      have hw2 : IntKind.i64.wrap (z - 1) = z - 1 := by rw [IntKind.wrap_i64]; omega
                      have hnn : (n : Int) < (row.length : Int) := by omega
                      have hrl3 : (row.length : Int) ≤ 3 := by omega
                      clear hr hn
                      go_wp2_with fail
                      refine wp_region_held_drew (S := (fun w' => w'.cell? ⟨w.heap.size + 1, 0, none⟩ = some (.slice (some ⟨b2, o2, none⟩) m.sizes.length cma) ∧ w'.cell? ⟨w.heap.size + 1, 1, none⟩ = some (.slice (some ⟨b8, o8, none⟩) m.tables.length cmb) ∧ w'.cell? ⟨b8, o8 + j, none⟩ = some (.slice (some ⟨b9, o9, none⟩) table.length d8) ∧ w'.cell? ⟨b1, o1 + n, none⟩ = some (.int .i64 (t : Int)) ∧ w'.cell? ⟨b2, o2 + t, none⟩ = some (.int .i64 z) ∧ w'.cell? ⟨b9, o9 + k, none⟩ = some (.int .i64 y))) (by kernel_rfl) ?_ (fun hHeld => ?_)
                      · exact ⟨g2, g3, g4, g5, g6, hv⟩
                      refine wpAnyH_take (i := 0) (oi := _) (v := ?_) rfl (by kernel_rfl) (by kernel_rfl) (by kernel_rfl) (fun _ _ _ h => h) (Or.inl ⟨by rfl, ?_⟩) (by assumption) ?_
                      rotate_left
                      · first | (intro w' hSw; (try dsimp only at hSw); go_simp; done) | (intro w' hSw; (try dsimp only at hSw); go_simp; with_reducible rfl)
                      try simp only [Act.put, List.getElem_toArray, List.getElem_cons_zero, List.getElem_cons_succ, List.setIfInBounds_toArray, List.set_cons_zero, List.set_cons_succ]
                      refine wpAnyH_take (i := 1) (oi := _) (v := ?_) rfl (by kernel_rfl) (by kernel_rfl) (by kernel_rfl) (fun _ _ _ h => h) (Or.inl ⟨by rfl, ?_⟩) (by assumption) ?_
                      rotate_left
                      · first | (intro w' hSw; (try dsimp only at hSw); go_simp; done) | (intro w' hSw; (try dsimp only at hSw); go_simp; with_reducible rfl)
                      try simp only [Act.put, List.getElem_toArray, List.getElem_cons_zero, List.getElem_cons_succ, List.setIfInBounds_toArray, List.set_cons_zero, List.set_cons_succ]
                      refine wpAnyH_take (i := 2) (oi := _) (v := ?_) rfl (by kernel_rfl) (by kernel_rfl) (by kernel_rfl) (fun _ _ _ h => h) (Or.inl ⟨by rfl, ?_⟩) (by assumption) ?_
                      rotate_left
                      · first | (intro w' hSw; (try dsimp only at hSw); go_simp; done) | (intro w' hSw; (try dsimp only at hSw); go_simp; with_reducible rfl)
                      try simp only [Act.put, List.getElem_toArray, List.getElem_cons_zero, List.getElem_cons_succ, List.setIfInBounds_toArray, List.set_cons_zero, List.set_cons_succ]
                      refine wpAnyH_take (i := 3) (oi := _) (v := ?_) rfl (by kernel_rfl) (by kernel_rfl) (by kernel_rfl) (fun _ _ _ h => h) (Or.inl ⟨by rfl, ?_⟩) (by assumption) ?_
                      rotate_left
                      · first | (intro w' hSw; (try dsimp only at hSw); go_simp; done) | (intro w' hSw; (try dsimp only at hSw); go_simp; with_reducible rfl)
                      try simp only [Act.put, List.getElem_toArray, List.getElem_cons_zero, List.getElem_cons_succ, List.setIfInBounds_toArray, List.set_cons_zero, List.set_cons_succ]
                      refine wpAnyH_take (i := 4) (oi := _) (v := ?_) rfl (by kernel_rfl) (by kernel_rfl) (by kernel_rfl) (fun _ _ _ h => h) (Or.inl ⟨by rfl, ?_⟩) (by assumption) ?_
                      rotate_left
                      · first | (intro w' hSw; (try dsimp only at hSw); go_simp; done) | (intro w' hSw; (try dsimp only at hSw); go_simp; with_reducible rfl)
                      try simp only [Act.put, List.getElem_toArray, List.getElem_cons_zero, List.getElem_cons_succ, List.setIfInBounds_toArray, List.set_cons_zero, List.set_cons_succ]
                      refine wpAnyH_take (i := 5) (oi := _) (v := ?_) rfl (by kernel_rfl) (by kernel_rfl) (by kernel_rfl) (fun _ _ _ h => h) (Or.inl ⟨by rfl, ?_⟩) (by assumption) ?_
                      rotate_left
                      · first | (intro w' hSw; (try dsimp only at hSw); go_simp; done) | (intro w' hSw; (try dsimp only at hSw); go_simp; with_reducible rfl)
                      try simp only [Act.put, List.getElem_toArray, List.getElem_cons_zero, List.getElem_cons_succ, List.setIfInBounds_toArray, List.set_cons_zero, List.set_cons_succ]
                      refine wpAnyH_take (i := 6) (oi := _) (v := ?_) rfl (by kernel_rfl) (by kernel_rfl) (by kernel_rfl) (fun _ _ _ h => h) (Or.inl ⟨by rfl, ?_⟩) (by assumption) ?_
                      rotate_left
                      · first | (intro w' hSw; (try dsimp only at hSw); go_simp; done) | (intro w' hSw; (try dsimp only at hSw); go_simp; with_reducible rfl)
                      try simp only [Act.put, List.getElem_toArray, List.getElem_cons_zero, List.getElem_cons_succ, List.setIfInBounds_toArray, List.set_cons_zero, List.set_cons_succ]
                      refine wpAnyH_take (i := 7) (oi := _) (v := ?_) rfl (by kernel_rfl) (by kernel_rfl) (by kernel_rfl) (fun _ _ _ h => h) (Or.inl ⟨by rfl, ?_⟩) (by assumption) ?_
                      rotate_left
                      · first | (intro w' hSw; (try dsimp only at hSw); go_simp; done) | (intro w' hSw; (try dsimp only at hSw); go_simp; with_reducible rfl)
                      try simp only [Act.put, List.getElem_toArray, List.getElem_cons_zero, List.getElem_cons_succ, List.setIfInBounds_toArray, List.set_cons_zero, List.set_cons_succ]
                      refine wpAnyH_take (i := 8) (oi := _) (v := ?_) rfl (by kernel_rfl) (by kernel_rfl) (by kernel_rfl) (fun _ _ _ h => h) (Or.inl ⟨by rfl, ?_⟩) (by assumption) ?_
                      rotate_left
                      · first | (intro w' hSw; (try dsimp only at hSw); go_simp; done) | (intro w' hSw; (try dsimp only at hSw); go_simp; with_reducible rfl)
                      try simp only [Act.put, List.getElem_toArray, List.getElem_cons_zero, List.getElem_cons_succ, List.setIfInBounds_toArray, List.set_cons_zero, List.set_cons_succ]
                      refine wpAnyH_take (i := 9) (oi := _) (v := ?_) rfl (by kernel_rfl) (by kernel_rfl) (by kernel_rfl) (fun _ _ _ h => h) (Or.inl ⟨by rfl, ?_⟩) (by assumption) ?_
                      rotate_left
                      · first | (intro w' hSw; (try dsimp only at hSw); go_simp; done) | (intro w' hSw; (try dsimp only at hSw); go_simp; with_reducible rfl)
                      try simp only [Act.put, List.getElem_toArray, List.getElem_cons_zero, List.getElem_cons_succ, List.setIfInBounds_toArray, List.set_cons_zero, List.set_cons_succ]
                      refine wpAnyH_take (i := 10) (oi := _) (v := ?_) rfl (by kernel_rfl) (by kernel_rfl) (by kernel_rfl) (fun _ _ _ h => h) (Or.inl ⟨by rfl, ?_⟩) (by assumption) ?_
                      rotate_left
                      · first | (intro w' hSw; (try dsimp only at hSw); go_simp; done) | (intro w' hSw; (try dsimp only at hSw); go_simp; with_reducible rfl)
                      try simp only [Act.put, List.getElem_toArray, List.getElem_cons_zero, List.getElem_cons_succ, List.setIfInBounds_toArray, List.set_cons_zero, List.set_cons_succ]
                      refine wpAnyH_take (i := 11) (oi := _) (v := ?_) rfl (by kernel_rfl) (by kernel_rfl) (by kernel_rfl) (fun _ _ _ h => h) (Or.inl ⟨by rfl, ?_⟩) (by assumption) ?_
                      rotate_left
                      · first | (intro w' hSw; (try dsimp only at hSw); go_simp; done) | (intro w' hSw; (try dsimp only at hSw); go_simp; with_reducible rfl)
                      try simp only [Act.put, List.getElem_toArray, List.getElem_cons_zero, List.getElem_cons_succ, List.setIfInBounds_toArray, List.set_cons_zero, List.set_cons_succ]
                      refine wpAnyH_take (i := 12) (oi := _) (v := ?_) rfl (by kernel_rfl) (by kernel_rfl) (by kernel_rfl) (fun _ _ _ h => h) (Or.inl ⟨by rfl, ?_⟩) (by assumption) ?_
                      rotate_left
                      · first | (intro w' hSw; (try dsimp only at hSw); go_simp; done) | (intro w' hSw; (try dsimp only at hSw); go_simp; with_reducible rfl)
                      try simp only [Act.put, List.getElem_toArray, List.getElem_cons_zero, List.getElem_cons_succ, List.setIfInBounds_toArray, List.set_cons_zero, List.set_cons_succ]
                      refine wpAnyH_take (i := 13) (oi := _) (v := ?_) rfl (by kernel_rfl) (by kernel_rfl) (by kernel_rfl) (fun _ _ _ h => h) (Or.inl ⟨by rfl, ?_⟩) (by assumption) ?_
                      rotate_left
                      · first | (intro w' hSw; (try dsimp only at hSw); go_simp; done) | (intro w' hSw; (try dsimp only at hSw); go_simp; with_reducible rfl)
                      try simp only [Act.put, List.getElem_toArray, List.getElem_cons_zero, List.getElem_cons_succ, List.setIfInBounds_toArray, List.set_cons_zero, List.set_cons_succ]
                      refine wpAnyH_take (i := 14) (oi := _) (v := ?_) rfl (by kernel_rfl) (by kernel_rfl) (by kernel_rfl) (fun _ _ _ h => h) (Or.inl ⟨by rfl, ?_⟩) (by assumption) ?_
                      rotate_left
                      · first | (intro w' hSw; (try dsimp only at hSw); go_simp; done) | (intro w' hSw; (try dsimp only at hSw); go_simp; with_reducible rfl)
                      try simp only [Act.put, List.getElem_toArray, List.getElem_cons_zero, List.getElem_cons_succ, List.setIfInBounds_toArray, List.set_cons_zero, List.set_cons_succ]
                      refine wpAnyH_take (i := 15) (oi := _) (v := ?_) rfl (by kernel_rfl) (by kernel_rfl) (by kernel_rfl) (fun _ _ _ h => h) (Or.inl ⟨by rfl, ?_⟩) (by assumption) ?_
                      rotate_left
                      · first | (intro w' hSw; (try dsimp only at hSw); go_simp; done) | (intro w' hSw; (try dsimp only at hSw); go_simp; with_reducible rfl)
                      try simp only [Act.put, List.getElem_toArray, List.getElem_cons_zero, List.getElem_cons_succ, List.setIfInBounds_toArray, List.set_cons_zero, List.set_cons_succ]
                      refine wpAnyH_take (i := 16) (oi := _) (v := ?_) rfl (by kernel_rfl) (by kernel_rfl) (by kernel_rfl) (fun _ _ _ h => h) (Or.inl ⟨by rfl, ?_⟩) (by assumption) ?_
                      rotate_left
                      · first | (intro w' hSw; (try dsimp only at hSw); go_simp; done) | (intro w' hSw; (try dsimp only at hSw); go_simp; with_reducible rfl)
                      try simp only [Act.put, List.getElem_toArray, List.getElem_cons_zero, List.getElem_cons_succ, List.setIfInBounds_toArray, List.set_cons_zero, List.set_cons_succ]
                      refine wpAnyH_take (i := 17) (oi := _) (v := ?_) rfl (by kernel_rfl) (by kernel_rfl) (by kernel_rfl) (fun _ _ _ h => h) (Or.inl ⟨by rfl, ?_⟩) (by assumption) ?_
                      rotate_left
                      · first | (intro w' hSw; (try dsimp only at hSw); go_simp; done) | (intro w' hSw; (try dsimp only at hSw); go_simp; with_reducible rfl)
                      try simp only [Act.put, List.getElem_toArray, List.getElem_cons_zero, List.getElem_cons_succ, List.setIfInBounds_toArray, List.set_cons_zero, List.set_cons_succ]
                      refine wpAnyH_take (i := 18) (oi := _) (v := ?_) rfl (by kernel_rfl) (by kernel_rfl) (by kernel_rfl) (fun _ _ _ h => h) (Or.inl ⟨by rfl, ?_⟩) (by assumption) ?_
                      rotate_left
                      · first | (intro w' hSw; (try dsimp only at hSw); go_simp; done) | (intro w' hSw; (try dsimp only at hSw); go_simp; with_reducible rfl)
                      try simp only [Act.put, List.getElem_toArray, List.getElem_cons_zero, List.getElem_cons_succ, List.setIfInBounds_toArray, List.set_cons_zero, List.set_cons_succ]
                      refine wpAnyH_ready (rs := [19]) (by kernel_rfl) (by simp) ?_
                      refine AllReadyH.cons (o := _) rfl (fun K hK => ?_) AllReadyH.nil
                      go_simp
                      refine (l1In_is y 0 (z - 1) _ r (by rw [inSize_inB rfl]; exact HR.out)).mono ?_
                      rintro x w6 ⟨rfl, rfl⟩
                      go_wp2_with fail
                      refine hK.out _ _ ?_ (fun hHeld => ?_)
                      · exact ⟨g2, g3, g4, g5, g6, hv⟩
                      clear hK K
                      try simp only [Act.put, List.getElem_toArray, List.getElem_cons_zero, List.getElem_cons_succ, List.setIfInBounds_toArray, List.set_cons_zero, List.set_cons_succ]
                      refine wpAnyH_take (i := 20) (oi := _) (v := ?_) rfl (by kernel_rfl) (by kernel_rfl) (by kernel_rfl) (fun _ _ _ h => h) (Or.inl ⟨by rfl, ?_⟩) (by assumption) ?_
                      rotate_left
                      · first | (intro w' hSw; (try dsimp only at hSw); go_simp; done) | (intro w' hSw; (try dsimp only at hSw); go_simp; with_reducible rfl)
                      try simp only [Act.put, List.getElem_toArray, List.getElem_cons_zero, List.getElem_cons_succ, List.setIfInBounds_toArray, List.set_cons_zero, List.set_cons_succ]
                      refine wpAnyH_done (by kernel_rfl) ?_ _
                      have HX6 := Lib.hid (map_drew HK.out)
                      clear g2 g3 g4 g5 g6 hv
                      cases r with
                      | true =>
                        go_wp2
                        go_roundw
                        case rel => exact ⟨k + 1, by omega, by go_num, by rw [HT.out, HB9.out, HR.out]; rfl, HX6.out⟩
                        case measure => simp [intOf]; omega
                      | false =>
                        have HF := Lib.hid (HBAD.out (HTA.out.trans (tableB_val (by rw [HLS.out, Int.toNat_natCast, HGD.out]; exact HN.out HR.out))))
                        go_wp2
                        go_ret
                        exact ⟨ret_bool HF.out.symm, sz_keep HB.out (sz_keep HD.out HX6.out)⟩
                    · have hkn2 : k = table.length := by omega
                      have hlt2 : ¬ (k : Int) < (table.length : Int) := by omega
                      have HTT := Lib.hid (show table.take k = table from take_all (by omega))
                      rw [HTT.out] at HB9
                      have HTY := Lib.hid (tableB_yes (sizes := m.sizes) (row := row) (by rw [HQ.out]; exact HLEN.out) (by rw [HLS.out, Int.toNat_natCast, HGD.out]; exact HB9.out))
                      go_wp2
                      go_roundw
                      case rel => exact ⟨j + 1, by omega, by go_num, by rw [HSUC.out, HAL.out, HTA.out, HTY.out]; rfl, sz_keep HD.out HK.out⟩
                      case measure => simp [intOf]; omega
                · have HF := Lib.hid (HBAD.out (HTA.out.trans (tableB_len (by rw [HQ.out]; exact hlen))))
                  have e3 : ((table.length : Int) != q) = true := by simpa using hlen
                  clear hlen
                  go_wp2_with fail
                  refine wp_region_held_drew (S := (fun w' => w'.cell? ⟨w.heap.size + 1, 0, none⟩ = some (.slice Ama m.sizes.length cma) ∧ w'.cell? ⟨w.heap.size + 1, 1, none⟩ = some (.slice (some ⟨b8, o8, none⟩) m.tables.length cmb) ∧ w'.cell? ⟨b8, o8 + j, none⟩ = some (.slice A8 table.length d8))) (by kernel_rfl) ?_ (fun hHeld => ?_)
                  · exact ⟨f2, f3, hrb⟩
                  refine wpAnyH_take (i := 0) (oi := _) (v := ?_) rfl (by kernel_rfl) (by kernel_rfl) (by kernel_rfl) (fun _ _ _ h => h) (Or.inl ⟨by rfl, ?_⟩) (by assumption) ?_
                  rotate_left
                  · first | (intro w' hSw; (try dsimp only at hSw); go_simp; done) | (intro w' hSw; (try dsimp only at hSw); go_simp; with_reducible rfl)
                  try simp only [Act.put, List.getElem_toArray, List.getElem_cons_zero, List.getElem_cons_succ, List.setIfInBounds_toArray, List.set_cons_zero, List.set_cons_succ]
                  refine wpAnyH_take (i := 1) (oi := _) (v := ?_) rfl (by kernel_rfl) (by kernel_rfl) (by kernel_rfl) (fun _ _ _ h => h) (Or.inl ⟨by rfl, ?_⟩) (by assumption) ?_
                  rotate_left
                  · first | (intro w' hSw; (try dsimp only at hSw); go_simp; done) | (intro w' hSw; (try dsimp only at hSw); go_simp; with_reducible rfl)
                  try simp only [Act.put, List.getElem_toArray, List.getElem_cons_zero, List.getElem_cons_succ, List.setIfInBounds_toArray, List.set_cons_zero, List.set_cons_succ]
                  refine wpAnyH_take (i := 2) (oi := _) (v := ?_) rfl (by kernel_rfl) (by kernel_rfl) (by kernel_rfl) (fun _ _ _ h => h) (Or.inl ⟨by rfl, ?_⟩) (by assumption) ?_
                  rotate_left
                  · first | (intro w' hSw; (try dsimp only at hSw); go_simp; done) | (intro w' hSw; (try dsimp only at hSw); go_simp; with_reducible rfl)
                  try simp only [Act.put, List.getElem_toArray, List.getElem_cons_zero, List.getElem_cons_succ, List.setIfInBounds_toArray, List.set_cons_zero, List.set_cons_succ]
                  refine wpAnyH_take (i := 3) (oi := _) (v := ?_) rfl (by kernel_rfl) (by kernel_rfl) (by kernel_rfl) (fun _ _ _ h => h) (Or.inl ⟨by rfl, ?_⟩) (by assumption) ?_
                  rotate_left
                  · first | (intro w' hSw; (try dsimp only at hSw); go_simp; done) | (intro w' hSw; (try dsimp only at hSw); go_simp; with_reducible rfl)
                  try simp only [Act.put, List.getElem_toArray, List.getElem_cons_zero, List.getElem_cons_succ, List.setIfInBounds_toArray, List.set_cons_zero, List.set_cons_succ]
                  refine wpAnyH_take (i := 4) (oi := _) (v := ?_) rfl (by kernel_rfl) (by kernel_rfl) (by kernel_rfl) (fun _ _ _ h => h) (Or.inl ⟨by rfl, ?_⟩) (by assumption) ?_
                  rotate_left
                  · first | (intro w' hSw; (try dsimp only at hSw); go_simp; done) | (intro w' hSw; (try dsimp only at hSw); go_simp; with_reducible rfl)
                  try simp only [Act.put, List.getElem_toArray, List.getElem_cons_zero, List.getElem_cons_succ, List.setIfInBounds_toArray, List.set_cons_zero, List.set_cons_succ]
                  refine wpAnyH_take (i := 5) (oi := _) (v := ?_) rfl (by kernel_rfl) (by kernel_rfl) (by kernel_rfl) (fun _ _ _ h => h) (Or.inl ⟨by rfl, ?_⟩) (by assumption) ?_
                  rotate_left
                  · first | (intro w' hSw; (try dsimp only at hSw); go_simp; done) | (intro w' hSw; (try dsimp only at hSw); go_simp; with_reducible rfl)
                  try simp only [Act.put, List.getElem_toArray, List.getElem_cons_zero, List.getElem_cons_succ, List.setIfInBounds_toArray, List.set_cons_zero, List.set_cons_succ]
                  refine wpAnyH_take (i := 6) (oi := _) (v := ?_) rfl (by kernel_rfl) (by kernel_rfl) (by kernel_rfl) (fun _ _ _ h => h) (Or.inl ⟨by rfl, ?_⟩) (by assumption) ?_
                  rotate_left
                  · first | (intro w' hSw; (try dsimp only at hSw); go_simp; done) | (intro w' hSw; (try dsimp only at hSw); go_simp; with_reducible rfl)
                  try simp only [Act.put, List.getElem_toArray, List.getElem_cons_zero, List.getElem_cons_succ, List.setIfInBounds_toArray, List.set_cons_zero, List.set_cons_succ]
                  refine wpAnyH_take (i := 7) (oi := _) (v := ?_) rfl (by kernel_rfl) (by kernel_rfl) (by kernel_rfl) (fun _ _ _ h => h) (Or.inl ⟨by rfl, ?_⟩) (by assumption) ?_
                  rotate_left
                  · first | (intro w' hSw; (try dsimp only at hSw); go_simp; done) | (intro w' hSw; (try dsimp only at hSw); go_simp; with_reducible rfl)
                  try simp only [Act.put, List.getElem_toArray, List.getElem_cons_zero, List.getElem_cons_succ, List.setIfInBounds_toArray, List.set_cons_zero, List.set_cons_succ]
                  refine wpAnyH_take (i := 8) (oi := _) (v := ?_) rfl (by kernel_rfl) (by kernel_rfl) (by kernel_rfl) (fun _ _ _ h => h) (Or.inl ⟨by rfl, ?_⟩) (by assumption) ?_
                  rotate_left
                  · first | (intro w' hSw; (try dsimp only at hSw); go_simp; done) | (intro w' hSw; (try dsimp only at hSw); go_simp; with_reducible rfl)
                  try simp only [Act.put, List.getElem_toArray, List.getElem_cons_zero, List.getElem_cons_succ, List.setIfInBounds_toArray, List.set_cons_zero, List.set_cons_succ]
                  refine wpAnyH_ready (rs := [9]) (by kernel_rfl) (by simp) ?_
                  refine AllReadyH.cons (o := _) rfl (fun K hK => ?_) AllReadyH.nil
                  go_simp
                  refine (l5Rows_any m.sizes row _ _ _ (HMS.out.keep (map_drew (Below.refl _ _))) (HRI.out.keep (map_drew (Below.refl _ _))) HR13.out.1 HR13.out.2 HZ.out HIN.out hms3).mono ?_
                  rw [HQ.out]
                  rintro x w5 ⟨rfl, rfl⟩
                  go_wp2_with fail
                  refine hK.out _ _ ?_ (fun hHeld => ?_)
                  · exact ⟨f2, f3, hrb⟩
                  clear hK K
                  try simp only [Act.put, List.getElem_toArray, List.getElem_cons_zero, List.getElem_cons_succ, List.setIfInBounds_toArray, List.set_cons_zero, List.set_cons_succ]
                  refine wpAnyH_take (i := 10) (oi := _) (v := ?_) rfl (by kernel_rfl) (by kernel_rfl) (by kernel_rfl) (fun _ _ _ h => h) (Or.inl ⟨by rfl, ?_⟩) (by assumption) ?_
                  rotate_left
                  · first | (intro w' hSw; (try dsimp only at hSw); go_simp; done) | (intro w' hSw; (try dsimp only at hSw); go_simp; with_reducible rfl)
                  try simp only [Act.put, List.getElem_toArray, List.getElem_cons_zero, List.getElem_cons_succ, List.setIfInBounds_toArray, List.set_cons_zero, List.set_cons_succ]
                  refine wpAnyH_done (by kernel_rfl) ?_ _
                  clear f1 f2 f3 hra hrb
                  go_wp2
                  go_ret
                  exact ⟨ret_bool HF.out.symm, sz_keep HB.out HD2.out⟩
              · have hkn2 : j = m.tables.length := by omega
                have hlt2 : ¬ (j : Int) < (m.tables.length : Int) := by omega
                have HE := Lib.hid (model_yes HV.out HSL.out HOL.out (sizesB_iff.2 HZ.out) (by rw [← hkn2]; exact HAL.out))
                go_wp2
                clear f1 f2 f3
                go_ret
                exact ⟨ret_bool HE.out.symm, sz_keep HB.out HD.out⟩
      · have e2 : ((m.tables.length : Int) != (s.ops.length : Int)) = true := by simp; omega
        have HE := Lib.hid (model_no3 ho)
        clear ho hs
        go_enter Try.func89, Try.ntmps89
        go_wp2_with fail
        clear hW
        refine (specSigValid_any _ s _ Hs.out).mono ?_
        rw [HV.out]
        rintro e w1 ⟨rfl, hb⟩
        replace HB := Lib.hid (sz_keep HB.out hb)
        replace s0 := cell_keep hb s0
        replace s1 := cell_keep hb s1
        replace m0 := cell_keep hb m0
        replace m1 := cell_keep hb m1
        replace Hs := Lib.hid (Hs.out.keep hb)
        replace Hm := Lib.hid (Hm.out.keep hb)
        clear hb
        go_wp2
        go_ret
        exact ⟨ret_bool HE.out.symm, HB.out⟩
    · have e1 : ((m.sizes.length : Int) != s.sorts) = true := by simpa using hs
      have HE := Lib.hid (model_no2 hs)
      clear hs
      go_enter Try.func89, Try.ntmps89
      go_wp2_with fail
      clear hW
      refine (specSigValid_any _ s _ Hs.out).mono ?_
      rw [HV.out]
      rintro e w1 ⟨rfl, hb⟩
      replace HB := Lib.hid (sz_keep HB.out hb)
      replace s0 := cell_keep hb s0
      replace s1 := cell_keep hb s1
      replace m0 := cell_keep hb m0
      replace m1 := cell_keep hb m1
      replace Hs := Lib.hid (Hs.out.keep hb)
      replace Hm := Lib.hid (Hm.out.keep hb)
      clear hb
      go_wp2
      go_ret
      exact ⟨ret_bool HE.out.symm, HB.out⟩
end

section
open Go.RowKit
set_option linter.unusedVariables false
set_option linter.unusedSimpArgs false

def Off (a b : Value) : Prop := a.ownBlock = none ∨ a.ownBlock ≠ b.ownBlock
theorem Off.symm {a b : Value} (h : Off a b) : Off b a := by
  unfold Off at *
  cases hb : b.ownBlock with
  | none => exact .inl rfl
  | some k =>
    right
    rcases h with h | h
    · rw [h]; exact fun e => by cases e
    · rw [hb] at h; exact fun e => h e.symm
/-- a row that was there is not the one that append hands back -/
theorem off_new {x v v' : Value} {N M : Nat} (h : Off x v) (hx : ∀ k, x.ownBlock = some k → k < M) (hM : M ≤ N) (hv : v'.ownBlock = v.ownBlock ∨ v'.ownBlock = some N) : Off x v' := by
  unfold Off at *
  rcases hv with e | e
  · rw [e]; exact h
  · rw [e]
    cases hx' : x.ownBlock with
    | none => exact .inl rfl
    | some k => right; intro e2; injection e2 with e2; have := hx k hx'; omega
theorem off_low {x v : Value} {M : Nat} (hx : ∀ k, x.ownBlock = some k → k < M) (hv : ∀ k, v.ownBlock = some k → M ≤ k) : Off x v := by
  unfold Off
  cases hx' : x.ownBlock with
  | none => exact .inl rfl
  | some k => right; intro e2; have := hx k hx'; have := hv k e2.symm; omega
theorem own_notI {w : World} {B b : Nat} {e t : TypeId} {size n : Nat} {v : Value} {zs : List Value} {cs : Array Value} (h : w.ownsRow B e size v n zs) (hb : w.heap[b]? = some (.cells cs t (0, 0))) (hne : e ≠ t) : v.ownBlock ≠ some b := own_not h hb hne
theorem own_pokeI {w : World} {B b i : Nat} {e t : TypeId} {size n : Nat} {v x : Value} {zs : List Value} {cs : Array Value} (h : w.ownsRow B e size v n zs) (hb : w.heap[b]? = some (.cells cs t (0, 0))) (hne : e ≠ t) : (w.setCell ⟨b, i, none⟩ x).ownsRow B e size v n zs :=
  own_grown h (row := some b) ⟨rfl, rfl, rfl, by simp [World.setCell], fun k _ hk => Below.heap_setCell w ⟨b, i, none⟩ x k (by rintro rfl; exact hk rfl)⟩ (.inr (own_not h hb hne))

/-- W: the world ahead of the local map (block lm) and the local signature (block lb); g: the reader's block -/
structure InAt (W w : World) (g lm lb : Nat) (sorts : Int) (u x0 x1 : Value) (us : List Value) (rows : List (List Int)) (ss os : List Int) (q : Nat) : Prop where
  hm : w.heap[lm]? = some (.cells #[x0, x1] 39 (0, 0))
  hs : w.heap[lb]? = some (.cells #[.int .i64 sorts, u] 25 (0, 0))
  uo : w.ownsRow W.heap.size 26 1 u rows.length us
  ul : us.length = rows.length
  ui : ∀ (j : Nat) (u : Value) (row : List Int), us[j]? = some u → rows[j]? = some row → OInts w W.heap.size u row
  ua : ∀ (i j : Nat) (u u' : Value), i < j → us[i]? = some u → us[j]? = some u' → u.ownBlock = none ∨ u.ownBlock ≠ u'.ownBlock
  u0 : ∀ (j : Nat) (u : Value), us[j]? = some u → Off u x0
  u1 : ∀ (j : Nat) (u : Value), us[j]? = some u → Off u x1
  o0 : OInts w W.heap.size x0 ss
  o1 : OInts w W.heap.size x1 os
  ap : Off x0 x1
  rd : RRd w g q
  gr : W.grownBy w (some g)
  gl : g < W.heap.size
  ml : W.heap.size ≤ lm
  bl : W.heap.size ≤ lb
section
variable {W w : World} {g lm lb : Nat} {sorts : Int} {u x0 x1 : Value} {us : List Value} {rows : List (List Int)} {ss os : List Int} {q : Nat}
theorem InAt.row (h : InAt W w g lm lb sorts u x0 x1 us rows ss os q) {j : Nat} {v : Value} (hj : us[j]? = some v) : ∃ row, rows[j]? = some row ∧ OInts w W.heap.size v row := by
  have hl : j < rows.length := by have := (List.getElem?_eq_some_iff.1 hj).1; have := h.ul; omega
  exact ⟨_, List.getElem?_eq_getElem hl, h.ui j v _ hj (List.getElem?_eq_getElem hl)⟩
theorem InAt.allRows (h : InAt W w g lm lb sorts u x0 x1 us rows ss os q) : ORows w W.heap.size u rows := ⟨us, h.uo, h.ul, h.ui, h.ua⟩
/-- only the reader, and what is new, has turned -/
theorem InAt.later {w' : World} {q' : Nat} (h : InAt W w g lm lb sorts u x0 x1 us rows ss os q) (hg : w.grownBy w' (some g)) (hr : RRd w' g q') : InAt W w' g lm lb sorts u x0 x1 us rows ss os q' := by
  have h1 := h.gl
  have h2 := h.ml
  have h3 := h.bl
  exact ⟨gr_at hg (by omega) h.hm, gr_at hg (by omega) h.hs, own_past h.uo hg h1, h.ul, fun j v r a b => own_past (h.ui j v r a b) hg h1, h.ua, h.u0, h.u1, own_past h.o0 hg h1, own_past h.o1 hg h1, h.ap, hr, gr_trans h.gr hg (fun x e => by injection e with e; exact .inl e.symm), h1, h2, h3⟩
theorem InAt.keep {w' : World} (h : InAt W w g lm lb sorts u x0 x1 us rows ss os q) (hb : Below w.heap.size w w') : InAt W w' g lm lb sorts u x0 x1 us rows ss os q :=
  h.later (gr_below (gr_refl w g) hb) (h.rd.keep hb)
/-- an own row of numbers v (one of the two of the map) grows: all else stays -/
theorem InAt.grow0 {w6 : World} {v' : Value} {y : Int} {o : Obj} (h : InAt W w g lm lb sorts u x0 x1 us rows ss os q) (hg : (w.alloc o).grownBy w6 x0.ownBlock) (ho : OInts w6 W.heap.size v' (ss ++ [y])) (hat : v'.ownBlock = x0.ownBlock ∨ v'.ownBlock = some (w.alloc o).heap.size) :
    InAt W (w6.setCell ⟨lm, 0, none⟩ v') g lm lb sorts u v' x1 us rows (ss ++ [y]) os q ∧ w6.heap[lm]? = some (.cells #[x0, x1] 39 (0, 0)) := by
  have h1 := h.gl
  have h2 := h.ml
  have h3 := h.bl
  have k := h.keep (below_alloc w o)
  have hx : ∀ k, x0.ownBlock = some k → W.heap.size ≤ k := fun k e => (own_lt h.o0 k e).1
  have hM := (hg.block lm (Array.getElem?_eq_some_iff.1 k.hm).1 (fun e => own_not k.o0 k.hm (by decide) e.symm)).trans k.hm
  have hB := (hg.block lb (Array.getElem?_eq_some_iff.1 k.hs).1 (fun e => own_not k.o0 k.hs (by decide) e.symm)).trans k.hs
  have e1 : w6.ownsRow W.heap.size 26 1 u rows.length us := own_grown k.uo hg (own_ne k.uo k.o0 (by decide))
  have e2 : ∀ (j : Nat) (u : Value) (row : List Int), us[j]? = some u → rows[j]? = some row → OInts w6 W.heap.size u row := fun j v r a b => own_grown (k.ui j v r a b) hg (h.u0 j v a)
  have e3 : OInts w6 W.heap.size x1 os := own_grown k.o1 hg h.ap.symm
  have hbn : lm ≠ lb := fun e => by have a := hM; rw [e, hB] at a; injection a with a; injection a with _ a; exact absurd a (by decide)
  refine ⟨⟨block_set hM 0 v', (Below.heap_setCell w6 ⟨lm, 0, none⟩ v' lb (fun e => hbn e.symm)).trans hB, own_pokeI e1 hM (by decide), h.ul, fun j v r a b => own_pokeI (e2 j v r a b) hM (by decide), h.ua, fun j v a => ?_, h.u1, own_pokeI ho hM (by decide), own_pokeI e3 hM (by decide), ?_, (RRd.grown k.rd hg (fun k e => by have := hx k e; omega)).setCell (by omega) _, gr_setCell (gr_trans k.gr hg (fun k e => .inr (hx k e))) (.inr h2) v', h1, h2, h3⟩, hM⟩
  · obtain ⟨r, -, hr⟩ := k.row a
    exact off_new (h.u0 j v a) (fun k e => (own_lt hr k e).2) (Nat.le_refl _) hat
  · exact (off_new h.ap.symm (fun k e => (own_lt (InAt.o1 ‹InAt W (w.alloc o) g lm lb sorts u x0 x1 us rows ss os q›) k e).2) (Nat.le_refl _) hat).symm
theorem InAt.grow1 {w6 : World} {v' : Value} {y : Int} {o : Obj} (h : InAt W w g lm lb sorts u x0 x1 us rows ss os q) (hg : (w.alloc o).grownBy w6 x1.ownBlock) (ho : OInts w6 W.heap.size v' (os ++ [y])) (hat : v'.ownBlock = x1.ownBlock ∨ v'.ownBlock = some (w.alloc o).heap.size) :
    InAt W (w6.setCell ⟨lm, 1, none⟩ v') g lm lb sorts u x0 v' us rows ss (os ++ [y]) q ∧ w6.heap[lm]? = some (.cells #[x0, x1] 39 (0, 0)) := by
  have h1 := h.gl
  have h2 := h.ml
  have h3 := h.bl
  have k := h.keep (below_alloc w o)
  have hx : ∀ k, x1.ownBlock = some k → W.heap.size ≤ k := fun k e => (own_lt h.o1 k e).1
  have hM := (hg.block lm (Array.getElem?_eq_some_iff.1 k.hm).1 (fun e => own_not k.o1 k.hm (by decide) e.symm)).trans k.hm
  have hB := (hg.block lb (Array.getElem?_eq_some_iff.1 k.hs).1 (fun e => own_not k.o1 k.hs (by decide) e.symm)).trans k.hs
  have e1 : w6.ownsRow W.heap.size 26 1 u rows.length us := own_grown k.uo hg (own_ne k.uo k.o1 (by decide))
  have e2 : ∀ (j : Nat) (u : Value) (row : List Int), us[j]? = some u → rows[j]? = some row → OInts w6 W.heap.size u row := fun j v r a b => own_grown (k.ui j v r a b) hg (h.u1 j v a)
  have e3 : OInts w6 W.heap.size x0 ss := own_grown k.o0 hg h.ap
  have hbn : lm ≠ lb := fun e => by have a := hM; rw [e, hB] at a; injection a with a; injection a with _ a; exact absurd a (by decide)
  refine ⟨⟨block_set hM 1 v', (Below.heap_setCell w6 ⟨lm, 1, none⟩ v' lb (fun e => hbn e.symm)).trans hB, own_pokeI e1 hM (by decide), h.ul, fun j v r a b => own_pokeI (e2 j v r a b) hM (by decide), h.ua, h.u0, fun j v a => ?_, own_pokeI e3 hM (by decide), own_pokeI ho hM (by decide), ?_, (RRd.grown k.rd hg (fun k e => by have := hx k e; omega)).setCell (by omega) _, gr_setCell (gr_trans k.gr hg (fun k e => .inr (hx k e))) (.inr h2) v', h1, h2, h3⟩, hM⟩
  · obtain ⟨r, -, hr⟩ := k.row a
    exact off_new (h.u1 j v a) (fun k e => (own_lt hr k e).2) (Nat.le_refl _) hat
  · exact off_new h.ap (fun k e => (own_lt (InAt.o0 ‹InAt W (w.alloc o) g lm lb sorts u x0 x1 us rows ss os q›) k e).2) (Nat.le_refl _) hat
/-- a new row rv (apart from all that is there) goes to the end of the signature's rows -/
theorem InAt.growR {w7 : World} {rv v' : Value} {row : List Int} {t2 : TypeId} (h : InAt W w g lm lb sorts u x0 x1 us rows ss os q) (hr : OInts w W.heap.size rv row) (r0 : Off rv x0) (r1 : Off rv x1) (ru : ∀ (j : Nat) (x : Value), us[j]? = some x → Off x rv)
    (hg : (w.alloc (.cells #[rv] t2)).grownBy w7 u.ownBlock) (hv : w7.ownsRow W.heap.size 26 1 v' (rows.length + 1) (us ++ [rv])) :
    InAt W (w7.setCell ⟨lb, 1, none⟩ v') g lm lb sorts v' x0 x1 (us ++ [rv]) (rows ++ [row]) ss os q ∧ w7.heap[lb]? = some (.cells #[.int .i64 sorts, u] 25 (0, 0)) := by
  have h1 := h.gl
  have h2 := h.ml
  have h3 := h.bl
  have k := h.keep (below_alloc w (.cells #[rv] t2))
  have hx : ∀ k, u.ownBlock = some k → W.heap.size ≤ k := fun k e => (own_lt h.uo k e).1
  have hM := (hg.block lm (Array.getElem?_eq_some_iff.1 k.hm).1 (fun e => own_not k.uo k.hm (by decide) e.symm)).trans k.hm
  have hB := (hg.block lb (Array.getElem?_eq_some_iff.1 k.hs).1 (fun e => own_not k.uo k.hs (by decide) e.symm)).trans k.hs
  have hbn : lm ≠ lb := fun e => by have a := hM; rw [e, hB] at a; injection a with a; injection a with _ a; exact absurd a (by decide)
  have at_ : ∀ {B : Nat} {v : Value} {xs : List Int}, OInts (w.alloc (.cells #[rv] t2)) B v xs → OInts (w7.setCell ⟨lb, 1, none⟩ v') B v xs := fun {B v xs} ho => own_pokeI (own_grown ho hg (own_ne ho k.uo (by decide))) hB (by decide)
  refine ⟨⟨(Below.heap_setCell w7 ⟨lb, 1, none⟩ v' lm hbn).trans hM, block_set hB 1 v', ?_, by simp [h.ul], fun j v r a b => ?_, fun i j v v2 hij a b => ?_, fun j v a => ?_, fun j v a => ?_, at_ k.o0, at_ k.o1, h.ap, (RRd.grown k.rd hg (fun k e => by have := hx k e; omega)).setCell (by omega) _, gr_setCell (gr_trans k.gr hg (fun k e => .inr (hx k e))) (.inr h3) v', h1, h2, h3⟩, hB⟩
  · rw [List.length_append]; exact own_pokeI hv hB (by decide)
  · rcases Nat.lt_or_ge j us.length with hj | hj
    · rw [List.getElem?_append_left hj] at a
      rw [List.getElem?_append_left (by have := h.ul; omega)] at b
      exact at_ (k.ui j v r a b)
    · have ej : j = us.length := by have := (List.getElem?_eq_some_iff.1 a).1; simp at this; omega
      subst ej
      rw [List.getElem?_append_right (Nat.le_refl _)] at a
      rw [h.ul, List.getElem?_append_right (Nat.le_refl _)] at b
      simp at a b
      subst a b
      exact at_ (hr.keep (below_alloc w _))
  · rcases Nat.lt_or_ge j us.length with hj | hj
    · rw [List.getElem?_append_left hj] at b
      rw [List.getElem?_append_left (by omega)] at a
      exact h.ua i j v v2 hij a b
    · have ej : j = us.length := by have := (List.getElem?_eq_some_iff.1 b).1; simp at this; omega
      subst ej
      rw [List.getElem?_append_right (Nat.le_refl _)] at b
      rw [List.getElem?_append_left hij] at a
      simp at b
      subst b
      exact ru i v a
  · rcases Nat.lt_or_ge j us.length with hj | hj
    · rw [List.getElem?_append_left hj] at a; exact h.u0 j v a
    · have ej : j = us.length := by have := (List.getElem?_eq_some_iff.1 a).1; simp at this; omega
      subst ej
      rw [List.getElem?_append_right (Nat.le_refl _)] at a
      simp at a
      subst a
      exact r0
  · rcases Nat.lt_or_ge j us.length with hj | hj
    · rw [List.getElem?_append_left hj] at a; exact h.u1 j v a
    · have ej : j = us.length := by have := (List.getElem?_eq_some_iff.1 a).1; simp at this; omega
      subst ej
      rw [List.getElem?_append_right (Nat.le_refl _)] at a
      simp at a
      subst a
      exact r1
/-- a row that a callee has made behind w is apart from all that is there -/
theorem InAt.fresh {w' : World} {rv : Value} {row : List Int} (h : InAt W w g lm lb sorts u x0 x1 us rows ss os q) (hb : Below w.heap.size w w') (hr : OInts w' w.heap.size rv row) :
    OInts w' W.heap.size rv row ∧ Off rv x0 ∧ Off rv x1 ∧ (∀ (j : Nat) (x : Value), us[j]? = some x → Off x rv) := by
  have hl : ∀ k, rv.ownBlock = some k → w.heap.size ≤ k := fun k e => (own_lt hr k e).1
  refine ⟨hr.base h.gr.size, (off_low (fun k e => (own_lt h.o0 k e).2) hl).symm, (off_low (fun k e => (own_lt h.o1 k e).2) hl).symm, fun j x a => ?_⟩
  obtain ⟨r, -, ho⟩ := h.row a
  exact off_low (fun k e => (own_lt ho k e).2) hl
end
end

section
open Go.RowKit
set_option linter.unusedVariables false

theorem blk_set' {w : World} {b : Nat} {cs : Array Value} {t : TypeId} (h : w.heap[b]? = some (.cells cs t (0, 0))) (i : Nat) (u : Value) : (w.setCell ⟨b, i, none⟩ u).heap[b]? = some (.cells (cs.setIfInBounds i u) t (0, 0)) := by
  simp [World.setCell, Array.getElem?_modify, h]

-- M: the blocks in which it lies
mutual
def RTerm (w : World) (M : Nat → Prop) : Value → Tm → Prop
  | v, .leaf k of => v = .iface 167 (.agg #[.int .i64 (k : Int), .int .i64 of])
  | v, .node op lv ts => ∃ (A : Option Addr) (c : Nat) (us : List Value), v = .iface 170 (.agg #[.int .i64 (op : Int), .int .i64 lv, .slice A ts.length c]) ∧ ts.length ≤ c ∧ c ≤ maxLen ∧ us.length = ts.length ∧
      (∀ (j : Nat) (u : Value), us[j]? = some u → ∃ b o, A = some ⟨b, o, none⟩ ∧ M b ∧ w.cell? ⟨b, o + j, none⟩ = some u) ∧ RTerms w M us ts
def RTerms (w : World) (M : Nat → Prop) : List Value → List Tm → Prop
  | us, [] => us = []
  | us, t :: ts => ∃ u us', us = u :: us' ∧ RTerm w M u t ∧ RTerms w M us' ts
end

mutual
theorem RTerm.keep {w w' : World} {M M' : Nat → Prop} (hb : ∀ b, M b → b < w.heap.size → M' b ∧ w'.heap[b]? = w.heap[b]?) : ∀ {v : Value} {t : Tm}, RTerm w M v t → RTerm w' M' v t
  | v, .leaf k of, h => by unfold RTerm at h ⊢; exact h
  | v, .node op lv ts, h => by
    unfold RTerm at h ⊢
    obtain ⟨A, c, us, e, h1, h2, h3, h4, h5⟩ := h
    refine ⟨A, c, us, e, h1, h2, h3, fun j u hj => ?_, RTerms.keep hb h5⟩
    obtain ⟨b, o, ea, hm, hc⟩ := h4 j u hj
    obtain ⟨k1, k2⟩ := hb b hm (World.block_lt_of_cell? w ⟨b, o + j, none⟩ hc)
    exact ⟨b, o, ea, k1, by rw [← hc]; exact World.cell?_of_block k2⟩
theorem RTerms.keep {w w' : World} {M M' : Nat → Prop} (hb : ∀ b, M b → b < w.heap.size → M' b ∧ w'.heap[b]? = w.heap[b]?) : ∀ {us : List Value} {ts : List Tm}, RTerms w M us ts → RTerms w' M' us ts
  | us, [], h => by unfold RTerms at h ⊢; exact h
  | us, t :: ts, h => by
    unfold RTerms at h ⊢
    obtain ⟨u, us', e, h1, h2⟩ := h
    exact ⟨u, us', e, RTerm.keep hb h1, RTerms.keep hb h2⟩
end
theorem RTerm.below {w w' : World} {M : Nat → Prop} {v : Value} {t : Tm} (h : RTerm w M v t) (hb : Below w.heap.size w w') : RTerm w' M v t := h.keep fun b hm hl => ⟨hm, hb.block b hl⟩
theorem RTerms.below {w w' : World} {M : Nat → Prop} {us : List Value} {ts : List Tm} (h : RTerms w M us ts) (hb : Below w.heap.size w w') : RTerms w' M us ts := h.keep fun b hm hl => ⟨hm, hb.block b hl⟩
theorem RTerms.length {w : World} {M : Nat → Prop} : ∀ {us : List Value} {ts : List Tm}, RTerms w M us ts → us.length = ts.length
  | us, [], h => by unfold RTerms at h; subst h; rfl
  | us, t :: ts, h => by
    unfold RTerms at h
    obtain ⟨u, us', rfl, h1, h2⟩ := h
    simp [RTerms.length h2]
theorem RTerms.snoc {w : World} {M : Nat → Prop} {u : Value} {t : Tm} (hu : RTerm w M u t) : ∀ {us : List Value} {ts : List Tm}, RTerms w M us ts → RTerms w M (us ++ [u]) (ts ++ [t])
  | us, [], h => by
    unfold RTerms at h
    subst h
    simp only [List.nil_append]
    unfold RTerms
    exact ⟨u, [], rfl, hu, by unfold RTerms; rfl⟩
  | us, x :: ts, h => by
    unfold RTerms at h
    obtain ⟨u', us', rfl, h1, h2⟩ := h
    simp only [List.cons_append]
    unfold RTerms
    exact ⟨u', us' ++ [u], rfl, h1, RTerms.snoc hu h2⟩
theorem RTerms.at_ {w : World} {M : Nat → Prop} : ∀ {us : List Value} {ts : List Tm} {j : Nat}, RTerms w M us ts → (hj : j < ts.length) → ∃ u, us[j]? = some u ∧ RTerm w M u ts[j]
  | us, [], j, h, hj => by simp at hj
  | us, x :: ts, 0, h, hj => by
    unfold RTerms at h
    obtain ⟨u', us', rfl, h1, h2⟩ := h
    exact ⟨u', rfl, h1⟩
  | us, x :: ts, j + 1, h, hj => by
    unfold RTerms at h
    obtain ⟨u', us', rfl, h1, h2⟩ := h
    obtain ⟨u, a, b⟩ := RTerms.at_ (j := j) h2 (by simpa using hj)
    exact ⟨u, by simpa using a, by simpa using b⟩
/-- a term's value: which kind, and what it says of its sort -/
theorem RTerm.form {w : World} {M : Nat → Prop} {v : Value} {t : Tm} (h : RTerm w M v t) :
    (∃ k of : Int, v = .iface 167 (.agg #[.int .i64 k, .int .i64 of]) ∧ t.sort = of) ∨ (∃ (op lv : Int) (A : Option Addr) (n c : Nat), v = .iface 170 (.agg #[.int .i64 op, .int .i64 lv, .slice A n c]) ∧ t.sort = lv) := by
  cases t with
  | leaf k of => unfold RTerm at h; exact .inl ⟨k, of, h, rfl⟩
  | node op lv ts => unfold RTerm at h; obtain ⟨A, c, us, e, -⟩ := h; exact .inr ⟨op, lv, A, ts.length, c, e, rfl⟩

/-- inside opWithTerms: block b: the operation under way; the terms so far -/
structure TakesAt (w wr : World) (b : Nat) (op : Nat) (lv : Int) (tv : Value) (ts : List Tm) : Prop where
  box : wr.heap[b]? = some (.cells #[.int .i64 (op : Int), .int .i64 lv, tv] 170 (0, 0))
  own : ∃ us, wr.ownsRow (b + 1) 104 1 tv ts.length us ∧ RTerms wr (fun x => b < x ∧ some x ≠ tv.ownBlock) us ts
  bel : Below w.heap.size w wr
  ge : w.heap.size ≤ b

theorem TakesAt.start {w wr : World} {b : Nat} {op : Nat} {lv : Int} (h1 : wr.heap[b]? = some (.cells #[.int .i64 (op : Int), .int .i64 lv, .slice none 0 0] 170 (0, 0))) (h2 : Below w.heap.size w wr) (h3 : w.heap.size ≤ b) : TakesAt w wr b op lv (.slice none 0 0) [] :=
  ⟨h1, ⟨[], World.ownsRow_nil _ _ _ _, by unfold RTerms; rfl⟩, h2, h3⟩
theorem TakesAt.below {w wr w2 : World} {b op : Nat} {lv : Int} {tv : Value} {ts : List Tm} (h : TakesAt w wr b op lv tv ts) (hb : Below wr.heap.size wr w2) : TakesAt w w2 b op lv tv ts := by
  obtain ⟨us, h1, h2⟩ := h.own
  exact ⟨(hb.block b (Array.getElem?_eq_some_iff.1 h.box).1).trans h.box, ⟨us, own_keep h1 hb, h2.below hb⟩, h.bel.trans (hb.mono h.bel.size), h.ge⟩
/-- behind 'whole.takes = append(whole.takes, taken)'; w2: behind the call that read the term, w3: behind the box of one cell -/
theorem TakesAt.push {w wr w2 w4 : World} {b op g cap : Nat} {lv : Int} {tv u : Value} {ts : List Tm} {t : Tm} {us : List Value} {o : Obj} (h : TakesAt w wr b op lv tv ts) (hb : Below wr.heap.size wr w2) (ht : RTerm w2 (fun x => wr.heap.size ≤ x) u t)
    (h1 : wr.ownsRow (b + 1) 104 1 tv ts.length us) (h2 : RTerms wr (fun x => b < x ∧ some x ≠ tv.ownBlock) us ts)
    (ho : w4.ownsRow (b + 1) 104 1 (.slice (some ⟨g, 0, none⟩) (ts.length + 1) cap) (ts.length + 1) (us ++ [u])) (hg : (w2.alloc o).grownBy w4 tv.ownBlock) (hlies : tv.ownBlock = some g ∨ g = (w2.alloc o).heap.size) :
    w4.heap[b]? = some (.cells #[.int .i64 (op : Int), .int .i64 lv, tv] 170 (0, 0)) ∧
    TakesAt w (w4.setCell ⟨b, 2, none⟩ (.slice (some ⟨g, 0, none⟩) (ts.length + 1) cap)) b op lv (.slice (some ⟨g, 0, none⟩) (ts.length + 1) cap) (ts ++ [t]) := by
  have hbl := (Array.getElem?_eq_some_iff.1 h.box).1
  have hs2 := hb.size
  have hsa : (w2.alloc o).heap.size = w2.heap.size + 1 := by simp
  have htv : ∀ k, tv.ownBlock = some k → b + 1 ≤ k ∧ k < wr.heap.size := own_lt h1
  have hgb : b < g := by
    rcases hlies with e | e
    · have := htv g e; omega
    · omega
  have at_ : ∀ x, x < w2.heap.size → some x ≠ tv.ownBlock → w4.heap[x]? = w2.heap[x]? := fun x hx hne =>
    (hg.block x (by omega) hne).trans (heap_alloc_old _ _ hx)
  have hbox4 : w4.heap[b]? = some (.cells #[.int .i64 (op : Int), .int .i64 lv, tv] 170 (0, 0)) :=
    (at_ b (by omega) (fun e => by have := htv b e.symm; omega)).trans ((hb.block b hbl).trans h.box)
  refine ⟨hbox4, ?_, ⟨us ++ [u], ?_, ?_⟩, ?_, h.ge⟩
  · exact blk_set' hbox4 2 _
  · rw [List.length_append]
    exact ownsRow_setCell_below ho (by show b < b + 1; omega) _
  · have hset : ∀ x, b < x → (w4.setCell ⟨b, 2, none⟩ (.slice (some ⟨g, 0, none⟩) (ts.length + 1) cap)).heap[x]? = w4.heap[x]? := fun x hx => Below.heap_setCell w4 ⟨b, 2, none⟩ _ x (by show x ≠ b; omega)
    refine RTerms.snoc ?_ ?_
    · refine ht.keep fun x hx hl => ?_
      have hne : some x ≠ tv.ownBlock := fun e => by have := htv x e.symm; omega
      refine ⟨⟨by omega, fun e => ?_⟩, (hset x (by omega)).trans (at_ x hl hne)⟩
      simp only [Value.ownBlock] at e
      injection e with e
      rcases hlies with e' | e'
      · exact hne (by rw [e', e])
      · omega
    · refine h2.keep fun x hx hl => ?_
      refine ⟨⟨hx.1, fun e => ?_⟩, (hset x hx.1).trans ((at_ x (by omega) hx.2).trans (hb.block x hl))⟩
      simp only [Value.ownBlock] at e
      injection e with e
      rcases hlies with e' | e'
      · exact hx.2 (by rw [e', e])
      · omega
  · have hbel2 : Below w.heap.size w (w2.alloc o) := (h.bel.trans (hb.mono h.bel.size)).alloc (by have := h.bel.size; omega) o
    exact (hbel2.grown hg (by have := h.bel.size; omega) (fun k e => by have := htv k e; have := h.ge; omega)).setCell (by show w.heap.size ≤ b; exact h.ge) _
/-- done: the operation with its terms -/
theorem TakesAt.done {w wr : World} {b op : Nat} {lv : Int} {tv : Value} {ts : List Tm} (h : TakesAt w wr b op lv tv ts) : RTerm wr (fun x => w.heap.size ≤ x) (.iface 170 (.agg #[.int .i64 (op : Int), .int .i64 lv, tv])) (.node op lv ts) := by
  obtain ⟨us, h1, h2⟩ := h.own
  obtain ⟨A, c, rfl, a1, a2, a3⟩ := own_reads h1
  unfold RTerm
  refine ⟨A, c, us, rfl, a1, a2, h2.length, fun j u hj => ?_, h2.keep fun x hx _ => ⟨by have := h.ge; omega, rfl⟩⟩
  obtain ⟨b', o, e, hc⟩ := a3 j u hj
  refine ⟨b', o, e, ?_, hc⟩
  have := own_lt h1 b' (by rw [e]; rfl)
  have := h.ge
  omega
theorem at_blk {w : World} {b : Nat} {cs : Array Value} {t : TypeId} (h : w.heap[b]? = some (.cells cs t (0, 0))) (i : Nat) : w.cell? ⟨b, i, none⟩ = cs[i]? := by simp [World.cell?, h]
theorem at_free {w : World} {b : Nat} {cs : Array Value} {t : TypeId} (h : w.heap[b]? = some (.cells cs t (0, 0))) (i : Nat) : w.frozen? ⟨b, i, none⟩ = false := by simp [World.frozen?, h]

/-- wherever rv reads as r, bv reads as b -/
def SufOf (rv bv : Value) (r b : List Int) : Prop := (∃ A c, bv = .slice A b.length c) ∧ ∀ w' : World, RInts w' rv r → RInts w' bv b
theorem SufOf.refl {w : World} {rv : Value} {r : List Int} (h : RInts w rv r) : SufOf rv rv r r := by
  obtain ⟨A, c, e, -⟩ := h.form; exact ⟨⟨A, c, e⟩, fun _ h => h⟩
theorem SufOf.trans {a b c : Value} {x y z : List Int} (h : SufOf a b x y) (k : SufOf b c y z) : SufOf a c x z := ⟨k.1, fun w' hw => k.2 w' (h.2 w' hw)⟩
/-- 'row[1:]' -/
theorem SufOf.tail {b o c : Nat} {n : Int} {rest : List Int} {A : Option Addr} (hA : A = some ⟨b, o + 1, none⟩ ∨ c - 1 = 0) : SufOf (.slice (some ⟨b, o, none⟩) (n :: rest).length c) (.slice A rest.length (c - 1)) (n :: rest) rest := by
  refine ⟨⟨_, _, rfl⟩, fun w' h => ?_⟩
  obtain ⟨A', c', e, h1, h2, h3⟩ := h
  cases e
  simp only [List.length_cons] at h1
  refine ⟨A, c - 1, rfl, by omega, by omega, fun j x hj => ?_⟩
  obtain ⟨b', o', e, hc⟩ := h3 (j + 1) x (by simpa using hj)
  cases e
  have hjl := (List.getElem?_eq_some_iff.1 hj).1
  rcases hA with rfl | h0
  · exact ⟨b, o + 1, rfl, by rw [← hc]; congr 2; omega⟩
  · omega
end

section
open Go.RowKit
set_option linter.unusedVariables false

theorem three_cells (w : World) (a b c : Value) (t : TypeId) : (w.alloc (.cells #[a, b, c] t)).cell? ⟨w.heap.size, 0, none⟩ = some a ∧ (w.alloc (.cells #[a, b, c] t)).cell? ⟨w.heap.size, 1, none⟩ = some b ∧ (w.alloc (.cells #[a, b, c] t)).cell? ⟨w.heap.size, 2, none⟩ = some c := by
  refine ⟨?_, ?_, ?_⟩ <;> (rw [World.cell?_alloc_at _ _ _ _ rfl]; rfl)
theorem m_letterSort (k of : Int) (w : World) : (method 319 167 (.agg #[.int .i64 k, .int .i64 of]) "loop.example/theorymodules/impl.sort").run Try.prog w = .ok (177, .agg #[.int .i64 k, .int .i64 of]) w := by kernel_rfl
theorem m_opSort (op lv : Int) (A : Option Addr) (n c : Nat) (w : World) : (method 319 170 (.agg #[.int .i64 op, .int .i64 lv, .slice A n c]) "loop.example/theorymodules/impl.sort").run Try.prog w = .ok (180, .agg #[.int .i64 op, .int .i64 lv, .slice A n c]) w := by kernel_rfl
theorem letterSort_any (k of : Int) (w : World) :
    Calls Try.prog 177 #[.agg #[.int .i64 k, .int .i64 of]] w fun e w' => e = .returned (.int .i64 of) ∧ Below w.heap.size w w' := by
  have hx := (box_cells w (.int .i64 k) (.int .i64 of) 167).2
  go_enter Try.func177, Try.ntmps177
  go_wp2
  go_ret
  exact ⟨rfl, below_alloc _ _⟩
theorem opSort_any (op lv : Int) (x : Value) (w : World) (hx : ∃ A n c, x = .slice A n c) :
    Calls Try.prog 180 #[.agg #[.int .i64 op, .int .i64 lv, x]] w fun e w' => e = .returned (.int .i64 lv) ∧ Below w.heap.size w w' := by
  obtain ⟨A, n, c, rfl⟩ := hx
  have hx := (three_cells w (.int .i64 op) (.int .i64 lv) (.slice A n c) 170).2.1
  go_enter Try.func180, Try.ntmps180
  go_wp2
  go_ret
  exact ⟨rfl, below_alloc _ _⟩

/-- the method of a term's value that tells its sort -/
theorem RTerm.sorts {w : World} {M : Nat → Prop} {v : Value} {t : Tm} (h : RTerm w M v t) : ∃ (T : TypeId) (x : Value) (fid : FuncId), v = .iface T x ∧ (∀ w' : World, (method 319 T x "loop.example/theorymodules/impl.sort").run Try.prog w' = .ok (fid, x) w') ∧ (∀ w' : World, (callFunc fid #[x]).run Try.prog w' = .ok (.enter fid #[x]) w') ∧
    ∀ w' : World, Calls Try.prog fid #[x] w' fun e w'' => e = .returned (.int .i64 t.sort) ∧ Below w'.heap.size w' w'' := by
  rcases h.form with ⟨k, of, rfl, e⟩ | ⟨op, lv, A, n, c, rfl, e⟩
  · exact ⟨_, _, _, rfl, fun w' => m_letterSort k of w', fun w' => by kernel_rfl, fun w' => by rw [e]; exact letterSort_any k of w'⟩
  · exact ⟨_, _, _, rfl, fun w' => m_opSort op lv A n c w', fun w' => by kernel_rfl, fun w' => by rw [e]; exact opSort_any op lv _ w' ⟨A, n, c, rfl⟩⟩

def ReadPost (rv : Value) (r : List Int) (res : Option (Tm × List Int)) (w : World) (e : Ending) (w' : World) : Prop :=
  (match res with
    | some (tm, b) => ∃ u bv, e = .returned (.tuple #[u, bv, .bool true]) ∧ RTerm w' (fun x => w.heap.size ≤ x) u tm ∧ SufOf rv bv r b
    | none => e = .returned (.tuple #[.nilIface, .slice none 0 0, .bool false])) ∧ Below w.heap.size w w'
def nodeM (s : MSig) (vars : List Int) (f op : Nat) (r : List Int) : Option (Tm × List Int) :=
  match argsM (firstM s vars f) (opRow s op).dropLast r with
  | none => none
  | some (ts, b) => some (.node op ((opRow s op).getLastD (-1)) ts, b)
def FirstAt (s : MSig) (vars : List Int) (f : Nat) : Prop := ∀ (r : List Int) (w : World) (v vv rv : Value), r.length ≤ f → Small r → RSig w v s → RInts w vv vars → RInts w rv r →
  Calls Try.prog 73 #[v, vv, rv] w (ReadPost rv r (firstM s vars f r) w)
theorem args_small {s : MSig} {vars : List Int} {f : Nat} {ss r : List Int} {ts : List Tm} {b : List Int} (h : argsM (firstM s vars f) ss r = some (ts, b)) (hs : Small r) : Small b := by
  obtain ⟨h1, h2⟩ := argsM_sound (firstM_sound f) _ _ _ _ h
  intro x hx
  exact hs x (by rw [h1]; exact List.mem_append_right _ hx)
theorem args_shorter {s : MSig} {vars : List Int} {f : Nat} {ss r : List Int} {ts : List Tm} {b : List Int} (h : argsM (firstM s vars f) ss r = some (ts, b)) : b.length ≤ r.length ∧ ts.length = ss.length := by
  obtain ⟨h1, h2⟩ := argsM_sound (firstM_sound f) _ _ _ _ h
  refine ⟨by rw [h1]; simp, ?_⟩
  clear h h1
  induction ts generalizing ss with
  | nil => unfold wfTs at h2; subst h2; rfl
  | cons t ts ih => unfold wfTs at h2; obtain ⟨x, ss', rfl, -, -, h4⟩ := h2; simp [ih h4]

set_option maxHeartbeats 800000 in
set_option maxRecDepth 100000 in
theorem opWithTerms_any (s : MSig) (vars : List Int) (hv : varsB s vars = true) (f : Nat) (ih : FirstAt s vars f) (op : Nat) (hop : op < s.ops.length) (r : List Int) (w : World) (v vv rv : Value) (hr : r.length ≤ f) (hsm : Small r)
    (h1 : RSig w v s) (h2 : RInts w vv vars) (h3 : RInts w rv r) :
    Calls Try.prog 131 #[v, vv, .int .i64 (op : Int), rv] w (ReadPost rv r (nodeM s vars f op r) w) := by
  obtain ⟨i0, hi0, hz0, hz1, hz2⟩ := info_parts (show (Try.prog.info? 104).map (fun i => (i.zero, i.size, i.bytes)) = some (some .nilIface, 1, 16) by kernel_rfl)
  obtain ⟨u, rfl, hrr⟩ := h1
  obtain ⟨sorts, ops⟩ := s
  simp only at hop
  have hrow := opRow_valid (vars_valid hv).1 (k := op) hop
  rw [opRow_at hop] at hrow
  simp only at hrow
  have hN : nodeM ⟨sorts, ops⟩ vars f op r = (match argsM (firstM ⟨sorts, ops⟩ vars f) ops[op].dropLast r with
    | none => none
    | some (ts, b) => some (.node op (ops[op].getLastD (-1)) ts, b)) := by
    unfold nodeM; rw [opRow_at hop]
  have hn := hrr.len
  obtain ⟨A, c, rfl, -⟩ := hrr.form
  have hb1 := below_alloc w (.cells #[.int .i64 sorts, .slice A ops.length c] 25)
  have hbx := box_cells w (.int .i64 sorts) (.slice A ops.length c) 25
  obtain ⟨b, o, c', u', e, hcell, hri⟩ := (hrr.keep hb1).at_ hop
  cases e
  have hHS := Lib.hid (show RSig (w.alloc (.cells #[.int .i64 sorts, .slice (some ⟨b, o, none⟩) ops.length c] 25)) (.agg #[.int .i64 sorts, .slice (some ⟨b, o, none⟩) ops.length c]) ⟨sorts, ops⟩ from ⟨_, rfl, hrr.keep hb1⟩)
  generalize ops[op] = row at hcell hri hrow hN
  have hr1 := hrow.1
  have hr3 := hrow.2.1
  rw [last_at (by omega)] at hN
  obtain ⟨b', o', c3, rfl, hx⟩ := hri.at_ (k := row.length - 1) (by omega)
  generalize row[row.length - 1]'(by omega) = lv at hx hN
  have HN := Lib.hid hN
  have HRI := Lib.hid hri
  have HB1 := Lib.hid hb1
  have HV2 := Lib.hid (h2.keep hb1)
  have HV3 := Lib.hid (h3.keep hb1)
  obtain ⟨A2, c2, rfl, -⟩ := h2.form
  obtain ⟨A3, c4, rfl, -⟩ := h3.form
  have f0 := hbx.1
  have f1 := hbx.2
  have HIH := Lib.hid ih
  have HSM := Lib.hid hsm
  clear hN hri hb1 h2 h3 hrr hbx hrow ih hv hsm
  obtain ⟨n, hnl⟩ : ∃ n, row.length = n + 1 := ⟨row.length - 1, by omega⟩
  rw [show row.length - 1 = n by omega] at hx
  rw [hnl] at hcell
  have HC3 : Hid (n + 1 ≤ c3) := by obtain ⟨A', c', e, q1, q2⟩ := HRI.out.form; cases e; unfold Hid; omega
  have hb2 := below_alloc (w.alloc (.cells #[.int .i64 sorts, .slice (some ⟨b, o, none⟩) ops.length c] 25)) (.cells #[.int .i64 (op : Int), .int .i64 lv, .slice none 0 0] 170)
  have g0 := cell_keep hb2 f0
  have g1 := cell_keep hb2 f1
  have g2 := cell_keep hb2 hcell
  have HB2 := Lib.hid hb2
  clear hb2
  have hc3 : (n : Int) ≤ (c3 : Int) := by have := HC3.out; omega
  have hc3' : n ≤ c3 := by have := HC3.out; omega
  have hst := TakesAt.start (w := w) (op := op) (lv := lv) (wr := (w.alloc (.cells #[.int .i64 sorts, .slice (some ⟨b, o, none⟩) ops.length c] 25)).alloc (.cells #[.int .i64 (op : Int), .int .i64 lv, .slice none 0 0] 170)) (b := w.heap.size + 1)
    ((congrArg (fun i => ((w.alloc (.cells #[.int .i64 sorts, .slice (some ⟨b, o, none⟩) ops.length c] 25)).alloc (.cells #[.int .i64 (op : Int), .int .i64 lv, .slice none 0 0] 170)).heap[i]?) (by simp)).trans (heap_alloc_new (w.alloc (.cells #[.int .i64 sorts, .slice (some ⟨b, o, none⟩) ops.length c] 25)) _)) (HB1.out.trans (HB2.out.mono (by simp))) (by omega)
  have HST := Lib.hid hst
  have HF := Lib.hid (And.intro f0 (And.intro f1 hcell))
  clear hst
  go_enter Try.func131, Try.ntmps131
  go_wp2
  clear f0 f1 hcell g0 g1 g2 hx
  go_loopw [3, 14, 15, 16, 17, 43] (fun r3 s14 t15 b16 k17 i43 wr => ∃ (k : Nat) (tv : Value) (ts : List Tm) (rk : List Int), k ≤ n ∧ i43 = .int .i64 k ∧ SufOf (.slice A3 r.length c4) r3 r rk ∧ argsM (firstM ⟨sorts, ops⟩ vars f) (row.dropLast.take k) r = some (ts, rk) ∧ TakesAt w wr (w.heap.size + 1) op lv tv ts ∧ Below (w.heap.size + 1) (w.alloc (.cells #[.int .i64 sorts, .slice (some ⟨b, o, none⟩) ops.length c] 25)) wr) (fun _ _ _ _ _ i _ => n - (intOf i).toNat)
  case atStart => exact ⟨0, _, [], r, Nat.zero_le _, rfl, SufOf.refl HV3.out, rfl, HST.out, HB2.out.mono (by simp)⟩
  case round =>
    obtain ⟨k, tv, ts, rk, hk, rfl, hrk, harg, htk, hbw⟩ := hrel
    have hbw' : Below (w.alloc (.cells #[.int .i64 sorts, .slice (some ⟨b, o, none⟩) ops.length c] 25)).heap.size (w.alloc (.cells #[.int .i64 sorts, .slice (some ⟨b, o, none⟩) ops.length c] 25)) wr := by simpa using hbw
    have f0 := cell_keep hbw' HF.out.1
    have f1 := cell_keep hbw' HF.out.2.1
    have HBW := Lib.hid hbw'
    have HARG := Lib.hid harg
    have HTK := Lib.hid htk
    have HSUF := Lib.hid hrk
    have HRK := Lib.hid (hrk.2 _ (HV3.out.keep hbw'))
    obtain ⟨A5, c5, rfl⟩ := hrk.1
    have hkl := (args_shorter harg).2
    rw [List.length_take, List.length_dropLast] at hkl
    have HKL := Lib.hid (show ts.length = k by omega)
    have hwsz := htk.bel.size
    clear hbw hbw' harg htk hrk HST hkl
    by_cases hlt : k < n
    · obtain ⟨b2, o2, c6, e, hx⟩ := (HRI.out.keep HBW.out).at_ (k := k) (by omega)
      cases e
      have hstep := argsM_step (ss := row.dropLast) (by rw [List.length_dropLast]; omega) HARG.out
      rw [List.getElem_dropLast] at hstep
      generalize row[k]'(by omega) = x at hx hstep
      have HSTEP := Lib.hid hstep
      clear hstep
      have hlt' : (k : Int) < (n : Int) := by omega
      go_wp2_with fail
      refine (HIH.out rk _ _ _ _ (Nat.le_trans (args_shorter HARG.out).1 hr) (args_small HARG.out HSM.out) (hHS.out.keep HBW.out) (HV2.out.keep HBW.out) HRK.out).mono ?_
      rintro e w2 ⟨hm, hb⟩
      have HB := Lib.hid hb
      clear hb
      cases hf : firstM ⟨sorts, ops⟩ vars f rk with
      | none =>
        rw [hf] at hm
        simp only at hm
        subst hm
        have HFN := Lib.hid hf
        clear hf
        go_wp2
        refine bodyPost_ret (v := .tuple #[.nilIface, .slice none 0 0, .bool false]) (by simp [results, Try.results131, go_sem]) rfl ?_
        have h := HSTEP.out
        rw [HFN.out] at h
        rw [HN.out, argsM_take_none h]
        exact ⟨rfl, HTK.out.bel.trans (HB.out.mono HTK.out.bel.size)⟩
      | some q =>
        obtain ⟨t, rb⟩ := q
        rw [hf] at hm
        simp only at hm
        obtain ⟨u, bv, rfl, hu, hbv⟩ := hm
        have HFS := Lib.hid hf
        have HU := Lib.hid hu
        have HBV := Lib.hid hbv
        obtain ⟨A6, c7, rfl⟩ := hbv.1
        clear hf hbv
        obtain ⟨T, y, fid, rfl, hms, hcf, hsc⟩ := hu.sorts
        have HSC := Lib.hid hsc
        clear hu hsc
        go_wp2_with fail
        refine (HSC.out _).mono ?_
        rintro e w3 ⟨rfl, hb3⟩
        have HB3 := Lib.hid (HB.out.trans (hb3.mono HB.out.size))
        have HU3 := Lib.hid (HU.out.below hb3)
        have f03 := cell_keep HB3.out f0
        have f13 := cell_keep HB3.out f1
        clear hb3 hms hcf HSC f0 f1 hx
        by_cases hts : t.sort = x
        · subst hts
          have h := HSTEP.out
          rw [HFS.out] at h
          simp only [if_true] at h
          have HNEXT := Lib.hid h
          clear h
          obtain ⟨us, hus, hrt⟩ := HTK.out.own
          obtain ⟨A9, c9, rfl, -⟩ := own_reads hus
          have HOWN := Lib.hid hus
          have HRT := Lib.hid hrt
          have hbox := (HB3.out.block _ (Array.getElem?_eq_some_iff.1 HTK.out.box).1).trans HTK.out.box
          have e2 := at_blk hbox 2
          simp at e2
          have hown3 := (own_keep HOWN.out HB3.out).alloc (.cells #[.iface T y] 104)
          rw [HKL.out] at hown3 e2
          have e3 := at_free hbox 2
          have f3 : (w3.alloc (.cells #[.iface T y] 104)).cell? ⟨w3.heap.size, 0, none⟩ = some (.iface T y) := by
            rw [World.cell?_alloc_at _ _ _ _ rfl]; rfl
          have hsz3 := HB3.out.size
          have hbl2 := (Array.getElem?_eq_some_iff.1 HTK.out.box).1
          clear hus hrt hbox
          go_wp2_with (at_builtin; refine wpList_append_lies _ rfl _ _ 168 rfl (w.heap.size + 1 + 1) 104 i0 .nilIface 1 16 Try.underlying168 hi0 hz0 hz1 hz2 rfl (by decide) _ _ _ rfl hown3 ⟨w3.heap.size, 0, none⟩ 1 1 [.iface T y] rfl rfl ?c1 ?c2 (by decide) ?c3 ?c4 ?c5 _ rfl ?_)
          case c1 => intro j u hj; match j, hj with | 0, hj => simp at hj; subst hj; simp [Addr.add]
          case c2 => intro u hu; simp at hu; subst hu; rfl
          case c3 => rw [maxLen_eq]; omega
          case c4 => omega
          case c5 => simp; omega
          intro g cap w4 hown4 hgrow4 hlies hlt4
          rw [← HKL.out] at hown4 hgrow4 hlies
          obtain ⟨hbox4, hnext⟩ := HTK.out.push HB3.out (HU3.out.keep fun x hx hl => ⟨by have := HB.out.size; omega, rfl⟩) HOWN.out HRT.out hown4 hgrow4 (by simpa using hlies)
          rw [HKL.out] at hbox4
          have hbel4 := Lib.hid (((((HBW.out.mono (show w.heap.size + 1 ≤ _ by simp)).trans (HB3.out.mono (by omega))).alloc (by omega) (.cells #[.iface T y] 104)).grown hgrow4 (by simp; omega) (fun k e => by have := own_lt HOWN.out k e; omega)).setCell (p := ⟨w.heap.size + 1, 2, none⟩) (Nat.le_refl _) (.slice (some ⟨g, 0, none⟩) (ts.length + 1) cap))
          have HNX := Lib.hid hnext
          have e4 := at_blk hbox4 2
          have e5 := at_free hbox4 2
          simp at e4
          clear hbox4 hnext hown4 hgrow4 hlies hown3 f3 e2 e3 f03 f13
          rw [HKL.out] at hbel4 HNX
          go_wp2
          go_roundw
          case rel => exact ⟨k + 1, _, ts ++ [t], rb, by omega, by go_num, HSUF.out.trans HBV.out, HNEXT.out, HNX.out, hbel4.out⟩
          case measure => simp [intOf]; omega
        · have h := HSTEP.out
          rw [HFS.out] at h
          simp only [if_neg hts] at h
          have HNONE := Lib.hid (argsM_take_none h)
          clear h
          generalize t.sort = q at hts ⊢
          go_wp2
          refine bodyPost_ret (v := .tuple #[.nilIface, .slice none 0 0, .bool false]) (by simp [results, Try.results131, go_sem]) rfl ?_
          rw [HN.out, HNONE.out]
          exact ⟨rfl, HTK.out.bel.trans (HB3.out.mono hwsz)⟩
    · have hkn : k = n := by omega
      have h := HARG.out
      rw [take_all (by rw [List.length_dropLast]; omega)] at h
      have HARG2 := Lib.hid h
      have hbox := HTK.out.box
      have e0 := at_blk hbox 0
      have e1 := at_blk hbox 1
      have e2 := at_blk hbox 2
      simp at e0 e1 e2
      clear h hbox
      go_wp2
      refine bodyPost_ret (v := .tuple #[.iface 170 (.agg #[.int .i64 (op : Int), .int .i64 lv, tv]), .slice A5 rk.length c5, .bool true]) (by simp [results, Try.results131, go_sem]) rfl ?_
      rw [HN.out, HARG2.out]
      exact ⟨⟨_, _, rfl, HTK.out.done, HSUF.out⟩, HTK.out.bel⟩
end
end Go.Proofs.Yticldaddbljleaa
