/- MapOk of both packages. -/
import Derived.Test.YticldaddbljleaaKfa5be1ed
namespace Go.Proofs.Yticldaddbljleaa
section
open Go.RowKit
set_option linter.unusedVariables false
set_option linter.unusedSimpArgs false

theorem map_drew {a w : World} {B : Nat} (h : Below B a w) : Below B a w.drew := ⟨h.os, h.tape, h.output, h.size, h.block⟩
theorem map_undrew {w w' : World} (h : Below w.drew.heap.size w.drew w') : Below w.heap.size w w' := ⟨h.os, h.tape, h.output, h.size, h.block⟩
theorem ledOp_neg {a b : MSig} {m : MMap} {k : Nat} (hk : k < m.ops.length) (h : m.ops[k] < 0) : ledOp a b m k = false := by
  unfold ledOp; rw [getD_at _ hk]; simp; omega
theorem ledOp_big {a b : MSig} {m : MMap} {k : Nat} (hk : k < m.ops.length) (h : (b.ops.length : Int) ≤ m.ops[k]) : ledOp a b m k = false := by
  unfold ledOp; rw [getD_at _ hk]; simp; omega
theorem ledOp_in {a b : MSig} {m : MMap} {k n : Nat} (hk : k < m.ops.length) (ha : k < a.ops.length) (hn : m.ops[k] = (n : Int)) (hb : n < b.ops.length) : ledOp a b m k = decide (ledM m.sorts a.ops[k] = b.ops[n]) := by
  unfold ledOp
  rw [getD_at _ hk, getD_at _ ha, hn, Int.toNat_natCast, getD_at _ hb]
  simp; omega

set_option maxHeartbeats 3200000 in
set_option maxRecDepth 100000 in
theorem mapOk_any (a b : MSig) (m : MMap) (w : World) (va vb vm : Value) (h1 : RSig w va a) (h2 : RSig w vb b) (h3 : RMap w vm m) :
    Calls Try.prog 79 #[va, vb, vm] w fun x w' => x = .returned (.bool (mapOkB a b m)) ∧ Below w.heap.size w w' := by
  obtain ⟨Aaa, caa, rfl⟩ := h1.form
  obtain ⟨Aba, cba, rfl⟩ := h2.form
  obtain ⟨Ama, cma, Amb, cmb, rfl⟩ := h3.form
  have hb : Below w.heap.size w (((w.alloc (.cells #[.int .i64 a.sorts, .slice Aaa a.ops.length caa] 25)).alloc (.cells #[.int .i64 b.sorts, .slice Aba b.ops.length cba] 25)).alloc (.cells #[.slice Ama m.sorts.length cma, .slice Amb m.ops.length cmb] 39)) := ((below_alloc _ _).alloc (by simp) _).alloc (by simp; omega) _
  have HB := Lib.hid hb
  have hsz : (((w.alloc (.cells #[.int .i64 a.sorts, .slice Aaa a.ops.length caa] 25)).alloc (.cells #[.int .i64 b.sorts, .slice Aba b.ops.length cba] 25)).alloc (.cells #[.slice Ama m.sorts.length cma, .slice Amb m.ops.length cmb] 39)).heap.size = w.heap.size + 3 := by simp
  have Ha := Lib.hid (h1.keep hb)
  have a0 := cell_keep (below_alloc ((w.alloc (.cells #[.int .i64 a.sorts, .slice Aaa a.ops.length caa] 25)).alloc (.cells #[.int .i64 b.sorts, .slice Aba b.ops.length cba] 25)) (.cells #[.slice Ama m.sorts.length cma, .slice Amb m.ops.length cmb] 39)) (cell_keep (below_alloc (w.alloc (.cells #[.int .i64 a.sorts, .slice Aaa a.ops.length caa] 25)) (.cells #[.int .i64 b.sorts, .slice Aba b.ops.length cba] 25)) (bx_at (w) #[.int .i64 a.sorts, .slice Aaa a.ops.length caa] 25 (k := 0) rfl))
  have a1 := cell_keep (below_alloc ((w.alloc (.cells #[.int .i64 a.sorts, .slice Aaa a.ops.length caa] 25)).alloc (.cells #[.int .i64 b.sorts, .slice Aba b.ops.length cba] 25)) (.cells #[.slice Ama m.sorts.length cma, .slice Amb m.ops.length cmb] 39)) (cell_keep (below_alloc (w.alloc (.cells #[.int .i64 a.sorts, .slice Aaa a.ops.length caa] 25)) (.cells #[.int .i64 b.sorts, .slice Aba b.ops.length cba] 25)) (bx_at (w) #[.int .i64 a.sorts, .slice Aaa a.ops.length caa] 25 (k := 1) rfl))
  have Hb := Lib.hid (h2.keep hb)
  have b0 := cell_keep (below_alloc ((w.alloc (.cells #[.int .i64 a.sorts, .slice Aaa a.ops.length caa] 25)).alloc (.cells #[.int .i64 b.sorts, .slice Aba b.ops.length cba] 25)) (.cells #[.slice Ama m.sorts.length cma, .slice Amb m.ops.length cmb] 39)) (bx_at (w.alloc (.cells #[.int .i64 a.sorts, .slice Aaa a.ops.length caa] 25)) #[.int .i64 b.sorts, .slice Aba b.ops.length cba] 25 (k := 0) rfl)
  have b1 := cell_keep (below_alloc ((w.alloc (.cells #[.int .i64 a.sorts, .slice Aaa a.ops.length caa] 25)).alloc (.cells #[.int .i64 b.sorts, .slice Aba b.ops.length cba] 25)) (.cells #[.slice Ama m.sorts.length cma, .slice Amb m.ops.length cmb] 39)) (bx_at (w.alloc (.cells #[.int .i64 a.sorts, .slice Aaa a.ops.length caa] 25)) #[.int .i64 b.sorts, .slice Aba b.ops.length cba] 25 (k := 1) rfl)
  have Hm := Lib.hid (h3.keep hb)
  have m0 := bx_at ((w.alloc (.cells #[.int .i64 a.sorts, .slice Aaa a.ops.length caa] 25)).alloc (.cells #[.int .i64 b.sorts, .slice Aba b.ops.length cba] 25)) #[.slice Ama m.sorts.length cma, .slice Amb m.ops.length cmb] 39 (k := 0) rfl
  have m1 := bx_at ((w.alloc (.cells #[.int .i64 a.sorts, .slice Aaa a.ops.length caa] 25)).alloc (.cells #[.int .i64 b.sorts, .slice Aba b.ops.length cba] 25)) #[.slice Ama m.sorts.length cma, .slice Amb m.ops.length cmb] 39 (k := 1) rfl
  simp only [World.size_alloc] at b0 b1 m0 m1
  generalize hW : ((w.alloc (.cells #[.int .i64 a.sorts, .slice Aaa a.ops.length caa] 25)).alloc (.cells #[.int .i64 b.sorts, .slice Aba b.ops.length cba] 25)).alloc (.cells #[.slice Ama m.sorts.length cma, .slice Amb m.ops.length cmb] 39) = W at HB hsz Ha a0 a1 Hb b0 b1 Hm m0 m1
  clear hb h1 h2 h3
  have hl1 := Ha.out.of.2.len
  have hl2 := Hb.out.of.2.len
  have hl3 := Hm.out.of.1.len
  have hl4 := Hm.out.of.2.len
  cases hva : validB a with
  | false =>
    have HA := Lib.hid hva
    have HE := Lib.hid (mapOk_no1 (b := b) (m := m) hva)
    clear hva
    go_enter Try.func79, Try.ntmps79
    go_wp2_with fail
    clear hW
    refine (sigValid_any _ a _ Ha.out).mono ?_
    rw [HA.out]
    rintro e w1 ⟨rfl, hb⟩
    replace HB := Lib.hid (sz_keep HB.out hb)
    replace a0 := cell_keep hb a0
    replace a1 := cell_keep hb a1
    replace b0 := cell_keep hb b0
    replace b1 := cell_keep hb b1
    replace m0 := cell_keep hb m0
    replace m1 := cell_keep hb m1
    replace Ha := Lib.hid (Ha.out.keep hb)
    replace Hb := Lib.hid (Hb.out.keep hb)
    replace Hm := Lib.hid (Hm.out.keep hb)
    clear hb
    go_wp2
    go_ret
    exact ⟨ret_bool HE.out.symm, HB.out⟩
  | true =>
    have HA := Lib.hid hva
    have hsa := valid_sorts hva
    clear hva
    cases hvb : validB b with
    | false =>
      have HV := Lib.hid hvb
      have HE := Lib.hid (mapOk_no2 (a := a) (m := m) hvb)
      clear hvb
      go_enter Try.func79, Try.ntmps79
      go_wp2_with fail
      clear hW
      refine (sigValid_any _ a _ Ha.out).mono ?_
      rw [HA.out]
      rintro e w1 ⟨rfl, hb⟩
      replace HB := Lib.hid (sz_keep HB.out hb)
      replace a0 := cell_keep hb a0
      replace a1 := cell_keep hb a1
      replace b0 := cell_keep hb b0
      replace b1 := cell_keep hb b1
      replace m0 := cell_keep hb m0
      replace m1 := cell_keep hb m1
      replace Ha := Lib.hid (Ha.out.keep hb)
      replace Hb := Lib.hid (Hb.out.keep hb)
      replace Hm := Lib.hid (Hm.out.keep hb)
      clear hb
      go_wp2_with fail
      refine (sigValid_any _ b _ Hb.out).mono ?_
      rw [HV.out]
      rintro e w2 ⟨rfl, hb⟩
      replace HB := Lib.hid (sz_keep HB.out hb)
      replace a0 := cell_keep hb a0
      replace a1 := cell_keep hb a1
      replace b0 := cell_keep hb b0
      replace b1 := cell_keep hb b1
      replace m0 := cell_keep hb m0
      replace m1 := cell_keep hb m1
      replace Ha := Lib.hid (Ha.out.keep hb)
      replace Hb := Lib.hid (Hb.out.keep hb)
      replace Hm := Lib.hid (Hm.out.keep hb)
      clear hb
      go_wp2
      go_ret
      exact ⟨ret_bool HE.out.symm, HB.out⟩
    | true =>
      have HV := Lib.hid hvb
      have hsb := valid_sorts hvb
      clear hvb
      by_cases hs : (m.sorts.length : Int) = a.sorts
      · have e1 : ((m.sorts.length : Int) != a.sorts) = false := by simp [hs]
        by_cases ho : m.ops.length = a.ops.length
        · have e2 : ((m.ops.length : Int) != (a.ops.length : Int)) = false := by simp [ho]
          cases hbl : belowB m.sorts b.sorts with
          | false =>
            have HBL := Lib.hid hbl
            have HE := Lib.hid (mapOk_no5 (a := a) hbl)
            clear hbl hs ho
            go_enter Try.func79, Try.ntmps79
            go_wp2_with fail
            clear hW
            refine (sigValid_any _ a _ Ha.out).mono ?_
            rw [HA.out]
            rintro e w1 ⟨rfl, hb⟩
            replace HB := Lib.hid (sz_keep HB.out hb)
            replace a0 := cell_keep hb a0
            replace a1 := cell_keep hb a1
            replace b0 := cell_keep hb b0
            replace b1 := cell_keep hb b1
            replace m0 := cell_keep hb m0
            replace m1 := cell_keep hb m1
            replace Ha := Lib.hid (Ha.out.keep hb)
            replace Hb := Lib.hid (Hb.out.keep hb)
            replace Hm := Lib.hid (Hm.out.keep hb)
            clear hb
            go_wp2_with fail
            refine (sigValid_any _ b _ Hb.out).mono ?_
            rw [HV.out]
            rintro e w2 ⟨rfl, hb⟩
            replace HB := Lib.hid (sz_keep HB.out hb)
            replace a0 := cell_keep hb a0
            replace a1 := cell_keep hb a1
            replace b0 := cell_keep hb b0
            replace b1 := cell_keep hb b1
            replace m0 := cell_keep hb m0
            replace m1 := cell_keep hb m1
            replace Ha := Lib.hid (Ha.out.keep hb)
            replace Hb := Lib.hid (Hb.out.keep hb)
            replace Hm := Lib.hid (Hm.out.keep hb)
            clear hb
            go_wp2_with fail
            refine (sortsBelow_any _ m.sorts b.sorts _ Hm.out.of.1).mono ?_
            rw [HBL.out]
            rintro e w3 ⟨rfl, rfl⟩
            go_wp2
            go_ret
            exact ⟨ret_bool HE.out.symm, HB.out⟩
          | true =>
            have HBL := Lib.hid hbl
            have HS := Lib.hid hs
            have HO := Lib.hid ho
            have hle : m.ops.length ≤ a.ops.length := by omega
            clear hbl hs ho
            go_enter Try.func79, Try.ntmps79
            go_wp2_with fail
            clear hW
            refine (sigValid_any _ a _ Ha.out).mono ?_
            rw [HA.out]
            rintro e w1 ⟨rfl, hb⟩
            replace HB := Lib.hid (sz_keep HB.out hb)
            replace a0 := cell_keep hb a0
            replace a1 := cell_keep hb a1
            replace b0 := cell_keep hb b0
            replace b1 := cell_keep hb b1
            replace m0 := cell_keep hb m0
            replace m1 := cell_keep hb m1
            replace Ha := Lib.hid (Ha.out.keep hb)
            replace Hb := Lib.hid (Hb.out.keep hb)
            replace Hm := Lib.hid (Hm.out.keep hb)
            clear hb
            go_wp2_with fail
            refine (sigValid_any _ b _ Hb.out).mono ?_
            rw [HV.out]
            rintro e w2 ⟨rfl, hb⟩
            replace HB := Lib.hid (sz_keep HB.out hb)
            replace a0 := cell_keep hb a0
            replace a1 := cell_keep hb a1
            replace b0 := cell_keep hb b0
            replace b1 := cell_keep hb b1
            replace m0 := cell_keep hb m0
            replace m1 := cell_keep hb m1
            replace Ha := Lib.hid (Ha.out.keep hb)
            replace Hb := Lib.hid (Hb.out.keep hb)
            replace Hm := Lib.hid (Hm.out.keep hb)
            clear hb
            go_wp2_with fail
            refine (sortsBelow_any _ m.sorts b.sorts _ Hm.out.of.1).mono ?_
            rw [HBL.out]
            rintro e w3 ⟨rfl, rfl⟩
            go_wp2
            have HC := Lib.hid (And.intro a1 (And.intro b1 (And.intro m0 m1)))
            clear a0 a1 b0 b1 m0 m1
            go_loopw [7, 8, 45] (fun p q i wr => ∃ k : Nat, k ≤ m.ops.length ∧ i = .int .i64 k ∧ allLed a b m k = true ∧ Below w2.heap.size w2 wr) (fun _ _ i _ => m.ops.length - (intOf i).toNat)
            case atStart => exact ⟨0, Nat.zero_le _, rfl, allLed_zero _ _ _, Below.refl _ _⟩
            case round =>
              obtain ⟨k, hk, rfl, hal, hd⟩ := hrel
              have HAL := Lib.hid hal
              have HD := Lib.hid hd
              have f1 := cell_keep hd HC.out.1
              have f2 := cell_keep hd HC.out.2.1
              have f3 := cell_keep hd HC.out.2.2.1
              clear hal hd
              by_cases hlt : k < m.ops.length
              · have hlt' : (k : Int) < (m.ops.length : Int) := by omega
                have hka : k < a.ops.length := by omega
                have hka' : (k : Int) < (a.ops.length : Int) := by omega
                have hk0 : (0 : Int) ≤ (k : Int) := by omega
                obtain ⟨b9, o9, c9, e, hx⟩ := (Hm.out.of.2.keep HD.out).at_ hlt
                cases e
                have HN1 := Lib.hid (fun h => ledOp_neg (a := a) (b := b) hlt h)
                have HN2 := Lib.hid (fun h => ledOp_big (a := a) (b := b) hlt h)
                have HN3 := Lib.hid (fun (n : Nat) h1 h2 => ledOp_in (a := a) (b := b) (n := n) hlt hka h1 h2)
                have HBAD := Lib.hid (fun h => mapOk_no6 (a := a) (b := b) hlt h)
                have HSUC := Lib.hid (allLed_succ a b m k)
                have HMI := Lib.hid hlt
                generalize m.ops[k] = x at hx HN1 HN2 HN3
                by_cases hneg : x < 0
                · have HF := Lib.hid (HBAD.out (HN1.out hneg))
                  have e3 : decide (x < 0) = true := by simpa using hneg
                  go_wp2_with fail
                  refine wp_region_held_drew (S := (fun w' => True)) (by kernel_rfl) ?_ (fun hHeld => ?_)
                  · exact trivial
                  refine wpAnyH_take (i := 0) (oi := _) (v := ?_) rfl (by kernel_rfl) (by kernel_rfl) (by kernel_rfl) (fun _ _ _ h => h) (Or.inl ⟨by rfl, ?_⟩) (by assumption) ?_
                  rotate_left
                  · first | (intro w' hSw; (try dsimp only at hSw); go_simp; done) | (intro w' hSw; (try dsimp only at hSw); go_simp; with_reducible rfl)
                  try simp only [Act.put, List.getElem_toArray, List.getElem_cons_zero, List.getElem_cons_succ, List.setIfInBounds_toArray, List.set_cons_zero, List.set_cons_succ]
                  refine wpAnyH_take (i := 1) (oi := _) (v := ?_) rfl (by kernel_rfl) (by kernel_rfl) (by kernel_rfl) (fun _ _ _ h => h) (Or.inl ⟨by rfl, ?_⟩) (by assumption) ?_
                  rotate_left
                  · first | (intro w' hSw; (try dsimp only at hSw); go_simp; done) | (intro w' hSw; (try dsimp only at hSw); go_simp; with_reducible rfl)
                  try simp only [Act.put, List.getElem_toArray, List.getElem_cons_zero, List.getElem_cons_succ, List.setIfInBounds_toArray, List.set_cons_zero, List.set_cons_succ]
                  refine wpAnyH_take (i := 2) (oi := _) (v := ?_) rfl (by kernel_rfl) (by kernel_rfl) (by kernel_rfl) (fun _ _ _ h => h) (Or.inl ⟨by rfl, ?_⟩) (by assumption) ?_
                  rotate_left
                  · first | (intro w' hSw; (try dsimp only at hSw); go_simp; done) | (intro w' hSw; (try dsimp only at hSw); go_simp; with_reducible rfl)
                  try simp only [Act.put, List.getElem_toArray, List.getElem_cons_zero, List.getElem_cons_succ, List.setIfInBounds_toArray, List.set_cons_zero, List.set_cons_succ]
                  refine wpAnyH_take (i := 3) (oi := _) (v := _) rfl (by kernel_rfl) (by kernel_rfl) (by kernel_rfl) (fun _ _ _ h => h) (Or.inr ⟨by rfl, rfl⟩) (by assumption) ?_
                  try simp only [Act.put, List.getElem_toArray, List.getElem_cons_zero, List.getElem_cons_succ, List.setIfInBounds_toArray, List.set_cons_zero, List.set_cons_succ]
                  refine wpAnyH_take (i := 4) (oi := _) (v := _) rfl (by kernel_rfl) (by kernel_rfl) (by kernel_rfl) (fun _ _ _ h => h) (Or.inr ⟨by rfl, rfl⟩) (by assumption) ?_
                  try simp only [Act.put, List.getElem_toArray, List.getElem_cons_zero, List.getElem_cons_succ, List.setIfInBounds_toArray, List.set_cons_zero, List.set_cons_succ]
                  refine wpAnyH_take (i := 5) (oi := _) (v := _) rfl (by kernel_rfl) (by kernel_rfl) (by kernel_rfl) (fun _ _ _ h => h) (Or.inr ⟨by rfl, rfl⟩) (by assumption) ?_
                  try simp only [Act.put, List.getElem_toArray, List.getElem_cons_zero, List.getElem_cons_succ, List.setIfInBounds_toArray, List.set_cons_zero, List.set_cons_succ]
                  refine wpAnyH_take (i := 6) (oi := _) (v := _) rfl (by kernel_rfl) (by kernel_rfl) (by kernel_rfl) (fun _ _ _ h => h) (Or.inr ⟨by rfl, rfl⟩) (by assumption) ?_
                  try simp only [Act.put, List.getElem_toArray, List.getElem_cons_zero, List.getElem_cons_succ, List.setIfInBounds_toArray, List.set_cons_zero, List.set_cons_succ]
                  refine wpAnyH_take (i := 7) (oi := _) (v := _) rfl (by kernel_rfl) (by kernel_rfl) (by kernel_rfl) (fun _ _ _ h => h) (Or.inr ⟨by rfl, rfl⟩) (by assumption) ?_
                  try simp only [Act.put, List.getElem_toArray, List.getElem_cons_zero, List.getElem_cons_succ, List.setIfInBounds_toArray, List.set_cons_zero, List.set_cons_succ]
                  refine wpAnyH_take (i := 8) (oi := _) (v := ?_) rfl (by kernel_rfl) (by kernel_rfl) (by kernel_rfl) (fun _ _ _ h => h) (Or.inl ⟨by rfl, ?_⟩) (by assumption) ?_
                  rotate_left
                  · first | (intro w' hSw; (try dsimp only at hSw); go_simp; done) | (intro w' hSw; (try dsimp only at hSw); go_simp; with_reducible rfl)
                  try simp only [Act.put, List.getElem_toArray, List.getElem_cons_zero, List.getElem_cons_succ, List.setIfInBounds_toArray, List.set_cons_zero, List.set_cons_succ]
                  refine wpAnyH_take (i := 9) (oi := _) (v := ?_) rfl (by kernel_rfl) (by kernel_rfl) (by kernel_rfl) (fun _ _ _ h => h) (Or.inl ⟨by rfl, ?_⟩) (by assumption) ?_
                  rotate_left
                  · first | (intro w' hSw; (try dsimp only at hSw); go_simp; done) | (intro w' hSw; (try dsimp only at hSw); go_simp; with_reducible rfl)
                  try simp only [Act.put, List.getElem_toArray, List.getElem_cons_zero, List.getElem_cons_succ, List.setIfInBounds_toArray, List.set_cons_zero, List.set_cons_succ]
                  refine wpAnyH_take (i := 10) (oi := _) (v := _) rfl (by kernel_rfl) (by kernel_rfl) (by kernel_rfl) (fun _ _ _ h => h) (Or.inr ⟨by rfl, rfl⟩) (by assumption) ?_
                  try simp only [Act.put, List.getElem_toArray, List.getElem_cons_zero, List.getElem_cons_succ, List.setIfInBounds_toArray, List.set_cons_zero, List.set_cons_succ]
                  refine wpAnyH_take (i := 11) (oi := _) (v := _) rfl (by kernel_rfl) (by kernel_rfl) (by kernel_rfl) (fun _ _ _ h => h) (Or.inr ⟨by rfl, rfl⟩) (by assumption) ?_
                  try simp only [Act.put, List.getElem_toArray, List.getElem_cons_zero, List.getElem_cons_succ, List.setIfInBounds_toArray, List.set_cons_zero, List.set_cons_succ]
                  refine wpAnyH_take (i := 12) (oi := _) (v := _) rfl (by kernel_rfl) (by kernel_rfl) (by kernel_rfl) (fun _ _ _ h => h) (Or.inr ⟨by rfl, rfl⟩) (by assumption) ?_
                  try simp only [Act.put, List.getElem_toArray, List.getElem_cons_zero, List.getElem_cons_succ, List.setIfInBounds_toArray, List.set_cons_zero, List.set_cons_succ]
                  refine wpAnyH_take (i := 13) (oi := _) (v := _) rfl (by kernel_rfl) (by kernel_rfl) (by kernel_rfl) (fun _ _ _ h => h) (Or.inr ⟨by rfl, rfl⟩) (by assumption) ?_
                  try simp only [Act.put, List.getElem_toArray, List.getElem_cons_zero, List.getElem_cons_succ, List.setIfInBounds_toArray, List.set_cons_zero, List.set_cons_succ]
                  refine wpAnyH_take (i := 14) (oi := _) (v := _) rfl (by kernel_rfl) (by kernel_rfl) (by kernel_rfl) (fun _ _ _ h => h) (Or.inr ⟨by rfl, rfl⟩) (by assumption) ?_
                  try simp only [Act.put, List.getElem_toArray, List.getElem_cons_zero, List.getElem_cons_succ, List.setIfInBounds_toArray, List.set_cons_zero, List.set_cons_succ]
                  refine wpAnyH_take (i := 15) (oi := _) (v := _) rfl (by kernel_rfl) (by kernel_rfl) (by kernel_rfl) (fun _ _ _ h => h) (Or.inr ⟨by rfl, rfl⟩) (by assumption) ?_
                  try simp only [Act.put, List.getElem_toArray, List.getElem_cons_zero, List.getElem_cons_succ, List.setIfInBounds_toArray, List.set_cons_zero, List.set_cons_succ]
                  refine wpAnyH_take (i := 16) (oi := _) (v := _) rfl (by kernel_rfl) (by kernel_rfl) (by kernel_rfl) (fun _ _ _ h => h) (Or.inr ⟨by rfl, rfl⟩) (by assumption) ?_
                  try simp only [Act.put, List.getElem_toArray, List.getElem_cons_zero, List.getElem_cons_succ, List.setIfInBounds_toArray, List.set_cons_zero, List.set_cons_succ]
                  refine wpAnyH_take (i := 18) (oi := _) (v := _) rfl (by kernel_rfl) (by kernel_rfl) (by kernel_rfl) (fun _ _ _ h => h) (Or.inr ⟨by rfl, rfl⟩) (by assumption) ?_
                  try simp only [Act.put, List.getElem_toArray, List.getElem_cons_zero, List.getElem_cons_succ, List.setIfInBounds_toArray, List.set_cons_zero, List.set_cons_succ]
                  refine wpAnyH_take (i := 19) (oi := _) (v := _) rfl (by kernel_rfl) (by kernel_rfl) (by kernel_rfl) (fun _ _ _ h => h) (Or.inr ⟨by rfl, rfl⟩) (by assumption) ?_
                  try simp only [Act.put, List.getElem_toArray, List.getElem_cons_zero, List.getElem_cons_succ, List.setIfInBounds_toArray, List.set_cons_zero, List.set_cons_succ]
                  refine wpAnyH_take (i := 20) (oi := _) (v := _) rfl (by kernel_rfl) (by kernel_rfl) (by kernel_rfl) (fun _ _ _ h => h) (Or.inr ⟨by rfl, rfl⟩) (by assumption) ?_
                  try simp only [Act.put, List.getElem_toArray, List.getElem_cons_zero, List.getElem_cons_succ, List.setIfInBounds_toArray, List.set_cons_zero, List.set_cons_succ]
                  refine wpAnyH_take (i := 21) (oi := _) (v := _) rfl (by kernel_rfl) (by kernel_rfl) (by kernel_rfl) (fun _ _ _ h => h) (Or.inr ⟨by rfl, rfl⟩) (by assumption) ?_
                  try simp only [Act.put, List.getElem_toArray, List.getElem_cons_zero, List.getElem_cons_succ, List.setIfInBounds_toArray, List.set_cons_zero, List.set_cons_succ]
                  refine wpAnyH_take (i := 22) (oi := _) (v := _) rfl (by kernel_rfl) (by kernel_rfl) (by kernel_rfl) (fun _ _ _ h => h) (Or.inr ⟨by rfl, rfl⟩) (by assumption) ?_
                  try simp only [Act.put, List.getElem_toArray, List.getElem_cons_zero, List.getElem_cons_succ, List.setIfInBounds_toArray, List.set_cons_zero, List.set_cons_succ]
                  refine wpAnyH_ready (rs := [17]) (by kernel_rfl) (by simp) ?_
                  refine AllReadyH.cons (o := _) rfl (fun K hK => ?_) AllReadyH.nil
                  refine ite_off (by rfl) ?_
                  refine hK.out _ _ (by assumption) (fun hHeld => ?_)
                  clear hK K
                  try simp only [Act.put, List.getElem_toArray, List.getElem_cons_zero, List.getElem_cons_succ, List.setIfInBounds_toArray, List.set_cons_zero, List.set_cons_succ]
                  refine wpAnyH_ready (rs := [23]) (by kernel_rfl) (by simp) ?_
                  refine AllReadyH.cons (o := _) rfl (fun K hK => ?_) AllReadyH.nil
                  refine ite_off (by rfl) ?_
                  refine hK.out _ _ (by assumption) (fun hHeld => ?_)
                  clear hK K
                  try simp only [Act.put, List.getElem_toArray, List.getElem_cons_zero, List.getElem_cons_succ, List.setIfInBounds_toArray, List.set_cons_zero, List.set_cons_succ]
                  refine wpAnyH_take (i := 24) (oi := _) (v := _) rfl (by kernel_rfl) (by kernel_rfl) (by kernel_rfl) (fun _ _ _ h => h) (Or.inr ⟨by rfl, rfl⟩) (by assumption) ?_
                  try simp only [Act.put, List.getElem_toArray, List.getElem_cons_zero, List.getElem_cons_succ, List.setIfInBounds_toArray, List.set_cons_zero, List.set_cons_succ]
                  refine wpAnyH_take (i := 25) (oi := _) (v := ?_) rfl (by kernel_rfl) (by kernel_rfl) (by kernel_rfl) (fun _ _ _ h => h) (Or.inl ⟨by rfl, ?_⟩) (by assumption) ?_
                  rotate_left
                  · first | (intro w' hSw; (try dsimp only at hSw); go_simp; done) | (intro w' hSw; (try dsimp only at hSw); go_simp; with_reducible rfl)
                  try simp only [Act.put, List.getElem_toArray, List.getElem_cons_zero, List.getElem_cons_succ, List.setIfInBounds_toArray, List.set_cons_zero, List.set_cons_succ]
                  refine wpAnyH_done (by kernel_rfl) ?_ _
                  clear f1 f2 f3 hx
                  go_wp2
                  go_ret
                  exact ⟨ret_bool HF.out.symm, sz_keep HB.out (sz_keep HD.out (map_drew (Below.refl _ _)))⟩
                · have hx0 : 0 ≤ x := by omega
                  by_cases hbig : (b.ops.length : Int) ≤ x
                  · have HF := Lib.hid (HBAD.out (HN2.out hbig))
                    have ea := World.new_ne wr _ f2
                    have e3 : decide (x < 0) = false := by simp; omega
                    have e4 : decide ((b.ops.length : Int) ≤ x) = true := by simpa using hbig
                    go_wp2_with fail
                    refine wp_region_held_drew (S := (fun w' => w'.cell? ⟨w.heap.size + 1, 1, none⟩ = some (.slice Aba b.ops.length cba))) (by kernel_rfl) ?_ (fun hHeld => ?_)
                    · exact f2
                    refine wpAnyH_take (i := 0) (oi := _) (v := ?_) rfl (by kernel_rfl) (by kernel_rfl) (by kernel_rfl) (fun _ _ _ h => h) (Or.inl ⟨by rfl, ?_⟩) (by assumption) ?_
                    rotate_left
                    · first | (intro w' hSw; (try dsimp only at hSw); go_simp; done) | (intro w' hSw; (try dsimp only at hSw); go_simp; with_reducible rfl)
                    try simp only [Act.put, List.getElem_toArray, List.getElem_cons_zero, List.getElem_cons_succ, List.setIfInBounds_toArray, List.set_cons_zero, List.set_cons_succ]
                    refine wpAnyH_take (i := 1) (oi := _) (v := ?_) rfl (by kernel_rfl) (by kernel_rfl) (by kernel_rfl) (fun _ _ _ h => h) (Or.inl ⟨by rfl, ?_⟩) (by assumption) ?_
                    rotate_left
                    · first | (intro w' hSw; (try dsimp only at hSw); go_simp; done) | (intro w' hSw; (try dsimp only at hSw); go_simp; with_reducible rfl)
                    try simp only [Act.put, List.getElem_toArray, List.getElem_cons_zero, List.getElem_cons_succ, List.setIfInBounds_toArray, List.set_cons_zero, List.set_cons_succ]
                    refine wpAnyH_take (i := 2) (oi := _) (v := ?_) rfl (by kernel_rfl) (by kernel_rfl) (by kernel_rfl) (fun _ _ _ h => h) (Or.inl ⟨by rfl, ?_⟩) (by assumption) ?_
                    rotate_left
                    · first | (intro w' hSw; (try dsimp only at hSw); go_simp; done) | (intro w' hSw; (try dsimp only at hSw); go_simp; with_reducible rfl)
                    try simp only [Act.put, List.getElem_toArray, List.getElem_cons_zero, List.getElem_cons_succ, List.setIfInBounds_toArray, List.set_cons_zero, List.set_cons_succ]
                    refine wpAnyH_take (i := 3) (oi := _) (v := ?_) rfl (by kernel_rfl) (by kernel_rfl) (by kernel_rfl) (fun _ _ _ h => h) (Or.inl ⟨by rfl, ?_⟩) (by assumption) ?_
                    rotate_left
                    · first | (intro w' hSw; (try dsimp only at hSw); go_simp; done) | (intro w' hSw; (try dsimp only at hSw); go_simp; with_reducible rfl)
                    try simp only [Act.put, List.getElem_toArray, List.getElem_cons_zero, List.getElem_cons_succ, List.setIfInBounds_toArray, List.set_cons_zero, List.set_cons_succ]
                    refine wpAnyH_take (i := 4) (oi := _) (v := ?_) rfl (by kernel_rfl) (by kernel_rfl) (by kernel_rfl) (fun _ _ _ h => h) (Or.inl ⟨by rfl, ?_⟩) (by assumption) ?_
                    rotate_left
                    · first | (intro w' hSw; (try dsimp only at hSw); go_simp; done) | (intro w' hSw; (try dsimp only at hSw); go_simp; with_reducible rfl)
                    try simp only [Act.put, List.getElem_toArray, List.getElem_cons_zero, List.getElem_cons_succ, List.setIfInBounds_toArray, List.set_cons_zero, List.set_cons_succ]
                    refine wpAnyH_take (i := 5) (oi := _) (v := ?_) rfl (by kernel_rfl) (by kernel_rfl) (by kernel_rfl) (fun _ _ _ h => h) (Or.inl ⟨by rfl, ?_⟩) (by assumption) ?_
                    rotate_left
                    · first | (intro w' hSw; (try dsimp only at hSw); go_simp; done) | (intro w' hSw; (try dsimp only at hSw); go_simp; with_reducible rfl)
                    try simp only [Act.put, List.getElem_toArray, List.getElem_cons_zero, List.getElem_cons_succ, List.setIfInBounds_toArray, List.set_cons_zero, List.set_cons_succ]
                    refine wpAnyH_take (i := 6) (oi := _) (v := ?_) rfl (by kernel_rfl) (by kernel_rfl) (by kernel_rfl) (fun _ _ _ h => h) (Or.inl ⟨by rfl, ?_⟩) (by assumption) ?_
                    rotate_left
                    · first | (intro w' hSw; (try dsimp only at hSw); go_simp; done) | (intro w' hSw; (try dsimp only at hSw); go_simp; with_reducible rfl)
                    try simp only [Act.put, List.getElem_toArray, List.getElem_cons_zero, List.getElem_cons_succ, List.setIfInBounds_toArray, List.set_cons_zero, List.set_cons_succ]
                    refine wpAnyH_take (i := 7) (oi := _) (v := ?_) rfl (by kernel_rfl) (by kernel_rfl) (by kernel_rfl) (fun _ _ _ h => h) (Or.inl ⟨by rfl, ?_⟩) (by assumption) ?_
                    rotate_left
                    · first | (intro w' hSw; (try dsimp only at hSw); go_simp; done) | (intro w' hSw; (try dsimp only at hSw); go_simp; with_reducible rfl)
                    try simp only [Act.put, List.getElem_toArray, List.getElem_cons_zero, List.getElem_cons_succ, List.setIfInBounds_toArray, List.set_cons_zero, List.set_cons_succ]
                    refine wpAnyH_take (i := 8) (oi := _) (v := ?_) rfl (by kernel_rfl) (by kernel_rfl) (by kernel_rfl) (fun _ _ _ h => h) (Or.inl ⟨by rfl, ?_⟩) (by assumption) ?_
                    rotate_left
                    · first | (intro w' hSw; (try dsimp only at hSw); go_simp; done) | (intro w' hSw; (try dsimp only at hSw); go_simp; with_reducible rfl)
                    try simp only [Act.put, List.getElem_toArray, List.getElem_cons_zero, List.getElem_cons_succ, List.setIfInBounds_toArray, List.set_cons_zero, List.set_cons_succ]
                    refine wpAnyH_take (i := 9) (oi := _) (v := ?_) rfl (by kernel_rfl) (by kernel_rfl) (by kernel_rfl) (fun _ _ _ h => h) (Or.inl ⟨by rfl, ?_⟩) (by assumption) ?_
                    rotate_left
                    · first | (intro w' hSw; (try dsimp only at hSw); go_simp; done) | (intro w' hSw; (try dsimp only at hSw); go_simp; with_reducible rfl)
                    try simp only [Act.put, List.getElem_toArray, List.getElem_cons_zero, List.getElem_cons_succ, List.setIfInBounds_toArray, List.set_cons_zero, List.set_cons_succ]
                    refine wpAnyH_take (i := 10) (oi := _) (v := _) rfl (by kernel_rfl) (by kernel_rfl) (by kernel_rfl) (fun _ _ _ h => h) (Or.inr ⟨by rfl, rfl⟩) (by assumption) ?_
                    try simp only [Act.put, List.getElem_toArray, List.getElem_cons_zero, List.getElem_cons_succ, List.setIfInBounds_toArray, List.set_cons_zero, List.set_cons_succ]
                    refine wpAnyH_take (i := 11) (oi := _) (v := _) rfl (by kernel_rfl) (by kernel_rfl) (by kernel_rfl) (fun _ _ _ h => h) (Or.inr ⟨by rfl, rfl⟩) (by assumption) ?_
                    try simp only [Act.put, List.getElem_toArray, List.getElem_cons_zero, List.getElem_cons_succ, List.setIfInBounds_toArray, List.set_cons_zero, List.set_cons_succ]
                    refine wpAnyH_take (i := 12) (oi := _) (v := _) rfl (by kernel_rfl) (by kernel_rfl) (by kernel_rfl) (fun _ _ _ h => h) (Or.inr ⟨by rfl, rfl⟩) (by assumption) ?_
                    try simp only [Act.put, List.getElem_toArray, List.getElem_cons_zero, List.getElem_cons_succ, List.setIfInBounds_toArray, List.set_cons_zero, List.set_cons_succ]
                    refine wpAnyH_take (i := 13) (oi := _) (v := _) rfl (by kernel_rfl) (by kernel_rfl) (by kernel_rfl) (fun _ _ _ h => h) (Or.inr ⟨by rfl, rfl⟩) (by assumption) ?_
                    try simp only [Act.put, List.getElem_toArray, List.getElem_cons_zero, List.getElem_cons_succ, List.setIfInBounds_toArray, List.set_cons_zero, List.set_cons_succ]
                    refine wpAnyH_take (i := 14) (oi := _) (v := _) rfl (by kernel_rfl) (by kernel_rfl) (by kernel_rfl) (fun _ _ _ h => h) (Or.inr ⟨by rfl, rfl⟩) (by assumption) ?_
                    try simp only [Act.put, List.getElem_toArray, List.getElem_cons_zero, List.getElem_cons_succ, List.setIfInBounds_toArray, List.set_cons_zero, List.set_cons_succ]
                    refine wpAnyH_take (i := 15) (oi := _) (v := _) rfl (by kernel_rfl) (by kernel_rfl) (by kernel_rfl) (fun _ _ _ h => h) (Or.inr ⟨by rfl, rfl⟩) (by assumption) ?_
                    try simp only [Act.put, List.getElem_toArray, List.getElem_cons_zero, List.getElem_cons_succ, List.setIfInBounds_toArray, List.set_cons_zero, List.set_cons_succ]
                    refine wpAnyH_take (i := 16) (oi := _) (v := _) rfl (by kernel_rfl) (by kernel_rfl) (by kernel_rfl) (fun _ _ _ h => h) (Or.inr ⟨by rfl, rfl⟩) (by assumption) ?_
                    try simp only [Act.put, List.getElem_toArray, List.getElem_cons_zero, List.getElem_cons_succ, List.setIfInBounds_toArray, List.set_cons_zero, List.set_cons_succ]
                    refine wpAnyH_take (i := 18) (oi := _) (v := _) rfl (by kernel_rfl) (by kernel_rfl) (by kernel_rfl) (fun _ _ _ h => h) (Or.inr ⟨by rfl, rfl⟩) (by assumption) ?_
                    try simp only [Act.put, List.getElem_toArray, List.getElem_cons_zero, List.getElem_cons_succ, List.setIfInBounds_toArray, List.set_cons_zero, List.set_cons_succ]
                    refine wpAnyH_take (i := 19) (oi := _) (v := _) rfl (by kernel_rfl) (by kernel_rfl) (by kernel_rfl) (fun _ _ _ h => h) (Or.inr ⟨by rfl, rfl⟩) (by assumption) ?_
                    try simp only [Act.put, List.getElem_toArray, List.getElem_cons_zero, List.getElem_cons_succ, List.setIfInBounds_toArray, List.set_cons_zero, List.set_cons_succ]
                    refine wpAnyH_take (i := 20) (oi := _) (v := _) rfl (by kernel_rfl) (by kernel_rfl) (by kernel_rfl) (fun _ _ _ h => h) (Or.inr ⟨by rfl, rfl⟩) (by assumption) ?_
                    try simp only [Act.put, List.getElem_toArray, List.getElem_cons_zero, List.getElem_cons_succ, List.setIfInBounds_toArray, List.set_cons_zero, List.set_cons_succ]
                    refine wpAnyH_take (i := 21) (oi := _) (v := _) rfl (by kernel_rfl) (by kernel_rfl) (by kernel_rfl) (fun _ _ _ h => h) (Or.inr ⟨by rfl, rfl⟩) (by assumption) ?_
                    try simp only [Act.put, List.getElem_toArray, List.getElem_cons_zero, List.getElem_cons_succ, List.setIfInBounds_toArray, List.set_cons_zero, List.set_cons_succ]
                    refine wpAnyH_take (i := 22) (oi := _) (v := _) rfl (by kernel_rfl) (by kernel_rfl) (by kernel_rfl) (fun _ _ _ h => h) (Or.inr ⟨by rfl, rfl⟩) (by assumption) ?_
                    try simp only [Act.put, List.getElem_toArray, List.getElem_cons_zero, List.getElem_cons_succ, List.setIfInBounds_toArray, List.set_cons_zero, List.set_cons_succ]
                    refine wpAnyH_ready (rs := [17]) (by kernel_rfl) (by simp) ?_
                    refine AllReadyH.cons (o := _) rfl (fun K hK => ?_) AllReadyH.nil
                    refine ite_off (by rfl) ?_
                    refine hK.out _ _ (by assumption) (fun hHeld => ?_)
                    clear hK K
                    try simp only [Act.put, List.getElem_toArray, List.getElem_cons_zero, List.getElem_cons_succ, List.setIfInBounds_toArray, List.set_cons_zero, List.set_cons_succ]
                    refine wpAnyH_ready (rs := [23]) (by kernel_rfl) (by simp) ?_
                    refine AllReadyH.cons (o := _) rfl (fun K hK => ?_) AllReadyH.nil
                    refine ite_off (by rfl) ?_
                    refine hK.out _ _ (by assumption) (fun hHeld => ?_)
                    clear hK K
                    try simp only [Act.put, List.getElem_toArray, List.getElem_cons_zero, List.getElem_cons_succ, List.setIfInBounds_toArray, List.set_cons_zero, List.set_cons_succ]
                    refine wpAnyH_take (i := 24) (oi := _) (v := _) rfl (by kernel_rfl) (by kernel_rfl) (by kernel_rfl) (fun _ _ _ h => h) (Or.inr ⟨by rfl, rfl⟩) (by assumption) ?_
                    try simp only [Act.put, List.getElem_toArray, List.getElem_cons_zero, List.getElem_cons_succ, List.setIfInBounds_toArray, List.set_cons_zero, List.set_cons_succ]
                    refine wpAnyH_take (i := 25) (oi := _) (v := ?_) rfl (by kernel_rfl) (by kernel_rfl) (by kernel_rfl) (fun _ _ _ h => h) (Or.inl ⟨by rfl, ?_⟩) (by assumption) ?_
                    rotate_left
                    · first | (intro w' hSw; (try dsimp only at hSw); go_simp; done) | (intro w' hSw; (try dsimp only at hSw); go_simp; with_reducible rfl)
                    try simp only [Act.put, List.getElem_toArray, List.getElem_cons_zero, List.getElem_cons_succ, List.setIfInBounds_toArray, List.set_cons_zero, List.set_cons_succ]
                    refine wpAnyH_done (by kernel_rfl) ?_ _
                    clear f1 f2 f3 hx ea
                    go_wp2
                    go_ret
                    exact ⟨ret_bool HF.out.symm, sz_keep HB.out (sz_keep HD.out (map_drew (Below.refl _ _)))⟩
                  · obtain ⟨n, rfl⟩ : ∃ n : Nat, x = (n : Int) := ⟨x.toNat, by omega⟩
                    have hnb : n < b.ops.length := by omega
                    have hnb' : (n : Int) < (b.ops.length : Int) := by omega
                    have hnb5 : ¬ b.ops.length ≤ n := by omega
                    have e3 : decide ((n : Int) < 0) = false := by simp
                    have e4 : decide ((b.ops.length : Int) ≤ (n : Int)) = false := by simp; omega
                    have HOP := Lib.hid (HN3.out n rfl hnb)
                    obtain ⟨b7, o7, c7, u7, e, hra, hri⟩ := (Ha.out.of.2.keep HD.out).at_ hka
                    cases e
                    obtain ⟨b8, o8, c8, u8, e, hrb, hrj⟩ := (Hb.out.of.2.keep HD.out).at_ hnb
                    cases e
                    have hvr := valid_row HA.out hka
                    have HIN := Lib.hid (show InTo m.sorts a.ops[k] from fun y hy _ => by have := hvr.2.2 y hy; have := HS.out; omega)
                    have hr3 := hvr.2.1
                    generalize a.ops[k] = row at hri hra HIN HOP hr3
                    generalize b.ops[n] = row2 at hrj hrb HOP
                    have HRI := Lib.hid hri
                    have HRJ := Lib.hid hrj
                    have HMS := Lib.hid (Hm.out.of.1.keep HD.out)
                    obtain ⟨A7, d7, rfl, -⟩ := hri.form
                    obtain ⟨A8, d8, rfl, -⟩ := hrj.form
                    obtain ⟨r, hr⟩ : ∃ r, decide (ledM m.sorts row = row2) = r := ⟨_, rfl⟩
                    rw [hr] at HOP
                    have HR := Lib.hid hr
                    clear hr hri hrj hvr
                    go_wp2_with fail
                    refine wp_region_held_drew (S := (fun w' => w'.cell? ⟨w.heap.size, 1, none⟩ = some (.slice (some ⟨b7, o7, none⟩) a.ops.length caa) ∧ w'.cell? ⟨w.heap.size + 1, 1, none⟩ = some (.slice (some ⟨b8, o8, none⟩) b.ops.length cba) ∧ w'.cell? ⟨w.heap.size + 1 + 1, 0, none⟩ = some (.slice Ama m.sorts.length cma) ∧ w'.cell? ⟨b7, o7 + k, none⟩ = some (.slice A7 row.length d7) ∧ w'.cell? ⟨b8, o8 + n, none⟩ = some (.slice A8 row2.length d8))) (by kernel_rfl) ?_ (fun hHeld => ?_)
                    · exact ⟨f1, f2, f3, hra, hrb⟩
                    refine wpAnyH_take (i := 0) (oi := _) (v := ?_) rfl (by kernel_rfl) (by kernel_rfl) (by kernel_rfl) (fun _ _ _ h => h) (Or.inl ⟨by rfl, ?_⟩) (by assumption) ?_
                    rotate_left
                    · first | (intro w' hSw; (try dsimp only at hSw); go_simp; done) | (intro w' hSw; (try dsimp only at hSw); go_simp; with_reducible rfl)
                    try simp only [Act.put, List.getElem_toArray, List.getElem_cons_zero, List.getElem_cons_succ, List.setIfInBounds_toArray, List.set_cons_zero, List.set_cons_succ]
                    refine wpAnyH_take (i := 1) (oi := _) (v := ?_) rfl (by kernel_rfl) (by kernel_rfl) (by kernel_rfl) (fun _ _ _ h => h) (Or.inl ⟨by rfl, ?_⟩) (by assumption) ?_
                    rotate_left
                    · first | (intro w' hSw; (try dsimp only at hSw); go_simp; done) | (intro w' hSw; (try dsimp only at hSw); go_simp; with_reducible rfl)
                    try simp only [Act.put, List.getElem_toArray, List.getElem_cons_zero, List.getElem_cons_succ, List.setIfInBounds_toArray, List.set_cons_zero, List.set_cons_succ]
                    refine wpAnyH_take (i := 2) (oi := _) (v := ?_) rfl (by kernel_rfl) (by kernel_rfl) (by kernel_rfl) (fun _ _ _ h => h) (Or.inl ⟨by rfl, ?_⟩) (by assumption) ?_
                    rotate_left
                    · first | (intro w' hSw; (try dsimp only at hSw); go_simp; done) | (intro w' hSw; (try dsimp only at hSw); go_simp; with_reducible rfl)
                    try simp only [Act.put, List.getElem_toArray, List.getElem_cons_zero, List.getElem_cons_succ, List.setIfInBounds_toArray, List.set_cons_zero, List.set_cons_succ]
                    refine wpAnyH_take (i := 3) (oi := _) (v := ?_) rfl (by kernel_rfl) (by kernel_rfl) (by kernel_rfl) (fun _ _ _ h => h) (Or.inl ⟨by rfl, ?_⟩) (by assumption) ?_
                    rotate_left
                    · first | (intro w' hSw; (try dsimp only at hSw); go_simp; done) | (intro w' hSw; (try dsimp only at hSw); go_simp; with_reducible rfl)
                    try simp only [Act.put, List.getElem_toArray, List.getElem_cons_zero, List.getElem_cons_succ, List.setIfInBounds_toArray, List.set_cons_zero, List.set_cons_succ]
                    refine wpAnyH_take (i := 4) (oi := _) (v := ?_) rfl (by kernel_rfl) (by kernel_rfl) (by kernel_rfl) (fun _ _ _ h => h) (Or.inl ⟨by rfl, ?_⟩) (by assumption) ?_
                    rotate_left
                    · first | (intro w' hSw; (try dsimp only at hSw); go_simp; done) | (intro w' hSw; (try dsimp only at hSw); go_simp; with_reducible rfl)
                    try simp only [Act.put, List.getElem_toArray, List.getElem_cons_zero, List.getElem_cons_succ, List.setIfInBounds_toArray, List.set_cons_zero, List.set_cons_succ]
                    refine wpAnyH_take (i := 5) (oi := _) (v := ?_) rfl (by kernel_rfl) (by kernel_rfl) (by kernel_rfl) (fun _ _ _ h => h) (Or.inl ⟨by rfl, ?_⟩) (by assumption) ?_
                    rotate_left
                    · first | (intro w' hSw; (try dsimp only at hSw); go_simp; done) | (intro w' hSw; (try dsimp only at hSw); go_simp; with_reducible rfl)
                    try simp only [Act.put, List.getElem_toArray, List.getElem_cons_zero, List.getElem_cons_succ, List.setIfInBounds_toArray, List.set_cons_zero, List.set_cons_succ]
                    refine wpAnyH_take (i := 6) (oi := _) (v := ?_) rfl (by kernel_rfl) (by kernel_rfl) (by kernel_rfl) (fun _ _ _ h => h) (Or.inl ⟨by rfl, ?_⟩) (by assumption) ?_
                    rotate_left
                    · first | (intro w' hSw; (try dsimp only at hSw); go_simp; done) | (intro w' hSw; (try dsimp only at hSw); go_simp; with_reducible rfl)
                    try simp only [Act.put, List.getElem_toArray, List.getElem_cons_zero, List.getElem_cons_succ, List.setIfInBounds_toArray, List.set_cons_zero, List.set_cons_succ]
                    refine wpAnyH_take (i := 7) (oi := _) (v := ?_) rfl (by kernel_rfl) (by kernel_rfl) (by kernel_rfl) (fun _ _ _ h => h) (Or.inl ⟨by rfl, ?_⟩) (by assumption) ?_
                    rotate_left
                    · first | (intro w' hSw; (try dsimp only at hSw); go_simp; done) | (intro w' hSw; (try dsimp only at hSw); go_simp; with_reducible rfl)
                    try simp only [Act.put, List.getElem_toArray, List.getElem_cons_zero, List.getElem_cons_succ, List.setIfInBounds_toArray, List.set_cons_zero, List.set_cons_succ]
                    refine wpAnyH_take (i := 8) (oi := _) (v := ?_) rfl (by kernel_rfl) (by kernel_rfl) (by kernel_rfl) (fun _ _ _ h => h) (Or.inl ⟨by rfl, ?_⟩) (by assumption) ?_
                    rotate_left
                    · first | (intro w' hSw; (try dsimp only at hSw); go_simp; done) | (intro w' hSw; (try dsimp only at hSw); go_simp; with_reducible rfl)
                    try simp only [Act.put, List.getElem_toArray, List.getElem_cons_zero, List.getElem_cons_succ, List.setIfInBounds_toArray, List.set_cons_zero, List.set_cons_succ]
                    refine wpAnyH_take (i := 9) (oi := _) (v := ?_) rfl (by kernel_rfl) (by kernel_rfl) (by kernel_rfl) (fun _ _ _ h => h) (Or.inl ⟨by rfl, ?_⟩) (by assumption) ?_
                    rotate_left
                    · first | (intro w' hSw; (try dsimp only at hSw); go_simp; done) | (intro w' hSw; (try dsimp only at hSw); go_simp; with_reducible rfl)
                    try simp only [Act.put, List.getElem_toArray, List.getElem_cons_zero, List.getElem_cons_succ, List.setIfInBounds_toArray, List.set_cons_zero, List.set_cons_succ]
                    refine wpAnyH_take (i := 10) (oi := _) (v := ?_) rfl (by kernel_rfl) (by kernel_rfl) (by kernel_rfl) (fun _ _ _ h => h) (Or.inl ⟨by rfl, ?_⟩) (by assumption) ?_
                    rotate_left
                    · first | (intro w' hSw; (try dsimp only at hSw); go_simp; done) | (intro w' hSw; (try dsimp only at hSw); go_simp; with_reducible rfl)
                    try simp only [Act.put, List.getElem_toArray, List.getElem_cons_zero, List.getElem_cons_succ, List.setIfInBounds_toArray, List.set_cons_zero, List.set_cons_succ]
                    refine wpAnyH_take (i := 11) (oi := _) (v := ?_) rfl (by kernel_rfl) (by kernel_rfl) (by kernel_rfl) (fun _ _ _ h => h) (Or.inl ⟨by rfl, ?_⟩) (by assumption) ?_
                    rotate_left
                    · first | (intro w' hSw; (try dsimp only at hSw); go_simp; done) | (intro w' hSw; (try dsimp only at hSw); go_simp; with_reducible rfl)
                    try simp only [Act.put, List.getElem_toArray, List.getElem_cons_zero, List.getElem_cons_succ, List.setIfInBounds_toArray, List.set_cons_zero, List.set_cons_succ]
                    refine wpAnyH_take (i := 12) (oi := _) (v := ?_) rfl (by kernel_rfl) (by kernel_rfl) (by kernel_rfl) (fun _ _ _ h => h) (Or.inl ⟨by rfl, ?_⟩) (by assumption) ?_
                    rotate_left
                    · first | (intro w' hSw; (try dsimp only at hSw); go_simp; done) | (intro w' hSw; (try dsimp only at hSw); go_simp; with_reducible rfl)
                    try simp only [Act.put, List.getElem_toArray, List.getElem_cons_zero, List.getElem_cons_succ, List.setIfInBounds_toArray, List.set_cons_zero, List.set_cons_succ]
                    refine wpAnyH_take (i := 13) (oi := _) (v := ?_) rfl (by kernel_rfl) (by kernel_rfl) (by kernel_rfl) (fun _ _ _ h => h) (Or.inl ⟨by rfl, ?_⟩) (by assumption) ?_
                    rotate_left
                    · first | (intro w' hSw; (try dsimp only at hSw); go_simp; done) | (intro w' hSw; (try dsimp only at hSw); go_simp; with_reducible rfl)
                    try simp only [Act.put, List.getElem_toArray, List.getElem_cons_zero, List.getElem_cons_succ, List.setIfInBounds_toArray, List.set_cons_zero, List.set_cons_succ]
                    refine wpAnyH_take (i := 14) (oi := _) (v := ?_) rfl (by kernel_rfl) (by kernel_rfl) (by kernel_rfl) (fun _ _ _ h => h) (Or.inl ⟨by rfl, ?_⟩) (by assumption) ?_
                    rotate_left
                    · first | (intro w' hSw; (try dsimp only at hSw); go_simp; done) | (intro w' hSw; (try dsimp only at hSw); go_simp; with_reducible rfl)
                    try simp only [Act.put, List.getElem_toArray, List.getElem_cons_zero, List.getElem_cons_succ, List.setIfInBounds_toArray, List.set_cons_zero, List.set_cons_succ]
                    refine wpAnyH_take (i := 15) (oi := _) (v := ?_) rfl (by kernel_rfl) (by kernel_rfl) (by kernel_rfl) (fun _ _ _ h => h) (Or.inl ⟨by rfl, ?_⟩) (by assumption) ?_
                    rotate_left
                    · first | (intro w' hSw; (try dsimp only at hSw); go_simp; done) | (intro w' hSw; (try dsimp only at hSw); go_simp; with_reducible rfl)
                    try simp only [Act.put, List.getElem_toArray, List.getElem_cons_zero, List.getElem_cons_succ, List.setIfInBounds_toArray, List.set_cons_zero, List.set_cons_succ]
                    refine wpAnyH_take (i := 16) (oi := _) (v := ?_) rfl (by kernel_rfl) (by kernel_rfl) (by kernel_rfl) (fun _ _ _ h => h) (Or.inl ⟨by rfl, ?_⟩) (by assumption) ?_
                    rotate_left
                    · first | (intro w' hSw; (try dsimp only at hSw); go_simp; done) | (intro w' hSw; (try dsimp only at hSw); go_simp; with_reducible rfl)
                    try simp only [Act.put, List.getElem_toArray, List.getElem_cons_zero, List.getElem_cons_succ, List.setIfInBounds_toArray, List.set_cons_zero, List.set_cons_succ]
                    refine wpAnyH_take (i := 18) (oi := _) (v := ?_) rfl (by kernel_rfl) (by kernel_rfl) (by kernel_rfl) (fun _ _ _ h => h) (Or.inl ⟨by rfl, ?_⟩) (by assumption) ?_
                    rotate_left
                    · first | (intro w' hSw; (try dsimp only at hSw); go_simp; done) | (intro w' hSw; (try dsimp only at hSw); go_simp; with_reducible rfl)
                    try simp only [Act.put, List.getElem_toArray, List.getElem_cons_zero, List.getElem_cons_succ, List.setIfInBounds_toArray, List.set_cons_zero, List.set_cons_succ]
                    refine wpAnyH_take (i := 19) (oi := _) (v := ?_) rfl (by kernel_rfl) (by kernel_rfl) (by kernel_rfl) (fun _ _ _ h => h) (Or.inl ⟨by rfl, ?_⟩) (by assumption) ?_
                    rotate_left
                    · first | (intro w' hSw; (try dsimp only at hSw); go_simp; done) | (intro w' hSw; (try dsimp only at hSw); go_simp; with_reducible rfl)
                    try simp only [Act.put, List.getElem_toArray, List.getElem_cons_zero, List.getElem_cons_succ, List.setIfInBounds_toArray, List.set_cons_zero, List.set_cons_succ]
                    refine wpAnyH_take (i := 20) (oi := _) (v := ?_) rfl (by kernel_rfl) (by kernel_rfl) (by kernel_rfl) (fun _ _ _ h => h) (Or.inl ⟨by rfl, ?_⟩) (by assumption) ?_
                    rotate_left
                    · first | (intro w' hSw; (try dsimp only at hSw); go_simp; done) | (intro w' hSw; (try dsimp only at hSw); go_simp; with_reducible rfl)
                    try simp only [Act.put, List.getElem_toArray, List.getElem_cons_zero, List.getElem_cons_succ, List.setIfInBounds_toArray, List.set_cons_zero, List.set_cons_succ]
                    refine wpAnyH_take (i := 21) (oi := _) (v := ?_) rfl (by kernel_rfl) (by kernel_rfl) (by kernel_rfl) (fun _ _ _ h => h) (Or.inl ⟨by rfl, ?_⟩) (by assumption) ?_
                    rotate_left
                    · first | (intro w' hSw; (try dsimp only at hSw); go_simp; done) | (intro w' hSw; (try dsimp only at hSw); go_simp; with_reducible rfl)
                    try simp only [Act.put, List.getElem_toArray, List.getElem_cons_zero, List.getElem_cons_succ, List.setIfInBounds_toArray, List.set_cons_zero, List.set_cons_succ]
                    refine wpAnyH_take (i := 22) (oi := _) (v := ?_) rfl (by kernel_rfl) (by kernel_rfl) (by kernel_rfl) (fun _ _ _ h => h) (Or.inl ⟨by rfl, ?_⟩) (by assumption) ?_
                    rotate_left
                    · first | (intro w' hSw; (try dsimp only at hSw); go_simp; done) | (intro w' hSw; (try dsimp only at hSw); go_simp; with_reducible rfl)
                    try simp only [Act.put, List.getElem_toArray, List.getElem_cons_zero, List.getElem_cons_succ, List.setIfInBounds_toArray, List.set_cons_zero, List.set_cons_succ]
                    refine wpAnyH_ready (rs := [17]) (by kernel_rfl) (by simp) ?_
                    refine AllReadyH.cons (o := _) rfl (fun K hK => ?_) AllReadyH.nil
                    go_simp
                    refine (ledRow_any _ _ row m.sorts wr.drew (HRI.out.keep (map_drew (Below.refl _ _))) (HMS.out.keep (map_drew (Below.refl _ _))) HIN.out (by omega)).mono ?_
                    rintro x w4 ⟨u4, rfl, ho4, hb4⟩
                    have hx4 := map_undrew hb4
                    obtain ⟨A4, c4, rfl, -⟩ := ho4.reads.form
                    have HO4 := Lib.hid ho4.reads
                    have HX4 := Lib.hid hx4
                    have j1 := cell_keep hx4 f1
                    have j2 := cell_keep hx4 f2
                    have j3 := cell_keep hx4 f3
                    have j4 := cell_keep hx4 hra
                    have j5 := cell_keep hx4 hrb
                    clear ho4 hb4 hx4
                    go_wp2_with fail
                    refine hK.out _ _ ?_ (fun hHeld => ?_)
                    · exact ⟨j1, j2, j3, j4, j5⟩
                    clear hK K
                    try simp only [Act.put, List.getElem_toArray, List.getElem_cons_zero, List.getElem_cons_succ, List.setIfInBounds_toArray, List.set_cons_zero, List.set_cons_succ]
                    refine wpAnyH_ready (rs := [23]) (by kernel_rfl) (by simp) ?_
                    refine AllReadyH.cons (o := _) rfl (fun K hK => ?_) AllReadyH.nil
                    go_simp
                    refine (slEqual_any _ _ (ledM m.sorts row) row2 w4 HO4.out (HRJ.out.keep HX4.out)).mono ?_
                    rw [HR.out]
                    rintro x w5 ⟨rfl, hd5⟩
                    have hx5 := hd5.below
                    have HX5 := Lib.hid (sz_keep HX4.out hx5)
                    have q1 := cell_keep hx5 j1
                    have q2 := cell_keep hx5 j2
                    have q3 := cell_keep hx5 j3
                    have q4 := cell_keep hx5 j4
                    have q5 := cell_keep hx5 j5
                    clear hx5 hd5
                    go_wp2_with fail
                    refine hK.out _ _ ?_ (fun hHeld => ?_)
                    · exact ⟨q1, q2, q3, q4, q5⟩
                    clear hK K
                    try simp only [Act.put, List.getElem_toArray, List.getElem_cons_zero, List.getElem_cons_succ, List.setIfInBounds_toArray, List.set_cons_zero, List.set_cons_succ]
                    refine wpAnyH_take (i := 24) (oi := _) (v := ?_) rfl (by kernel_rfl) (by kernel_rfl) (by kernel_rfl) (fun _ _ _ h => h) (Or.inl ⟨by rfl, ?_⟩) (by assumption) ?_
                    rotate_left
                    · first | (intro w' hSw; (try dsimp only at hSw); go_simp; done) | (intro w' hSw; (try dsimp only at hSw); go_simp; with_reducible rfl)
                    try simp only [Act.put, List.getElem_toArray, List.getElem_cons_zero, List.getElem_cons_succ, List.setIfInBounds_toArray, List.set_cons_zero, List.set_cons_succ]
                    refine wpAnyH_take (i := 25) (oi := _) (v := ?_) rfl (by kernel_rfl) (by kernel_rfl) (by kernel_rfl) (fun _ _ _ h => h) (Or.inl ⟨by rfl, ?_⟩) (by assumption) ?_
                    rotate_left
                    · first | (intro w' hSw; (try dsimp only at hSw); go_simp; done) | (intro w' hSw; (try dsimp only at hSw); go_simp; with_reducible rfl)
                    try simp only [Act.put, List.getElem_toArray, List.getElem_cons_zero, List.getElem_cons_succ, List.setIfInBounds_toArray, List.set_cons_zero, List.set_cons_succ]
                    refine wpAnyH_done (by kernel_rfl) ?_ _
                    clear f1 f2 f3 hra hrb j1 j2 j3 j4 j5 q1 q2 q3 q4 q5 hx
                    cases r with
                    | true =>
                      go_wp2
                      go_roundw
                      case rel => exact ⟨k + 1, by omega, by go_num, by rw [HSUC.out, HAL.out, HOP.out]; rfl, sz_keep HD.out HX5.out⟩
                      case measure => simp [intOf]; omega
                    | false =>
                      have HF := Lib.hid (HBAD.out HOP.out)
                      go_wp2
                      go_ret
                      exact ⟨ret_bool HF.out.symm, sz_keep HB.out (sz_keep HD.out HX5.out)⟩
              · have hkn : k = m.ops.length := by omega
                have hlt' : ¬ (k : Int) < (m.ops.length : Int) := by omega
                have HE := Lib.hid (mapOk_yes HA.out HV.out HS.out HO.out HBL.out (by rw [← hkn]; exact HAL.out))
                clear f1 f2 f3
                go_wp2
                go_ret
                exact ⟨ret_bool HE.out.symm, sz_keep HB.out HD.out⟩
        · have e2 : ((m.ops.length : Int) != (a.ops.length : Int)) = true := by simp; omega
          have HE := Lib.hid (mapOk_no4 (a := a) (b := b) ho)
          clear hs ho
          go_enter Try.func79, Try.ntmps79
          go_wp2_with fail
          clear hW
          refine (sigValid_any _ a _ Ha.out).mono ?_
          rw [HA.out]
          rintro e w1 ⟨rfl, hb⟩
          replace HB := Lib.hid (sz_keep HB.out hb)
          replace a0 := cell_keep hb a0
          replace a1 := cell_keep hb a1
          replace b0 := cell_keep hb b0
          replace b1 := cell_keep hb b1
          replace m0 := cell_keep hb m0
          replace m1 := cell_keep hb m1
          replace Ha := Lib.hid (Ha.out.keep hb)
          replace Hb := Lib.hid (Hb.out.keep hb)
          replace Hm := Lib.hid (Hm.out.keep hb)
          clear hb
          go_wp2_with fail
          refine (sigValid_any _ b _ Hb.out).mono ?_
          rw [HV.out]
          rintro e w2 ⟨rfl, hb⟩
          replace HB := Lib.hid (sz_keep HB.out hb)
          replace a0 := cell_keep hb a0
          replace a1 := cell_keep hb a1
          replace b0 := cell_keep hb b0
          replace b1 := cell_keep hb b1
          replace m0 := cell_keep hb m0
          replace m1 := cell_keep hb m1
          replace Ha := Lib.hid (Ha.out.keep hb)
          replace Hb := Lib.hid (Hb.out.keep hb)
          replace Hm := Lib.hid (Hm.out.keep hb)
          clear hb
          go_wp2
          go_ret
          exact ⟨ret_bool HE.out.symm, HB.out⟩
      · have e1 : ((m.sorts.length : Int) != a.sorts) = true := by simpa using hs
        have HE := Lib.hid (mapOk_no3 (a := a) (b := b) hs)
        clear hs
        go_enter Try.func79, Try.ntmps79
        go_wp2_with fail
        clear hW
        refine (sigValid_any _ a _ Ha.out).mono ?_
        rw [HA.out]
        rintro e w1 ⟨rfl, hb⟩
        replace HB := Lib.hid (sz_keep HB.out hb)
        replace a0 := cell_keep hb a0
        replace a1 := cell_keep hb a1
        replace b0 := cell_keep hb b0
        replace b1 := cell_keep hb b1
        replace m0 := cell_keep hb m0
        replace m1 := cell_keep hb m1
        replace Ha := Lib.hid (Ha.out.keep hb)
        replace Hb := Lib.hid (Hb.out.keep hb)
        replace Hm := Lib.hid (Hm.out.keep hb)
        clear hb
        go_wp2_with fail
        refine (sigValid_any _ b _ Hb.out).mono ?_
        rw [HV.out]
        rintro e w2 ⟨rfl, hb⟩
        replace HB := Lib.hid (sz_keep HB.out hb)
        replace a0 := cell_keep hb a0
        replace a1 := cell_keep hb a1
        replace b0 := cell_keep hb b0
        replace b1 := cell_keep hb b1
        replace m0 := cell_keep hb m0
        replace m1 := cell_keep hb m1
        replace Ha := Lib.hid (Ha.out.keep hb)
        replace Hb := Lib.hid (Hb.out.keep hb)
        replace Hm := Lib.hid (Hm.out.keep hb)
        clear hb
        go_wp2
        go_ret
        exact ⟨ret_bool HE.out.symm, HB.out⟩

set_option maxHeartbeats 3200000 in
set_option maxRecDepth 100000 in
theorem specMapOk_any (a b : MSig) (m : MMap) (w : World) (va vb vm : Value) (h1 : RSig w va a) (h2 : RSig w vb b) (h3 : RMap w vm m) :
    Calls Try.prog 81 #[va, vb, vm] w fun x w' => x = .returned (.bool (mapOkB a b m)) ∧ Below w.heap.size w w' := by
  obtain ⟨Aaa, caa, rfl⟩ := h1.form
  obtain ⟨Aba, cba, rfl⟩ := h2.form
  obtain ⟨Ama, cma, Amb, cmb, rfl⟩ := h3.form
  have hb : Below w.heap.size w (((w.alloc (.cells #[.int .i64 a.sorts, .slice Aaa a.ops.length caa] 25)).alloc (.cells #[.int .i64 b.sorts, .slice Aba b.ops.length cba] 25)).alloc (.cells #[.slice Ama m.sorts.length cma, .slice Amb m.ops.length cmb] 39)) := ((below_alloc _ _).alloc (by simp) _).alloc (by simp; omega) _
  have HB := Lib.hid hb
  have hsz : (((w.alloc (.cells #[.int .i64 a.sorts, .slice Aaa a.ops.length caa] 25)).alloc (.cells #[.int .i64 b.sorts, .slice Aba b.ops.length cba] 25)).alloc (.cells #[.slice Ama m.sorts.length cma, .slice Amb m.ops.length cmb] 39)).heap.size = w.heap.size + 3 := by simp
  have Ha := Lib.hid (h1.keep hb)
  have a0 := cell_keep (below_alloc ((w.alloc (.cells #[.int .i64 a.sorts, .slice Aaa a.ops.length caa] 25)).alloc (.cells #[.int .i64 b.sorts, .slice Aba b.ops.length cba] 25)) (.cells #[.slice Ama m.sorts.length cma, .slice Amb m.ops.length cmb] 39)) (cell_keep (below_alloc (w.alloc (.cells #[.int .i64 a.sorts, .slice Aaa a.ops.length caa] 25)) (.cells #[.int .i64 b.sorts, .slice Aba b.ops.length cba] 25)) (bx_at (w) #[.int .i64 a.sorts, .slice Aaa a.ops.length caa] 25 (k := 0) rfl))
  have a1 := cell_keep (below_alloc ((w.alloc (.cells #[.int .i64 a.sorts, .slice Aaa a.ops.length caa] 25)).alloc (.cells #[.int .i64 b.sorts, .slice Aba b.ops.length cba] 25)) (.cells #[.slice Ama m.sorts.length cma, .slice Amb m.ops.length cmb] 39)) (cell_keep (below_alloc (w.alloc (.cells #[.int .i64 a.sorts, .slice Aaa a.ops.length caa] 25)) (.cells #[.int .i64 b.sorts, .slice Aba b.ops.length cba] 25)) (bx_at (w) #[.int .i64 a.sorts, .slice Aaa a.ops.length caa] 25 (k := 1) rfl))
  have Hb := Lib.hid (h2.keep hb)
  have b0 := cell_keep (below_alloc ((w.alloc (.cells #[.int .i64 a.sorts, .slice Aaa a.ops.length caa] 25)).alloc (.cells #[.int .i64 b.sorts, .slice Aba b.ops.length cba] 25)) (.cells #[.slice Ama m.sorts.length cma, .slice Amb m.ops.length cmb] 39)) (bx_at (w.alloc (.cells #[.int .i64 a.sorts, .slice Aaa a.ops.length caa] 25)) #[.int .i64 b.sorts, .slice Aba b.ops.length cba] 25 (k := 0) rfl)
  have b1 := cell_keep (below_alloc ((w.alloc (.cells #[.int .i64 a.sorts, .slice Aaa a.ops.length caa] 25)).alloc (.cells #[.int .i64 b.sorts, .slice Aba b.ops.length cba] 25)) (.cells #[.slice Ama m.sorts.length cma, .slice Amb m.ops.length cmb] 39)) (bx_at (w.alloc (.cells #[.int .i64 a.sorts, .slice Aaa a.ops.length caa] 25)) #[.int .i64 b.sorts, .slice Aba b.ops.length cba] 25 (k := 1) rfl)
  have Hm := Lib.hid (h3.keep hb)
  have m0 := bx_at ((w.alloc (.cells #[.int .i64 a.sorts, .slice Aaa a.ops.length caa] 25)).alloc (.cells #[.int .i64 b.sorts, .slice Aba b.ops.length cba] 25)) #[.slice Ama m.sorts.length cma, .slice Amb m.ops.length cmb] 39 (k := 0) rfl
  have m1 := bx_at ((w.alloc (.cells #[.int .i64 a.sorts, .slice Aaa a.ops.length caa] 25)).alloc (.cells #[.int .i64 b.sorts, .slice Aba b.ops.length cba] 25)) #[.slice Ama m.sorts.length cma, .slice Amb m.ops.length cmb] 39 (k := 1) rfl
  simp only [World.size_alloc] at b0 b1 m0 m1
  generalize hW : ((w.alloc (.cells #[.int .i64 a.sorts, .slice Aaa a.ops.length caa] 25)).alloc (.cells #[.int .i64 b.sorts, .slice Aba b.ops.length cba] 25)).alloc (.cells #[.slice Ama m.sorts.length cma, .slice Amb m.ops.length cmb] 39) = W at HB hsz Ha a0 a1 Hb b0 b1 Hm m0 m1
  clear hb h1 h2 h3
  have hl1 := Ha.out.of.2.len
  have hl2 := Hb.out.of.2.len
  have hl3 := Hm.out.of.1.len
  have hl4 := Hm.out.of.2.len
  cases hva : validB a with
  | false =>
    have HA := Lib.hid hva
    have HE := Lib.hid (mapOk_no1 (b := b) (m := m) hva)
    clear hva
    go_enter Try.func81, Try.ntmps81
    go_wp2_with fail
    clear hW
    refine (specSigValid_any _ a _ Ha.out).mono ?_
    rw [HA.out]
    rintro e w1 ⟨rfl, hb⟩
    replace HB := Lib.hid (sz_keep HB.out hb)
    replace a0 := cell_keep hb a0
    replace a1 := cell_keep hb a1
    replace b0 := cell_keep hb b0
    replace b1 := cell_keep hb b1
    replace m0 := cell_keep hb m0
    replace m1 := cell_keep hb m1
    replace Ha := Lib.hid (Ha.out.keep hb)
    replace Hb := Lib.hid (Hb.out.keep hb)
    replace Hm := Lib.hid (Hm.out.keep hb)
    clear hb
    go_wp2
    go_ret
    exact ⟨ret_bool HE.out.symm, HB.out⟩
  | true =>
    have HA := Lib.hid hva
    have hsa := valid_sorts hva
    clear hva
    cases hvb : validB b with
    | false =>
      have HV := Lib.hid hvb
      have HE := Lib.hid (mapOk_no2 (a := a) (m := m) hvb)
      clear hvb
      go_enter Try.func81, Try.ntmps81
      go_wp2_with fail
      clear hW
      refine (specSigValid_any _ a _ Ha.out).mono ?_
      rw [HA.out]
      rintro e w1 ⟨rfl, hb⟩
      replace HB := Lib.hid (sz_keep HB.out hb)
      replace a0 := cell_keep hb a0
      replace a1 := cell_keep hb a1
      replace b0 := cell_keep hb b0
      replace b1 := cell_keep hb b1
      replace m0 := cell_keep hb m0
      replace m1 := cell_keep hb m1
      replace Ha := Lib.hid (Ha.out.keep hb)
      replace Hb := Lib.hid (Hb.out.keep hb)
      replace Hm := Lib.hid (Hm.out.keep hb)
      clear hb
      go_wp2_with fail
      refine (specSigValid_any _ b _ Hb.out).mono ?_
      rw [HV.out]
      rintro e w2 ⟨rfl, hb⟩
      replace HB := Lib.hid (sz_keep HB.out hb)
      replace a0 := cell_keep hb a0
      replace a1 := cell_keep hb a1
      replace b0 := cell_keep hb b0
      replace b1 := cell_keep hb b1
      replace m0 := cell_keep hb m0
      replace m1 := cell_keep hb m1
      replace Ha := Lib.hid (Ha.out.keep hb)
      replace Hb := Lib.hid (Hb.out.keep hb)
      replace Hm := Lib.hid (Hm.out.keep hb)
      clear hb
      go_wp2
      go_ret
      exact ⟨ret_bool HE.out.symm, HB.out⟩
    | true =>
      have HV := Lib.hid hvb
      have hsb := valid_sorts hvb
      clear hvb
      by_cases hs : (m.sorts.length : Int) = a.sorts
      · have e1 : ((m.sorts.length : Int) != a.sorts) = false := by simp [hs]
        by_cases ho : m.ops.length = a.ops.length
        · have e2 : ((m.ops.length : Int) != (a.ops.length : Int)) = false := by simp [ho]
          have HS := Lib.hid hs
          have HO := Lib.hid ho
          clear hs ho
          go_enter Try.func81, Try.ntmps81
          go_wp2_with fail
          clear hW
          refine (specSigValid_any _ a _ Ha.out).mono ?_
          rw [HA.out]
          rintro e w1 ⟨rfl, hb⟩
          replace HB := Lib.hid (sz_keep HB.out hb)
          replace a0 := cell_keep hb a0
          replace a1 := cell_keep hb a1
          replace b0 := cell_keep hb b0
          replace b1 := cell_keep hb b1
          replace m0 := cell_keep hb m0
          replace m1 := cell_keep hb m1
          replace Ha := Lib.hid (Ha.out.keep hb)
          replace Hb := Lib.hid (Hb.out.keep hb)
          replace Hm := Lib.hid (Hm.out.keep hb)
          clear hb
          go_wp2_with fail
          refine (specSigValid_any _ b _ Hb.out).mono ?_
          rw [HV.out]
          rintro e w2 ⟨rfl, hb⟩
          replace HB := Lib.hid (sz_keep HB.out hb)
          replace a0 := cell_keep hb a0
          replace a1 := cell_keep hb a1
          replace b0 := cell_keep hb b0
          replace b1 := cell_keep hb b1
          replace m0 := cell_keep hb m0
          replace m1 := cell_keep hb m1
          replace Ha := Lib.hid (Ha.out.keep hb)
          replace Hb := Lib.hid (Hb.out.keep hb)
          replace Hm := Lib.hid (Hm.out.keep hb)
          clear hb
          go_wp2
          have HC := Lib.hid (And.intro a1 (And.intro b0 (And.intro b1 (And.intro m0 m1))))
          clear a0 a1 b0 b1 m0 m1
          have hwb : IntKind.i64.wrap (b.sorts - 1) = b.sorts - 1 := by rw [IntKind.wrap_i64]; omega
          have hwo : IntKind.i64.wrap ((b.ops.length : Int) - 1) = (b.ops.length : Int) - 1 := by rw [IntKind.wrap_i64]; omega
          go_loopw [7] (fun i wr => ∃ k : Nat, k ≤ m.sorts.length ∧ i = .int .i64 k ∧ belowB (m.sorts.take k) b.sorts = true ∧ Below w2.heap.size w2 wr) (fun i _ => m.sorts.length - (intOf i).toNat)
          case atStart => exact ⟨0, Nat.zero_le _, rfl, rfl, Below.refl _ _⟩
          case round =>
            obtain ⟨k, hk, rfl, hal, hd⟩ := hrel
            have HAL := Lib.hid hal
            have HD := Lib.hid hd
            have f0 := cell_keep hd HC.out.2.1
            have f3 := cell_keep hd HC.out.2.2.2.1
            clear hal
            by_cases hlt : k < m.sorts.length
            · have hlt' : (k : Int) < (m.sorts.length : Int) := by omega
              obtain ⟨b9, o9, c9, e, hx⟩ := (Hm.out.of.1.keep HD.out).at_ hlt
              cases e
              have HTK := Lib.hid (belowB_take (m := b.sorts) hlt)
              have HBAD := Lib.hid (fun h => mapOk_no5 (a := a) (b := b) (m := m) (belowB_bad (m := b.sorts) hlt h))
              generalize m.sorts[k] = x at hx HTK HBAD
              obtain ⟨r, hr⟩ : ∃ r, inB x 0 (b.sorts - 1) = r := ⟨_, rfl⟩
              have HR := Lib.hid hr
              clear hr hd
              go_wp2_with fail
              go_quiet ((go_at_call 90; exact quiet_left (l1In_is _ _ _ _ _ HR.out)))
              cases r with
              | true =>
                go_wp2
                go_roundw
                case rel => exact ⟨k + 1, by omega, by go_num, by rw [HTK.out, HAL.out]; have h := HR.out; unfold inB at h; simp at h ⊢; omega, below_drewN HD.out _⟩
                case measure => simp [intOf]; omega
              | false =>
                have HF := Lib.hid (HBAD.out (by have h := HR.out; unfold inB at h; simp at h; omega))
                go_wp2
                go_ret
                exact ⟨ret_bool HF.out.symm, sz_keep HB.out (below_drewN HD.out _)⟩
            · have hkn : k = m.sorts.length := by omega
              have hlt' : ¬ (k : Int) < (m.sorts.length : Int) := by omega
              have HBL := Lib.hid (show belowB m.sorts b.sorts = true by have h := HAL.out; rwa [take_all (by omega)] at h)
              obtain ⟨wv, rfl⟩ : ∃ wv : World, wv = wr := ⟨_, rfl⟩
              replace HB := Lib.hid (sz_keep HB.out hd)
              replace Ha := Lib.hid (Ha.out.keep hd)
              replace Hb := Lib.hid (Hb.out.keep hd)
              replace Hm := Lib.hid (Hm.out.keep hd)
              have g1 := cell_keep hd HC.out.1
              have g2 := cell_keep hd HC.out.2.2.1
              have g3 := cell_keep hd HC.out.2.2.2.1
              have g4 := cell_keep hd HC.out.2.2.2.2
              have HC2 := Lib.hid (And.intro g1 (And.intro g2 (And.intro g3 g4)))
              clear hd HC HD g1 g2 g3 g4 f0
              go_wp2
              clear f3
              go_loopw [8] (fun i wr2 => ∃ j : Nat, j ≤ m.ops.length ∧ i = .int .i64 j ∧ allLed a b m j = true ∧ Below wv.heap.size wv wr2) (fun i _ => m.ops.length - (intOf i).toNat)
              case atStart => exact ⟨0, Nat.zero_le _, rfl, allLed_zero _ _ _, Below.refl _ _⟩
              case round =>
                obtain ⟨j, hj, rfl, hal, hd⟩ := hrel
                have HAL := Lib.hid hal
                have HD := Lib.hid hd
                have f1 := cell_keep hd HC2.out.1
                have f2 := cell_keep hd HC2.out.2.1
                have f3 := cell_keep hd HC2.out.2.2.1
                have f4 := cell_keep hd HC2.out.2.2.2
                clear hal hd
                by_cases hlt : j < m.ops.length
                · have hlt' : (j : Int) < (m.ops.length : Int) := by omega
                  have hka : j < a.ops.length := by have := HO.out; omega
                  have hka' : (j : Int) < (a.ops.length : Int) := by omega
                  have hk0 : (0 : Int) ≤ (j : Int) := by omega
                  obtain ⟨b9, o9, c9, e, hx⟩ := (Hm.out.of.2.keep HD.out).at_ hlt
                  cases e
                  have HN1 := Lib.hid (fun h => ledOp_neg (a := a) (b := b) hlt h)
                  have HN2 := Lib.hid (fun h => ledOp_big (a := a) (b := b) hlt h)
                  have HN3 := Lib.hid (fun (n : Nat) h1 h2 => ledOp_in (a := a) (b := b) (n := n) hlt hka h1 h2)
                  have HBAD := Lib.hid (fun h => mapOk_no6 (a := a) (b := b) hlt h)
                  have HSUC := Lib.hid (allLed_succ a b m j)
                  generalize m.ops[j] = x at hx HN1 HN2 HN3
                  have ea := World.new_ne wr _ f1
                  have eb := World.new_ne wr _ f2
                  have ec := World.new_ne wr _ f3
                  have ed := World.new_ne wr _ hx
                  by_cases hin : 0 ≤ x ∧ x < (b.ops.length : Int)
                  · have HI := Lib.hid (show inB x 0 ((b.ops.length : Int) - 1) = true by unfold inB; simp; omega)
                    obtain ⟨n, rfl⟩ : ∃ n : Nat, x = (n : Int) := ⟨x.toNat, by omega⟩
                    have hnb : n < b.ops.length := by omega
                    have hnb' : (n : Int) < (b.ops.length : Int) := by omega
                    have hn0 : (0 : Int) ≤ (n : Int) := by omega
                    have HOP := Lib.hid (HN3.out n rfl hnb)
                    obtain ⟨b7, o7, c7, u7, e, hra, hri⟩ := (Ha.out.of.2.keep HD.out).at_ hka
                    cases e
                    obtain ⟨b8, o8, c8, u8, e, hrb, hrj⟩ := (Hb.out.of.2.keep HD.out).at_ hnb
                    cases e
                    have hvr := valid_row HA.out hka
                    have HIN := Lib.hid (show ∀ y ∈ a.ops[j], 0 ≤ y ∧ y < (m.sorts.length : Int) from fun y hy => by have := hvr.2.2 y hy; have := HS.out; omega)
                    have HL1 := Lib.hid (show rowLed m.sorts a.ops[j] = ledM m.sorts a.ops[j] from rowLed_led (fun y hy => by have := hvr.2.2 y hy; omega))
                    have hr3 := hvr.2.1
                    generalize a.ops[j] = row at hri hra HIN HOP hr3 HL1
                    generalize b.ops[n] = row2 at hrj hrb HOP
                    rw [← HL1.out] at HOP
                    have HRI := Lib.hid hri
                    have HRJ := Lib.hid hrj
                    have HMM := Lib.hid (Hm.out.keep HD.out)
                    obtain ⟨A7, d7, rfl, -⟩ := hri.form
                    obtain ⟨A8, d8, rfl, -⟩ := hrj.form
                    obtain ⟨r, hr⟩ : ∃ r, decide (rowLed m.sorts row = row2) = r := ⟨_, rfl⟩
                    rw [hr] at HOP
                    have HR := Lib.hid hr
                    clear hr hri hrj hvr
                    go_wp2_with fail
                    refine wp_region_held_drew (S := (fun w' => w'.cell? ⟨w.heap.size, 1, none⟩ = some (.slice (some ⟨b7, o7, none⟩) a.ops.length caa) ∧ w'.cell? ⟨w.heap.size + 1, 1, none⟩ = some (.slice (some ⟨b8, o8, none⟩) b.ops.length cba) ∧ w'.cell? ⟨w.heap.size + 1 + 1, 0, none⟩ = some (.slice Ama m.sorts.length cma) ∧ w'.cell? ⟨w.heap.size + 1 + 1, 1, none⟩ = some (.slice (some ⟨b9, o9, none⟩) m.ops.length cmb) ∧ w'.cell? ⟨b9, o9 + j, none⟩ = some (.int .i64 (n : Int)) ∧ w'.cell? ⟨b7, o7 + j, none⟩ = some (.slice A7 row.length d7) ∧ w'.cell? ⟨b8, o8 + n, none⟩ = some (.slice A8 row2.length d8))) (by kernel_rfl) ?_ (fun hHeld => ?_)
                    · exact ⟨f1, f2, f3, f4, hx, hra, hrb⟩
                    refine wpAnyH_take (i := 0) (oi := _) (v := ?_) rfl (by kernel_rfl) (by kernel_rfl) (by kernel_rfl) (fun _ _ _ h => h) (Or.inl ⟨by rfl, ?_⟩) (by assumption) ?_
                    rotate_left
                    · first | (intro w' hSw; (try dsimp only at hSw); go_simp; done) | (intro w' hSw; (try dsimp only at hSw); go_simp; with_reducible rfl)
                    try simp only [Act.put, List.getElem_toArray, List.getElem_cons_zero, List.getElem_cons_succ, List.setIfInBounds_toArray, List.set_cons_zero, List.set_cons_succ]
                    refine wpAnyH_take (i := 1) (oi := _) (v := ?_) rfl (by kernel_rfl) (by kernel_rfl) (by kernel_rfl) (fun _ _ _ h => h) (Or.inl ⟨by rfl, ?_⟩) (by assumption) ?_
                    rotate_left
                    · first | (intro w' hSw; (try dsimp only at hSw); go_simp; done) | (intro w' hSw; (try dsimp only at hSw); go_simp; with_reducible rfl)
                    try simp only [Act.put, List.getElem_toArray, List.getElem_cons_zero, List.getElem_cons_succ, List.setIfInBounds_toArray, List.set_cons_zero, List.set_cons_succ]
                    refine wpAnyH_take (i := 2) (oi := _) (v := ?_) rfl (by kernel_rfl) (by kernel_rfl) (by kernel_rfl) (fun _ _ _ h => h) (Or.inl ⟨by rfl, ?_⟩) (by assumption) ?_
                    rotate_left
                    · first | (intro w' hSw; (try dsimp only at hSw); go_simp; done) | (intro w' hSw; (try dsimp only at hSw); go_simp; with_reducible rfl)
                    try simp only [Act.put, List.getElem_toArray, List.getElem_cons_zero, List.getElem_cons_succ, List.setIfInBounds_toArray, List.set_cons_zero, List.set_cons_succ]
                    refine wpAnyH_take (i := 3) (oi := _) (v := ?_) rfl (by kernel_rfl) (by kernel_rfl) (by kernel_rfl) (fun _ _ _ h => h) (Or.inl ⟨by rfl, ?_⟩) (by assumption) ?_
                    rotate_left
                    · first | (intro w' hSw; (try dsimp only at hSw); go_simp; done) | (intro w' hSw; (try dsimp only at hSw); go_simp; with_reducible rfl)
                    try simp only [Act.put, List.getElem_toArray, List.getElem_cons_zero, List.getElem_cons_succ, List.setIfInBounds_toArray, List.set_cons_zero, List.set_cons_succ]
                    refine wpAnyH_take (i := 4) (oi := _) (v := ?_) rfl (by kernel_rfl) (by kernel_rfl) (by kernel_rfl) (fun _ _ _ h => h) (Or.inl ⟨by rfl, ?_⟩) (by assumption) ?_
                    rotate_left
                    · first | (intro w' hSw; (try dsimp only at hSw); go_simp; done) | (intro w' hSw; (try dsimp only at hSw); go_simp; with_reducible rfl)
                    try simp only [Act.put, List.getElem_toArray, List.getElem_cons_zero, List.getElem_cons_succ, List.setIfInBounds_toArray, List.set_cons_zero, List.set_cons_succ]
                    refine wpAnyH_take (i := 5) (oi := _) (v := ?_) rfl (by kernel_rfl) (by kernel_rfl) (by kernel_rfl) (fun _ _ _ h => h) (Or.inl ⟨by rfl, ?_⟩) (by assumption) ?_
                    rotate_left
                    · first | (intro w' hSw; (try dsimp only at hSw); go_simp; done) | (intro w' hSw; (try dsimp only at hSw); go_simp; with_reducible rfl)
                    try simp only [Act.put, List.getElem_toArray, List.getElem_cons_zero, List.getElem_cons_succ, List.setIfInBounds_toArray, List.set_cons_zero, List.set_cons_succ]
                    refine wpAnyH_take (i := 6) (oi := _) (v := ?_) rfl (by kernel_rfl) (by kernel_rfl) (by kernel_rfl) (fun _ _ _ h => h) (Or.inl ⟨by rfl, ?_⟩) (by assumption) ?_
                    rotate_left
                    · first | (intro w' hSw; (try dsimp only at hSw); go_simp; done) | (intro w' hSw; (try dsimp only at hSw); go_simp; with_reducible rfl)
                    try simp only [Act.put, List.getElem_toArray, List.getElem_cons_zero, List.getElem_cons_succ, List.setIfInBounds_toArray, List.set_cons_zero, List.set_cons_succ]
                    refine wpAnyH_take (i := 7) (oi := _) (v := ?_) rfl (by kernel_rfl) (by kernel_rfl) (by kernel_rfl) (fun _ _ _ h => h) (Or.inl ⟨by rfl, ?_⟩) (by assumption) ?_
                    rotate_left
                    · first | (intro w' hSw; (try dsimp only at hSw); go_simp; done) | (intro w' hSw; (try dsimp only at hSw); go_simp; with_reducible rfl)
                    try simp only [Act.put, List.getElem_toArray, List.getElem_cons_zero, List.getElem_cons_succ, List.setIfInBounds_toArray, List.set_cons_zero, List.set_cons_succ]
                    refine wpAnyH_take (i := 8) (oi := _) (v := ?_) rfl (by kernel_rfl) (by kernel_rfl) (by kernel_rfl) (fun _ _ _ h => h) (Or.inl ⟨by rfl, ?_⟩) (by assumption) ?_
                    rotate_left
                    · first | (intro w' hSw; (try dsimp only at hSw); go_simp; done) | (intro w' hSw; (try dsimp only at hSw); go_simp; with_reducible rfl)
                    try simp only [Act.put, List.getElem_toArray, List.getElem_cons_zero, List.getElem_cons_succ, List.setIfInBounds_toArray, List.set_cons_zero, List.set_cons_succ]
                    refine wpAnyH_ready (rs := [9]) (by kernel_rfl) (by simp) ?_
                    refine AllReadyH.cons (o := _) rfl (fun K hK => ?_) AllReadyH.nil
                    go_simp
                    refine (l1In_is _ _ _ _ _ HI.out).mono ?_
                    rintro x w3 ⟨rfl, rfl⟩
                    go_wp2_with fail
                    refine hK.out _ _ ?_ (fun hHeld => ?_)
                    · exact ⟨f1, f2, f3, f4, hx, hra, hrb⟩
                    clear hK K
                    try simp only [Act.put, List.getElem_toArray, List.getElem_cons_zero, List.getElem_cons_succ, List.setIfInBounds_toArray, List.set_cons_zero, List.set_cons_succ]
                    refine wpAnyH_take (i := 10) (oi := _) (v := ?_) rfl (by kernel_rfl) (by kernel_rfl) (by kernel_rfl) (fun _ _ _ h => h) (Or.inl ⟨by rfl, ?_⟩) (by assumption) ?_
                    rotate_left
                    · first | (intro w' hSw; (try dsimp only at hSw); go_simp; done) | (intro w' hSw; (try dsimp only at hSw); go_simp; with_reducible rfl)
                    try simp only [Act.put, List.getElem_toArray, List.getElem_cons_zero, List.getElem_cons_succ, List.setIfInBounds_toArray, List.set_cons_zero, List.set_cons_succ]
                    refine wpAnyH_take (i := 11) (oi := _) (v := ?_) rfl (by kernel_rfl) (by kernel_rfl) (by kernel_rfl) (fun _ _ _ h => h) (Or.inl ⟨by rfl, ?_⟩) (by assumption) ?_
                    rotate_left
                    · first | (intro w' hSw; (try dsimp only at hSw); go_simp; done) | (intro w' hSw; (try dsimp only at hSw); go_simp; with_reducible rfl)
                    try simp only [Act.put, List.getElem_toArray, List.getElem_cons_zero, List.getElem_cons_succ, List.setIfInBounds_toArray, List.set_cons_zero, List.set_cons_succ]
                    refine wpAnyH_take (i := 12) (oi := _) (v := ?_) rfl (by kernel_rfl) (by kernel_rfl) (by kernel_rfl) (fun _ _ _ h => h) (Or.inl ⟨by rfl, ?_⟩) (by assumption) ?_
                    rotate_left
                    · first | (intro w' hSw; (try dsimp only at hSw); go_simp; done) | (intro w' hSw; (try dsimp only at hSw); go_simp; with_reducible rfl)
                    try simp only [Act.put, List.getElem_toArray, List.getElem_cons_zero, List.getElem_cons_succ, List.setIfInBounds_toArray, List.set_cons_zero, List.set_cons_succ]
                    refine wpAnyH_take (i := 13) (oi := _) (v := ?_) rfl (by kernel_rfl) (by kernel_rfl) (by kernel_rfl) (fun _ _ _ h => h) (Or.inl ⟨by rfl, ?_⟩) (by assumption) ?_
                    rotate_left
                    · first | (intro w' hSw; (try dsimp only at hSw); go_simp; done) | (intro w' hSw; (try dsimp only at hSw); go_simp; with_reducible rfl)
                    try simp only [Act.put, List.getElem_toArray, List.getElem_cons_zero, List.getElem_cons_succ, List.setIfInBounds_toArray, List.set_cons_zero, List.set_cons_succ]
                    refine wpAnyH_take (i := 14) (oi := _) (v := ?_) rfl (by kernel_rfl) (by kernel_rfl) (by kernel_rfl) (fun _ _ _ h => h) (Or.inl ⟨by rfl, ?_⟩) (by assumption) ?_
                    rotate_left
                    · first | (intro w' hSw; (try dsimp only at hSw); go_simp; done) | (intro w' hSw; (try dsimp only at hSw); go_simp; with_reducible rfl)
                    try simp only [Act.put, List.getElem_toArray, List.getElem_cons_zero, List.getElem_cons_succ, List.setIfInBounds_toArray, List.set_cons_zero, List.set_cons_succ]
                    refine wpAnyH_take (i := 15) (oi := _) (v := ?_) rfl (by kernel_rfl) (by kernel_rfl) (by kernel_rfl) (fun _ _ _ h => h) (Or.inl ⟨by rfl, ?_⟩) (by assumption) ?_
                    rotate_left
                    · first | (intro w' hSw; (try dsimp only at hSw); go_simp; done) | (intro w' hSw; (try dsimp only at hSw); go_simp; with_reducible rfl)
                    try simp only [Act.put, List.getElem_toArray, List.getElem_cons_zero, List.getElem_cons_succ, List.setIfInBounds_toArray, List.set_cons_zero, List.set_cons_succ]
                    refine wpAnyH_take (i := 16) (oi := _) (v := ?_) rfl (by kernel_rfl) (by kernel_rfl) (by kernel_rfl) (fun _ _ _ h => h) (Or.inl ⟨by rfl, ?_⟩) (by assumption) ?_
                    rotate_left
                    · first | (intro w' hSw; (try dsimp only at hSw); go_simp; done) | (intro w' hSw; (try dsimp only at hSw); go_simp; with_reducible rfl)
                    try simp only [Act.put, List.getElem_toArray, List.getElem_cons_zero, List.getElem_cons_succ, List.setIfInBounds_toArray, List.set_cons_zero, List.set_cons_succ]
                    refine wpAnyH_take (i := 17) (oi := _) (v := ?_) rfl (by kernel_rfl) (by kernel_rfl) (by kernel_rfl) (fun _ _ _ h => h) (Or.inl ⟨by rfl, ?_⟩) (by assumption) ?_
                    rotate_left
                    · first | (intro w' hSw; (try dsimp only at hSw); go_simp; done) | (intro w' hSw; (try dsimp only at hSw); go_simp; with_reducible rfl)
                    try simp only [Act.put, List.getElem_toArray, List.getElem_cons_zero, List.getElem_cons_succ, List.setIfInBounds_toArray, List.set_cons_zero, List.set_cons_succ]
                    refine wpAnyH_take (i := 19) (oi := _) (v := ?_) rfl (by kernel_rfl) (by kernel_rfl) (by kernel_rfl) (fun _ _ _ h => h) (Or.inl ⟨by rfl, ?_⟩) (by assumption) ?_
                    rotate_left
                    · first | (intro w' hSw; (try dsimp only at hSw); go_simp; done) | (intro w' hSw; (try dsimp only at hSw); go_simp; with_reducible rfl)
                    try simp only [Act.put, List.getElem_toArray, List.getElem_cons_zero, List.getElem_cons_succ, List.setIfInBounds_toArray, List.set_cons_zero, List.set_cons_succ]
                    refine wpAnyH_take (i := 20) (oi := _) (v := ?_) rfl (by kernel_rfl) (by kernel_rfl) (by kernel_rfl) (fun _ _ _ h => h) (Or.inl ⟨by rfl, ?_⟩) (by assumption) ?_
                    rotate_left
                    · first | (intro w' hSw; (try dsimp only at hSw); go_simp; done) | (intro w' hSw; (try dsimp only at hSw); go_simp; with_reducible rfl)
                    try simp only [Act.put, List.getElem_toArray, List.getElem_cons_zero, List.getElem_cons_succ, List.setIfInBounds_toArray, List.set_cons_zero, List.set_cons_succ]
                    refine wpAnyH_take (i := 21) (oi := _) (v := ?_) rfl (by kernel_rfl) (by kernel_rfl) (by kernel_rfl) (fun _ _ _ h => h) (Or.inl ⟨by rfl, ?_⟩) (by assumption) ?_
                    rotate_left
                    · first | (intro w' hSw; (try dsimp only at hSw); go_simp; done) | (intro w' hSw; (try dsimp only at hSw); go_simp; with_reducible rfl)
                    try simp only [Act.put, List.getElem_toArray, List.getElem_cons_zero, List.getElem_cons_succ, List.setIfInBounds_toArray, List.set_cons_zero, List.set_cons_succ]
                    refine wpAnyH_take (i := 22) (oi := _) (v := ?_) rfl (by kernel_rfl) (by kernel_rfl) (by kernel_rfl) (fun _ _ _ h => h) (Or.inl ⟨by rfl, ?_⟩) (by assumption) ?_
                    rotate_left
                    · first | (intro w' hSw; (try dsimp only at hSw); go_simp; done) | (intro w' hSw; (try dsimp only at hSw); go_simp; with_reducible rfl)
                    try simp only [Act.put, List.getElem_toArray, List.getElem_cons_zero, List.getElem_cons_succ, List.setIfInBounds_toArray, List.set_cons_zero, List.set_cons_succ]
                    refine wpAnyH_take (i := 23) (oi := _) (v := ?_) rfl (by kernel_rfl) (by kernel_rfl) (by kernel_rfl) (fun _ _ _ h => h) (Or.inl ⟨by rfl, ?_⟩) (by assumption) ?_
                    rotate_left
                    · first | (intro w' hSw; (try dsimp only at hSw); go_simp; done) | (intro w' hSw; (try dsimp only at hSw); go_simp; with_reducible rfl)
                    try simp only [Act.put, List.getElem_toArray, List.getElem_cons_zero, List.getElem_cons_succ, List.setIfInBounds_toArray, List.set_cons_zero, List.set_cons_succ]
                    refine wpAnyH_take (i := 24) (oi := _) (v := ?_) rfl (by kernel_rfl) (by kernel_rfl) (by kernel_rfl) (fun _ _ _ h => h) (Or.inl ⟨by rfl, ?_⟩) (by assumption) ?_
                    rotate_left
                    · first | (intro w' hSw; (try dsimp only at hSw); go_simp; done) | (intro w' hSw; (try dsimp only at hSw); go_simp; with_reducible rfl)
                    try simp only [Act.put, List.getElem_toArray, List.getElem_cons_zero, List.getElem_cons_succ, List.setIfInBounds_toArray, List.set_cons_zero, List.set_cons_succ]
                    refine wpAnyH_take (i := 25) (oi := _) (v := ?_) rfl (by kernel_rfl) (by kernel_rfl) (by kernel_rfl) (fun _ _ _ h => h) (Or.inl ⟨by rfl, ?_⟩) (by assumption) ?_
                    rotate_left
                    · first | (intro w' hSw; (try dsimp only at hSw); go_simp; done) | (intro w' hSw; (try dsimp only at hSw); go_simp; with_reducible rfl)
                    try simp only [Act.put, List.getElem_toArray, List.getElem_cons_zero, List.getElem_cons_succ, List.setIfInBounds_toArray, List.set_cons_zero, List.set_cons_succ]
                    refine wpAnyH_take (i := 26) (oi := _) (v := ?_) rfl (by kernel_rfl) (by kernel_rfl) (by kernel_rfl) (fun _ _ _ h => h) (Or.inl ⟨by rfl, ?_⟩) (by assumption) ?_
                    rotate_left
                    · first | (intro w' hSw; (try dsimp only at hSw); go_simp; done) | (intro w' hSw; (try dsimp only at hSw); go_simp; with_reducible rfl)
                    try simp only [Act.put, List.getElem_toArray, List.getElem_cons_zero, List.getElem_cons_succ, List.setIfInBounds_toArray, List.set_cons_zero, List.set_cons_succ]
                    refine wpAnyH_take (i := 27) (oi := _) (v := ?_) rfl (by kernel_rfl) (by kernel_rfl) (by kernel_rfl) (fun _ _ _ h => h) (Or.inl ⟨by rfl, ?_⟩) (by assumption) ?_
                    rotate_left
                    · first | (intro w' hSw; (try dsimp only at hSw); go_simp; done) | (intro w' hSw; (try dsimp only at hSw); go_simp; with_reducible rfl)
                    try simp only [Act.put, List.getElem_toArray, List.getElem_cons_zero, List.getElem_cons_succ, List.setIfInBounds_toArray, List.set_cons_zero, List.set_cons_succ]
                    refine wpAnyH_ready (rs := [18]) (by kernel_rfl) (by simp) ?_
                    refine AllReadyH.cons (o := _) rfl (fun K hK => ?_) AllReadyH.nil
                    go_simp
                    refine (l4Row_any _ _ row m wr.drew (HMM.out.keep (map_drew (Below.refl _ _))) (HRI.out.keep (map_drew (Below.refl _ _))) HIN.out (by omega)).mono ?_
                    rintro x w4 ⟨u4, rfl, ho4, hb4⟩
                    have hx4 := map_undrew hb4
                    obtain ⟨A4, c4, rfl, -⟩ := ho4.reads.form
                    have HO4 := Lib.hid ho4.reads
                    have HX4 := Lib.hid hx4
                    have j1 := cell_keep hx4 f1
                    have j2 := cell_keep hx4 f2
                    have j3 := cell_keep hx4 f3
                    have j4 := cell_keep hx4 f4
                    have j5 := cell_keep hx4 hx
                    have j6 := cell_keep hx4 hra
                    have j7 := cell_keep hx4 hrb
                    clear ho4 hb4 hx4
                    go_wp2_with fail
                    refine hK.out _ _ ?_ (fun hHeld => ?_)
                    · exact ⟨j1, j2, j3, j4, j5, j6, j7⟩
                    clear hK K
                    try simp only [Act.put, List.getElem_toArray, List.getElem_cons_zero, List.getElem_cons_succ, List.setIfInBounds_toArray, List.set_cons_zero, List.set_cons_succ]
                    refine wpAnyH_ready (rs := [28]) (by kernel_rfl) (by simp) ?_
                    refine AllReadyH.cons (o := _) rfl (fun K hK => ?_) AllReadyH.nil
                    go_simp
                    refine (l1Same_any _ _ (rowLed m.sorts row) row2 w4 HO4.out (HRJ.out.keep HX4.out)).mono ?_
                    rw [HR.out]
                    rintro x w5 ⟨rfl, hd5⟩
                    have hx5 := hd5.below
                    have HX5 := Lib.hid (sz_keep HX4.out hx5)
                    have q1 := cell_keep hx5 j1
                    have q2 := cell_keep hx5 j2
                    have q3 := cell_keep hx5 j3
                    have q4 := cell_keep hx5 j4
                    have q5 := cell_keep hx5 j5
                    have q6 := cell_keep hx5 j6
                    have q7 := cell_keep hx5 j7
                    clear hx5 hd5
                    go_wp2_with fail
                    refine hK.out _ _ ?_ (fun hHeld => ?_)
                    · exact ⟨q1, q2, q3, q4, q5, q6, q7⟩
                    clear hK K
                    try simp only [Act.put, List.getElem_toArray, List.getElem_cons_zero, List.getElem_cons_succ, List.setIfInBounds_toArray, List.set_cons_zero, List.set_cons_succ]
                    refine wpAnyH_take (i := 29) (oi := _) (v := ?_) rfl (by kernel_rfl) (by kernel_rfl) (by kernel_rfl) (fun _ _ _ h => h) (Or.inl ⟨by rfl, ?_⟩) (by assumption) ?_
                    rotate_left
                    · first | (intro w' hSw; (try dsimp only at hSw); go_simp; done) | (intro w' hSw; (try dsimp only at hSw); go_simp; with_reducible rfl)
                    try simp only [Act.put, List.getElem_toArray, List.getElem_cons_zero, List.getElem_cons_succ, List.setIfInBounds_toArray, List.set_cons_zero, List.set_cons_succ]
                    refine wpAnyH_take (i := 30) (oi := _) (v := ?_) rfl (by kernel_rfl) (by kernel_rfl) (by kernel_rfl) (fun _ _ _ h => h) (Or.inl ⟨by rfl, ?_⟩) (by assumption) ?_
                    rotate_left
                    · first | (intro w' hSw; (try dsimp only at hSw); go_simp; done) | (intro w' hSw; (try dsimp only at hSw); go_simp; with_reducible rfl)
                    try simp only [Act.put, List.getElem_toArray, List.getElem_cons_zero, List.getElem_cons_succ, List.setIfInBounds_toArray, List.set_cons_zero, List.set_cons_succ]
                    refine wpAnyH_done (by kernel_rfl) ?_ _
                    clear f1 f2 f3 f4 hra hrb j1 j2 j3 j4 j5 j6 j7 q1 q2 q3 q4 q5 q6 q7 hx ea eb ec ed
                    cases r with
                    | true =>
                      go_wp2
                      go_roundw
                      case rel => exact ⟨j + 1, by omega, by go_num, by rw [HSUC.out, HAL.out, HOP.out]; rfl, sz_keep HD.out HX5.out⟩
                      case measure => simp [intOf]; omega
                    | false =>
                      have HF := Lib.hid (HBAD.out HOP.out)
                      go_wp2
                      go_ret
                      exact ⟨ret_bool HF.out.symm, sz_keep HB.out (sz_keep HD.out HX5.out)⟩
                  · have HI := Lib.hid (show inB x 0 ((b.ops.length : Int) - 1) = false by unfold inB; simp; omega)
                    have HF := Lib.hid (HBAD.out (by
                      by_cases hneg : x < 0
                      · exact HN1.out hneg
                      · exact HN2.out (by omega)))
                    go_wp2_with fail
                    refine wp_region_held_drew (S := (fun w' => w'.cell? ⟨w.heap.size, 1, none⟩ = some (.slice Aaa a.ops.length caa) ∧ w'.cell? ⟨w.heap.size + 1, 1, none⟩ = some (.slice Aba b.ops.length cba) ∧ w'.cell? ⟨w.heap.size + 1 + 1, 1, none⟩ = some (.slice (some ⟨b9, o9, none⟩) m.ops.length cmb) ∧ w'.cell? ⟨b9, o9 + j, none⟩ = some (.int .i64 x))) (by kernel_rfl) ?_ (fun hHeld => ?_)
                    · exact ⟨f1, f2, f4, hx⟩
                    refine wpAnyH_take (i := 0) (oi := _) (v := ?_) rfl (by kernel_rfl) (by kernel_rfl) (by kernel_rfl) (fun _ _ _ h => h) (Or.inl ⟨by rfl, ?_⟩) (by assumption) ?_
                    rotate_left
                    · first | (intro w' hSw; (try dsimp only at hSw); go_simp; done) | (intro w' hSw; (try dsimp only at hSw); go_simp; with_reducible rfl)
                    try simp only [Act.put, List.getElem_toArray, List.getElem_cons_zero, List.getElem_cons_succ, List.setIfInBounds_toArray, List.set_cons_zero, List.set_cons_succ]
                    refine wpAnyH_take (i := 1) (oi := _) (v := ?_) rfl (by kernel_rfl) (by kernel_rfl) (by kernel_rfl) (fun _ _ _ h => h) (Or.inl ⟨by rfl, ?_⟩) (by assumption) ?_
                    rotate_left
                    · first | (intro w' hSw; (try dsimp only at hSw); go_simp; done) | (intro w' hSw; (try dsimp only at hSw); go_simp; with_reducible rfl)
                    try simp only [Act.put, List.getElem_toArray, List.getElem_cons_zero, List.getElem_cons_succ, List.setIfInBounds_toArray, List.set_cons_zero, List.set_cons_succ]
                    refine wpAnyH_take (i := 2) (oi := _) (v := ?_) rfl (by kernel_rfl) (by kernel_rfl) (by kernel_rfl) (fun _ _ _ h => h) (Or.inl ⟨by rfl, ?_⟩) (by assumption) ?_
                    rotate_left
                    · first | (intro w' hSw; (try dsimp only at hSw); go_simp; done) | (intro w' hSw; (try dsimp only at hSw); go_simp; with_reducible rfl)
                    try simp only [Act.put, List.getElem_toArray, List.getElem_cons_zero, List.getElem_cons_succ, List.setIfInBounds_toArray, List.set_cons_zero, List.set_cons_succ]
                    refine wpAnyH_take (i := 3) (oi := _) (v := ?_) rfl (by kernel_rfl) (by kernel_rfl) (by kernel_rfl) (fun _ _ _ h => h) (Or.inl ⟨by rfl, ?_⟩) (by assumption) ?_
                    rotate_left
                    · first | (intro w' hSw; (try dsimp only at hSw); go_simp; done) | (intro w' hSw; (try dsimp only at hSw); go_simp; with_reducible rfl)
                    try simp only [Act.put, List.getElem_toArray, List.getElem_cons_zero, List.getElem_cons_succ, List.setIfInBounds_toArray, List.set_cons_zero, List.set_cons_succ]
                    refine wpAnyH_take (i := 4) (oi := _) (v := ?_) rfl (by kernel_rfl) (by kernel_rfl) (by kernel_rfl) (fun _ _ _ h => h) (Or.inl ⟨by rfl, ?_⟩) (by assumption) ?_
                    rotate_left
                    · first | (intro w' hSw; (try dsimp only at hSw); go_simp; done) | (intro w' hSw; (try dsimp only at hSw); go_simp; with_reducible rfl)
                    try simp only [Act.put, List.getElem_toArray, List.getElem_cons_zero, List.getElem_cons_succ, List.setIfInBounds_toArray, List.set_cons_zero, List.set_cons_succ]
                    refine wpAnyH_take (i := 5) (oi := _) (v := ?_) rfl (by kernel_rfl) (by kernel_rfl) (by kernel_rfl) (fun _ _ _ h => h) (Or.inl ⟨by rfl, ?_⟩) (by assumption) ?_
                    rotate_left
                    · first | (intro w' hSw; (try dsimp only at hSw); go_simp; done) | (intro w' hSw; (try dsimp only at hSw); go_simp; with_reducible rfl)
                    try simp only [Act.put, List.getElem_toArray, List.getElem_cons_zero, List.getElem_cons_succ, List.setIfInBounds_toArray, List.set_cons_zero, List.set_cons_succ]
                    refine wpAnyH_take (i := 6) (oi := _) (v := ?_) rfl (by kernel_rfl) (by kernel_rfl) (by kernel_rfl) (fun _ _ _ h => h) (Or.inl ⟨by rfl, ?_⟩) (by assumption) ?_
                    rotate_left
                    · first | (intro w' hSw; (try dsimp only at hSw); go_simp; done) | (intro w' hSw; (try dsimp only at hSw); go_simp; with_reducible rfl)
                    try simp only [Act.put, List.getElem_toArray, List.getElem_cons_zero, List.getElem_cons_succ, List.setIfInBounds_toArray, List.set_cons_zero, List.set_cons_succ]
                    refine wpAnyH_take (i := 7) (oi := _) (v := ?_) rfl (by kernel_rfl) (by kernel_rfl) (by kernel_rfl) (fun _ _ _ h => h) (Or.inl ⟨by rfl, ?_⟩) (by assumption) ?_
                    rotate_left
                    · first | (intro w' hSw; (try dsimp only at hSw); go_simp; done) | (intro w' hSw; (try dsimp only at hSw); go_simp; with_reducible rfl)
                    try simp only [Act.put, List.getElem_toArray, List.getElem_cons_zero, List.getElem_cons_succ, List.setIfInBounds_toArray, List.set_cons_zero, List.set_cons_succ]
                    refine wpAnyH_take (i := 8) (oi := _) (v := ?_) rfl (by kernel_rfl) (by kernel_rfl) (by kernel_rfl) (fun _ _ _ h => h) (Or.inl ⟨by rfl, ?_⟩) (by assumption) ?_
                    rotate_left
                    · first | (intro w' hSw; (try dsimp only at hSw); go_simp; done) | (intro w' hSw; (try dsimp only at hSw); go_simp; with_reducible rfl)
                    try simp only [Act.put, List.getElem_toArray, List.getElem_cons_zero, List.getElem_cons_succ, List.setIfInBounds_toArray, List.set_cons_zero, List.set_cons_succ]
                    refine wpAnyH_ready (rs := [9]) (by kernel_rfl) (by simp) ?_
                    refine AllReadyH.cons (o := _) rfl (fun K hK => ?_) AllReadyH.nil
                    go_simp
                    refine (l1In_is _ _ _ _ _ HI.out).mono ?_
                    rintro x w3 ⟨rfl, rfl⟩
                    go_wp2_with fail
                    refine hK.out _ _ ?_ (fun hHeld => ?_)
                    · exact ⟨f1, f2, f4, hx⟩
                    clear hK K
                    try simp only [Act.put, List.getElem_toArray, List.getElem_cons_zero, List.getElem_cons_succ, List.setIfInBounds_toArray, List.set_cons_zero, List.set_cons_succ]
                    refine wpAnyH_take (i := 10) (oi := _) (v := ?_) rfl (by kernel_rfl) (by kernel_rfl) (by kernel_rfl) (fun _ _ _ h => h) (Or.inl ⟨by rfl, ?_⟩) (by assumption) ?_
                    rotate_left
                    · first | (intro w' hSw; (try dsimp only at hSw); go_simp; done) | (intro w' hSw; (try dsimp only at hSw); go_simp; with_reducible rfl)
                    try simp only [Act.put, List.getElem_toArray, List.getElem_cons_zero, List.getElem_cons_succ, List.setIfInBounds_toArray, List.set_cons_zero, List.set_cons_succ]
                    refine wpAnyH_take (i := 11) (oi := _) (v := ?_) rfl (by kernel_rfl) (by kernel_rfl) (by kernel_rfl) (fun _ _ _ h => h) (Or.inl ⟨by rfl, ?_⟩) (by assumption) ?_
                    rotate_left
                    · first | (intro w' hSw; (try dsimp only at hSw); go_simp; done) | (intro w' hSw; (try dsimp only at hSw); go_simp; with_reducible rfl)
                    try simp only [Act.put, List.getElem_toArray, List.getElem_cons_zero, List.getElem_cons_succ, List.setIfInBounds_toArray, List.set_cons_zero, List.set_cons_succ]
                    refine wpAnyH_take (i := 12) (oi := _) (v := _) rfl (by kernel_rfl) (by kernel_rfl) (by kernel_rfl) (fun _ _ _ h => h) (Or.inr ⟨by rfl, rfl⟩) (by assumption) ?_
                    try simp only [Act.put, List.getElem_toArray, List.getElem_cons_zero, List.getElem_cons_succ, List.setIfInBounds_toArray, List.set_cons_zero, List.set_cons_succ]
                    refine wpAnyH_take (i := 13) (oi := _) (v := _) rfl (by kernel_rfl) (by kernel_rfl) (by kernel_rfl) (fun _ _ _ h => h) (Or.inr ⟨by rfl, rfl⟩) (by assumption) ?_
                    try simp only [Act.put, List.getElem_toArray, List.getElem_cons_zero, List.getElem_cons_succ, List.setIfInBounds_toArray, List.set_cons_zero, List.set_cons_succ]
                    refine wpAnyH_take (i := 14) (oi := _) (v := _) rfl (by kernel_rfl) (by kernel_rfl) (by kernel_rfl) (fun _ _ _ h => h) (Or.inr ⟨by rfl, rfl⟩) (by assumption) ?_
                    try simp only [Act.put, List.getElem_toArray, List.getElem_cons_zero, List.getElem_cons_succ, List.setIfInBounds_toArray, List.set_cons_zero, List.set_cons_succ]
                    refine wpAnyH_take (i := 15) (oi := _) (v := _) rfl (by kernel_rfl) (by kernel_rfl) (by kernel_rfl) (fun _ _ _ h => h) (Or.inr ⟨by rfl, rfl⟩) (by assumption) ?_
                    try simp only [Act.put, List.getElem_toArray, List.getElem_cons_zero, List.getElem_cons_succ, List.setIfInBounds_toArray, List.set_cons_zero, List.set_cons_succ]
                    refine wpAnyH_take (i := 16) (oi := _) (v := _) rfl (by kernel_rfl) (by kernel_rfl) (by kernel_rfl) (fun _ _ _ h => h) (Or.inr ⟨by rfl, rfl⟩) (by assumption) ?_
                    try simp only [Act.put, List.getElem_toArray, List.getElem_cons_zero, List.getElem_cons_succ, List.setIfInBounds_toArray, List.set_cons_zero, List.set_cons_succ]
                    refine wpAnyH_take (i := 17) (oi := _) (v := _) rfl (by kernel_rfl) (by kernel_rfl) (by kernel_rfl) (fun _ _ _ h => h) (Or.inr ⟨by rfl, rfl⟩) (by assumption) ?_
                    try simp only [Act.put, List.getElem_toArray, List.getElem_cons_zero, List.getElem_cons_succ, List.setIfInBounds_toArray, List.set_cons_zero, List.set_cons_succ]
                    refine wpAnyH_take (i := 19) (oi := _) (v := _) rfl (by kernel_rfl) (by kernel_rfl) (by kernel_rfl) (fun _ _ _ h => h) (Or.inr ⟨by rfl, rfl⟩) (by assumption) ?_
                    try simp only [Act.put, List.getElem_toArray, List.getElem_cons_zero, List.getElem_cons_succ, List.setIfInBounds_toArray, List.set_cons_zero, List.set_cons_succ]
                    refine wpAnyH_take (i := 20) (oi := _) (v := _) rfl (by kernel_rfl) (by kernel_rfl) (by kernel_rfl) (fun _ _ _ h => h) (Or.inr ⟨by rfl, rfl⟩) (by assumption) ?_
                    try simp only [Act.put, List.getElem_toArray, List.getElem_cons_zero, List.getElem_cons_succ, List.setIfInBounds_toArray, List.set_cons_zero, List.set_cons_succ]
                    refine wpAnyH_take (i := 21) (oi := _) (v := _) rfl (by kernel_rfl) (by kernel_rfl) (by kernel_rfl) (fun _ _ _ h => h) (Or.inr ⟨by rfl, rfl⟩) (by assumption) ?_
                    try simp only [Act.put, List.getElem_toArray, List.getElem_cons_zero, List.getElem_cons_succ, List.setIfInBounds_toArray, List.set_cons_zero, List.set_cons_succ]
                    refine wpAnyH_take (i := 22) (oi := _) (v := _) rfl (by kernel_rfl) (by kernel_rfl) (by kernel_rfl) (fun _ _ _ h => h) (Or.inr ⟨by rfl, rfl⟩) (by assumption) ?_
                    try simp only [Act.put, List.getElem_toArray, List.getElem_cons_zero, List.getElem_cons_succ, List.setIfInBounds_toArray, List.set_cons_zero, List.set_cons_succ]
                    refine wpAnyH_take (i := 23) (oi := _) (v := _) rfl (by kernel_rfl) (by kernel_rfl) (by kernel_rfl) (fun _ _ _ h => h) (Or.inr ⟨by rfl, rfl⟩) (by assumption) ?_
                    try simp only [Act.put, List.getElem_toArray, List.getElem_cons_zero, List.getElem_cons_succ, List.setIfInBounds_toArray, List.set_cons_zero, List.set_cons_succ]
                    refine wpAnyH_take (i := 24) (oi := _) (v := _) rfl (by kernel_rfl) (by kernel_rfl) (by kernel_rfl) (fun _ _ _ h => h) (Or.inr ⟨by rfl, rfl⟩) (by assumption) ?_
                    try simp only [Act.put, List.getElem_toArray, List.getElem_cons_zero, List.getElem_cons_succ, List.setIfInBounds_toArray, List.set_cons_zero, List.set_cons_succ]
                    refine wpAnyH_take (i := 25) (oi := _) (v := _) rfl (by kernel_rfl) (by kernel_rfl) (by kernel_rfl) (fun _ _ _ h => h) (Or.inr ⟨by rfl, rfl⟩) (by assumption) ?_
                    try simp only [Act.put, List.getElem_toArray, List.getElem_cons_zero, List.getElem_cons_succ, List.setIfInBounds_toArray, List.set_cons_zero, List.set_cons_succ]
                    refine wpAnyH_take (i := 26) (oi := _) (v := _) rfl (by kernel_rfl) (by kernel_rfl) (by kernel_rfl) (fun _ _ _ h => h) (Or.inr ⟨by rfl, rfl⟩) (by assumption) ?_
                    try simp only [Act.put, List.getElem_toArray, List.getElem_cons_zero, List.getElem_cons_succ, List.setIfInBounds_toArray, List.set_cons_zero, List.set_cons_succ]
                    refine wpAnyH_take (i := 27) (oi := _) (v := _) rfl (by kernel_rfl) (by kernel_rfl) (by kernel_rfl) (fun _ _ _ h => h) (Or.inr ⟨by rfl, rfl⟩) (by assumption) ?_
                    try simp only [Act.put, List.getElem_toArray, List.getElem_cons_zero, List.getElem_cons_succ, List.setIfInBounds_toArray, List.set_cons_zero, List.set_cons_succ]
                    refine wpAnyH_ready (rs := [18]) (by kernel_rfl) (by simp) ?_
                    refine AllReadyH.cons (o := _) rfl (fun K hK => ?_) AllReadyH.nil
                    refine ite_off (by rfl) ?_
                    refine hK.out _ _ (by assumption) (fun hHeld => ?_)
                    clear hK K
                    try simp only [Act.put, List.getElem_toArray, List.getElem_cons_zero, List.getElem_cons_succ, List.setIfInBounds_toArray, List.set_cons_zero, List.set_cons_succ]
                    refine wpAnyH_ready (rs := [28]) (by kernel_rfl) (by simp) ?_
                    refine AllReadyH.cons (o := _) rfl (fun K hK => ?_) AllReadyH.nil
                    refine ite_off (by rfl) ?_
                    refine hK.out _ _ (by assumption) (fun hHeld => ?_)
                    clear hK K
                    try simp only [Act.put, List.getElem_toArray, List.getElem_cons_zero, List.getElem_cons_succ, List.setIfInBounds_toArray, List.set_cons_zero, List.set_cons_succ]
                    refine wpAnyH_take (i := 29) (oi := _) (v := _) rfl (by kernel_rfl) (by kernel_rfl) (by kernel_rfl) (fun _ _ _ h => h) (Or.inr ⟨by rfl, rfl⟩) (by assumption) ?_
                    try simp only [Act.put, List.getElem_toArray, List.getElem_cons_zero, List.getElem_cons_succ, List.setIfInBounds_toArray, List.set_cons_zero, List.set_cons_succ]
                    refine wpAnyH_take (i := 30) (oi := _) (v := ?_) rfl (by kernel_rfl) (by kernel_rfl) (by kernel_rfl) (fun _ _ _ h => h) (Or.inl ⟨by rfl, ?_⟩) (by assumption) ?_
                    rotate_left
                    · first | (intro w' hSw; (try dsimp only at hSw); go_simp; done) | (intro w' hSw; (try dsimp only at hSw); go_simp; with_reducible rfl)
                    try simp only [Act.put, List.getElem_toArray, List.getElem_cons_zero, List.getElem_cons_succ, List.setIfInBounds_toArray, List.set_cons_zero, List.set_cons_succ]
                    refine wpAnyH_done (by kernel_rfl) ?_ _
                    clear f1 f2 f3 f4 hx ea eb ec ed
                    go_wp2
                    go_ret
                    exact ⟨ret_bool HF.out.symm, sz_keep HB.out (sz_keep HD.out (map_drew (Below.refl _ _)))⟩
                · have hkn : j = m.ops.length := by omega
                  have hlt' : ¬ (j : Int) < (m.ops.length : Int) := by omega
                  have HE := Lib.hid (mapOk_yes HA.out HV.out HS.out HO.out HBL.out (by rw [← hkn]; exact HAL.out))
                  go_wp2
                  clear f1 f2 f3 f4
                  go_ret
                  exact ⟨ret_bool HE.out.symm, sz_keep HB.out HD.out⟩
        · have e2 : ((m.ops.length : Int) != (a.ops.length : Int)) = true := by simp; omega
          have HE := Lib.hid (mapOk_no4 (a := a) (b := b) ho)
          clear hs ho
          go_enter Try.func81, Try.ntmps81
          go_wp2_with fail
          clear hW
          refine (specSigValid_any _ a _ Ha.out).mono ?_
          rw [HA.out]
          rintro e w1 ⟨rfl, hb⟩
          replace HB := Lib.hid (sz_keep HB.out hb)
          replace a0 := cell_keep hb a0
          replace a1 := cell_keep hb a1
          replace b0 := cell_keep hb b0
          replace b1 := cell_keep hb b1
          replace m0 := cell_keep hb m0
          replace m1 := cell_keep hb m1
          replace Ha := Lib.hid (Ha.out.keep hb)
          replace Hb := Lib.hid (Hb.out.keep hb)
          replace Hm := Lib.hid (Hm.out.keep hb)
          clear hb
          go_wp2_with fail
          refine (specSigValid_any _ b _ Hb.out).mono ?_
          rw [HV.out]
          rintro e w2 ⟨rfl, hb⟩
          replace HB := Lib.hid (sz_keep HB.out hb)
          replace a0 := cell_keep hb a0
          replace a1 := cell_keep hb a1
          replace b0 := cell_keep hb b0
          replace b1 := cell_keep hb b1
          replace m0 := cell_keep hb m0
          replace m1 := cell_keep hb m1
          replace Ha := Lib.hid (Ha.out.keep hb)
          replace Hb := Lib.hid (Hb.out.keep hb)
          replace Hm := Lib.hid (Hm.out.keep hb)
          clear hb
          go_wp2
          go_ret
          exact ⟨ret_bool HE.out.symm, HB.out⟩
      · have e1 : ((m.sorts.length : Int) != a.sorts) = true := by simpa using hs
        have HE := Lib.hid (mapOk_no3 (a := a) (b := b) hs)
        clear hs
        go_enter Try.func81, Try.ntmps81
        go_wp2_with fail
        clear hW
        refine (specSigValid_any _ a _ Ha.out).mono ?_
        rw [HA.out]
        rintro e w1 ⟨rfl, hb⟩
        replace HB := Lib.hid (sz_keep HB.out hb)
        replace a0 := cell_keep hb a0
        replace a1 := cell_keep hb a1
        replace b0 := cell_keep hb b0
        replace b1 := cell_keep hb b1
        replace m0 := cell_keep hb m0
        replace m1 := cell_keep hb m1
        replace Ha := Lib.hid (Ha.out.keep hb)
        replace Hb := Lib.hid (Hb.out.keep hb)
        replace Hm := Lib.hid (Hm.out.keep hb)
        clear hb
        go_wp2_with fail
        refine (specSigValid_any _ b _ Hb.out).mono ?_
        rw [HV.out]
        rintro e w2 ⟨rfl, hb⟩
        replace HB := Lib.hid (sz_keep HB.out hb)
        replace a0 := cell_keep hb a0
        replace a1 := cell_keep hb a1
        replace b0 := cell_keep hb b0
        replace b1 := cell_keep hb b1
        replace m0 := cell_keep hb m0
        replace m1 := cell_keep hb m1
        replace Ha := Lib.hid (Ha.out.keep hb)
        replace Hb := Lib.hid (Hb.out.keep hb)
        replace Hm := Lib.hid (Hm.out.keep hb)
        clear hb
        go_wp2
        go_ret
        exact ⟨ret_bool HE.out.symm, HB.out⟩
end
end Go.Proofs.Yticldaddbljleaa
