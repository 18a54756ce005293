/- FnExactMapTerm answers true at every two signatures, map, letters and row. No condition. -/
import Derived.Test.YtonainidjkcoeaaExB
import Derived.Test.YtonainidjkcoeaaFrameM
import Derived.Test.YtonainidjkcoeaaMapFnS
namespace Go.Proofs.Ytonainidjkcoeaa
open Go.ChangeShapes Go.WideShapes Go.ChangeAt Go.RowKit
set_option linter.unusedVariables false
set_option linter.unusedSimpArgs false

theorem mapTermM_fits (a b : MSig) (m : MMap) (vars t : List Int) : (mapTermM a b m vars t).1.length ≤ 1048576 ∧ (mapTermM a b m vars t).2.1.length ≤ 1048576 := by
  unfold mapTermM
  split
  · rename_i h
    simp only [Bool.and_eq_true, decide_eq_true_eq] at h
    have f := term_in (mapOk_facts h.1) h.2
    have := f.2.1
    have := f.2.2.2.1
    exact ⟨by simp only [ledM_len]; omega, by simp only [ledM_len]; omega⟩
  · exact ⟨by simp, by simp⟩

set_option maxHeartbeats 3200000 in
set_option maxRecDepth 100000 in
theorem walk_FnExactMapTerm (v0 : Value) (s0 : MSig) (v1 : Value) (s1 : MSig) (v2 : Value) (s2 : MMap) (v3 : Value) (xs3 : List Int) (v4 : Value) (xs4 : List Int) (w : World) (h0 : RSig w v0 s0) (h1 : RSig w v1 s1) (h2 : RMap w v2 s2) (h3 : RInts w v3 xs3 ∧ Small xs3) (h4 : RInts w v4 xs4 ∧ Small xs4) :
    Calls Try.prog 6 #[v0, v1, v2, v3, v4] w fun e w' => e = .returned (.bool true) ∧ Below w.heap.size w w' := by
  have HB : Hid (Below w.heap.size w w) := Below.refl _ _
  obtain ⟨A0a, c0a, rfl⟩ := h0.form
  have HW0 := Lib.hid h0
  have hb := below_alloc (w) (.cells #[.int .i64 s0.sorts, .slice A0a s0.ops.length c0a] 24)
  have fa0 := (bx_cells (w) (.int .i64 s0.sorts) (.slice A0a s0.ops.length c0a) 24).1
  have fb0 := (bx_cells (w) (.int .i64 s0.sorts) (.slice A0a s0.ops.length c0a) 24).2
  replace HB := Lib.hid (ex_keep HB.out hb)
  clear hb h0
  obtain ⟨A1a, c1a, rfl⟩ := h1.form
  have HW1 := Lib.hid h1
  have hb := below_alloc (w.alloc (.cells #[.int .i64 s0.sorts, .slice A0a s0.ops.length c0a] 24)) (.cells #[.int .i64 s1.sorts, .slice A1a s1.ops.length c1a] 24)
  replace fa0 := cell_keep hb fa0
  replace fb0 := cell_keep hb fb0
  have fa1 := (bx_cells (w.alloc (.cells #[.int .i64 s0.sorts, .slice A0a s0.ops.length c0a] 24)) (.int .i64 s1.sorts) (.slice A1a s1.ops.length c1a) 24).1
  have fb1 := (bx_cells (w.alloc (.cells #[.int .i64 s0.sorts, .slice A0a s0.ops.length c0a] 24)) (.int .i64 s1.sorts) (.slice A1a s1.ops.length c1a) 24).2
  simp only [World.size_alloc] at fa1 fb1
  replace HB := Lib.hid (ex_keep HB.out hb)
  clear hb h1
  obtain ⟨A2a, c2a, A2b, c2b, rfl⟩ := h2.form
  have HW2 := Lib.hid h2
  have hb := below_alloc ((w.alloc (.cells #[.int .i64 s0.sorts, .slice A0a s0.ops.length c0a] 24)).alloc (.cells #[.int .i64 s1.sorts, .slice A1a s1.ops.length c1a] 24)) (.cells #[.slice A2a s2.sorts.length c2a, .slice A2b s2.ops.length c2b] 27)
  replace fa0 := cell_keep hb fa0
  replace fb0 := cell_keep hb fb0
  replace fa1 := cell_keep hb fa1
  replace fb1 := cell_keep hb fb1
  have fa2 := (bx_cells ((w.alloc (.cells #[.int .i64 s0.sorts, .slice A0a s0.ops.length c0a] 24)).alloc (.cells #[.int .i64 s1.sorts, .slice A1a s1.ops.length c1a] 24)) (.slice A2a s2.sorts.length c2a) (.slice A2b s2.ops.length c2b) 27).1
  have fb2 := (bx_cells ((w.alloc (.cells #[.int .i64 s0.sorts, .slice A0a s0.ops.length c0a] 24)).alloc (.cells #[.int .i64 s1.sorts, .slice A1a s1.ops.length c1a] 24)) (.slice A2a s2.sorts.length c2a) (.slice A2b s2.ops.length c2b) 27).2
  simp only [World.size_alloc] at fa2 fb2
  replace HB := Lib.hid (ex_keep HB.out hb)
  clear hb h2
  have HW3 := Lib.hid h3.1
  have HS3 := Lib.hid h3.2
  have hl3 := h3.1.len
  obtain ⟨A3, c3, rfl, -⟩ := h3.1.form
  clear h3
  have HW4 := Lib.hid h4.1
  have HS4 := Lib.hid h4.2
  have hl4 := h4.1.len
  obtain ⟨A4, c4, rfl, -⟩ := h4.1.form
  clear h4
  by_cases hn3 : 1048576 < (xs3.length : Int)
  · go_enter Try.func6, Try.ntmps6
    go_wp2
    go_ret
    exact ⟨rfl, HB.out⟩
  by_cases hn4 : 1048576 < (xs4.length : Int)
  · go_enter Try.func6, Try.ntmps6
    go_wp2
    go_ret
    exact ⟨rfl, HB.out⟩
  go_enter Try.func6, Try.ntmps6
  go_wp2_with fail
  refine (szSig_any _ s0 _ _ (HW0.out.keep HB.out) (by omega) (by omega)).mono ?_
  rintro e w1 ⟨r1, rfl, hr, hb⟩
  replace fa0 := cell_keep hb fa0
  replace fb0 := cell_keep hb fb0
  replace fa1 := cell_keep hb fa1
  replace fb1 := cell_keep hb fb1
  replace fa2 := cell_keep hb fa2
  replace fb2 := cell_keep hb fb2
  replace HB := Lib.hid (ex_keep HB.out hb)
  clear hb
  by_cases hneg1 : r1 < 0
  · clear hr
    go_wp2
    go_ret
    exact ⟨rfl, HB.out⟩
  obtain ⟨hp1, hq1, hfit⟩ := hr.resolve_left hneg1
  have HF0 := Lib.hid hfit
  clear hr hfit
  go_wp2_with fail
  refine (szSig_any _ s1 _ _ (HW1.out.keep HB.out) (by omega) (by omega)).mono ?_
  rintro e w2 ⟨r2, rfl, hr, hb⟩
  replace fa0 := cell_keep hb fa0
  replace fb0 := cell_keep hb fb0
  replace fa1 := cell_keep hb fa1
  replace fb1 := cell_keep hb fb1
  replace fa2 := cell_keep hb fa2
  replace fb2 := cell_keep hb fb2
  replace HB := Lib.hid (ex_keep HB.out hb)
  clear hb
  by_cases hneg2 : r2 < 0
  · clear hr
    go_wp2
    go_ret
    exact ⟨rfl, HB.out⟩
  obtain ⟨hp2, hq2, hfit⟩ := hr.resolve_left hneg2
  have HF1 := Lib.hid hfit
  clear hr hfit
  go_wp2_with fail
  refine (szMap_any _ s2 _ _ (HW2.out.keep HB.out) (by omega) (by omega)).mono ?_
  rintro e w3 ⟨r3, rfl, hr, hb⟩
  replace fa0 := cell_keep hb fa0
  replace fb0 := cell_keep hb fb0
  replace fa1 := cell_keep hb fa1
  replace fb1 := cell_keep hb fb1
  replace fa2 := cell_keep hb fa2
  replace fb2 := cell_keep hb fb2
  replace HB := Lib.hid (ex_keep HB.out hb)
  clear hb
  by_cases hneg3 : r3 < 0
  · clear hr
    go_wp2
    go_ret
    exact ⟨rfl, HB.out⟩
  obtain ⟨hp3, hq3, hfit⟩ := hr.resolve_left hneg3
  have HF2 := Lib.hid hfit
  clear hr hfit
  obtain ⟨R, hR⟩ : ∃ R, R = mapTermM s0 s1 s2 xs3 xs4 := ⟨_, rfl⟩
  have HLEN := Lib.hid (show _ from mapTermM_fits s0 s1 s2 xs3 xs4)
  rw [← hR] at HLEN
  obtain ⟨R1, R2, R3⟩ := R
  try simp only at HLEN
  have HR := Lib.hid hR.symm
  clear hR
  have e2 : (R3 != R3) = false := by simp
  go_wp2_with fail
  refine wp_region_held_drew (S := (fun w' => w'.cell? ⟨w.heap.size, 0, none⟩ = some (.int .i64 s0.sorts) ∧ w'.cell? ⟨w.heap.size, 1, none⟩ = some (.slice A0a s0.ops.length c0a) ∧ w'.cell? ⟨w.heap.size + 1, 0, none⟩ = some (.int .i64 s1.sorts) ∧ w'.cell? ⟨w.heap.size + 1, 1, none⟩ = some (.slice A1a s1.ops.length c1a) ∧ w'.cell? ⟨w.heap.size + 1 + 1, 0, none⟩ = some (.slice A2a s2.sorts.length c2a) ∧ w'.cell? ⟨w.heap.size + 1 + 1, 1, none⟩ = some (.slice A2b s2.ops.length c2b))) (by kernel_rfl) ?_ (fun hHeld => ?_)
  · exact ⟨fa0, fb0, fa1, fb1, fa2, fb2⟩
  refine wpAnyH_take (i := 0) (oi := _) (v := ?_) rfl (by kernel_rfl) (by kernel_rfl) (by kernel_rfl) (fun _ _ _ h => h) (Or.inl ⟨by rfl, ?_⟩) (by assumption) ?_
  rotate_left
  · first | (intro w' hSw; (try dsimp only at hSw); go_simp; done) | (intro w' hSw; (try dsimp only at hSw); go_simp; with_reducible rfl)
  try simp only [Act.put, List.getElem_toArray, List.getElem_cons_zero, List.getElem_cons_succ, List.setIfInBounds_toArray, List.set_cons_zero, List.set_cons_succ]
  refine wpAnyH_take (i := 2) (oi := _) (v := ?_) rfl (by kernel_rfl) (by kernel_rfl) (by kernel_rfl) (fun _ _ _ h => h) (Or.inl ⟨by rfl, ?_⟩) (by assumption) ?_
  rotate_left
  · first | (intro w' hSw; (try dsimp only at hSw); go_simp; done) | (intro w' hSw; (try dsimp only at hSw); go_simp; with_reducible rfl)
  try simp only [Act.put, List.getElem_toArray, List.getElem_cons_zero, List.getElem_cons_succ, List.setIfInBounds_toArray, List.set_cons_zero, List.set_cons_succ]
  refine wpAnyH_take (i := 4) (oi := _) (v := ?_) rfl (by kernel_rfl) (by kernel_rfl) (by kernel_rfl) (fun _ _ _ h => h) (Or.inl ⟨by rfl, ?_⟩) (by assumption) ?_
  rotate_left
  · first | (intro w' hSw; (try dsimp only at hSw); go_simp; done) | (intro w' hSw; (try dsimp only at hSw); go_simp; with_reducible rfl)
  try simp only [Act.put, List.getElem_toArray, List.getElem_cons_zero, List.getElem_cons_succ, List.setIfInBounds_toArray, List.set_cons_zero, List.set_cons_succ]
  refine wpAnyH_take (i := 6) (oi := _) (v := ?_) rfl (by kernel_rfl) (by kernel_rfl) (by kernel_rfl) (fun _ _ _ h => h) (Or.inl ⟨by rfl, ?_⟩) (by assumption) ?_
  rotate_left
  · first | (intro w' hSw; (try dsimp only at hSw); go_simp; done) | (intro w' hSw; (try dsimp only at hSw); go_simp; with_reducible rfl)
  try simp only [Act.put, List.getElem_toArray, List.getElem_cons_zero, List.getElem_cons_succ, List.setIfInBounds_toArray, List.set_cons_zero, List.set_cons_succ]
  refine wpAnyH_take (i := 8) (oi := _) (v := ?_) rfl (by kernel_rfl) (by kernel_rfl) (by kernel_rfl) (fun _ _ _ h => h) (Or.inl ⟨by rfl, ?_⟩) (by assumption) ?_
  rotate_left
  · first | (intro w' hSw; (try dsimp only at hSw); go_simp; done) | (intro w' hSw; (try dsimp only at hSw); go_simp; with_reducible rfl)
  try simp only [Act.put, List.getElem_toArray, List.getElem_cons_zero, List.getElem_cons_succ, List.setIfInBounds_toArray, List.set_cons_zero, List.set_cons_succ]
  refine wpAnyH_ready (rs := [1]) (by kernel_rfl) (by simp) ?_
  refine AllReadyH.cons (o := _) rfl (fun K hK => ?_) AllReadyH.nil
  go_simp
  refine (toSig_any _ s0 _ (HW0.out.keep (ex_drew HB.out)) HF0.out).mono ?_
  rintro e w4 ⟨y0, rfl, ho, hb⟩
  replace hb := ex_undrew hb
  replace fa0 := cell_keep hb fa0
  replace fb0 := cell_keep hb fb0
  replace fa1 := cell_keep hb fa1
  replace fb1 := cell_keep hb fb1
  replace fa2 := cell_keep hb fa2
  replace fb2 := cell_keep hb fb2
  replace HB := Lib.hid (ex_keep HB.out hb)
  clear hb
  have P0 := Lib.hid ho.reads
  obtain ⟨AY0a, cY0a, rfl⟩ := ho.reads.form
  clear ho
  go_wp2_with fail
  refine hK.out _ _ ?_ (fun hHeld => ?_)
  · exact ⟨fa0, fb0, fa1, fb1, fa2, fb2⟩
  clear hK K
  try simp only [Act.put, List.getElem_toArray, List.getElem_cons_zero, List.getElem_cons_succ, List.setIfInBounds_toArray, List.set_cons_zero, List.set_cons_succ]
  refine wpAnyH_ready (rs := [3]) (by kernel_rfl) (by simp) ?_
  refine AllReadyH.cons (o := _) rfl (fun K hK => ?_) AllReadyH.nil
  go_simp
  refine (toSig_any _ s1 _ (HW1.out.keep HB.out) HF1.out).mono ?_
  rintro e w5 ⟨y1, rfl, ho, hb⟩
  replace fa0 := cell_keep hb fa0
  replace fb0 := cell_keep hb fb0
  replace fa1 := cell_keep hb fa1
  replace fb1 := cell_keep hb fb1
  replace fa2 := cell_keep hb fa2
  replace fb2 := cell_keep hb fb2
  replace P0 := Lib.hid (P0.out.keep hb)
  replace HB := Lib.hid (ex_keep HB.out hb)
  clear hb
  have P1 := Lib.hid ho.reads
  obtain ⟨AY1a, cY1a, rfl⟩ := ho.reads.form
  clear ho
  go_wp2_with fail
  refine hK.out _ _ ?_ (fun hHeld => ?_)
  · exact ⟨fa0, fb0, fa1, fb1, fa2, fb2⟩
  clear hK K
  try simp only [Act.put, List.getElem_toArray, List.getElem_cons_zero, List.getElem_cons_succ, List.setIfInBounds_toArray, List.set_cons_zero, List.set_cons_succ]
  refine wpAnyH_ready (rs := [5]) (by kernel_rfl) (by simp) ?_
  refine AllReadyH.cons (o := _) rfl (fun K hK => ?_) AllReadyH.nil
  go_simp
  refine (toMap_any _ s2 _ (HW2.out.keep HB.out) HF2.out).mono ?_
  rintro e w6 ⟨y2, rfl, ho, hb⟩
  replace fa0 := cell_keep hb fa0
  replace fb0 := cell_keep hb fb0
  replace fa1 := cell_keep hb fa1
  replace fb1 := cell_keep hb fb1
  replace fa2 := cell_keep hb fa2
  replace fb2 := cell_keep hb fb2
  replace P0 := Lib.hid (P0.out.keep hb)
  replace P1 := Lib.hid (P1.out.keep hb)
  replace HB := Lib.hid (ex_keep HB.out hb)
  clear hb
  have P2 := Lib.hid ho.reads
  obtain ⟨AY2a, cY2a, AY2b, cY2b, rfl⟩ := ho.reads.form
  clear ho
  go_wp2_with fail
  refine hK.out _ _ ?_ (fun hHeld => ?_)
  · exact ⟨fa0, fb0, fa1, fb1, fa2, fb2⟩
  clear hK K
  try simp only [Act.put, List.getElem_toArray, List.getElem_cons_zero, List.getElem_cons_succ, List.setIfInBounds_toArray, List.set_cons_zero, List.set_cons_succ]
  refine wpAnyH_ready (rs := [7]) (by kernel_rfl) (by simp) ?_
  refine AllReadyH.cons (o := _) rfl (fun K hK => ?_) AllReadyH.nil
  go_simp
  refine (toIntS_any _ xs3 _ (HW3.out.keep HB.out) (by omega)).mono ?_
  rintro e w7 ⟨y3, rfl, ho, hb⟩
  replace fa0 := cell_keep hb fa0
  replace fb0 := cell_keep hb fb0
  replace fa1 := cell_keep hb fa1
  replace fb1 := cell_keep hb fb1
  replace fa2 := cell_keep hb fa2
  replace fb2 := cell_keep hb fb2
  replace P0 := Lib.hid (P0.out.keep hb)
  replace P1 := Lib.hid (P1.out.keep hb)
  replace P2 := Lib.hid (P2.out.keep hb)
  replace HB := Lib.hid (ex_keep HB.out hb)
  clear hb
  have P3 := Lib.hid ho.reads
  obtain ⟨AY3, cY3, rfl, -⟩ := ho.reads.form
  clear ho
  go_wp2_with fail
  refine hK.out _ _ ?_ (fun hHeld => ?_)
  · exact ⟨fa0, fb0, fa1, fb1, fa2, fb2⟩
  clear hK K
  try simp only [Act.put, List.getElem_toArray, List.getElem_cons_zero, List.getElem_cons_succ, List.setIfInBounds_toArray, List.set_cons_zero, List.set_cons_succ]
  refine wpAnyH_ready (rs := [9]) (by kernel_rfl) (by simp) ?_
  refine AllReadyH.cons (o := _) rfl (fun K hK => ?_) AllReadyH.nil
  go_simp
  refine (toIntS_any _ xs4 _ (HW4.out.keep HB.out) (by omega)).mono ?_
  rintro e w8 ⟨y4, rfl, ho, hb⟩
  replace fa0 := cell_keep hb fa0
  replace fb0 := cell_keep hb fb0
  replace fa1 := cell_keep hb fa1
  replace fb1 := cell_keep hb fb1
  replace fa2 := cell_keep hb fa2
  replace fb2 := cell_keep hb fb2
  replace P0 := Lib.hid (P0.out.keep hb)
  replace P1 := Lib.hid (P1.out.keep hb)
  replace P2 := Lib.hid (P2.out.keep hb)
  replace P3 := Lib.hid (P3.out.keep hb)
  replace HB := Lib.hid (ex_keep HB.out hb)
  clear hb
  have P4 := Lib.hid ho.reads
  obtain ⟨AY4, cY4, rfl, -⟩ := ho.reads.form
  clear ho
  go_wp2_with fail
  refine hK.out _ _ ?_ (fun hHeld => ?_)
  · exact ⟨fa0, fb0, fa1, fb1, fa2, fb2⟩
  clear hK K
  try simp only [Act.put, List.getElem_toArray, List.getElem_cons_zero, List.getElem_cons_succ, List.setIfInBounds_toArray, List.set_cons_zero, List.set_cons_succ]
  refine wpAnyH_ready (rs := [10]) (by kernel_rfl) (by simp) ?_
  refine AllReadyH.cons (o := _) rfl (fun K hK => ?_) AllReadyH.nil
  go_simp
  refine (specMapTerm_any s0 s1 s2 xs3 xs4 _ _ _ _ _ _ P0.out P1.out P2.out P3.out P4.out).mono ?_
  rw [HR.out]
  rintro e w9 ⟨z0, z1, wmz1, rfl, ho0, hm1, hk1, ho1, hb⟩
  replace ho0 := ho0.keep hk1
  have HZ0 := Lib.hid ho0
  obtain ⟨Az0, cz0, rfl, -⟩ := ho0.reads.form
  have HZ1 := Lib.hid ho1
  obtain ⟨Az1, cz1, rfl, -⟩ := ho1.reads.form
  clear ho0 ho1 hm1 hk1
  replace fa0 := cell_keep hb fa0
  replace fb0 := cell_keep hb fb0
  replace fa1 := cell_keep hb fa1
  replace fb1 := cell_keep hb fb1
  replace fa2 := cell_keep hb fa2
  replace fb2 := cell_keep hb fb2
  replace HB := Lib.hid (ex_keep HB.out hb)
  clear hb
  go_wp2_with fail
  refine hK.out _ _ ?_ (fun hHeld => ?_)
  · exact ⟨fa0, fb0, fa1, fb1, fa2, fb2⟩
  clear hK K
  try simp only [Act.put, List.getElem_toArray, List.getElem_cons_zero, List.getElem_cons_succ, List.setIfInBounds_toArray, List.set_cons_zero, List.set_cons_succ]
  refine wpAnyH_take (i := 11) (oi := _) (v := ?_) rfl (by kernel_rfl) (by kernel_rfl) (by kernel_rfl) (fun _ _ _ h => h) (Or.inl ⟨by rfl, ?_⟩) (by assumption) ?_
  rotate_left
  · first | (intro w' hSw; (try dsimp only at hSw); go_simp; done) | (intro w' hSw; (try dsimp only at hSw); go_simp; with_reducible rfl)
  try simp only [Act.put, List.getElem_toArray, List.getElem_cons_zero, List.getElem_cons_succ, List.setIfInBounds_toArray, List.set_cons_zero, List.set_cons_succ]
  refine wpAnyH_take (i := 12) (oi := _) (v := ?_) rfl (by kernel_rfl) (by kernel_rfl) (by kernel_rfl) (fun _ _ _ h => h) (Or.inl ⟨by rfl, ?_⟩) (by assumption) ?_
  rotate_left
  · first | (intro w' hSw; (try dsimp only at hSw); go_simp; done) | (intro w' hSw; (try dsimp only at hSw); go_simp; with_reducible rfl)
  try simp only [Act.put, List.getElem_toArray, List.getElem_cons_zero, List.getElem_cons_succ, List.setIfInBounds_toArray, List.set_cons_zero, List.set_cons_succ]
  refine wpAnyH_take (i := 13) (oi := _) (v := ?_) rfl (by kernel_rfl) (by kernel_rfl) (by kernel_rfl) (fun _ _ _ h => h) (Or.inl ⟨by rfl, ?_⟩) (by assumption) ?_
  rotate_left
  · first | (intro w' hSw; (try dsimp only at hSw); go_simp; done) | (intro w' hSw; (try dsimp only at hSw); go_simp; with_reducible rfl)
  try simp only [Act.put, List.getElem_toArray, List.getElem_cons_zero, List.getElem_cons_succ, List.setIfInBounds_toArray, List.set_cons_zero, List.set_cons_succ]
  refine wpAnyH_take (i := 14) (oi := _) (v := ?_) rfl (by kernel_rfl) (by kernel_rfl) (by kernel_rfl) (fun _ _ _ h => h) (Or.inl ⟨by rfl, ?_⟩) (by assumption) ?_
  rotate_left
  · first | (intro w' hSw; (try dsimp only at hSw); go_simp; done) | (intro w' hSw; (try dsimp only at hSw); go_simp; with_reducible rfl)
  try simp only [Act.put, List.getElem_toArray, List.getElem_cons_zero, List.getElem_cons_succ, List.setIfInBounds_toArray, List.set_cons_zero, List.set_cons_succ]
  refine wpAnyH_take (i := 15) (oi := _) (v := ?_) rfl (by kernel_rfl) (by kernel_rfl) (by kernel_rfl) (fun _ _ _ h => h) (Or.inl ⟨by rfl, ?_⟩) (by assumption) ?_
  rotate_left
  · first | (intro w' hSw; (try dsimp only at hSw); go_simp; done) | (intro w' hSw; (try dsimp only at hSw); go_simp; with_reducible rfl)
  try simp only [Act.put, List.getElem_toArray, List.getElem_cons_zero, List.getElem_cons_succ, List.setIfInBounds_toArray, List.set_cons_zero, List.set_cons_succ]
  refine wpAnyH_take (i := 16) (oi := _) (v := ?_) rfl (by kernel_rfl) (by kernel_rfl) (by kernel_rfl) (fun _ _ _ h => h) (Or.inl ⟨by rfl, ?_⟩) (by assumption) ?_
  rotate_left
  · first | (intro w' hSw; (try dsimp only at hSw); go_simp; done) | (intro w' hSw; (try dsimp only at hSw); go_simp; with_reducible rfl)
  try simp only [Act.put, List.getElem_toArray, List.getElem_cons_zero, List.getElem_cons_succ, List.setIfInBounds_toArray, List.set_cons_zero, List.set_cons_succ]
  refine wpAnyH_take (i := 17) (oi := _) (v := ?_) rfl (by kernel_rfl) (by kernel_rfl) (by kernel_rfl) (fun _ _ _ h => h) (Or.inl ⟨by rfl, ?_⟩) (by assumption) ?_
  rotate_left
  · first | (intro w' hSw; (try dsimp only at hSw); go_simp; done) | (intro w' hSw; (try dsimp only at hSw); go_simp; with_reducible rfl)
  try simp only [Act.put, List.getElem_toArray, List.getElem_cons_zero, List.getElem_cons_succ, List.setIfInBounds_toArray, List.set_cons_zero, List.set_cons_succ]
  refine wpAnyH_done (by kernel_rfl) ?_ _
  clear P0 P1 P2 P3 P4
  have HC := Lib.hid (And.intro fa0 (And.intro fb0 (And.intro fa1 (And.intro fb1 (And.intro fa2 (fb2))))))
  have HBs : Hid (Below w9.heap.size w9 w9) := Below.refl _ _
  clear fa0 fb0 fa1 fb1 fa2 fb2
  have fa0 := cell_keep HBs.out HC.out.1
  have fb0 := cell_keep HBs.out HC.out.2.1
  have fa1 := cell_keep HBs.out HC.out.2.2.1
  have fb1 := cell_keep HBs.out HC.out.2.2.2.1
  have fa2 := cell_keep HBs.out HC.out.2.2.2.2.1
  have fb2 := cell_keep HBs.out HC.out.2.2.2.2.2
  go_wp2_with fail
  refine (toSig_any _ s0 _ (HW0.out.keep (ex_keep HB.out HBs.out)) HF0.out).mono ?_
  rintro e w10 ⟨y0, rfl, ho, hb⟩
  obtain ⟨AX0a, cX0a, rfl⟩ := ho.reads.form
  have hb2 := below_alloc w10 (.cells #[.int .i64 s0.sorts, .slice AX0a s0.ops.length cX0a] 31)
  have HX0 := Lib.hid (show OSig (w10.alloc (.cells #[.int .i64 s0.sorts, .slice AX0a s0.ops.length cX0a] 31)) w9.heap.size (.agg #[.int .i64 s0.sorts, .slice AX0a s0.ops.length cX0a]) s0 from ho.keep hb2)
  have HCX0 := Lib.hid (bx_cells w10 (.int .i64 s0.sorts) (.slice AX0a s0.ops.length cX0a) 31)
  have hy0 := hb.size
  replace hb := hb.trans (hb2.mono hb.size)
  have hs0 := hb.size
  generalize hWw11 : w10.alloc (.cells #[.int .i64 s0.sorts, .slice AX0a s0.ops.length cX0a] 31) = w11 at HX0 HCX0 hb hs0
  clear hb2 ho
  replace HBs := Lib.hid (ex_keep HBs.out hb)
  clear hb
  have HK0 : Hid (Keeps w9.heap.size w11 w11) := Keeps.refl _ _
  have z0 : w11.heap.size ≤ w11.heap.size := Nat.le_refl _
  clear fa0 fb0 fa1 fb1 fa2 fb2
  have fa0 := cell_keep HBs.out HC.out.1
  have fb0 := cell_keep HBs.out HC.out.2.1
  have fa1 := cell_keep HBs.out HC.out.2.2.1
  have fb1 := cell_keep HBs.out HC.out.2.2.2.1
  have fa2 := cell_keep HBs.out HC.out.2.2.2.2.1
  have fb2 := cell_keep HBs.out HC.out.2.2.2.2.2
  go_wp2_with fail
  clear hWw11
  refine (toSig_any _ s1 _ (HW1.out.keep (ex_keep HB.out HBs.out)) HF1.out).mono ?_
  rintro e w12 ⟨y1, rfl, ho, hb⟩
  obtain ⟨AX1a, cX1a, rfl⟩ := ho.reads.form
  have hb2 := below_alloc w12 (.cells #[.int .i64 s1.sorts, .slice AX1a s1.ops.length cX1a] 31)
  have HX1 := Lib.hid (show OSig (w12.alloc (.cells #[.int .i64 s1.sorts, .slice AX1a s1.ops.length cX1a] 31)) w11.heap.size (.agg #[.int .i64 s1.sorts, .slice AX1a s1.ops.length cX1a]) s1 from ho.keep hb2)
  have HCX1 := Lib.hid (bx_cells w12 (.int .i64 s1.sorts) (.slice AX1a s1.ops.length cX1a) 31)
  have hy1 := hb.size
  replace hb := hb.trans (hb2.mono hb.size)
  have hs1 := hb.size
  generalize hWw13 : w12.alloc (.cells #[.int .i64 s1.sorts, .slice AX1a s1.ops.length cX1a] 31) = w13 at HX1 HCX1 hb hs1
  clear hb2 ho
  replace HK0 := Lib.hid (HK0.out.below z0 hb)
  replace z0 : w11.heap.size ≤ w13.heap.size := Nat.le_trans z0 hb.size
  replace HBs := Lib.hid (ex_keep HBs.out hb)
  clear hb
  have HK1 : Hid (Keeps w11.heap.size w13 w13) := Keeps.refl _ _
  have z1 : w13.heap.size ≤ w13.heap.size := Nat.le_refl _
  clear fa0 fb0 fa1 fb1 fa2 fb2
  have fa0 := cell_keep HBs.out HC.out.1
  have fb0 := cell_keep HBs.out HC.out.2.1
  have fa1 := cell_keep HBs.out HC.out.2.2.1
  have fb1 := cell_keep HBs.out HC.out.2.2.2.1
  have fa2 := cell_keep HBs.out HC.out.2.2.2.2.1
  have fb2 := cell_keep HBs.out HC.out.2.2.2.2.2
  go_wp2_with fail
  clear hWw13
  refine (toMap_any _ s2 _ (HW2.out.keep (ex_keep HB.out HBs.out)) HF2.out).mono ?_
  rintro e w14 ⟨y2, rfl, ho, hb⟩
  obtain ⟨AX2a, cX2a, AX2b, cX2b, rfl⟩ := ho.reads.form
  have hb2 := below_alloc w14 (.cells #[.slice AX2a s2.sorts.length cX2a, .slice AX2b s2.ops.length cX2b] 33)
  have HX2 := Lib.hid (show OMap (w14.alloc (.cells #[.slice AX2a s2.sorts.length cX2a, .slice AX2b s2.ops.length cX2b] 33)) w13.heap.size (.agg #[.slice AX2a s2.sorts.length cX2a, .slice AX2b s2.ops.length cX2b]) s2 from ho.keep hb2)
  have HCX2 := Lib.hid (bx_cells w14 (.slice AX2a s2.sorts.length cX2a) (.slice AX2b s2.ops.length cX2b) 33)
  have hy2 := hb.size
  replace hb := hb.trans (hb2.mono hb.size)
  have hs2 := hb.size
  generalize hWw15 : w14.alloc (.cells #[.slice AX2a s2.sorts.length cX2a, .slice AX2b s2.ops.length cX2b] 33) = w15 at HX2 HCX2 hb hs2
  clear hb2 ho
  replace HK0 := Lib.hid (HK0.out.below z0 hb)
  replace z0 : w11.heap.size ≤ w15.heap.size := Nat.le_trans z0 hb.size
  replace HK1 := Lib.hid (HK1.out.below z1 hb)
  replace z1 : w13.heap.size ≤ w15.heap.size := Nat.le_trans z1 hb.size
  replace HBs := Lib.hid (ex_keep HBs.out hb)
  clear hb
  have HK2 : Hid (Keeps w13.heap.size w15 w15) := Keeps.refl _ _
  have z2 : w15.heap.size ≤ w15.heap.size := Nat.le_refl _
  clear fa0 fb0 fa1 fb1 fa2 fb2
  go_wp2_with fail
  clear hWw15
  refine (toIntS_any _ xs3 _ (HW3.out.keep (ex_keep HB.out HBs.out)) (by omega)).mono ?_
  rintro e w16 ⟨y3, rfl, ho, hb⟩
  have HX3 := Lib.hid ho
  obtain ⟨AX3, cX3, rfl, -⟩ := ho.reads.form
  have hs3 := hb.size
  clear ho
  replace HK0 := Lib.hid (HK0.out.below z0 hb)
  replace z0 : w11.heap.size ≤ w16.heap.size := Nat.le_trans z0 hb.size
  replace HK1 := Lib.hid (HK1.out.below z1 hb)
  replace z1 : w13.heap.size ≤ w16.heap.size := Nat.le_trans z1 hb.size
  replace HK2 := Lib.hid (HK2.out.below z2 hb)
  replace z2 : w15.heap.size ≤ w16.heap.size := Nat.le_trans z2 hb.size
  replace HBs := Lib.hid (ex_keep HBs.out hb)
  clear hb
  have HK3 : Hid (Keeps w15.heap.size w16 w16) := Keeps.refl _ _
  have z3 : w16.heap.size ≤ w16.heap.size := Nat.le_refl _
  go_wp2_with fail
  refine (toIntS_any _ xs4 _ (HW4.out.keep (ex_keep HB.out HBs.out)) (by omega)).mono ?_
  rintro e w17 ⟨y4, rfl, ho, hb⟩
  have HX4 := Lib.hid ho
  obtain ⟨AX4, cX4, rfl, -⟩ := ho.reads.form
  have hs4 := hb.size
  clear ho
  replace HK0 := Lib.hid (HK0.out.below z0 hb)
  replace z0 : w11.heap.size ≤ w17.heap.size := Nat.le_trans z0 hb.size
  replace HK1 := Lib.hid (HK1.out.below z1 hb)
  replace z1 : w13.heap.size ≤ w17.heap.size := Nat.le_trans z1 hb.size
  replace HK2 := Lib.hid (HK2.out.below z2 hb)
  replace z2 : w15.heap.size ≤ w17.heap.size := Nat.le_trans z2 hb.size
  replace HK3 := Lib.hid (HK3.out.below z3 hb)
  replace z3 : w16.heap.size ≤ w17.heap.size := Nat.le_trans z3 hb.size
  replace HBs := Lib.hid (ex_keep HBs.out hb)
  clear hb
  have HK4 : Hid (Keeps w16.heap.size w17 w17) := Keeps.refl _ _
  have z4 : w17.heap.size ≤ w17.heap.size := Nat.le_refl _
  have l0a := HK0.out.cell (by omega) HCX0.out.1
  have l0b := HK0.out.cell (by omega) HCX0.out.2
  have l1a := HK1.out.cell (by omega) HCX1.out.1
  have l1b := HK1.out.cell (by omega) HCX1.out.2
  have l2a := HK2.out.cell (by omega) HCX2.out.1
  have l2b := HK2.out.cell (by omega) HCX2.out.2
  go_wp2_with fail
  refine (mapTerm_any s0 s1 s2 xs3 xs4 _ _ _ _ _ _ HS4.out (HX0.out.same HK0.out).reads (HX1.out.same HK1.out).reads (HX2.out.same HK2.out).reads (HX3.out.same HK3.out).reads (HX4.out.same HK4.out).reads).mono ?_
  rw [HR.out]
  rintro e w18 ⟨g0, g1, wmg1, rfl, ho0, hm1, hk1, ho1, hb⟩
  have hsg := hb.size
  obtain ⟨Ag0, cg0, rfl, -⟩ := ho0.reads.form
  have HG0 := Lib.hid ho0
  obtain ⟨Ag1, cg1, rfl, -⟩ := ho1.reads.form
  have HG1 := Lib.hid ho1
  clear l0a l0b l1a l1b l2a l2b
  replace HK0 := Lib.hid (HK0.out.below z0 hb)
  replace z0 : w11.heap.size ≤ w18.heap.size := Nat.le_trans z0 hb.size
  replace HK1 := Lib.hid (HK1.out.below z1 hb)
  replace z1 : w13.heap.size ≤ w18.heap.size := Nat.le_trans z1 hb.size
  replace HK2 := Lib.hid (HK2.out.below z2 hb)
  replace z2 : w15.heap.size ≤ w18.heap.size := Nat.le_trans z2 hb.size
  replace HK3 := Lib.hid (HK3.out.below z3 hb)
  replace z3 : w16.heap.size ≤ w18.heap.size := Nat.le_trans z3 hb.size
  replace HK4 := Lib.hid (HK4.out.below z4 hb)
  replace z4 : w17.heap.size ≤ w18.heap.size := Nat.le_trans z4 hb.size
  replace HBs := Lib.hid (ex_keep HBs.out hb)
  clear hb
  have HKg0 : Hid (Keeps w17.heap.size wmg1 w18) := fun k _ q2 => hk1.block k q2
  have zg0 : wmg1.heap.size ≤ w18.heap.size := hk1.size
  have HKg1 : Hid (Keeps wmg1.heap.size w18 w18) := Keeps.refl _ _
  have zg1 : w18.heap.size ≤ w18.heap.size := Nat.le_refl _
  clear ho0 ho1 hk1
  go_wp2_with fail
  refine (eqIntS_is _ _ R1 R1 _ true (sameI_self _) (HG0.out.same HKg0.out).reads (HZ0.out.keep HBs.out).reads).mono ?_
  rintro e w19 ⟨rfl, hd⟩
  have hb := hd.below
  clear hd
  replace HK0 := Lib.hid (HK0.out.below z0 hb)
  replace z0 : w11.heap.size ≤ w19.heap.size := Nat.le_trans z0 hb.size
  replace HK1 := Lib.hid (HK1.out.below z1 hb)
  replace z1 : w13.heap.size ≤ w19.heap.size := Nat.le_trans z1 hb.size
  replace HK2 := Lib.hid (HK2.out.below z2 hb)
  replace z2 : w15.heap.size ≤ w19.heap.size := Nat.le_trans z2 hb.size
  replace HK3 := Lib.hid (HK3.out.below z3 hb)
  replace z3 : w16.heap.size ≤ w19.heap.size := Nat.le_trans z3 hb.size
  replace HK4 := Lib.hid (HK4.out.below z4 hb)
  replace z4 : w17.heap.size ≤ w19.heap.size := Nat.le_trans z4 hb.size
  replace HKg0 := Lib.hid (HKg0.out.below zg0 hb)
  replace zg0 : wmg1.heap.size ≤ w19.heap.size := Nat.le_trans zg0 hb.size
  replace HKg1 := Lib.hid (HKg1.out.below zg1 hb)
  replace zg1 : w18.heap.size ≤ w19.heap.size := Nat.le_trans zg1 hb.size
  replace HBs := Lib.hid (ex_keep HBs.out hb)
  clear hb
  go_wp2_with fail
  refine (eqIntS_is _ _ R2 R2 _ true (sameI_self _) (HG1.out.same HKg1.out).reads (HZ1.out.keep HBs.out).reads).mono ?_
  rintro e w20 ⟨rfl, hd⟩
  have hb := hd.below
  clear hd
  replace HK0 := Lib.hid (HK0.out.below z0 hb)
  replace z0 : w11.heap.size ≤ w20.heap.size := Nat.le_trans z0 hb.size
  replace HK1 := Lib.hid (HK1.out.below z1 hb)
  replace z1 : w13.heap.size ≤ w20.heap.size := Nat.le_trans z1 hb.size
  replace HK2 := Lib.hid (HK2.out.below z2 hb)
  replace z2 : w15.heap.size ≤ w20.heap.size := Nat.le_trans z2 hb.size
  replace HK3 := Lib.hid (HK3.out.below z3 hb)
  replace z3 : w16.heap.size ≤ w20.heap.size := Nat.le_trans z3 hb.size
  replace HK4 := Lib.hid (HK4.out.below z4 hb)
  replace z4 : w17.heap.size ≤ w20.heap.size := Nat.le_trans z4 hb.size
  replace HKg0 := Lib.hid (HKg0.out.below zg0 hb)
  replace zg0 : wmg1.heap.size ≤ w20.heap.size := Nat.le_trans zg0 hb.size
  replace HKg1 := Lib.hid (HKg1.out.below zg1 hb)
  replace zg1 : w18.heap.size ≤ w20.heap.size := Nat.le_trans zg1 hb.size
  replace HBs := Lib.hid (ex_keep HBs.out hb)
  clear hb
  have fa0 := cell_keep HBs.out HC.out.1
  have fb0 := cell_keep HBs.out HC.out.2.1
  have fa1 := cell_keep HBs.out HC.out.2.2.1
  have fb1 := cell_keep HBs.out HC.out.2.2.2.1
  have fa2 := cell_keep HBs.out HC.out.2.2.2.2.1
  have fb2 := cell_keep HBs.out HC.out.2.2.2.2.2
  have l0a := HK0.out.cell (by omega) HCX0.out.1
  have l0b := HK0.out.cell (by omega) HCX0.out.2
  have l1a := HK1.out.cell (by omega) HCX1.out.1
  have l1b := HK1.out.cell (by omega) HCX1.out.2
  have l2a := HK2.out.cell (by omega) HCX2.out.1
  have l2b := HK2.out.cell (by omega) HCX2.out.2
  have HSW0 := Lib.hid (HW0.out.keep (ex_keep HB.out HBs.out))
  have HXR0 := Lib.hid (HX0.out.same HK0.out).reads
  go_wp2_with fail
  have ea := World.new_ne w20 _ fa0
  have eb := World.new_ne w20 _ l0a
  go_region_held3 (fun w' => w'.cell? ⟨w.heap.size, 0, none⟩ = some (.int .i64 s0.sorts) ∧ w'.cell? ⟨w.heap.size, 1, none⟩ = some (.slice A0a s0.ops.length c0a) ∧ w'.cell? ⟨w10.heap.size, 0, none⟩ = some (.int .i64 s0.sorts) ∧ w'.cell? ⟨w10.heap.size, 1, none⟩ = some (.slice AX0a s0.ops.length cX0a))
    (first | go_keep)
    (first
      | (go_at_call 12; refine (toSig_any _ s0 w20.drew HSW0.out HF0.out).mono ?_; rintro e w21 ⟨yj, rfl, hoj, hbj⟩; have HOj := Lib.hid hoj; have HBj := Lib.hid (show Below w20.heap.size w20 w21 from below_undrew hbj); have o0 := cell_keep HBj.out fa0; have o1 := cell_keep HBj.out fb0; have o2 := cell_keep HBj.out l0a; have o3 := cell_keep HBj.out l0b; clear hoj hbj)
      | (go_at_call 15; refine (eqSig_is _ _ s0 s0 _ true (sameS_self _) (HXR0.out.keep HBj.out) HOj.out.reads).mono ?_; rintro e w22 ⟨rfl, hbk⟩; have HBk := Lib.hid (ex_keep HBj.out hbk); have q0 := cell_keep hbk o0; have q1 := cell_keep hbk o1; have q2 := cell_keep hbk o2; have q3 := cell_keep hbk o3; clear hbk))
  have hb := HBk.out
  clear fa0 fb0 fa1 fb1 fa2 fb2 l0a l0b l1a l1b l2a l2b o0 q0 o1 q1 o2 q2 o3 q3 ea eb HBj HBk HOj HSW0 HXR0
  replace HK0 := Lib.hid (HK0.out.below z0 hb)
  replace z0 : w11.heap.size ≤ w22.heap.size := Nat.le_trans z0 hb.size
  replace HK1 := Lib.hid (HK1.out.below z1 hb)
  replace z1 : w13.heap.size ≤ w22.heap.size := Nat.le_trans z1 hb.size
  replace HK2 := Lib.hid (HK2.out.below z2 hb)
  replace z2 : w15.heap.size ≤ w22.heap.size := Nat.le_trans z2 hb.size
  replace HK3 := Lib.hid (HK3.out.below z3 hb)
  replace z3 : w16.heap.size ≤ w22.heap.size := Nat.le_trans z3 hb.size
  replace HK4 := Lib.hid (HK4.out.below z4 hb)
  replace z4 : w17.heap.size ≤ w22.heap.size := Nat.le_trans z4 hb.size
  replace HKg0 := Lib.hid (HKg0.out.below zg0 hb)
  replace zg0 : wmg1.heap.size ≤ w22.heap.size := Nat.le_trans zg0 hb.size
  replace HKg1 := Lib.hid (HKg1.out.below zg1 hb)
  replace zg1 : w18.heap.size ≤ w22.heap.size := Nat.le_trans zg1 hb.size
  replace HBs := Lib.hid (ex_keep HBs.out hb)
  clear hb
  have fa0 := cell_keep HBs.out HC.out.1
  have fb0 := cell_keep HBs.out HC.out.2.1
  have fa1 := cell_keep HBs.out HC.out.2.2.1
  have fb1 := cell_keep HBs.out HC.out.2.2.2.1
  have fa2 := cell_keep HBs.out HC.out.2.2.2.2.1
  have fb2 := cell_keep HBs.out HC.out.2.2.2.2.2
  have l0a := HK0.out.cell (by omega) HCX0.out.1
  have l0b := HK0.out.cell (by omega) HCX0.out.2
  have l1a := HK1.out.cell (by omega) HCX1.out.1
  have l1b := HK1.out.cell (by omega) HCX1.out.2
  have l2a := HK2.out.cell (by omega) HCX2.out.1
  have l2b := HK2.out.cell (by omega) HCX2.out.2
  have HSW1 := Lib.hid (HW1.out.keep (ex_keep HB.out HBs.out))
  have HXR1 := Lib.hid (HX1.out.same HK1.out).reads
  go_wp2_with fail
  have ea := World.new_ne w22 _ fa1
  have eb := World.new_ne w22 _ l1a
  go_region_held3 (fun w' => w'.cell? ⟨w.heap.size + 1, 0, none⟩ = some (.int .i64 s1.sorts) ∧ w'.cell? ⟨w.heap.size + 1, 1, none⟩ = some (.slice A1a s1.ops.length c1a) ∧ w'.cell? ⟨w12.heap.size, 0, none⟩ = some (.int .i64 s1.sorts) ∧ w'.cell? ⟨w12.heap.size, 1, none⟩ = some (.slice AX1a s1.ops.length cX1a))
    (first | go_keep)
    (first
      | (go_at_call 12; refine (toSig_any _ s1 w22.drew HSW1.out HF1.out).mono ?_; rintro e w23 ⟨yj, rfl, hoj, hbj⟩; have HOj := Lib.hid hoj; have HBj := Lib.hid (show Below w22.heap.size w22 w23 from below_undrew hbj); have o0 := cell_keep HBj.out fa1; have o1 := cell_keep HBj.out fb1; have o2 := cell_keep HBj.out l1a; have o3 := cell_keep HBj.out l1b; clear hoj hbj)
      | (go_at_call 15; refine (eqSig_is _ _ s1 s1 _ true (sameS_self _) (HXR1.out.keep HBj.out) HOj.out.reads).mono ?_; rintro e w24 ⟨rfl, hbk⟩; have HBk := Lib.hid (ex_keep HBj.out hbk); have q0 := cell_keep hbk o0; have q1 := cell_keep hbk o1; have q2 := cell_keep hbk o2; have q3 := cell_keep hbk o3; clear hbk))
  have hb := HBk.out
  clear fa0 fb0 fa1 fb1 fa2 fb2 l0a l0b l1a l1b l2a l2b o0 q0 o1 q1 o2 q2 o3 q3 ea eb HBj HBk HOj HSW1 HXR1
  replace HK0 := Lib.hid (HK0.out.below z0 hb)
  replace z0 : w11.heap.size ≤ w24.heap.size := Nat.le_trans z0 hb.size
  replace HK1 := Lib.hid (HK1.out.below z1 hb)
  replace z1 : w13.heap.size ≤ w24.heap.size := Nat.le_trans z1 hb.size
  replace HK2 := Lib.hid (HK2.out.below z2 hb)
  replace z2 : w15.heap.size ≤ w24.heap.size := Nat.le_trans z2 hb.size
  replace HK3 := Lib.hid (HK3.out.below z3 hb)
  replace z3 : w16.heap.size ≤ w24.heap.size := Nat.le_trans z3 hb.size
  replace HK4 := Lib.hid (HK4.out.below z4 hb)
  replace z4 : w17.heap.size ≤ w24.heap.size := Nat.le_trans z4 hb.size
  replace HKg0 := Lib.hid (HKg0.out.below zg0 hb)
  replace zg0 : wmg1.heap.size ≤ w24.heap.size := Nat.le_trans zg0 hb.size
  replace HKg1 := Lib.hid (HKg1.out.below zg1 hb)
  replace zg1 : w18.heap.size ≤ w24.heap.size := Nat.le_trans zg1 hb.size
  replace HBs := Lib.hid (ex_keep HBs.out hb)
  clear hb
  have fa0 := cell_keep HBs.out HC.out.1
  have fb0 := cell_keep HBs.out HC.out.2.1
  have fa1 := cell_keep HBs.out HC.out.2.2.1
  have fb1 := cell_keep HBs.out HC.out.2.2.2.1
  have fa2 := cell_keep HBs.out HC.out.2.2.2.2.1
  have fb2 := cell_keep HBs.out HC.out.2.2.2.2.2
  have l0a := HK0.out.cell (by omega) HCX0.out.1
  have l0b := HK0.out.cell (by omega) HCX0.out.2
  have l1a := HK1.out.cell (by omega) HCX1.out.1
  have l1b := HK1.out.cell (by omega) HCX1.out.2
  have l2a := HK2.out.cell (by omega) HCX2.out.1
  have l2b := HK2.out.cell (by omega) HCX2.out.2
  have HSW2 := Lib.hid (HW2.out.keep (ex_keep HB.out HBs.out))
  have HXR2 := Lib.hid (HX2.out.same HK2.out).reads
  go_wp2_with fail
  have ea := World.new_ne w24 _ fa2
  have eb := World.new_ne w24 _ l2a
  go_region_held3 (fun w' => w'.cell? ⟨w.heap.size + 1 + 1, 0, none⟩ = some (.slice A2a s2.sorts.length c2a) ∧ w'.cell? ⟨w.heap.size + 1 + 1, 1, none⟩ = some (.slice A2b s2.ops.length c2b) ∧ w'.cell? ⟨w14.heap.size, 0, none⟩ = some (.slice AX2a s2.sorts.length cX2a) ∧ w'.cell? ⟨w14.heap.size, 1, none⟩ = some (.slice AX2b s2.ops.length cX2b))
    (first | go_keep)
    (first
      | (go_at_call 13; refine (toMap_any _ s2 w24.drew HSW2.out HF2.out).mono ?_; rintro e w25 ⟨yj, rfl, hoj, hbj⟩; have HOj := Lib.hid hoj; have HBj := Lib.hid (show Below w24.heap.size w24 w25 from below_undrew hbj); have o0 := cell_keep HBj.out fa2; have o1 := cell_keep HBj.out fb2; have o2 := cell_keep HBj.out l2a; have o3 := cell_keep HBj.out l2b; clear hoj hbj)
      | (go_at_call 16; refine (eqMap_is _ _ s2 s2 _ true (sameMp_self _) (HXR2.out.keep HBj.out) HOj.out.reads).mono ?_; rintro e w26 ⟨rfl, hbk⟩; have HBk := Lib.hid (ex_keep HBj.out hbk); have q0 := cell_keep hbk o0; have q1 := cell_keep hbk o1; have q2 := cell_keep hbk o2; have q3 := cell_keep hbk o3; clear hbk))
  have hb := HBk.out
  clear fa0 fb0 fa1 fb1 fa2 fb2 l0a l0b l1a l1b l2a l2b o0 q0 o1 q1 o2 q2 o3 q3 ea eb HBj HBk HOj HSW2 HXR2
  replace HK0 := Lib.hid (HK0.out.below z0 hb)
  replace z0 : w11.heap.size ≤ w26.heap.size := Nat.le_trans z0 hb.size
  replace HK1 := Lib.hid (HK1.out.below z1 hb)
  replace z1 : w13.heap.size ≤ w26.heap.size := Nat.le_trans z1 hb.size
  replace HK2 := Lib.hid (HK2.out.below z2 hb)
  replace z2 : w15.heap.size ≤ w26.heap.size := Nat.le_trans z2 hb.size
  replace HK3 := Lib.hid (HK3.out.below z3 hb)
  replace z3 : w16.heap.size ≤ w26.heap.size := Nat.le_trans z3 hb.size
  replace HK4 := Lib.hid (HK4.out.below z4 hb)
  replace z4 : w17.heap.size ≤ w26.heap.size := Nat.le_trans z4 hb.size
  replace HKg0 := Lib.hid (HKg0.out.below zg0 hb)
  replace zg0 : wmg1.heap.size ≤ w26.heap.size := Nat.le_trans zg0 hb.size
  replace HKg1 := Lib.hid (HKg1.out.below zg1 hb)
  replace zg1 : w18.heap.size ≤ w26.heap.size := Nat.le_trans zg1 hb.size
  replace HBs := Lib.hid (ex_keep HBs.out hb)
  clear hb
  go_wp2_with fail
  refine (toIntS_any _ xs3 _ (HW3.out.keep (ex_keep HB.out HBs.out)) (by omega)).mono ?_
  rintro e w27 ⟨yj, rfl, ho, hb⟩
  have PJ := Lib.hid ho.reads
  clear ho
  replace HK0 := Lib.hid (HK0.out.below z0 hb)
  replace z0 : w11.heap.size ≤ w27.heap.size := Nat.le_trans z0 hb.size
  replace HK1 := Lib.hid (HK1.out.below z1 hb)
  replace z1 : w13.heap.size ≤ w27.heap.size := Nat.le_trans z1 hb.size
  replace HK2 := Lib.hid (HK2.out.below z2 hb)
  replace z2 : w15.heap.size ≤ w27.heap.size := Nat.le_trans z2 hb.size
  replace HK3 := Lib.hid (HK3.out.below z3 hb)
  replace z3 : w16.heap.size ≤ w27.heap.size := Nat.le_trans z3 hb.size
  replace HK4 := Lib.hid (HK4.out.below z4 hb)
  replace z4 : w17.heap.size ≤ w27.heap.size := Nat.le_trans z4 hb.size
  replace HKg0 := Lib.hid (HKg0.out.below zg0 hb)
  replace zg0 : wmg1.heap.size ≤ w27.heap.size := Nat.le_trans zg0 hb.size
  replace HKg1 := Lib.hid (HKg1.out.below zg1 hb)
  replace zg1 : w18.heap.size ≤ w27.heap.size := Nat.le_trans zg1 hb.size
  replace HBs := Lib.hid (ex_keep HBs.out hb)
  clear hb
  go_wp2_with fail
  refine (eqIntS_is _ _ xs3 xs3 _ true (sameI_self _) (HX3.out.same HK3.out).reads PJ.out).mono ?_
  rintro e w28 ⟨rfl, hd⟩
  have hb := hd.below
  clear hd PJ
  replace HK0 := Lib.hid (HK0.out.below z0 hb)
  replace z0 : w11.heap.size ≤ w28.heap.size := Nat.le_trans z0 hb.size
  replace HK1 := Lib.hid (HK1.out.below z1 hb)
  replace z1 : w13.heap.size ≤ w28.heap.size := Nat.le_trans z1 hb.size
  replace HK2 := Lib.hid (HK2.out.below z2 hb)
  replace z2 : w15.heap.size ≤ w28.heap.size := Nat.le_trans z2 hb.size
  replace HK3 := Lib.hid (HK3.out.below z3 hb)
  replace z3 : w16.heap.size ≤ w28.heap.size := Nat.le_trans z3 hb.size
  replace HK4 := Lib.hid (HK4.out.below z4 hb)
  replace z4 : w17.heap.size ≤ w28.heap.size := Nat.le_trans z4 hb.size
  replace HKg0 := Lib.hid (HKg0.out.below zg0 hb)
  replace zg0 : wmg1.heap.size ≤ w28.heap.size := Nat.le_trans zg0 hb.size
  replace HKg1 := Lib.hid (HKg1.out.below zg1 hb)
  replace zg1 : w18.heap.size ≤ w28.heap.size := Nat.le_trans zg1 hb.size
  replace HBs := Lib.hid (ex_keep HBs.out hb)
  clear hb
  go_wp2_with fail
  refine (toIntS_any _ xs4 _ (HW4.out.keep (ex_keep HB.out HBs.out)) (by omega)).mono ?_
  rintro e w29 ⟨yj, rfl, ho, hb⟩
  have PJ := Lib.hid ho.reads
  clear ho
  replace HK0 := Lib.hid (HK0.out.below z0 hb)
  replace z0 : w11.heap.size ≤ w29.heap.size := Nat.le_trans z0 hb.size
  replace HK1 := Lib.hid (HK1.out.below z1 hb)
  replace z1 : w13.heap.size ≤ w29.heap.size := Nat.le_trans z1 hb.size
  replace HK2 := Lib.hid (HK2.out.below z2 hb)
  replace z2 : w15.heap.size ≤ w29.heap.size := Nat.le_trans z2 hb.size
  replace HK3 := Lib.hid (HK3.out.below z3 hb)
  replace z3 : w16.heap.size ≤ w29.heap.size := Nat.le_trans z3 hb.size
  replace HK4 := Lib.hid (HK4.out.below z4 hb)
  replace z4 : w17.heap.size ≤ w29.heap.size := Nat.le_trans z4 hb.size
  replace HKg0 := Lib.hid (HKg0.out.below zg0 hb)
  replace zg0 : wmg1.heap.size ≤ w29.heap.size := Nat.le_trans zg0 hb.size
  replace HKg1 := Lib.hid (HKg1.out.below zg1 hb)
  replace zg1 : w18.heap.size ≤ w29.heap.size := Nat.le_trans zg1 hb.size
  replace HBs := Lib.hid (ex_keep HBs.out hb)
  clear hb
  go_wp2_with fail
  refine (eqIntS_is _ _ xs4 xs4 _ true (sameI_self _) (HX4.out.same HK4.out).reads PJ.out).mono ?_
  rintro e w30 ⟨rfl, hd⟩
  have hb := hd.below
  clear hd PJ
  replace HK0 := Lib.hid (HK0.out.below z0 hb)
  replace z0 : w11.heap.size ≤ w30.heap.size := Nat.le_trans z0 hb.size
  replace HK1 := Lib.hid (HK1.out.below z1 hb)
  replace z1 : w13.heap.size ≤ w30.heap.size := Nat.le_trans z1 hb.size
  replace HK2 := Lib.hid (HK2.out.below z2 hb)
  replace z2 : w15.heap.size ≤ w30.heap.size := Nat.le_trans z2 hb.size
  replace HK3 := Lib.hid (HK3.out.below z3 hb)
  replace z3 : w16.heap.size ≤ w30.heap.size := Nat.le_trans z3 hb.size
  replace HK4 := Lib.hid (HK4.out.below z4 hb)
  replace z4 : w17.heap.size ≤ w30.heap.size := Nat.le_trans z4 hb.size
  replace HKg0 := Lib.hid (HKg0.out.below zg0 hb)
  replace zg0 : wmg1.heap.size ≤ w30.heap.size := Nat.le_trans zg0 hb.size
  replace HKg1 := Lib.hid (HKg1.out.below zg1 hb)
  replace zg1 : w18.heap.size ≤ w30.heap.size := Nat.le_trans zg1 hb.size
  replace HBs := Lib.hid (ex_keep HBs.out hb)
  clear hb
  have l0a := HK0.out.cell (by omega) HCX0.out.1
  have l0b := HK0.out.cell (by omega) HCX0.out.2
  go_wp2_with fail
  refine (markSig_go _ _ s0 _ w11 _ HX0.out HK0.out z0 HF0.out (by omega) (by omega)).mono ?_
  rintro e w31 ⟨k0, rfl, hka0, hkb0, wa, hb, hout⟩
  have hzo := hout.size
  replace HK1 := Lib.hid ((HK1.out.below z1 hb).outside hout (by omega))
  replace z1 : w13.heap.size ≤ w31.heap.size := by have := hb.size; omega
  replace HK2 := Lib.hid ((HK2.out.below z2 hb).outside hout (by omega))
  replace z2 : w15.heap.size ≤ w31.heap.size := by have := hb.size; omega
  replace HK3 := Lib.hid ((HK3.out.below z3 hb).outside hout (by omega))
  replace z3 : w16.heap.size ≤ w31.heap.size := by have := hb.size; omega
  replace HK4 := Lib.hid ((HK4.out.below z4 hb).outside hout (by omega))
  replace z4 : w17.heap.size ≤ w31.heap.size := by have := hb.size; omega
  replace HKg0 := Lib.hid ((HKg0.out.below zg0 hb).outside hout (by omega))
  replace zg0 : wmg1.heap.size ≤ w31.heap.size := by have := hb.size; omega
  replace HKg1 := Lib.hid ((HKg1.out.below zg1 hb).outside hout (by omega))
  replace zg1 : w18.heap.size ≤ w31.heap.size := by have := hb.size; omega
  replace HBs := Lib.hid ((ex_keep HBs.out hb).trans (hout.below.mono (by omega)))
  clear hb hout hzo HK0 z0 HX0 l0a l0b
  have l1a := HK1.out.cell (by omega) HCX1.out.1
  have l1b := HK1.out.cell (by omega) HCX1.out.2
  go_wp2_with fail
  refine (markSig_go _ _ s1 _ w13 _ HX1.out HK1.out z1 HF1.out (by omega) (by omega)).mono ?_
  rintro e w32 ⟨k1, rfl, hka1, hkb1, wa, hb, hout⟩
  have hzo := hout.size
  replace HK2 := Lib.hid ((HK2.out.below z2 hb).outside hout (by omega))
  replace z2 : w15.heap.size ≤ w32.heap.size := by have := hb.size; omega
  replace HK3 := Lib.hid ((HK3.out.below z3 hb).outside hout (by omega))
  replace z3 : w16.heap.size ≤ w32.heap.size := by have := hb.size; omega
  replace HK4 := Lib.hid ((HK4.out.below z4 hb).outside hout (by omega))
  replace z4 : w17.heap.size ≤ w32.heap.size := by have := hb.size; omega
  replace HKg0 := Lib.hid ((HKg0.out.below zg0 hb).outside hout (by omega))
  replace zg0 : wmg1.heap.size ≤ w32.heap.size := by have := hb.size; omega
  replace HKg1 := Lib.hid ((HKg1.out.below zg1 hb).outside hout (by omega))
  replace zg1 : w18.heap.size ≤ w32.heap.size := by have := hb.size; omega
  replace HBs := Lib.hid ((ex_keep HBs.out hb).trans (hout.below.mono (by omega)))
  clear hb hout hzo HK1 z1 HX1 l1a l1b
  have l2a := HK2.out.cell (by omega) HCX2.out.1
  have l2b := HK2.out.cell (by omega) HCX2.out.2
  go_wp2_with fail
  refine (markMap_go _ _ s2 _ w15 _ HX2.out HK2.out z2 HF2.out (by omega) (by omega)).mono ?_
  rintro e w33 ⟨k2, rfl, hka2, hkb2, wa, hb, hout⟩
  have hzo := hout.size
  replace HK3 := Lib.hid ((HK3.out.below z3 hb).outside hout (by omega))
  replace z3 : w16.heap.size ≤ w33.heap.size := by have := hb.size; omega
  replace HK4 := Lib.hid ((HK4.out.below z4 hb).outside hout (by omega))
  replace z4 : w17.heap.size ≤ w33.heap.size := by have := hb.size; omega
  replace HKg0 := Lib.hid ((HKg0.out.below zg0 hb).outside hout (by omega))
  replace zg0 : wmg1.heap.size ≤ w33.heap.size := by have := hb.size; omega
  replace HKg1 := Lib.hid ((HKg1.out.below zg1 hb).outside hout (by omega))
  replace zg1 : w18.heap.size ≤ w33.heap.size := by have := hb.size; omega
  replace HBs := Lib.hid ((ex_keep HBs.out hb).trans (hout.below.mono (by omega)))
  clear hb hout hzo HK2 z2 HX2 l2a l2b
  go_wp2_with fail
  refine (markIntS_go _ _ xs3 _ w16 _ HX3.out HK3.out z3 (by omega) (by omega) (by omega)).mono ?_
  rintro e w34 ⟨k3, rfl, hka3, hkb3, wa, hb, hout⟩
  have hzo := hout.size
  replace HK4 := Lib.hid ((HK4.out.below z4 hb).outside hout (by omega))
  replace z4 : w17.heap.size ≤ w34.heap.size := by have := hb.size; omega
  replace HKg0 := Lib.hid ((HKg0.out.below zg0 hb).outside hout (by omega))
  replace zg0 : wmg1.heap.size ≤ w34.heap.size := by have := hb.size; omega
  replace HKg1 := Lib.hid ((HKg1.out.below zg1 hb).outside hout (by omega))
  replace zg1 : w18.heap.size ≤ w34.heap.size := by have := hb.size; omega
  replace HBs := Lib.hid ((ex_keep HBs.out hb).trans (hout.below.mono (by omega)))
  clear hb hout hzo HK3 z3 HX3
  go_wp2_with fail
  refine (markIntS_go _ _ xs4 _ w17 _ HX4.out HK4.out z4 (by omega) (by omega) (by omega)).mono ?_
  rintro e w35 ⟨k4, rfl, hka4, hkb4, wa, hb, hout⟩
  have hzo := hout.size
  replace HKg0 := Lib.hid ((HKg0.out.below zg0 hb).outside hout (by omega))
  replace zg0 : wmg1.heap.size ≤ w35.heap.size := by have := hb.size; omega
  replace HKg1 := Lib.hid ((HKg1.out.below zg1 hb).outside hout (by omega))
  replace zg1 : w18.heap.size ≤ w35.heap.size := by have := hb.size; omega
  replace HBs := Lib.hid ((ex_keep HBs.out hb).trans (hout.below.mono (by omega)))
  clear hb hout hzo HK4 z4 HX4
  go_wp2_with fail
  refine (eqIntS_is _ _ R1 R1 _ true (sameI_self _) (HG0.out.same HKg0.out).reads (HZ0.out.keep HBs.out).reads).mono ?_
  rintro e w36 ⟨rfl, hd⟩
  have hb := hd.below
  clear hd
  replace HKg0 := Lib.hid (HKg0.out.below zg0 hb)
  replace zg0 : wmg1.heap.size ≤ w36.heap.size := Nat.le_trans zg0 hb.size
  replace HKg1 := Lib.hid (HKg1.out.below zg1 hb)
  replace zg1 : w18.heap.size ≤ w36.heap.size := Nat.le_trans zg1 hb.size
  replace HBs := Lib.hid (ex_keep HBs.out hb)
  clear hb
  go_wp2_with fail
  refine (eqIntS_is _ _ R2 R2 _ true (sameI_self _) (HG1.out.same HKg1.out).reads (HZ1.out.keep HBs.out).reads).mono ?_
  rintro e w37 ⟨rfl, hd⟩
  have hb := hd.below
  clear hd
  replace HKg0 := Lib.hid (HKg0.out.below zg0 hb)
  replace zg0 : wmg1.heap.size ≤ w37.heap.size := Nat.le_trans zg0 hb.size
  replace HKg1 := Lib.hid (HKg1.out.below zg1 hb)
  replace zg1 : w18.heap.size ≤ w37.heap.size := Nat.le_trans zg1 hb.size
  replace HBs := Lib.hid (ex_keep HBs.out hb)
  clear hb
  go_wp2_with fail
  refine (markIntS_gk _ _ R1 1 wmg1 _ HG0.out HKg0.out zg0 HLEN.out.1 (by omega) (by omega)).mono ?_
  rintro e w38 ⟨K0, rfl, hK0, hKb0, hheld, wa, hb, hout⟩
  have HH0 := Lib.hid hheld
  have hzo := hout.size
  replace HKg1 := Lib.hid ((HKg1.out.below zg1 hb).outside hout (by omega))
  replace zg1 : w18.heap.size ≤ w38.heap.size := by have := hb.size; omega
  replace HBs := Lib.hid ((ex_keep HBs.out hb).trans (hout.below.mono (by omega)))
  replace zg0 : wmg1.heap.size ≤ w38.heap.size := by have := hb.size; omega
  clear hb hout hzo hheld HKg0 HG0
  have HKh0 : Hid (Keeps w17.heap.size (cutTo w38 wmg1.heap.size) w38) := cut_keeps zg0
  have zh0 : (cutTo w38 wmg1.heap.size).heap.size ≤ w38.heap.size := by rw [cut_size zg0]; exact zg0
  have ck0 : (cutTo w38 wmg1.heap.size).heap.size = wmg1.heap.size := cut_size zg0
  clear zg0
  go_wp2_with fail
  refine (markIntS_gk _ _ R2 K0 w18 _ HG1.out HKg1.out zg1 HLEN.out.2 (by omega) (by omega)).mono ?_
  rintro e w39 ⟨K1, rfl, hK1, hKb1, hheld, wa, hb, hout⟩
  have HH1 := Lib.hid hheld
  have hzo := hout.size
  replace HKh0 := Lib.hid ((HKh0.out.below zh0 hb).outside_lo hout (by omega))
  replace zh0 : (cutTo w38 wmg1.heap.size).heap.size ≤ w39.heap.size := by have := hb.size; omega
  replace HBs := Lib.hid ((ex_keep HBs.out hb).trans (hout.below.mono (by omega)))
  replace zg1 : w18.heap.size ≤ w39.heap.size := by have := hb.size; omega
  clear hb hout hzo hheld HKg1 HG1
  have HKh1 : Hid (Keeps wmg1.heap.size (cutTo w39 w18.heap.size) w39) := cut_keeps zg1
  have zh1 : (cutTo w39 w18.heap.size).heap.size ≤ w39.heap.size := by rw [cut_size zg1]; exact zg1
  have ck1 : (cutTo w39 w18.heap.size).heap.size = w18.heap.size := cut_size zg1
  clear zg1
  have ek : (K1 != K1) = false := by simp
  go_wp2_with fail
  refine (HH0.out _ HKh0.out).mono ?_
  rintro e w40 ⟨rfl, hb⟩
  replace HKh0 := Lib.hid (HKh0.out.below zh0 hb)
  replace zh0 : (cutTo w38 wmg1.heap.size).heap.size ≤ w40.heap.size := Nat.le_trans zh0 hb.size
  replace HKh1 := Lib.hid (HKh1.out.below zh1 hb)
  replace zh1 : (cutTo w39 w18.heap.size).heap.size ≤ w40.heap.size := Nat.le_trans zh1 hb.size
  replace HBs := Lib.hid (ex_keep HBs.out hb)
  clear hb
  go_wp2_with fail
  refine (HH1.out _ HKh1.out).mono ?_
  rintro e w41 ⟨rfl, hb⟩
  replace HKh0 := Lib.hid (HKh0.out.below zh0 hb)
  replace zh0 : (cutTo w38 wmg1.heap.size).heap.size ≤ w41.heap.size := Nat.le_trans zh0 hb.size
  replace HKh1 := Lib.hid (HKh1.out.below zh1 hb)
  replace zh1 : (cutTo w39 w18.heap.size).heap.size ≤ w41.heap.size := Nat.le_trans zh1 hb.size
  replace HBs := Lib.hid (ex_keep HBs.out hb)
  clear hb
  have fa0 := cell_keep HBs.out HC.out.1
  have fb0 := cell_keep HBs.out HC.out.2.1
  have fa1 := cell_keep HBs.out HC.out.2.2.1
  have fb1 := cell_keep HBs.out HC.out.2.2.2.1
  have fa2 := cell_keep HBs.out HC.out.2.2.2.2.1
  have fb2 := cell_keep HBs.out HC.out.2.2.2.2.2
  go_wp2_with fail
  refine wp_region_held_drew (S := (fun w' => w'.cell? ⟨w.heap.size, 0, none⟩ = some (.int .i64 s0.sorts) ∧ w'.cell? ⟨w.heap.size, 1, none⟩ = some (.slice A0a s0.ops.length c0a) ∧ w'.cell? ⟨w.heap.size + 1, 0, none⟩ = some (.int .i64 s1.sorts) ∧ w'.cell? ⟨w.heap.size + 1, 1, none⟩ = some (.slice A1a s1.ops.length c1a) ∧ w'.cell? ⟨w.heap.size + 1 + 1, 0, none⟩ = some (.slice A2a s2.sorts.length c2a) ∧ w'.cell? ⟨w.heap.size + 1 + 1, 1, none⟩ = some (.slice A2b s2.ops.length c2b))) (by kernel_rfl) ?_ (fun hHeld => ?_)
  · exact ⟨fa0, fb0, fa1, fb1, fa2, fb2⟩
  refine wpAnyH_take (i := 0) (oi := _) (v := ?_) rfl (by kernel_rfl) (by kernel_rfl) (by kernel_rfl) (fun _ _ _ h => h) (Or.inl ⟨by rfl, ?_⟩) (by assumption) ?_
  rotate_left
  · first | (intro w' hSw; (try dsimp only at hSw); go_simp; done) | (intro w' hSw; (try dsimp only at hSw); go_simp; with_reducible rfl)
  try simp only [Act.put, List.getElem_toArray, List.getElem_cons_zero, List.getElem_cons_succ, List.setIfInBounds_toArray, List.set_cons_zero, List.set_cons_succ]
  refine wpAnyH_take (i := 2) (oi := _) (v := ?_) rfl (by kernel_rfl) (by kernel_rfl) (by kernel_rfl) (fun _ _ _ h => h) (Or.inl ⟨by rfl, ?_⟩) (by assumption) ?_
  rotate_left
  · first | (intro w' hSw; (try dsimp only at hSw); go_simp; done) | (intro w' hSw; (try dsimp only at hSw); go_simp; with_reducible rfl)
  try simp only [Act.put, List.getElem_toArray, List.getElem_cons_zero, List.getElem_cons_succ, List.setIfInBounds_toArray, List.set_cons_zero, List.set_cons_succ]
  refine wpAnyH_take (i := 4) (oi := _) (v := ?_) rfl (by kernel_rfl) (by kernel_rfl) (by kernel_rfl) (fun _ _ _ h => h) (Or.inl ⟨by rfl, ?_⟩) (by assumption) ?_
  rotate_left
  · first | (intro w' hSw; (try dsimp only at hSw); go_simp; done) | (intro w' hSw; (try dsimp only at hSw); go_simp; with_reducible rfl)
  try simp only [Act.put, List.getElem_toArray, List.getElem_cons_zero, List.getElem_cons_succ, List.setIfInBounds_toArray, List.set_cons_zero, List.set_cons_succ]
  refine wpAnyH_take (i := 6) (oi := _) (v := ?_) rfl (by kernel_rfl) (by kernel_rfl) (by kernel_rfl) (fun _ _ _ h => h) (Or.inl ⟨by rfl, ?_⟩) (by assumption) ?_
  rotate_left
  · first | (intro w' hSw; (try dsimp only at hSw); go_simp; done) | (intro w' hSw; (try dsimp only at hSw); go_simp; with_reducible rfl)
  try simp only [Act.put, List.getElem_toArray, List.getElem_cons_zero, List.getElem_cons_succ, List.setIfInBounds_toArray, List.set_cons_zero, List.set_cons_succ]
  refine wpAnyH_take (i := 8) (oi := _) (v := ?_) rfl (by kernel_rfl) (by kernel_rfl) (by kernel_rfl) (fun _ _ _ h => h) (Or.inl ⟨by rfl, ?_⟩) (by assumption) ?_
  rotate_left
  · first | (intro w' hSw; (try dsimp only at hSw); go_simp; done) | (intro w' hSw; (try dsimp only at hSw); go_simp; with_reducible rfl)
  try simp only [Act.put, List.getElem_toArray, List.getElem_cons_zero, List.getElem_cons_succ, List.setIfInBounds_toArray, List.set_cons_zero, List.set_cons_succ]
  refine wpAnyH_ready (rs := [1]) (by kernel_rfl) (by simp) ?_
  refine AllReadyH.cons (o := _) rfl (fun K hK => ?_) AllReadyH.nil
  go_simp
  refine (toSig_any _ s0 _ (HW0.out.keep (ex_drew (ex_keep HB.out HBs.out))) HF0.out).mono ?_
  rintro e w42 ⟨y0, rfl, ho, hb⟩
  replace hb := ex_undrew hb
  replace fa0 := cell_keep hb fa0
  replace fb0 := cell_keep hb fb0
  replace fa1 := cell_keep hb fa1
  replace fb1 := cell_keep hb fb1
  replace fa2 := cell_keep hb fa2
  replace fb2 := cell_keep hb fb2
  replace HKh0 := Lib.hid (HKh0.out.below zh0 hb)
  replace zh0 : (cutTo w38 wmg1.heap.size).heap.size ≤ w42.heap.size := Nat.le_trans zh0 hb.size
  replace HKh1 := Lib.hid (HKh1.out.below zh1 hb)
  replace zh1 : (cutTo w39 w18.heap.size).heap.size ≤ w42.heap.size := Nat.le_trans zh1 hb.size
  replace HBs := Lib.hid (ex_keep HBs.out hb)
  clear hb
  have PP0 := Lib.hid ho.reads
  obtain ⟨AQ0a, cQ0a, rfl⟩ := ho.reads.form
  clear ho
  go_wp2_with fail
  refine hK.out _ _ ?_ (fun hHeld => ?_)
  · exact ⟨fa0, fb0, fa1, fb1, fa2, fb2⟩
  clear hK K
  try simp only [Act.put, List.getElem_toArray, List.getElem_cons_zero, List.getElem_cons_succ, List.setIfInBounds_toArray, List.set_cons_zero, List.set_cons_succ]
  refine wpAnyH_ready (rs := [3]) (by kernel_rfl) (by simp) ?_
  refine AllReadyH.cons (o := _) rfl (fun K hK => ?_) AllReadyH.nil
  go_simp
  refine (toSig_any _ s1 _ (HW1.out.keep (ex_keep HB.out HBs.out)) HF1.out).mono ?_
  rintro e w43 ⟨y1, rfl, ho, hb⟩
  replace fa0 := cell_keep hb fa0
  replace fb0 := cell_keep hb fb0
  replace fa1 := cell_keep hb fa1
  replace fb1 := cell_keep hb fb1
  replace fa2 := cell_keep hb fa2
  replace fb2 := cell_keep hb fb2
  replace PP0 := Lib.hid (PP0.out.keep hb)
  replace HKh0 := Lib.hid (HKh0.out.below zh0 hb)
  replace zh0 : (cutTo w38 wmg1.heap.size).heap.size ≤ w43.heap.size := Nat.le_trans zh0 hb.size
  replace HKh1 := Lib.hid (HKh1.out.below zh1 hb)
  replace zh1 : (cutTo w39 w18.heap.size).heap.size ≤ w43.heap.size := Nat.le_trans zh1 hb.size
  replace HBs := Lib.hid (ex_keep HBs.out hb)
  clear hb
  have PP1 := Lib.hid ho.reads
  obtain ⟨AQ1a, cQ1a, rfl⟩ := ho.reads.form
  clear ho
  go_wp2_with fail
  refine hK.out _ _ ?_ (fun hHeld => ?_)
  · exact ⟨fa0, fb0, fa1, fb1, fa2, fb2⟩
  clear hK K
  try simp only [Act.put, List.getElem_toArray, List.getElem_cons_zero, List.getElem_cons_succ, List.setIfInBounds_toArray, List.set_cons_zero, List.set_cons_succ]
  refine wpAnyH_ready (rs := [5]) (by kernel_rfl) (by simp) ?_
  refine AllReadyH.cons (o := _) rfl (fun K hK => ?_) AllReadyH.nil
  go_simp
  refine (toMap_any _ s2 _ (HW2.out.keep (ex_keep HB.out HBs.out)) HF2.out).mono ?_
  rintro e w44 ⟨y2, rfl, ho, hb⟩
  replace fa0 := cell_keep hb fa0
  replace fb0 := cell_keep hb fb0
  replace fa1 := cell_keep hb fa1
  replace fb1 := cell_keep hb fb1
  replace fa2 := cell_keep hb fa2
  replace fb2 := cell_keep hb fb2
  replace PP0 := Lib.hid (PP0.out.keep hb)
  replace PP1 := Lib.hid (PP1.out.keep hb)
  replace HKh0 := Lib.hid (HKh0.out.below zh0 hb)
  replace zh0 : (cutTo w38 wmg1.heap.size).heap.size ≤ w44.heap.size := Nat.le_trans zh0 hb.size
  replace HKh1 := Lib.hid (HKh1.out.below zh1 hb)
  replace zh1 : (cutTo w39 w18.heap.size).heap.size ≤ w44.heap.size := Nat.le_trans zh1 hb.size
  replace HBs := Lib.hid (ex_keep HBs.out hb)
  clear hb
  have PP2 := Lib.hid ho.reads
  obtain ⟨AQ2a, cQ2a, AQ2b, cQ2b, rfl⟩ := ho.reads.form
  clear ho
  go_wp2_with fail
  refine hK.out _ _ ?_ (fun hHeld => ?_)
  · exact ⟨fa0, fb0, fa1, fb1, fa2, fb2⟩
  clear hK K
  try simp only [Act.put, List.getElem_toArray, List.getElem_cons_zero, List.getElem_cons_succ, List.setIfInBounds_toArray, List.set_cons_zero, List.set_cons_succ]
  refine wpAnyH_ready (rs := [7]) (by kernel_rfl) (by simp) ?_
  refine AllReadyH.cons (o := _) rfl (fun K hK => ?_) AllReadyH.nil
  go_simp
  refine (toIntS_any _ xs3 _ (HW3.out.keep (ex_keep HB.out HBs.out)) (by omega)).mono ?_
  rintro e w45 ⟨y3, rfl, ho, hb⟩
  replace fa0 := cell_keep hb fa0
  replace fb0 := cell_keep hb fb0
  replace fa1 := cell_keep hb fa1
  replace fb1 := cell_keep hb fb1
  replace fa2 := cell_keep hb fa2
  replace fb2 := cell_keep hb fb2
  replace PP0 := Lib.hid (PP0.out.keep hb)
  replace PP1 := Lib.hid (PP1.out.keep hb)
  replace PP2 := Lib.hid (PP2.out.keep hb)
  replace HKh0 := Lib.hid (HKh0.out.below zh0 hb)
  replace zh0 : (cutTo w38 wmg1.heap.size).heap.size ≤ w45.heap.size := Nat.le_trans zh0 hb.size
  replace HKh1 := Lib.hid (HKh1.out.below zh1 hb)
  replace zh1 : (cutTo w39 w18.heap.size).heap.size ≤ w45.heap.size := Nat.le_trans zh1 hb.size
  replace HBs := Lib.hid (ex_keep HBs.out hb)
  clear hb
  have PP3 := Lib.hid ho.reads
  obtain ⟨AQ3, cQ3, rfl, -⟩ := ho.reads.form
  clear ho
  go_wp2_with fail
  refine hK.out _ _ ?_ (fun hHeld => ?_)
  · exact ⟨fa0, fb0, fa1, fb1, fa2, fb2⟩
  clear hK K
  try simp only [Act.put, List.getElem_toArray, List.getElem_cons_zero, List.getElem_cons_succ, List.setIfInBounds_toArray, List.set_cons_zero, List.set_cons_succ]
  refine wpAnyH_ready (rs := [9]) (by kernel_rfl) (by simp) ?_
  refine AllReadyH.cons (o := _) rfl (fun K hK => ?_) AllReadyH.nil
  go_simp
  refine (toIntS_any _ xs4 _ (HW4.out.keep (ex_keep HB.out HBs.out)) (by omega)).mono ?_
  rintro e w46 ⟨y4, rfl, ho, hb⟩
  replace fa0 := cell_keep hb fa0
  replace fb0 := cell_keep hb fb0
  replace fa1 := cell_keep hb fa1
  replace fb1 := cell_keep hb fb1
  replace fa2 := cell_keep hb fa2
  replace fb2 := cell_keep hb fb2
  replace PP0 := Lib.hid (PP0.out.keep hb)
  replace PP1 := Lib.hid (PP1.out.keep hb)
  replace PP2 := Lib.hid (PP2.out.keep hb)
  replace PP3 := Lib.hid (PP3.out.keep hb)
  replace HKh0 := Lib.hid (HKh0.out.below zh0 hb)
  replace zh0 : (cutTo w38 wmg1.heap.size).heap.size ≤ w46.heap.size := Nat.le_trans zh0 hb.size
  replace HKh1 := Lib.hid (HKh1.out.below zh1 hb)
  replace zh1 : (cutTo w39 w18.heap.size).heap.size ≤ w46.heap.size := Nat.le_trans zh1 hb.size
  replace HBs := Lib.hid (ex_keep HBs.out hb)
  clear hb
  have PP4 := Lib.hid ho.reads
  obtain ⟨AQ4, cQ4, rfl, -⟩ := ho.reads.form
  clear ho
  go_wp2_with fail
  refine hK.out _ _ ?_ (fun hHeld => ?_)
  · exact ⟨fa0, fb0, fa1, fb1, fa2, fb2⟩
  clear hK K
  try simp only [Act.put, List.getElem_toArray, List.getElem_cons_zero, List.getElem_cons_succ, List.setIfInBounds_toArray, List.set_cons_zero, List.set_cons_succ]
  refine wpAnyH_ready (rs := [10]) (by kernel_rfl) (by simp) ?_
  refine AllReadyH.cons (o := _) rfl (fun K hK => ?_) AllReadyH.nil
  go_simp
  refine (mapTerm_any s0 s1 s2 xs3 xs4 _ _ _ _ _ _ HS4.out PP0.out PP1.out PP2.out PP3.out PP4.out).mono ?_
  rw [HR.out]
  rintro e w47 ⟨h0, h1, wmh1, rfl, ho0, hm1, hk1, ho1, hb⟩
  replace ho0 := ho0.keep hk1
  obtain ⟨Ah0, ch0, rfl, -⟩ := ho0.reads.form
  have HG10 := Lib.hid ho0.reads
  obtain ⟨Ah1, ch1, rfl, -⟩ := ho1.reads.form
  have HG11 := Lib.hid ho1.reads
  clear ho0 ho1 hm1 hk1 PP0 PP1 PP2 PP3 PP4
  replace fa0 := cell_keep hb fa0
  replace fb0 := cell_keep hb fb0
  replace fa1 := cell_keep hb fa1
  replace fb1 := cell_keep hb fb1
  replace fa2 := cell_keep hb fa2
  replace fb2 := cell_keep hb fb2
  replace HKh0 := Lib.hid (HKh0.out.below zh0 hb)
  replace zh0 : (cutTo w38 wmg1.heap.size).heap.size ≤ w47.heap.size := Nat.le_trans zh0 hb.size
  replace HKh1 := Lib.hid (HKh1.out.below zh1 hb)
  replace zh1 : (cutTo w39 w18.heap.size).heap.size ≤ w47.heap.size := Nat.le_trans zh1 hb.size
  replace HBs := Lib.hid (ex_keep HBs.out hb)
  clear hb
  go_wp2_with fail
  refine hK.out _ _ ?_ (fun hHeld => ?_)
  · exact ⟨fa0, fb0, fa1, fb1, fa2, fb2⟩
  clear hK K
  try simp only [Act.put, List.getElem_toArray, List.getElem_cons_zero, List.getElem_cons_succ, List.setIfInBounds_toArray, List.set_cons_zero, List.set_cons_succ]
  refine wpAnyH_take (i := 11) (oi := _) (v := ?_) rfl (by kernel_rfl) (by kernel_rfl) (by kernel_rfl) (fun _ _ _ h => h) (Or.inl ⟨by rfl, ?_⟩) (by assumption) ?_
  rotate_left
  · first | (intro w' hSw; (try dsimp only at hSw); go_simp; done) | (intro w' hSw; (try dsimp only at hSw); go_simp; with_reducible rfl)
  try simp only [Act.put, List.getElem_toArray, List.getElem_cons_zero, List.getElem_cons_succ, List.setIfInBounds_toArray, List.set_cons_zero, List.set_cons_succ]
  refine wpAnyH_take (i := 12) (oi := _) (v := ?_) rfl (by kernel_rfl) (by kernel_rfl) (by kernel_rfl) (fun _ _ _ h => h) (Or.inl ⟨by rfl, ?_⟩) (by assumption) ?_
  rotate_left
  · first | (intro w' hSw; (try dsimp only at hSw); go_simp; done) | (intro w' hSw; (try dsimp only at hSw); go_simp; with_reducible rfl)
  try simp only [Act.put, List.getElem_toArray, List.getElem_cons_zero, List.getElem_cons_succ, List.setIfInBounds_toArray, List.set_cons_zero, List.set_cons_succ]
  refine wpAnyH_take (i := 13) (oi := _) (v := ?_) rfl (by kernel_rfl) (by kernel_rfl) (by kernel_rfl) (fun _ _ _ h => h) (Or.inl ⟨by rfl, ?_⟩) (by assumption) ?_
  rotate_left
  · first | (intro w' hSw; (try dsimp only at hSw); go_simp; done) | (intro w' hSw; (try dsimp only at hSw); go_simp; with_reducible rfl)
  try simp only [Act.put, List.getElem_toArray, List.getElem_cons_zero, List.getElem_cons_succ, List.setIfInBounds_toArray, List.set_cons_zero, List.set_cons_succ]
  refine wpAnyH_take (i := 14) (oi := _) (v := ?_) rfl (by kernel_rfl) (by kernel_rfl) (by kernel_rfl) (fun _ _ _ h => h) (Or.inl ⟨by rfl, ?_⟩) (by assumption) ?_
  rotate_left
  · first | (intro w' hSw; (try dsimp only at hSw); go_simp; done) | (intro w' hSw; (try dsimp only at hSw); go_simp; with_reducible rfl)
  try simp only [Act.put, List.getElem_toArray, List.getElem_cons_zero, List.getElem_cons_succ, List.setIfInBounds_toArray, List.set_cons_zero, List.set_cons_succ]
  refine wpAnyH_take (i := 15) (oi := _) (v := ?_) rfl (by kernel_rfl) (by kernel_rfl) (by kernel_rfl) (fun _ _ _ h => h) (Or.inl ⟨by rfl, ?_⟩) (by assumption) ?_
  rotate_left
  · first | (intro w' hSw; (try dsimp only at hSw); go_simp; done) | (intro w' hSw; (try dsimp only at hSw); go_simp; with_reducible rfl)
  try simp only [Act.put, List.getElem_toArray, List.getElem_cons_zero, List.getElem_cons_succ, List.setIfInBounds_toArray, List.set_cons_zero, List.set_cons_succ]
  refine wpAnyH_take (i := 16) (oi := _) (v := ?_) rfl (by kernel_rfl) (by kernel_rfl) (by kernel_rfl) (fun _ _ _ h => h) (Or.inl ⟨by rfl, ?_⟩) (by assumption) ?_
  rotate_left
  · first | (intro w' hSw; (try dsimp only at hSw); go_simp; done) | (intro w' hSw; (try dsimp only at hSw); go_simp; with_reducible rfl)
  try simp only [Act.put, List.getElem_toArray, List.getElem_cons_zero, List.getElem_cons_succ, List.setIfInBounds_toArray, List.set_cons_zero, List.set_cons_succ]
  refine wpAnyH_take (i := 17) (oi := _) (v := ?_) rfl (by kernel_rfl) (by kernel_rfl) (by kernel_rfl) (fun _ _ _ h => h) (Or.inl ⟨by rfl, ?_⟩) (by assumption) ?_
  rotate_left
  · first | (intro w' hSw; (try dsimp only at hSw); go_simp; done) | (intro w' hSw; (try dsimp only at hSw); go_simp; with_reducible rfl)
  try simp only [Act.put, List.getElem_toArray, List.getElem_cons_zero, List.getElem_cons_succ, List.setIfInBounds_toArray, List.set_cons_zero, List.set_cons_succ]
  refine wpAnyH_done (by kernel_rfl) ?_ _
  clear fa0 fb0 fa1 fb1 fa2 fb2
  go_wp2_with fail
  refine (eqIntS_is _ _ R1 R1 _ true (sameI_self _) HG10.out (HZ0.out.keep HBs.out).reads).mono ?_
  rintro e w48 ⟨rfl, hd⟩
  have hb := hd.below
  clear hd
  replace HG11 := Lib.hid (HG11.out.keep hb)
  clear HG10
  replace HKh0 := Lib.hid (HKh0.out.below zh0 hb)
  replace zh0 : (cutTo w38 wmg1.heap.size).heap.size ≤ w48.heap.size := Nat.le_trans zh0 hb.size
  replace HKh1 := Lib.hid (HKh1.out.below zh1 hb)
  replace zh1 : (cutTo w39 w18.heap.size).heap.size ≤ w48.heap.size := Nat.le_trans zh1 hb.size
  replace HBs := Lib.hid (ex_keep HBs.out hb)
  clear hb
  go_wp2_with fail
  refine (eqIntS_is _ _ R2 R2 _ true (sameI_self _) HG11.out (HZ1.out.keep HBs.out).reads).mono ?_
  rintro e w49 ⟨rfl, hd⟩
  have hb := hd.below
  clear hd
  clear HG11
  replace HKh0 := Lib.hid (HKh0.out.below zh0 hb)
  replace zh0 : (cutTo w38 wmg1.heap.size).heap.size ≤ w49.heap.size := Nat.le_trans zh0 hb.size
  replace HKh1 := Lib.hid (HKh1.out.below zh1 hb)
  replace zh1 : (cutTo w39 w18.heap.size).heap.size ≤ w49.heap.size := Nat.le_trans zh1 hb.size
  replace HBs := Lib.hid (ex_keep HBs.out hb)
  clear hb
  go_wp2_with fail
  refine (HH0.out _ HKh0.out).mono ?_
  rintro e w50 ⟨rfl, hb⟩
  replace HKh0 := Lib.hid (HKh0.out.below zh0 hb)
  replace zh0 : (cutTo w38 wmg1.heap.size).heap.size ≤ w50.heap.size := Nat.le_trans zh0 hb.size
  replace HKh1 := Lib.hid (HKh1.out.below zh1 hb)
  replace zh1 : (cutTo w39 w18.heap.size).heap.size ≤ w50.heap.size := Nat.le_trans zh1 hb.size
  replace HBs := Lib.hid (ex_keep HBs.out hb)
  clear hb
  go_wp2_with fail
  refine (HH1.out _ HKh1.out).mono ?_
  rintro e w51 ⟨rfl, hb⟩
  replace HKh0 := Lib.hid (HKh0.out.below zh0 hb)
  replace zh0 : (cutTo w38 wmg1.heap.size).heap.size ≤ w51.heap.size := Nat.le_trans zh0 hb.size
  replace HKh1 := Lib.hid (HKh1.out.below zh1 hb)
  replace zh1 : (cutTo w39 w18.heap.size).heap.size ≤ w51.heap.size := Nat.le_trans zh1 hb.size
  replace HBs := Lib.hid (ex_keep HBs.out hb)
  clear hb
  go_wp2
  go_ret
  exact ⟨rfl, ex_keep HB.out HBs.out⟩

set_option maxRecDepth 100000 in
theorem lifted_FnExactMapTerm (os : Os) (started : os.Started) (H : Type) (enc : TypeId × Value → H) :
    ReturnsInHanded {} Try.checked os 6 .any (Rows.fnExactMapTermSpec.pre6 enc Try.prog Try.f6 Rows.fnExactMapTermRow.domain false) (Rows.fnExactMapTermSpec.post enc Try.prog Try.f6 false true false false) := by
  refine returnsInHanded_of_change (C := Try.checked) own started (by kernel_rfl) Try.func6
    (ChangeSpec.witness6 (enc := enc) (C := Try.checked) false ⟨#[], #[.agg #[.int .i64 0, .slice none 0 0], .agg #[.int .i64 0, .slice none 0 0], .agg #[.slice none 0 0, .slice none 0 0], .slice none 0 0, .slice none 0 0], []⟩ 8 (by kernel_rfl) (by kernel_rfl) (by kernel_rfl) (by kernel_rfl)) ?_
  intro W base args ds gs before hval0 hW hcnd _
  have hval : ∀ (j : Nat) t v, Try.f6.params[j]? = some t → args[j]? = some v → Value.okWide Try.prog W .any base t v := hval0
  have hW' := hW
  obtain ⟨p, q, hA0, hV, rfl, hfz, hnd⟩ := hW
  have hA : DataW.TrodAll enc Try.prog W 0 (fun _ => true) true Try.f6.params.toList args.toList ds p := hA0
  rw [Try.params6] at hA hval
  obtain ⟨v0, vs0, d0, ds0, p0, q0, hargs, rfl, rfl, h0, r0⟩ := trodAll_cons hA
  obtain ⟨v1, vs1, d1, ds1, p1, q1, rfl, rfl, rfl, h1, r1⟩ := trodAll_cons r0
  obtain ⟨v2, vs2, d2, ds2, p2, q2, rfl, rfl, rfl, h2, r2⟩ := trodAll_cons r1
  obtain ⟨v3, vs3, d3, ds3, p3, q3, rfl, rfl, rfl, h3, r3⟩ := trodAll_cons r2
  obtain ⟨v4, vs4, d4, ds4, p4, q4, rfl, rfl, rfl, h4, r4⟩ := trodAll_cons r3
  obtain ⟨rfl, rfl, rfl⟩ := trodAll_nil r4
  obtain rfl : args = #[v0, v1, v2, v3, v4] := by cases args; simp_all
  obtain ⟨rfl, rfl⟩ := trodVars_none hV
  have k0 := h0
  have lt0 : ∀ x ∈ p0, x.block < W.heap.size := by obtain ⟨m, hm⟩ := k0; exact DataW.trod_lt m _ _ _ hm
  obtain ⟨s0, w0⟩ : ∃ s, RSig W v0 s := sig_of (hval 0 24 v0 rfl rfl) h0
  have k1 := h1
  have lt1 : ∀ x ∈ p1, x.block < W.heap.size := by obtain ⟨m, hm⟩ := k1; exact DataW.trod_lt m _ _ _ hm
  obtain ⟨s1, w1⟩ : ∃ s, RSig W v1 s := sig_of (hval 1 24 v1 rfl rfl) h1
  have k2 := h2
  have lt2 : ∀ x ∈ p2, x.block < W.heap.size := by obtain ⟨m, hm⟩ := k2; exact DataW.trod_lt m _ _ _ hm
  obtain ⟨s2, w2⟩ : ∃ s, RMap W v2 s := map_of (hval 2 27 v2 rfl rfl) h2
  have k3 := h3
  have lt3 : ∀ x ∈ p3, x.block < W.heap.size := by obtain ⟨m, hm⟩ := k3; exact DataW.trod_lt m _ _ _ hm
  obtain ⟨s3, w3⟩ : ∃ xs, RInts W v3 xs ∧ Small xs := ints_of (hval 3 25 v3 rfl rfl) h3
  have k4 := h4
  have lt4 : ∀ x ∈ p4, x.block < W.heap.size := by obtain ⟨m, hm⟩ := k4; exact DataW.trod_lt m _ _ _ hm
  obtain ⟨s4, w4⟩ : ∃ xs, RInts W v4 xs ∧ Small xs := ints_of (hval 4 25 v4 rfl rfl) h4
  clear hA0 hval0
  refine (walk_FnExactMapTerm _ s0 _ s1 _ s2 _ s3 _ s4 W w0 w1 w2 w3 w4).mono fun e W' ⟨he, bel⟩ => ?_
  subst he
  exact ⟨_, rfl, _, _, _, [], _, [], hW', trodAll_mk1 (shut_bool Try.underlying4 _), (trodAll_cons_mk (Below.trod laidOut (by kernel_rfl) (of_decide_eq_true (by kernel_rfl)) k0 bel lt0) (trodAll_cons_mk (Below.trod laidOut (by kernel_rfl) (of_decide_eq_true (by kernel_rfl)) k1 bel lt1) (trodAll_cons_mk (Below.trod laidOut (by kernel_rfl) (of_decide_eq_true (by kernel_rfl)) k2 bel lt2) (trodAll_cons_mk (Below.trod laidOut (by kernel_rfl) (of_decide_eq_true (by kernel_rfl)) k3 bel lt3) (trodAll_cons_mk (Below.trod laidOut (by kernel_rfl) (of_decide_eq_true (by kernel_rfl)) k4 bel lt4) trodAll_mk0))))), rfl, bel.frame _, fun h => by cases h⟩

theorem over_FnExactMapTerm : Rows.fnExactMapTermRow.holds Try.pinned (OpenSpec.ofChange Rows.fnExactMapTermSpec) :=
  OpenClaim.holds_of_wide 6 Try.f6 rfl rfl rfl rfl rfl rfl rfl ⟨rfl, rfl, rfl, rfl, rfl⟩ rfl rfl rfl rfl rfl (by kernel_rfl) Try.func6 (by kernel_rfl)
    (of_decide_eq_true (by kernel_rfl)) (by unfold Func.isWrapper; first | (rw [if_pos (by decide +kernel)]; kernel_rfl) | (rw [if_neg (by decide +kernel)]; exact ⟨rfl, rfl⟩))
    (fun os started H enc _ => lifted_FnExactMapTerm os started H enc)

theorem proved_FnExactMapTerm : Rows.FnExactMapTermSaid := over_FnExactMapTerm
end Go.Proofs.Ytonainidjkcoeaa
