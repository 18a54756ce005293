/- FnExactViewOk answers true at every two theories and every view. No condition. -/
import Derived.Test.YtbopcghbmbchkaaK21223cbc
namespace Go.Proofs.Ytbopcghbmbchkaa
open Go.ChangeShapes Go.WideShapes Go.ChangeAt Go.RowKit
set_option linter.unusedVariables false
set_option linter.unusedSimpArgs false

set_option maxHeartbeats 3200000 in
set_option maxRecDepth 100000 in
theorem walk_FnExactViewOk (v0 : Value) (s0 : MThy) (v1 : Value) (s1 : MThy) (v2 : Value) (s2 : MView) (w : World) (h0 : RThy w v0 s0 ∧ SmallT s0) (h1 : RThy w v1 s1 ∧ SmallT s1) (h2 : RView w v2 s2 ∧ SmallV s2) :
    Calls Try.prog 3 #[v0, v1, v2] w fun e w' => e = .returned (.bool true) ∧ Below w.heap.size w w' := by
  have HB : Hid (Below w.heap.size w w) := Below.refl _ _
  have HS0 := Lib.hid h0.2
  replace h0 := h0.1
  obtain ⟨A0a, c0a, A0b, c0b, rfl⟩ := h0.form
  have HW0 := Lib.hid h0
  have hb := below_alloc (w) (.cells #[.int .i64 s0.over.sorts, .slice A0a s0.over.ops.length c0a, .slice A0b s0.eqs.length c0b] 27)
  have fa0 := (bx3 (w) (.int .i64 s0.over.sorts) (.slice A0a s0.over.ops.length c0a) (.slice A0b s0.eqs.length c0b) 27).1
  have fb0 := (bx3 (w) (.int .i64 s0.over.sorts) (.slice A0a s0.over.ops.length c0a) (.slice A0b s0.eqs.length c0b) 27).2.1
  have fc0 := (bx3 (w) (.int .i64 s0.over.sorts) (.slice A0a s0.over.ops.length c0a) (.slice A0b s0.eqs.length c0b) 27).2.2
  replace HB := Lib.hid (ex_keep HB.out hb)
  clear hb h0
  have HS1 := Lib.hid h1.2
  replace h1 := h1.1
  obtain ⟨A1a, c1a, A1b, c1b, rfl⟩ := h1.form
  have HW1 := Lib.hid h1
  have hb := below_alloc (w.alloc (.cells #[.int .i64 s0.over.sorts, .slice A0a s0.over.ops.length c0a, .slice A0b s0.eqs.length c0b] 27)) (.cells #[.int .i64 s1.over.sorts, .slice A1a s1.over.ops.length c1a, .slice A1b s1.eqs.length c1b] 27)
  replace fa0 := cell_keep hb fa0
  replace fb0 := cell_keep hb fb0
  replace fc0 := cell_keep hb fc0
  have fa1 := (bx3 (w.alloc (.cells #[.int .i64 s0.over.sorts, .slice A0a s0.over.ops.length c0a, .slice A0b s0.eqs.length c0b] 27)) (.int .i64 s1.over.sorts) (.slice A1a s1.over.ops.length c1a) (.slice A1b s1.eqs.length c1b) 27).1
  have fb1 := (bx3 (w.alloc (.cells #[.int .i64 s0.over.sorts, .slice A0a s0.over.ops.length c0a, .slice A0b s0.eqs.length c0b] 27)) (.int .i64 s1.over.sorts) (.slice A1a s1.over.ops.length c1a) (.slice A1b s1.eqs.length c1b) 27).2.1
  have fc1 := (bx3 (w.alloc (.cells #[.int .i64 s0.over.sorts, .slice A0a s0.over.ops.length c0a, .slice A0b s0.eqs.length c0b] 27)) (.int .i64 s1.over.sorts) (.slice A1a s1.over.ops.length c1a) (.slice A1b s1.eqs.length c1b) 27).2.2
  simp only [World.size_alloc] at fa1 fb1 fc1
  replace HB := Lib.hid (ex_keep HB.out hb)
  clear hb h1
  have HS2 := Lib.hid h2.2
  replace h2 := h2.1
  obtain ⟨A2a, c2a, A2b, c2b, A2c, c2c, rfl⟩ := h2.form
  have HW2 := Lib.hid h2
  have hb := below_alloc ((w.alloc (.cells #[.int .i64 s0.over.sorts, .slice A0a s0.over.ops.length c0a, .slice A0b s0.eqs.length c0b] 27)).alloc (.cells #[.int .i64 s1.over.sorts, .slice A1a s1.over.ops.length c1a, .slice A1b s1.eqs.length c1b] 27)) (.cells #[.slice A2a s2.along.sorts.length c2a, .slice A2b s2.along.ops.length c2b, .slice A2c s2.proofs.length c2c] 33)
  replace fa0 := cell_keep hb fa0
  replace fb0 := cell_keep hb fb0
  replace fc0 := cell_keep hb fc0
  replace fa1 := cell_keep hb fa1
  replace fb1 := cell_keep hb fb1
  replace fc1 := cell_keep hb fc1
  have fa2 := (bx3 ((w.alloc (.cells #[.int .i64 s0.over.sorts, .slice A0a s0.over.ops.length c0a, .slice A0b s0.eqs.length c0b] 27)).alloc (.cells #[.int .i64 s1.over.sorts, .slice A1a s1.over.ops.length c1a, .slice A1b s1.eqs.length c1b] 27)) (.slice A2a s2.along.sorts.length c2a) (.slice A2b s2.along.ops.length c2b) (.slice A2c s2.proofs.length c2c) 33).1
  have fb2 := (bx3 ((w.alloc (.cells #[.int .i64 s0.over.sorts, .slice A0a s0.over.ops.length c0a, .slice A0b s0.eqs.length c0b] 27)).alloc (.cells #[.int .i64 s1.over.sorts, .slice A1a s1.over.ops.length c1a, .slice A1b s1.eqs.length c1b] 27)) (.slice A2a s2.along.sorts.length c2a) (.slice A2b s2.along.ops.length c2b) (.slice A2c s2.proofs.length c2c) 33).2.1
  have fc2 := (bx3 ((w.alloc (.cells #[.int .i64 s0.over.sorts, .slice A0a s0.over.ops.length c0a, .slice A0b s0.eqs.length c0b] 27)).alloc (.cells #[.int .i64 s1.over.sorts, .slice A1a s1.over.ops.length c1a, .slice A1b s1.eqs.length c1b] 27)) (.slice A2a s2.along.sorts.length c2a) (.slice A2b s2.along.ops.length c2b) (.slice A2c s2.proofs.length c2c) 33).2.2
  simp only [World.size_alloc] at fa2 fb2 fc2
  replace HB := Lib.hid (ex_keep HB.out hb)
  clear hb h2
  go_enter Try.func3, Try.ntmps3
  go_wp2_with fail
  refine (szTheory_any _ s0 _ _ (HW0.out.keep HB.out) (by omega) (by omega)).mono ?_
  rintro e w1 ⟨r1, rfl, hr, hb⟩
  replace fa0 := cell_keep hb fa0
  replace fb0 := cell_keep hb fb0
  replace fc0 := cell_keep hb fc0
  replace fa1 := cell_keep hb fa1
  replace fb1 := cell_keep hb fb1
  replace fc1 := cell_keep hb fc1
  replace fa2 := cell_keep hb fa2
  replace fb2 := cell_keep hb fb2
  replace fc2 := cell_keep hb fc2
  replace HB := Lib.hid (ex_keep HB.out hb)
  clear hb
  by_cases hneg1 : r1 < 0
  · clear hr
    go_wp2
    go_ret
    exact ⟨rfl, HB.out⟩
  obtain ⟨hp1, hq1, hfit⟩ := hr.resolve_left hneg1
  have HF0 := Lib.hid hfit
  clear hr hfit
  go_wp2_with fail
  refine (szTheory_any _ s1 _ _ (HW1.out.keep HB.out) (by omega) (by omega)).mono ?_
  rintro e w2 ⟨r2, rfl, hr, hb⟩
  replace fa0 := cell_keep hb fa0
  replace fb0 := cell_keep hb fb0
  replace fc0 := cell_keep hb fc0
  replace fa1 := cell_keep hb fa1
  replace fb1 := cell_keep hb fb1
  replace fc1 := cell_keep hb fc1
  replace fa2 := cell_keep hb fa2
  replace fb2 := cell_keep hb fb2
  replace fc2 := cell_keep hb fc2
  replace HB := Lib.hid (ex_keep HB.out hb)
  clear hb
  by_cases hneg2 : r2 < 0
  · clear hr
    go_wp2
    go_ret
    exact ⟨rfl, HB.out⟩
  obtain ⟨hp2, hq2, hfit⟩ := hr.resolve_left hneg2
  have HF1 := Lib.hid hfit
  clear hr hfit
  go_wp2_with fail
  refine (szView_any _ s2 _ _ (HW2.out.keep HB.out) (by omega) (by omega)).mono ?_
  rintro e w3 ⟨r3, rfl, hr, hb⟩
  replace fa0 := cell_keep hb fa0
  replace fb0 := cell_keep hb fb0
  replace fc0 := cell_keep hb fc0
  replace fa1 := cell_keep hb fa1
  replace fb1 := cell_keep hb fb1
  replace fc1 := cell_keep hb fc1
  replace fa2 := cell_keep hb fa2
  replace fb2 := cell_keep hb fb2
  replace fc2 := cell_keep hb fc2
  replace HB := Lib.hid (ex_keep HB.out hb)
  clear hb
  by_cases hneg3 : r3 < 0
  · clear hr
    go_wp2
    go_ret
    exact ⟨rfl, HB.out⟩
  obtain ⟨hp3, hq3, hfit⟩ := hr.resolve_left hneg3
  have HF2 := Lib.hid hfit
  clear hr hfit
  obtain ⟨R, hR⟩ : ∃ R, R = viewB s0 s1 s2 := ⟨_, rfl⟩
  have HR := Lib.hid hR.symm
  clear hR
  go_wp2_with fail
  refine wp_region_held_drew (S := (fun w' => w'.cell? ⟨w.heap.size, 0, none⟩ = some (.int .i64 s0.over.sorts) ∧ w'.cell? ⟨w.heap.size, 1, none⟩ = some (.slice A0a s0.over.ops.length c0a) ∧ w'.cell? ⟨w.heap.size, 2, none⟩ = some (.slice A0b s0.eqs.length c0b) ∧ w'.cell? ⟨w.heap.size + 1, 0, none⟩ = some (.int .i64 s1.over.sorts) ∧ w'.cell? ⟨w.heap.size + 1, 1, none⟩ = some (.slice A1a s1.over.ops.length c1a) ∧ w'.cell? ⟨w.heap.size + 1, 2, none⟩ = some (.slice A1b s1.eqs.length c1b) ∧ w'.cell? ⟨w.heap.size + 1 + 1, 0, none⟩ = some (.slice A2a s2.along.sorts.length c2a) ∧ w'.cell? ⟨w.heap.size + 1 + 1, 1, none⟩ = some (.slice A2b s2.along.ops.length c2b) ∧ w'.cell? ⟨w.heap.size + 1 + 1, 2, none⟩ = some (.slice A2c s2.proofs.length c2c))) (by kernel_rfl) ?_ (fun hHeld => ?_)
  · exact ⟨fa0, fb0, fc0, fa1, fb1, fc1, fa2, fb2, fc2⟩
  refine wpAnyH_take (i := 0) (oi := _) (v := ?_) rfl (by kernel_rfl) (by kernel_rfl) (by kernel_rfl) (fun _ _ _ h => h) (Or.inl ⟨by rfl, ?_⟩) (by assumption) ?_
  rotate_left
  · first | (intro w' hSw; (try dsimp only at hSw); go_simp; done) | (intro w' hSw; (try dsimp only at hSw); go_simp; with_reducible rfl)
  try simp only [Act.put, List.getElem_toArray, List.getElem_cons_zero, List.getElem_cons_succ, List.setIfInBounds_toArray, List.set_cons_zero, List.set_cons_succ]
  refine wpAnyH_take (i := 2) (oi := _) (v := ?_) rfl (by kernel_rfl) (by kernel_rfl) (by kernel_rfl) (fun _ _ _ h => h) (Or.inl ⟨by rfl, ?_⟩) (by assumption) ?_
  rotate_left
  · first | (intro w' hSw; (try dsimp only at hSw); go_simp; done) | (intro w' hSw; (try dsimp only at hSw); go_simp; with_reducible rfl)
  try simp only [Act.put, List.getElem_toArray, List.getElem_cons_zero, List.getElem_cons_succ, List.setIfInBounds_toArray, List.set_cons_zero, List.set_cons_succ]
  refine wpAnyH_take (i := 4) (oi := _) (v := ?_) rfl (by kernel_rfl) (by kernel_rfl) (by kernel_rfl) (fun _ _ _ h => h) (Or.inl ⟨by rfl, ?_⟩) (by assumption) ?_
  rotate_left
  · first | (intro w' hSw; (try dsimp only at hSw); go_simp; done) | (intro w' hSw; (try dsimp only at hSw); go_simp; with_reducible rfl)
  try simp only [Act.put, List.getElem_toArray, List.getElem_cons_zero, List.getElem_cons_succ, List.setIfInBounds_toArray, List.set_cons_zero, List.set_cons_succ]
  refine wpAnyH_ready (rs := [1]) (by kernel_rfl) (by simp) ?_
  refine AllReadyH.cons (o := _) rfl (fun K hK => ?_) AllReadyH.nil
  go_simp
  refine (toTheory_any _ s0 _ (HW0.out.keep (ex_drew HB.out)) HF0.out).mono ?_
  rintro e w4 ⟨y0, rfl, ho, hb⟩
  replace hb := ex_undrew hb
  replace fa0 := cell_keep hb fa0
  replace fb0 := cell_keep hb fb0
  replace fc0 := cell_keep hb fc0
  replace fa1 := cell_keep hb fa1
  replace fb1 := cell_keep hb fb1
  replace fc1 := cell_keep hb fc1
  replace fa2 := cell_keep hb fa2
  replace fb2 := cell_keep hb fb2
  replace fc2 := cell_keep hb fc2
  replace HB := Lib.hid (ex_keep HB.out hb)
  clear hb
  have P0 := Lib.hid ho.reads
  obtain ⟨AY0a, cY0a, AY0b, cY0b, rfl⟩ := ho.reads.form
  clear ho
  go_wp2_with fail
  refine hK.out _ _ ?_ (fun hHeld => ?_)
  · exact ⟨fa0, fb0, fc0, fa1, fb1, fc1, fa2, fb2, fc2⟩
  clear hK K
  try simp only [Act.put, List.getElem_toArray, List.getElem_cons_zero, List.getElem_cons_succ, List.setIfInBounds_toArray, List.set_cons_zero, List.set_cons_succ]
  refine wpAnyH_ready (rs := [3]) (by kernel_rfl) (by simp) ?_
  refine AllReadyH.cons (o := _) rfl (fun K hK => ?_) AllReadyH.nil
  go_simp
  refine (toTheory_any _ s1 _ (HW1.out.keep HB.out) HF1.out).mono ?_
  rintro e w5 ⟨y1, rfl, ho, hb⟩
  replace fa0 := cell_keep hb fa0
  replace fb0 := cell_keep hb fb0
  replace fc0 := cell_keep hb fc0
  replace fa1 := cell_keep hb fa1
  replace fb1 := cell_keep hb fb1
  replace fc1 := cell_keep hb fc1
  replace fa2 := cell_keep hb fa2
  replace fb2 := cell_keep hb fb2
  replace fc2 := cell_keep hb fc2
  replace P0 := Lib.hid (P0.out.keep hb)
  replace HB := Lib.hid (ex_keep HB.out hb)
  clear hb
  have P1 := Lib.hid ho.reads
  obtain ⟨AY1a, cY1a, AY1b, cY1b, rfl⟩ := ho.reads.form
  clear ho
  go_wp2_with fail
  refine hK.out _ _ ?_ (fun hHeld => ?_)
  · exact ⟨fa0, fb0, fc0, fa1, fb1, fc1, fa2, fb2, fc2⟩
  clear hK K
  try simp only [Act.put, List.getElem_toArray, List.getElem_cons_zero, List.getElem_cons_succ, List.setIfInBounds_toArray, List.set_cons_zero, List.set_cons_succ]
  refine wpAnyH_ready (rs := [5]) (by kernel_rfl) (by simp) ?_
  refine AllReadyH.cons (o := _) rfl (fun K hK => ?_) AllReadyH.nil
  go_simp
  refine (toView_any _ s2 _ (HW2.out.keep HB.out) HF2.out).mono ?_
  rintro e w6 ⟨y2, rfl, ho, hb⟩
  replace fa0 := cell_keep hb fa0
  replace fb0 := cell_keep hb fb0
  replace fc0 := cell_keep hb fc0
  replace fa1 := cell_keep hb fa1
  replace fb1 := cell_keep hb fb1
  replace fc1 := cell_keep hb fc1
  replace fa2 := cell_keep hb fa2
  replace fb2 := cell_keep hb fb2
  replace fc2 := cell_keep hb fc2
  replace P0 := Lib.hid (P0.out.keep hb)
  replace P1 := Lib.hid (P1.out.keep hb)
  replace HB := Lib.hid (ex_keep HB.out hb)
  clear hb
  have P2 := Lib.hid ho.reads
  obtain ⟨AY2a, cY2a, AY2b, cY2b, AY2c, cY2c, rfl⟩ := ho.reads.form
  clear ho
  go_wp2_with fail
  refine hK.out _ _ ?_ (fun hHeld => ?_)
  · exact ⟨fa0, fb0, fc0, fa1, fb1, fc1, fa2, fb2, fc2⟩
  clear hK K
  try simp only [Act.put, List.getElem_toArray, List.getElem_cons_zero, List.getElem_cons_succ, List.setIfInBounds_toArray, List.set_cons_zero, List.set_cons_succ]
  refine wpAnyH_ready (rs := [6]) (by kernel_rfl) (by simp) ?_
  refine AllReadyH.cons (o := _) rfl (fun K hK => ?_) AllReadyH.nil
  go_simp
  refine (specViewOk_any s0 s1 s2 _ _ _ _ HS2.out P0.out P1.out P2.out).mono ?_
  rw [HR.out]
  rintro e w7 ⟨rfl, hb⟩
  replace fa0 := cell_keep hb fa0
  replace fb0 := cell_keep hb fb0
  replace fc0 := cell_keep hb fc0
  replace fa1 := cell_keep hb fa1
  replace fb1 := cell_keep hb fb1
  replace fc1 := cell_keep hb fc1
  replace fa2 := cell_keep hb fa2
  replace fb2 := cell_keep hb fb2
  replace fc2 := cell_keep hb fc2
  replace HB := Lib.hid (ex_keep HB.out hb)
  clear hb
  go_wp2_with fail
  refine hK.out _ _ ?_ (fun hHeld => ?_)
  · exact ⟨fa0, fb0, fc0, fa1, fb1, fc1, fa2, fb2, fc2⟩
  clear hK K
  try simp only [Act.put, List.getElem_toArray, List.getElem_cons_zero, List.getElem_cons_succ, List.setIfInBounds_toArray, List.set_cons_zero, List.set_cons_succ]
  refine wpAnyH_take (i := 7) (oi := _) (v := ?_) rfl (by kernel_rfl) (by kernel_rfl) (by kernel_rfl) (fun _ _ _ h => h) (Or.inl ⟨by rfl, ?_⟩) (by assumption) ?_
  rotate_left
  · first | (intro w' hSw; (try dsimp only at hSw); go_simp; done) | (intro w' hSw; (try dsimp only at hSw); go_simp; with_reducible rfl)
  try simp only [Act.put, List.getElem_toArray, List.getElem_cons_zero, List.getElem_cons_succ, List.setIfInBounds_toArray, List.set_cons_zero, List.set_cons_succ]
  refine wpAnyH_done (by kernel_rfl) ?_ _
  clear P0 P1 P2
  have HC := Lib.hid (And.intro fa0 (And.intro fb0 (And.intro fc0 (And.intro fa1 (And.intro fb1 (And.intro fc1 (And.intro fa2 (And.intro fb2 (fc2)))))))))
  have HBs : Hid (Below w7.heap.size w7 w7) := Below.refl _ _
  clear fa0 fb0 fc0 fa1 fb1 fc1 fa2 fb2 fc2
  have fa0 := cell_keep HBs.out HC.out.1
  have fb0 := cell_keep HBs.out HC.out.2.1
  have fc0 := cell_keep HBs.out HC.out.2.2.1
  have fa1 := cell_keep HBs.out HC.out.2.2.2.1
  have fb1 := cell_keep HBs.out HC.out.2.2.2.2.1
  have fc1 := cell_keep HBs.out HC.out.2.2.2.2.2.1
  have fa2 := cell_keep HBs.out HC.out.2.2.2.2.2.2.1
  have fb2 := cell_keep HBs.out HC.out.2.2.2.2.2.2.2.1
  have fc2 := cell_keep HBs.out HC.out.2.2.2.2.2.2.2.2
  go_wp2_with fail
  refine (toTheory_any _ s0 _ (HW0.out.keep (ex_keep HB.out HBs.out)) HF0.out).mono ?_
  rintro e w8 ⟨y0, rfl, ho, hb⟩
  obtain ⟨AX0a, cX0a, AX0b, cX0b, rfl⟩ := ho.reads.form
  have hb2 := below_alloc w8 (.cells #[.int .i64 s0.over.sorts, .slice AX0a s0.over.ops.length cX0a, .slice AX0b s0.eqs.length cX0b] 40)
  have HX0 := Lib.hid (show OThy (w8.alloc (.cells #[.int .i64 s0.over.sorts, .slice AX0a s0.over.ops.length cX0a, .slice AX0b s0.eqs.length cX0b] 40)) w7.heap.size (.agg #[.int .i64 s0.over.sorts, .slice AX0a s0.over.ops.length cX0a, .slice AX0b s0.eqs.length cX0b]) s0 from ho.keep hb2)
  have HCX0 := Lib.hid (bx3 w8 (.int .i64 s0.over.sorts) (.slice AX0a s0.over.ops.length cX0a) (.slice AX0b s0.eqs.length cX0b) 40)
  have hy0 := hb.size
  replace hb := hb.trans (hb2.mono hb.size)
  have hs0 := hb.size
  generalize hWw9 : w8.alloc (.cells #[.int .i64 s0.over.sorts, .slice AX0a s0.over.ops.length cX0a, .slice AX0b s0.eqs.length cX0b] 40) = w9 at HX0 HCX0 hb hs0
  clear hb2 ho
  replace HBs := Lib.hid (ex_keep HBs.out hb)
  clear hb
  have HK0 : Hid (Keeps w7.heap.size w9 w9) := Keeps.refl _ _
  have z0 : w9.heap.size ≤ w9.heap.size := Nat.le_refl _
  clear fa0 fb0 fc0 fa1 fb1 fc1 fa2 fb2 fc2
  have fa0 := cell_keep HBs.out HC.out.1
  have fb0 := cell_keep HBs.out HC.out.2.1
  have fc0 := cell_keep HBs.out HC.out.2.2.1
  have fa1 := cell_keep HBs.out HC.out.2.2.2.1
  have fb1 := cell_keep HBs.out HC.out.2.2.2.2.1
  have fc1 := cell_keep HBs.out HC.out.2.2.2.2.2.1
  have fa2 := cell_keep HBs.out HC.out.2.2.2.2.2.2.1
  have fb2 := cell_keep HBs.out HC.out.2.2.2.2.2.2.2.1
  have fc2 := cell_keep HBs.out HC.out.2.2.2.2.2.2.2.2
  go_wp2_with fail
  clear hWw9
  refine (toTheory_any _ s1 _ (HW1.out.keep (ex_keep HB.out HBs.out)) HF1.out).mono ?_
  rintro e w10 ⟨y1, rfl, ho, hb⟩
  obtain ⟨AX1a, cX1a, AX1b, cX1b, rfl⟩ := ho.reads.form
  have hb2 := below_alloc w10 (.cells #[.int .i64 s1.over.sorts, .slice AX1a s1.over.ops.length cX1a, .slice AX1b s1.eqs.length cX1b] 40)
  have HX1 := Lib.hid (show OThy (w10.alloc (.cells #[.int .i64 s1.over.sorts, .slice AX1a s1.over.ops.length cX1a, .slice AX1b s1.eqs.length cX1b] 40)) w9.heap.size (.agg #[.int .i64 s1.over.sorts, .slice AX1a s1.over.ops.length cX1a, .slice AX1b s1.eqs.length cX1b]) s1 from ho.keep hb2)
  have HCX1 := Lib.hid (bx3 w10 (.int .i64 s1.over.sorts) (.slice AX1a s1.over.ops.length cX1a) (.slice AX1b s1.eqs.length cX1b) 40)
  have hy1 := hb.size
  replace hb := hb.trans (hb2.mono hb.size)
  have hs1 := hb.size
  generalize hWw11 : w10.alloc (.cells #[.int .i64 s1.over.sorts, .slice AX1a s1.over.ops.length cX1a, .slice AX1b s1.eqs.length cX1b] 40) = w11 at HX1 HCX1 hb hs1
  clear hb2 ho
  replace HK0 := Lib.hid (HK0.out.below z0 hb)
  replace z0 : w9.heap.size ≤ w11.heap.size := Nat.le_trans z0 hb.size
  replace HBs := Lib.hid (ex_keep HBs.out hb)
  clear hb
  have HK1 : Hid (Keeps w9.heap.size w11 w11) := Keeps.refl _ _
  have z1 : w11.heap.size ≤ w11.heap.size := Nat.le_refl _
  clear fa0 fb0 fc0 fa1 fb1 fc1 fa2 fb2 fc2
  have fa0 := cell_keep HBs.out HC.out.1
  have fb0 := cell_keep HBs.out HC.out.2.1
  have fc0 := cell_keep HBs.out HC.out.2.2.1
  have fa1 := cell_keep HBs.out HC.out.2.2.2.1
  have fb1 := cell_keep HBs.out HC.out.2.2.2.2.1
  have fc1 := cell_keep HBs.out HC.out.2.2.2.2.2.1
  have fa2 := cell_keep HBs.out HC.out.2.2.2.2.2.2.1
  have fb2 := cell_keep HBs.out HC.out.2.2.2.2.2.2.2.1
  have fc2 := cell_keep HBs.out HC.out.2.2.2.2.2.2.2.2
  go_wp2_with fail
  clear hWw11
  refine (toView_any _ s2 _ (HW2.out.keep (ex_keep HB.out HBs.out)) HF2.out).mono ?_
  rintro e w12 ⟨y2, rfl, ho, hb⟩
  obtain ⟨AX2a, cX2a, AX2b, cX2b, AX2c, cX2c, rfl⟩ := ho.reads.form
  have hb2 := below_alloc w12 (.cells #[.slice AX2a s2.along.sorts.length cX2a, .slice AX2b s2.along.ops.length cX2b, .slice AX2c s2.proofs.length cX2c] 45)
  have HX2 := Lib.hid (show OView (w12.alloc (.cells #[.slice AX2a s2.along.sorts.length cX2a, .slice AX2b s2.along.ops.length cX2b, .slice AX2c s2.proofs.length cX2c] 45)) w11.heap.size (.agg #[.slice AX2a s2.along.sorts.length cX2a, .slice AX2b s2.along.ops.length cX2b, .slice AX2c s2.proofs.length cX2c]) s2 from ho.keep hb2)
  have HCX2 := Lib.hid (bx3 w12 (.slice AX2a s2.along.sorts.length cX2a) (.slice AX2b s2.along.ops.length cX2b) (.slice AX2c s2.proofs.length cX2c) 45)
  have hy2 := hb.size
  replace hb := hb.trans (hb2.mono hb.size)
  have hs2 := hb.size
  generalize hWw13 : w12.alloc (.cells #[.slice AX2a s2.along.sorts.length cX2a, .slice AX2b s2.along.ops.length cX2b, .slice AX2c s2.proofs.length cX2c] 45) = w13 at HX2 HCX2 hb hs2
  clear hb2 ho
  replace HK0 := Lib.hid (HK0.out.below z0 hb)
  replace z0 : w9.heap.size ≤ w13.heap.size := Nat.le_trans z0 hb.size
  replace HK1 := Lib.hid (HK1.out.below z1 hb)
  replace z1 : w11.heap.size ≤ w13.heap.size := Nat.le_trans z1 hb.size
  replace HBs := Lib.hid (ex_keep HBs.out hb)
  clear hb
  have HK2 : Hid (Keeps w11.heap.size w13 w13) := Keeps.refl _ _
  have z2 : w13.heap.size ≤ w13.heap.size := Nat.le_refl _
  clear fa0 fb0 fc0 fa1 fb1 fc1 fa2 fb2 fc2
  have l0a := HK0.out.cell (by omega) HCX0.out.1
  have l0b := HK0.out.cell (by omega) HCX0.out.2.1
  have l0c := HK0.out.cell (by omega) HCX0.out.2.2
  have l1a := HK1.out.cell (by omega) HCX1.out.1
  have l1b := HK1.out.cell (by omega) HCX1.out.2.1
  have l1c := HK1.out.cell (by omega) HCX1.out.2.2
  have l2a := HK2.out.cell (by omega) HCX2.out.1
  have l2b := HK2.out.cell (by omega) HCX2.out.2.1
  have l2c := HK2.out.cell (by omega) HCX2.out.2.2
  go_wp2_with fail
  clear hWw13
  refine (viewOk_any s0 s1 s2 _ _ _ _ HS0.out HS1.out HS2.out (HX0.out.same z0 HK0.out).reads (HX1.out.same z1 HK1.out).reads (HX2.out.same z2 HK2.out).reads).mono ?_
  rw [HR.out]
  rintro e w14 ⟨rfl, hb⟩
  clear l0a l0b l0c l1a l1b l1c l2a l2b l2c
  replace HK0 := Lib.hid (HK0.out.below z0 hb)
  replace z0 : w9.heap.size ≤ w14.heap.size := Nat.le_trans z0 hb.size
  replace HK1 := Lib.hid (HK1.out.below z1 hb)
  replace z1 : w11.heap.size ≤ w14.heap.size := Nat.le_trans z1 hb.size
  replace HK2 := Lib.hid (HK2.out.below z2 hb)
  replace z2 : w13.heap.size ≤ w14.heap.size := Nat.le_trans z2 hb.size
  replace HBs := Lib.hid (ex_keep HBs.out hb)
  clear hb
  have e1 : (R != R) = false := by simp
  have fa0 := cell_keep HBs.out HC.out.1
  have fb0 := cell_keep HBs.out HC.out.2.1
  have fc0 := cell_keep HBs.out HC.out.2.2.1
  have fa1 := cell_keep HBs.out HC.out.2.2.2.1
  have fb1 := cell_keep HBs.out HC.out.2.2.2.2.1
  have fc1 := cell_keep HBs.out HC.out.2.2.2.2.2.1
  have fa2 := cell_keep HBs.out HC.out.2.2.2.2.2.2.1
  have fb2 := cell_keep HBs.out HC.out.2.2.2.2.2.2.2.1
  have fc2 := cell_keep HBs.out HC.out.2.2.2.2.2.2.2.2
  have l0a := HK0.out.cell (by omega) HCX0.out.1
  have l0b := HK0.out.cell (by omega) HCX0.out.2.1
  have l0c := HK0.out.cell (by omega) HCX0.out.2.2
  have l1a := HK1.out.cell (by omega) HCX1.out.1
  have l1b := HK1.out.cell (by omega) HCX1.out.2.1
  have l1c := HK1.out.cell (by omega) HCX1.out.2.2
  have l2a := HK2.out.cell (by omega) HCX2.out.1
  have l2b := HK2.out.cell (by omega) HCX2.out.2.1
  have l2c := HK2.out.cell (by omega) HCX2.out.2.2
  have HSW0 := Lib.hid (HW0.out.keep (ex_keep HB.out HBs.out))
  have HXR0 := Lib.hid (HX0.out.same z0 HK0.out).reads
  go_wp2_with fail
  have ea := World.new_ne w14 _ fa0
  have eb := World.new_ne w14 _ l0a
  go_region_held3 (fun w' => w'.cell? ⟨w.heap.size, 0, none⟩ = some (.int .i64 s0.over.sorts) ∧ w'.cell? ⟨w.heap.size, 1, none⟩ = some (.slice A0a s0.over.ops.length c0a) ∧ w'.cell? ⟨w.heap.size, 2, none⟩ = some (.slice A0b s0.eqs.length c0b) ∧ w'.cell? ⟨w8.heap.size, 0, none⟩ = some (.int .i64 s0.over.sorts) ∧ w'.cell? ⟨w8.heap.size, 1, none⟩ = some (.slice AX0a s0.over.ops.length cX0a) ∧ w'.cell? ⟨w8.heap.size, 2, none⟩ = some (.slice AX0b s0.eqs.length cX0b))
    (first | go_keep)
    (first
      | (go_at_call 10; refine (toTheory_any _ s0 w14.drew HSW0.out HF0.out).mono ?_; rintro e w15 ⟨yj, rfl, hoj, hbj⟩; have HOj := Lib.hid hoj; have HBj := Lib.hid (show Below w14.heap.size w14 w15 from below_undrew hbj); have o0 := cell_keep HBj.out fa0; have o1 := cell_keep HBj.out fb0; have o2 := cell_keep HBj.out fc0; have o3 := cell_keep HBj.out l0a; have o4 := cell_keep HBj.out l0b; have o5 := cell_keep HBj.out l0c; clear hoj hbj)
      | (go_at_call 13; refine (eqTheory_is _ _ s0 s0 _ true (sameT_self _) (HXR0.out.keep HBj.out) HOj.out.reads).mono ?_; rintro e w16 ⟨rfl, hbk⟩; have HBk := Lib.hid (ex_keep HBj.out hbk); have q0 := cell_keep hbk o0; have q1 := cell_keep hbk o1; have q2 := cell_keep hbk o2; have q3 := cell_keep hbk o3; have q4 := cell_keep hbk o4; have q5 := cell_keep hbk o5; clear hbk))
  have hb := HBk.out
  clear fa0 fb0 fc0 fa1 fb1 fc1 fa2 fb2 fc2 l0a l0b l0c l1a l1b l1c l2a l2b l2c o0 q0 o1 q1 o2 q2 o3 q3 o4 q4 o5 q5 ea eb HBj HBk HOj HSW0 HXR0
  replace HK0 := Lib.hid (HK0.out.below z0 hb)
  replace z0 : w9.heap.size ≤ w16.heap.size := Nat.le_trans z0 hb.size
  replace HK1 := Lib.hid (HK1.out.below z1 hb)
  replace z1 : w11.heap.size ≤ w16.heap.size := Nat.le_trans z1 hb.size
  replace HK2 := Lib.hid (HK2.out.below z2 hb)
  replace z2 : w13.heap.size ≤ w16.heap.size := Nat.le_trans z2 hb.size
  replace HBs := Lib.hid (ex_keep HBs.out hb)
  clear hb
  have fa0 := cell_keep HBs.out HC.out.1
  have fb0 := cell_keep HBs.out HC.out.2.1
  have fc0 := cell_keep HBs.out HC.out.2.2.1
  have fa1 := cell_keep HBs.out HC.out.2.2.2.1
  have fb1 := cell_keep HBs.out HC.out.2.2.2.2.1
  have fc1 := cell_keep HBs.out HC.out.2.2.2.2.2.1
  have fa2 := cell_keep HBs.out HC.out.2.2.2.2.2.2.1
  have fb2 := cell_keep HBs.out HC.out.2.2.2.2.2.2.2.1
  have fc2 := cell_keep HBs.out HC.out.2.2.2.2.2.2.2.2
  have l0a := HK0.out.cell (by omega) HCX0.out.1
  have l0b := HK0.out.cell (by omega) HCX0.out.2.1
  have l0c := HK0.out.cell (by omega) HCX0.out.2.2
  have l1a := HK1.out.cell (by omega) HCX1.out.1
  have l1b := HK1.out.cell (by omega) HCX1.out.2.1
  have l1c := HK1.out.cell (by omega) HCX1.out.2.2
  have l2a := HK2.out.cell (by omega) HCX2.out.1
  have l2b := HK2.out.cell (by omega) HCX2.out.2.1
  have l2c := HK2.out.cell (by omega) HCX2.out.2.2
  have HSW1 := Lib.hid (HW1.out.keep (ex_keep HB.out HBs.out))
  have HXR1 := Lib.hid (HX1.out.same z1 HK1.out).reads
  go_wp2_with fail
  have ea := World.new_ne w16 _ fa1
  have eb := World.new_ne w16 _ l1a
  go_region_held3 (fun w' => w'.cell? ⟨w.heap.size + 1, 0, none⟩ = some (.int .i64 s1.over.sorts) ∧ w'.cell? ⟨w.heap.size + 1, 1, none⟩ = some (.slice A1a s1.over.ops.length c1a) ∧ w'.cell? ⟨w.heap.size + 1, 2, none⟩ = some (.slice A1b s1.eqs.length c1b) ∧ w'.cell? ⟨w10.heap.size, 0, none⟩ = some (.int .i64 s1.over.sorts) ∧ w'.cell? ⟨w10.heap.size, 1, none⟩ = some (.slice AX1a s1.over.ops.length cX1a) ∧ w'.cell? ⟨w10.heap.size, 2, none⟩ = some (.slice AX1b s1.eqs.length cX1b))
    (first | go_keep)
    (first
      | (go_at_call 10; refine (toTheory_any _ s1 w16.drew HSW1.out HF1.out).mono ?_; rintro e w17 ⟨yj, rfl, hoj, hbj⟩; have HOj := Lib.hid hoj; have HBj := Lib.hid (show Below w16.heap.size w16 w17 from below_undrew hbj); have o0 := cell_keep HBj.out fa1; have o1 := cell_keep HBj.out fb1; have o2 := cell_keep HBj.out fc1; have o3 := cell_keep HBj.out l1a; have o4 := cell_keep HBj.out l1b; have o5 := cell_keep HBj.out l1c; clear hoj hbj)
      | (go_at_call 13; refine (eqTheory_is _ _ s1 s1 _ true (sameT_self _) (HXR1.out.keep HBj.out) HOj.out.reads).mono ?_; rintro e w18 ⟨rfl, hbk⟩; have HBk := Lib.hid (ex_keep HBj.out hbk); have q0 := cell_keep hbk o0; have q1 := cell_keep hbk o1; have q2 := cell_keep hbk o2; have q3 := cell_keep hbk o3; have q4 := cell_keep hbk o4; have q5 := cell_keep hbk o5; clear hbk))
  have hb := HBk.out
  clear fa0 fb0 fc0 fa1 fb1 fc1 fa2 fb2 fc2 l0a l0b l0c l1a l1b l1c l2a l2b l2c o0 q0 o1 q1 o2 q2 o3 q3 o4 q4 o5 q5 ea eb HBj HBk HOj HSW1 HXR1
  replace HK0 := Lib.hid (HK0.out.below z0 hb)
  replace z0 : w9.heap.size ≤ w18.heap.size := Nat.le_trans z0 hb.size
  replace HK1 := Lib.hid (HK1.out.below z1 hb)
  replace z1 : w11.heap.size ≤ w18.heap.size := Nat.le_trans z1 hb.size
  replace HK2 := Lib.hid (HK2.out.below z2 hb)
  replace z2 : w13.heap.size ≤ w18.heap.size := Nat.le_trans z2 hb.size
  replace HBs := Lib.hid (ex_keep HBs.out hb)
  clear hb
  have fa0 := cell_keep HBs.out HC.out.1
  have fb0 := cell_keep HBs.out HC.out.2.1
  have fc0 := cell_keep HBs.out HC.out.2.2.1
  have fa1 := cell_keep HBs.out HC.out.2.2.2.1
  have fb1 := cell_keep HBs.out HC.out.2.2.2.2.1
  have fc1 := cell_keep HBs.out HC.out.2.2.2.2.2.1
  have fa2 := cell_keep HBs.out HC.out.2.2.2.2.2.2.1
  have fb2 := cell_keep HBs.out HC.out.2.2.2.2.2.2.2.1
  have fc2 := cell_keep HBs.out HC.out.2.2.2.2.2.2.2.2
  have l0a := HK0.out.cell (by omega) HCX0.out.1
  have l0b := HK0.out.cell (by omega) HCX0.out.2.1
  have l0c := HK0.out.cell (by omega) HCX0.out.2.2
  have l1a := HK1.out.cell (by omega) HCX1.out.1
  have l1b := HK1.out.cell (by omega) HCX1.out.2.1
  have l1c := HK1.out.cell (by omega) HCX1.out.2.2
  have l2a := HK2.out.cell (by omega) HCX2.out.1
  have l2b := HK2.out.cell (by omega) HCX2.out.2.1
  have l2c := HK2.out.cell (by omega) HCX2.out.2.2
  have HSW2 := Lib.hid (HW2.out.keep (ex_keep HB.out HBs.out))
  have HXR2 := Lib.hid (HX2.out.same z2 HK2.out).reads
  go_wp2_with fail
  have ea := World.new_ne w18 _ fa2
  have eb := World.new_ne w18 _ l2a
  go_region_held3 (fun w' => w'.cell? ⟨w.heap.size + 1 + 1, 0, none⟩ = some (.slice A2a s2.along.sorts.length c2a) ∧ w'.cell? ⟨w.heap.size + 1 + 1, 1, none⟩ = some (.slice A2b s2.along.ops.length c2b) ∧ w'.cell? ⟨w.heap.size + 1 + 1, 2, none⟩ = some (.slice A2c s2.proofs.length c2c) ∧ w'.cell? ⟨w12.heap.size, 0, none⟩ = some (.slice AX2a s2.along.sorts.length cX2a) ∧ w'.cell? ⟨w12.heap.size, 1, none⟩ = some (.slice AX2b s2.along.ops.length cX2b) ∧ w'.cell? ⟨w12.heap.size, 2, none⟩ = some (.slice AX2c s2.proofs.length cX2c))
    (first | go_keep)
    (first
      | (go_at_call 11; refine (toView_any _ s2 w18.drew HSW2.out HF2.out).mono ?_; rintro e w19 ⟨yj, rfl, hoj, hbj⟩; have HOj := Lib.hid hoj; have HBj := Lib.hid (show Below w18.heap.size w18 w19 from below_undrew hbj); have o0 := cell_keep HBj.out fa2; have o1 := cell_keep HBj.out fb2; have o2 := cell_keep HBj.out fc2; have o3 := cell_keep HBj.out l2a; have o4 := cell_keep HBj.out l2b; have o5 := cell_keep HBj.out l2c; clear hoj hbj)
      | (go_at_call 14; refine (eqView_is _ _ s2 s2 _ true (sameV_self _) (HXR2.out.keep HBj.out) HOj.out.reads).mono ?_; rintro e w20 ⟨rfl, hbk⟩; have HBk := Lib.hid (ex_keep HBj.out hbk); have q0 := cell_keep hbk o0; have q1 := cell_keep hbk o1; have q2 := cell_keep hbk o2; have q3 := cell_keep hbk o3; have q4 := cell_keep hbk o4; have q5 := cell_keep hbk o5; clear hbk))
  have hb := HBk.out
  clear fa0 fb0 fc0 fa1 fb1 fc1 fa2 fb2 fc2 l0a l0b l0c l1a l1b l1c l2a l2b l2c o0 q0 o1 q1 o2 q2 o3 q3 o4 q4 o5 q5 ea eb HBj HBk HOj HSW2 HXR2
  replace HK0 := Lib.hid (HK0.out.below z0 hb)
  replace z0 : w9.heap.size ≤ w20.heap.size := Nat.le_trans z0 hb.size
  replace HK1 := Lib.hid (HK1.out.below z1 hb)
  replace z1 : w11.heap.size ≤ w20.heap.size := Nat.le_trans z1 hb.size
  replace HK2 := Lib.hid (HK2.out.below z2 hb)
  replace z2 : w13.heap.size ≤ w20.heap.size := Nat.le_trans z2 hb.size
  replace HBs := Lib.hid (ex_keep HBs.out hb)
  clear hb
  go_wp2
  go_ret
  exact ⟨rfl, ex_keep HB.out HBs.out⟩

set_option maxRecDepth 100000 in
theorem lifted_FnExactViewOk (os : Os) (started : os.Started) (H : Type) (enc : TypeId × Value → H) :
    ReturnsInHanded {} Try.checked os 3 .any (Rows.fnExactViewOkSpec.pre6 enc Try.prog Try.f3 Rows.fnExactViewOkRow.domain false) (Rows.fnExactViewOkSpec.post enc Try.prog Try.f3 false true false false) := by
  refine returnsInHanded_of_change (C := Try.checked) own started (by kernel_rfl) Try.func3
    (ChangeSpec.witness6 (enc := enc) (C := Try.checked) false ⟨#[], #[.agg #[.int .i64 0, .slice none 0 0, .slice none 0 0], .agg #[.int .i64 0, .slice none 0 0, .slice none 0 0], .agg #[.slice none 0 0, .slice none 0 0, .slice none 0 0]], []⟩ 8 (by kernel_rfl) (by kernel_rfl) (by kernel_rfl) (by kernel_rfl)) ?_
  intro W base args ds gs before hval0 hW hcnd _
  have hval : ∀ (j : Nat) t v, Try.f3.params[j]? = some t → args[j]? = some v → Value.okWide Try.prog W .any base t v := hval0
  have hW' := hW
  obtain ⟨p, q, hA0, hV, rfl, hfz, hnd⟩ := hW
  have hA : DataW.TrodAll enc Try.prog W 0 (fun _ => true) true Try.f3.params.toList args.toList ds p := hA0
  rw [Try.params3] at hA hval
  obtain ⟨v0, vs0, d0, ds0, p0, q0, hargs, rfl, rfl, h0, r0⟩ := trodAll_cons hA
  obtain ⟨v1, vs1, d1, ds1, p1, q1, rfl, rfl, rfl, h1, r1⟩ := trodAll_cons r0
  obtain ⟨v2, vs2, d2, ds2, p2, q2, rfl, rfl, rfl, h2, r2⟩ := trodAll_cons r1
  obtain ⟨rfl, rfl, rfl⟩ := trodAll_nil r2
  obtain rfl : args = #[v0, v1, v2] := by cases args; simp_all
  obtain ⟨rfl, rfl⟩ := trodVars_none hV
  have k0 := h0
  have lt0 : ∀ x ∈ p0, x.block < W.heap.size := by obtain ⟨m, hm⟩ := k0; exact DataW.trod_lt m _ _ _ hm
  obtain ⟨s0, w0⟩ : ∃ s, RThy W v0 s ∧ SmallT s := thy_of (hval 0 27 v0 rfl rfl) h0
  have k1 := h1
  have lt1 : ∀ x ∈ p1, x.block < W.heap.size := by obtain ⟨m, hm⟩ := k1; exact DataW.trod_lt m _ _ _ hm
  obtain ⟨s1, w1⟩ : ∃ s, RThy W v1 s ∧ SmallT s := thy_of (hval 1 27 v1 rfl rfl) h1
  have k2 := h2
  have lt2 : ∀ x ∈ p2, x.block < W.heap.size := by obtain ⟨m, hm⟩ := k2; exact DataW.trod_lt m _ _ _ hm
  obtain ⟨s2, w2⟩ : ∃ s, RView W v2 s ∧ SmallV s := view_of (hval 2 33 v2 rfl rfl) h2
  clear hA0 hval0
  refine (walk_FnExactViewOk _ s0 _ s1 _ s2 W w0 w1 w2).mono fun e W' ⟨he, bel⟩ => ?_
  subst he
  exact ⟨_, rfl, _, _, _, [], _, [], hW', trodAll_mk1 (shut_bool Try.underlying4 _), (trodAll_cons_mk (Below.trod laidOut (by kernel_rfl) (of_decide_eq_true (by kernel_rfl)) k0 bel lt0) (trodAll_cons_mk (Below.trod laidOut (by kernel_rfl) (of_decide_eq_true (by kernel_rfl)) k1 bel lt1) (trodAll_cons_mk (Below.trod laidOut (by kernel_rfl) (of_decide_eq_true (by kernel_rfl)) k2 bel lt2) trodAll_mk0))), rfl, bel.frame _, fun h => by cases h⟩

theorem over_FnExactViewOk : Rows.fnExactViewOkRow.holds Try.pinned (OpenSpec.ofChange Rows.fnExactViewOkSpec) :=
  OpenClaim.holds_of_wide 3 Try.f3 rfl rfl rfl rfl rfl rfl rfl ⟨rfl, rfl, rfl, rfl, rfl⟩ rfl rfl rfl rfl rfl (by kernel_rfl) Try.func3 (by kernel_rfl)
    (of_decide_eq_true (by kernel_rfl)) (by unfold Func.isWrapper; first | (rw [if_pos (by decide +kernel)]; kernel_rfl) | (rw [if_neg (by decide +kernel)]; exact ⟨rfl, rfl⟩))
    (fun os started H enc _ => lifted_FnExactViewOk os started H enc)

theorem proved_FnExactViewOk : Rows.FnExactViewOkSaid := over_FnExactViewOk
end Go.Proofs.Ytbopcghbmbchkaa
