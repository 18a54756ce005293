/- FnExactStepDo answers true at every theory, letters, row and step. No condition. -/
import Derived.Test.YtdgakjnkjofgnaaThyG
import Derived.Test.YtdgakjnkjofgnaaFrameP
import Derived.Test.YtdgakjnkjofgnaaStepDo
namespace Go.Proofs.Ytdgakjnkjofgnaa
open Go.ChangeShapes Go.WideShapes Go.ChangeAt Go.RowKit
set_option linter.unusedVariables false
set_option linter.unusedSimpArgs false

theorem stepM_len (t : MThy) (vars u : List Int) (p : MStep) : (stepM t vars u p).1.length ≤ 1048576 := by
  have hs : ∀ Y, (swapM t.over vars u p.at_ Y).1.length ≤ 1048576 := fun Y => by
    unfold swapM
    split
    · rename_i h; have := h.2.2; simp only; omega
    · simp
  unfold stepM afterM ruleM
  split
  · split
    · split
      · exact hs _
      · simp
    · simp
  · simp

set_option maxHeartbeats 3200000 in
set_option maxRecDepth 100000 in
theorem walk_FnExactStepDo (v0 : Value) (s0 : MThy) (v1 : Value) (xs1 : List Int) (v2 : Value) (xs2 : List Int) (v3 : Value) (s3 : MStep) (w : World) (h0 : RThy w v0 s0 ∧ SmallT s0) (h1 : RInts w v1 xs1 ∧ Small xs1) (h2 : RInts w v2 xs2 ∧ Small xs2) (h3 : RStep w v3 s3 ∧ SmallP s3) :
    Calls Try.prog 5 #[v0, v1, v2, v3] w fun e w' => e = .returned (.bool true) ∧ Below w.heap.size w w' := by
  have HB : Hid (Below w.heap.size w w) := Below.refl _ _
  have HS0 := Lib.hid h0.2
  replace h0 := h0.1
  obtain ⟨A0a, c0a, A0b, c0b, rfl⟩ := h0.form
  have HW0 := Lib.hid h0
  have hb := below_alloc (w) (.cells #[.int .i64 s0.over.sorts, .slice A0a s0.over.ops.length c0a, .slice A0b s0.eqs.length c0b] 40)
  have fa0 := (bx3 (w) (.int .i64 s0.over.sorts) (.slice A0a s0.over.ops.length c0a) (.slice A0b s0.eqs.length c0b) 40).1
  have fb0 := (bx3 (w) (.int .i64 s0.over.sorts) (.slice A0a s0.over.ops.length c0a) (.slice A0b s0.eqs.length c0b) 40).2.1
  have fc0 := (bx3 (w) (.int .i64 s0.over.sorts) (.slice A0a s0.over.ops.length c0a) (.slice A0b s0.eqs.length c0b) 40).2.2
  replace HB := Lib.hid (ex_keep HB.out hb)
  clear hb h0
  have HS3 := Lib.hid h3.2
  replace h3 := h3.1
  obtain ⟨A3a, c3a, rfl⟩ := h3.form
  have HW3 := Lib.hid h3
  have hb := below_alloc (w.alloc (.cells #[.int .i64 s0.over.sorts, .slice A0a s0.over.ops.length c0a, .slice A0b s0.eqs.length c0b] 40)) (.cells #[.int .i64 s3.ax, .bool s3.back, .int .i64 s3.at_, .slice A3a s3.terms.length c3a] 50)
  replace fa0 := cell_keep hb fa0
  replace fb0 := cell_keep hb fb0
  replace fc0 := cell_keep hb fc0
  have fa3 := (bx4 (w.alloc (.cells #[.int .i64 s0.over.sorts, .slice A0a s0.over.ops.length c0a, .slice A0b s0.eqs.length c0b] 40)) (.int .i64 s3.ax) (.bool s3.back) (.int .i64 s3.at_) (.slice A3a s3.terms.length c3a) 50).1
  have fb3 := (bx4 (w.alloc (.cells #[.int .i64 s0.over.sorts, .slice A0a s0.over.ops.length c0a, .slice A0b s0.eqs.length c0b] 40)) (.int .i64 s3.ax) (.bool s3.back) (.int .i64 s3.at_) (.slice A3a s3.terms.length c3a) 50).2.1
  have fc3 := (bx4 (w.alloc (.cells #[.int .i64 s0.over.sorts, .slice A0a s0.over.ops.length c0a, .slice A0b s0.eqs.length c0b] 40)) (.int .i64 s3.ax) (.bool s3.back) (.int .i64 s3.at_) (.slice A3a s3.terms.length c3a) 50).2.2.1
  have fd3 := (bx4 (w.alloc (.cells #[.int .i64 s0.over.sorts, .slice A0a s0.over.ops.length c0a, .slice A0b s0.eqs.length c0b] 40)) (.int .i64 s3.ax) (.bool s3.back) (.int .i64 s3.at_) (.slice A3a s3.terms.length c3a) 50).2.2.2
  simp only [World.size_alloc] at fa3 fb3 fc3 fd3
  replace HB := Lib.hid (ex_keep HB.out hb)
  clear hb h3
  have HW1 := Lib.hid h1.1
  have HS1 := Lib.hid h1.2
  have hl1 := h1.1.len
  obtain ⟨A1, c1, rfl, -⟩ := h1.1.form
  clear h1
  have HW2 := Lib.hid h2.1
  have HS2 := Lib.hid h2.2
  have hl2 := h2.1.len
  obtain ⟨A2, c2, rfl, -⟩ := h2.1.form
  clear h2
  by_cases hn1 : 1048576 < (xs1.length : Int)
  · go_enter Try.func5, Try.ntmps5
    go_wp2
    go_ret
    exact ⟨rfl, HB.out⟩
  by_cases hn2 : 1048576 < (xs2.length : Int)
  · go_enter Try.func5, Try.ntmps5
    go_wp2
    go_ret
    exact ⟨rfl, HB.out⟩
  go_enter Try.func5, Try.ntmps5
  go_wp2_with fail
  refine (szTheory_any _ s0 _ _ (HW0.out.keep HB.out) (by omega) (by omega)).mono ?_
  rintro e w1 ⟨r1, rfl, hr, hb⟩
  replace fa0 := cell_keep hb fa0
  replace fb0 := cell_keep hb fb0
  replace fc0 := cell_keep hb fc0
  replace fa3 := cell_keep hb fa3
  replace fb3 := cell_keep hb fb3
  replace fc3 := cell_keep hb fc3
  replace fd3 := cell_keep hb fd3
  replace HB := Lib.hid (ex_keep HB.out hb)
  clear hb
  by_cases hneg1 : r1 < 0
  · clear hr
    go_wp2
    go_ret
    exact ⟨rfl, HB.out⟩
  obtain ⟨hp1, hq1, hfit⟩ := hr.resolve_left hneg1
  have HF0 := Lib.hid hfit
  clear hr hfit
  go_wp2_with fail
  refine (szStep_any _ s3 _ _ (HW3.out.keep HB.out) (by omega) (by omega)).mono ?_
  rintro e w2 ⟨r2, rfl, hr, hb⟩
  replace fa0 := cell_keep hb fa0
  replace fb0 := cell_keep hb fb0
  replace fc0 := cell_keep hb fc0
  replace fa3 := cell_keep hb fa3
  replace fb3 := cell_keep hb fb3
  replace fc3 := cell_keep hb fc3
  replace fd3 := cell_keep hb fd3
  replace HB := Lib.hid (ex_keep HB.out hb)
  clear hb
  by_cases hneg2 : r2 < 0
  · clear hr
    go_wp2
    go_ret
    exact ⟨rfl, HB.out⟩
  obtain ⟨hp2, hq2, hfit⟩ := hr.resolve_left hneg2
  have HF3 := Lib.hid hfit
  clear hr hfit
  obtain ⟨R, hR⟩ : ∃ R, R = stepM s0 xs1 xs2 s3 := ⟨_, rfl⟩
  have HLEN := Lib.hid (show _ from stepM_len s0 xs1 xs2 s3)
  have HR := Lib.hid hR.symm
  rw [← hR] at HLEN
  clear hR
  go_wp2_with fail
  refine wp_region_held_drew (S := (fun w' => w'.cell? ⟨w.heap.size, 0, none⟩ = some (.int .i64 s0.over.sorts) ∧ w'.cell? ⟨w.heap.size, 1, none⟩ = some (.slice A0a s0.over.ops.length c0a) ∧ w'.cell? ⟨w.heap.size, 2, none⟩ = some (.slice A0b s0.eqs.length c0b) ∧ w'.cell? ⟨w.heap.size + 1, 0, none⟩ = some (.int .i64 s3.ax) ∧ w'.cell? ⟨w.heap.size + 1, 1, none⟩ = some (.bool s3.back) ∧ w'.cell? ⟨w.heap.size + 1, 2, none⟩ = some (.int .i64 s3.at_) ∧ w'.cell? ⟨w.heap.size + 1, 3, none⟩ = some (.slice A3a s3.terms.length c3a))) (by kernel_rfl) ?_ (fun hHeld => ?_)
  · exact ⟨fa0, fb0, fc0, fa3, fb3, fc3, fd3⟩
  refine wpAnyH_take (i := 0) (oi := _) (v := ?_) rfl (by kernel_rfl) (by kernel_rfl) (by kernel_rfl) (fun _ _ _ h => h) (Or.inl ⟨by rfl, ?_⟩) (by assumption) ?_
  rotate_left
  · first | (intro w' hSw; (try dsimp only at hSw); go_simp; done) | (intro w' hSw; (try dsimp only at hSw); go_simp; with_reducible rfl)
  try simp only [Act.put, List.getElem_toArray, List.getElem_cons_zero, List.getElem_cons_succ, List.setIfInBounds_toArray, List.set_cons_zero, List.set_cons_succ]
  refine wpAnyH_take (i := 2) (oi := _) (v := ?_) rfl (by kernel_rfl) (by kernel_rfl) (by kernel_rfl) (fun _ _ _ h => h) (Or.inl ⟨by rfl, ?_⟩) (by assumption) ?_
  rotate_left
  · first | (intro w' hSw; (try dsimp only at hSw); go_simp; done) | (intro w' hSw; (try dsimp only at hSw); go_simp; with_reducible rfl)
  try simp only [Act.put, List.getElem_toArray, List.getElem_cons_zero, List.getElem_cons_succ, List.setIfInBounds_toArray, List.set_cons_zero, List.set_cons_succ]
  refine wpAnyH_take (i := 4) (oi := _) (v := ?_) rfl (by kernel_rfl) (by kernel_rfl) (by kernel_rfl) (fun _ _ _ h => h) (Or.inl ⟨by rfl, ?_⟩) (by assumption) ?_
  rotate_left
  · first | (intro w' hSw; (try dsimp only at hSw); go_simp; done) | (intro w' hSw; (try dsimp only at hSw); go_simp; with_reducible rfl)
  try simp only [Act.put, List.getElem_toArray, List.getElem_cons_zero, List.getElem_cons_succ, List.setIfInBounds_toArray, List.set_cons_zero, List.set_cons_succ]
  refine wpAnyH_take (i := 6) (oi := _) (v := ?_) rfl (by kernel_rfl) (by kernel_rfl) (by kernel_rfl) (fun _ _ _ h => h) (Or.inl ⟨by rfl, ?_⟩) (by assumption) ?_
  rotate_left
  · first | (intro w' hSw; (try dsimp only at hSw); go_simp; done) | (intro w' hSw; (try dsimp only at hSw); go_simp; with_reducible rfl)
  try simp only [Act.put, List.getElem_toArray, List.getElem_cons_zero, List.getElem_cons_succ, List.setIfInBounds_toArray, List.set_cons_zero, List.set_cons_succ]
  refine wpAnyH_ready (rs := [1]) (by kernel_rfl) (by simp) ?_
  refine AllReadyH.cons (o := _) rfl (fun K hK => ?_) AllReadyH.nil
  go_simp
  refine (toTheory_any _ s0 _ (HW0.out.keep (ex_drew HB.out)) HF0.out).mono ?_
  rintro e w3 ⟨y0, rfl, ho, hb⟩
  replace hb := ex_undrew hb
  replace fa0 := cell_keep hb fa0
  replace fb0 := cell_keep hb fb0
  replace fc0 := cell_keep hb fc0
  replace fa3 := cell_keep hb fa3
  replace fb3 := cell_keep hb fb3
  replace fc3 := cell_keep hb fc3
  replace fd3 := cell_keep hb fd3
  replace HB := Lib.hid (ex_keep HB.out hb)
  clear hb
  have P0 := Lib.hid ho.reads
  obtain ⟨AY0a, cY0a, AY0b, cY0b, rfl⟩ := ho.reads.form
  clear ho
  go_wp2_with fail
  refine hK.out _ _ ?_ (fun hHeld => ?_)
  · exact ⟨fa0, fb0, fc0, fa3, fb3, fc3, fd3⟩
  clear hK K
  try simp only [Act.put, List.getElem_toArray, List.getElem_cons_zero, List.getElem_cons_succ, List.setIfInBounds_toArray, List.set_cons_zero, List.set_cons_succ]
  refine wpAnyH_ready (rs := [3]) (by kernel_rfl) (by simp) ?_
  refine AllReadyH.cons (o := _) rfl (fun K hK => ?_) AllReadyH.nil
  go_simp
  refine (toIntS_any _ xs1 _ (HW1.out.keep HB.out) (by omega)).mono ?_
  rintro e w4 ⟨y1, rfl, ho, hb⟩
  replace fa0 := cell_keep hb fa0
  replace fb0 := cell_keep hb fb0
  replace fc0 := cell_keep hb fc0
  replace fa3 := cell_keep hb fa3
  replace fb3 := cell_keep hb fb3
  replace fc3 := cell_keep hb fc3
  replace fd3 := cell_keep hb fd3
  replace P0 := Lib.hid (P0.out.keep hb)
  replace HB := Lib.hid (ex_keep HB.out hb)
  clear hb
  have P1 := Lib.hid ho.reads
  obtain ⟨AY1, cY1, rfl, -⟩ := ho.reads.form
  clear ho
  go_wp2_with fail
  refine hK.out _ _ ?_ (fun hHeld => ?_)
  · exact ⟨fa0, fb0, fc0, fa3, fb3, fc3, fd3⟩
  clear hK K
  try simp only [Act.put, List.getElem_toArray, List.getElem_cons_zero, List.getElem_cons_succ, List.setIfInBounds_toArray, List.set_cons_zero, List.set_cons_succ]
  refine wpAnyH_ready (rs := [5]) (by kernel_rfl) (by simp) ?_
  refine AllReadyH.cons (o := _) rfl (fun K hK => ?_) AllReadyH.nil
  go_simp
  refine (toIntS_any _ xs2 _ (HW2.out.keep HB.out) (by omega)).mono ?_
  rintro e w5 ⟨y2, rfl, ho, hb⟩
  replace fa0 := cell_keep hb fa0
  replace fb0 := cell_keep hb fb0
  replace fc0 := cell_keep hb fc0
  replace fa3 := cell_keep hb fa3
  replace fb3 := cell_keep hb fb3
  replace fc3 := cell_keep hb fc3
  replace fd3 := cell_keep hb fd3
  replace P0 := Lib.hid (P0.out.keep hb)
  replace P1 := Lib.hid (P1.out.keep hb)
  replace HB := Lib.hid (ex_keep HB.out hb)
  clear hb
  have P2 := Lib.hid ho.reads
  obtain ⟨AY2, cY2, rfl, -⟩ := ho.reads.form
  clear ho
  go_wp2_with fail
  refine hK.out _ _ ?_ (fun hHeld => ?_)
  · exact ⟨fa0, fb0, fc0, fa3, fb3, fc3, fd3⟩
  clear hK K
  try simp only [Act.put, List.getElem_toArray, List.getElem_cons_zero, List.getElem_cons_succ, List.setIfInBounds_toArray, List.set_cons_zero, List.set_cons_succ]
  refine wpAnyH_ready (rs := [7]) (by kernel_rfl) (by simp) ?_
  refine AllReadyH.cons (o := _) rfl (fun K hK => ?_) AllReadyH.nil
  go_simp
  refine (toStep_any _ s3 _ (HW3.out.keep HB.out) HF3.out).mono ?_
  rintro e w6 ⟨y3, rfl, ho, hb⟩
  replace fa0 := cell_keep hb fa0
  replace fb0 := cell_keep hb fb0
  replace fc0 := cell_keep hb fc0
  replace fa3 := cell_keep hb fa3
  replace fb3 := cell_keep hb fb3
  replace fc3 := cell_keep hb fc3
  replace fd3 := cell_keep hb fd3
  replace P0 := Lib.hid (P0.out.keep hb)
  replace P1 := Lib.hid (P1.out.keep hb)
  replace P2 := Lib.hid (P2.out.keep hb)
  replace HB := Lib.hid (ex_keep HB.out hb)
  clear hb
  have P3 := Lib.hid ho.reads
  obtain ⟨AY3a, cY3a, rfl⟩ := ho.reads.form
  clear ho
  go_wp2_with fail
  refine hK.out _ _ ?_ (fun hHeld => ?_)
  · exact ⟨fa0, fb0, fc0, fa3, fb3, fc3, fd3⟩
  clear hK K
  try simp only [Act.put, List.getElem_toArray, List.getElem_cons_zero, List.getElem_cons_succ, List.setIfInBounds_toArray, List.set_cons_zero, List.set_cons_succ]
  refine wpAnyH_ready (rs := [8]) (by kernel_rfl) (by simp) ?_
  refine AllReadyH.cons (o := _) rfl (fun K hK => ?_) AllReadyH.nil
  go_simp
  refine (specStepDo_any s0 xs1 xs2 s3 _ _ _ _ _ HS3.out P0.out P1.out P2.out P3.out).mono ?_
  rw [HR.out]
  rintro e w7 ⟨z0, rfl, hoz, hb⟩
  have HZ := Lib.hid hoz
  obtain ⟨Az, cz, rfl, -⟩ := hoz.reads.form
  clear hoz
  replace fa0 := cell_keep hb fa0
  replace fb0 := cell_keep hb fb0
  replace fc0 := cell_keep hb fc0
  replace fa3 := cell_keep hb fa3
  replace fb3 := cell_keep hb fb3
  replace fc3 := cell_keep hb fc3
  replace fd3 := cell_keep hb fd3
  replace HB := Lib.hid (ex_keep HB.out hb)
  clear hb
  go_wp2_with fail
  refine hK.out _ _ ?_ (fun hHeld => ?_)
  · exact ⟨fa0, fb0, fc0, fa3, fb3, fc3, fd3⟩
  clear hK K
  try simp only [Act.put, List.getElem_toArray, List.getElem_cons_zero, List.getElem_cons_succ, List.setIfInBounds_toArray, List.set_cons_zero, List.set_cons_succ]
  refine wpAnyH_take (i := 9) (oi := _) (v := ?_) rfl (by kernel_rfl) (by kernel_rfl) (by kernel_rfl) (fun _ _ _ h => h) (Or.inl ⟨by rfl, ?_⟩) (by assumption) ?_
  rotate_left
  · first | (intro w' hSw; (try dsimp only at hSw); go_simp; done) | (intro w' hSw; (try dsimp only at hSw); go_simp; with_reducible rfl)
  try simp only [Act.put, List.getElem_toArray, List.getElem_cons_zero, List.getElem_cons_succ, List.setIfInBounds_toArray, List.set_cons_zero, List.set_cons_succ]
  refine wpAnyH_take (i := 10) (oi := _) (v := ?_) rfl (by kernel_rfl) (by kernel_rfl) (by kernel_rfl) (fun _ _ _ h => h) (Or.inl ⟨by rfl, ?_⟩) (by assumption) ?_
  rotate_left
  · first | (intro w' hSw; (try dsimp only at hSw); go_simp; done) | (intro w' hSw; (try dsimp only at hSw); go_simp; with_reducible rfl)
  try simp only [Act.put, List.getElem_toArray, List.getElem_cons_zero, List.getElem_cons_succ, List.setIfInBounds_toArray, List.set_cons_zero, List.set_cons_succ]
  refine wpAnyH_take (i := 11) (oi := _) (v := ?_) rfl (by kernel_rfl) (by kernel_rfl) (by kernel_rfl) (fun _ _ _ h => h) (Or.inl ⟨by rfl, ?_⟩) (by assumption) ?_
  rotate_left
  · first | (intro w' hSw; (try dsimp only at hSw); go_simp; done) | (intro w' hSw; (try dsimp only at hSw); go_simp; with_reducible rfl)
  try simp only [Act.put, List.getElem_toArray, List.getElem_cons_zero, List.getElem_cons_succ, List.setIfInBounds_toArray, List.set_cons_zero, List.set_cons_succ]
  refine wpAnyH_take (i := 12) (oi := _) (v := ?_) rfl (by kernel_rfl) (by kernel_rfl) (by kernel_rfl) (fun _ _ _ h => h) (Or.inl ⟨by rfl, ?_⟩) (by assumption) ?_
  rotate_left
  · first | (intro w' hSw; (try dsimp only at hSw); go_simp; done) | (intro w' hSw; (try dsimp only at hSw); go_simp; with_reducible rfl)
  try simp only [Act.put, List.getElem_toArray, List.getElem_cons_zero, List.getElem_cons_succ, List.setIfInBounds_toArray, List.set_cons_zero, List.set_cons_succ]
  refine wpAnyH_take (i := 13) (oi := _) (v := ?_) rfl (by kernel_rfl) (by kernel_rfl) (by kernel_rfl) (fun _ _ _ h => h) (Or.inl ⟨by rfl, ?_⟩) (by assumption) ?_
  rotate_left
  · first | (intro w' hSw; (try dsimp only at hSw); go_simp; done) | (intro w' hSw; (try dsimp only at hSw); go_simp; with_reducible rfl)
  try simp only [Act.put, List.getElem_toArray, List.getElem_cons_zero, List.getElem_cons_succ, List.setIfInBounds_toArray, List.set_cons_zero, List.set_cons_succ]
  refine wpAnyH_done (by kernel_rfl) ?_ _
  clear P0 P1 P2 P3
  have HC := Lib.hid (And.intro fa0 (And.intro fb0 (And.intro fc0 (And.intro fa3 (And.intro fb3 (And.intro fc3 (fd3)))))))
  have HBs : Hid (Below w7.heap.size w7 w7) := Below.refl _ _
  clear fa0 fb0 fc0 fa3 fb3 fc3 fd3
  have fa0 := cell_keep HBs.out HC.out.1
  have fb0 := cell_keep HBs.out HC.out.2.1
  have fc0 := cell_keep HBs.out HC.out.2.2.1
  have fa3 := cell_keep HBs.out HC.out.2.2.2.1
  have fb3 := cell_keep HBs.out HC.out.2.2.2.2.1
  have fc3 := cell_keep HBs.out HC.out.2.2.2.2.2.1
  have fd3 := cell_keep HBs.out HC.out.2.2.2.2.2.2
  go_wp2_with fail
  refine (toTheory_any _ s0 _ (HW0.out.keep (ex_keep HB.out HBs.out)) HF0.out).mono ?_
  rintro e w8 ⟨y0, rfl, ho, hb⟩
  obtain ⟨AX0a, cX0a, AX0b, cX0b, rfl⟩ := ho.reads.form
  have hb2 := below_alloc w8 (.cells #[.int .i64 s0.over.sorts, .slice AX0a s0.over.ops.length cX0a, .slice AX0b s0.eqs.length cX0b] 45)
  have HX0 := Lib.hid (show OThy (w8.alloc (.cells #[.int .i64 s0.over.sorts, .slice AX0a s0.over.ops.length cX0a, .slice AX0b s0.eqs.length cX0b] 45)) w7.heap.size (.agg #[.int .i64 s0.over.sorts, .slice AX0a s0.over.ops.length cX0a, .slice AX0b s0.eqs.length cX0b]) s0 from ho.keep hb2)
  have HCX0 := Lib.hid (bx3 w8 (.int .i64 s0.over.sorts) (.slice AX0a s0.over.ops.length cX0a) (.slice AX0b s0.eqs.length cX0b) 45)
  have hy0 := hb.size
  replace hb := hb.trans (hb2.mono hb.size)
  have hs0 := hb.size
  generalize hWw9 : w8.alloc (.cells #[.int .i64 s0.over.sorts, .slice AX0a s0.over.ops.length cX0a, .slice AX0b s0.eqs.length cX0b] 45) = w9 at HX0 HCX0 hb hs0
  clear hb2 ho
  replace HBs := Lib.hid (ex_keep HBs.out hb)
  clear hb
  have HK0 : Hid (Keeps w7.heap.size w9 w9) := Keeps.refl _ _
  have z0 : w9.heap.size ≤ w9.heap.size := Nat.le_refl _
  clear fa0 fb0 fc0 fa3 fb3 fc3 fd3
  go_wp2_with fail
  clear hWw9
  refine (toIntS_any _ xs1 _ (HW1.out.keep (ex_keep HB.out HBs.out)) (by omega)).mono ?_
  rintro e w10 ⟨y1, rfl, ho, hb⟩
  have HX1 := Lib.hid ho
  obtain ⟨AX1, cX1, rfl, -⟩ := ho.reads.form
  have hs1 := hb.size
  clear ho
  replace HK0 := Lib.hid (HK0.out.below z0 hb)
  replace z0 : w9.heap.size ≤ w10.heap.size := Nat.le_trans z0 hb.size
  replace HBs := Lib.hid (ex_keep HBs.out hb)
  clear hb
  have HK1 : Hid (Keeps w9.heap.size w10 w10) := Keeps.refl _ _
  have z1 : w10.heap.size ≤ w10.heap.size := Nat.le_refl _
  go_wp2_with fail
  refine (toIntS_any _ xs2 _ (HW2.out.keep (ex_keep HB.out HBs.out)) (by omega)).mono ?_
  rintro e w11 ⟨y2, rfl, ho, hb⟩
  have HX2 := Lib.hid ho
  obtain ⟨AX2, cX2, rfl, -⟩ := ho.reads.form
  have hs2 := hb.size
  clear ho
  replace HK0 := Lib.hid (HK0.out.below z0 hb)
  replace z0 : w9.heap.size ≤ w11.heap.size := Nat.le_trans z0 hb.size
  replace HK1 := Lib.hid (HK1.out.below z1 hb)
  replace z1 : w10.heap.size ≤ w11.heap.size := Nat.le_trans z1 hb.size
  replace HBs := Lib.hid (ex_keep HBs.out hb)
  clear hb
  have HK2 : Hid (Keeps w10.heap.size w11 w11) := Keeps.refl _ _
  have z2 : w11.heap.size ≤ w11.heap.size := Nat.le_refl _
  have fa0 := cell_keep HBs.out HC.out.1
  have fb0 := cell_keep HBs.out HC.out.2.1
  have fc0 := cell_keep HBs.out HC.out.2.2.1
  have fa3 := cell_keep HBs.out HC.out.2.2.2.1
  have fb3 := cell_keep HBs.out HC.out.2.2.2.2.1
  have fc3 := cell_keep HBs.out HC.out.2.2.2.2.2.1
  have fd3 := cell_keep HBs.out HC.out.2.2.2.2.2.2
  go_wp2_with fail
  refine (toStep_any _ s3 _ (HW3.out.keep (ex_keep HB.out HBs.out)) HF3.out).mono ?_
  rintro e w12 ⟨y3, rfl, ho, hb⟩
  obtain ⟨AX3a, cX3a, rfl⟩ := ho.reads.form
  have hb2 := below_alloc w12 (.cells #[.int .i64 s3.ax, .bool s3.back, .int .i64 s3.at_, .slice AX3a s3.terms.length cX3a] 55)
  have HX3 := Lib.hid (show OStep (w12.alloc (.cells #[.int .i64 s3.ax, .bool s3.back, .int .i64 s3.at_, .slice AX3a s3.terms.length cX3a] 55)) w11.heap.size (.agg #[.int .i64 s3.ax, .bool s3.back, .int .i64 s3.at_, .slice AX3a s3.terms.length cX3a]) s3 from ho.keep hb2)
  have HCX3 := Lib.hid (bx4 w12 (.int .i64 s3.ax) (.bool s3.back) (.int .i64 s3.at_) (.slice AX3a s3.terms.length cX3a) 55)
  have hy3 := hb.size
  replace hb := hb.trans (hb2.mono hb.size)
  have hs3 := hb.size
  generalize hWw13 : w12.alloc (.cells #[.int .i64 s3.ax, .bool s3.back, .int .i64 s3.at_, .slice AX3a s3.terms.length cX3a] 55) = w13 at HX3 HCX3 hb hs3
  clear hb2 ho
  replace HK0 := Lib.hid (HK0.out.below z0 hb)
  replace z0 : w9.heap.size ≤ w13.heap.size := Nat.le_trans z0 hb.size
  replace HK1 := Lib.hid (HK1.out.below z1 hb)
  replace z1 : w10.heap.size ≤ w13.heap.size := Nat.le_trans z1 hb.size
  replace HK2 := Lib.hid (HK2.out.below z2 hb)
  replace z2 : w11.heap.size ≤ w13.heap.size := Nat.le_trans z2 hb.size
  replace HBs := Lib.hid (ex_keep HBs.out hb)
  clear hb
  have HK3 : Hid (Keeps w11.heap.size w13 w13) := Keeps.refl _ _
  have z3 : w13.heap.size ≤ w13.heap.size := Nat.le_refl _
  clear fa0 fb0 fc0 fa3 fb3 fc3 fd3
  have l0a := HK0.out.cell (by omega) HCX0.out.1
  have l0b := HK0.out.cell (by omega) HCX0.out.2.1
  have l0c := HK0.out.cell (by omega) HCX0.out.2.2
  have l3a := HK3.out.cell (by omega) HCX3.out.1
  have l3b := HK3.out.cell (by omega) HCX3.out.2.1
  have l3c := HK3.out.cell (by omega) HCX3.out.2.2.1
  have l3d := HK3.out.cell (by omega) HCX3.out.2.2.2
  go_wp2_with fail
  clear hWw13
  refine (stepDo_any s0 xs1 xs2 s3 _ _ _ _ _ HS0.out HS2.out HS3.out (HX0.out.same z0 HK0.out).reads (HX1.out.same HK1.out).reads (HX2.out.same HK2.out).reads (HX3.out.same HK3.out).reads).mono ?_
  rw [HR.out]
  rintro e w14 ⟨g0, rfl, hog, hb⟩
  have HG := Lib.hid hog
  obtain ⟨Ag, cg, rfl, -⟩ := hog.reads.form
  have hsg := hb.size
  clear hog
  clear l0a l0b l0c l3a l3b l3c l3d
  replace HK0 := Lib.hid (HK0.out.below z0 hb)
  replace z0 : w9.heap.size ≤ w14.heap.size := Nat.le_trans z0 hb.size
  replace HK1 := Lib.hid (HK1.out.below z1 hb)
  replace z1 : w10.heap.size ≤ w14.heap.size := Nat.le_trans z1 hb.size
  replace HK2 := Lib.hid (HK2.out.below z2 hb)
  replace z2 : w11.heap.size ≤ w14.heap.size := Nat.le_trans z2 hb.size
  replace HK3 := Lib.hid (HK3.out.below z3 hb)
  replace z3 : w13.heap.size ≤ w14.heap.size := Nat.le_trans z3 hb.size
  replace HBs := Lib.hid (ex_keep HBs.out hb)
  clear hb
  have HKg : Hid (Keeps w13.heap.size w14 w14) := Keeps.refl _ _
  have zg : w14.heap.size ≤ w14.heap.size := Nat.le_refl _
  obtain ⟨R1, R2⟩ := R
  simp only at HG HZ HLEN ⊢
  have e1 : (R2 != R2) = false := by simp
  go_wp2_with fail
  refine (eqIntS_is _ _ R1 R1 _ true (sameI_self _) (HG.out.same HKg.out).reads (HZ.out.keep HBs.out).reads).mono ?_
  rintro e w15 ⟨rfl, hd⟩
  have hb := hd.below
  clear hd
  replace HK0 := Lib.hid (HK0.out.below z0 hb)
  replace z0 : w9.heap.size ≤ w15.heap.size := Nat.le_trans z0 hb.size
  replace HK1 := Lib.hid (HK1.out.below z1 hb)
  replace z1 : w10.heap.size ≤ w15.heap.size := Nat.le_trans z1 hb.size
  replace HK2 := Lib.hid (HK2.out.below z2 hb)
  replace z2 : w11.heap.size ≤ w15.heap.size := Nat.le_trans z2 hb.size
  replace HK3 := Lib.hid (HK3.out.below z3 hb)
  replace z3 : w13.heap.size ≤ w15.heap.size := Nat.le_trans z3 hb.size
  replace HKg := Lib.hid (HKg.out.below zg hb)
  replace zg : w14.heap.size ≤ w15.heap.size := Nat.le_trans zg hb.size
  replace HBs := Lib.hid (ex_keep HBs.out hb)
  clear hb
  have fa0 := cell_keep HBs.out HC.out.1
  have fb0 := cell_keep HBs.out HC.out.2.1
  have fc0 := cell_keep HBs.out HC.out.2.2.1
  have fa3 := cell_keep HBs.out HC.out.2.2.2.1
  have fb3 := cell_keep HBs.out HC.out.2.2.2.2.1
  have fc3 := cell_keep HBs.out HC.out.2.2.2.2.2.1
  have fd3 := cell_keep HBs.out HC.out.2.2.2.2.2.2
  have l0a := HK0.out.cell (by omega) HCX0.out.1
  have l0b := HK0.out.cell (by omega) HCX0.out.2.1
  have l0c := HK0.out.cell (by omega) HCX0.out.2.2
  have l3a := HK3.out.cell (by omega) HCX3.out.1
  have l3b := HK3.out.cell (by omega) HCX3.out.2.1
  have l3c := HK3.out.cell (by omega) HCX3.out.2.2.1
  have l3d := HK3.out.cell (by omega) HCX3.out.2.2.2
  have HSW0 := Lib.hid (HW0.out.keep (ex_keep HB.out HBs.out))
  have HXR0 := Lib.hid (HX0.out.same z0 HK0.out).reads
  go_wp2_with fail
  have ea := World.new_ne w15 _ fa0
  have eb := World.new_ne w15 _ l0a
  go_region_held3 (fun w' => w'.cell? ⟨w.heap.size, 0, none⟩ = some (.int .i64 s0.over.sorts) ∧ w'.cell? ⟨w.heap.size, 1, none⟩ = some (.slice A0a s0.over.ops.length c0a) ∧ w'.cell? ⟨w.heap.size, 2, none⟩ = some (.slice A0b s0.eqs.length c0b) ∧ w'.cell? ⟨w8.heap.size, 0, none⟩ = some (.int .i64 s0.over.sorts) ∧ w'.cell? ⟨w8.heap.size, 1, none⟩ = some (.slice AX0a s0.over.ops.length cX0a) ∧ w'.cell? ⟨w8.heap.size, 2, none⟩ = some (.slice AX0b s0.eqs.length cX0b))
    (first | go_keep)
    (first
      | (go_at_call 19; refine (toTheory_any _ s0 w15.drew HSW0.out HF0.out).mono ?_; rintro e w16 ⟨yj, rfl, hoj, hbj⟩; have HOj := Lib.hid hoj; have HBj := Lib.hid (show Below w15.heap.size w15 w16 from below_undrew hbj); have o0 := cell_keep HBj.out fa0; have o1 := cell_keep HBj.out fb0; have o2 := cell_keep HBj.out fc0; have o3 := cell_keep HBj.out l0a; have o4 := cell_keep HBj.out l0b; have o5 := cell_keep HBj.out l0c; clear hoj hbj)
      | (go_at_call 21; refine (eqTheory_is _ _ s0 s0 _ true (sameT_self _) (HXR0.out.keep HBj.out) HOj.out.reads).mono ?_; rintro e w17 ⟨rfl, hbk⟩; have HBk := Lib.hid (ex_keep HBj.out hbk); have q0 := cell_keep hbk o0; have q1 := cell_keep hbk o1; have q2 := cell_keep hbk o2; have q3 := cell_keep hbk o3; have q4 := cell_keep hbk o4; have q5 := cell_keep hbk o5; clear hbk))
  have hb := HBk.out
  clear fa0 fb0 fc0 fa3 fb3 fc3 fd3 l0a l0b l0c l3a l3b l3c l3d o0 q0 o1 q1 o2 q2 o3 q3 o4 q4 o5 q5 ea eb HBj HBk HOj HSW0 HXR0
  replace HK0 := Lib.hid (HK0.out.below z0 hb)
  replace z0 : w9.heap.size ≤ w17.heap.size := Nat.le_trans z0 hb.size
  replace HK1 := Lib.hid (HK1.out.below z1 hb)
  replace z1 : w10.heap.size ≤ w17.heap.size := Nat.le_trans z1 hb.size
  replace HK2 := Lib.hid (HK2.out.below z2 hb)
  replace z2 : w11.heap.size ≤ w17.heap.size := Nat.le_trans z2 hb.size
  replace HK3 := Lib.hid (HK3.out.below z3 hb)
  replace z3 : w13.heap.size ≤ w17.heap.size := Nat.le_trans z3 hb.size
  replace HKg := Lib.hid (HKg.out.below zg hb)
  replace zg : w14.heap.size ≤ w17.heap.size := Nat.le_trans zg hb.size
  replace HBs := Lib.hid (ex_keep HBs.out hb)
  clear hb
  go_wp2_with fail
  refine (toIntS_any _ xs1 _ (HW1.out.keep (ex_keep HB.out HBs.out)) (by omega)).mono ?_
  rintro e w18 ⟨yj, rfl, ho, hb⟩
  have PJ := Lib.hid ho.reads
  clear ho
  replace HK0 := Lib.hid (HK0.out.below z0 hb)
  replace z0 : w9.heap.size ≤ w18.heap.size := Nat.le_trans z0 hb.size
  replace HK1 := Lib.hid (HK1.out.below z1 hb)
  replace z1 : w10.heap.size ≤ w18.heap.size := Nat.le_trans z1 hb.size
  replace HK2 := Lib.hid (HK2.out.below z2 hb)
  replace z2 : w11.heap.size ≤ w18.heap.size := Nat.le_trans z2 hb.size
  replace HK3 := Lib.hid (HK3.out.below z3 hb)
  replace z3 : w13.heap.size ≤ w18.heap.size := Nat.le_trans z3 hb.size
  replace HKg := Lib.hid (HKg.out.below zg hb)
  replace zg : w14.heap.size ≤ w18.heap.size := Nat.le_trans zg hb.size
  replace HBs := Lib.hid (ex_keep HBs.out hb)
  clear hb
  go_wp2_with fail
  refine (eqIntS_is _ _ xs1 xs1 _ true (sameI_self _) (HX1.out.same HK1.out).reads PJ.out).mono ?_
  rintro e w19 ⟨rfl, hd⟩
  have hb := hd.below
  clear hd PJ
  replace HK0 := Lib.hid (HK0.out.below z0 hb)
  replace z0 : w9.heap.size ≤ w19.heap.size := Nat.le_trans z0 hb.size
  replace HK1 := Lib.hid (HK1.out.below z1 hb)
  replace z1 : w10.heap.size ≤ w19.heap.size := Nat.le_trans z1 hb.size
  replace HK2 := Lib.hid (HK2.out.below z2 hb)
  replace z2 : w11.heap.size ≤ w19.heap.size := Nat.le_trans z2 hb.size
  replace HK3 := Lib.hid (HK3.out.below z3 hb)
  replace z3 : w13.heap.size ≤ w19.heap.size := Nat.le_trans z3 hb.size
  replace HKg := Lib.hid (HKg.out.below zg hb)
  replace zg : w14.heap.size ≤ w19.heap.size := Nat.le_trans zg hb.size
  replace HBs := Lib.hid (ex_keep HBs.out hb)
  clear hb
  go_wp2_with fail
  refine (toIntS_any _ xs2 _ (HW2.out.keep (ex_keep HB.out HBs.out)) (by omega)).mono ?_
  rintro e w20 ⟨yj, rfl, ho, hb⟩
  have PJ := Lib.hid ho.reads
  clear ho
  replace HK0 := Lib.hid (HK0.out.below z0 hb)
  replace z0 : w9.heap.size ≤ w20.heap.size := Nat.le_trans z0 hb.size
  replace HK1 := Lib.hid (HK1.out.below z1 hb)
  replace z1 : w10.heap.size ≤ w20.heap.size := Nat.le_trans z1 hb.size
  replace HK2 := Lib.hid (HK2.out.below z2 hb)
  replace z2 : w11.heap.size ≤ w20.heap.size := Nat.le_trans z2 hb.size
  replace HK3 := Lib.hid (HK3.out.below z3 hb)
  replace z3 : w13.heap.size ≤ w20.heap.size := Nat.le_trans z3 hb.size
  replace HKg := Lib.hid (HKg.out.below zg hb)
  replace zg : w14.heap.size ≤ w20.heap.size := Nat.le_trans zg hb.size
  replace HBs := Lib.hid (ex_keep HBs.out hb)
  clear hb
  go_wp2_with fail
  refine (eqIntS_is _ _ xs2 xs2 _ true (sameI_self _) (HX2.out.same HK2.out).reads PJ.out).mono ?_
  rintro e w21 ⟨rfl, hd⟩
  have hb := hd.below
  clear hd PJ
  replace HK0 := Lib.hid (HK0.out.below z0 hb)
  replace z0 : w9.heap.size ≤ w21.heap.size := Nat.le_trans z0 hb.size
  replace HK1 := Lib.hid (HK1.out.below z1 hb)
  replace z1 : w10.heap.size ≤ w21.heap.size := Nat.le_trans z1 hb.size
  replace HK2 := Lib.hid (HK2.out.below z2 hb)
  replace z2 : w11.heap.size ≤ w21.heap.size := Nat.le_trans z2 hb.size
  replace HK3 := Lib.hid (HK3.out.below z3 hb)
  replace z3 : w13.heap.size ≤ w21.heap.size := Nat.le_trans z3 hb.size
  replace HKg := Lib.hid (HKg.out.below zg hb)
  replace zg : w14.heap.size ≤ w21.heap.size := Nat.le_trans zg hb.size
  replace HBs := Lib.hid (ex_keep HBs.out hb)
  clear hb
  have fa0 := cell_keep HBs.out HC.out.1
  have fb0 := cell_keep HBs.out HC.out.2.1
  have fc0 := cell_keep HBs.out HC.out.2.2.1
  have fa3 := cell_keep HBs.out HC.out.2.2.2.1
  have fb3 := cell_keep HBs.out HC.out.2.2.2.2.1
  have fc3 := cell_keep HBs.out HC.out.2.2.2.2.2.1
  have fd3 := cell_keep HBs.out HC.out.2.2.2.2.2.2
  have l0a := HK0.out.cell (by omega) HCX0.out.1
  have l0b := HK0.out.cell (by omega) HCX0.out.2.1
  have l0c := HK0.out.cell (by omega) HCX0.out.2.2
  have l3a := HK3.out.cell (by omega) HCX3.out.1
  have l3b := HK3.out.cell (by omega) HCX3.out.2.1
  have l3c := HK3.out.cell (by omega) HCX3.out.2.2.1
  have l3d := HK3.out.cell (by omega) HCX3.out.2.2.2
  have HSW3 := Lib.hid (HW3.out.keep (ex_keep HB.out HBs.out))
  have HXR3 := Lib.hid (HX3.out.same HK3.out).reads
  go_wp2_with fail
  have ea := World.new_ne w21 _ fa3
  have eb := World.new_ne w21 _ l3a
  go_region_held3 (fun w' => w'.cell? ⟨w.heap.size + 1, 0, none⟩ = some (.int .i64 s3.ax) ∧ w'.cell? ⟨w.heap.size + 1, 1, none⟩ = some (.bool s3.back) ∧ w'.cell? ⟨w.heap.size + 1, 2, none⟩ = some (.int .i64 s3.at_) ∧ w'.cell? ⟨w.heap.size + 1, 3, none⟩ = some (.slice A3a s3.terms.length c3a) ∧ w'.cell? ⟨w12.heap.size, 0, none⟩ = some (.int .i64 s3.ax) ∧ w'.cell? ⟨w12.heap.size, 1, none⟩ = some (.bool s3.back) ∧ w'.cell? ⟨w12.heap.size, 2, none⟩ = some (.int .i64 s3.at_) ∧ w'.cell? ⟨w12.heap.size, 3, none⟩ = some (.slice AX3a s3.terms.length cX3a))
    (first | go_keep)
    (first
      | (go_at_call 25; refine (toStep_any _ s3 w21.drew HSW3.out HF3.out).mono ?_; rintro e w22 ⟨yj, rfl, hoj, hbj⟩; have HOj := Lib.hid hoj; have HBj := Lib.hid (show Below w21.heap.size w21 w22 from below_undrew hbj); have o0 := cell_keep HBj.out fa3; have o1 := cell_keep HBj.out fb3; have o2 := cell_keep HBj.out fc3; have o3 := cell_keep HBj.out fd3; have o4 := cell_keep HBj.out l3a; have o5 := cell_keep HBj.out l3b; have o6 := cell_keep HBj.out l3c; have o7 := cell_keep HBj.out l3d; clear hoj hbj)
      | (go_at_call 28; refine (eqStep_is _ _ s3 s3 _ true (sameP_self _) (HXR3.out.keep HBj.out) HOj.out.reads).mono ?_; rintro e w23 ⟨rfl, hbk⟩; have HBk := Lib.hid (ex_keep HBj.out hbk); have q0 := cell_keep hbk o0; have q1 := cell_keep hbk o1; have q2 := cell_keep hbk o2; have q3 := cell_keep hbk o3; have q4 := cell_keep hbk o4; have q5 := cell_keep hbk o5; have q6 := cell_keep hbk o6; have q7 := cell_keep hbk o7; clear hbk))
  have hb := HBk.out
  clear fa0 fb0 fc0 fa3 fb3 fc3 fd3 l0a l0b l0c l3a l3b l3c l3d o0 q0 o1 q1 o2 q2 o3 q3 o4 q4 o5 q5 o6 q6 o7 q7 ea eb HBj HBk HOj HSW3 HXR3
  replace HK0 := Lib.hid (HK0.out.below z0 hb)
  replace z0 : w9.heap.size ≤ w23.heap.size := Nat.le_trans z0 hb.size
  replace HK1 := Lib.hid (HK1.out.below z1 hb)
  replace z1 : w10.heap.size ≤ w23.heap.size := Nat.le_trans z1 hb.size
  replace HK2 := Lib.hid (HK2.out.below z2 hb)
  replace z2 : w11.heap.size ≤ w23.heap.size := Nat.le_trans z2 hb.size
  replace HK3 := Lib.hid (HK3.out.below z3 hb)
  replace z3 : w13.heap.size ≤ w23.heap.size := Nat.le_trans z3 hb.size
  replace HKg := Lib.hid (HKg.out.below zg hb)
  replace zg : w14.heap.size ≤ w23.heap.size := Nat.le_trans zg hb.size
  replace HBs := Lib.hid (ex_keep HBs.out hb)
  clear hb
  have l0a := HK0.out.cell (by omega) HCX0.out.1
  have l0b := HK0.out.cell (by omega) HCX0.out.2.1
  have l0c := HK0.out.cell (by omega) HCX0.out.2.2
  go_wp2_with fail
  refine (markTheory_go _ _ s0 _ w9 _ HX0.out HK0.out z0 HF0.out (by omega) (by omega)).mono ?_
  rintro e w24 ⟨k0, rfl, hka0, hkb0, wa, hb, hout⟩
  have hzo := hout.size
  replace HK1 := Lib.hid ((HK1.out.below z1 hb).outside hout (by omega))
  replace z1 : w10.heap.size ≤ w24.heap.size := by have := hb.size; omega
  replace HK2 := Lib.hid ((HK2.out.below z2 hb).outside hout (by omega))
  replace z2 : w11.heap.size ≤ w24.heap.size := by have := hb.size; omega
  replace HK3 := Lib.hid ((HK3.out.below z3 hb).outside hout (by omega))
  replace z3 : w13.heap.size ≤ w24.heap.size := by have := hb.size; omega
  replace HKg := Lib.hid ((HKg.out.below zg hb).outside hout (by omega))
  replace zg : w14.heap.size ≤ w24.heap.size := by have := hb.size; omega
  replace HBs := Lib.hid ((ex_keep HBs.out hb).trans (hout.below.mono (by omega)))
  clear hb hout hzo HK0 z0 HX0 l0a l0b l0c
  go_wp2_with fail
  refine (markIntS_go _ _ xs1 _ w10 _ HX1.out HK1.out z1 (by omega) (by omega) (by omega)).mono ?_
  rintro e w25 ⟨k1, rfl, hka1, hkb1, wa, hb, hout⟩
  have hzo := hout.size
  replace HK2 := Lib.hid ((HK2.out.below z2 hb).outside hout (by omega))
  replace z2 : w11.heap.size ≤ w25.heap.size := by have := hb.size; omega
  replace HK3 := Lib.hid ((HK3.out.below z3 hb).outside hout (by omega))
  replace z3 : w13.heap.size ≤ w25.heap.size := by have := hb.size; omega
  replace HKg := Lib.hid ((HKg.out.below zg hb).outside hout (by omega))
  replace zg : w14.heap.size ≤ w25.heap.size := by have := hb.size; omega
  replace HBs := Lib.hid ((ex_keep HBs.out hb).trans (hout.below.mono (by omega)))
  clear hb hout hzo HK1 z1 HX1
  go_wp2_with fail
  refine (markIntS_go _ _ xs2 _ w11 _ HX2.out HK2.out z2 (by omega) (by omega) (by omega)).mono ?_
  rintro e w26 ⟨k2, rfl, hka2, hkb2, wa, hb, hout⟩
  have hzo := hout.size
  replace HK3 := Lib.hid ((HK3.out.below z3 hb).outside hout (by omega))
  replace z3 : w13.heap.size ≤ w26.heap.size := by have := hb.size; omega
  replace HKg := Lib.hid ((HKg.out.below zg hb).outside hout (by omega))
  replace zg : w14.heap.size ≤ w26.heap.size := by have := hb.size; omega
  replace HBs := Lib.hid ((ex_keep HBs.out hb).trans (hout.below.mono (by omega)))
  clear hb hout hzo HK2 z2 HX2
  have l3a := HK3.out.cell (by omega) HCX3.out.1
  have l3b := HK3.out.cell (by omega) HCX3.out.2.1
  have l3c := HK3.out.cell (by omega) HCX3.out.2.2.1
  have l3d := HK3.out.cell (by omega) HCX3.out.2.2.2
  go_wp2_with fail
  refine (markStep_go _ _ s3 _ w13 _ HX3.out HK3.out z3 HF3.out (by omega) (by omega)).mono ?_
  rintro e w27 ⟨k3, rfl, hka3, hkb3, wa, hb, hout⟩
  have hzo := hout.size
  replace HKg := Lib.hid ((HKg.out.below zg hb).outside hout (by omega))
  replace zg : w14.heap.size ≤ w27.heap.size := by have := hb.size; omega
  replace HBs := Lib.hid ((ex_keep HBs.out hb).trans (hout.below.mono (by omega)))
  clear hb hout hzo HK3 z3 HX3 l3a l3b l3c l3d
  go_wp2_with fail
  refine (eqIntS_is _ _ R1 R1 _ true (sameI_self _) (HG.out.same HKg.out).reads (HZ.out.keep HBs.out).reads).mono ?_
  rintro e w28 ⟨rfl, hd⟩
  have hb := hd.below
  clear hd
  replace HKg := Lib.hid (HKg.out.below zg hb)
  replace zg : w14.heap.size ≤ w28.heap.size := Nat.le_trans zg hb.size
  replace HBs := Lib.hid (ex_keep HBs.out hb)
  clear hb
  go_wp2_with fail
  refine (markIntS_g _ _ R1 w14 _ HG.out HKg.out zg HLEN.out).mono ?_
  rintro e w29 ⟨K, rfl, hK0, hheld, wa, hb, hout⟩
  have HH := Lib.hid hheld
  have hzo := hout.size
  replace HBs := Lib.hid ((ex_keep HBs.out hb).trans (hout.below.mono (by omega)))
  clear hb hout hzo hheld HKg zg HG
  have HKh : Hid (Keeps w13.heap.size w29 w29) := Keeps.refl _ _
  have zh : w29.heap.size ≤ w29.heap.size := Nat.le_refl _
  have ek : (K != K) = false := by simp
  go_wp2_with fail
  refine (HH.out _ HKh.out).mono ?_
  rintro e w30 ⟨rfl, hb⟩
  replace HKh := Lib.hid (HKh.out.below zh hb)
  replace zh : w29.heap.size ≤ w30.heap.size := Nat.le_trans zh hb.size
  replace HBs := Lib.hid (ex_keep HBs.out hb)
  clear hb
  have fa0 := cell_keep HBs.out HC.out.1
  have fb0 := cell_keep HBs.out HC.out.2.1
  have fc0 := cell_keep HBs.out HC.out.2.2.1
  have fa3 := cell_keep HBs.out HC.out.2.2.2.1
  have fb3 := cell_keep HBs.out HC.out.2.2.2.2.1
  have fc3 := cell_keep HBs.out HC.out.2.2.2.2.2.1
  have fd3 := cell_keep HBs.out HC.out.2.2.2.2.2.2
  go_wp2_with fail
  refine wp_region_held_drew (S := (fun w' => w'.cell? ⟨w.heap.size, 0, none⟩ = some (.int .i64 s0.over.sorts) ∧ w'.cell? ⟨w.heap.size, 1, none⟩ = some (.slice A0a s0.over.ops.length c0a) ∧ w'.cell? ⟨w.heap.size, 2, none⟩ = some (.slice A0b s0.eqs.length c0b) ∧ w'.cell? ⟨w.heap.size + 1, 0, none⟩ = some (.int .i64 s3.ax) ∧ w'.cell? ⟨w.heap.size + 1, 1, none⟩ = some (.bool s3.back) ∧ w'.cell? ⟨w.heap.size + 1, 2, none⟩ = some (.int .i64 s3.at_) ∧ w'.cell? ⟨w.heap.size + 1, 3, none⟩ = some (.slice A3a s3.terms.length c3a))) (by kernel_rfl) ?_ (fun hHeld => ?_)
  · exact ⟨fa0, fb0, fc0, fa3, fb3, fc3, fd3⟩
  refine wpAnyH_take (i := 0) (oi := _) (v := ?_) rfl (by kernel_rfl) (by kernel_rfl) (by kernel_rfl) (fun _ _ _ h => h) (Or.inl ⟨by rfl, ?_⟩) (by assumption) ?_
  rotate_left
  · first | (intro w' hSw; (try dsimp only at hSw); go_simp; done) | (intro w' hSw; (try dsimp only at hSw); go_simp; with_reducible rfl)
  try simp only [Act.put, List.getElem_toArray, List.getElem_cons_zero, List.getElem_cons_succ, List.setIfInBounds_toArray, List.set_cons_zero, List.set_cons_succ]
  refine wpAnyH_take (i := 2) (oi := _) (v := ?_) rfl (by kernel_rfl) (by kernel_rfl) (by kernel_rfl) (fun _ _ _ h => h) (Or.inl ⟨by rfl, ?_⟩) (by assumption) ?_
  rotate_left
  · first | (intro w' hSw; (try dsimp only at hSw); go_simp; done) | (intro w' hSw; (try dsimp only at hSw); go_simp; with_reducible rfl)
  try simp only [Act.put, List.getElem_toArray, List.getElem_cons_zero, List.getElem_cons_succ, List.setIfInBounds_toArray, List.set_cons_zero, List.set_cons_succ]
  refine wpAnyH_take (i := 4) (oi := _) (v := ?_) rfl (by kernel_rfl) (by kernel_rfl) (by kernel_rfl) (fun _ _ _ h => h) (Or.inl ⟨by rfl, ?_⟩) (by assumption) ?_
  rotate_left
  · first | (intro w' hSw; (try dsimp only at hSw); go_simp; done) | (intro w' hSw; (try dsimp only at hSw); go_simp; with_reducible rfl)
  try simp only [Act.put, List.getElem_toArray, List.getElem_cons_zero, List.getElem_cons_succ, List.setIfInBounds_toArray, List.set_cons_zero, List.set_cons_succ]
  refine wpAnyH_take (i := 6) (oi := _) (v := ?_) rfl (by kernel_rfl) (by kernel_rfl) (by kernel_rfl) (fun _ _ _ h => h) (Or.inl ⟨by rfl, ?_⟩) (by assumption) ?_
  rotate_left
  · first | (intro w' hSw; (try dsimp only at hSw); go_simp; done) | (intro w' hSw; (try dsimp only at hSw); go_simp; with_reducible rfl)
  try simp only [Act.put, List.getElem_toArray, List.getElem_cons_zero, List.getElem_cons_succ, List.setIfInBounds_toArray, List.set_cons_zero, List.set_cons_succ]
  refine wpAnyH_ready (rs := [1]) (by kernel_rfl) (by simp) ?_
  refine AllReadyH.cons (o := _) rfl (fun K hK => ?_) AllReadyH.nil
  go_simp
  refine (toTheory_any _ s0 _ (HW0.out.keep (ex_drew (ex_keep HB.out HBs.out))) HF0.out).mono ?_
  rintro e w31 ⟨y0, rfl, ho, hb⟩
  replace hb := ex_undrew hb
  replace fa0 := cell_keep hb fa0
  replace fb0 := cell_keep hb fb0
  replace fc0 := cell_keep hb fc0
  replace fa3 := cell_keep hb fa3
  replace fb3 := cell_keep hb fb3
  replace fc3 := cell_keep hb fc3
  replace fd3 := cell_keep hb fd3
  replace HKh := Lib.hid (HKh.out.below zh hb)
  replace zh : w29.heap.size ≤ w31.heap.size := Nat.le_trans zh hb.size
  replace HBs := Lib.hid (ex_keep HBs.out hb)
  clear hb
  have PP0 := Lib.hid ho.reads
  obtain ⟨AQ0a, cQ0a, AQ0b, cQ0b, rfl⟩ := ho.reads.form
  clear ho
  go_wp2_with fail
  refine hK.out _ _ ?_ (fun hHeld => ?_)
  · exact ⟨fa0, fb0, fc0, fa3, fb3, fc3, fd3⟩
  clear hK K
  try simp only [Act.put, List.getElem_toArray, List.getElem_cons_zero, List.getElem_cons_succ, List.setIfInBounds_toArray, List.set_cons_zero, List.set_cons_succ]
  refine wpAnyH_ready (rs := [3]) (by kernel_rfl) (by simp) ?_
  refine AllReadyH.cons (o := _) rfl (fun K hK => ?_) AllReadyH.nil
  go_simp
  refine (toIntS_any _ xs1 _ (HW1.out.keep (ex_keep HB.out HBs.out)) (by omega)).mono ?_
  rintro e w32 ⟨y1, rfl, ho, hb⟩
  replace fa0 := cell_keep hb fa0
  replace fb0 := cell_keep hb fb0
  replace fc0 := cell_keep hb fc0
  replace fa3 := cell_keep hb fa3
  replace fb3 := cell_keep hb fb3
  replace fc3 := cell_keep hb fc3
  replace fd3 := cell_keep hb fd3
  replace PP0 := Lib.hid (PP0.out.keep hb)
  replace HKh := Lib.hid (HKh.out.below zh hb)
  replace zh : w29.heap.size ≤ w32.heap.size := Nat.le_trans zh hb.size
  replace HBs := Lib.hid (ex_keep HBs.out hb)
  clear hb
  have PP1 := Lib.hid ho.reads
  obtain ⟨AQ1, cQ1, rfl, -⟩ := ho.reads.form
  clear ho
  go_wp2_with fail
  refine hK.out _ _ ?_ (fun hHeld => ?_)
  · exact ⟨fa0, fb0, fc0, fa3, fb3, fc3, fd3⟩
  clear hK K
  try simp only [Act.put, List.getElem_toArray, List.getElem_cons_zero, List.getElem_cons_succ, List.setIfInBounds_toArray, List.set_cons_zero, List.set_cons_succ]
  refine wpAnyH_ready (rs := [5]) (by kernel_rfl) (by simp) ?_
  refine AllReadyH.cons (o := _) rfl (fun K hK => ?_) AllReadyH.nil
  go_simp
  refine (toIntS_any _ xs2 _ (HW2.out.keep (ex_keep HB.out HBs.out)) (by omega)).mono ?_
  rintro e w33 ⟨y2, rfl, ho, hb⟩
  replace fa0 := cell_keep hb fa0
  replace fb0 := cell_keep hb fb0
  replace fc0 := cell_keep hb fc0
  replace fa3 := cell_keep hb fa3
  replace fb3 := cell_keep hb fb3
  replace fc3 := cell_keep hb fc3
  replace fd3 := cell_keep hb fd3
  replace PP0 := Lib.hid (PP0.out.keep hb)
  replace PP1 := Lib.hid (PP1.out.keep hb)
  replace HKh := Lib.hid (HKh.out.below zh hb)
  replace zh : w29.heap.size ≤ w33.heap.size := Nat.le_trans zh hb.size
  replace HBs := Lib.hid (ex_keep HBs.out hb)
  clear hb
  have PP2 := Lib.hid ho.reads
  obtain ⟨AQ2, cQ2, rfl, -⟩ := ho.reads.form
  clear ho
  go_wp2_with fail
  refine hK.out _ _ ?_ (fun hHeld => ?_)
  · exact ⟨fa0, fb0, fc0, fa3, fb3, fc3, fd3⟩
  clear hK K
  try simp only [Act.put, List.getElem_toArray, List.getElem_cons_zero, List.getElem_cons_succ, List.setIfInBounds_toArray, List.set_cons_zero, List.set_cons_succ]
  refine wpAnyH_ready (rs := [7]) (by kernel_rfl) (by simp) ?_
  refine AllReadyH.cons (o := _) rfl (fun K hK => ?_) AllReadyH.nil
  go_simp
  refine (toStep_any _ s3 _ (HW3.out.keep (ex_keep HB.out HBs.out)) HF3.out).mono ?_
  rintro e w34 ⟨y3, rfl, ho, hb⟩
  replace fa0 := cell_keep hb fa0
  replace fb0 := cell_keep hb fb0
  replace fc0 := cell_keep hb fc0
  replace fa3 := cell_keep hb fa3
  replace fb3 := cell_keep hb fb3
  replace fc3 := cell_keep hb fc3
  replace fd3 := cell_keep hb fd3
  replace PP0 := Lib.hid (PP0.out.keep hb)
  replace PP1 := Lib.hid (PP1.out.keep hb)
  replace PP2 := Lib.hid (PP2.out.keep hb)
  replace HKh := Lib.hid (HKh.out.below zh hb)
  replace zh : w29.heap.size ≤ w34.heap.size := Nat.le_trans zh hb.size
  replace HBs := Lib.hid (ex_keep HBs.out hb)
  clear hb
  have PP3 := Lib.hid ho.reads
  obtain ⟨AQ3a, cQ3a, rfl⟩ := ho.reads.form
  clear ho
  go_wp2_with fail
  refine hK.out _ _ ?_ (fun hHeld => ?_)
  · exact ⟨fa0, fb0, fc0, fa3, fb3, fc3, fd3⟩
  clear hK K
  try simp only [Act.put, List.getElem_toArray, List.getElem_cons_zero, List.getElem_cons_succ, List.setIfInBounds_toArray, List.set_cons_zero, List.set_cons_succ]
  refine wpAnyH_ready (rs := [8]) (by kernel_rfl) (by simp) ?_
  refine AllReadyH.cons (o := _) rfl (fun K hK => ?_) AllReadyH.nil
  go_simp
  refine (stepDo_any s0 xs1 xs2 s3 _ _ _ _ _ HS0.out HS2.out HS3.out PP0.out PP1.out PP2.out PP3.out).mono ?_
  rw [HR.out]
  rintro e w35 ⟨g1, rfl, hog, hb⟩
  obtain ⟨Ah, ch, rfl, -⟩ := hog.reads.form
  have HG1 := Lib.hid hog.reads
  clear hog PP0 PP1 PP2 PP3
  replace fa0 := cell_keep hb fa0
  replace fb0 := cell_keep hb fb0
  replace fc0 := cell_keep hb fc0
  replace fa3 := cell_keep hb fa3
  replace fb3 := cell_keep hb fb3
  replace fc3 := cell_keep hb fc3
  replace fd3 := cell_keep hb fd3
  replace HKh := Lib.hid (HKh.out.below zh hb)
  replace zh : w29.heap.size ≤ w35.heap.size := Nat.le_trans zh hb.size
  replace HBs := Lib.hid (ex_keep HBs.out hb)
  clear hb
  go_wp2_with fail
  refine hK.out _ _ ?_ (fun hHeld => ?_)
  · exact ⟨fa0, fb0, fc0, fa3, fb3, fc3, fd3⟩
  clear hK K
  try simp only [Act.put, List.getElem_toArray, List.getElem_cons_zero, List.getElem_cons_succ, List.setIfInBounds_toArray, List.set_cons_zero, List.set_cons_succ]
  refine wpAnyH_take (i := 9) (oi := _) (v := ?_) rfl (by kernel_rfl) (by kernel_rfl) (by kernel_rfl) (fun _ _ _ h => h) (Or.inl ⟨by rfl, ?_⟩) (by assumption) ?_
  rotate_left
  · first | (intro w' hSw; (try dsimp only at hSw); go_simp; done) | (intro w' hSw; (try dsimp only at hSw); go_simp; with_reducible rfl)
  try simp only [Act.put, List.getElem_toArray, List.getElem_cons_zero, List.getElem_cons_succ, List.setIfInBounds_toArray, List.set_cons_zero, List.set_cons_succ]
  refine wpAnyH_take (i := 10) (oi := _) (v := ?_) rfl (by kernel_rfl) (by kernel_rfl) (by kernel_rfl) (fun _ _ _ h => h) (Or.inl ⟨by rfl, ?_⟩) (by assumption) ?_
  rotate_left
  · first | (intro w' hSw; (try dsimp only at hSw); go_simp; done) | (intro w' hSw; (try dsimp only at hSw); go_simp; with_reducible rfl)
  try simp only [Act.put, List.getElem_toArray, List.getElem_cons_zero, List.getElem_cons_succ, List.setIfInBounds_toArray, List.set_cons_zero, List.set_cons_succ]
  refine wpAnyH_take (i := 11) (oi := _) (v := ?_) rfl (by kernel_rfl) (by kernel_rfl) (by kernel_rfl) (fun _ _ _ h => h) (Or.inl ⟨by rfl, ?_⟩) (by assumption) ?_
  rotate_left
  · first | (intro w' hSw; (try dsimp only at hSw); go_simp; done) | (intro w' hSw; (try dsimp only at hSw); go_simp; with_reducible rfl)
  try simp only [Act.put, List.getElem_toArray, List.getElem_cons_zero, List.getElem_cons_succ, List.setIfInBounds_toArray, List.set_cons_zero, List.set_cons_succ]
  refine wpAnyH_take (i := 12) (oi := _) (v := ?_) rfl (by kernel_rfl) (by kernel_rfl) (by kernel_rfl) (fun _ _ _ h => h) (Or.inl ⟨by rfl, ?_⟩) (by assumption) ?_
  rotate_left
  · first | (intro w' hSw; (try dsimp only at hSw); go_simp; done) | (intro w' hSw; (try dsimp only at hSw); go_simp; with_reducible rfl)
  try simp only [Act.put, List.getElem_toArray, List.getElem_cons_zero, List.getElem_cons_succ, List.setIfInBounds_toArray, List.set_cons_zero, List.set_cons_succ]
  refine wpAnyH_take (i := 13) (oi := _) (v := ?_) rfl (by kernel_rfl) (by kernel_rfl) (by kernel_rfl) (fun _ _ _ h => h) (Or.inl ⟨by rfl, ?_⟩) (by assumption) ?_
  rotate_left
  · first | (intro w' hSw; (try dsimp only at hSw); go_simp; done) | (intro w' hSw; (try dsimp only at hSw); go_simp; with_reducible rfl)
  try simp only [Act.put, List.getElem_toArray, List.getElem_cons_zero, List.getElem_cons_succ, List.setIfInBounds_toArray, List.set_cons_zero, List.set_cons_succ]
  refine wpAnyH_done (by kernel_rfl) ?_ _
  clear fa0 fb0 fc0 fa3 fb3 fc3 fd3
  try simp only at HG1 ⊢
  go_wp2_with fail
  refine (eqIntS_is _ _ R1 R1 _ true (sameI_self _) HG1.out (HZ.out.keep HBs.out).reads).mono ?_
  rintro e w36 ⟨rfl, hd⟩
  have hb := hd.below
  clear hd
  replace HKh := Lib.hid (HKh.out.below zh hb)
  replace zh : w29.heap.size ≤ w36.heap.size := Nat.le_trans zh hb.size
  replace HBs := Lib.hid (ex_keep HBs.out hb)
  clear hb
  clear HG1
  go_wp2_with fail
  refine (HH.out _ HKh.out).mono ?_
  rintro e w37 ⟨rfl, hb⟩
  replace HKh := Lib.hid (HKh.out.below zh hb)
  replace zh : w29.heap.size ≤ w37.heap.size := Nat.le_trans zh hb.size
  replace HBs := Lib.hid (ex_keep HBs.out hb)
  clear hb
  go_wp2
  go_ret
  exact ⟨rfl, ex_keep HB.out HBs.out⟩

set_option maxRecDepth 100000 in
theorem lifted_FnExactStepDo (os : Os) (started : os.Started) (H : Type) (enc : TypeId × Value → H) :
    ReturnsInHanded {} Try.checked os 5 .any (Rows.fnExactStepDoSpec.pre6 enc Try.prog Try.f5 Rows.fnExactStepDoRow.domain false) (Rows.fnExactStepDoSpec.post enc Try.prog Try.f5 false true false false) := by
  refine returnsInHanded_of_change (C := Try.checked) own started (by kernel_rfl) Try.func5
    (ChangeSpec.witness6 (enc := enc) (C := Try.checked) false ⟨#[], #[.agg #[.int .i64 0, .slice none 0 0, .slice none 0 0], .slice none 0 0, .slice none 0 0, .agg #[.int .i64 0, .bool false, .int .i64 0, .slice none 0 0]], []⟩ 8 (by kernel_rfl) (by kernel_rfl) (by kernel_rfl) (by kernel_rfl)) ?_
  intro W base args ds gs before hval0 hW hcnd _
  have hval : ∀ (j : Nat) t v, Try.f5.params[j]? = some t → args[j]? = some v → Value.okWide Try.prog W .any base t v := hval0
  have hW' := hW
  obtain ⟨p, q, hA0, hV, rfl, hfz, hnd⟩ := hW
  have hA : DataW.TrodAll enc Try.prog W 0 (fun _ => true) true Try.f5.params.toList args.toList ds p := hA0
  rw [Try.params5] at hA hval
  obtain ⟨v0, vs0, d0, ds0, p0, q0, hargs, rfl, rfl, h0, r0⟩ := trodAll_cons hA
  obtain ⟨v1, vs1, d1, ds1, p1, q1, rfl, rfl, rfl, h1, r1⟩ := trodAll_cons r0
  obtain ⟨v2, vs2, d2, ds2, p2, q2, rfl, rfl, rfl, h2, r2⟩ := trodAll_cons r1
  obtain ⟨v3, vs3, d3, ds3, p3, q3, rfl, rfl, rfl, h3, r3⟩ := trodAll_cons r2
  obtain ⟨rfl, rfl, rfl⟩ := trodAll_nil r3
  obtain rfl : args = #[v0, v1, v2, v3] := by cases args; simp_all
  obtain ⟨rfl, rfl⟩ := trodVars_none hV
  have k0 := h0
  have lt0 : ∀ x ∈ p0, x.block < W.heap.size := by obtain ⟨m, hm⟩ := k0; exact DataW.trod_lt m _ _ _ hm
  obtain ⟨s0, w0⟩ : ∃ s, RThy W v0 s ∧ SmallT s := thy_of (hval 0 40 v0 rfl rfl) h0
  have k1 := h1
  have lt1 : ∀ x ∈ p1, x.block < W.heap.size := by obtain ⟨m, hm⟩ := k1; exact DataW.trod_lt m _ _ _ hm
  obtain ⟨s1, w1⟩ : ∃ xs, RInts W v1 xs ∧ Small xs := ints_of (hval 1 25 v1 rfl rfl) h1
  have k2 := h2
  have lt2 : ∀ x ∈ p2, x.block < W.heap.size := by obtain ⟨m, hm⟩ := k2; exact DataW.trod_lt m _ _ _ hm
  obtain ⟨s2, w2⟩ : ∃ xs, RInts W v2 xs ∧ Small xs := ints_of (hval 2 25 v2 rfl rfl) h2
  have k3 := h3
  have lt3 : ∀ x ∈ p3, x.block < W.heap.size := by obtain ⟨m, hm⟩ := k3; exact DataW.trod_lt m _ _ _ hm
  obtain ⟨s3, w3⟩ : ∃ s, RStep W v3 s ∧ SmallP s := step_of (hval 3 50 v3 rfl rfl) h3
  clear hA0 hval0
  refine (walk_FnExactStepDo _ s0 _ s1 _ s2 _ s3 W w0 w1 w2 w3).mono fun e W' ⟨he, bel⟩ => ?_
  subst he
  exact ⟨_, rfl, _, _, _, [], _, [], hW', trodAll_mk1 (shut_bool Try.underlying4 _), (trodAll_cons_mk (Below.trod laidOut (by kernel_rfl) (of_decide_eq_true (by kernel_rfl)) k0 bel lt0) (trodAll_cons_mk (Below.trod laidOut (by kernel_rfl) (of_decide_eq_true (by kernel_rfl)) k1 bel lt1) (trodAll_cons_mk (Below.trod laidOut (by kernel_rfl) (of_decide_eq_true (by kernel_rfl)) k2 bel lt2) (trodAll_cons_mk (Below.trod laidOut (by kernel_rfl) (of_decide_eq_true (by kernel_rfl)) k3 bel lt3) trodAll_mk0)))), rfl, bel.frame _, fun h => by cases h⟩

theorem over_FnExactStepDo : Rows.fnExactStepDoRow.holds Try.pinned (OpenSpec.ofChange Rows.fnExactStepDoSpec) :=
  OpenClaim.holds_of_wide 5 Try.f5 rfl rfl rfl rfl rfl rfl rfl ⟨rfl, rfl, rfl, rfl, rfl⟩ rfl rfl rfl rfl rfl (by kernel_rfl) Try.func5 (by kernel_rfl)
    (of_decide_eq_true (by kernel_rfl)) (by unfold Func.isWrapper; first | (rw [if_pos (by decide +kernel)]; kernel_rfl) | (rw [if_neg (by decide +kernel)]; exact ⟨rfl, rfl⟩))
    (fun os started H enc _ => lifted_FnExactStepDo os started H enc)

theorem proved_FnExactStepDo : Rows.FnExactStepDoSaid := over_FnExactStepDo
end Go.Proofs.Ytdgakjnkjofgnaa
