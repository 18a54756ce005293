/- FnExactProofUnder answers true at every theory, equation, steps, row and place. No condition. -/
import Derived.Test.YtonainidjkcoeacThyG
import Derived.Test.YtonainidjkcoeacSz2
import Derived.Test.YtonainidjkcoeacUnderAll
namespace Go.Proofs.Ytonainidjkcoeac
open Go.ChangeShapes Go.WideShapes Go.ChangeAt Go.RowKit
set_option linter.unusedVariables false
set_option linter.unusedSimpArgs false

theorem toStepS_q (v : Value) (ps : List MStep) (w : World) (h : RSteps w v ps) (hs : FitsQ ps) :
    Calls Try.prog 10 #[v] w fun e w' => ∃ u, e = .returned u ∧ OSteps w' w.heap.size u ps ∧ Below w.heap.size w w' := toStepS_any v ps w h hs.1
theorem totP_moved : ∀ (ps : List MStep) (a : Int), totP (movedM ps a) = totP ps
  | [], a => rfl
  | p :: ps, a => by
    have := totP_moved ps a
    simp only [movedM, List.map_cons, totP, moveP] at this ⊢
    omega
theorem underM_fitsQ {t : MThy} {e : MEq} {ps : List MStep} {u : List Int} {a : Int} (h : FitsQ ps) : FitsQ (underM t e ps u a).1 := by
  unfold underM
  split
  · exact ⟨movedM_fits h.1, by rw [totP_moved]; exact h.2⟩
  · exact ⟨⟨by simp, fun p hp => by simp at hp⟩, by simp [totP]⟩

set_option maxHeartbeats 3200000 in
set_option maxRecDepth 100000 in
theorem walk_FnExactProofUnder (v0 : Value) (s0 : MThy) (v1 : Value) (s1 : MEq) (v2 : Value) (xs2 : List MStep) (v3 : Value) (xs3 : List Int) (a4 : Int) (w : World) (h0 : RThy w v0 s0 ∧ SmallT s0) (h1 : REq w v1 s1 ∧ SmallE s1) (h2 : RSteps w v2 xs2 ∧ SmallPs xs2) (h3 : RInts w v3 xs3 ∧ Small xs3) :
    Calls Try.prog 5 #[v0, v1, v2, v3, .int .i64 a4] w fun e w' => e = .returned (.bool true) ∧ Below w.heap.size w w' := by
  have HB : Hid (Below w.heap.size w w) := Below.refl _ _
  have HS0 := Lib.hid h0.2
  replace h0 := h0.1
  obtain ⟨A0a, c0a, A0b, c0b, rfl⟩ := h0.form
  have HW0 := Lib.hid h0
  have hb := below_alloc (w) (.cells #[.int .i64 s0.over.sorts, .slice A0a s0.over.ops.length c0a, .slice A0b s0.eqs.length c0b] 35)
  have fa0 := (bx3 (w) (.int .i64 s0.over.sorts) (.slice A0a s0.over.ops.length c0a) (.slice A0b s0.eqs.length c0b) 35).1
  have fb0 := (bx3 (w) (.int .i64 s0.over.sorts) (.slice A0a s0.over.ops.length c0a) (.slice A0b s0.eqs.length c0b) 35).2.1
  have fc0 := (bx3 (w) (.int .i64 s0.over.sorts) (.slice A0a s0.over.ops.length c0a) (.slice A0b s0.eqs.length c0b) 35).2.2
  replace HB := Lib.hid (ex_keep HB.out hb)
  clear hb h0
  have HS1 := Lib.hid h1.2
  replace h1 := h1.1
  obtain ⟨A1a, c1a, A1b, c1b, A1c, c1c, rfl⟩ := h1.form
  have HW1 := Lib.hid h1
  have hb := below_alloc (w.alloc (.cells #[.int .i64 s0.over.sorts, .slice A0a s0.over.ops.length c0a, .slice A0b s0.eqs.length c0b] 35)) (.cells #[.slice A1a s1.vars.length c1a, .slice A1b s1.left.length c1b, .slice A1c s1.right.length c1c] 38)
  replace fa0 := cell_keep hb fa0
  replace fb0 := cell_keep hb fb0
  replace fc0 := cell_keep hb fc0
  have fa1 := (bx3 (w.alloc (.cells #[.int .i64 s0.over.sorts, .slice A0a s0.over.ops.length c0a, .slice A0b s0.eqs.length c0b] 35)) (.slice A1a s1.vars.length c1a) (.slice A1b s1.left.length c1b) (.slice A1c s1.right.length c1c) 38).1
  have fb1 := (bx3 (w.alloc (.cells #[.int .i64 s0.over.sorts, .slice A0a s0.over.ops.length c0a, .slice A0b s0.eqs.length c0b] 35)) (.slice A1a s1.vars.length c1a) (.slice A1b s1.left.length c1b) (.slice A1c s1.right.length c1c) 38).2.1
  have fc1 := (bx3 (w.alloc (.cells #[.int .i64 s0.over.sorts, .slice A0a s0.over.ops.length c0a, .slice A0b s0.eqs.length c0b] 35)) (.slice A1a s1.vars.length c1a) (.slice A1b s1.left.length c1b) (.slice A1c s1.right.length c1c) 38).2.2
  simp only [World.size_alloc] at fa1 fb1 fc1
  replace HB := Lib.hid (ex_keep HB.out hb)
  clear hb h1
  have HW2 := Lib.hid h2.1
  have HS2 := Lib.hid h2.2
  have hl2 := h2.1.len
  obtain ⟨A2, c2, rfl, -⟩ := h2.1.form
  clear h2
  have HW3 := Lib.hid h3.1
  have HS3 := Lib.hid h3.2
  have hl3 := h3.1.len
  obtain ⟨A3, c3, rfl, -⟩ := h3.1.form
  clear h3
  by_cases hn3 : 1048576 < (xs3.length : Int)
  · go_enter Try.func5, Try.ntmps5
    go_wp2
    go_ret
    exact ⟨rfl, HB.out⟩
  go_enter Try.func5, Try.ntmps5
  go_wp2_with fail
  refine (szTheory_any _ s0 _ _ (HW0.out.keep HB.out) (by omega) (by omega)).mono ?_
  rintro e w1 ⟨r1, rfl, hr, hb⟩
  replace fa0 := cell_keep hb fa0
  replace fb0 := cell_keep hb fb0
  replace fc0 := cell_keep hb fc0
  replace fa1 := cell_keep hb fa1
  replace fb1 := cell_keep hb fb1
  replace fc1 := cell_keep hb fc1
  replace HB := Lib.hid (ex_keep HB.out hb)
  clear hb
  by_cases hneg1 : r1 < 0
  · clear hr
    go_wp2
    go_ret
    exact ⟨rfl, HB.out⟩
  obtain ⟨hp1, hq1, hfit⟩ := hr.resolve_left hneg1
  have HF0 := Lib.hid hfit
  clear hr hfit
  go_wp2_with fail
  refine (szEq_any _ s1 _ _ (HW1.out.keep HB.out) (by omega) (by omega)).mono ?_
  rintro e w2 ⟨r2, rfl, hr, hb⟩
  replace fa0 := cell_keep hb fa0
  replace fb0 := cell_keep hb fb0
  replace fc0 := cell_keep hb fc0
  replace fa1 := cell_keep hb fa1
  replace fb1 := cell_keep hb fb1
  replace fc1 := cell_keep hb fc1
  replace HB := Lib.hid (ex_keep HB.out hb)
  clear hb
  by_cases hneg2 : r2 < 0
  · clear hr
    go_wp2
    go_ret
    exact ⟨rfl, HB.out⟩
  obtain ⟨hp2, hq2, hfit⟩ := hr.resolve_left hneg2
  have HF1 := Lib.hid hfit
  clear hr hfit
  go_wp2_with fail
  refine (szStepS_tot _ xs2 _ _ (HW2.out.keep HB.out) (by omega) (by omega)).mono ?_
  rintro e w3 ⟨r3, rfl, hr, hb⟩
  replace fa0 := cell_keep hb fa0
  replace fb0 := cell_keep hb fb0
  replace fc0 := cell_keep hb fc0
  replace fa1 := cell_keep hb fa1
  replace fb1 := cell_keep hb fb1
  replace fc1 := cell_keep hb fc1
  replace HB := Lib.hid (ex_keep HB.out hb)
  clear hb
  by_cases hneg3 : r3 < 0
  · clear hr
    go_wp2
    go_ret
    exact ⟨rfl, HB.out⟩
  obtain ⟨hp3, hq3, hfit⟩ := hr.resolve_left hneg3
  have HF2 := Lib.hid hfit
  clear hr hfit
  obtain ⟨R, hR⟩ : ∃ R, R = underM s0 s1 xs2 xs3 a4 := ⟨_, rfl⟩
  have HLEN := Lib.hid (show _ from underM_fitsQ (t := s0) (e := s1) (u := xs3) (a := a4) HF2.out)
  have HR := Lib.hid hR.symm
  rw [← hR] at HLEN
  clear hR
  go_wp2_with fail
  refine wp_region_held_drew (S := (fun w' => w'.cell? ⟨w.heap.size, 0, none⟩ = some (.int .i64 s0.over.sorts) ∧ w'.cell? ⟨w.heap.size, 1, none⟩ = some (.slice A0a s0.over.ops.length c0a) ∧ w'.cell? ⟨w.heap.size, 2, none⟩ = some (.slice A0b s0.eqs.length c0b) ∧ w'.cell? ⟨w.heap.size + 1, 0, none⟩ = some (.slice A1a s1.vars.length c1a) ∧ w'.cell? ⟨w.heap.size + 1, 1, none⟩ = some (.slice A1b s1.left.length c1b) ∧ w'.cell? ⟨w.heap.size + 1, 2, none⟩ = some (.slice A1c s1.right.length c1c))) (by kernel_rfl) ?_ (fun hHeld => ?_)
  · exact ⟨fa0, fb0, fc0, fa1, fb1, fc1⟩
  refine wpAnyH_take (i := 0) (oi := _) (v := ?_) rfl (by kernel_rfl) (by kernel_rfl) (by kernel_rfl) (fun _ _ _ h => h) (Or.inl ⟨by rfl, ?_⟩) (by assumption) ?_
  rotate_left
  · first | (intro w' hSw; (try dsimp only at hSw); go_simp; done) | (intro w' hSw; (try dsimp only at hSw); go_simp; with_reducible rfl)
  try simp only [Act.put, List.getElem_toArray, List.getElem_cons_zero, List.getElem_cons_succ, List.setIfInBounds_toArray, List.set_cons_zero, List.set_cons_succ]
  refine wpAnyH_take (i := 2) (oi := _) (v := ?_) rfl (by kernel_rfl) (by kernel_rfl) (by kernel_rfl) (fun _ _ _ h => h) (Or.inl ⟨by rfl, ?_⟩) (by assumption) ?_
  rotate_left
  · first | (intro w' hSw; (try dsimp only at hSw); go_simp; done) | (intro w' hSw; (try dsimp only at hSw); go_simp; with_reducible rfl)
  try simp only [Act.put, List.getElem_toArray, List.getElem_cons_zero, List.getElem_cons_succ, List.setIfInBounds_toArray, List.set_cons_zero, List.set_cons_succ]
  refine wpAnyH_take (i := 4) (oi := _) (v := ?_) rfl (by kernel_rfl) (by kernel_rfl) (by kernel_rfl) (fun _ _ _ h => h) (Or.inl ⟨by rfl, ?_⟩) (by assumption) ?_
  rotate_left
  · first | (intro w' hSw; (try dsimp only at hSw); go_simp; done) | (intro w' hSw; (try dsimp only at hSw); go_simp; with_reducible rfl)
  try simp only [Act.put, List.getElem_toArray, List.getElem_cons_zero, List.getElem_cons_succ, List.setIfInBounds_toArray, List.set_cons_zero, List.set_cons_succ]
  refine wpAnyH_take (i := 6) (oi := _) (v := ?_) rfl (by kernel_rfl) (by kernel_rfl) (by kernel_rfl) (fun _ _ _ h => h) (Or.inl ⟨by rfl, ?_⟩) (by assumption) ?_
  rotate_left
  · first | (intro w' hSw; (try dsimp only at hSw); go_simp; done) | (intro w' hSw; (try dsimp only at hSw); go_simp; with_reducible rfl)
  try simp only [Act.put, List.getElem_toArray, List.getElem_cons_zero, List.getElem_cons_succ, List.setIfInBounds_toArray, List.set_cons_zero, List.set_cons_succ]
  refine wpAnyH_take (i := 8) (oi := _) (v := ?_) rfl (by kernel_rfl) (by kernel_rfl) (by kernel_rfl) (fun _ _ _ h => h) (Or.inl ⟨by rfl, ?_⟩) (by assumption) ?_
  rotate_left
  · first | (intro w' hSw; (try dsimp only at hSw); go_simp; done) | (intro w' hSw; (try dsimp only at hSw); go_simp; with_reducible rfl)
  try simp only [Act.put, List.getElem_toArray, List.getElem_cons_zero, List.getElem_cons_succ, List.setIfInBounds_toArray, List.set_cons_zero, List.set_cons_succ]
  refine wpAnyH_ready (rs := [1]) (by kernel_rfl) (by simp) ?_
  refine AllReadyH.cons (o := _) rfl (fun K hK => ?_) AllReadyH.nil
  go_simp
  refine (toTheory_any _ s0 _ (HW0.out.keep (ex_drew HB.out)) HF0.out).mono ?_
  rintro e w4 ⟨y0, rfl, ho, hb⟩
  replace hb := ex_undrew hb
  replace fa0 := cell_keep hb fa0
  replace fb0 := cell_keep hb fb0
  replace fc0 := cell_keep hb fc0
  replace fa1 := cell_keep hb fa1
  replace fb1 := cell_keep hb fb1
  replace fc1 := cell_keep hb fc1
  replace HB := Lib.hid (ex_keep HB.out hb)
  clear hb
  have P0 := Lib.hid ho.reads
  obtain ⟨AY0a, cY0a, AY0b, cY0b, rfl⟩ := ho.reads.form
  clear ho
  go_wp2_with fail
  refine hK.out _ _ ?_ (fun hHeld => ?_)
  · exact ⟨fa0, fb0, fc0, fa1, fb1, fc1⟩
  clear hK K
  try simp only [Act.put, List.getElem_toArray, List.getElem_cons_zero, List.getElem_cons_succ, List.setIfInBounds_toArray, List.set_cons_zero, List.set_cons_succ]
  refine wpAnyH_ready (rs := [3]) (by kernel_rfl) (by simp) ?_
  refine AllReadyH.cons (o := _) rfl (fun K hK => ?_) AllReadyH.nil
  go_simp
  refine (toEq_any _ s1 _ (HW1.out.keep HB.out) HF1.out).mono ?_
  rintro e w5 ⟨y1, rfl, ho, hb⟩
  replace fa0 := cell_keep hb fa0
  replace fb0 := cell_keep hb fb0
  replace fc0 := cell_keep hb fc0
  replace fa1 := cell_keep hb fa1
  replace fb1 := cell_keep hb fb1
  replace fc1 := cell_keep hb fc1
  replace P0 := Lib.hid (P0.out.keep hb)
  replace HB := Lib.hid (ex_keep HB.out hb)
  clear hb
  have P1 := Lib.hid ho.reads
  obtain ⟨AY1a, cY1a, AY1b, cY1b, AY1c, cY1c, rfl⟩ := ho.reads.form
  clear ho
  go_wp2_with fail
  refine hK.out _ _ ?_ (fun hHeld => ?_)
  · exact ⟨fa0, fb0, fc0, fa1, fb1, fc1⟩
  clear hK K
  try simp only [Act.put, List.getElem_toArray, List.getElem_cons_zero, List.getElem_cons_succ, List.setIfInBounds_toArray, List.set_cons_zero, List.set_cons_succ]
  refine wpAnyH_ready (rs := [5]) (by kernel_rfl) (by simp) ?_
  refine AllReadyH.cons (o := _) rfl (fun K hK => ?_) AllReadyH.nil
  go_simp
  refine (toStepS_q _ xs2 _ (HW2.out.keep HB.out) HF2.out).mono ?_
  rintro e w6 ⟨y2, rfl, ho, hb⟩
  replace fa0 := cell_keep hb fa0
  replace fb0 := cell_keep hb fb0
  replace fc0 := cell_keep hb fc0
  replace fa1 := cell_keep hb fa1
  replace fb1 := cell_keep hb fb1
  replace fc1 := cell_keep hb fc1
  replace P0 := Lib.hid (P0.out.keep hb)
  replace P1 := Lib.hid (P1.out.keep hb)
  replace HB := Lib.hid (ex_keep HB.out hb)
  clear hb
  have P2 := Lib.hid ho.reads
  obtain ⟨AY2, cY2, rfl, -⟩ := ho.reads.form
  clear ho
  go_wp2_with fail
  refine hK.out _ _ ?_ (fun hHeld => ?_)
  · exact ⟨fa0, fb0, fc0, fa1, fb1, fc1⟩
  clear hK K
  try simp only [Act.put, List.getElem_toArray, List.getElem_cons_zero, List.getElem_cons_succ, List.setIfInBounds_toArray, List.set_cons_zero, List.set_cons_succ]
  refine wpAnyH_ready (rs := [7]) (by kernel_rfl) (by simp) ?_
  refine AllReadyH.cons (o := _) rfl (fun K hK => ?_) AllReadyH.nil
  go_simp
  refine (toIntS_any _ xs3 _ (HW3.out.keep HB.out) (by omega)).mono ?_
  rintro e w7 ⟨y3, rfl, ho, hb⟩
  replace fa0 := cell_keep hb fa0
  replace fb0 := cell_keep hb fb0
  replace fc0 := cell_keep hb fc0
  replace fa1 := cell_keep hb fa1
  replace fb1 := cell_keep hb fb1
  replace fc1 := cell_keep hb fc1
  replace P0 := Lib.hid (P0.out.keep hb)
  replace P1 := Lib.hid (P1.out.keep hb)
  replace P2 := Lib.hid (P2.out.keep hb)
  replace HB := Lib.hid (ex_keep HB.out hb)
  clear hb
  have P3 := Lib.hid ho.reads
  obtain ⟨AY3, cY3, rfl, -⟩ := ho.reads.form
  clear ho
  go_wp2_with fail
  refine hK.out _ _ ?_ (fun hHeld => ?_)
  · exact ⟨fa0, fb0, fc0, fa1, fb1, fc1⟩
  clear hK K
  try simp only [Act.put, List.getElem_toArray, List.getElem_cons_zero, List.getElem_cons_succ, List.setIfInBounds_toArray, List.set_cons_zero, List.set_cons_succ]
  refine wpAnyH_ready (rs := [9]) (by kernel_rfl) (by simp) ?_
  refine AllReadyH.cons (o := _) rfl (fun K hK => ?_) AllReadyH.nil
  go_simp
  refine (specProofUnder_any s0 s1 xs2 xs3 a4 _ _ _ _ _ HS2.out HS3.out HF2.out.1 P0.out P1.out P2.out P3.out).mono ?_
  rw [HR.out]
  rintro e w8 ⟨z0, rfl, hoz, hb⟩
  have HZ := Lib.hid hoz
  obtain ⟨Az, cz, rfl, -⟩ := hoz.reads.form
  clear hoz
  replace fa0 := cell_keep hb fa0
  replace fb0 := cell_keep hb fb0
  replace fc0 := cell_keep hb fc0
  replace fa1 := cell_keep hb fa1
  replace fb1 := cell_keep hb fb1
  replace fc1 := cell_keep hb fc1
  replace HB := Lib.hid (ex_keep HB.out hb)
  clear hb
  go_wp2_with fail
  refine hK.out _ _ ?_ (fun hHeld => ?_)
  · exact ⟨fa0, fb0, fc0, fa1, fb1, fc1⟩
  clear hK K
  try simp only [Act.put, List.getElem_toArray, List.getElem_cons_zero, List.getElem_cons_succ, List.setIfInBounds_toArray, List.set_cons_zero, List.set_cons_succ]
  refine wpAnyH_take (i := 10) (oi := _) (v := ?_) rfl (by kernel_rfl) (by kernel_rfl) (by kernel_rfl) (fun _ _ _ h => h) (Or.inl ⟨by rfl, ?_⟩) (by assumption) ?_
  rotate_left
  · first | (intro w' hSw; (try dsimp only at hSw); go_simp; done) | (intro w' hSw; (try dsimp only at hSw); go_simp; with_reducible rfl)
  try simp only [Act.put, List.getElem_toArray, List.getElem_cons_zero, List.getElem_cons_succ, List.setIfInBounds_toArray, List.set_cons_zero, List.set_cons_succ]
  refine wpAnyH_take (i := 11) (oi := _) (v := ?_) rfl (by kernel_rfl) (by kernel_rfl) (by kernel_rfl) (fun _ _ _ h => h) (Or.inl ⟨by rfl, ?_⟩) (by assumption) ?_
  rotate_left
  · first | (intro w' hSw; (try dsimp only at hSw); go_simp; done) | (intro w' hSw; (try dsimp only at hSw); go_simp; with_reducible rfl)
  try simp only [Act.put, List.getElem_toArray, List.getElem_cons_zero, List.getElem_cons_succ, List.setIfInBounds_toArray, List.set_cons_zero, List.set_cons_succ]
  refine wpAnyH_take (i := 12) (oi := _) (v := ?_) rfl (by kernel_rfl) (by kernel_rfl) (by kernel_rfl) (fun _ _ _ h => h) (Or.inl ⟨by rfl, ?_⟩) (by assumption) ?_
  rotate_left
  · first | (intro w' hSw; (try dsimp only at hSw); go_simp; done) | (intro w' hSw; (try dsimp only at hSw); go_simp; with_reducible rfl)
  try simp only [Act.put, List.getElem_toArray, List.getElem_cons_zero, List.getElem_cons_succ, List.setIfInBounds_toArray, List.set_cons_zero, List.set_cons_succ]
  refine wpAnyH_take (i := 13) (oi := _) (v := ?_) rfl (by kernel_rfl) (by kernel_rfl) (by kernel_rfl) (fun _ _ _ h => h) (Or.inl ⟨by rfl, ?_⟩) (by assumption) ?_
  rotate_left
  · first | (intro w' hSw; (try dsimp only at hSw); go_simp; done) | (intro w' hSw; (try dsimp only at hSw); go_simp; with_reducible rfl)
  try simp only [Act.put, List.getElem_toArray, List.getElem_cons_zero, List.getElem_cons_succ, List.setIfInBounds_toArray, List.set_cons_zero, List.set_cons_succ]
  refine wpAnyH_take (i := 14) (oi := _) (v := ?_) rfl (by kernel_rfl) (by kernel_rfl) (by kernel_rfl) (fun _ _ _ h => h) (Or.inl ⟨by rfl, ?_⟩) (by assumption) ?_
  rotate_left
  · first | (intro w' hSw; (try dsimp only at hSw); go_simp; done) | (intro w' hSw; (try dsimp only at hSw); go_simp; with_reducible rfl)
  try simp only [Act.put, List.getElem_toArray, List.getElem_cons_zero, List.getElem_cons_succ, List.setIfInBounds_toArray, List.set_cons_zero, List.set_cons_succ]
  refine wpAnyH_done (by kernel_rfl) ?_ _
  clear P0 P1 P2 P3
  have HC := Lib.hid (And.intro fa0 (And.intro fb0 (And.intro fc0 (And.intro fa1 (And.intro fb1 (fc1))))))
  have HBs : Hid (Below w8.heap.size w8 w8) := Below.refl _ _
  clear fa0 fb0 fc0 fa1 fb1 fc1
  have fa0 := cell_keep HBs.out HC.out.1
  have fb0 := cell_keep HBs.out HC.out.2.1
  have fc0 := cell_keep HBs.out HC.out.2.2.1
  have fa1 := cell_keep HBs.out HC.out.2.2.2.1
  have fb1 := cell_keep HBs.out HC.out.2.2.2.2.1
  have fc1 := cell_keep HBs.out HC.out.2.2.2.2.2
  go_wp2_with fail
  refine (toTheory_any _ s0 _ (HW0.out.keep (ex_keep HB.out HBs.out)) HF0.out).mono ?_
  rintro e w9 ⟨y0, rfl, ho, hb⟩
  obtain ⟨AX0a, cX0a, AX0b, cX0b, rfl⟩ := ho.reads.form
  have hb2 := below_alloc w9 (.cells #[.int .i64 s0.over.sorts, .slice AX0a s0.over.ops.length cX0a, .slice AX0b s0.eqs.length cX0b] 47)
  have HX0 := Lib.hid (show OThy (w9.alloc (.cells #[.int .i64 s0.over.sorts, .slice AX0a s0.over.ops.length cX0a, .slice AX0b s0.eqs.length cX0b] 47)) w8.heap.size (.agg #[.int .i64 s0.over.sorts, .slice AX0a s0.over.ops.length cX0a, .slice AX0b s0.eqs.length cX0b]) s0 from ho.keep hb2)
  have HCX0 := Lib.hid (bx3 w9 (.int .i64 s0.over.sorts) (.slice AX0a s0.over.ops.length cX0a) (.slice AX0b s0.eqs.length cX0b) 47)
  have hy0 := hb.size
  replace hb := hb.trans (hb2.mono hb.size)
  have hs0 := hb.size
  generalize hWw10 : w9.alloc (.cells #[.int .i64 s0.over.sorts, .slice AX0a s0.over.ops.length cX0a, .slice AX0b s0.eqs.length cX0b] 47) = w10 at HX0 HCX0 hb hs0
  clear hb2 ho
  replace HBs := Lib.hid (ex_keep HBs.out hb)
  clear hb
  have HK0 : Hid (Keeps w8.heap.size w10 w10) := Keeps.refl _ _
  have z0 : w10.heap.size ≤ w10.heap.size := Nat.le_refl _
  clear fa0 fb0 fc0 fa1 fb1 fc1
  have fa0 := cell_keep HBs.out HC.out.1
  have fb0 := cell_keep HBs.out HC.out.2.1
  have fc0 := cell_keep HBs.out HC.out.2.2.1
  have fa1 := cell_keep HBs.out HC.out.2.2.2.1
  have fb1 := cell_keep HBs.out HC.out.2.2.2.2.1
  have fc1 := cell_keep HBs.out HC.out.2.2.2.2.2
  go_wp2_with fail
  clear hWw10
  refine (toEq_any _ s1 _ (HW1.out.keep (ex_keep HB.out HBs.out)) HF1.out).mono ?_
  rintro e w11 ⟨y1, rfl, ho, hb⟩
  obtain ⟨AX1a, cX1a, AX1b, cX1b, AX1c, cX1c, rfl⟩ := ho.reads.form
  have hb2 := below_alloc w11 (.cells #[.slice AX1a s1.vars.length cX1a, .slice AX1b s1.left.length cX1b, .slice AX1c s1.right.length cX1c] 49)
  have HX1 := Lib.hid (show OEq (w11.alloc (.cells #[.slice AX1a s1.vars.length cX1a, .slice AX1b s1.left.length cX1b, .slice AX1c s1.right.length cX1c] 49)) w10.heap.size (.agg #[.slice AX1a s1.vars.length cX1a, .slice AX1b s1.left.length cX1b, .slice AX1c s1.right.length cX1c]) s1 from ho.keep hb2)
  have HCX1 := Lib.hid (bx3 w11 (.slice AX1a s1.vars.length cX1a) (.slice AX1b s1.left.length cX1b) (.slice AX1c s1.right.length cX1c) 49)
  have hy1 := hb.size
  replace hb := hb.trans (hb2.mono hb.size)
  have hs1 := hb.size
  generalize hWw12 : w11.alloc (.cells #[.slice AX1a s1.vars.length cX1a, .slice AX1b s1.left.length cX1b, .slice AX1c s1.right.length cX1c] 49) = w12 at HX1 HCX1 hb hs1
  clear hb2 ho
  replace HK0 := Lib.hid (HK0.out.below z0 hb)
  replace z0 : w10.heap.size ≤ w12.heap.size := Nat.le_trans z0 hb.size
  replace HBs := Lib.hid (ex_keep HBs.out hb)
  clear hb
  have HK1 : Hid (Keeps w10.heap.size w12 w12) := Keeps.refl _ _
  have z1 : w12.heap.size ≤ w12.heap.size := Nat.le_refl _
  clear fa0 fb0 fc0 fa1 fb1 fc1
  go_wp2_with fail
  clear hWw12
  refine (toStepS_q _ xs2 _ (HW2.out.keep (ex_keep HB.out HBs.out)) HF2.out).mono ?_
  rintro e w13 ⟨y2, rfl, ho, hb⟩
  have HX2 := Lib.hid ho
  obtain ⟨AX2, cX2, rfl, -⟩ := ho.reads.form
  have hs2 := hb.size
  clear ho
  replace HK0 := Lib.hid (HK0.out.below z0 hb)
  replace z0 : w10.heap.size ≤ w13.heap.size := Nat.le_trans z0 hb.size
  replace HK1 := Lib.hid (HK1.out.below z1 hb)
  replace z1 : w12.heap.size ≤ w13.heap.size := Nat.le_trans z1 hb.size
  replace HBs := Lib.hid (ex_keep HBs.out hb)
  clear hb
  have HK2 : Hid (Keeps w12.heap.size w13 w13) := Keeps.refl _ _
  have z2 : w13.heap.size ≤ w13.heap.size := Nat.le_refl _
  go_wp2_with fail
  refine (toIntS_any _ xs3 _ (HW3.out.keep (ex_keep HB.out HBs.out)) (by omega)).mono ?_
  rintro e w14 ⟨y3, rfl, ho, hb⟩
  have HX3 := Lib.hid ho
  obtain ⟨AX3, cX3, rfl, -⟩ := ho.reads.form
  have hs3 := hb.size
  clear ho
  replace HK0 := Lib.hid (HK0.out.below z0 hb)
  replace z0 : w10.heap.size ≤ w14.heap.size := Nat.le_trans z0 hb.size
  replace HK1 := Lib.hid (HK1.out.below z1 hb)
  replace z1 : w12.heap.size ≤ w14.heap.size := Nat.le_trans z1 hb.size
  replace HK2 := Lib.hid (HK2.out.below z2 hb)
  replace z2 : w13.heap.size ≤ w14.heap.size := Nat.le_trans z2 hb.size
  replace HBs := Lib.hid (ex_keep HBs.out hb)
  clear hb
  have HK3 : Hid (Keeps w13.heap.size w14 w14) := Keeps.refl _ _
  have z3 : w14.heap.size ≤ w14.heap.size := Nat.le_refl _
  have l0a := HK0.out.cell (by omega) HCX0.out.1
  have l0b := HK0.out.cell (by omega) HCX0.out.2.1
  have l0c := HK0.out.cell (by omega) HCX0.out.2.2
  have l1a := HK1.out.cell (by omega) HCX1.out.1
  have l1b := HK1.out.cell (by omega) HCX1.out.2.1
  have l1c := HK1.out.cell (by omega) HCX1.out.2.2
  go_wp2_with fail
  refine (proofUnder_any s0 s1 xs2 xs3 a4 _ _ _ _ _ HS0.out HS1.out HS2.out HS3.out HF2.out.1 (HX0.out.same z0 HK0.out).reads (HX1.out.same HK1.out).reads (HX2.out.same z2 HK2.out).reads (HX3.out.same HK3.out).reads).mono ?_
  rw [HR.out]
  rintro e w15 ⟨g0, rfl, hog, hb⟩
  have HG := Lib.hid hog
  obtain ⟨Ag, cg, rfl, -⟩ := hog.reads.form
  have hsg := hb.size
  clear hog
  clear l0a l0b l0c l1a l1b l1c
  replace HK0 := Lib.hid (HK0.out.below z0 hb)
  replace z0 : w10.heap.size ≤ w15.heap.size := Nat.le_trans z0 hb.size
  replace HK1 := Lib.hid (HK1.out.below z1 hb)
  replace z1 : w12.heap.size ≤ w15.heap.size := Nat.le_trans z1 hb.size
  replace HK2 := Lib.hid (HK2.out.below z2 hb)
  replace z2 : w13.heap.size ≤ w15.heap.size := Nat.le_trans z2 hb.size
  replace HK3 := Lib.hid (HK3.out.below z3 hb)
  replace z3 : w14.heap.size ≤ w15.heap.size := Nat.le_trans z3 hb.size
  replace HBs := Lib.hid (ex_keep HBs.out hb)
  clear hb
  have HKg : Hid (Keeps w14.heap.size w15 w15) := Keeps.refl _ _
  have zg : w15.heap.size ≤ w15.heap.size := Nat.le_refl _
  obtain ⟨R1, R2⟩ := R
  simp only at HG HZ HLEN ⊢
  have e1 : (R2 != R2) = false := by simp
  go_wp2_with fail
  refine (eqStepS_is _ _ R1 R1 _ true (samePs_self _) (HG.out.same zg HKg.out).reads (HZ.out.keep HBs.out).reads).mono ?_
  rintro e w16 ⟨rfl, hb⟩
  replace HK0 := Lib.hid (HK0.out.below z0 hb)
  replace z0 : w10.heap.size ≤ w16.heap.size := Nat.le_trans z0 hb.size
  replace HK1 := Lib.hid (HK1.out.below z1 hb)
  replace z1 : w12.heap.size ≤ w16.heap.size := Nat.le_trans z1 hb.size
  replace HK2 := Lib.hid (HK2.out.below z2 hb)
  replace z2 : w13.heap.size ≤ w16.heap.size := Nat.le_trans z2 hb.size
  replace HK3 := Lib.hid (HK3.out.below z3 hb)
  replace z3 : w14.heap.size ≤ w16.heap.size := Nat.le_trans z3 hb.size
  replace HKg := Lib.hid (HKg.out.below zg hb)
  replace zg : w15.heap.size ≤ w16.heap.size := Nat.le_trans zg hb.size
  replace HBs := Lib.hid (ex_keep HBs.out hb)
  clear hb
  have fa0 := cell_keep HBs.out HC.out.1
  have fb0 := cell_keep HBs.out HC.out.2.1
  have fc0 := cell_keep HBs.out HC.out.2.2.1
  have fa1 := cell_keep HBs.out HC.out.2.2.2.1
  have fb1 := cell_keep HBs.out HC.out.2.2.2.2.1
  have fc1 := cell_keep HBs.out HC.out.2.2.2.2.2
  have l0a := HK0.out.cell (by omega) HCX0.out.1
  have l0b := HK0.out.cell (by omega) HCX0.out.2.1
  have l0c := HK0.out.cell (by omega) HCX0.out.2.2
  have l1a := HK1.out.cell (by omega) HCX1.out.1
  have l1b := HK1.out.cell (by omega) HCX1.out.2.1
  have l1c := HK1.out.cell (by omega) HCX1.out.2.2
  have HSW0 := Lib.hid (HW0.out.keep (ex_keep HB.out HBs.out))
  have HXR0 := Lib.hid (HX0.out.same z0 HK0.out).reads
  go_wp2_with fail
  have ea := World.new_ne w16 _ fa0
  have eb := World.new_ne w16 _ l0a
  go_region_held3 (fun w' => w'.cell? ⟨w.heap.size, 0, none⟩ = some (.int .i64 s0.over.sorts) ∧ w'.cell? ⟨w.heap.size, 1, none⟩ = some (.slice A0a s0.over.ops.length c0a) ∧ w'.cell? ⟨w.heap.size, 2, none⟩ = some (.slice A0b s0.eqs.length c0b) ∧ w'.cell? ⟨w9.heap.size, 0, none⟩ = some (.int .i64 s0.over.sorts) ∧ w'.cell? ⟨w9.heap.size, 1, none⟩ = some (.slice AX0a s0.over.ops.length cX0a) ∧ w'.cell? ⟨w9.heap.size, 2, none⟩ = some (.slice AX0b s0.eqs.length cX0b))
    (first | go_keep)
    (first
      | (go_at_call 19; refine (toTheory_any _ s0 w16.drew HSW0.out HF0.out).mono ?_; rintro e w17 ⟨yj, rfl, hoj, hbj⟩; have HOj := Lib.hid hoj; have HBj := Lib.hid (show Below w16.heap.size w16 w17 from below_undrew hbj); have o0 := cell_keep HBj.out fa0; have o1 := cell_keep HBj.out fb0; have o2 := cell_keep HBj.out fc0; have o3 := cell_keep HBj.out l0a; have o4 := cell_keep HBj.out l0b; have o5 := cell_keep HBj.out l0c; clear hoj hbj)
      | (go_at_call 24; refine (eqTheory_is _ _ s0 s0 _ true (sameT_self _) (HXR0.out.keep HBj.out) HOj.out.reads).mono ?_; rintro e w18 ⟨rfl, hbk⟩; have HBk := Lib.hid (ex_keep HBj.out hbk); have q0 := cell_keep hbk o0; have q1 := cell_keep hbk o1; have q2 := cell_keep hbk o2; have q3 := cell_keep hbk o3; have q4 := cell_keep hbk o4; have q5 := cell_keep hbk o5; clear hbk))
  have hb := HBk.out
  clear fa0 fb0 fc0 fa1 fb1 fc1 l0a l0b l0c l1a l1b l1c o0 q0 o1 q1 o2 q2 o3 q3 o4 q4 o5 q5 ea eb HBj HBk HOj HSW0 HXR0
  replace HK0 := Lib.hid (HK0.out.below z0 hb)
  replace z0 : w10.heap.size ≤ w18.heap.size := Nat.le_trans z0 hb.size
  replace HK1 := Lib.hid (HK1.out.below z1 hb)
  replace z1 : w12.heap.size ≤ w18.heap.size := Nat.le_trans z1 hb.size
  replace HK2 := Lib.hid (HK2.out.below z2 hb)
  replace z2 : w13.heap.size ≤ w18.heap.size := Nat.le_trans z2 hb.size
  replace HK3 := Lib.hid (HK3.out.below z3 hb)
  replace z3 : w14.heap.size ≤ w18.heap.size := Nat.le_trans z3 hb.size
  replace HKg := Lib.hid (HKg.out.below zg hb)
  replace zg : w15.heap.size ≤ w18.heap.size := Nat.le_trans zg hb.size
  replace HBs := Lib.hid (ex_keep HBs.out hb)
  clear hb
  have fa0 := cell_keep HBs.out HC.out.1
  have fb0 := cell_keep HBs.out HC.out.2.1
  have fc0 := cell_keep HBs.out HC.out.2.2.1
  have fa1 := cell_keep HBs.out HC.out.2.2.2.1
  have fb1 := cell_keep HBs.out HC.out.2.2.2.2.1
  have fc1 := cell_keep HBs.out HC.out.2.2.2.2.2
  have l0a := HK0.out.cell (by omega) HCX0.out.1
  have l0b := HK0.out.cell (by omega) HCX0.out.2.1
  have l0c := HK0.out.cell (by omega) HCX0.out.2.2
  have l1a := HK1.out.cell (by omega) HCX1.out.1
  have l1b := HK1.out.cell (by omega) HCX1.out.2.1
  have l1c := HK1.out.cell (by omega) HCX1.out.2.2
  have HSW1 := Lib.hid (HW1.out.keep (ex_keep HB.out HBs.out))
  have HXR1 := Lib.hid (HX1.out.same HK1.out).reads
  go_wp2_with fail
  have ea := World.new_ne w18 _ fa1
  have eb := World.new_ne w18 _ l1a
  go_region_held3 (fun w' => w'.cell? ⟨w.heap.size + 1, 0, none⟩ = some (.slice A1a s1.vars.length c1a) ∧ w'.cell? ⟨w.heap.size + 1, 1, none⟩ = some (.slice A1b s1.left.length c1b) ∧ w'.cell? ⟨w.heap.size + 1, 2, none⟩ = some (.slice A1c s1.right.length c1c) ∧ w'.cell? ⟨w11.heap.size, 0, none⟩ = some (.slice AX1a s1.vars.length cX1a) ∧ w'.cell? ⟨w11.heap.size, 1, none⟩ = some (.slice AX1b s1.left.length cX1b) ∧ w'.cell? ⟨w11.heap.size, 2, none⟩ = some (.slice AX1c s1.right.length cX1c))
    (first | go_keep)
    (first
      | (go_at_call 20; refine (toEq_any _ s1 w18.drew HSW1.out HF1.out).mono ?_; rintro e w19 ⟨yj, rfl, hoj, hbj⟩; have HOj := Lib.hid hoj; have HBj := Lib.hid (show Below w18.heap.size w18 w19 from below_undrew hbj); have o0 := cell_keep HBj.out fa1; have o1 := cell_keep HBj.out fb1; have o2 := cell_keep HBj.out fc1; have o3 := cell_keep HBj.out l1a; have o4 := cell_keep HBj.out l1b; have o5 := cell_keep HBj.out l1c; clear hoj hbj)
      | (go_at_call 25; refine (eqEq_is _ _ s1 s1 _ true (sameE_self _) (HXR1.out.keep HBj.out) HOj.out.reads).mono ?_; rintro e w20 ⟨rfl, hbk⟩; have HBk := Lib.hid (ex_keep HBj.out hbk); have q0 := cell_keep hbk o0; have q1 := cell_keep hbk o1; have q2 := cell_keep hbk o2; have q3 := cell_keep hbk o3; have q4 := cell_keep hbk o4; have q5 := cell_keep hbk o5; clear hbk))
  have hb := HBk.out
  clear fa0 fb0 fc0 fa1 fb1 fc1 l0a l0b l0c l1a l1b l1c o0 q0 o1 q1 o2 q2 o3 q3 o4 q4 o5 q5 ea eb HBj HBk HOj HSW1 HXR1
  replace HK0 := Lib.hid (HK0.out.below z0 hb)
  replace z0 : w10.heap.size ≤ w20.heap.size := Nat.le_trans z0 hb.size
  replace HK1 := Lib.hid (HK1.out.below z1 hb)
  replace z1 : w12.heap.size ≤ w20.heap.size := Nat.le_trans z1 hb.size
  replace HK2 := Lib.hid (HK2.out.below z2 hb)
  replace z2 : w13.heap.size ≤ w20.heap.size := Nat.le_trans z2 hb.size
  replace HK3 := Lib.hid (HK3.out.below z3 hb)
  replace z3 : w14.heap.size ≤ w20.heap.size := Nat.le_trans z3 hb.size
  replace HKg := Lib.hid (HKg.out.below zg hb)
  replace zg : w15.heap.size ≤ w20.heap.size := Nat.le_trans zg hb.size
  replace HBs := Lib.hid (ex_keep HBs.out hb)
  clear hb
  go_wp2_with fail
  refine (toStepS_q _ xs2 _ (HW2.out.keep (ex_keep HB.out HBs.out)) HF2.out).mono ?_
  rintro e w21 ⟨yj, rfl, ho, hb⟩
  have PJ := Lib.hid ho.reads
  clear ho
  replace HK0 := Lib.hid (HK0.out.below z0 hb)
  replace z0 : w10.heap.size ≤ w21.heap.size := Nat.le_trans z0 hb.size
  replace HK1 := Lib.hid (HK1.out.below z1 hb)
  replace z1 : w12.heap.size ≤ w21.heap.size := Nat.le_trans z1 hb.size
  replace HK2 := Lib.hid (HK2.out.below z2 hb)
  replace z2 : w13.heap.size ≤ w21.heap.size := Nat.le_trans z2 hb.size
  replace HK3 := Lib.hid (HK3.out.below z3 hb)
  replace z3 : w14.heap.size ≤ w21.heap.size := Nat.le_trans z3 hb.size
  replace HKg := Lib.hid (HKg.out.below zg hb)
  replace zg : w15.heap.size ≤ w21.heap.size := Nat.le_trans zg hb.size
  replace HBs := Lib.hid (ex_keep HBs.out hb)
  clear hb
  go_wp2_with fail
  refine (eqStepS_is _ _ xs2 xs2 _ true (samePs_self _) (HX2.out.same z2 HK2.out).reads PJ.out).mono ?_
  rintro e w22 ⟨rfl, hb⟩
  clear PJ
  replace HK0 := Lib.hid (HK0.out.below z0 hb)
  replace z0 : w10.heap.size ≤ w22.heap.size := Nat.le_trans z0 hb.size
  replace HK1 := Lib.hid (HK1.out.below z1 hb)
  replace z1 : w12.heap.size ≤ w22.heap.size := Nat.le_trans z1 hb.size
  replace HK2 := Lib.hid (HK2.out.below z2 hb)
  replace z2 : w13.heap.size ≤ w22.heap.size := Nat.le_trans z2 hb.size
  replace HK3 := Lib.hid (HK3.out.below z3 hb)
  replace z3 : w14.heap.size ≤ w22.heap.size := Nat.le_trans z3 hb.size
  replace HKg := Lib.hid (HKg.out.below zg hb)
  replace zg : w15.heap.size ≤ w22.heap.size := Nat.le_trans zg hb.size
  replace HBs := Lib.hid (ex_keep HBs.out hb)
  clear hb
  go_wp2_with fail
  refine (toIntS_any _ xs3 _ (HW3.out.keep (ex_keep HB.out HBs.out)) (by omega)).mono ?_
  rintro e w23 ⟨yj, rfl, ho, hb⟩
  have PJ := Lib.hid ho.reads
  clear ho
  replace HK0 := Lib.hid (HK0.out.below z0 hb)
  replace z0 : w10.heap.size ≤ w23.heap.size := Nat.le_trans z0 hb.size
  replace HK1 := Lib.hid (HK1.out.below z1 hb)
  replace z1 : w12.heap.size ≤ w23.heap.size := Nat.le_trans z1 hb.size
  replace HK2 := Lib.hid (HK2.out.below z2 hb)
  replace z2 : w13.heap.size ≤ w23.heap.size := Nat.le_trans z2 hb.size
  replace HK3 := Lib.hid (HK3.out.below z3 hb)
  replace z3 : w14.heap.size ≤ w23.heap.size := Nat.le_trans z3 hb.size
  replace HKg := Lib.hid (HKg.out.below zg hb)
  replace zg : w15.heap.size ≤ w23.heap.size := Nat.le_trans zg hb.size
  replace HBs := Lib.hid (ex_keep HBs.out hb)
  clear hb
  go_wp2_with fail
  refine (eqIntS_is _ _ xs3 xs3 _ true (sameI_self _) (HX3.out.same HK3.out).reads PJ.out).mono ?_
  rintro e w24 ⟨rfl, hd⟩
  have hb := hd.below
  clear hd PJ
  replace HK0 := Lib.hid (HK0.out.below z0 hb)
  replace z0 : w10.heap.size ≤ w24.heap.size := Nat.le_trans z0 hb.size
  replace HK1 := Lib.hid (HK1.out.below z1 hb)
  replace z1 : w12.heap.size ≤ w24.heap.size := Nat.le_trans z1 hb.size
  replace HK2 := Lib.hid (HK2.out.below z2 hb)
  replace z2 : w13.heap.size ≤ w24.heap.size := Nat.le_trans z2 hb.size
  replace HK3 := Lib.hid (HK3.out.below z3 hb)
  replace z3 : w14.heap.size ≤ w24.heap.size := Nat.le_trans z3 hb.size
  replace HKg := Lib.hid (HKg.out.below zg hb)
  replace zg : w15.heap.size ≤ w24.heap.size := Nat.le_trans zg hb.size
  replace HBs := Lib.hid (ex_keep HBs.out hb)
  clear hb
  have l0a := HK0.out.cell (by omega) HCX0.out.1
  have l0b := HK0.out.cell (by omega) HCX0.out.2.1
  have l0c := HK0.out.cell (by omega) HCX0.out.2.2
  go_wp2_with fail
  refine (markTheory_go _ _ s0 _ w10 _ HX0.out HK0.out z0 HF0.out (by omega) (by omega)).mono ?_
  rintro e w25 ⟨k0, rfl, hka0, hkb0, wa, hb, hout⟩
  have hzo := hout.size
  replace HK1 := Lib.hid ((HK1.out.below z1 hb).outside hout (by omega))
  replace z1 : w12.heap.size ≤ w25.heap.size := by have := hb.size; omega
  replace HK2 := Lib.hid ((HK2.out.below z2 hb).outside hout (by omega))
  replace z2 : w13.heap.size ≤ w25.heap.size := by have := hb.size; omega
  replace HK3 := Lib.hid ((HK3.out.below z3 hb).outside hout (by omega))
  replace z3 : w14.heap.size ≤ w25.heap.size := by have := hb.size; omega
  replace HKg := Lib.hid ((HKg.out.below zg hb).outside hout (by omega))
  replace zg : w15.heap.size ≤ w25.heap.size := by have := hb.size; omega
  replace HBs := Lib.hid ((ex_keep HBs.out hb).trans (hout.below.mono (by omega)))
  clear hb hout hzo HK0 z0 HX0 l0a l0b l0c
  have l1a := HK1.out.cell (by omega) HCX1.out.1
  have l1b := HK1.out.cell (by omega) HCX1.out.2.1
  have l1c := HK1.out.cell (by omega) HCX1.out.2.2
  go_wp2_with fail
  refine (markEq_go _ _ s1 _ w12 _ HX1.out HK1.out z1 HF1.out (by omega) (by omega)).mono ?_
  rintro e w26 ⟨k1, rfl, hka1, hkb1, wa, hb, hout⟩
  have hzo := hout.size
  replace HK2 := Lib.hid ((HK2.out.below z2 hb).outside hout (by omega))
  replace z2 : w13.heap.size ≤ w26.heap.size := by have := hb.size; omega
  replace HK3 := Lib.hid ((HK3.out.below z3 hb).outside hout (by omega))
  replace z3 : w14.heap.size ≤ w26.heap.size := by have := hb.size; omega
  replace HKg := Lib.hid ((HKg.out.below zg hb).outside hout (by omega))
  replace zg : w15.heap.size ≤ w26.heap.size := by have := hb.size; omega
  replace HBs := Lib.hid ((ex_keep HBs.out hb).trans (hout.below.mono (by omega)))
  clear hb hout hzo HK1 z1 HX1 l1a l1b l1c
  go_wp2_with fail
  refine (markStepS_go _ _ xs2 _ w13 _ HX2.out HK2.out z2 HF2.out (by omega) (by omega)).mono ?_
  rintro e w27 ⟨k2, rfl, hka2, hkb2, wa, hb, hout⟩
  have hzo := hout.size
  replace HK3 := Lib.hid ((HK3.out.below z3 hb).outside hout (by omega))
  replace z3 : w14.heap.size ≤ w27.heap.size := by have := hb.size; omega
  replace HKg := Lib.hid ((HKg.out.below zg hb).outside hout (by omega))
  replace zg : w15.heap.size ≤ w27.heap.size := by have := hb.size; omega
  replace HBs := Lib.hid ((ex_keep HBs.out hb).trans (hout.below.mono (by omega)))
  clear hb hout hzo HK2 z2 HX2
  go_wp2_with fail
  refine (markIntS_go _ _ xs3 _ w14 _ HX3.out HK3.out z3 (by omega) (by omega) (by omega)).mono ?_
  rintro e w28 ⟨k3, rfl, hka3, hkb3, wa, hb, hout⟩
  have hzo := hout.size
  replace HKg := Lib.hid ((HKg.out.below zg hb).outside hout (by omega))
  replace zg : w15.heap.size ≤ w28.heap.size := by have := hb.size; omega
  replace HBs := Lib.hid ((ex_keep HBs.out hb).trans (hout.below.mono (by omega)))
  clear hb hout hzo HK3 z3 HX3
  go_wp2_with fail
  refine (eqStepS_is _ _ R1 R1 _ true (samePs_self _) (HG.out.same zg HKg.out).reads (HZ.out.keep HBs.out).reads).mono ?_
  rintro e w29 ⟨rfl, hb⟩
  replace HKg := Lib.hid (HKg.out.below zg hb)
  replace zg : w15.heap.size ≤ w29.heap.size := Nat.le_trans zg hb.size
  replace HBs := Lib.hid (ex_keep HBs.out hb)
  clear hb
  go_wp2_with fail
  refine (markStepSN_g _ _ R1 w15 _ HG.out HKg.out zg HLEN.out).mono ?_
  rintro e w30 ⟨K, rfl, hK0, hheld, wa, hb, hout⟩
  have HH := Lib.hid hheld
  have hzo := hout.size
  replace HBs := Lib.hid ((ex_keep HBs.out hb).trans (hout.below.mono (by omega)))
  clear hb hout hzo hheld HKg zg HG
  have HKh : Hid (Keeps w14.heap.size w30 w30) := Keeps.refl _ _
  have zh : w30.heap.size ≤ w30.heap.size := Nat.le_refl _
  have ek : (K != K) = false := by simp
  go_wp2_with fail
  refine (HH.out _ HKh.out zh).mono ?_
  rintro e w31 ⟨rfl, hb⟩
  replace HKh := Lib.hid (HKh.out.below zh hb)
  replace zh : w30.heap.size ≤ w31.heap.size := Nat.le_trans zh hb.size
  replace HBs := Lib.hid (ex_keep HBs.out hb)
  clear hb
  have fa0 := cell_keep HBs.out HC.out.1
  have fb0 := cell_keep HBs.out HC.out.2.1
  have fc0 := cell_keep HBs.out HC.out.2.2.1
  have fa1 := cell_keep HBs.out HC.out.2.2.2.1
  have fb1 := cell_keep HBs.out HC.out.2.2.2.2.1
  have fc1 := cell_keep HBs.out HC.out.2.2.2.2.2
  go_wp2_with fail
  refine wp_region_held_drew (S := (fun w' => w'.cell? ⟨w.heap.size, 0, none⟩ = some (.int .i64 s0.over.sorts) ∧ w'.cell? ⟨w.heap.size, 1, none⟩ = some (.slice A0a s0.over.ops.length c0a) ∧ w'.cell? ⟨w.heap.size, 2, none⟩ = some (.slice A0b s0.eqs.length c0b) ∧ w'.cell? ⟨w.heap.size + 1, 0, none⟩ = some (.slice A1a s1.vars.length c1a) ∧ w'.cell? ⟨w.heap.size + 1, 1, none⟩ = some (.slice A1b s1.left.length c1b) ∧ w'.cell? ⟨w.heap.size + 1, 2, none⟩ = some (.slice A1c s1.right.length c1c))) (by kernel_rfl) ?_ (fun hHeld => ?_)
  · exact ⟨fa0, fb0, fc0, fa1, fb1, fc1⟩
  refine wpAnyH_take (i := 0) (oi := _) (v := ?_) rfl (by kernel_rfl) (by kernel_rfl) (by kernel_rfl) (fun _ _ _ h => h) (Or.inl ⟨by rfl, ?_⟩) (by assumption) ?_
  rotate_left
  · first | (intro w' hSw; (try dsimp only at hSw); go_simp; done) | (intro w' hSw; (try dsimp only at hSw); go_simp; with_reducible rfl)
  try simp only [Act.put, List.getElem_toArray, List.getElem_cons_zero, List.getElem_cons_succ, List.setIfInBounds_toArray, List.set_cons_zero, List.set_cons_succ]
  refine wpAnyH_take (i := 2) (oi := _) (v := ?_) rfl (by kernel_rfl) (by kernel_rfl) (by kernel_rfl) (fun _ _ _ h => h) (Or.inl ⟨by rfl, ?_⟩) (by assumption) ?_
  rotate_left
  · first | (intro w' hSw; (try dsimp only at hSw); go_simp; done) | (intro w' hSw; (try dsimp only at hSw); go_simp; with_reducible rfl)
  try simp only [Act.put, List.getElem_toArray, List.getElem_cons_zero, List.getElem_cons_succ, List.setIfInBounds_toArray, List.set_cons_zero, List.set_cons_succ]
  refine wpAnyH_take (i := 4) (oi := _) (v := ?_) rfl (by kernel_rfl) (by kernel_rfl) (by kernel_rfl) (fun _ _ _ h => h) (Or.inl ⟨by rfl, ?_⟩) (by assumption) ?_
  rotate_left
  · first | (intro w' hSw; (try dsimp only at hSw); go_simp; done) | (intro w' hSw; (try dsimp only at hSw); go_simp; with_reducible rfl)
  try simp only [Act.put, List.getElem_toArray, List.getElem_cons_zero, List.getElem_cons_succ, List.setIfInBounds_toArray, List.set_cons_zero, List.set_cons_succ]
  refine wpAnyH_take (i := 6) (oi := _) (v := ?_) rfl (by kernel_rfl) (by kernel_rfl) (by kernel_rfl) (fun _ _ _ h => h) (Or.inl ⟨by rfl, ?_⟩) (by assumption) ?_
  rotate_left
  · first | (intro w' hSw; (try dsimp only at hSw); go_simp; done) | (intro w' hSw; (try dsimp only at hSw); go_simp; with_reducible rfl)
  try simp only [Act.put, List.getElem_toArray, List.getElem_cons_zero, List.getElem_cons_succ, List.setIfInBounds_toArray, List.set_cons_zero, List.set_cons_succ]
  refine wpAnyH_take (i := 8) (oi := _) (v := ?_) rfl (by kernel_rfl) (by kernel_rfl) (by kernel_rfl) (fun _ _ _ h => h) (Or.inl ⟨by rfl, ?_⟩) (by assumption) ?_
  rotate_left
  · first | (intro w' hSw; (try dsimp only at hSw); go_simp; done) | (intro w' hSw; (try dsimp only at hSw); go_simp; with_reducible rfl)
  try simp only [Act.put, List.getElem_toArray, List.getElem_cons_zero, List.getElem_cons_succ, List.setIfInBounds_toArray, List.set_cons_zero, List.set_cons_succ]
  refine wpAnyH_ready (rs := [1]) (by kernel_rfl) (by simp) ?_
  refine AllReadyH.cons (o := _) rfl (fun K hK => ?_) AllReadyH.nil
  go_simp
  refine (toTheory_any _ s0 _ (HW0.out.keep (ex_drew (ex_keep HB.out HBs.out))) HF0.out).mono ?_
  rintro e w32 ⟨y0, rfl, ho, hb⟩
  replace hb := ex_undrew hb
  replace fa0 := cell_keep hb fa0
  replace fb0 := cell_keep hb fb0
  replace fc0 := cell_keep hb fc0
  replace fa1 := cell_keep hb fa1
  replace fb1 := cell_keep hb fb1
  replace fc1 := cell_keep hb fc1
  replace HKh := Lib.hid (HKh.out.below zh hb)
  replace zh : w30.heap.size ≤ w32.heap.size := Nat.le_trans zh hb.size
  replace HBs := Lib.hid (ex_keep HBs.out hb)
  clear hb
  have PP0 := Lib.hid ho.reads
  obtain ⟨AQ0a, cQ0a, AQ0b, cQ0b, rfl⟩ := ho.reads.form
  clear ho
  go_wp2_with fail
  refine hK.out _ _ ?_ (fun hHeld => ?_)
  · exact ⟨fa0, fb0, fc0, fa1, fb1, fc1⟩
  clear hK K
  try simp only [Act.put, List.getElem_toArray, List.getElem_cons_zero, List.getElem_cons_succ, List.setIfInBounds_toArray, List.set_cons_zero, List.set_cons_succ]
  refine wpAnyH_ready (rs := [3]) (by kernel_rfl) (by simp) ?_
  refine AllReadyH.cons (o := _) rfl (fun K hK => ?_) AllReadyH.nil
  go_simp
  refine (toEq_any _ s1 _ (HW1.out.keep (ex_keep HB.out HBs.out)) HF1.out).mono ?_
  rintro e w33 ⟨y1, rfl, ho, hb⟩
  replace fa0 := cell_keep hb fa0
  replace fb0 := cell_keep hb fb0
  replace fc0 := cell_keep hb fc0
  replace fa1 := cell_keep hb fa1
  replace fb1 := cell_keep hb fb1
  replace fc1 := cell_keep hb fc1
  replace PP0 := Lib.hid (PP0.out.keep hb)
  replace HKh := Lib.hid (HKh.out.below zh hb)
  replace zh : w30.heap.size ≤ w33.heap.size := Nat.le_trans zh hb.size
  replace HBs := Lib.hid (ex_keep HBs.out hb)
  clear hb
  have PP1 := Lib.hid ho.reads
  obtain ⟨AQ1a, cQ1a, AQ1b, cQ1b, AQ1c, cQ1c, rfl⟩ := ho.reads.form
  clear ho
  go_wp2_with fail
  refine hK.out _ _ ?_ (fun hHeld => ?_)
  · exact ⟨fa0, fb0, fc0, fa1, fb1, fc1⟩
  clear hK K
  try simp only [Act.put, List.getElem_toArray, List.getElem_cons_zero, List.getElem_cons_succ, List.setIfInBounds_toArray, List.set_cons_zero, List.set_cons_succ]
  refine wpAnyH_ready (rs := [5]) (by kernel_rfl) (by simp) ?_
  refine AllReadyH.cons (o := _) rfl (fun K hK => ?_) AllReadyH.nil
  go_simp
  refine (toStepS_q _ xs2 _ (HW2.out.keep (ex_keep HB.out HBs.out)) HF2.out).mono ?_
  rintro e w34 ⟨y2, rfl, ho, hb⟩
  replace fa0 := cell_keep hb fa0
  replace fb0 := cell_keep hb fb0
  replace fc0 := cell_keep hb fc0
  replace fa1 := cell_keep hb fa1
  replace fb1 := cell_keep hb fb1
  replace fc1 := cell_keep hb fc1
  replace PP0 := Lib.hid (PP0.out.keep hb)
  replace PP1 := Lib.hid (PP1.out.keep hb)
  replace HKh := Lib.hid (HKh.out.below zh hb)
  replace zh : w30.heap.size ≤ w34.heap.size := Nat.le_trans zh hb.size
  replace HBs := Lib.hid (ex_keep HBs.out hb)
  clear hb
  have PP2 := Lib.hid ho.reads
  obtain ⟨AQ2, cQ2, rfl, -⟩ := ho.reads.form
  clear ho
  go_wp2_with fail
  refine hK.out _ _ ?_ (fun hHeld => ?_)
  · exact ⟨fa0, fb0, fc0, fa1, fb1, fc1⟩
  clear hK K
  try simp only [Act.put, List.getElem_toArray, List.getElem_cons_zero, List.getElem_cons_succ, List.setIfInBounds_toArray, List.set_cons_zero, List.set_cons_succ]
  refine wpAnyH_ready (rs := [7]) (by kernel_rfl) (by simp) ?_
  refine AllReadyH.cons (o := _) rfl (fun K hK => ?_) AllReadyH.nil
  go_simp
  refine (toIntS_any _ xs3 _ (HW3.out.keep (ex_keep HB.out HBs.out)) (by omega)).mono ?_
  rintro e w35 ⟨y3, rfl, ho, hb⟩
  replace fa0 := cell_keep hb fa0
  replace fb0 := cell_keep hb fb0
  replace fc0 := cell_keep hb fc0
  replace fa1 := cell_keep hb fa1
  replace fb1 := cell_keep hb fb1
  replace fc1 := cell_keep hb fc1
  replace PP0 := Lib.hid (PP0.out.keep hb)
  replace PP1 := Lib.hid (PP1.out.keep hb)
  replace PP2 := Lib.hid (PP2.out.keep hb)
  replace HKh := Lib.hid (HKh.out.below zh hb)
  replace zh : w30.heap.size ≤ w35.heap.size := Nat.le_trans zh hb.size
  replace HBs := Lib.hid (ex_keep HBs.out hb)
  clear hb
  have PP3 := Lib.hid ho.reads
  obtain ⟨AQ3, cQ3, rfl, -⟩ := ho.reads.form
  clear ho
  go_wp2_with fail
  refine hK.out _ _ ?_ (fun hHeld => ?_)
  · exact ⟨fa0, fb0, fc0, fa1, fb1, fc1⟩
  clear hK K
  try simp only [Act.put, List.getElem_toArray, List.getElem_cons_zero, List.getElem_cons_succ, List.setIfInBounds_toArray, List.set_cons_zero, List.set_cons_succ]
  refine wpAnyH_ready (rs := [9]) (by kernel_rfl) (by simp) ?_
  refine AllReadyH.cons (o := _) rfl (fun K hK => ?_) AllReadyH.nil
  go_simp
  refine (proofUnder_any s0 s1 xs2 xs3 a4 _ _ _ _ _ HS0.out HS1.out HS2.out HS3.out HF2.out.1 PP0.out PP1.out PP2.out PP3.out).mono ?_
  rw [HR.out]
  rintro e w36 ⟨g1, rfl, hog, hb⟩
  obtain ⟨Ah, ch, rfl, -⟩ := hog.reads.form
  have HG1 := Lib.hid hog.reads
  clear hog PP0 PP1 PP2 PP3
  replace fa0 := cell_keep hb fa0
  replace fb0 := cell_keep hb fb0
  replace fc0 := cell_keep hb fc0
  replace fa1 := cell_keep hb fa1
  replace fb1 := cell_keep hb fb1
  replace fc1 := cell_keep hb fc1
  replace HKh := Lib.hid (HKh.out.below zh hb)
  replace zh : w30.heap.size ≤ w36.heap.size := Nat.le_trans zh hb.size
  replace HBs := Lib.hid (ex_keep HBs.out hb)
  clear hb
  go_wp2_with fail
  refine hK.out _ _ ?_ (fun hHeld => ?_)
  · exact ⟨fa0, fb0, fc0, fa1, fb1, fc1⟩
  clear hK K
  try simp only [Act.put, List.getElem_toArray, List.getElem_cons_zero, List.getElem_cons_succ, List.setIfInBounds_toArray, List.set_cons_zero, List.set_cons_succ]
  refine wpAnyH_take (i := 10) (oi := _) (v := ?_) rfl (by kernel_rfl) (by kernel_rfl) (by kernel_rfl) (fun _ _ _ h => h) (Or.inl ⟨by rfl, ?_⟩) (by assumption) ?_
  rotate_left
  · first | (intro w' hSw; (try dsimp only at hSw); go_simp; done) | (intro w' hSw; (try dsimp only at hSw); go_simp; with_reducible rfl)
  try simp only [Act.put, List.getElem_toArray, List.getElem_cons_zero, List.getElem_cons_succ, List.setIfInBounds_toArray, List.set_cons_zero, List.set_cons_succ]
  refine wpAnyH_take (i := 11) (oi := _) (v := ?_) rfl (by kernel_rfl) (by kernel_rfl) (by kernel_rfl) (fun _ _ _ h => h) (Or.inl ⟨by rfl, ?_⟩) (by assumption) ?_
  rotate_left
  · first | (intro w' hSw; (try dsimp only at hSw); go_simp; done) | (intro w' hSw; (try dsimp only at hSw); go_simp; with_reducible rfl)
  try simp only [Act.put, List.getElem_toArray, List.getElem_cons_zero, List.getElem_cons_succ, List.setIfInBounds_toArray, List.set_cons_zero, List.set_cons_succ]
  refine wpAnyH_take (i := 12) (oi := _) (v := ?_) rfl (by kernel_rfl) (by kernel_rfl) (by kernel_rfl) (fun _ _ _ h => h) (Or.inl ⟨by rfl, ?_⟩) (by assumption) ?_
  rotate_left
  · first | (intro w' hSw; (try dsimp only at hSw); go_simp; done) | (intro w' hSw; (try dsimp only at hSw); go_simp; with_reducible rfl)
  try simp only [Act.put, List.getElem_toArray, List.getElem_cons_zero, List.getElem_cons_succ, List.setIfInBounds_toArray, List.set_cons_zero, List.set_cons_succ]
  refine wpAnyH_take (i := 13) (oi := _) (v := ?_) rfl (by kernel_rfl) (by kernel_rfl) (by kernel_rfl) (fun _ _ _ h => h) (Or.inl ⟨by rfl, ?_⟩) (by assumption) ?_
  rotate_left
  · first | (intro w' hSw; (try dsimp only at hSw); go_simp; done) | (intro w' hSw; (try dsimp only at hSw); go_simp; with_reducible rfl)
  try simp only [Act.put, List.getElem_toArray, List.getElem_cons_zero, List.getElem_cons_succ, List.setIfInBounds_toArray, List.set_cons_zero, List.set_cons_succ]
  refine wpAnyH_take (i := 14) (oi := _) (v := ?_) rfl (by kernel_rfl) (by kernel_rfl) (by kernel_rfl) (fun _ _ _ h => h) (Or.inl ⟨by rfl, ?_⟩) (by assumption) ?_
  rotate_left
  · first | (intro w' hSw; (try dsimp only at hSw); go_simp; done) | (intro w' hSw; (try dsimp only at hSw); go_simp; with_reducible rfl)
  try simp only [Act.put, List.getElem_toArray, List.getElem_cons_zero, List.getElem_cons_succ, List.setIfInBounds_toArray, List.set_cons_zero, List.set_cons_succ]
  refine wpAnyH_done (by kernel_rfl) ?_ _
  clear fa0 fb0 fc0 fa1 fb1 fc1
  try simp only at HG1 ⊢
  go_wp2_with fail
  refine (eqStepS_is _ _ R1 R1 _ true (samePs_self _) HG1.out (HZ.out.keep HBs.out).reads).mono ?_
  rintro e w37 ⟨rfl, hb⟩
  replace HKh := Lib.hid (HKh.out.below zh hb)
  replace zh : w30.heap.size ≤ w37.heap.size := Nat.le_trans zh hb.size
  replace HBs := Lib.hid (ex_keep HBs.out hb)
  clear hb
  clear HG1
  go_wp2_with fail
  refine (HH.out _ HKh.out zh).mono ?_
  rintro e w38 ⟨rfl, hb⟩
  replace HKh := Lib.hid (HKh.out.below zh hb)
  replace zh : w30.heap.size ≤ w38.heap.size := Nat.le_trans zh hb.size
  replace HBs := Lib.hid (ex_keep HBs.out hb)
  clear hb
  go_wp2
  go_ret
  exact ⟨rfl, ex_keep HB.out HBs.out⟩

set_option maxRecDepth 100000 in
theorem lifted_FnExactProofUnder (os : Os) (started : os.Started) (H : Type) (enc : TypeId × Value → H) :
    ReturnsInHanded {} Try.checked os 5 .any (Rows.fnExactProofUnderSpec.pre6 enc Try.prog Try.f5 Rows.fnExactProofUnderRow.domain false) (Rows.fnExactProofUnderSpec.post enc Try.prog Try.f5 false true false false) := by
  refine returnsInHanded_of_change (C := Try.checked) own started (by kernel_rfl) Try.func5
    (ChangeSpec.witness6 (enc := enc) (C := Try.checked) false ⟨#[], #[.agg #[.int .i64 0, .slice none 0 0, .slice none 0 0], .agg #[.slice none 0 0, .slice none 0 0, .slice none 0 0], .slice none 0 0, .slice none 0 0, .int .i64 0], []⟩ 8 (by kernel_rfl) (by kernel_rfl) (by kernel_rfl) (by kernel_rfl)) ?_
  intro W base args ds gs before hval0 hW hcnd _
  have hval : ∀ (j : Nat) t v, Try.f5.params[j]? = some t → args[j]? = some v → Value.okWide Try.prog W .any base t v := hval0
  have hW' := hW
  obtain ⟨p, q, hA0, hV, rfl, hfz, hnd⟩ := hW
  have hA : DataW.TrodAll enc Try.prog W 0 (fun _ => true) true Try.f5.params.toList args.toList ds p := hA0
  rw [Try.params5] at hA hval
  obtain ⟨v0, vs0, d0, ds0, p0, q0, hargs, rfl, rfl, h0, r0⟩ := trodAll_cons hA
  obtain ⟨v1, vs1, d1, ds1, p1, q1, rfl, rfl, rfl, h1, r1⟩ := trodAll_cons r0
  obtain ⟨v2, vs2, d2, ds2, p2, q2, rfl, rfl, rfl, h2, r2⟩ := trodAll_cons r1
  obtain ⟨v3, vs3, d3, ds3, p3, q3, rfl, rfl, rfl, h3, r3⟩ := trodAll_cons r2
  obtain ⟨v4, vs4, d4, ds4, p4, q4, rfl, rfl, rfl, h4, r4⟩ := trodAll_cons r3
  obtain ⟨rfl, rfl, rfl⟩ := trodAll_nil r4
  obtain rfl : args = #[v0, v1, v2, v3, v4] := by cases args; simp_all
  obtain ⟨rfl, rfl⟩ := trodVars_none hV
  have k0 := h0
  have lt0 : ∀ x ∈ p0, x.block < W.heap.size := by obtain ⟨m, hm⟩ := k0; exact DataW.trod_lt m _ _ _ hm
  obtain ⟨s0, w0⟩ : ∃ s, RThy W v0 s ∧ SmallT s := thy_of (hval 0 35 v0 rfl rfl) h0
  have k1 := h1
  have lt1 : ∀ x ∈ p1, x.block < W.heap.size := by obtain ⟨m, hm⟩ := k1; exact DataW.trod_lt m _ _ _ hm
  obtain ⟨s1, w1⟩ : ∃ s, REq W v1 s ∧ SmallE s := eq_of (hval 1 38 v1 rfl rfl) h1
  have k2 := h2
  have lt2 : ∀ x ∈ p2, x.block < W.heap.size := by obtain ⟨m, hm⟩ := k2; exact DataW.trod_lt m _ _ _ hm
  obtain ⟨s2, w2⟩ : ∃ s, RSteps W v2 s ∧ SmallPs s := steps_of (hval 2 22 v2 rfl rfl) h2
  have k3 := h3
  have lt3 : ∀ x ∈ p3, x.block < W.heap.size := by obtain ⟨m, hm⟩ := k3; exact DataW.trod_lt m _ _ _ hm
  obtain ⟨s3, w3⟩ : ∃ xs, RInts W v3 xs ∧ Small xs := ints_of (hval 3 36 v3 rfl rfl) h3
  have k4 := h4
  have lt4 : ∀ x ∈ p4, x.block < W.heap.size := by obtain ⟨m, hm⟩ := k4; exact DataW.trod_lt m _ _ _ hm
  obtain ⟨a4, w4⟩ : ∃ a, v4 = .int .i64 a := by obtain ⟨a, ha, _⟩ := open_int Try.underlying3 (hval 4 3 v4 rfl rfl) h4; exact ⟨a, ha⟩
  subst w4
  clear hA0 hval0
  refine (walk_FnExactProofUnder _ s0 _ s1 _ s2 _ s3 a4 W w0 w1 w2 w3).mono fun e W' ⟨he, bel⟩ => ?_
  subst he
  exact ⟨_, rfl, _, _, _, [], _, [], hW', trodAll_mk1 (shut_bool Try.underlying4 _), (trodAll_cons_mk (Below.trod laidOut (by kernel_rfl) (of_decide_eq_true (by kernel_rfl)) k0 bel lt0) (trodAll_cons_mk (Below.trod laidOut (by kernel_rfl) (of_decide_eq_true (by kernel_rfl)) k1 bel lt1) (trodAll_cons_mk (Below.trod laidOut (by kernel_rfl) (of_decide_eq_true (by kernel_rfl)) k2 bel lt2) (trodAll_cons_mk (Below.trod laidOut (by kernel_rfl) (of_decide_eq_true (by kernel_rfl)) k3 bel lt3) (trodAll_cons_mk (Below.trod laidOut (by kernel_rfl) (of_decide_eq_true (by kernel_rfl)) k4 bel lt4) trodAll_mk0))))), rfl, bel.frame _, fun h => by cases h⟩

theorem over_FnExactProofUnder : Rows.fnExactProofUnderRow.holds Try.pinned (OpenSpec.ofChange Rows.fnExactProofUnderSpec) :=
  OpenClaim.holds_of_wide 5 Try.f5 rfl rfl rfl rfl rfl rfl rfl ⟨rfl, rfl, rfl, rfl, rfl⟩ rfl rfl rfl rfl rfl (by kernel_rfl) Try.func5 (by kernel_rfl)
    (of_decide_eq_true (by kernel_rfl)) (by unfold Func.isWrapper; first | (rw [if_pos (by decide +kernel)]; kernel_rfl) | (rw [if_neg (by decide +kernel)]; exact ⟨rfl, rfl⟩))
    (fun os started H enc _ => lifted_FnExactProofUnder os started H enc)

theorem proved_FnExactProofUnder : Rows.FnExactProofUnderSaid := over_FnExactProofUnder
end Go.Proofs.Ytonainidjkcoeac
