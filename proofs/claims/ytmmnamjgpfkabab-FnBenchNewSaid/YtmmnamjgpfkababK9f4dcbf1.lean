/- EqOk of both packages. · TheoryOk of both packages. · BenchValid of both packages. -/
import Derived.Test.YtmmnamjgpfkababK74208f7b
namespace Go.Proofs.Ytmmnamjgpfkabab
section
open Go.RowKit
set_option linter.unusedVariables false
set_option linter.unusedSimpArgs false

theorem eqOkB_no {s : MSig} {e : MEq} (h : ¬ 0 ≤ sortM s e.vars e.left) : eqOkB s e = false := by unfold eqOkB; simp [h]
theorem eqOkB_cmp {s : MSig} {e : MEq} (h : 0 ≤ sortM s e.vars e.left) : eqOkB s e = (sortM s e.vars e.right == sortM s e.vars e.left) := by
  unfold eqOkB; rw [decide_eq_true h, Bool.true_and]; rfl

set_option maxRecDepth 100000 in
theorem eqOk_any (s : MSig) (e : MEq) (w : World) (v ev : Value) (hsm : SmallE e) (h : RSig w v s) (he : REq w ev e) :
    Calls Try.prog 90 #[v, ev] w fun x w' => x = .returned (.bool (eqOkB s e)) ∧ Below w.heap.size w w' := by
  obtain ⟨A, c, rfl⟩ := h.form
  obtain ⟨A0, c0, A1, c1, A2, c2, rfl⟩ := he.form
  have hb : Below w.heap.size w ((w.alloc (.cells #[.int .i64 s.sorts, .slice A s.ops.length c] 33)).alloc (.cells #[.slice A0 e.vars.length c0, .slice A1 e.left.length c1, .slice A2 e.right.length c2] 71)) := (below_alloc _ _).alloc (by simp) _
  obtain ⟨r0, r1, r2⟩ := (he.keep hb).of
  have HS := Lib.hid (h.keep hb)
  have R0 := Lib.hid r0
  have R1 := Lib.hid r1
  have R2 := Lib.hid r2
  have HB := Lib.hid hb
  have HSM := Lib.hid hsm
  have s0 := cell_keep (below_alloc (w.alloc (.cells #[.int .i64 s.sorts, .slice A s.ops.length c] 33)) (.cells #[.slice A0 e.vars.length c0, .slice A1 e.left.length c1, .slice A2 e.right.length c2] 71)) (bx_at w #[.int .i64 s.sorts, .slice A s.ops.length c] 33 (k := 0) rfl)
  have s1 := cell_keep (below_alloc (w.alloc (.cells #[.int .i64 s.sorts, .slice A s.ops.length c] 33)) (.cells #[.slice A0 e.vars.length c0, .slice A1 e.left.length c1, .slice A2 e.right.length c2] 71)) (bx_at w #[.int .i64 s.sorts, .slice A s.ops.length c] 33 (k := 1) rfl)
  have e0 := bx_at (w.alloc (.cells #[.int .i64 s.sorts, .slice A s.ops.length c] 33)) #[.slice A0 e.vars.length c0, .slice A1 e.left.length c1, .slice A2 e.right.length c2] 71 (k := 0) rfl
  have e1 := bx_at (w.alloc (.cells #[.int .i64 s.sorts, .slice A s.ops.length c] 33)) #[.slice A0 e.vars.length c0, .slice A1 e.left.length c1, .slice A2 e.right.length c2] 71 (k := 1) rfl
  have e2 := bx_at (w.alloc (.cells #[.int .i64 s.sorts, .slice A s.ops.length c] 33)) #[.slice A0 e.vars.length c0, .slice A1 e.left.length c1, .slice A2 e.right.length c2] 71 (k := 2) rfl
  simp only [World.size_alloc] at e0 e1 e2
  generalize hW : (w.alloc (.cells #[.int .i64 s.sorts, .slice A s.ops.length c] 33)).alloc (.cells #[.slice A0 e.vars.length c0, .slice A1 e.left.length c1, .slice A2 e.right.length c2] 71) = W at HS R0 R1 R2 HB s0 s1 e0 e1 e2
  clear h he hb r0 r1 r2 hsm
  go_enter Try.func90, Try.ntmps90
  go_wp2_with fail
  clear hW
  refine (termSort_any s e.vars e.left _ _ _ _ HSM.out.1 HS.out R0.out R1.out).mono ?_
  rintro x w1 ⟨rfl, hb1⟩
  have t0 := cell_keep hb1 s0
  have t1 := cell_keep hb1 s1
  have t2 := cell_keep hb1 e0
  have t3 := cell_keep hb1 e1
  have t4 := cell_keep hb1 e2
  have HB1 := Lib.hid (fit_keep HB.out hb1)
  have HS1 := Lib.hid (HS.out.keep hb1)
  have R01 := Lib.hid (R0.out.keep hb1)
  have R21 := Lib.hid (R2.out.keep hb1)
  clear hb1 s0 s1 e0 e1 e2 HS R0 R1 R2 HB
  by_cases h0 : 0 ≤ sortM s e.vars e.left
  · have HE := Lib.hid (eqOkB_cmp h0)
    generalize hq : sortM s e.vars e.left = q at h0 HE
    clear hq
    go_wp2_with fail
    refine (termSort_any s e.vars e.right _ _ _ _ HSM.out.2 HS1.out R01.out R21.out).mono ?_
    rintro x w2 ⟨rfl, hb2⟩
    have HB2 := Lib.hid (fit_keep HB1.out hb2)
    clear hb2 t0 t1 t2 t3 t4
    go_wp2
    go_ret
    exact ⟨ret_bool HE.out.symm, HB2.out⟩
  · have HE := Lib.hid (eqOkB_no h0)
    generalize hq : sortM s e.vars e.left = q at h0
    clear hq
    go_wp2
    go_ret
    exact ⟨ret_bool HE.out.symm, HB1.out⟩

set_option maxRecDepth 100000 in
set_option maxHeartbeats 1600000 in
theorem specEqOk_any (s : MSig) (e : MEq) (w : World) (v ev : Value) (h : RSig w v s) (he : REq w ev e) :
    Calls Try.prog 89 #[v, ev] w fun x w' => x = .returned (.bool (eqOkB s e)) ∧ Below w.heap.size w w' := by
  obtain ⟨Asa, csa, rfl⟩ := h.form
  obtain ⟨Aea, cea, Aeb, ceb, Aec, cec, rfl⟩ := he.form
  have hb : Below w.heap.size w ((w.alloc (.cells #[.int .i64 s.sorts, .slice Asa s.ops.length csa] 33)).alloc (.cells #[.slice Aea e.vars.length cea, .slice Aeb e.left.length ceb, .slice Aec e.right.length cec] 71)) := (below_alloc _ _).alloc (by simp) _
  have HB := Lib.hid hb
  have hsz : ((w.alloc (.cells #[.int .i64 s.sorts, .slice Asa s.ops.length csa] 33)).alloc (.cells #[.slice Aea e.vars.length cea, .slice Aeb e.left.length ceb, .slice Aec e.right.length cec] 71)).heap.size = w.heap.size + 2 := by simp
  have Hs := Lib.hid (h.keep hb)
  have s0 := cell_keep (below_alloc (w.alloc (.cells #[.int .i64 s.sorts, .slice Asa s.ops.length csa] 33)) (.cells #[.slice Aea e.vars.length cea, .slice Aeb e.left.length ceb, .slice Aec e.right.length cec] 71)) (bx_at (w) #[.int .i64 s.sorts, .slice Asa s.ops.length csa] 33 (k := 0) rfl)
  have s1 := cell_keep (below_alloc (w.alloc (.cells #[.int .i64 s.sorts, .slice Asa s.ops.length csa] 33)) (.cells #[.slice Aea e.vars.length cea, .slice Aeb e.left.length ceb, .slice Aec e.right.length cec] 71)) (bx_at (w) #[.int .i64 s.sorts, .slice Asa s.ops.length csa] 33 (k := 1) rfl)
  have He := Lib.hid (he.keep hb)
  have e0 := bx_at (w.alloc (.cells #[.int .i64 s.sorts, .slice Asa s.ops.length csa] 33)) #[.slice Aea e.vars.length cea, .slice Aeb e.left.length ceb, .slice Aec e.right.length cec] 71 (k := 0) rfl
  have e1 := bx_at (w.alloc (.cells #[.int .i64 s.sorts, .slice Asa s.ops.length csa] 33)) #[.slice Aea e.vars.length cea, .slice Aeb e.left.length ceb, .slice Aec e.right.length cec] 71 (k := 1) rfl
  have e2 := bx_at (w.alloc (.cells #[.int .i64 s.sorts, .slice Asa s.ops.length csa] 33)) #[.slice Aea e.vars.length cea, .slice Aeb e.left.length ceb, .slice Aec e.right.length cec] 71 (k := 2) rfl
  simp only [World.size_alloc] at e0 e1 e2
  generalize hW : (w.alloc (.cells #[.int .i64 s.sorts, .slice Asa s.ops.length csa] 33)).alloc (.cells #[.slice Aea e.vars.length cea, .slice Aeb e.left.length ceb, .slice Aec e.right.length cec] 71) = W at HB hsz Hs s0 s1 He e0 e1 e2
  clear hb h he
  obtain ⟨r0, r1, r2⟩ := He.out.of
  have R0 := Lib.hid r0
  have R1 := Lib.hid r1
  have R2 := Lib.hid r2
  have HC := Lib.hid (And.intro s0 (And.intro s1 (And.intro e0 (And.intro e1 e2))))
  clear r0 r1 r2
  have ea := World.new_ne W _ s0
  have eb := World.new_ne W _ e0
  by_cases h0 : 0 ≤ sortM s e.vars e.left
  · have HE := Lib.hid (eqOkB_cmp h0)
    obtain ⟨q, hq⟩ : ∃ q, sortM s e.vars e.left = q := ⟨_, rfl⟩
    obtain ⟨p, hp⟩ : ∃ p, sortM s e.vars e.right = p := ⟨_, rfl⟩
    rw [hq] at h0 HE
    rw [hp] at HE
    have HQ := Lib.hid hq
    have HP := Lib.hid hp
    clear hq hp
    go_enter Try.func89, Try.ntmps89
    go_wp2_with fail
    clear hW
    refine wp_region_held_drew (S := (fun w' => w'.cell? ⟨w.heap.size, 0, none⟩ = some (.int .i64 s.sorts) ∧ w'.cell? ⟨w.heap.size, 1, none⟩ = some (.slice Asa s.ops.length csa) ∧ w'.cell? ⟨w.heap.size + 1, 0, none⟩ = some (.slice Aea e.vars.length cea) ∧ w'.cell? ⟨w.heap.size + 1, 1, none⟩ = some (.slice Aeb e.left.length ceb) ∧ w'.cell? ⟨w.heap.size + 1, 2, none⟩ = some (.slice Aec e.right.length cec))) (by kernel_rfl) ?_ (fun hHeld => ?_)
    · exact ⟨s0, s1, e0, e1, e2⟩
    refine wpAnyH_take (i := 0) (oi := _) (v := ?_) rfl (by kernel_rfl) (by kernel_rfl) (by kernel_rfl) (fun _ _ _ h => h) (Or.inl ⟨by rfl, ?_⟩) (by assumption) ?_
    rotate_left
    · first | (intro w' hSw; (try dsimp only at hSw); go_simp; done) | (intro w' hSw; (try dsimp only at hSw); go_simp; with_reducible rfl)
    try simp only [Act.put, List.getElem_toArray, List.getElem_cons_zero, List.getElem_cons_succ, List.setIfInBounds_toArray, List.set_cons_zero, List.set_cons_succ]
    refine wpAnyH_take (i := 1) (oi := _) (v := ?_) rfl (by kernel_rfl) (by kernel_rfl) (by kernel_rfl) (fun _ _ _ h => h) (Or.inl ⟨by rfl, ?_⟩) (by assumption) ?_
    rotate_left
    · first | (intro w' hSw; (try dsimp only at hSw); go_simp; done) | (intro w' hSw; (try dsimp only at hSw); go_simp; with_reducible rfl)
    try simp only [Act.put, List.getElem_toArray, List.getElem_cons_zero, List.getElem_cons_succ, List.setIfInBounds_toArray, List.set_cons_zero, List.set_cons_succ]
    refine wpAnyH_take (i := 2) (oi := _) (v := ?_) rfl (by kernel_rfl) (by kernel_rfl) (by kernel_rfl) (fun _ _ _ h => h) (Or.inl ⟨by rfl, ?_⟩) (by assumption) ?_
    rotate_left
    · first | (intro w' hSw; (try dsimp only at hSw); go_simp; done) | (intro w' hSw; (try dsimp only at hSw); go_simp; with_reducible rfl)
    try simp only [Act.put, List.getElem_toArray, List.getElem_cons_zero, List.getElem_cons_succ, List.setIfInBounds_toArray, List.set_cons_zero, List.set_cons_succ]
    refine wpAnyH_take (i := 3) (oi := _) (v := ?_) rfl (by kernel_rfl) (by kernel_rfl) (by kernel_rfl) (fun _ _ _ h => h) (Or.inl ⟨by rfl, ?_⟩) (by assumption) ?_
    rotate_left
    · first | (intro w' hSw; (try dsimp only at hSw); go_simp; done) | (intro w' hSw; (try dsimp only at hSw); go_simp; with_reducible rfl)
    try simp only [Act.put, List.getElem_toArray, List.getElem_cons_zero, List.getElem_cons_succ, List.setIfInBounds_toArray, List.set_cons_zero, List.set_cons_succ]
    refine wpAnyH_take (i := 4) (oi := _) (v := ?_) rfl (by kernel_rfl) (by kernel_rfl) (by kernel_rfl) (fun _ _ _ h => h) (Or.inl ⟨by rfl, ?_⟩) (by assumption) ?_
    rotate_left
    · first | (intro w' hSw; (try dsimp only at hSw); go_simp; done) | (intro w' hSw; (try dsimp only at hSw); go_simp; with_reducible rfl)
    try simp only [Act.put, List.getElem_toArray, List.getElem_cons_zero, List.getElem_cons_succ, List.setIfInBounds_toArray, List.set_cons_zero, List.set_cons_succ]
    refine wpAnyH_ready (rs := [5]) (by kernel_rfl) (by simp) ?_
    refine AllReadyH.cons (o := _) rfl (fun K hK => ?_) AllReadyH.nil
    go_simp
    refine (specTermSort_any s e.vars e.left W.drew _ _ _ (Hs.out.keep (bel_drew (Below.refl _ _))) (R0.out.keep (bel_drew (Below.refl _ _))) (R1.out.keep (bel_drew (Below.refl _ _)))).mono ?_
    rw [HQ.out]
    rintro x w1 ⟨rfl, hb1⟩
    have hx1 := (show Below W.heap.size W w1 from bel_undrew hb1)
    have HX1 := Lib.hid hx1
    have t0 := cell_keep hx1 s0
    have t1 := cell_keep hx1 s1
    have t2 := cell_keep hx1 e0
    have t3 := cell_keep hx1 e1
    have t4 := cell_keep hx1 e2
    clear hb1 hx1
    go_wp2_with fail
    refine hK.out _ _ ?_ (fun hHeld => ?_)
    · exact ⟨t0, t1, t2, t3, t4⟩
    clear hK K
    try simp only [Act.put, List.getElem_toArray, List.getElem_cons_zero, List.getElem_cons_succ, List.setIfInBounds_toArray, List.set_cons_zero, List.set_cons_succ]
    refine wpAnyH_take (i := 6) (oi := _) (v := ?_) rfl (by kernel_rfl) (by kernel_rfl) (by kernel_rfl) (fun _ _ _ h => h) (Or.inl ⟨by rfl, ?_⟩) (by assumption) ?_
    rotate_left
    · first | (intro w' hSw; (try dsimp only at hSw); go_simp; done) | (intro w' hSw; (try dsimp only at hSw); go_simp; with_reducible rfl)
    try simp only [Act.put, List.getElem_toArray, List.getElem_cons_zero, List.getElem_cons_succ, List.setIfInBounds_toArray, List.set_cons_zero, List.set_cons_succ]
    refine wpAnyH_take (i := 7) (oi := _) (v := ?_) rfl (by kernel_rfl) (by kernel_rfl) (by kernel_rfl) (fun _ _ _ h => h) (Or.inl ⟨by rfl, ?_⟩) (by assumption) ?_
    rotate_left
    · first | (intro w' hSw; (try dsimp only at hSw); go_simp; done) | (intro w' hSw; (try dsimp only at hSw); go_simp; with_reducible rfl)
    try simp only [Act.put, List.getElem_toArray, List.getElem_cons_zero, List.getElem_cons_succ, List.setIfInBounds_toArray, List.set_cons_zero, List.set_cons_succ]
    refine wpAnyH_take (i := 8) (oi := _) (v := ?_) rfl (by kernel_rfl) (by kernel_rfl) (by kernel_rfl) (fun _ _ _ h => h) (Or.inl ⟨by rfl, ?_⟩) (by assumption) ?_
    rotate_left
    · first | (intro w' hSw; (try dsimp only at hSw); go_simp; done) | (intro w' hSw; (try dsimp only at hSw); go_simp; with_reducible rfl)
    try simp only [Act.put, List.getElem_toArray, List.getElem_cons_zero, List.getElem_cons_succ, List.setIfInBounds_toArray, List.set_cons_zero, List.set_cons_succ]
    refine wpAnyH_take (i := 9) (oi := _) (v := ?_) rfl (by kernel_rfl) (by kernel_rfl) (by kernel_rfl) (fun _ _ _ h => h) (Or.inl ⟨by rfl, ?_⟩) (by assumption) ?_
    rotate_left
    · first | (intro w' hSw; (try dsimp only at hSw); go_simp; done) | (intro w' hSw; (try dsimp only at hSw); go_simp; with_reducible rfl)
    try simp only [Act.put, List.getElem_toArray, List.getElem_cons_zero, List.getElem_cons_succ, List.setIfInBounds_toArray, List.set_cons_zero, List.set_cons_succ]
    refine wpAnyH_take (i := 10) (oi := _) (v := ?_) rfl (by kernel_rfl) (by kernel_rfl) (by kernel_rfl) (fun _ _ _ h => h) (Or.inl ⟨by rfl, ?_⟩) (by assumption) ?_
    rotate_left
    · first | (intro w' hSw; (try dsimp only at hSw); go_simp; done) | (intro w' hSw; (try dsimp only at hSw); go_simp; with_reducible rfl)
    try simp only [Act.put, List.getElem_toArray, List.getElem_cons_zero, List.getElem_cons_succ, List.setIfInBounds_toArray, List.set_cons_zero, List.set_cons_succ]
    refine wpAnyH_take (i := 11) (oi := _) (v := ?_) rfl (by kernel_rfl) (by kernel_rfl) (by kernel_rfl) (fun _ _ _ h => h) (Or.inl ⟨by rfl, ?_⟩) (by assumption) ?_
    rotate_left
    · first | (intro w' hSw; (try dsimp only at hSw); go_simp; done) | (intro w' hSw; (try dsimp only at hSw); go_simp; with_reducible rfl)
    try simp only [Act.put, List.getElem_toArray, List.getElem_cons_zero, List.getElem_cons_succ, List.setIfInBounds_toArray, List.set_cons_zero, List.set_cons_succ]
    refine wpAnyH_take (i := 12) (oi := _) (v := ?_) rfl (by kernel_rfl) (by kernel_rfl) (by kernel_rfl) (fun _ _ _ h => h) (Or.inl ⟨by rfl, ?_⟩) (by assumption) ?_
    rotate_left
    · first | (intro w' hSw; (try dsimp only at hSw); go_simp; done) | (intro w' hSw; (try dsimp only at hSw); go_simp; with_reducible rfl)
    try simp only [Act.put, List.getElem_toArray, List.getElem_cons_zero, List.getElem_cons_succ, List.setIfInBounds_toArray, List.set_cons_zero, List.set_cons_succ]
    refine wpAnyH_take (i := 14) (oi := _) (v := ?_) rfl (by kernel_rfl) (by kernel_rfl) (by kernel_rfl) (fun _ _ _ h => h) (Or.inl ⟨by rfl, ?_⟩) (by assumption) ?_
    rotate_left
    · first | (intro w' hSw; (try dsimp only at hSw); go_simp; done) | (intro w' hSw; (try dsimp only at hSw); go_simp; with_reducible rfl)
    try simp only [Act.put, List.getElem_toArray, List.getElem_cons_zero, List.getElem_cons_succ, List.setIfInBounds_toArray, List.set_cons_zero, List.set_cons_succ]
    refine wpAnyH_take (i := 15) (oi := _) (v := ?_) rfl (by kernel_rfl) (by kernel_rfl) (by kernel_rfl) (fun _ _ _ h => h) (Or.inl ⟨by rfl, ?_⟩) (by assumption) ?_
    rotate_left
    · first | (intro w' hSw; (try dsimp only at hSw); go_simp; done) | (intro w' hSw; (try dsimp only at hSw); go_simp; with_reducible rfl)
    try simp only [Act.put, List.getElem_toArray, List.getElem_cons_zero, List.getElem_cons_succ, List.setIfInBounds_toArray, List.set_cons_zero, List.set_cons_succ]
    refine wpAnyH_take (i := 16) (oi := _) (v := ?_) rfl (by kernel_rfl) (by kernel_rfl) (by kernel_rfl) (fun _ _ _ h => h) (Or.inl ⟨by rfl, ?_⟩) (by assumption) ?_
    rotate_left
    · first | (intro w' hSw; (try dsimp only at hSw); go_simp; done) | (intro w' hSw; (try dsimp only at hSw); go_simp; with_reducible rfl)
    try simp only [Act.put, List.getElem_toArray, List.getElem_cons_zero, List.getElem_cons_succ, List.setIfInBounds_toArray, List.set_cons_zero, List.set_cons_succ]
    refine wpAnyH_take (i := 17) (oi := _) (v := ?_) rfl (by kernel_rfl) (by kernel_rfl) (by kernel_rfl) (fun _ _ _ h => h) (Or.inl ⟨by rfl, ?_⟩) (by assumption) ?_
    rotate_left
    · first | (intro w' hSw; (try dsimp only at hSw); go_simp; done) | (intro w' hSw; (try dsimp only at hSw); go_simp; with_reducible rfl)
    try simp only [Act.put, List.getElem_toArray, List.getElem_cons_zero, List.getElem_cons_succ, List.setIfInBounds_toArray, List.set_cons_zero, List.set_cons_succ]
    refine wpAnyH_take (i := 18) (oi := _) (v := ?_) rfl (by kernel_rfl) (by kernel_rfl) (by kernel_rfl) (fun _ _ _ h => h) (Or.inl ⟨by rfl, ?_⟩) (by assumption) ?_
    rotate_left
    · first | (intro w' hSw; (try dsimp only at hSw); go_simp; done) | (intro w' hSw; (try dsimp only at hSw); go_simp; with_reducible rfl)
    try simp only [Act.put, List.getElem_toArray, List.getElem_cons_zero, List.getElem_cons_succ, List.setIfInBounds_toArray, List.set_cons_zero, List.set_cons_succ]
    refine wpAnyH_ready (rs := [13]) (by kernel_rfl) (by simp) ?_
    refine AllReadyH.cons (o := _) rfl (fun K hK => ?_) AllReadyH.nil
    go_simp
    refine (specTermSort_any s e.vars e.left w1 _ _ _ (Hs.out.keep HX1.out) (R0.out.keep HX1.out) (R1.out.keep HX1.out)).mono ?_
    rw [HQ.out]
    rintro x w2 ⟨rfl, hb2⟩
    have HX2 := Lib.hid (fit_keep HX1.out hb2)
    have u0 := cell_keep hb2 t0
    have u1 := cell_keep hb2 t1
    have u2 := cell_keep hb2 t2
    have u3 := cell_keep hb2 t3
    have u4 := cell_keep hb2 t4
    clear hb2
    go_wp2_with fail
    refine hK.out _ _ ?_ (fun hHeld => ?_)
    · exact ⟨u0, u1, u2, u3, u4⟩
    clear hK K
    try simp only [Act.put, List.getElem_toArray, List.getElem_cons_zero, List.getElem_cons_succ, List.setIfInBounds_toArray, List.set_cons_zero, List.set_cons_succ]
    refine wpAnyH_ready (rs := [19]) (by kernel_rfl) (by simp) ?_
    refine AllReadyH.cons (o := _) rfl (fun K hK => ?_) AllReadyH.nil
    go_simp
    refine (specTermSort_any s e.vars e.right w2 _ _ _ (Hs.out.keep HX2.out) (R0.out.keep HX2.out) (R2.out.keep HX2.out)).mono ?_
    rw [HP.out]
    rintro x w3 ⟨rfl, hb3⟩
    have HX3 := Lib.hid (fit_keep HX2.out hb3)
    have v0 := cell_keep hb3 u0
    have v1 := cell_keep hb3 u1
    have v2 := cell_keep hb3 u2
    have v3 := cell_keep hb3 u3
    have v4 := cell_keep hb3 u4
    clear hb3
    go_wp2_with fail
    refine hK.out _ _ ?_ (fun hHeld => ?_)
    · exact ⟨v0, v1, v2, v3, v4⟩
    clear hK K
    try simp only [Act.put, List.getElem_toArray, List.getElem_cons_zero, List.getElem_cons_succ, List.setIfInBounds_toArray, List.set_cons_zero, List.set_cons_succ]
    refine wpAnyH_take (i := 20) (oi := _) (v := ?_) rfl (by kernel_rfl) (by kernel_rfl) (by kernel_rfl) (fun _ _ _ h => h) (Or.inl ⟨by rfl, ?_⟩) (by assumption) ?_
    rotate_left
    · first | (intro w' hSw; (try dsimp only at hSw); go_simp; done) | (intro w' hSw; (try dsimp only at hSw); go_simp; with_reducible rfl)
    try simp only [Act.put, List.getElem_toArray, List.getElem_cons_zero, List.getElem_cons_succ, List.setIfInBounds_toArray, List.set_cons_zero, List.set_cons_succ]
    refine wpAnyH_take (i := 21) (oi := _) (v := ?_) rfl (by kernel_rfl) (by kernel_rfl) (by kernel_rfl) (fun _ _ _ h => h) (Or.inl ⟨by rfl, ?_⟩) (by assumption) ?_
    rotate_left
    · first | (intro w' hSw; (try dsimp only at hSw); go_simp; done) | (intro w' hSw; (try dsimp only at hSw); go_simp; with_reducible rfl)
    try simp only [Act.put, List.getElem_toArray, List.getElem_cons_zero, List.getElem_cons_succ, List.setIfInBounds_toArray, List.set_cons_zero, List.set_cons_succ]
    refine wpAnyH_take (i := 22) (oi := _) (v := ?_) rfl (by kernel_rfl) (by kernel_rfl) (by kernel_rfl) (fun _ _ _ h => h) (Or.inl ⟨by rfl, ?_⟩) (by assumption) ?_
    rotate_left
    · first | (intro w' hSw; (try dsimp only at hSw); go_simp; done) | (intro w' hSw; (try dsimp only at hSw); go_simp; with_reducible rfl)
    try simp only [Act.put, List.getElem_toArray, List.getElem_cons_zero, List.getElem_cons_succ, List.setIfInBounds_toArray, List.set_cons_zero, List.set_cons_succ]
    refine wpAnyH_done (by kernel_rfl) ?_ _
    clear s0 s1 e0 e1 e2 t0 t1 t2 t3 t4 u0 u1 u2 u3 u4 v0 v1 v2 v3 v4 ea eb
    go_wp2
    go_ret
    exact ⟨ret_bool (by rw [HE.out]; exact Bool.beq_comm), fit_keep HB.out HX3.out⟩
  · have HE := Lib.hid (eqOkB_no h0)
    obtain ⟨q, hq⟩ : ∃ q, sortM s e.vars e.left = q := ⟨_, rfl⟩
    rw [hq] at h0
    have h0' : q < 0 := by omega
    have h1' : decide (0 ≤ q) = false := by simp; omega
    have HQ := Lib.hid hq
    clear hq
    go_enter Try.func89, Try.ntmps89
    go_wp2_with fail
    clear hW
    refine wp_region_held_drew (S := (fun w' => w'.cell? ⟨w.heap.size, 0, none⟩ = some (.int .i64 s.sorts) ∧ w'.cell? ⟨w.heap.size, 1, none⟩ = some (.slice Asa s.ops.length csa) ∧ w'.cell? ⟨w.heap.size + 1, 0, none⟩ = some (.slice Aea e.vars.length cea) ∧ w'.cell? ⟨w.heap.size + 1, 1, none⟩ = some (.slice Aeb e.left.length ceb) ∧ w'.cell? ⟨w.heap.size + 1, 2, none⟩ = some (.slice Aec e.right.length cec))) (by kernel_rfl) ?_ (fun hHeld => ?_)
    · exact ⟨s0, s1, e0, e1, e2⟩
    refine wpAnyH_take (i := 0) (oi := _) (v := ?_) rfl (by kernel_rfl) (by kernel_rfl) (by kernel_rfl) (fun _ _ _ h => h) (Or.inl ⟨by rfl, ?_⟩) (by assumption) ?_
    rotate_left
    · first | (intro w' hSw; (try dsimp only at hSw); go_simp; done) | (intro w' hSw; (try dsimp only at hSw); go_simp; with_reducible rfl)
    try simp only [Act.put, List.getElem_toArray, List.getElem_cons_zero, List.getElem_cons_succ, List.setIfInBounds_toArray, List.set_cons_zero, List.set_cons_succ]
    refine wpAnyH_take (i := 1) (oi := _) (v := ?_) rfl (by kernel_rfl) (by kernel_rfl) (by kernel_rfl) (fun _ _ _ h => h) (Or.inl ⟨by rfl, ?_⟩) (by assumption) ?_
    rotate_left
    · first | (intro w' hSw; (try dsimp only at hSw); go_simp; done) | (intro w' hSw; (try dsimp only at hSw); go_simp; with_reducible rfl)
    try simp only [Act.put, List.getElem_toArray, List.getElem_cons_zero, List.getElem_cons_succ, List.setIfInBounds_toArray, List.set_cons_zero, List.set_cons_succ]
    refine wpAnyH_take (i := 2) (oi := _) (v := ?_) rfl (by kernel_rfl) (by kernel_rfl) (by kernel_rfl) (fun _ _ _ h => h) (Or.inl ⟨by rfl, ?_⟩) (by assumption) ?_
    rotate_left
    · first | (intro w' hSw; (try dsimp only at hSw); go_simp; done) | (intro w' hSw; (try dsimp only at hSw); go_simp; with_reducible rfl)
    try simp only [Act.put, List.getElem_toArray, List.getElem_cons_zero, List.getElem_cons_succ, List.setIfInBounds_toArray, List.set_cons_zero, List.set_cons_succ]
    refine wpAnyH_take (i := 3) (oi := _) (v := ?_) rfl (by kernel_rfl) (by kernel_rfl) (by kernel_rfl) (fun _ _ _ h => h) (Or.inl ⟨by rfl, ?_⟩) (by assumption) ?_
    rotate_left
    · first | (intro w' hSw; (try dsimp only at hSw); go_simp; done) | (intro w' hSw; (try dsimp only at hSw); go_simp; with_reducible rfl)
    try simp only [Act.put, List.getElem_toArray, List.getElem_cons_zero, List.getElem_cons_succ, List.setIfInBounds_toArray, List.set_cons_zero, List.set_cons_succ]
    refine wpAnyH_take (i := 4) (oi := _) (v := ?_) rfl (by kernel_rfl) (by kernel_rfl) (by kernel_rfl) (fun _ _ _ h => h) (Or.inl ⟨by rfl, ?_⟩) (by assumption) ?_
    rotate_left
    · first | (intro w' hSw; (try dsimp only at hSw); go_simp; done) | (intro w' hSw; (try dsimp only at hSw); go_simp; with_reducible rfl)
    try simp only [Act.put, List.getElem_toArray, List.getElem_cons_zero, List.getElem_cons_succ, List.setIfInBounds_toArray, List.set_cons_zero, List.set_cons_succ]
    refine wpAnyH_ready (rs := [5]) (by kernel_rfl) (by simp) ?_
    refine AllReadyH.cons (o := _) rfl (fun K hK => ?_) AllReadyH.nil
    go_simp
    refine (specTermSort_any s e.vars e.left W.drew _ _ _ (Hs.out.keep (bel_drew (Below.refl _ _))) (R0.out.keep (bel_drew (Below.refl _ _))) (R1.out.keep (bel_drew (Below.refl _ _)))).mono ?_
    rw [HQ.out]
    rintro x w1 ⟨rfl, hb1⟩
    have hx1 := (show Below W.heap.size W w1 from bel_undrew hb1)
    have HX1 := Lib.hid hx1
    have t0 := cell_keep hx1 s0
    have t1 := cell_keep hx1 s1
    have t2 := cell_keep hx1 e0
    have t3 := cell_keep hx1 e1
    have t4 := cell_keep hx1 e2
    clear hb1 hx1
    go_wp2_with fail
    refine hK.out _ _ ?_ (fun hHeld => ?_)
    · exact ⟨t0, t1, t2, t3, t4⟩
    clear hK K
    try simp only [Act.put, List.getElem_toArray, List.getElem_cons_zero, List.getElem_cons_succ, List.setIfInBounds_toArray, List.set_cons_zero, List.set_cons_succ]
    refine wpAnyH_take (i := 6) (oi := _) (v := ?_) rfl (by kernel_rfl) (by kernel_rfl) (by kernel_rfl) (fun _ _ _ h => h) (Or.inl ⟨by rfl, ?_⟩) (by assumption) ?_
    rotate_left
    · first | (intro w' hSw; (try dsimp only at hSw); go_simp; done) | (intro w' hSw; (try dsimp only at hSw); go_simp; with_reducible rfl)
    try simp only [Act.put, List.getElem_toArray, List.getElem_cons_zero, List.getElem_cons_succ, List.setIfInBounds_toArray, List.set_cons_zero, List.set_cons_succ]
    refine wpAnyH_take (i := 7) (oi := _) (v := ?_) rfl (by kernel_rfl) (by kernel_rfl) (by kernel_rfl) (fun _ _ _ h => h) (Or.inl ⟨by rfl, ?_⟩) (by assumption) ?_
    rotate_left
    · first | (intro w' hSw; (try dsimp only at hSw); go_simp; done) | (intro w' hSw; (try dsimp only at hSw); go_simp; with_reducible rfl)
    try simp only [Act.put, List.getElem_toArray, List.getElem_cons_zero, List.getElem_cons_succ, List.setIfInBounds_toArray, List.set_cons_zero, List.set_cons_succ]
    refine wpAnyH_take (i := 8) (oi := _) (v := _) rfl (by kernel_rfl) (by kernel_rfl) (by kernel_rfl) (fun _ _ _ h => h) (Or.inr ⟨by rfl, rfl⟩) (by assumption) ?_
    try simp only [Act.put, List.getElem_toArray, List.getElem_cons_zero, List.getElem_cons_succ, List.setIfInBounds_toArray, List.set_cons_zero, List.set_cons_succ]
    refine wpAnyH_take (i := 9) (oi := _) (v := _) rfl (by kernel_rfl) (by kernel_rfl) (by kernel_rfl) (fun _ _ _ h => h) (Or.inr ⟨by rfl, rfl⟩) (by assumption) ?_
    try simp only [Act.put, List.getElem_toArray, List.getElem_cons_zero, List.getElem_cons_succ, List.setIfInBounds_toArray, List.set_cons_zero, List.set_cons_succ]
    refine wpAnyH_take (i := 10) (oi := _) (v := _) rfl (by kernel_rfl) (by kernel_rfl) (by kernel_rfl) (fun _ _ _ h => h) (Or.inr ⟨by rfl, rfl⟩) (by assumption) ?_
    try simp only [Act.put, List.getElem_toArray, List.getElem_cons_zero, List.getElem_cons_succ, List.setIfInBounds_toArray, List.set_cons_zero, List.set_cons_succ]
    refine wpAnyH_take (i := 11) (oi := _) (v := _) rfl (by kernel_rfl) (by kernel_rfl) (by kernel_rfl) (fun _ _ _ h => h) (Or.inr ⟨by rfl, rfl⟩) (by assumption) ?_
    try simp only [Act.put, List.getElem_toArray, List.getElem_cons_zero, List.getElem_cons_succ, List.setIfInBounds_toArray, List.set_cons_zero, List.set_cons_succ]
    refine wpAnyH_take (i := 12) (oi := _) (v := _) rfl (by kernel_rfl) (by kernel_rfl) (by kernel_rfl) (fun _ _ _ h => h) (Or.inr ⟨by rfl, rfl⟩) (by assumption) ?_
    try simp only [Act.put, List.getElem_toArray, List.getElem_cons_zero, List.getElem_cons_succ, List.setIfInBounds_toArray, List.set_cons_zero, List.set_cons_succ]
    refine wpAnyH_take (i := 14) (oi := _) (v := _) rfl (by kernel_rfl) (by kernel_rfl) (by kernel_rfl) (fun _ _ _ h => h) (Or.inr ⟨by rfl, rfl⟩) (by assumption) ?_
    try simp only [Act.put, List.getElem_toArray, List.getElem_cons_zero, List.getElem_cons_succ, List.setIfInBounds_toArray, List.set_cons_zero, List.set_cons_succ]
    refine wpAnyH_take (i := 15) (oi := _) (v := _) rfl (by kernel_rfl) (by kernel_rfl) (by kernel_rfl) (fun _ _ _ h => h) (Or.inr ⟨by rfl, rfl⟩) (by assumption) ?_
    try simp only [Act.put, List.getElem_toArray, List.getElem_cons_zero, List.getElem_cons_succ, List.setIfInBounds_toArray, List.set_cons_zero, List.set_cons_succ]
    refine wpAnyH_take (i := 16) (oi := _) (v := _) rfl (by kernel_rfl) (by kernel_rfl) (by kernel_rfl) (fun _ _ _ h => h) (Or.inr ⟨by rfl, rfl⟩) (by assumption) ?_
    try simp only [Act.put, List.getElem_toArray, List.getElem_cons_zero, List.getElem_cons_succ, List.setIfInBounds_toArray, List.set_cons_zero, List.set_cons_succ]
    refine wpAnyH_take (i := 17) (oi := _) (v := _) rfl (by kernel_rfl) (by kernel_rfl) (by kernel_rfl) (fun _ _ _ h => h) (Or.inr ⟨by rfl, rfl⟩) (by assumption) ?_
    try simp only [Act.put, List.getElem_toArray, List.getElem_cons_zero, List.getElem_cons_succ, List.setIfInBounds_toArray, List.set_cons_zero, List.set_cons_succ]
    refine wpAnyH_take (i := 18) (oi := _) (v := _) rfl (by kernel_rfl) (by kernel_rfl) (by kernel_rfl) (fun _ _ _ h => h) (Or.inr ⟨by rfl, rfl⟩) (by assumption) ?_
    try simp only [Act.put, List.getElem_toArray, List.getElem_cons_zero, List.getElem_cons_succ, List.setIfInBounds_toArray, List.set_cons_zero, List.set_cons_succ]
    refine wpAnyH_ready (rs := [13]) (by kernel_rfl) (by simp) ?_
    refine AllReadyH.cons (o := _) rfl (fun K hK => ?_) AllReadyH.nil
    refine ite_off (by rfl) ?_
    refine hK.out _ _ (by assumption) (fun hHeld => ?_)
    clear hK K
    try simp only [Act.put, List.getElem_toArray, List.getElem_cons_zero, List.getElem_cons_succ, List.setIfInBounds_toArray, List.set_cons_zero, List.set_cons_succ]
    refine wpAnyH_ready (rs := [19]) (by kernel_rfl) (by simp) ?_
    refine AllReadyH.cons (o := _) rfl (fun K hK => ?_) AllReadyH.nil
    refine ite_off (by rfl) ?_
    refine hK.out _ _ (by assumption) (fun hHeld => ?_)
    clear hK K
    try simp only [Act.put, List.getElem_toArray, List.getElem_cons_zero, List.getElem_cons_succ, List.setIfInBounds_toArray, List.set_cons_zero, List.set_cons_succ]
    refine wpAnyH_take (i := 20) (oi := _) (v := _) rfl (by kernel_rfl) (by kernel_rfl) (by kernel_rfl) (fun _ _ _ h => h) (Or.inr ⟨by rfl, rfl⟩) (by assumption) ?_
    try simp only [Act.put, List.getElem_toArray, List.getElem_cons_zero, List.getElem_cons_succ, List.setIfInBounds_toArray, List.set_cons_zero, List.set_cons_succ]
    refine wpAnyH_take (i := 21) (oi := _) (v := ?_) rfl (by kernel_rfl) (by kernel_rfl) (by kernel_rfl) (fun _ _ _ h => h) (Or.inl ⟨by rfl, ?_⟩) (by assumption) ?_
    rotate_left
    · first | (intro w' hSw; (try dsimp only at hSw); go_simp; done) | (intro w' hSw; (try dsimp only at hSw); go_simp; with_reducible rfl)
    try simp only [Act.put, List.getElem_toArray, List.getElem_cons_zero, List.getElem_cons_succ, List.setIfInBounds_toArray, List.set_cons_zero, List.set_cons_succ]
    refine wpAnyH_take (i := 22) (oi := _) (v := ?_) rfl (by kernel_rfl) (by kernel_rfl) (by kernel_rfl) (fun _ _ _ h => h) (Or.inl ⟨by rfl, ?_⟩) (by assumption) ?_
    rotate_left
    · first | (intro w' hSw; (try dsimp only at hSw); go_simp; done) | (intro w' hSw; (try dsimp only at hSw); go_simp; with_reducible rfl)
    try simp only [Act.put, List.getElem_toArray, List.getElem_cons_zero, List.getElem_cons_succ, List.setIfInBounds_toArray, List.set_cons_zero, List.set_cons_succ]
    refine wpAnyH_done (by kernel_rfl) ?_ _
    clear s0 s1 e0 e1 e2 t0 t1 t2 t3 t4 ea eb
    go_wp2
    go_ret
    exact ⟨ret_bool HE.out.symm, fit_keep HB.out HX1.out⟩
end

section
open Go.RowKit
set_option linter.unusedVariables false

theorem thyB_no1 {t : MThy} (h : validB t.over = false) : thyB t = false := by unfold thyB; rw [h]; rfl
theorem thyB_no2 {t : MThy} (h : 6 < (t.eqs.length : Int)) : thyB t = false := by
  unfold thyB
  rw [decide_eq_false (by omega)]; simp
theorem thyB_bad {t : MThy} {k : Nat} (hk : k < t.eqs.length) (h : eqOkB t.over t.eqs[k] = false) : thyB t = false := by
  unfold thyB; rw [all_bad hk h]; simp
theorem thyB_yes {t : MThy} (h1 : validB t.over = true) (h2 : (t.eqs.length : Int) ≤ 6) (h3 : (t.eqs.take t.eqs.length).all (eqOkB t.over) = true) : thyB t = true := by
  rw [take_all (Nat.le_refl _)] at h3
  unfold thyB
  rw [h1, h3, decide_eq_true (by omega)]; rfl

set_option maxHeartbeats 800000 in
set_option maxRecDepth 100000 in
theorem theoryOk_any (t : MThy) (w : World) (v : Value) (hsm : SmallT t) (h : RThy w v t) :
    Calls Try.prog 53 #[v] w fun x w' => x = .returned (.bool (thyB t)) ∧ Below w.heap.size w w' := by
  obtain ⟨Ata, cta, Atb, ctb, rfl⟩ := h.form
  have hb : Below w.heap.size w (w.alloc (.cells #[.int .i64 t.over.sorts, .slice Ata t.over.ops.length cta, .slice Atb t.eqs.length ctb] 36)) := below_alloc _ _
  have HB := Lib.hid hb
  have hsz : (w.alloc (.cells #[.int .i64 t.over.sorts, .slice Ata t.over.ops.length cta, .slice Atb t.eqs.length ctb] 36)).heap.size = w.heap.size + 1 := by simp
  have Ht := Lib.hid (h.keep hb)
  have t0 := bx_at (w) #[.int .i64 t.over.sorts, .slice Ata t.over.ops.length cta, .slice Atb t.eqs.length ctb] 36 (k := 0) rfl
  have t1 := bx_at (w) #[.int .i64 t.over.sorts, .slice Ata t.over.ops.length cta, .slice Atb t.eqs.length ctb] 36 (k := 1) rfl
  have t2 := bx_at (w) #[.int .i64 t.over.sorts, .slice Ata t.over.ops.length cta, .slice Atb t.eqs.length ctb] 36 (k := 2) rfl
  generalize hW : w.alloc (.cells #[.int .i64 t.over.sorts, .slice Ata t.over.ops.length cta, .slice Atb t.eqs.length ctb] 36) = W at HB hsz Ht t0 t1 t2
  clear hb h
  obtain ⟨-, r1, r2⟩ := Ht.out.of
  have R1 := Lib.hid (show RSig W (.agg #[.int .i64 t.over.sorts, .slice Ata t.over.ops.length cta]) t.over from ⟨_, rfl, r1⟩)
  have R2 := Lib.hid r2
  have HSM := Lib.hid hsm
  have hlen := r2.len
  clear r1 r2 hsm
  cases hv : validB t.over with
  | false =>
    have HV := Lib.hid hv
    have HE := Lib.hid (thyB_no1 hv)
    clear hv
    go_enter Try.func53, Try.ntmps53
    go_wp2_with fail
    clear hW
    refine (sigValid_any _ t.over _ R1.out).mono ?_
    rw [HV.out]
    rintro e w1 ⟨rfl, hb⟩
    go_wp2
    go_ret
    exact ⟨ret_bool HE.out.symm, fit_keep HB.out hb⟩
  | true =>
    have HV := Lib.hid hv
    clear hv
    by_cases h6 : 6 < (t.eqs.length : Int)
    · have HE := Lib.hid (thyB_no2 h6)
      go_enter Try.func53, Try.ntmps53
      go_wp2_with fail
      clear hW
      refine (sigValid_any _ t.over _ R1.out).mono ?_
      rw [HV.out]
      rintro e w1 ⟨rfl, hb⟩
      have m2 := cell_keep hb t2
      have HB1 := Lib.hid (fit_keep HB.out hb)
      clear hb t0 t1 t2
      go_wp2
      go_ret
      exact ⟨ret_bool HE.out.symm, HB1.out⟩
    · have h6' : (t.eqs.length : Int) ≤ 6 := by omega
      go_enter Try.func53, Try.ntmps53
      go_wp2_with fail
      clear hW
      refine (sigValid_any _ t.over _ R1.out).mono ?_
      rw [HV.out]
      rintro e w1 ⟨rfl, hb⟩
      have m0 := cell_keep hb t0
      have m1 := cell_keep hb t1
      have m2 := cell_keep hb t2
      have HB1 := Lib.hid (fit_keep HB.out hb)
      have HC := Lib.hid (And.intro m0 m1)
      have R1' := Lib.hid (R1.out.keep hb)
      have R2' := Lib.hid (R2.out.keep hb)
      have hs1 := hb.size
      clear hb t0 t1 t2 R1 R2
      go_wp2
      clear m0 m1 m2
      go_loopw [4, 18] (fun e4 i wr => ∃ k : Nat, k ≤ t.eqs.length ∧ i = .int .i64 k ∧ (t.eqs.take k).all (eqOkB t.over) = true ∧ Below w1.heap.size w1 wr) (fun _ i _ => t.eqs.length - (intOf i).toNat)
      case atStart => exact ⟨0, Nat.zero_le _, rfl, rfl, Below.refl _ _⟩
      case round =>
        obtain ⟨k, hk, rfl, hb0, hd⟩ := hrel
        have hb := Lib.hid hb0
        have HD := Lib.hid hd
        have hsd := hd.size
        clear hb0 hd
        by_cases hlt : k < t.eqs.length
        · obtain ⟨b, o, c3, x0, x1, x2, e, c00, c01, c02, q0, q1, q2⟩ := (R2'.out.keep HD.out).at_ hlt
          cases e
          have hlt' : (k : Int) < (t.eqs.length : Int) := by omega
          have HT := Lib.hid (all_take (p := eqOkB t.over) hlt)
          have HN := Lib.hid (fun h => thyB_bad hlt h)
          have HSE := Lib.hid (HSM.out _ (List.getElem_mem hlt))
          generalize t.eqs[k] = e at q0 q1 q2 HT HN HSE
          have HX := Lib.hid (show REq wr (.agg #[x0, x1, x2]) e from ⟨x0, x1, x2, rfl, q0, q1, q2⟩)
          obtain ⟨A0, g0, rfl, -⟩ := q0.form
          obtain ⟨A1, g1, rfl, -⟩ := q1.form
          obtain ⟨A2, g2, rfl, -⟩ := q2.form
          have hba := below_alloc wr (.cells #[.slice A0 e.vars.length g0, .slice A1 e.left.length g1, .slice A2 e.right.length g2] 71)
          have n0 := bx_at wr #[.slice A0 e.vars.length g0, .slice A1 e.left.length g1, .slice A2 e.right.length g2] 71 (k := 0) rfl
          have n1 := bx_at wr #[.slice A0 e.vars.length g0, .slice A1 e.left.length g1, .slice A2 e.right.length g2] 71 (k := 1) rfl
          have n2 := bx_at wr #[.slice A0 e.vars.length g0, .slice A1 e.left.length g1, .slice A2 e.right.length g2] 71 (k := 2) rfl
          have m0 := cell_keep hba (cell_keep HD.out HC.out.1)
          have m1 := cell_keep hba (cell_keep HD.out HC.out.2)
          have HX' := Lib.hid (HX.out.keep hba)
          have HS' := Lib.hid ((R1'.out.keep HD.out).keep hba)
          have HDA := Lib.hid (fit_keep HD.out hba)
          generalize hW2 : wr.alloc (.cells #[.slice A0 e.vars.length g0, .slice A1 e.left.length g1, .slice A2 e.right.length g2] 71) = W2 at n0 n1 n2 m0 m1 HX' HS' HDA
          obtain ⟨r, hr⟩ : ∃ r, eqOkB t.over e = r := ⟨_, rfl⟩
          have HR := Lib.hid hr
          clear q0 q1 q2 hba hr
          go_wp2_with fail
          clear hW2
          refine (eqOk_any t.over e _ _ _ HSE.out HS'.out HX'.out).mono ?_
          rw [HR.out]
          rintro x w3 ⟨rfl, hb3⟩
          have HB3 := Lib.hid (fit_keep HDA.out hb3)
          clear hb3 n0 n1 n2 m0 m1 c00 c01 c02
          cases r with
          | true =>
            go_wp2
            go_roundw
            case rel => exact ⟨k + 1, by omega, by go_num, by rw [HT.out, hb.out, HR.out]; rfl, HB3.out⟩
            case measure => simp [intOf]; omega
          | false =>
            go_wp2
            go_ret
            exact ⟨ret_bool (HN.out HR.out).symm, fit_keep HB1.out HB3.out⟩
        · have hkn : k = t.eqs.length := by omega
          subst hkn
          have hlt' : ¬ (t.eqs.length : Int) < (t.eqs.length : Int) := by omega
          go_wp2
          go_ret
          exact ⟨ret_bool (thyB_yes HV.out h6' hb.out).symm, fit_keep HB1.out HD.out⟩

set_option maxHeartbeats 800000 in
set_option maxRecDepth 100000 in
theorem specTheoryOk_any (t : MThy) (w : World) (v : Value) (h : RThy w v t) :
    Calls Try.prog 51 #[v] w fun x w' => x = .returned (.bool (thyB t)) ∧ Below w.heap.size w w' := by
  obtain ⟨Ata, cta, Atb, ctb, rfl⟩ := h.form
  have hb : Below w.heap.size w (w.alloc (.cells #[.int .i64 t.over.sorts, .slice Ata t.over.ops.length cta, .slice Atb t.eqs.length ctb] 36)) := below_alloc _ _
  have HB := Lib.hid hb
  have hsz : (w.alloc (.cells #[.int .i64 t.over.sorts, .slice Ata t.over.ops.length cta, .slice Atb t.eqs.length ctb] 36)).heap.size = w.heap.size + 1 := by simp
  have Ht := Lib.hid (h.keep hb)
  have t0 := bx_at (w) #[.int .i64 t.over.sorts, .slice Ata t.over.ops.length cta, .slice Atb t.eqs.length ctb] 36 (k := 0) rfl
  have t1 := bx_at (w) #[.int .i64 t.over.sorts, .slice Ata t.over.ops.length cta, .slice Atb t.eqs.length ctb] 36 (k := 1) rfl
  have t2 := bx_at (w) #[.int .i64 t.over.sorts, .slice Ata t.over.ops.length cta, .slice Atb t.eqs.length ctb] 36 (k := 2) rfl
  generalize hW : w.alloc (.cells #[.int .i64 t.over.sorts, .slice Ata t.over.ops.length cta, .slice Atb t.eqs.length ctb] 36) = W at HB hsz Ht t0 t1 t2
  clear hb h
  obtain ⟨-, r1, r2⟩ := Ht.out.of
  have R1 := Lib.hid (show RSig W (.agg #[.int .i64 t.over.sorts, .slice Ata t.over.ops.length cta]) t.over from ⟨_, rfl, r1⟩)
  have R2 := Lib.hid r2
  have hlen := r2.len
  have HC := Lib.hid (And.intro t0 (And.intro t1 t2))
  clear r1 r2 t0 t1 t2
  go_enter Try.func51, Try.ntmps51
  go_wp2
  clear hW
  go_loopw [3] (fun i wr => ∃ k : Nat, k ≤ t.eqs.length ∧ i = .int .i64 k ∧ (t.eqs.take k).all (eqOkB t.over) = true ∧ Below W.heap.size W wr) (fun i _ => t.eqs.length - (intOf i).toNat)
  case atStart => exact ⟨0, Nat.zero_le _, rfl, rfl, Below.refl _ _⟩
  case round =>
    obtain ⟨k, hk, rfl, hb0, hd⟩ := hrel
    have hb := Lib.hid hb0
    have HD := Lib.hid hd
    have hsd := hd.size
    have m0 := cell_keep hd HC.out.1
    have m1 := cell_keep hd HC.out.2.1
    have m2 := cell_keep hd HC.out.2.2
    clear hb0 hd
    by_cases hlt : k < t.eqs.length
    · obtain ⟨b, o, c3, x0, x1, x2, e, c00, c01, c02, q0, q1, q2⟩ := (R2.out.keep HD.out).at_ hlt
      cases e
      have hlt' : (k : Int) < (t.eqs.length : Int) := by omega
      have HT := Lib.hid (all_take (p := eqOkB t.over) hlt)
      have HN := Lib.hid (fun h => thyB_bad hlt h)
      generalize t.eqs[k] = e at q0 q1 q2 HT HN
      have HX := Lib.hid (show REq wr (.agg #[x0, x1, x2]) e from ⟨x0, x1, x2, rfl, q0, q1, q2⟩)
      obtain ⟨A0, g0, rfl, -⟩ := q0.form
      obtain ⟨A1, g1, rfl, -⟩ := q1.form
      obtain ⟨A2, g2, rfl, -⟩ := q2.form
      obtain ⟨r, hr⟩ : ∃ r, eqOkB t.over e = r := ⟨_, rfl⟩
      have HR := Lib.hid hr
      clear q0 q1 q2 hr
      have ea := World.new_ne wr _ m0
      have eb := World.new_ne wr _ c00
      go_wp2_with fail
      go_region_held3 (fun w' => w'.cell? ⟨w.heap.size, 0, none⟩ = some (.int .i64 t.over.sorts) ∧ w'.cell? ⟨w.heap.size, 1, none⟩ = some (.slice Ata t.over.ops.length cta) ∧ w'.cell? ⟨w.heap.size, 2, none⟩ = some (.slice (some ⟨b, o, none⟩) t.eqs.length ctb) ∧ w'.cell? ⟨b, o + k * 3, none⟩ = some (.slice A0 e.vars.length g0) ∧ w'.cell? ⟨b, o + k * 3 + 1, none⟩ = some (.slice A1 e.left.length g1) ∧ w'.cell? ⟨b, o + k * 3 + 2, none⟩ = some (.slice A2 e.right.length g2)) (first | go_keep)
        (first
          | (go_at_call 89; refine (specEqOk_any t.over e wr.drew _ _ (R1.out.keep (bel_drew HD.out)) (HX.out.keep (bel_drew (Below.refl _ _)))).mono ?_; rw [HR.out]; rintro e w2 ⟨rfl, hb2⟩; have HB2 := Lib.hid (show Below wr.heap.size wr w2 from bel_undrew hb2); have j0 := cell_keep HB2.out m0; have j1 := cell_keep HB2.out m1; have j2 := cell_keep HB2.out m2; have j3 := cell_keep HB2.out c00; have j4 := cell_keep HB2.out c01; have j5 := cell_keep HB2.out c02; clear hb2))
      have HBN := Lib.hid (fit_keep HD.out HB2.out)
      clear m0 m1 m2 c00 c01 c02 j0 j1 j2 j3 j4 j5 ea eb
      cases r with
      | true =>
        go_wp2
        go_roundw
        case rel => exact ⟨k + 1, by omega, by go_num, by rw [HT.out, hb.out, HR.out]; rfl, HBN.out⟩
        case measure => simp [intOf]; omega
      | false =>
        go_wp2
        go_ret
        exact ⟨ret_bool (HN.out HR.out).symm, fit_keep HB.out HBN.out⟩
    · have hkn : k = t.eqs.length := by omega
      subst hkn
      have hlt' : ¬ (t.eqs.length : Int) < (t.eqs.length : Int) := by omega
      cases hv : validB t.over with
      | false =>
        have HV := Lib.hid hv
        have HE := Lib.hid (thyB_no1 hv)
        clear hv
        go_wp2_with fail
        refine (specSigValid_any _ t.over _ (R1.out.keep HD.out)).mono ?_
        rw [HV.out]
        rintro e w1 ⟨rfl, hb1⟩
        have HB1 := Lib.hid (fit_keep HD.out hb1)
        clear hb1 m0 m1 m2
        go_wp2
        go_ret
        exact ⟨ret_bool HE.out.symm, fit_keep HB.out HB1.out⟩
      | true =>
        have HV := Lib.hid hv
        clear hv
        go_wp2_with fail
        refine (specSigValid_any _ t.over _ (R1.out.keep HD.out)).mono ?_
        rw [HV.out]
        rintro e w1 ⟨rfl, hb1⟩
        have HB1 := Lib.hid (fit_keep HD.out hb1)
        have n2 := cell_keep hb1 m2
        clear hb1 m0 m1 m2
        by_cases h6 : (t.eqs.length : Int) ≤ 6
        · have HE := Lib.hid (thyB_yes HV.out h6 hb.out)
          go_wp2
          go_ret
          exact ⟨ret_bool HE.out.symm, fit_keep HB.out HB1.out⟩
        · have HE := Lib.hid (thyB_no2 (t := t) (by omega))
          have h6' : 6 < (t.eqs.length : Int) := by omega
          go_wp2
          go_ret
          exact ⟨ret_bool (by rw [HE.out]; simp; omega), fit_keep HB.out HB1.out⟩
end

section
open Go.RowKit
set_option linter.unusedVariables false
set_option linter.unusedSimpArgs false

def benchB (b : MBench) : Bool := (thyB b.now && decide ((b.past.length : Int) ≤ 10)) && b.past.all thyB
theorem benchB_no1 {b : MBench} (h : thyB b.now = false) : benchB b = false := by unfold benchB; rw [h]; rfl
theorem benchB_no2 {b : MBench} (h : 10 < (b.past.length : Int)) : benchB b = false := by
  unfold benchB
  rw [decide_eq_false (by omega)]; simp
theorem benchB_bad {b : MBench} {k : Nat} (hk : k < b.past.length) (h : thyB b.past[k] = false) : benchB b = false := by
  unfold benchB; rw [all_bad hk h]; simp
theorem benchB_yes {b : MBench} (h1 : thyB b.now = true) (h2 : (b.past.length : Int) ≤ 10) (h3 : (b.past.take b.past.length).all thyB = true) : benchB b = true := by
  rw [take_all (Nat.le_refl _)] at h3
  unfold benchB
  rw [h1, h3, decide_eq_true (by omega)]; rfl

set_option maxHeartbeats 800000 in
set_option maxRecDepth 100000 in
theorem benchValid_any (t : MBench) (w : World) (v : Value) (hsm : SmallB t) (h : RBench w v t) :
    Calls Try.prog 10 #[v] w fun x w' => x = .returned (.bool (benchB t)) ∧ Below w.heap.size w w' := by
  obtain ⟨Ata, cta, Atb, ctb, Atc, ctc, rfl⟩ := h.form
  have hb : Below w.heap.size w (w.alloc (.cells #[.int .i64 t.now.over.sorts, .slice Ata t.now.over.ops.length cta, .slice Atb t.now.eqs.length ctb, .slice Atc t.past.length ctc] 39)) := below_alloc _ _
  have HB := Lib.hid hb
  have hsz : (w.alloc (.cells #[.int .i64 t.now.over.sorts, .slice Ata t.now.over.ops.length cta, .slice Atb t.now.eqs.length ctb, .slice Atc t.past.length ctc] 39)).heap.size = w.heap.size + 1 := by simp
  have Ht := Lib.hid (h.keep hb)
  have t0 := bx_at (w) #[.int .i64 t.now.over.sorts, .slice Ata t.now.over.ops.length cta, .slice Atb t.now.eqs.length ctb, .slice Atc t.past.length ctc] 39 (k := 0) rfl
  have t1 := bx_at (w) #[.int .i64 t.now.over.sorts, .slice Ata t.now.over.ops.length cta, .slice Atb t.now.eqs.length ctb, .slice Atc t.past.length ctc] 39 (k := 1) rfl
  have t2 := bx_at (w) #[.int .i64 t.now.over.sorts, .slice Ata t.now.over.ops.length cta, .slice Atb t.now.eqs.length ctb, .slice Atc t.past.length ctc] 39 (k := 2) rfl
  have t3 := bx_at (w) #[.int .i64 t.now.over.sorts, .slice Ata t.now.over.ops.length cta, .slice Atb t.now.eqs.length ctb, .slice Atc t.past.length ctc] 39 (k := 3) rfl
  generalize hW : w.alloc (.cells #[.int .i64 t.now.over.sorts, .slice Ata t.now.over.ops.length cta, .slice Atb t.now.eqs.length ctb, .slice Atc t.past.length ctc] 39) = W at HB hsz Ht t0 t1 t2 t3
  clear hb h
  obtain ⟨-, r1, r2⟩ := Ht.out.of
  have R1 := Lib.hid r1
  have R2 := Lib.hid r2
  have HSM := Lib.hid hsm
  have hlen := r2.len
  clear r1 r2 hsm
  cases hv : thyB t.now with
  | false =>
    have HV := Lib.hid hv
    have HE := Lib.hid (benchB_no1 hv)
    clear hv
    go_enter Try.func10, Try.ntmps10
    go_wp2_with fail
    clear hW
    refine (theoryOk_any t.now _ _ HSM.out.1 R1.out).mono ?_
    rw [HV.out]
    rintro e w1 ⟨rfl, hb⟩
    go_wp2
    go_ret
    exact ⟨ret_bool HE.out.symm, fit_keep HB.out hb⟩
  | true =>
    have HV := Lib.hid hv
    clear hv
    by_cases h6 : 10 < (t.past.length : Int)
    · have HE := Lib.hid (benchB_no2 h6)
      go_enter Try.func10, Try.ntmps10
      go_wp2_with fail
      clear hW
      refine (theoryOk_any t.now _ _ HSM.out.1 R1.out).mono ?_
      rw [HV.out]
      rintro e w1 ⟨rfl, hb⟩
      have m2 := cell_keep hb t3
      have HB1 := Lib.hid (fit_keep HB.out hb)
      clear hb t0 t1 t2 t3
      go_wp2
      go_ret
      exact ⟨ret_bool HE.out.symm, HB1.out⟩
    · have h6' : (t.past.length : Int) ≤ 10 := by omega
      go_enter Try.func10, Try.ntmps10
      go_wp2_with fail
      clear hW
      refine (theoryOk_any t.now _ _ HSM.out.1 R1.out).mono ?_
      rw [HV.out]
      rintro e w1 ⟨rfl, hb⟩
      have m3 := cell_keep hb t3
      have HB1 := Lib.hid (fit_keep HB.out hb)
      have R2' := Lib.hid (R2.out.keep hb)
      have hs1 := hb.size
      clear hb t0 t1 t2 t3 R1 R2
      go_wp2
      clear m3
      go_loopw [4, 18] (fun e4 i wr => ∃ k : Nat, k ≤ t.past.length ∧ i = .int .i64 k ∧ (t.past.take k).all thyB = true ∧ Below w1.heap.size w1 wr) (fun _ i _ => t.past.length - (intOf i).toNat)
      case atStart => exact ⟨0, Nat.zero_le _, rfl, rfl, Below.refl _ _⟩
      case round =>
        obtain ⟨k, hk, rfl, hb0, hd⟩ := hrel
        have hb := Lib.hid hb0
        have HD := Lib.hid hd
        have hsd := hd.size
        clear hb0 hd
        by_cases hlt : k < t.past.length
        · obtain ⟨b, o, c3, x1, x2, e, c00, c01, c02, q0⟩ := (R2'.out.keep HD.out).at_ hlt
          cases e
          have hlt' : (k : Int) < (t.past.length : Int) := by omega
          have HT := Lib.hid (all_take (p := thyB) hlt)
          have HN := Lib.hid (fun h => benchB_bad hlt h)
          have HSE := Lib.hid (HSM.out.2 _ (List.getElem_mem hlt))
          generalize t.past[k] = e at q0 c00 HT HN HSE
          have HX := Lib.hid q0
          obtain ⟨A0, g0, A1, g1, e'⟩ := q0.form
          obtain ⟨rfl, rfl⟩ : x1 = .slice A0 e.over.ops.length g0 ∧ x2 = .slice A1 e.eqs.length g1 := by
            injection e' with e'
            simpa using e'
          have hba := below_alloc wr (.cells #[.int .i64 e.over.sorts, .slice A0 e.over.ops.length g0, .slice A1 e.eqs.length g1] 36)
          have n0 := bx_at wr #[.int .i64 e.over.sorts, .slice A0 e.over.ops.length g0, .slice A1 e.eqs.length g1] 36 (k := 0) rfl
          have n1 := bx_at wr #[.int .i64 e.over.sorts, .slice A0 e.over.ops.length g0, .slice A1 e.eqs.length g1] 36 (k := 1) rfl
          have n2 := bx_at wr #[.int .i64 e.over.sorts, .slice A0 e.over.ops.length g0, .slice A1 e.eqs.length g1] 36 (k := 2) rfl
          have HX' := Lib.hid (HX.out.keep hba)
          have HDA := Lib.hid (fit_keep HD.out hba)
          generalize hW2 : wr.alloc (.cells #[.int .i64 e.over.sorts, .slice A0 e.over.ops.length g0, .slice A1 e.eqs.length g1] 36) = W2 at n0 n1 n2 HX' HDA
          obtain ⟨r, hr⟩ : ∃ r, thyB e = r := ⟨_, rfl⟩
          have HR := Lib.hid hr
          clear q0 e' hba hr
          go_wp2_with fail
          clear hW2
          refine (theoryOk_any e _ _ HSE.out HX'.out).mono ?_
          rw [HR.out]
          rintro x w3 ⟨rfl, hb3⟩
          have HB3 := Lib.hid (fit_keep HDA.out hb3)
          clear hb3 n0 n1 n2 c00 c01 c02
          cases r with
          | true =>
            go_wp2
            go_roundw
            case rel => exact ⟨k + 1, by omega, by go_num, by rw [HT.out, hb.out, HR.out]; rfl, HB3.out⟩
            case measure => simp [intOf]; omega
          | false =>
            go_wp2
            go_ret
            exact ⟨ret_bool (HN.out HR.out).symm, fit_keep HB1.out HB3.out⟩
        · have hkn : k = t.past.length := by omega
          subst hkn
          have hlt' : ¬ (t.past.length : Int) < (t.past.length : Int) := by omega
          go_wp2
          go_ret
          exact ⟨ret_bool (benchB_yes HV.out h6' hb.out).symm, fit_keep HB1.out HD.out⟩

set_option maxHeartbeats 800000 in
set_option maxRecDepth 100000 in
theorem specBenchValid_any (t : MBench) (w : World) (v : Value) (h : RBench w v t) :
    Calls Try.prog 8 #[v] w fun x w' => x = .returned (.bool (benchB t)) ∧ Below w.heap.size w w' := by
  obtain ⟨Ata, cta, Atb, ctb, Atc, ctc, rfl⟩ := h.form
  have hb : Below w.heap.size w (w.alloc (.cells #[.int .i64 t.now.over.sorts, .slice Ata t.now.over.ops.length cta, .slice Atb t.now.eqs.length ctb, .slice Atc t.past.length ctc] 39)) := below_alloc _ _
  have HB := Lib.hid hb
  have hsz : (w.alloc (.cells #[.int .i64 t.now.over.sorts, .slice Ata t.now.over.ops.length cta, .slice Atb t.now.eqs.length ctb, .slice Atc t.past.length ctc] 39)).heap.size = w.heap.size + 1 := by simp
  have Ht := Lib.hid (h.keep hb)
  have t0 := bx_at (w) #[.int .i64 t.now.over.sorts, .slice Ata t.now.over.ops.length cta, .slice Atb t.now.eqs.length ctb, .slice Atc t.past.length ctc] 39 (k := 0) rfl
  have t1 := bx_at (w) #[.int .i64 t.now.over.sorts, .slice Ata t.now.over.ops.length cta, .slice Atb t.now.eqs.length ctb, .slice Atc t.past.length ctc] 39 (k := 1) rfl
  have t2 := bx_at (w) #[.int .i64 t.now.over.sorts, .slice Ata t.now.over.ops.length cta, .slice Atb t.now.eqs.length ctb, .slice Atc t.past.length ctc] 39 (k := 2) rfl
  have t3 := bx_at (w) #[.int .i64 t.now.over.sorts, .slice Ata t.now.over.ops.length cta, .slice Atb t.now.eqs.length ctb, .slice Atc t.past.length ctc] 39 (k := 3) rfl
  generalize hW : w.alloc (.cells #[.int .i64 t.now.over.sorts, .slice Ata t.now.over.ops.length cta, .slice Atb t.now.eqs.length ctb, .slice Atc t.past.length ctc] 39) = W at HB hsz Ht t0 t1 t2 t3
  clear hb h
  obtain ⟨-, r1, r2⟩ := Ht.out.of
  have R1 := Lib.hid r1
  have R2 := Lib.hid r2
  have hlen := r2.len
  have HC := Lib.hid (And.intro t0 (And.intro t1 (And.intro t2 t3)))
  clear r1 r2 t0 t1 t2 t3
  go_enter Try.func8, Try.ntmps8
  go_wp2
  clear hW
  go_loopw [3] (fun i wr => ∃ k : Nat, k ≤ t.past.length ∧ i = .int .i64 k ∧ (t.past.take k).all thyB = true ∧ Below W.heap.size W wr) (fun i _ => t.past.length - (intOf i).toNat)
  case atStart => exact ⟨0, Nat.zero_le _, rfl, rfl, Below.refl _ _⟩
  case round =>
    obtain ⟨k, hk, rfl, hb0, hd⟩ := hrel
    have hb := Lib.hid hb0
    have HD := Lib.hid hd
    have hsd := hd.size
    have m0 := cell_keep hd HC.out.1
    have m1 := cell_keep hd HC.out.2.1
    have m2 := cell_keep hd HC.out.2.2.1
    have m3 := cell_keep hd HC.out.2.2.2
    clear hb0 hd
    by_cases hlt : k < t.past.length
    · obtain ⟨b, o, c3, x1, x2, e, c00, c01, c02, q0⟩ := (R2.out.keep HD.out).at_ hlt
      cases e
      have hlt' : (k : Int) < (t.past.length : Int) := by omega
      have HT := Lib.hid (all_take (p := thyB) hlt)
      have HN := Lib.hid (fun h => benchB_bad hlt h)
      generalize t.past[k] = e at q0 c00 HT HN
      have HX := Lib.hid q0
      obtain ⟨A0, g0, A1, g1, e'⟩ := q0.form
      obtain ⟨rfl, rfl⟩ : x1 = .slice A0 e.over.ops.length g0 ∧ x2 = .slice A1 e.eqs.length g1 := by
        injection e' with e'
        simpa using e'
      obtain ⟨r, hr⟩ : ∃ r, thyB e = r := ⟨_, rfl⟩
      have HR := Lib.hid hr
      clear q0 e' hr m0 m1 m2
      go_wp2_with fail
      refine (specTheoryOk_any e _ _ HX.out).mono ?_
      rw [HR.out]
      rintro x w2 ⟨rfl, hb2⟩
      have HBN := Lib.hid (fit_keep HD.out hb2)
      clear m3 c00 c01 c02 hb2
      cases r with
      | true =>
        go_wp2
        go_roundw
        case rel => exact ⟨k + 1, by omega, by go_num, by rw [HT.out, hb.out, HR.out]; rfl, HBN.out⟩
        case measure => simp [intOf]; omega
      | false =>
        go_wp2
        go_ret
        exact ⟨ret_bool (HN.out HR.out).symm, fit_keep HB.out HBN.out⟩
    · have hkn : k = t.past.length := by omega
      subst hkn
      have hlt' : ¬ (t.past.length : Int) < (t.past.length : Int) := by omega
      cases hv : thyB t.now with
      | false =>
        have HV := Lib.hid hv
        have HE := Lib.hid (benchB_no1 hv)
        clear hv
        go_wp2_with fail
        refine (specTheoryOk_any t.now _ _ (R1.out.keep HD.out)).mono ?_
        rw [HV.out]
        rintro e w1 ⟨rfl, hb1⟩
        have HB1 := Lib.hid (fit_keep HD.out hb1)
        clear hb1 m0 m1 m2 m3
        go_wp2
        go_ret
        exact ⟨ret_bool HE.out.symm, fit_keep HB.out HB1.out⟩
      | true =>
        have HV := Lib.hid hv
        clear hv
        go_wp2_with fail
        refine (specTheoryOk_any t.now _ _ (R1.out.keep HD.out)).mono ?_
        rw [HV.out]
        rintro e w1 ⟨rfl, hb1⟩
        have HB1 := Lib.hid (fit_keep HD.out hb1)
        have n3 := cell_keep hb1 m3
        clear hb1 m0 m1 m2 m3
        by_cases h6 : (t.past.length : Int) ≤ 10
        · have HE := Lib.hid (benchB_yes HV.out h6 hb.out)
          go_wp2
          go_ret
          exact ⟨ret_bool HE.out.symm, fit_keep HB.out HB1.out⟩
        · have HE := Lib.hid (benchB_no2 (b := t) (by omega))
          have h6' : 10 < (t.past.length : Int) := by omega
          go_wp2
          go_ret
          exact ⟨ret_bool (by rw [HE.out]; simp; omega), fit_keep HB.out HB1.out⟩
end
end Go.Proofs.Ytmmnamjgpfkabab
