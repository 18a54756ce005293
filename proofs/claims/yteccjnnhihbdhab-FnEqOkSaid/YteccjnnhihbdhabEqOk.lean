/- EqOk of both packages. -/
import Derived.Test.YteccjnnhihbdhabEqM
import Derived.Test.YteccjnnhihbdhabFit
namespace Go.Proofs.Yteccjnnhihbdhab
open Go.RowKit
set_option linter.unusedVariables false
set_option linter.unusedSimpArgs false

theorem eqOkB_no {s : MSig} {e : MEq} (h : ¬ 0 ≤ sortM s e.vars e.left) : eqOkB s e = false := by unfold eqOkB; simp [h]
theorem eqOkB_cmp {s : MSig} {e : MEq} (h : 0 ≤ sortM s e.vars e.left) : eqOkB s e = (sortM s e.vars e.right == sortM s e.vars e.left) := by
  unfold eqOkB; rw [decide_eq_true h, Bool.true_and]; rfl

set_option maxRecDepth 100000 in
theorem eqOk_any (s : MSig) (e : MEq) (w : World) (v ev : Value) (hsm : SmallE e) (h : RSig w v s) (he : REq w ev e) :
    Calls Try.prog 42 #[v, ev] w fun x w' => x = .returned (.bool (eqOkB s e)) ∧ Below w.heap.size w w' := by
  obtain ⟨A, c, rfl⟩ := h.form
  obtain ⟨A0, c0, A1, c1, A2, c2, rfl⟩ := he.form
  have hb : Below w.heap.size w ((w.alloc (.cells #[.int .i64 s.sorts, .slice A s.ops.length c] 35)).alloc (.cells #[.slice A0 e.vars.length c0, .slice A1 e.left.length c1, .slice A2 e.right.length c2] 69)) := (below_alloc _ _).alloc (by simp) _
  obtain ⟨r0, r1, r2⟩ := (he.keep hb).of
  have HS := Lib.hid (h.keep hb)
  have R0 := Lib.hid r0
  have R1 := Lib.hid r1
  have R2 := Lib.hid r2
  have HB := Lib.hid hb
  have HSM := Lib.hid hsm
  have s0 := cell_keep (below_alloc (w.alloc (.cells #[.int .i64 s.sorts, .slice A s.ops.length c] 35)) (.cells #[.slice A0 e.vars.length c0, .slice A1 e.left.length c1, .slice A2 e.right.length c2] 69)) (bx_at w #[.int .i64 s.sorts, .slice A s.ops.length c] 35 (k := 0) rfl)
  have s1 := cell_keep (below_alloc (w.alloc (.cells #[.int .i64 s.sorts, .slice A s.ops.length c] 35)) (.cells #[.slice A0 e.vars.length c0, .slice A1 e.left.length c1, .slice A2 e.right.length c2] 69)) (bx_at w #[.int .i64 s.sorts, .slice A s.ops.length c] 35 (k := 1) rfl)
  have e0 := bx_at (w.alloc (.cells #[.int .i64 s.sorts, .slice A s.ops.length c] 35)) #[.slice A0 e.vars.length c0, .slice A1 e.left.length c1, .slice A2 e.right.length c2] 69 (k := 0) rfl
  have e1 := bx_at (w.alloc (.cells #[.int .i64 s.sorts, .slice A s.ops.length c] 35)) #[.slice A0 e.vars.length c0, .slice A1 e.left.length c1, .slice A2 e.right.length c2] 69 (k := 1) rfl
  have e2 := bx_at (w.alloc (.cells #[.int .i64 s.sorts, .slice A s.ops.length c] 35)) #[.slice A0 e.vars.length c0, .slice A1 e.left.length c1, .slice A2 e.right.length c2] 69 (k := 2) rfl
  simp only [World.size_alloc] at e0 e1 e2
  generalize hW : (w.alloc (.cells #[.int .i64 s.sorts, .slice A s.ops.length c] 35)).alloc (.cells #[.slice A0 e.vars.length c0, .slice A1 e.left.length c1, .slice A2 e.right.length c2] 69) = W at HS R0 R1 R2 HB s0 s1 e0 e1 e2
  clear h he hb r0 r1 r2 hsm
  go_enter Try.func42, Try.ntmps42
  go_wp2_with fail
  clear hW
  refine (termSort_any s e.vars e.left _ _ _ _ HSM.out.1 HS.out R0.out R1.out).mono ?_
  rintro x w1 ⟨rfl, hb1⟩
  have t0 := cell_keep hb1 s0
  have t1 := cell_keep hb1 s1
  have t2 := cell_keep hb1 e0
  have t3 := cell_keep hb1 e1
  have t4 := cell_keep hb1 e2
  have HB1 := Lib.hid (fit_keep HB.out hb1)
  have HS1 := Lib.hid (HS.out.keep hb1)
  have R01 := Lib.hid (R0.out.keep hb1)
  have R21 := Lib.hid (R2.out.keep hb1)
  clear hb1 s0 s1 e0 e1 e2 HS R0 R1 R2 HB
  by_cases h0 : 0 ≤ sortM s e.vars e.left
  · have HE := Lib.hid (eqOkB_cmp h0)
    generalize hq : sortM s e.vars e.left = q at h0 HE
    clear hq
    go_wp2_with fail
    refine (termSort_any s e.vars e.right _ _ _ _ HSM.out.2 HS1.out R01.out R21.out).mono ?_
    rintro x w2 ⟨rfl, hb2⟩
    have HB2 := Lib.hid (fit_keep HB1.out hb2)
    clear hb2 t0 t1 t2 t3 t4
    go_wp2
    go_ret
    exact ⟨ret_bool HE.out.symm, HB2.out⟩
  · have HE := Lib.hid (eqOkB_no h0)
    generalize hq : sortM s e.vars e.left = q at h0
    clear hq
    go_wp2
    go_ret
    exact ⟨ret_bool HE.out.symm, HB1.out⟩

set_option maxRecDepth 100000 in
set_option maxHeartbeats 1600000 in
theorem specEqOk_any (s : MSig) (e : MEq) (w : World) (v ev : Value) (h : RSig w v s) (he : REq w ev e) :
    Calls Try.prog 43 #[v, ev] w fun x w' => x = .returned (.bool (eqOkB s e)) ∧ Below w.heap.size w w' := by
  obtain ⟨Asa, csa, rfl⟩ := h.form
  obtain ⟨Aea, cea, Aeb, ceb, Aec, cec, rfl⟩ := he.form
  have hb : Below w.heap.size w ((w.alloc (.cells #[.int .i64 s.sorts, .slice Asa s.ops.length csa] 35)).alloc (.cells #[.slice Aea e.vars.length cea, .slice Aeb e.left.length ceb, .slice Aec e.right.length cec] 69)) := (below_alloc _ _).alloc (by simp) _
  have HB := Lib.hid hb
  have hsz : ((w.alloc (.cells #[.int .i64 s.sorts, .slice Asa s.ops.length csa] 35)).alloc (.cells #[.slice Aea e.vars.length cea, .slice Aeb e.left.length ceb, .slice Aec e.right.length cec] 69)).heap.size = w.heap.size + 2 := by simp
  have Hs := Lib.hid (h.keep hb)
  have s0 := cell_keep (below_alloc (w.alloc (.cells #[.int .i64 s.sorts, .slice Asa s.ops.length csa] 35)) (.cells #[.slice Aea e.vars.length cea, .slice Aeb e.left.length ceb, .slice Aec e.right.length cec] 69)) (bx_at (w) #[.int .i64 s.sorts, .slice Asa s.ops.length csa] 35 (k := 0) rfl)
  have s1 := cell_keep (below_alloc (w.alloc (.cells #[.int .i64 s.sorts, .slice Asa s.ops.length csa] 35)) (.cells #[.slice Aea e.vars.length cea, .slice Aeb e.left.length ceb, .slice Aec e.right.length cec] 69)) (bx_at (w) #[.int .i64 s.sorts, .slice Asa s.ops.length csa] 35 (k := 1) rfl)
  have He := Lib.hid (he.keep hb)
  have e0 := bx_at (w.alloc (.cells #[.int .i64 s.sorts, .slice Asa s.ops.length csa] 35)) #[.slice Aea e.vars.length cea, .slice Aeb e.left.length ceb, .slice Aec e.right.length cec] 69 (k := 0) rfl
  have e1 := bx_at (w.alloc (.cells #[.int .i64 s.sorts, .slice Asa s.ops.length csa] 35)) #[.slice Aea e.vars.length cea, .slice Aeb e.left.length ceb, .slice Aec e.right.length cec] 69 (k := 1) rfl
  have e2 := bx_at (w.alloc (.cells #[.int .i64 s.sorts, .slice Asa s.ops.length csa] 35)) #[.slice Aea e.vars.length cea, .slice Aeb e.left.length ceb, .slice Aec e.right.length cec] 69 (k := 2) rfl
  simp only [World.size_alloc] at e0 e1 e2
  generalize hW : (w.alloc (.cells #[.int .i64 s.sorts, .slice Asa s.ops.length csa] 35)).alloc (.cells #[.slice Aea e.vars.length cea, .slice Aeb e.left.length ceb, .slice Aec e.right.length cec] 69) = W at HB hsz Hs s0 s1 He e0 e1 e2
  clear hb h he
  obtain ⟨r0, r1, r2⟩ := He.out.of
  have R0 := Lib.hid r0
  have R1 := Lib.hid r1
  have R2 := Lib.hid r2
  have HC := Lib.hid (And.intro s0 (And.intro s1 (And.intro e0 (And.intro e1 e2))))
  clear r0 r1 r2
  have ea := World.new_ne W _ s0
  have eb := World.new_ne W _ e0
  by_cases h0 : 0 ≤ sortM s e.vars e.left
  · have HE := Lib.hid (eqOkB_cmp h0)
    obtain ⟨q, hq⟩ : ∃ q, sortM s e.vars e.left = q := ⟨_, rfl⟩
    obtain ⟨p, hp⟩ : ∃ p, sortM s e.vars e.right = p := ⟨_, rfl⟩
    rw [hq] at h0 HE
    rw [hp] at HE
    have HQ := Lib.hid hq
    have HP := Lib.hid hp
    clear hq hp
    go_enter Try.func43, Try.ntmps43
    go_wp2_with fail
    clear hW
    refine wp_region_held_drew (S := (fun w' => w'.cell? ⟨w.heap.size, 0, none⟩ = some (.int .i64 s.sorts) ∧ w'.cell? ⟨w.heap.size, 1, none⟩ = some (.slice Asa s.ops.length csa) ∧ w'.cell? ⟨w.heap.size + 1, 0, none⟩ = some (.slice Aea e.vars.length cea) ∧ w'.cell? ⟨w.heap.size + 1, 1, none⟩ = some (.slice Aeb e.left.length ceb) ∧ w'.cell? ⟨w.heap.size + 1, 2, none⟩ = some (.slice Aec e.right.length cec))) (by kernel_rfl) ?_ (fun hHeld => ?_)
    · exact ⟨s0, s1, e0, e1, e2⟩
    refine wpAnyH_take (i := 0) (oi := _) (v := ?_) rfl (by kernel_rfl) (by kernel_rfl) (by kernel_rfl) (fun _ _ _ h => h) (Or.inl ⟨by rfl, ?_⟩) (by assumption) ?_
    rotate_left
    · first | (intro w' hSw; (try dsimp only at hSw); go_simp; done) | (intro w' hSw; (try dsimp only at hSw); go_simp; with_reducible rfl)
    try simp only [Act.put, List.getElem_toArray, List.getElem_cons_zero, List.getElem_cons_succ, List.setIfInBounds_toArray, List.set_cons_zero, List.set_cons_succ]
    refine wpAnyH_take (i := 1) (oi := _) (v := ?_) rfl (by kernel_rfl) (by kernel_rfl) (by kernel_rfl) (fun _ _ _ h => h) (Or.inl ⟨by rfl, ?_⟩) (by assumption) ?_
    rotate_left
    · first | (intro w' hSw; (try dsimp only at hSw); go_simp; done) | (intro w' hSw; (try dsimp only at hSw); go_simp; with_reducible rfl)
    try simp only [Act.put, List.getElem_toArray, List.getElem_cons_zero, List.getElem_cons_succ, List.setIfInBounds_toArray, List.set_cons_zero, List.set_cons_succ]
    refine wpAnyH_take (i := 2) (oi := _) (v := ?_) rfl (by kernel_rfl) (by kernel_rfl) (by kernel_rfl) (fun _ _ _ h => h) (Or.inl ⟨by rfl, ?_⟩) (by assumption) ?_
    rotate_left
    · first | (intro w' hSw; (try dsimp only at hSw); go_simp; done) | (intro w' hSw; (try dsimp only at hSw); go_simp; with_reducible rfl)
    try simp only [Act.put, List.getElem_toArray, List.getElem_cons_zero, List.getElem_cons_succ, List.setIfInBounds_toArray, List.set_cons_zero, List.set_cons_succ]
    refine wpAnyH_take (i := 3) (oi := _) (v := ?_) rfl (by kernel_rfl) (by kernel_rfl) (by kernel_rfl) (fun _ _ _ h => h) (Or.inl ⟨by rfl, ?_⟩) (by assumption) ?_
    rotate_left
    · first | (intro w' hSw; (try dsimp only at hSw); go_simp; done) | (intro w' hSw; (try dsimp only at hSw); go_simp; with_reducible rfl)
    try simp only [Act.put, List.getElem_toArray, List.getElem_cons_zero, List.getElem_cons_succ, List.setIfInBounds_toArray, List.set_cons_zero, List.set_cons_succ]
    refine wpAnyH_take (i := 4) (oi := _) (v := ?_) rfl (by kernel_rfl) (by kernel_rfl) (by kernel_rfl) (fun _ _ _ h => h) (Or.inl ⟨by rfl, ?_⟩) (by assumption) ?_
    rotate_left
    · first | (intro w' hSw; (try dsimp only at hSw); go_simp; done) | (intro w' hSw; (try dsimp only at hSw); go_simp; with_reducible rfl)
    try simp only [Act.put, List.getElem_toArray, List.getElem_cons_zero, List.getElem_cons_succ, List.setIfInBounds_toArray, List.set_cons_zero, List.set_cons_succ]
    refine wpAnyH_ready (rs := [5]) (by kernel_rfl) (by simp) ?_
    refine AllReadyH.cons (o := _) rfl (fun K hK => ?_) AllReadyH.nil
    go_simp
    refine (specTermSort_any s e.vars e.left W.drew _ _ _ (Hs.out.keep (bel_drew (Below.refl _ _))) (R0.out.keep (bel_drew (Below.refl _ _))) (R1.out.keep (bel_drew (Below.refl _ _)))).mono ?_
    rw [HQ.out]
    rintro x w1 ⟨rfl, hb1⟩
    have hx1 := (show Below W.heap.size W w1 from bel_undrew hb1)
    have HX1 := Lib.hid hx1
    have t0 := cell_keep hx1 s0
    have t1 := cell_keep hx1 s1
    have t2 := cell_keep hx1 e0
    have t3 := cell_keep hx1 e1
    have t4 := cell_keep hx1 e2
    clear hb1 hx1
    go_wp2_with fail
    refine hK.out _ _ ?_ (fun hHeld => ?_)
    · exact ⟨t0, t1, t2, t3, t4⟩
    clear hK K
    try simp only [Act.put, List.getElem_toArray, List.getElem_cons_zero, List.getElem_cons_succ, List.setIfInBounds_toArray, List.set_cons_zero, List.set_cons_succ]
    refine wpAnyH_take (i := 6) (oi := _) (v := ?_) rfl (by kernel_rfl) (by kernel_rfl) (by kernel_rfl) (fun _ _ _ h => h) (Or.inl ⟨by rfl, ?_⟩) (by assumption) ?_
    rotate_left
    · first | (intro w' hSw; (try dsimp only at hSw); go_simp; done) | (intro w' hSw; (try dsimp only at hSw); go_simp; with_reducible rfl)
    try simp only [Act.put, List.getElem_toArray, List.getElem_cons_zero, List.getElem_cons_succ, List.setIfInBounds_toArray, List.set_cons_zero, List.set_cons_succ]
    refine wpAnyH_take (i := 7) (oi := _) (v := ?_) rfl (by kernel_rfl) (by kernel_rfl) (by kernel_rfl) (fun _ _ _ h => h) (Or.inl ⟨by rfl, ?_⟩) (by assumption) ?_
    rotate_left
    · first | (intro w' hSw; (try dsimp only at hSw); go_simp; done) | (intro w' hSw; (try dsimp only at hSw); go_simp; with_reducible rfl)
    try simp only [Act.put, List.getElem_toArray, List.getElem_cons_zero, List.getElem_cons_succ, List.setIfInBounds_toArray, List.set_cons_zero, List.set_cons_succ]
    refine wpAnyH_take (i := 8) (oi := _) (v := ?_) rfl (by kernel_rfl) (by kernel_rfl) (by kernel_rfl) (fun _ _ _ h => h) (Or.inl ⟨by rfl, ?_⟩) (by assumption) ?_
    rotate_left
    · first | (intro w' hSw; (try dsimp only at hSw); go_simp; done) | (intro w' hSw; (try dsimp only at hSw); go_simp; with_reducible rfl)
    try simp only [Act.put, List.getElem_toArray, List.getElem_cons_zero, List.getElem_cons_succ, List.setIfInBounds_toArray, List.set_cons_zero, List.set_cons_succ]
    refine wpAnyH_take (i := 9) (oi := _) (v := ?_) rfl (by kernel_rfl) (by kernel_rfl) (by kernel_rfl) (fun _ _ _ h => h) (Or.inl ⟨by rfl, ?_⟩) (by assumption) ?_
    rotate_left
    · first | (intro w' hSw; (try dsimp only at hSw); go_simp; done) | (intro w' hSw; (try dsimp only at hSw); go_simp; with_reducible rfl)
    try simp only [Act.put, List.getElem_toArray, List.getElem_cons_zero, List.getElem_cons_succ, List.setIfInBounds_toArray, List.set_cons_zero, List.set_cons_succ]
    refine wpAnyH_take (i := 10) (oi := _) (v := ?_) rfl (by kernel_rfl) (by kernel_rfl) (by kernel_rfl) (fun _ _ _ h => h) (Or.inl ⟨by rfl, ?_⟩) (by assumption) ?_
    rotate_left
    · first | (intro w' hSw; (try dsimp only at hSw); go_simp; done) | (intro w' hSw; (try dsimp only at hSw); go_simp; with_reducible rfl)
    try simp only [Act.put, List.getElem_toArray, List.getElem_cons_zero, List.getElem_cons_succ, List.setIfInBounds_toArray, List.set_cons_zero, List.set_cons_succ]
    refine wpAnyH_take (i := 11) (oi := _) (v := ?_) rfl (by kernel_rfl) (by kernel_rfl) (by kernel_rfl) (fun _ _ _ h => h) (Or.inl ⟨by rfl, ?_⟩) (by assumption) ?_
    rotate_left
    · first | (intro w' hSw; (try dsimp only at hSw); go_simp; done) | (intro w' hSw; (try dsimp only at hSw); go_simp; with_reducible rfl)
    try simp only [Act.put, List.getElem_toArray, List.getElem_cons_zero, List.getElem_cons_succ, List.setIfInBounds_toArray, List.set_cons_zero, List.set_cons_succ]
    refine wpAnyH_take (i := 12) (oi := _) (v := ?_) rfl (by kernel_rfl) (by kernel_rfl) (by kernel_rfl) (fun _ _ _ h => h) (Or.inl ⟨by rfl, ?_⟩) (by assumption) ?_
    rotate_left
    · first | (intro w' hSw; (try dsimp only at hSw); go_simp; done) | (intro w' hSw; (try dsimp only at hSw); go_simp; with_reducible rfl)
    try simp only [Act.put, List.getElem_toArray, List.getElem_cons_zero, List.getElem_cons_succ, List.setIfInBounds_toArray, List.set_cons_zero, List.set_cons_succ]
    refine wpAnyH_take (i := 14) (oi := _) (v := ?_) rfl (by kernel_rfl) (by kernel_rfl) (by kernel_rfl) (fun _ _ _ h => h) (Or.inl ⟨by rfl, ?_⟩) (by assumption) ?_
    rotate_left
    · first | (intro w' hSw; (try dsimp only at hSw); go_simp; done) | (intro w' hSw; (try dsimp only at hSw); go_simp; with_reducible rfl)
    try simp only [Act.put, List.getElem_toArray, List.getElem_cons_zero, List.getElem_cons_succ, List.setIfInBounds_toArray, List.set_cons_zero, List.set_cons_succ]
    refine wpAnyH_take (i := 15) (oi := _) (v := ?_) rfl (by kernel_rfl) (by kernel_rfl) (by kernel_rfl) (fun _ _ _ h => h) (Or.inl ⟨by rfl, ?_⟩) (by assumption) ?_
    rotate_left
    · first | (intro w' hSw; (try dsimp only at hSw); go_simp; done) | (intro w' hSw; (try dsimp only at hSw); go_simp; with_reducible rfl)
    try simp only [Act.put, List.getElem_toArray, List.getElem_cons_zero, List.getElem_cons_succ, List.setIfInBounds_toArray, List.set_cons_zero, List.set_cons_succ]
    refine wpAnyH_take (i := 16) (oi := _) (v := ?_) rfl (by kernel_rfl) (by kernel_rfl) (by kernel_rfl) (fun _ _ _ h => h) (Or.inl ⟨by rfl, ?_⟩) (by assumption) ?_
    rotate_left
    · first | (intro w' hSw; (try dsimp only at hSw); go_simp; done) | (intro w' hSw; (try dsimp only at hSw); go_simp; with_reducible rfl)
    try simp only [Act.put, List.getElem_toArray, List.getElem_cons_zero, List.getElem_cons_succ, List.setIfInBounds_toArray, List.set_cons_zero, List.set_cons_succ]
    refine wpAnyH_take (i := 17) (oi := _) (v := ?_) rfl (by kernel_rfl) (by kernel_rfl) (by kernel_rfl) (fun _ _ _ h => h) (Or.inl ⟨by rfl, ?_⟩) (by assumption) ?_
    rotate_left
    · first | (intro w' hSw; (try dsimp only at hSw); go_simp; done) | (intro w' hSw; (try dsimp only at hSw); go_simp; with_reducible rfl)
    try simp only [Act.put, List.getElem_toArray, List.getElem_cons_zero, List.getElem_cons_succ, List.setIfInBounds_toArray, List.set_cons_zero, List.set_cons_succ]
    refine wpAnyH_take (i := 18) (oi := _) (v := ?_) rfl (by kernel_rfl) (by kernel_rfl) (by kernel_rfl) (fun _ _ _ h => h) (Or.inl ⟨by rfl, ?_⟩) (by assumption) ?_
    rotate_left
    · first | (intro w' hSw; (try dsimp only at hSw); go_simp; done) | (intro w' hSw; (try dsimp only at hSw); go_simp; with_reducible rfl)
    try simp only [Act.put, List.getElem_toArray, List.getElem_cons_zero, List.getElem_cons_succ, List.setIfInBounds_toArray, List.set_cons_zero, List.set_cons_succ]
    refine wpAnyH_ready (rs := [13]) (by kernel_rfl) (by simp) ?_
    refine AllReadyH.cons (o := _) rfl (fun K hK => ?_) AllReadyH.nil
    go_simp
    refine (specTermSort_any s e.vars e.left w1 _ _ _ (Hs.out.keep HX1.out) (R0.out.keep HX1.out) (R1.out.keep HX1.out)).mono ?_
    rw [HQ.out]
    rintro x w2 ⟨rfl, hb2⟩
    have HX2 := Lib.hid (fit_keep HX1.out hb2)
    have u0 := cell_keep hb2 t0
    have u1 := cell_keep hb2 t1
    have u2 := cell_keep hb2 t2
    have u3 := cell_keep hb2 t3
    have u4 := cell_keep hb2 t4
    clear hb2
    go_wp2_with fail
    refine hK.out _ _ ?_ (fun hHeld => ?_)
    · exact ⟨u0, u1, u2, u3, u4⟩
    clear hK K
    try simp only [Act.put, List.getElem_toArray, List.getElem_cons_zero, List.getElem_cons_succ, List.setIfInBounds_toArray, List.set_cons_zero, List.set_cons_succ]
    refine wpAnyH_ready (rs := [19]) (by kernel_rfl) (by simp) ?_
    refine AllReadyH.cons (o := _) rfl (fun K hK => ?_) AllReadyH.nil
    go_simp
    refine (specTermSort_any s e.vars e.right w2 _ _ _ (Hs.out.keep HX2.out) (R0.out.keep HX2.out) (R2.out.keep HX2.out)).mono ?_
    rw [HP.out]
    rintro x w3 ⟨rfl, hb3⟩
    have HX3 := Lib.hid (fit_keep HX2.out hb3)
    have v0 := cell_keep hb3 u0
    have v1 := cell_keep hb3 u1
    have v2 := cell_keep hb3 u2
    have v3 := cell_keep hb3 u3
    have v4 := cell_keep hb3 u4
    clear hb3
    go_wp2_with fail
    refine hK.out _ _ ?_ (fun hHeld => ?_)
    · exact ⟨v0, v1, v2, v3, v4⟩
    clear hK K
    try simp only [Act.put, List.getElem_toArray, List.getElem_cons_zero, List.getElem_cons_succ, List.setIfInBounds_toArray, List.set_cons_zero, List.set_cons_succ]
    refine wpAnyH_take (i := 20) (oi := _) (v := ?_) rfl (by kernel_rfl) (by kernel_rfl) (by kernel_rfl) (fun _ _ _ h => h) (Or.inl ⟨by rfl, ?_⟩) (by assumption) ?_
    rotate_left
    · first | (intro w' hSw; (try dsimp only at hSw); go_simp; done) | (intro w' hSw; (try dsimp only at hSw); go_simp; with_reducible rfl)
    try simp only [Act.put, List.getElem_toArray, List.getElem_cons_zero, List.getElem_cons_succ, List.setIfInBounds_toArray, List.set_cons_zero, List.set_cons_succ]
    refine wpAnyH_take (i := 21) (oi := _) (v := ?_) rfl (by kernel_rfl) (by kernel_rfl) (by kernel_rfl) (fun _ _ _ h => h) (Or.inl ⟨by rfl, ?_⟩) (by assumption) ?_
    rotate_left
    · first | (intro w' hSw; (try dsimp only at hSw); go_simp; done) | (intro w' hSw; (try dsimp only at hSw); go_simp; with_reducible rfl)
    try simp only [Act.put, List.getElem_toArray, List.getElem_cons_zero, List.getElem_cons_succ, List.setIfInBounds_toArray, List.set_cons_zero, List.set_cons_succ]
    refine wpAnyH_take (i := 22) (oi := _) (v := ?_) rfl (by kernel_rfl) (by kernel_rfl) (by kernel_rfl) (fun _ _ _ h => h) (Or.inl ⟨by rfl, ?_⟩) (by assumption) ?_
    rotate_left
    · first | (intro w' hSw; (try dsimp only at hSw); go_simp; done) | (intro w' hSw; (try dsimp only at hSw); go_simp; with_reducible rfl)
    try simp only [Act.put, List.getElem_toArray, List.getElem_cons_zero, List.getElem_cons_succ, List.setIfInBounds_toArray, List.set_cons_zero, List.set_cons_succ]
    refine wpAnyH_done (by kernel_rfl) ?_ _
    clear s0 s1 e0 e1 e2 t0 t1 t2 t3 t4 u0 u1 u2 u3 u4 v0 v1 v2 v3 v4 ea eb
    go_wp2
    go_ret
    exact ⟨ret_bool (by rw [HE.out]; exact Bool.beq_comm), fit_keep HB.out HX3.out⟩
  · have HE := Lib.hid (eqOkB_no h0)
    obtain ⟨q, hq⟩ : ∃ q, sortM s e.vars e.left = q := ⟨_, rfl⟩
    rw [hq] at h0
    have h0' : q < 0 := by omega
    have h1' : decide (0 ≤ q) = false := by simp; omega
    have HQ := Lib.hid hq
    clear hq
    go_enter Try.func43, Try.ntmps43
    go_wp2_with fail
    clear hW
    refine wp_region_held_drew (S := (fun w' => w'.cell? ⟨w.heap.size, 0, none⟩ = some (.int .i64 s.sorts) ∧ w'.cell? ⟨w.heap.size, 1, none⟩ = some (.slice Asa s.ops.length csa) ∧ w'.cell? ⟨w.heap.size + 1, 0, none⟩ = some (.slice Aea e.vars.length cea) ∧ w'.cell? ⟨w.heap.size + 1, 1, none⟩ = some (.slice Aeb e.left.length ceb) ∧ w'.cell? ⟨w.heap.size + 1, 2, none⟩ = some (.slice Aec e.right.length cec))) (by kernel_rfl) ?_ (fun hHeld => ?_)
    · exact ⟨s0, s1, e0, e1, e2⟩
    refine wpAnyH_take (i := 0) (oi := _) (v := ?_) rfl (by kernel_rfl) (by kernel_rfl) (by kernel_rfl) (fun _ _ _ h => h) (Or.inl ⟨by rfl, ?_⟩) (by assumption) ?_
    rotate_left
    · first | (intro w' hSw; (try dsimp only at hSw); go_simp; done) | (intro w' hSw; (try dsimp only at hSw); go_simp; with_reducible rfl)
    try simp only [Act.put, List.getElem_toArray, List.getElem_cons_zero, List.getElem_cons_succ, List.setIfInBounds_toArray, List.set_cons_zero, List.set_cons_succ]
    refine wpAnyH_take (i := 1) (oi := _) (v := ?_) rfl (by kernel_rfl) (by kernel_rfl) (by kernel_rfl) (fun _ _ _ h => h) (Or.inl ⟨by rfl, ?_⟩) (by assumption) ?_
    rotate_left
    · first | (intro w' hSw; (try dsimp only at hSw); go_simp; done) | (intro w' hSw; (try dsimp only at hSw); go_simp; with_reducible rfl)
    try simp only [Act.put, List.getElem_toArray, List.getElem_cons_zero, List.getElem_cons_succ, List.setIfInBounds_toArray, List.set_cons_zero, List.set_cons_succ]
    refine wpAnyH_take (i := 2) (oi := _) (v := ?_) rfl (by kernel_rfl) (by kernel_rfl) (by kernel_rfl) (fun _ _ _ h => h) (Or.inl ⟨by rfl, ?_⟩) (by assumption) ?_
    rotate_left
    · first | (intro w' hSw; (try dsimp only at hSw); go_simp; done) | (intro w' hSw; (try dsimp only at hSw); go_simp; with_reducible rfl)
    try simp only [Act.put, List.getElem_toArray, List.getElem_cons_zero, List.getElem_cons_succ, List.setIfInBounds_toArray, List.set_cons_zero, List.set_cons_succ]
    refine wpAnyH_take (i := 3) (oi := _) (v := ?_) rfl (by kernel_rfl) (by kernel_rfl) (by kernel_rfl) (fun _ _ _ h => h) (Or.inl ⟨by rfl, ?_⟩) (by assumption) ?_
    rotate_left
    · first | (intro w' hSw; (try dsimp only at hSw); go_simp; done) | (intro w' hSw; (try dsimp only at hSw); go_simp; with_reducible rfl)
    try simp only [Act.put, List.getElem_toArray, List.getElem_cons_zero, List.getElem_cons_succ, List.setIfInBounds_toArray, List.set_cons_zero, List.set_cons_succ]
    refine wpAnyH_take (i := 4) (oi := _) (v := ?_) rfl (by kernel_rfl) (by kernel_rfl) (by kernel_rfl) (fun _ _ _ h => h) (Or.inl ⟨by rfl, ?_⟩) (by assumption) ?_
    rotate_left
    · first | (intro w' hSw; (try dsimp only at hSw); go_simp; done) | (intro w' hSw; (try dsimp only at hSw); go_simp; with_reducible rfl)
    try simp only [Act.put, List.getElem_toArray, List.getElem_cons_zero, List.getElem_cons_succ, List.setIfInBounds_toArray, List.set_cons_zero, List.set_cons_succ]
    refine wpAnyH_ready (rs := [5]) (by kernel_rfl) (by simp) ?_
    refine AllReadyH.cons (o := _) rfl (fun K hK => ?_) AllReadyH.nil
    go_simp
    refine (specTermSort_any s e.vars e.left W.drew _ _ _ (Hs.out.keep (bel_drew (Below.refl _ _))) (R0.out.keep (bel_drew (Below.refl _ _))) (R1.out.keep (bel_drew (Below.refl _ _)))).mono ?_
    rw [HQ.out]
    rintro x w1 ⟨rfl, hb1⟩
    have hx1 := (show Below W.heap.size W w1 from bel_undrew hb1)
    have HX1 := Lib.hid hx1
    have t0 := cell_keep hx1 s0
    have t1 := cell_keep hx1 s1
    have t2 := cell_keep hx1 e0
    have t3 := cell_keep hx1 e1
    have t4 := cell_keep hx1 e2
    clear hb1 hx1
    go_wp2_with fail
    refine hK.out _ _ ?_ (fun hHeld => ?_)
    · exact ⟨t0, t1, t2, t3, t4⟩
    clear hK K
    try simp only [Act.put, List.getElem_toArray, List.getElem_cons_zero, List.getElem_cons_succ, List.setIfInBounds_toArray, List.set_cons_zero, List.set_cons_succ]
    refine wpAnyH_take (i := 6) (oi := _) (v := ?_) rfl (by kernel_rfl) (by kernel_rfl) (by kernel_rfl) (fun _ _ _ h => h) (Or.inl ⟨by rfl, ?_⟩) (by assumption) ?_
    rotate_left
    · first | (intro w' hSw; (try dsimp only at hSw); go_simp; done) | (intro w' hSw; (try dsimp only at hSw); go_simp; with_reducible rfl)
    try simp only [Act.put, List.getElem_toArray, List.getElem_cons_zero, List.getElem_cons_succ, List.setIfInBounds_toArray, List.set_cons_zero, List.set_cons_succ]
    refine wpAnyH_take (i := 7) (oi := _) (v := ?_) rfl (by kernel_rfl) (by kernel_rfl) (by kernel_rfl) (fun _ _ _ h => h) (Or.inl ⟨by rfl, ?_⟩) (by assumption) ?_
    rotate_left
    · first | (intro w' hSw; (try dsimp only at hSw); go_simp; done) | (intro w' hSw; (try dsimp only at hSw); go_simp; with_reducible rfl)
    try simp only [Act.put, List.getElem_toArray, List.getElem_cons_zero, List.getElem_cons_succ, List.setIfInBounds_toArray, List.set_cons_zero, List.set_cons_succ]
    refine wpAnyH_take (i := 8) (oi := _) (v := _) rfl (by kernel_rfl) (by kernel_rfl) (by kernel_rfl) (fun _ _ _ h => h) (Or.inr ⟨by rfl, rfl⟩) (by assumption) ?_
    try simp only [Act.put, List.getElem_toArray, List.getElem_cons_zero, List.getElem_cons_succ, List.setIfInBounds_toArray, List.set_cons_zero, List.set_cons_succ]
    refine wpAnyH_take (i := 9) (oi := _) (v := _) rfl (by kernel_rfl) (by kernel_rfl) (by kernel_rfl) (fun _ _ _ h => h) (Or.inr ⟨by rfl, rfl⟩) (by assumption) ?_
    try simp only [Act.put, List.getElem_toArray, List.getElem_cons_zero, List.getElem_cons_succ, List.setIfInBounds_toArray, List.set_cons_zero, List.set_cons_succ]
    refine wpAnyH_take (i := 10) (oi := _) (v := _) rfl (by kernel_rfl) (by kernel_rfl) (by kernel_rfl) (fun _ _ _ h => h) (Or.inr ⟨by rfl, rfl⟩) (by assumption) ?_
    try simp only [Act.put, List.getElem_toArray, List.getElem_cons_zero, List.getElem_cons_succ, List.setIfInBounds_toArray, List.set_cons_zero, List.set_cons_succ]
    refine wpAnyH_take (i := 11) (oi := _) (v := _) rfl (by kernel_rfl) (by kernel_rfl) (by kernel_rfl) (fun _ _ _ h => h) (Or.inr ⟨by rfl, rfl⟩) (by assumption) ?_
    try simp only [Act.put, List.getElem_toArray, List.getElem_cons_zero, List.getElem_cons_succ, List.setIfInBounds_toArray, List.set_cons_zero, List.set_cons_succ]
    refine wpAnyH_take (i := 12) (oi := _) (v := _) rfl (by kernel_rfl) (by kernel_rfl) (by kernel_rfl) (fun _ _ _ h => h) (Or.inr ⟨by rfl, rfl⟩) (by assumption) ?_
    try simp only [Act.put, List.getElem_toArray, List.getElem_cons_zero, List.getElem_cons_succ, List.setIfInBounds_toArray, List.set_cons_zero, List.set_cons_succ]
    refine wpAnyH_take (i := 14) (oi := _) (v := _) rfl (by kernel_rfl) (by kernel_rfl) (by kernel_rfl) (fun _ _ _ h => h) (Or.inr ⟨by rfl, rfl⟩) (by assumption) ?_
    try simp only [Act.put, List.getElem_toArray, List.getElem_cons_zero, List.getElem_cons_succ, List.setIfInBounds_toArray, List.set_cons_zero, List.set_cons_succ]
    refine wpAnyH_take (i := 15) (oi := _) (v := _) rfl (by kernel_rfl) (by kernel_rfl) (by kernel_rfl) (fun _ _ _ h => h) (Or.inr ⟨by rfl, rfl⟩) (by assumption) ?_
    try simp only [Act.put, List.getElem_toArray, List.getElem_cons_zero, List.getElem_cons_succ, List.setIfInBounds_toArray, List.set_cons_zero, List.set_cons_succ]
    refine wpAnyH_take (i := 16) (oi := _) (v := _) rfl (by kernel_rfl) (by kernel_rfl) (by kernel_rfl) (fun _ _ _ h => h) (Or.inr ⟨by rfl, rfl⟩) (by assumption) ?_
    try simp only [Act.put, List.getElem_toArray, List.getElem_cons_zero, List.getElem_cons_succ, List.setIfInBounds_toArray, List.set_cons_zero, List.set_cons_succ]
    refine wpAnyH_take (i := 17) (oi := _) (v := _) rfl (by kernel_rfl) (by kernel_rfl) (by kernel_rfl) (fun _ _ _ h => h) (Or.inr ⟨by rfl, rfl⟩) (by assumption) ?_
    try simp only [Act.put, List.getElem_toArray, List.getElem_cons_zero, List.getElem_cons_succ, List.setIfInBounds_toArray, List.set_cons_zero, List.set_cons_succ]
    refine wpAnyH_take (i := 18) (oi := _) (v := _) rfl (by kernel_rfl) (by kernel_rfl) (by kernel_rfl) (fun _ _ _ h => h) (Or.inr ⟨by rfl, rfl⟩) (by assumption) ?_
    try simp only [Act.put, List.getElem_toArray, List.getElem_cons_zero, List.getElem_cons_succ, List.setIfInBounds_toArray, List.set_cons_zero, List.set_cons_succ]
    refine wpAnyH_ready (rs := [13]) (by kernel_rfl) (by simp) ?_
    refine AllReadyH.cons (o := _) rfl (fun K hK => ?_) AllReadyH.nil
    refine ite_off (by rfl) ?_
    refine hK.out _ _ (by assumption) (fun hHeld => ?_)
    clear hK K
    try simp only [Act.put, List.getElem_toArray, List.getElem_cons_zero, List.getElem_cons_succ, List.setIfInBounds_toArray, List.set_cons_zero, List.set_cons_succ]
    refine wpAnyH_ready (rs := [19]) (by kernel_rfl) (by simp) ?_
    refine AllReadyH.cons (o := _) rfl (fun K hK => ?_) AllReadyH.nil
    refine ite_off (by rfl) ?_
    refine hK.out _ _ (by assumption) (fun hHeld => ?_)
    clear hK K
    try simp only [Act.put, List.getElem_toArray, List.getElem_cons_zero, List.getElem_cons_succ, List.setIfInBounds_toArray, List.set_cons_zero, List.set_cons_succ]
    refine wpAnyH_take (i := 20) (oi := _) (v := _) rfl (by kernel_rfl) (by kernel_rfl) (by kernel_rfl) (fun _ _ _ h => h) (Or.inr ⟨by rfl, rfl⟩) (by assumption) ?_
    try simp only [Act.put, List.getElem_toArray, List.getElem_cons_zero, List.getElem_cons_succ, List.setIfInBounds_toArray, List.set_cons_zero, List.set_cons_succ]
    refine wpAnyH_take (i := 21) (oi := _) (v := ?_) rfl (by kernel_rfl) (by kernel_rfl) (by kernel_rfl) (fun _ _ _ h => h) (Or.inl ⟨by rfl, ?_⟩) (by assumption) ?_
    rotate_left
    · first | (intro w' hSw; (try dsimp only at hSw); go_simp; done) | (intro w' hSw; (try dsimp only at hSw); go_simp; with_reducible rfl)
    try simp only [Act.put, List.getElem_toArray, List.getElem_cons_zero, List.getElem_cons_succ, List.setIfInBounds_toArray, List.set_cons_zero, List.set_cons_succ]
    refine wpAnyH_take (i := 22) (oi := _) (v := ?_) rfl (by kernel_rfl) (by kernel_rfl) (by kernel_rfl) (fun _ _ _ h => h) (Or.inl ⟨by rfl, ?_⟩) (by assumption) ?_
    rotate_left
    · first | (intro w' hSw; (try dsimp only at hSw); go_simp; done) | (intro w' hSw; (try dsimp only at hSw); go_simp; with_reducible rfl)
    try simp only [Act.put, List.getElem_toArray, List.getElem_cons_zero, List.getElem_cons_succ, List.setIfInBounds_toArray, List.set_cons_zero, List.set_cons_succ]
    refine wpAnyH_done (by kernel_rfl) ?_ _
    clear s0 s1 e0 e1 e2 t0 t1 t2 t3 t4 ea eb
    go_wp2
    go_ret
    exact ⟨ret_bool HE.out.symm, fit_keep HB.out HX1.out⟩
end Go.Proofs.Yteccjnnhihbdhab
