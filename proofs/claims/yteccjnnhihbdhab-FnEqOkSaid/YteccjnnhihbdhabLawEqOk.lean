/- FnEqOk answers true at every slice of bytes. No condition. -/
import Derived.Test.YteccjnnhihbdhabFrame
import Derived.Test.YteccjnnhihbdhabDrawEq2
namespace Go.Proofs.Yteccjnnhihbdhab
open Go.ChangeShapes Go.WideShapes Go.ChangeAt Go.RowKit
set_option linter.unusedVariables false
set_option linter.unusedSimpArgs false

theorem eqOk_turn (s : MSig) (e : MEq) : eqOkB s ⟨e.vars, e.right, e.left⟩ = eqOkB s e := by
  unfold eqOkB
  simp only
  generalize sortM s e.vars e.left = x
  generalize sortM s e.vars e.right = y
  rw [Bool.eq_iff_iff]
  simp only [Bool.and_eq_true, decide_eq_true_eq]
  omega
theorem eqOk_self {s : MSig} {e : MEq} (h : eqOkB s e = true) : eqOkB s ⟨e.vars, e.left, e.left⟩ = true := by
  unfold eqOkB at h ⊢
  simp only [Bool.and_eq_true, decide_eq_true_eq] at h ⊢
  exact ⟨h.1, trivial⟩
set_option maxRecDepth 100000 in
theorem turned_any (v : Value) (e : MEq) (w : World) (h : REq w v e) :
    Calls Try.prog 44 #[v] w fun x w' => ∃ u, x = .returned u ∧ REq w' u ⟨e.vars, e.right, e.left⟩ ∧ Below w.heap.size w w' := by
  have HH := Lib.hid h
  obtain ⟨Aea, cea, Aeb, ceb, Aec, cec, rfl⟩ := h.form
  have hb : Below w.heap.size w ((w.alloc (.cells #[.slice Aea e.vars.length cea, .slice Aeb e.left.length ceb, .slice Aec e.right.length cec] 69)).alloc (.cells #[.slice none 0 0, .slice none 0 0, .slice none 0 0] 69)) := (below_alloc _ _).alloc (by simp) _
  have HB := Lib.hid hb
  have hsz : ((w.alloc (.cells #[.slice Aea e.vars.length cea, .slice Aeb e.left.length ceb, .slice Aec e.right.length cec] 69)).alloc (.cells #[.slice none 0 0, .slice none 0 0, .slice none 0 0] 69)).heap.size = w.heap.size + 2 := by simp
  have He := Lib.hid (h.keep hb)
  have e0 := cell_keep (below_alloc (w.alloc (.cells #[.slice Aea e.vars.length cea, .slice Aeb e.left.length ceb, .slice Aec e.right.length cec] 69)) (.cells #[.slice none 0 0, .slice none 0 0, .slice none 0 0] 69)) (bx_at (w) #[.slice Aea e.vars.length cea, .slice Aeb e.left.length ceb, .slice Aec e.right.length cec] 69 (k := 0) rfl)
  have e1 := cell_keep (below_alloc (w.alloc (.cells #[.slice Aea e.vars.length cea, .slice Aeb e.left.length ceb, .slice Aec e.right.length cec] 69)) (.cells #[.slice none 0 0, .slice none 0 0, .slice none 0 0] 69)) (bx_at (w) #[.slice Aea e.vars.length cea, .slice Aeb e.left.length ceb, .slice Aec e.right.length cec] 69 (k := 1) rfl)
  have e2 := cell_keep (below_alloc (w.alloc (.cells #[.slice Aea e.vars.length cea, .slice Aeb e.left.length ceb, .slice Aec e.right.length cec] 69)) (.cells #[.slice none 0 0, .slice none 0 0, .slice none 0 0] 69)) (bx_at (w) #[.slice Aea e.vars.length cea, .slice Aeb e.left.length ceb, .slice Aec e.right.length cec] 69 (k := 2) rfl)
  have HZr := Lib.hid (show ((w.alloc (.cells #[.slice Aea e.vars.length cea, .slice Aeb e.left.length ceb, .slice Aec e.right.length cec] 69)).alloc (.cells #[.slice none 0 0, .slice none 0 0, .slice none 0 0] 69)).heap[w.heap.size + 1]? = some (.cells #[.slice none 0 0, .slice none 0 0, .slice none 0 0] 69 (0, 0)) from (congrArg (fun i => ((w.alloc (.cells #[.slice Aea e.vars.length cea, .slice Aeb e.left.length ceb, .slice Aec e.right.length cec] 69)).alloc (.cells #[.slice none 0 0, .slice none 0 0, .slice none 0 0] 69)).heap[i]?) (by simp)).trans (heap_alloc_new (w.alloc (.cells #[.slice Aea e.vars.length cea, .slice Aeb e.left.length ceb, .slice Aec e.right.length cec] 69)) _))
  generalize hW : (w.alloc (.cells #[.slice Aea e.vars.length cea, .slice Aeb e.left.length ceb, .slice Aec e.right.length cec] 69)).alloc (.cells #[.slice none 0 0, .slice none 0 0, .slice none 0 0] 69) = W at HB hsz He e0 e1 e2 HZr
  clear hb h
  have j0 := blk_cell HZr.out 0
  have j1 := blk_cell HZr.out 1
  have j2 := blk_cell HZr.out 2
  have jf0 := blk_free HZr.out 0
  have jf1 := blk_free HZr.out 1
  have jf2 := blk_free HZr.out 2
  simp at j0 j1 j2
  have D := Lib.hid (And.intro (box3_set (a := .slice Aea e.vars.length cea) (c := .slice Aec e.right.length cec) (d := .slice Aeb e.left.length ceb) HZr.out) (((HB.out.setCell (p := ⟨w.heap.size + 1, 0, none⟩) (by show w.heap.size ≤ w.heap.size + 1; omega) (.slice Aea e.vars.length cea)).setCell (p := ⟨w.heap.size + 1, 1, none⟩) (by show w.heap.size ≤ w.heap.size + 1; omega) (.slice Aec e.right.length cec)).setCell (p := ⟨w.heap.size + 1, 2, none⟩) (by show w.heap.size ≤ w.heap.size + 1; omega) (.slice Aeb e.left.length ceb)))
  go_enter Try.func44, Try.ntmps44
  go_wp2
  clear hW
  obtain ⟨d1, d2⟩ := D.out
  generalize ((W.setCell ⟨w.heap.size + 1, 0, none⟩ (.slice Aea e.vars.length cea)).setCell ⟨w.heap.size + 1, 1, none⟩ (.slice Aec e.right.length cec)).setCell ⟨w.heap.size + 1, 2, none⟩ (.slice Aeb e.left.length ceb) = wz at d1 d2 ⊢
  have k0 := blk_cell d1 0
  have k1 := blk_cell d1 1
  have k2 := blk_cell d1 2
  simp at k0 k1 k2
  have hr := (HH.out.keep d2).of
  clear j0 j1 j2 jf0 jf1 jf2 e0 e1 e2
  refine bodyPost_ret (v := .agg #[.slice Aea e.vars.length cea, .slice Aec e.right.length cec, .slice Aeb e.left.length ceb]) (by simp [results, Try.results44, go_sem, k0, k1, k2]) rfl ?_
  exact ⟨_, rfl, ⟨_, _, _, rfl, hr.1, hr.2.2, hr.2.1⟩, d2⟩

set_option maxHeartbeats 3200000 in
set_option maxRecDepth 100000 in
theorem walk_FnEqOk (v : Value) (bs : List Int) (w : World) (h : RBytes w w.heap.size v bs) :
    Calls Try.prog 8 #[v] w fun e w' => e = .returned (.bool true) ∧ Below w.heap.size w w' := by
  have HW := Lib.hid h
  obtain ⟨A, c, rfl, hc1, hc2, -⟩ := h
  rw [maxLen_eq] at hc2
  by_cases hl : 1048576 < bs.length
  · go_enter Try.func8, Try.ntmps8
    go_wp2
    go_ret
    exact ⟨rfl, Below.refl _ _⟩
  · go_enter Try.func8, Try.ntmps8
    go_wp2_with fail
    refine (drawEqOk_any _ bs _ HW.out).mono ?_
    rintro e w1 ⟨sv, s, ev, eq, rfl, ho, hoe, hsm, -, -, -, -, hb1⟩
    obtain ⟨As, cs, rfl⟩ := ho.reads.form
    obtain ⟨A0, c0, A1, c1, A2, c2, rfl⟩ := hoe.reads.form
    have hal := below_alloc w1 (.cells #[.int .i64 s.sorts, .slice As s.ops.length cs] 35)
    have hal2 := below_alloc (w1.alloc (.cells #[.int .i64 s.sorts, .slice As s.ops.length cs] 35)) (.cells #[.slice A0 eq.vars.length c0, .slice A1 eq.left.length c1, .slice A2 eq.right.length c2] 69)
    have hab := sz_keep hal hal2
    have s0 := cell_keep hal2 (bx_at w1 #[.int .i64 s.sorts, .slice As s.ops.length cs] 35 (k := 0) rfl)
    have s1 := cell_keep hal2 (bx_at w1 #[.int .i64 s.sorts, .slice As s.ops.length cs] 35 (k := 1) rfl)
    have e0 := bx_at (w1.alloc (.cells #[.int .i64 s.sorts, .slice As s.ops.length cs] 35)) #[.slice A0 eq.vars.length c0, .slice A1 eq.left.length c1, .slice A2 eq.right.length c2] 69 (k := 0) rfl
    have e1 := bx_at (w1.alloc (.cells #[.int .i64 s.sorts, .slice As s.ops.length cs] 35)) #[.slice A0 eq.vars.length c0, .slice A1 eq.left.length c1, .slice A2 eq.right.length c2] 69 (k := 1) rfl
    have e2 := bx_at (w1.alloc (.cells #[.int .i64 s.sorts, .slice As s.ops.length cs] 35)) #[.slice A0 eq.vars.length c0, .slice A1 eq.left.length c1, .slice A2 eq.right.length c2] 69 (k := 2) rfl
    simp only [World.size_alloc] at e0 e1 e2
    have HS := Lib.hid (ho.reads.keep hab)
    have HE := Lib.hid (hoe.reads.keep hab)
    have HB := Lib.hid (sz_keep hb1 hab)
    generalize hW2 : (w1.alloc (.cells #[.int .i64 s.sorts, .slice As s.ops.length cs] 35)).alloc (.cells #[.slice A0 eq.vars.length c0, .slice A1 eq.left.length c1, .slice A2 eq.right.length c2] 69) = w2 at s0 s1 e0 e1 e2 HS HE HB
    have HSM := Lib.hid hsm
    have HSMT := Lib.hid (show SmallE ⟨eq.vars, eq.right, eq.left⟩ from ⟨hsm.2, hsm.1⟩)
    have HSML := Lib.hid (show SmallE ⟨eq.vars, eq.left, eq.left⟩ from ⟨hsm.1, hsm.1⟩)
    clear ho hoe hsm hb1 hal hal2 hab
    cases hok : eqOkB s eq with
    | false =>
      have HO := Lib.hid hok
      have HOT := Lib.hid (show eqOkB s ⟨eq.vars, eq.right, eq.left⟩ = false by rw [eqOk_turn]; exact hok)
      clear hok
      go_wp2_with fail
      clear hW2
      refine (eqOk_any s eq w2 _ _ HSM.out HS.out HE.out).mono ?_
      rw [HO.out]
      rintro e w3 ⟨rfl, hb⟩
      replace s0 := cell_keep hb s0
      replace s1 := cell_keep hb s1
      replace e0 := cell_keep hb e0
      replace e1 := cell_keep hb e1
      replace e2 := cell_keep hb e2
      replace HS := Lib.hid (HS.out.keep hb)
      replace HE := Lib.hid (HE.out.keep hb)
      replace HB := Lib.hid (sz_keep HB.out hb)
      clear hb
      go_wp2_with fail
      refine (specEqOk_any s eq w3 _ _ HS.out HE.out).mono ?_
      rw [HO.out]
      rintro e w4 ⟨rfl, hb⟩
      replace s0 := cell_keep hb s0
      replace s1 := cell_keep hb s1
      replace e0 := cell_keep hb e0
      replace e1 := cell_keep hb e1
      replace e2 := cell_keep hb e2
      replace HS := Lib.hid (HS.out.keep hb)
      replace HE := Lib.hid (HE.out.keep hb)
      replace HB := Lib.hid (sz_keep HB.out hb)
      clear hb
      go_wp2_with fail
      refine wp_region_held_drew (S := (fun w' => w'.cell? ⟨w1.heap.size, 0, none⟩ = some (.int .i64 s.sorts) ∧ w'.cell? ⟨w1.heap.size, 1, none⟩ = some (.slice As s.ops.length cs) ∧ w'.cell? ⟨w1.heap.size + 1, 0, none⟩ = some (.slice A0 eq.vars.length c0) ∧ w'.cell? ⟨w1.heap.size + 1, 1, none⟩ = some (.slice A1 eq.left.length c1) ∧ w'.cell? ⟨w1.heap.size + 1, 2, none⟩ = some (.slice A2 eq.right.length c2))) (by kernel_rfl) ?_ (fun hHeld => ?_)
      · exact ⟨s0, s1, e0, e1, e2⟩
      refine wpAnyH_take (i := 0) (oi := _) (v := ?_) rfl (by kernel_rfl) (by kernel_rfl) (by kernel_rfl) (fun _ _ _ h => h) (Or.inl ⟨by rfl, ?_⟩) (by assumption) ?_
      rotate_left
      · first | (intro w' hSw; (try dsimp only at hSw); go_simp; done) | (intro w' hSw; (try dsimp only at hSw); go_simp; with_reducible rfl)
      try simp only [Act.put, List.getElem_toArray, List.getElem_cons_zero, List.getElem_cons_succ, List.setIfInBounds_toArray, List.set_cons_zero, List.set_cons_succ]
      refine wpAnyH_take (i := 1) (oi := _) (v := ?_) rfl (by kernel_rfl) (by kernel_rfl) (by kernel_rfl) (fun _ _ _ h => h) (Or.inl ⟨by rfl, ?_⟩) (by assumption) ?_
      rotate_left
      · first | (intro w' hSw; (try dsimp only at hSw); go_simp; done) | (intro w' hSw; (try dsimp only at hSw); go_simp; with_reducible rfl)
      try simp only [Act.put, List.getElem_toArray, List.getElem_cons_zero, List.getElem_cons_succ, List.setIfInBounds_toArray, List.set_cons_zero, List.set_cons_succ]
      refine wpAnyH_take (i := 4) (oi := _) (v := ?_) rfl (by kernel_rfl) (by kernel_rfl) (by kernel_rfl) (fun _ _ _ h => h) (Or.inl ⟨by rfl, ?_⟩) (by assumption) ?_
      rotate_left
      · first | (intro w' hSw; (try dsimp only at hSw); go_simp; done) | (intro w' hSw; (try dsimp only at hSw); go_simp; with_reducible rfl)
      try simp only [Act.put, List.getElem_toArray, List.getElem_cons_zero, List.getElem_cons_succ, List.setIfInBounds_toArray, List.set_cons_zero, List.set_cons_succ]
      refine wpAnyH_ready (rs := [2]) (by kernel_rfl) (by simp) ?_
      refine AllReadyH.cons (o := _) rfl (fun K hK => ?_) AllReadyH.nil
      go_simp
      refine (turned_any _ eq w4.drew (HE.out.keep (map_drew (Below.refl _ _)))).mono ?_
      rintro e w5 ⟨u5, rfl, ho5, hb5⟩
      have hx := map_undrew hb5
      have HT := Lib.hid ho5
      obtain ⟨X0, d0, X1, d1, X2, d2, rfl⟩ := ho5.form
      have HX := Lib.hid hx
      have p0 := cell_keep hx s0
      have p1 := cell_keep hx s1
      have p2 := cell_keep hx e0
      have p3 := cell_keep hx e1
      have p4 := cell_keep hx e2
      clear ho5 hb5 hx
      go_wp2_with fail
      refine hK.out _ _ ?_ (fun hHeld => ?_)
      · exact ⟨p0, p1, p2, p3, p4⟩
      clear hK K
      try simp only [Act.put, List.getElem_toArray, List.getElem_cons_zero, List.getElem_cons_succ, List.setIfInBounds_toArray, List.set_cons_zero, List.set_cons_succ]
      refine wpAnyH_ready (rs := [3]) (by kernel_rfl) (by simp) ?_
      refine AllReadyH.cons (o := _) rfl (fun K hK => ?_) AllReadyH.nil
      go_simp
      refine (eqOk_any s ⟨eq.vars, eq.right, eq.left⟩ w5 _ _ HSMT.out (HS.out.keep HX.out) HT.out).mono ?_
      rw [HOT.out]
      rintro e w6 ⟨rfl, hb6⟩
      have HY := Lib.hid (sz_keep HX.out hb6)
      have q0 := cell_keep hb6 p0
      have q1 := cell_keep hb6 p1
      have q2 := cell_keep hb6 p2
      have q3 := cell_keep hb6 p3
      have q4 := cell_keep hb6 p4
      clear hb6
      go_wp2_with fail
      refine hK.out _ _ ?_ (fun hHeld => ?_)
      · exact ⟨q0, q1, q2, q3, q4⟩
      clear hK K
      try simp only [Act.put, List.getElem_toArray, List.getElem_cons_zero, List.getElem_cons_succ, List.setIfInBounds_toArray, List.set_cons_zero, List.set_cons_succ]
      refine wpAnyH_take (i := 5) (oi := _) (v := ?_) rfl (by kernel_rfl) (by kernel_rfl) (by kernel_rfl) (fun _ _ _ h => h) (Or.inl ⟨by rfl, ?_⟩) (by assumption) ?_
      rotate_left
      · first | (intro w' hSw; (try dsimp only at hSw); go_simp; done) | (intro w' hSw; (try dsimp only at hSw); go_simp; with_reducible rfl)
      try simp only [Act.put, List.getElem_toArray, List.getElem_cons_zero, List.getElem_cons_succ, List.setIfInBounds_toArray, List.set_cons_zero, List.set_cons_succ]
      refine wpAnyH_take (i := 6) (oi := _) (v := ?_) rfl (by kernel_rfl) (by kernel_rfl) (by kernel_rfl) (fun _ _ _ h => h) (Or.inl ⟨by rfl, ?_⟩) (by assumption) ?_
      rotate_left
      · first | (intro w' hSw; (try dsimp only at hSw); go_simp; done) | (intro w' hSw; (try dsimp only at hSw); go_simp; with_reducible rfl)
      try simp only [Act.put, List.getElem_toArray, List.getElem_cons_zero, List.getElem_cons_succ, List.setIfInBounds_toArray, List.set_cons_zero, List.set_cons_succ]
      refine wpAnyH_take (i := 7) (oi := _) (v := ?_) rfl (by kernel_rfl) (by kernel_rfl) (by kernel_rfl) (fun _ _ _ h => h) (Or.inl ⟨by rfl, ?_⟩) (by assumption) ?_
      rotate_left
      · first | (intro w' hSw; (try dsimp only at hSw); go_simp; done) | (intro w' hSw; (try dsimp only at hSw); go_simp; with_reducible rfl)
      try simp only [Act.put, List.getElem_toArray, List.getElem_cons_zero, List.getElem_cons_succ, List.setIfInBounds_toArray, List.set_cons_zero, List.set_cons_succ]
      refine wpAnyH_take (i := 8) (oi := _) (v := ?_) rfl (by kernel_rfl) (by kernel_rfl) (by kernel_rfl) (fun _ _ _ h => h) (Or.inl ⟨by rfl, ?_⟩) (by assumption) ?_
      rotate_left
      · first | (intro w' hSw; (try dsimp only at hSw); go_simp; done) | (intro w' hSw; (try dsimp only at hSw); go_simp; with_reducible rfl)
      try simp only [Act.put, List.getElem_toArray, List.getElem_cons_zero, List.getElem_cons_succ, List.setIfInBounds_toArray, List.set_cons_zero, List.set_cons_succ]
      refine wpAnyH_take (i := 9) (oi := _) (v := ?_) rfl (by kernel_rfl) (by kernel_rfl) (by kernel_rfl) (fun _ _ _ h => h) (Or.inl ⟨by rfl, ?_⟩) (by assumption) ?_
      rotate_left
      · first | (intro w' hSw; (try dsimp only at hSw); go_simp; done) | (intro w' hSw; (try dsimp only at hSw); go_simp; with_reducible rfl)
      try simp only [Act.put, List.getElem_toArray, List.getElem_cons_zero, List.getElem_cons_succ, List.setIfInBounds_toArray, List.set_cons_zero, List.set_cons_succ]
      refine wpAnyH_take (i := 10) (oi := _) (v := _) rfl (by kernel_rfl) (by kernel_rfl) (by kernel_rfl) (fun _ _ _ h => h) (Or.inr ⟨by rfl, rfl⟩) (by assumption) ?_
      try simp only [Act.put, List.getElem_toArray, List.getElem_cons_zero, List.getElem_cons_succ, List.setIfInBounds_toArray, List.set_cons_zero, List.set_cons_succ]
      refine wpAnyH_take (i := 11) (oi := _) (v := _) rfl (by kernel_rfl) (by kernel_rfl) (by kernel_rfl) (fun _ _ _ h => h) (Or.inr ⟨by rfl, rfl⟩) (by assumption) ?_
      try simp only [Act.put, List.getElem_toArray, List.getElem_cons_zero, List.getElem_cons_succ, List.setIfInBounds_toArray, List.set_cons_zero, List.set_cons_succ]
      refine wpAnyH_take (i := 12) (oi := _) (v := _) rfl (by kernel_rfl) (by kernel_rfl) (by kernel_rfl) (fun _ _ _ h => h) (Or.inr ⟨by rfl, rfl⟩) (by assumption) ?_
      try simp only [Act.put, List.getElem_toArray, List.getElem_cons_zero, List.getElem_cons_succ, List.setIfInBounds_toArray, List.set_cons_zero, List.set_cons_succ]
      refine wpAnyH_take (i := 13) (oi := _) (v := _) rfl (by kernel_rfl) (by kernel_rfl) (by kernel_rfl) (fun _ _ _ h => h) (Or.inr ⟨by rfl, rfl⟩) (by assumption) ?_
      try simp only [Act.put, List.getElem_toArray, List.getElem_cons_zero, List.getElem_cons_succ, List.setIfInBounds_toArray, List.set_cons_zero, List.set_cons_succ]
      refine wpAnyH_take (i := 14) (oi := _) (v := _) rfl (by kernel_rfl) (by kernel_rfl) (by kernel_rfl) (fun _ _ _ h => h) (Or.inr ⟨by rfl, rfl⟩) (by assumption) ?_
      try simp only [Act.put, List.getElem_toArray, List.getElem_cons_zero, List.getElem_cons_succ, List.setIfInBounds_toArray, List.set_cons_zero, List.set_cons_succ]
      refine wpAnyH_take (i := 15) (oi := _) (v := _) rfl (by kernel_rfl) (by kernel_rfl) (by kernel_rfl) (fun _ _ _ h => h) (Or.inr ⟨by rfl, rfl⟩) (by assumption) ?_
      try simp only [Act.put, List.getElem_toArray, List.getElem_cons_zero, List.getElem_cons_succ, List.setIfInBounds_toArray, List.set_cons_zero, List.set_cons_succ]
      refine wpAnyH_take (i := 16) (oi := _) (v := _) rfl (by kernel_rfl) (by kernel_rfl) (by kernel_rfl) (fun _ _ _ h => h) (Or.inr ⟨by rfl, rfl⟩) (by assumption) ?_
      try simp only [Act.put, List.getElem_toArray, List.getElem_cons_zero, List.getElem_cons_succ, List.setIfInBounds_toArray, List.set_cons_zero, List.set_cons_succ]
      refine wpAnyH_take (i := 17) (oi := _) (v := _) rfl (by kernel_rfl) (by kernel_rfl) (by kernel_rfl) (fun _ _ _ h => h) (Or.inr ⟨by rfl, rfl⟩) (by assumption) ?_
      try simp only [Act.put, List.getElem_toArray, List.getElem_cons_zero, List.getElem_cons_succ, List.setIfInBounds_toArray, List.set_cons_zero, List.set_cons_succ]
      refine wpAnyH_ready (rs := [18]) (by kernel_rfl) (by simp) ?_
      refine AllReadyH.cons (o := _) rfl (fun K hK => ?_) AllReadyH.nil
      refine ite_off (by rfl) ?_
      refine hK.out _ _ (by assumption) (fun hHeld => ?_)
      clear hK K
      try simp only [Act.put, List.getElem_toArray, List.getElem_cons_zero, List.getElem_cons_succ, List.setIfInBounds_toArray, List.set_cons_zero, List.set_cons_succ]
      refine wpAnyH_take (i := 19) (oi := _) (v := ?_) rfl (by kernel_rfl) (by kernel_rfl) (by kernel_rfl) (fun _ _ _ h => h) (Or.inl ⟨by rfl, ?_⟩) (by assumption) ?_
      rotate_left
      · first | (intro w' hSw; (try dsimp only at hSw); go_simp; done) | (intro w' hSw; (try dsimp only at hSw); go_simp; with_reducible rfl)
      try simp only [Act.put, List.getElem_toArray, List.getElem_cons_zero, List.getElem_cons_succ, List.setIfInBounds_toArray, List.set_cons_zero, List.set_cons_succ]
      refine wpAnyH_take (i := 20) (oi := _) (v := ?_) rfl (by kernel_rfl) (by kernel_rfl) (by kernel_rfl) (fun _ _ _ h => h) (Or.inl ⟨by rfl, ?_⟩) (by assumption) ?_
      rotate_left
      · first | (intro w' hSw; (try dsimp only at hSw); go_simp; done) | (intro w' hSw; (try dsimp only at hSw); go_simp; with_reducible rfl)
      try simp only [Act.put, List.getElem_toArray, List.getElem_cons_zero, List.getElem_cons_succ, List.setIfInBounds_toArray, List.set_cons_zero, List.set_cons_succ]
      refine wpAnyH_take (i := 21) (oi := _) (v := ?_) rfl (by kernel_rfl) (by kernel_rfl) (by kernel_rfl) (fun _ _ _ h => h) (Or.inl ⟨by rfl, ?_⟩) (by assumption) ?_
      rotate_left
      · first | (intro w' hSw; (try dsimp only at hSw); go_simp; done) | (intro w' hSw; (try dsimp only at hSw); go_simp; with_reducible rfl)
      try simp only [Act.put, List.getElem_toArray, List.getElem_cons_zero, List.getElem_cons_succ, List.setIfInBounds_toArray, List.set_cons_zero, List.set_cons_succ]
      refine wpAnyH_ready (rs := [22]) (by kernel_rfl) (by simp) ?_
      refine AllReadyH.cons (o := _) rfl (fun K hK => ?_) AllReadyH.nil
      go_simp
      refine (alive_any w6).mono ?_
      rintro e w8 ⟨rfl, hb8⟩
      have HV := Lib.hid (sz_keep HY.out hb8)
      have v0 := cell_keep hb8 q0
      have v1 := cell_keep hb8 q1
      have v2 := cell_keep hb8 q2
      have v3 := cell_keep hb8 q3
      have v4 := cell_keep hb8 q4
      clear hb8
      go_wp2_with fail
      refine hK.out _ _ ?_ (fun hHeld => ?_)
      · exact ⟨v0, v1, v2, v3, v4⟩
      clear hK K
      try simp only [Act.put, List.getElem_toArray, List.getElem_cons_zero, List.getElem_cons_succ, List.setIfInBounds_toArray, List.set_cons_zero, List.set_cons_succ]
      refine wpAnyH_take (i := 23) (oi := _) (v := ?_) rfl (by kernel_rfl) (by kernel_rfl) (by kernel_rfl) (fun _ _ _ h => h) (Or.inl ⟨by rfl, ?_⟩) (by assumption) ?_
      rotate_left
      · first | (intro w' hSw; (try dsimp only at hSw); go_simp; done) | (intro w' hSw; (try dsimp only at hSw); go_simp; with_reducible rfl)
      try simp only [Act.put, List.getElem_toArray, List.getElem_cons_zero, List.getElem_cons_succ, List.setIfInBounds_toArray, List.set_cons_zero, List.set_cons_succ]
      refine wpAnyH_take (i := 24) (oi := _) (v := ?_) rfl (by kernel_rfl) (by kernel_rfl) (by kernel_rfl) (fun _ _ _ h => h) (Or.inl ⟨by rfl, ?_⟩) (by assumption) ?_
      rotate_left
      · first | (intro w' hSw; (try dsimp only at hSw); go_simp; done) | (intro w' hSw; (try dsimp only at hSw); go_simp; with_reducible rfl)
      try simp only [Act.put, List.getElem_toArray, List.getElem_cons_zero, List.getElem_cons_succ, List.setIfInBounds_toArray, List.set_cons_zero, List.set_cons_succ]
      refine wpAnyH_done (by kernel_rfl) ?_ _
      clear s0 s1 e0 e1 e2 p0 p1 p2 p3 p4 q0 q1 q2 q3 q4 v0 v1 v2 v3 v4
      go_wp2
      go_ret
      exact ⟨rfl, sz_keep HB.out HV.out⟩
    | true =>
      have HO := Lib.hid hok
      have HOT := Lib.hid (show eqOkB s ⟨eq.vars, eq.right, eq.left⟩ = true by rw [eqOk_turn]; exact hok)
      have HOL := Lib.hid (eqOk_self hok)
      clear hok
      go_wp2_with fail
      clear hW2
      refine (eqOk_any s eq w2 _ _ HSM.out HS.out HE.out).mono ?_
      rw [HO.out]
      rintro e w3 ⟨rfl, hb⟩
      replace s0 := cell_keep hb s0
      replace s1 := cell_keep hb s1
      replace e0 := cell_keep hb e0
      replace e1 := cell_keep hb e1
      replace e2 := cell_keep hb e2
      replace HS := Lib.hid (HS.out.keep hb)
      replace HE := Lib.hid (HE.out.keep hb)
      replace HB := Lib.hid (sz_keep HB.out hb)
      clear hb
      go_wp2_with fail
      refine (specEqOk_any s eq w3 _ _ HS.out HE.out).mono ?_
      rw [HO.out]
      rintro e w4 ⟨rfl, hb⟩
      replace s0 := cell_keep hb s0
      replace s1 := cell_keep hb s1
      replace e0 := cell_keep hb e0
      replace e1 := cell_keep hb e1
      replace e2 := cell_keep hb e2
      replace HS := Lib.hid (HS.out.keep hb)
      replace HE := Lib.hid (HE.out.keep hb)
      replace HB := Lib.hid (sz_keep HB.out hb)
      clear hb
      have HEL := Lib.hid (show REq w4 (.agg #[.slice A0 eq.vars.length c0, .slice A1 eq.left.length c1, .slice A1 eq.left.length c1]) ⟨eq.vars, eq.left, eq.left⟩ from ⟨_, _, _, rfl, HE.out.of.1, HE.out.of.2.1, HE.out.of.2.1⟩)
      go_wp2_with fail
      refine wp_region_held_drew (S := (fun w' => w'.cell? ⟨w1.heap.size, 0, none⟩ = some (.int .i64 s.sorts) ∧ w'.cell? ⟨w1.heap.size, 1, none⟩ = some (.slice As s.ops.length cs) ∧ w'.cell? ⟨w1.heap.size + 1, 0, none⟩ = some (.slice A0 eq.vars.length c0) ∧ w'.cell? ⟨w1.heap.size + 1, 1, none⟩ = some (.slice A1 eq.left.length c1) ∧ w'.cell? ⟨w1.heap.size + 1, 2, none⟩ = some (.slice A2 eq.right.length c2))) (by kernel_rfl) ?_ (fun hHeld => ?_)
      · exact ⟨s0, s1, e0, e1, e2⟩
      refine wpAnyH_take (i := 0) (oi := _) (v := ?_) rfl (by kernel_rfl) (by kernel_rfl) (by kernel_rfl) (fun _ _ _ h => h) (Or.inl ⟨by rfl, ?_⟩) (by assumption) ?_
      rotate_left
      · first | (intro w' hSw; (try dsimp only at hSw); go_simp; done) | (intro w' hSw; (try dsimp only at hSw); go_simp; with_reducible rfl)
      try simp only [Act.put, List.getElem_toArray, List.getElem_cons_zero, List.getElem_cons_succ, List.setIfInBounds_toArray, List.set_cons_zero, List.set_cons_succ]
      refine wpAnyH_take (i := 1) (oi := _) (v := ?_) rfl (by kernel_rfl) (by kernel_rfl) (by kernel_rfl) (fun _ _ _ h => h) (Or.inl ⟨by rfl, ?_⟩) (by assumption) ?_
      rotate_left
      · first | (intro w' hSw; (try dsimp only at hSw); go_simp; done) | (intro w' hSw; (try dsimp only at hSw); go_simp; with_reducible rfl)
      try simp only [Act.put, List.getElem_toArray, List.getElem_cons_zero, List.getElem_cons_succ, List.setIfInBounds_toArray, List.set_cons_zero, List.set_cons_succ]
      refine wpAnyH_take (i := 4) (oi := _) (v := ?_) rfl (by kernel_rfl) (by kernel_rfl) (by kernel_rfl) (fun _ _ _ h => h) (Or.inl ⟨by rfl, ?_⟩) (by assumption) ?_
      rotate_left
      · first | (intro w' hSw; (try dsimp only at hSw); go_simp; done) | (intro w' hSw; (try dsimp only at hSw); go_simp; with_reducible rfl)
      try simp only [Act.put, List.getElem_toArray, List.getElem_cons_zero, List.getElem_cons_succ, List.setIfInBounds_toArray, List.set_cons_zero, List.set_cons_succ]
      refine wpAnyH_ready (rs := [2]) (by kernel_rfl) (by simp) ?_
      refine AllReadyH.cons (o := _) rfl (fun K hK => ?_) AllReadyH.nil
      go_simp
      refine (turned_any _ eq w4.drew (HE.out.keep (map_drew (Below.refl _ _)))).mono ?_
      rintro e w5 ⟨u5, rfl, ho5, hb5⟩
      have hx := map_undrew hb5
      have HT := Lib.hid ho5
      obtain ⟨X0, d0, X1, d1, X2, d2, rfl⟩ := ho5.form
      have HX := Lib.hid hx
      have p0 := cell_keep hx s0
      have p1 := cell_keep hx s1
      have p2 := cell_keep hx e0
      have p3 := cell_keep hx e1
      have p4 := cell_keep hx e2
      clear ho5 hb5 hx
      go_wp2_with fail
      refine hK.out _ _ ?_ (fun hHeld => ?_)
      · exact ⟨p0, p1, p2, p3, p4⟩
      clear hK K
      try simp only [Act.put, List.getElem_toArray, List.getElem_cons_zero, List.getElem_cons_succ, List.setIfInBounds_toArray, List.set_cons_zero, List.set_cons_succ]
      refine wpAnyH_ready (rs := [3]) (by kernel_rfl) (by simp) ?_
      refine AllReadyH.cons (o := _) rfl (fun K hK => ?_) AllReadyH.nil
      go_simp
      refine (eqOk_any s ⟨eq.vars, eq.right, eq.left⟩ w5 _ _ HSMT.out (HS.out.keep HX.out) HT.out).mono ?_
      rw [HOT.out]
      rintro e w6 ⟨rfl, hb6⟩
      have HY := Lib.hid (sz_keep HX.out hb6)
      have q0 := cell_keep hb6 p0
      have q1 := cell_keep hb6 p1
      have q2 := cell_keep hb6 p2
      have q3 := cell_keep hb6 p3
      have q4 := cell_keep hb6 p4
      clear hb6
      go_wp2_with fail
      refine hK.out _ _ ?_ (fun hHeld => ?_)
      · exact ⟨q0, q1, q2, q3, q4⟩
      clear hK K
      try simp only [Act.put, List.getElem_toArray, List.getElem_cons_zero, List.getElem_cons_succ, List.setIfInBounds_toArray, List.set_cons_zero, List.set_cons_succ]
      refine wpAnyH_take (i := 5) (oi := _) (v := ?_) rfl (by kernel_rfl) (by kernel_rfl) (by kernel_rfl) (fun _ _ _ h => h) (Or.inl ⟨by rfl, ?_⟩) (by assumption) ?_
      rotate_left
      · first | (intro w' hSw; (try dsimp only at hSw); go_simp; done) | (intro w' hSw; (try dsimp only at hSw); go_simp; with_reducible rfl)
      try simp only [Act.put, List.getElem_toArray, List.getElem_cons_zero, List.getElem_cons_succ, List.setIfInBounds_toArray, List.set_cons_zero, List.set_cons_succ]
      refine wpAnyH_take (i := 6) (oi := _) (v := ?_) rfl (by kernel_rfl) (by kernel_rfl) (by kernel_rfl) (fun _ _ _ h => h) (Or.inl ⟨by rfl, ?_⟩) (by assumption) ?_
      rotate_left
      · first | (intro w' hSw; (try dsimp only at hSw); go_simp; done) | (intro w' hSw; (try dsimp only at hSw); go_simp; with_reducible rfl)
      try simp only [Act.put, List.getElem_toArray, List.getElem_cons_zero, List.getElem_cons_succ, List.setIfInBounds_toArray, List.set_cons_zero, List.set_cons_succ]
      refine wpAnyH_take (i := 7) (oi := _) (v := ?_) rfl (by kernel_rfl) (by kernel_rfl) (by kernel_rfl) (fun _ _ _ h => h) (Or.inl ⟨by rfl, ?_⟩) (by assumption) ?_
      rotate_left
      · first | (intro w' hSw; (try dsimp only at hSw); go_simp; done) | (intro w' hSw; (try dsimp only at hSw); go_simp; with_reducible rfl)
      try simp only [Act.put, List.getElem_toArray, List.getElem_cons_zero, List.getElem_cons_succ, List.setIfInBounds_toArray, List.set_cons_zero, List.set_cons_succ]
      refine wpAnyH_take (i := 8) (oi := _) (v := ?_) rfl (by kernel_rfl) (by kernel_rfl) (by kernel_rfl) (fun _ _ _ h => h) (Or.inl ⟨by rfl, ?_⟩) (by assumption) ?_
      rotate_left
      · first | (intro w' hSw; (try dsimp only at hSw); go_simp; done) | (intro w' hSw; (try dsimp only at hSw); go_simp; with_reducible rfl)
      try simp only [Act.put, List.getElem_toArray, List.getElem_cons_zero, List.getElem_cons_succ, List.setIfInBounds_toArray, List.set_cons_zero, List.set_cons_succ]
      refine wpAnyH_take (i := 9) (oi := _) (v := ?_) rfl (by kernel_rfl) (by kernel_rfl) (by kernel_rfl) (fun _ _ _ h => h) (Or.inl ⟨by rfl, ?_⟩) (by assumption) ?_
      rotate_left
      · first | (intro w' hSw; (try dsimp only at hSw); go_simp; done) | (intro w' hSw; (try dsimp only at hSw); go_simp; with_reducible rfl)
      try simp only [Act.put, List.getElem_toArray, List.getElem_cons_zero, List.getElem_cons_succ, List.setIfInBounds_toArray, List.set_cons_zero, List.set_cons_succ]
      refine wpAnyH_take (i := 10) (oi := _) (v := ?_) rfl (by kernel_rfl) (by kernel_rfl) (by kernel_rfl) (fun _ _ _ h => h) (Or.inl ⟨by rfl, ?_⟩) (by assumption) ?_
      rotate_left
      · first | (intro w' hSw; (try dsimp only at hSw); go_simp; done) | (intro w' hSw; (try dsimp only at hSw); go_simp; with_reducible rfl)
      try simp only [Act.put, List.getElem_toArray, List.getElem_cons_zero, List.getElem_cons_succ, List.setIfInBounds_toArray, List.set_cons_zero, List.set_cons_succ]
      refine wpAnyH_take (i := 11) (oi := _) (v := ?_) rfl (by kernel_rfl) (by kernel_rfl) (by kernel_rfl) (fun _ _ _ h => h) (Or.inl ⟨by rfl, ?_⟩) (by assumption) ?_
      rotate_left
      · first | (intro w' hSw; (try dsimp only at hSw); go_simp; done) | (intro w' hSw; (try dsimp only at hSw); go_simp; with_reducible rfl)
      try simp only [Act.put, List.getElem_toArray, List.getElem_cons_zero, List.getElem_cons_succ, List.setIfInBounds_toArray, List.set_cons_zero, List.set_cons_succ]
      refine wpAnyH_take (i := 12) (oi := _) (v := ?_) rfl (by kernel_rfl) (by kernel_rfl) (by kernel_rfl) (fun _ _ _ h => h) (Or.inl ⟨by rfl, ?_⟩) (by assumption) ?_
      rotate_left
      · first | (intro w' hSw; (try dsimp only at hSw); go_simp; done) | (intro w' hSw; (try dsimp only at hSw); go_simp; with_reducible rfl)
      try simp only [Act.put, List.getElem_toArray, List.getElem_cons_zero, List.getElem_cons_succ, List.setIfInBounds_toArray, List.set_cons_zero, List.set_cons_succ]
      refine wpAnyH_take (i := 13) (oi := _) (v := ?_) rfl (by kernel_rfl) (by kernel_rfl) (by kernel_rfl) (fun _ _ _ h => h) (Or.inl ⟨by rfl, ?_⟩) (by assumption) ?_
      rotate_left
      · first | (intro w' hSw; (try dsimp only at hSw); go_simp; done) | (intro w' hSw; (try dsimp only at hSw); go_simp; with_reducible rfl)
      try simp only [Act.put, List.getElem_toArray, List.getElem_cons_zero, List.getElem_cons_succ, List.setIfInBounds_toArray, List.set_cons_zero, List.set_cons_succ]
      refine wpAnyH_take (i := 14) (oi := _) (v := ?_) rfl (by kernel_rfl) (by kernel_rfl) (by kernel_rfl) (fun _ _ _ h => h) (Or.inl ⟨by rfl, ?_⟩) (by assumption) ?_
      rotate_left
      · first | (intro w' hSw; (try dsimp only at hSw); go_simp; done) | (intro w' hSw; (try dsimp only at hSw); go_simp; with_reducible rfl)
      try simp only [Act.put, List.getElem_toArray, List.getElem_cons_zero, List.getElem_cons_succ, List.setIfInBounds_toArray, List.set_cons_zero, List.set_cons_succ]
      refine wpAnyH_take (i := 15) (oi := _) (v := ?_) rfl (by kernel_rfl) (by kernel_rfl) (by kernel_rfl) (fun _ _ _ h => h) (Or.inl ⟨by rfl, ?_⟩) (by assumption) ?_
      rotate_left
      · first | (intro w' hSw; (try dsimp only at hSw); go_simp; done) | (intro w' hSw; (try dsimp only at hSw); go_simp; with_reducible rfl)
      try simp only [Act.put, List.getElem_toArray, List.getElem_cons_zero, List.getElem_cons_succ, List.setIfInBounds_toArray, List.set_cons_zero, List.set_cons_succ]
      refine wpAnyH_take (i := 16) (oi := _) (v := ?_) rfl (by kernel_rfl) (by kernel_rfl) (by kernel_rfl) (fun _ _ _ h => h) (Or.inl ⟨by rfl, ?_⟩) (by assumption) ?_
      rotate_left
      · first | (intro w' hSw; (try dsimp only at hSw); go_simp; done) | (intro w' hSw; (try dsimp only at hSw); go_simp; with_reducible rfl)
      try simp only [Act.put, List.getElem_toArray, List.getElem_cons_zero, List.getElem_cons_succ, List.setIfInBounds_toArray, List.set_cons_zero, List.set_cons_succ]
      refine wpAnyH_take (i := 17) (oi := _) (v := ?_) rfl (by kernel_rfl) (by kernel_rfl) (by kernel_rfl) (fun _ _ _ h => h) (Or.inl ⟨by rfl, ?_⟩) (by assumption) ?_
      rotate_left
      · first | (intro w' hSw; (try dsimp only at hSw); go_simp; done) | (intro w' hSw; (try dsimp only at hSw); go_simp; with_reducible rfl)
      try simp only [Act.put, List.getElem_toArray, List.getElem_cons_zero, List.getElem_cons_succ, List.setIfInBounds_toArray, List.set_cons_zero, List.set_cons_succ]
      refine wpAnyH_ready (rs := [18]) (by kernel_rfl) (by simp) ?_
      refine AllReadyH.cons (o := _) rfl (fun K hK => ?_) AllReadyH.nil
      go_simp
      refine (eqOk_any s ⟨eq.vars, eq.left, eq.left⟩ w6 _ _ HSML.out (HS.out.keep HY.out) (HEL.out.keep HY.out)).mono ?_
      rw [HOL.out]
      rintro e w7 ⟨rfl, hb7⟩
      have HZ := Lib.hid (sz_keep HY.out hb7)
      have r0 := cell_keep hb7 q0
      have r1 := cell_keep hb7 q1
      have r2 := cell_keep hb7 q2
      have r3 := cell_keep hb7 q3
      have r4 := cell_keep hb7 q4
      clear hb7
      go_wp2_with fail
      refine hK.out _ _ ?_ (fun hHeld => ?_)
      · exact ⟨r0, r1, r2, r3, r4⟩
      clear hK K
      try simp only [Act.put, List.getElem_toArray, List.getElem_cons_zero, List.getElem_cons_succ, List.setIfInBounds_toArray, List.set_cons_zero, List.set_cons_succ]
      refine wpAnyH_take (i := 19) (oi := _) (v := ?_) rfl (by kernel_rfl) (by kernel_rfl) (by kernel_rfl) (fun _ _ _ h => h) (Or.inl ⟨by rfl, ?_⟩) (by assumption) ?_
      rotate_left
      · first | (intro w' hSw; (try dsimp only at hSw); go_simp; done) | (intro w' hSw; (try dsimp only at hSw); go_simp; with_reducible rfl)
      try simp only [Act.put, List.getElem_toArray, List.getElem_cons_zero, List.getElem_cons_succ, List.setIfInBounds_toArray, List.set_cons_zero, List.set_cons_succ]
      refine wpAnyH_take (i := 20) (oi := _) (v := ?_) rfl (by kernel_rfl) (by kernel_rfl) (by kernel_rfl) (fun _ _ _ h => h) (Or.inl ⟨by rfl, ?_⟩) (by assumption) ?_
      rotate_left
      · first | (intro w' hSw; (try dsimp only at hSw); go_simp; done) | (intro w' hSw; (try dsimp only at hSw); go_simp; with_reducible rfl)
      try simp only [Act.put, List.getElem_toArray, List.getElem_cons_zero, List.getElem_cons_succ, List.setIfInBounds_toArray, List.set_cons_zero, List.set_cons_succ]
      refine wpAnyH_take (i := 21) (oi := _) (v := ?_) rfl (by kernel_rfl) (by kernel_rfl) (by kernel_rfl) (fun _ _ _ h => h) (Or.inl ⟨by rfl, ?_⟩) (by assumption) ?_
      rotate_left
      · first | (intro w' hSw; (try dsimp only at hSw); go_simp; done) | (intro w' hSw; (try dsimp only at hSw); go_simp; with_reducible rfl)
      try simp only [Act.put, List.getElem_toArray, List.getElem_cons_zero, List.getElem_cons_succ, List.setIfInBounds_toArray, List.set_cons_zero, List.set_cons_succ]
      refine wpAnyH_ready (rs := [22]) (by kernel_rfl) (by simp) ?_
      refine AllReadyH.cons (o := _) rfl (fun K hK => ?_) AllReadyH.nil
      go_simp
      refine (alive_any w7).mono ?_
      rintro e w8 ⟨rfl, hb8⟩
      have HV := Lib.hid (sz_keep HZ.out hb8)
      have v0 := cell_keep hb8 r0
      have v1 := cell_keep hb8 r1
      have v2 := cell_keep hb8 r2
      have v3 := cell_keep hb8 r3
      have v4 := cell_keep hb8 r4
      clear hb8
      go_wp2_with fail
      refine hK.out _ _ ?_ (fun hHeld => ?_)
      · exact ⟨v0, v1, v2, v3, v4⟩
      clear hK K
      try simp only [Act.put, List.getElem_toArray, List.getElem_cons_zero, List.getElem_cons_succ, List.setIfInBounds_toArray, List.set_cons_zero, List.set_cons_succ]
      refine wpAnyH_take (i := 23) (oi := _) (v := ?_) rfl (by kernel_rfl) (by kernel_rfl) (by kernel_rfl) (fun _ _ _ h => h) (Or.inl ⟨by rfl, ?_⟩) (by assumption) ?_
      rotate_left
      · first | (intro w' hSw; (try dsimp only at hSw); go_simp; done) | (intro w' hSw; (try dsimp only at hSw); go_simp; with_reducible rfl)
      try simp only [Act.put, List.getElem_toArray, List.getElem_cons_zero, List.getElem_cons_succ, List.setIfInBounds_toArray, List.set_cons_zero, List.set_cons_succ]
      refine wpAnyH_take (i := 24) (oi := _) (v := ?_) rfl (by kernel_rfl) (by kernel_rfl) (by kernel_rfl) (fun _ _ _ h => h) (Or.inl ⟨by rfl, ?_⟩) (by assumption) ?_
      rotate_left
      · first | (intro w' hSw; (try dsimp only at hSw); go_simp; done) | (intro w' hSw; (try dsimp only at hSw); go_simp; with_reducible rfl)
      try simp only [Act.put, List.getElem_toArray, List.getElem_cons_zero, List.getElem_cons_succ, List.setIfInBounds_toArray, List.set_cons_zero, List.set_cons_succ]
      refine wpAnyH_done (by kernel_rfl) ?_ _
      clear s0 s1 e0 e1 e2 p0 p1 p2 p3 p4 q0 q1 q2 q3 q4 r0 r1 r2 r3 r4 v0 v1 v2 v3 v4
      go_wp2
      go_ret
      exact ⟨rfl, sz_keep HB.out HV.out⟩

set_option maxRecDepth 100000 in
theorem lifted_FnEqOk (os : Os) (started : os.Started) (H : Type) (enc : TypeId × Value → H) :
    ReturnsInHanded {} Try.checked os 8 .any (Rows.fnEqOkSpec.pre6 enc Try.prog Try.f8 Rows.fnEqOkRow.domain false) (Rows.fnEqOkSpec.post enc Try.prog Try.f8 false true false false) := by
  refine returnsInHanded_of_change (C := Try.checked) own started (by kernel_rfl) Try.func8
    (ChangeSpec.witness6 (enc := enc) (C := Try.checked) false ⟨#[], #[.slice none 0 0], []⟩ 8 (by kernel_rfl) (by kernel_rfl) (by kernel_rfl) (by kernel_rfl)) ?_
  intro W base args ds gs before hval0 hW hcnd _
  have hval : ∀ (j : Nat) t v, Try.f8.params[j]? = some t → args[j]? = some v → Value.okWide Try.prog W .any base t v := hval0
  have hW' := hW
  obtain ⟨p, q, hA0, hV, rfl, hfz, hnd⟩ := hW
  have hA : DataW.TrodAll enc Try.prog W 0 (fun _ => true) true Try.f8.params.toList args.toList ds p := hA0
  rw [Try.params8] at hA hval
  obtain ⟨v0, vs0, d0, ds0, p0, q0, hargs, rfl, rfl, h0, r0⟩ := trodAll_cons hA
  obtain ⟨rfl, rfl, rfl⟩ := trodAll_nil r0
  obtain rfl : args = #[v0] := by cases args; simp_all
  obtain ⟨rfl, rfl⟩ := trodVars_none hV
  obtain ⟨a0, len0, cap0, rfl⟩ := okWide_slice Try.underlying50 (hval 0 50 v0 rfl rfl)
  have k0 := h0
  have lt0 : ∀ x ∈ p0, x.block < W.heap.size := by obtain ⟨m, hm⟩ := k0; exact DataW.trod_lt m _ _ _ hm
  obtain ⟨bs, w0⟩ : ∃ bs, RBytes W W.heap.size (.slice a0 len0 cap0) bs := by
    obtain ⟨fuel, hf⟩ := h0
    rcases open_ints Try.underlying50 Try.underlying5 (by kernel_rfl) hf with ⟨hcs, _⟩ | ⟨x, l, c, zs, hcs, _, hl, hm, hz, _, hcell, hwz⟩
    · simp [Value.cells] at hcs
      obtain ⟨rfl, rfl, rfl⟩ := hcs
      exact ⟨[], bytes_nil _ _⟩
    · simp [Value.cells] at hcs
      obtain ⟨rfl, rfl, rfl⟩ := hcs
      exact ⟨_, bytes_of hl hm (by simpa using hz) hcell hwz⟩
  clear hA0 hval0
  refine (walk_FnEqOk _ bs W w0).mono fun e W' ⟨he, bel⟩ => ?_
  subst he
  exact ⟨_, rfl, _, _, _, [], _, [], hW', trodAll_mk1 (shut_bool Try.underlying4 _), (trodAll_cons_mk (Below.trod laidOut (by kernel_rfl) (of_decide_eq_true (by kernel_rfl)) k0 bel lt0) trodAll_mk0), rfl, bel.frame _, fun h => by cases h⟩

theorem over_FnEqOk : Rows.fnEqOkRow.holds Try.pinned (OpenSpec.ofChange Rows.fnEqOkSpec) :=
  OpenClaim.holds_of_wide 8 Try.f8 rfl rfl rfl rfl rfl rfl rfl ⟨rfl, rfl, rfl, rfl, rfl⟩ rfl rfl rfl rfl rfl (by kernel_rfl) Try.func8 (by kernel_rfl)
    (of_decide_eq_true (by kernel_rfl)) (by unfold Func.isWrapper; first | (rw [if_pos (by decide +kernel)]; kernel_rfl) | (rw [if_neg (by decide +kernel)]; exact ⟨rfl, rfl⟩))
    (fun os started H enc _ => lifted_FnEqOk os started H enc)

theorem proved_FnEqOk : Rows.FnEqOkSaid := over_FnEqOk
end Go.Proofs.Yteccjnnhihbdhab
