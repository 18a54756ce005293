/- MapSelf, MapTerm, MapEq of package spec. -/
import Derived.Test.YtonainidjkcoeaaMapFn
import Derived.Test.YtonainidjkcoeaaLoc
namespace Go.Proofs.Ytonainidjkcoeaa
open Go.RowKit
set_option linter.unusedVariables false
set_option linter.unusedSimpArgs false

theorem own_empty_at (w : World) {b : Nat} (hb : w.heap.size = b) : OInts (w.alloc (.cells #[] 3)) b (.slice (some ⟨b, 0, none⟩) 0 0) [] := by subst hb; exact own_empty w
set_option maxHeartbeats 3200000 in
set_option maxRecDepth 100000 in
theorem specMapEq_any (a b : MSig) (m : MMap) (e : MEq) (w : World) (va vb vm ve : Value) (h1 : RSig w va a) (h2 : RSig w vb b) (h3 : RMap w vm m) (h4 : REq w ve e) :
    Calls Try.prog 31 #[va, vb, vm, ve] w fun x w' => ∃ u, x = .returned (.tuple #[u, .bool (mapEqM a b m e).2]) ∧ OEq w' w.heap.size u (mapEqM a b m e).1 ∧ Below w.heap.size w w' := by
  obtain ⟨Aaa, caa, rfl⟩ := h1.form
  obtain ⟨Aba, cba, rfl⟩ := h2.form
  obtain ⟨Ama, cma, Amb, cmb, rfl⟩ := h3.form
  obtain ⟨Aea, cea, Aeb, ceb, Aec, cec, rfl⟩ := h4.form
  have hb : Below w.heap.size w (((((w.alloc (.cells #[.int .i64 a.sorts, .slice Aaa a.ops.length caa] 31)).alloc (.cells #[.int .i64 b.sorts, .slice Aba b.ops.length cba] 31)).alloc (.cells #[.slice Ama m.sorts.length cma, .slice Amb m.ops.length cmb] 33)).alloc (.cells #[.slice Aea e.vars.length cea, .slice Aeb e.left.length ceb, .slice Aec e.right.length cec] 54)).alloc (.cells #[.slice none 0 0, .slice none 0 0, .slice none 0 0] 54)) := ((((below_alloc _ _).alloc (by simp) _).alloc (by simp; omega) _).alloc (by simp; omega) _).alloc (by simp; omega) _
  have HB := Lib.hid hb
  have hsz : (((((w.alloc (.cells #[.int .i64 a.sorts, .slice Aaa a.ops.length caa] 31)).alloc (.cells #[.int .i64 b.sorts, .slice Aba b.ops.length cba] 31)).alloc (.cells #[.slice Ama m.sorts.length cma, .slice Amb m.ops.length cmb] 33)).alloc (.cells #[.slice Aea e.vars.length cea, .slice Aeb e.left.length ceb, .slice Aec e.right.length cec] 54)).alloc (.cells #[.slice none 0 0, .slice none 0 0, .slice none 0 0] 54)).heap.size = w.heap.size + 5 := by simp
  have Ha := Lib.hid (h1.keep hb)
  have a0 := cell_keep (below_alloc ((((w.alloc (.cells #[.int .i64 a.sorts, .slice Aaa a.ops.length caa] 31)).alloc (.cells #[.int .i64 b.sorts, .slice Aba b.ops.length cba] 31)).alloc (.cells #[.slice Ama m.sorts.length cma, .slice Amb m.ops.length cmb] 33)).alloc (.cells #[.slice Aea e.vars.length cea, .slice Aeb e.left.length ceb, .slice Aec e.right.length cec] 54)) (.cells #[.slice none 0 0, .slice none 0 0, .slice none 0 0] 54)) (cell_keep (below_alloc (((w.alloc (.cells #[.int .i64 a.sorts, .slice Aaa a.ops.length caa] 31)).alloc (.cells #[.int .i64 b.sorts, .slice Aba b.ops.length cba] 31)).alloc (.cells #[.slice Ama m.sorts.length cma, .slice Amb m.ops.length cmb] 33)) (.cells #[.slice Aea e.vars.length cea, .slice Aeb e.left.length ceb, .slice Aec e.right.length cec] 54)) (cell_keep (below_alloc ((w.alloc (.cells #[.int .i64 a.sorts, .slice Aaa a.ops.length caa] 31)).alloc (.cells #[.int .i64 b.sorts, .slice Aba b.ops.length cba] 31)) (.cells #[.slice Ama m.sorts.length cma, .slice Amb m.ops.length cmb] 33)) (cell_keep (below_alloc (w.alloc (.cells #[.int .i64 a.sorts, .slice Aaa a.ops.length caa] 31)) (.cells #[.int .i64 b.sorts, .slice Aba b.ops.length cba] 31)) (bx_at (w) #[.int .i64 a.sorts, .slice Aaa a.ops.length caa] 31 (k := 0) rfl))))
  have a1 := cell_keep (below_alloc ((((w.alloc (.cells #[.int .i64 a.sorts, .slice Aaa a.ops.length caa] 31)).alloc (.cells #[.int .i64 b.sorts, .slice Aba b.ops.length cba] 31)).alloc (.cells #[.slice Ama m.sorts.length cma, .slice Amb m.ops.length cmb] 33)).alloc (.cells #[.slice Aea e.vars.length cea, .slice Aeb e.left.length ceb, .slice Aec e.right.length cec] 54)) (.cells #[.slice none 0 0, .slice none 0 0, .slice none 0 0] 54)) (cell_keep (below_alloc (((w.alloc (.cells #[.int .i64 a.sorts, .slice Aaa a.ops.length caa] 31)).alloc (.cells #[.int .i64 b.sorts, .slice Aba b.ops.length cba] 31)).alloc (.cells #[.slice Ama m.sorts.length cma, .slice Amb m.ops.length cmb] 33)) (.cells #[.slice Aea e.vars.length cea, .slice Aeb e.left.length ceb, .slice Aec e.right.length cec] 54)) (cell_keep (below_alloc ((w.alloc (.cells #[.int .i64 a.sorts, .slice Aaa a.ops.length caa] 31)).alloc (.cells #[.int .i64 b.sorts, .slice Aba b.ops.length cba] 31)) (.cells #[.slice Ama m.sorts.length cma, .slice Amb m.ops.length cmb] 33)) (cell_keep (below_alloc (w.alloc (.cells #[.int .i64 a.sorts, .slice Aaa a.ops.length caa] 31)) (.cells #[.int .i64 b.sorts, .slice Aba b.ops.length cba] 31)) (bx_at (w) #[.int .i64 a.sorts, .slice Aaa a.ops.length caa] 31 (k := 1) rfl))))
  have Hb := Lib.hid (h2.keep hb)
  have b0 := cell_keep (below_alloc ((((w.alloc (.cells #[.int .i64 a.sorts, .slice Aaa a.ops.length caa] 31)).alloc (.cells #[.int .i64 b.sorts, .slice Aba b.ops.length cba] 31)).alloc (.cells #[.slice Ama m.sorts.length cma, .slice Amb m.ops.length cmb] 33)).alloc (.cells #[.slice Aea e.vars.length cea, .slice Aeb e.left.length ceb, .slice Aec e.right.length cec] 54)) (.cells #[.slice none 0 0, .slice none 0 0, .slice none 0 0] 54)) (cell_keep (below_alloc (((w.alloc (.cells #[.int .i64 a.sorts, .slice Aaa a.ops.length caa] 31)).alloc (.cells #[.int .i64 b.sorts, .slice Aba b.ops.length cba] 31)).alloc (.cells #[.slice Ama m.sorts.length cma, .slice Amb m.ops.length cmb] 33)) (.cells #[.slice Aea e.vars.length cea, .slice Aeb e.left.length ceb, .slice Aec e.right.length cec] 54)) (cell_keep (below_alloc ((w.alloc (.cells #[.int .i64 a.sorts, .slice Aaa a.ops.length caa] 31)).alloc (.cells #[.int .i64 b.sorts, .slice Aba b.ops.length cba] 31)) (.cells #[.slice Ama m.sorts.length cma, .slice Amb m.ops.length cmb] 33)) (bx_at (w.alloc (.cells #[.int .i64 a.sorts, .slice Aaa a.ops.length caa] 31)) #[.int .i64 b.sorts, .slice Aba b.ops.length cba] 31 (k := 0) rfl)))
  have b1 := cell_keep (below_alloc ((((w.alloc (.cells #[.int .i64 a.sorts, .slice Aaa a.ops.length caa] 31)).alloc (.cells #[.int .i64 b.sorts, .slice Aba b.ops.length cba] 31)).alloc (.cells #[.slice Ama m.sorts.length cma, .slice Amb m.ops.length cmb] 33)).alloc (.cells #[.slice Aea e.vars.length cea, .slice Aeb e.left.length ceb, .slice Aec e.right.length cec] 54)) (.cells #[.slice none 0 0, .slice none 0 0, .slice none 0 0] 54)) (cell_keep (below_alloc (((w.alloc (.cells #[.int .i64 a.sorts, .slice Aaa a.ops.length caa] 31)).alloc (.cells #[.int .i64 b.sorts, .slice Aba b.ops.length cba] 31)).alloc (.cells #[.slice Ama m.sorts.length cma, .slice Amb m.ops.length cmb] 33)) (.cells #[.slice Aea e.vars.length cea, .slice Aeb e.left.length ceb, .slice Aec e.right.length cec] 54)) (cell_keep (below_alloc ((w.alloc (.cells #[.int .i64 a.sorts, .slice Aaa a.ops.length caa] 31)).alloc (.cells #[.int .i64 b.sorts, .slice Aba b.ops.length cba] 31)) (.cells #[.slice Ama m.sorts.length cma, .slice Amb m.ops.length cmb] 33)) (bx_at (w.alloc (.cells #[.int .i64 a.sorts, .slice Aaa a.ops.length caa] 31)) #[.int .i64 b.sorts, .slice Aba b.ops.length cba] 31 (k := 1) rfl)))
  have Hm := Lib.hid (h3.keep hb)
  have m0 := cell_keep (below_alloc ((((w.alloc (.cells #[.int .i64 a.sorts, .slice Aaa a.ops.length caa] 31)).alloc (.cells #[.int .i64 b.sorts, .slice Aba b.ops.length cba] 31)).alloc (.cells #[.slice Ama m.sorts.length cma, .slice Amb m.ops.length cmb] 33)).alloc (.cells #[.slice Aea e.vars.length cea, .slice Aeb e.left.length ceb, .slice Aec e.right.length cec] 54)) (.cells #[.slice none 0 0, .slice none 0 0, .slice none 0 0] 54)) (cell_keep (below_alloc (((w.alloc (.cells #[.int .i64 a.sorts, .slice Aaa a.ops.length caa] 31)).alloc (.cells #[.int .i64 b.sorts, .slice Aba b.ops.length cba] 31)).alloc (.cells #[.slice Ama m.sorts.length cma, .slice Amb m.ops.length cmb] 33)) (.cells #[.slice Aea e.vars.length cea, .slice Aeb e.left.length ceb, .slice Aec e.right.length cec] 54)) (bx_at ((w.alloc (.cells #[.int .i64 a.sorts, .slice Aaa a.ops.length caa] 31)).alloc (.cells #[.int .i64 b.sorts, .slice Aba b.ops.length cba] 31)) #[.slice Ama m.sorts.length cma, .slice Amb m.ops.length cmb] 33 (k := 0) rfl))
  have m1 := cell_keep (below_alloc ((((w.alloc (.cells #[.int .i64 a.sorts, .slice Aaa a.ops.length caa] 31)).alloc (.cells #[.int .i64 b.sorts, .slice Aba b.ops.length cba] 31)).alloc (.cells #[.slice Ama m.sorts.length cma, .slice Amb m.ops.length cmb] 33)).alloc (.cells #[.slice Aea e.vars.length cea, .slice Aeb e.left.length ceb, .slice Aec e.right.length cec] 54)) (.cells #[.slice none 0 0, .slice none 0 0, .slice none 0 0] 54)) (cell_keep (below_alloc (((w.alloc (.cells #[.int .i64 a.sorts, .slice Aaa a.ops.length caa] 31)).alloc (.cells #[.int .i64 b.sorts, .slice Aba b.ops.length cba] 31)).alloc (.cells #[.slice Ama m.sorts.length cma, .slice Amb m.ops.length cmb] 33)) (.cells #[.slice Aea e.vars.length cea, .slice Aeb e.left.length ceb, .slice Aec e.right.length cec] 54)) (bx_at ((w.alloc (.cells #[.int .i64 a.sorts, .slice Aaa a.ops.length caa] 31)).alloc (.cells #[.int .i64 b.sorts, .slice Aba b.ops.length cba] 31)) #[.slice Ama m.sorts.length cma, .slice Amb m.ops.length cmb] 33 (k := 1) rfl))
  have He := Lib.hid (h4.keep hb)
  have e0 := cell_keep (below_alloc ((((w.alloc (.cells #[.int .i64 a.sorts, .slice Aaa a.ops.length caa] 31)).alloc (.cells #[.int .i64 b.sorts, .slice Aba b.ops.length cba] 31)).alloc (.cells #[.slice Ama m.sorts.length cma, .slice Amb m.ops.length cmb] 33)).alloc (.cells #[.slice Aea e.vars.length cea, .slice Aeb e.left.length ceb, .slice Aec e.right.length cec] 54)) (.cells #[.slice none 0 0, .slice none 0 0, .slice none 0 0] 54)) (bx_at (((w.alloc (.cells #[.int .i64 a.sorts, .slice Aaa a.ops.length caa] 31)).alloc (.cells #[.int .i64 b.sorts, .slice Aba b.ops.length cba] 31)).alloc (.cells #[.slice Ama m.sorts.length cma, .slice Amb m.ops.length cmb] 33)) #[.slice Aea e.vars.length cea, .slice Aeb e.left.length ceb, .slice Aec e.right.length cec] 54 (k := 0) rfl)
  have e1 := cell_keep (below_alloc ((((w.alloc (.cells #[.int .i64 a.sorts, .slice Aaa a.ops.length caa] 31)).alloc (.cells #[.int .i64 b.sorts, .slice Aba b.ops.length cba] 31)).alloc (.cells #[.slice Ama m.sorts.length cma, .slice Amb m.ops.length cmb] 33)).alloc (.cells #[.slice Aea e.vars.length cea, .slice Aeb e.left.length ceb, .slice Aec e.right.length cec] 54)) (.cells #[.slice none 0 0, .slice none 0 0, .slice none 0 0] 54)) (bx_at (((w.alloc (.cells #[.int .i64 a.sorts, .slice Aaa a.ops.length caa] 31)).alloc (.cells #[.int .i64 b.sorts, .slice Aba b.ops.length cba] 31)).alloc (.cells #[.slice Ama m.sorts.length cma, .slice Amb m.ops.length cmb] 33)) #[.slice Aea e.vars.length cea, .slice Aeb e.left.length ceb, .slice Aec e.right.length cec] 54 (k := 1) rfl)
  have e2 := cell_keep (below_alloc ((((w.alloc (.cells #[.int .i64 a.sorts, .slice Aaa a.ops.length caa] 31)).alloc (.cells #[.int .i64 b.sorts, .slice Aba b.ops.length cba] 31)).alloc (.cells #[.slice Ama m.sorts.length cma, .slice Amb m.ops.length cmb] 33)).alloc (.cells #[.slice Aea e.vars.length cea, .slice Aeb e.left.length ceb, .slice Aec e.right.length cec] 54)) (.cells #[.slice none 0 0, .slice none 0 0, .slice none 0 0] 54)) (bx_at (((w.alloc (.cells #[.int .i64 a.sorts, .slice Aaa a.ops.length caa] 31)).alloc (.cells #[.int .i64 b.sorts, .slice Aba b.ops.length cba] 31)).alloc (.cells #[.slice Ama m.sorts.length cma, .slice Amb m.ops.length cmb] 33)) #[.slice Aea e.vars.length cea, .slice Aeb e.left.length ceb, .slice Aec e.right.length cec] 54 (k := 2) rfl)
  have HZr := Lib.hid (show (((((w.alloc (.cells #[.int .i64 a.sorts, .slice Aaa a.ops.length caa] 31)).alloc (.cells #[.int .i64 b.sorts, .slice Aba b.ops.length cba] 31)).alloc (.cells #[.slice Ama m.sorts.length cma, .slice Amb m.ops.length cmb] 33)).alloc (.cells #[.slice Aea e.vars.length cea, .slice Aeb e.left.length ceb, .slice Aec e.right.length cec] 54)).alloc (.cells #[.slice none 0 0, .slice none 0 0, .slice none 0 0] 54)).heap[w.heap.size + 1 + 1 + 1 + 1]? = some (.cells #[.slice none 0 0, .slice none 0 0, .slice none 0 0] 54 (0, 0)) from (congrArg (fun i => (((((w.alloc (.cells #[.int .i64 a.sorts, .slice Aaa a.ops.length caa] 31)).alloc (.cells #[.int .i64 b.sorts, .slice Aba b.ops.length cba] 31)).alloc (.cells #[.slice Ama m.sorts.length cma, .slice Amb m.ops.length cmb] 33)).alloc (.cells #[.slice Aea e.vars.length cea, .slice Aeb e.left.length ceb, .slice Aec e.right.length cec] 54)).alloc (.cells #[.slice none 0 0, .slice none 0 0, .slice none 0 0] 54)).heap[i]?) (by simp)).trans (heap_alloc_new ((((w.alloc (.cells #[.int .i64 a.sorts, .slice Aaa a.ops.length caa] 31)).alloc (.cells #[.int .i64 b.sorts, .slice Aba b.ops.length cba] 31)).alloc (.cells #[.slice Ama m.sorts.length cma, .slice Amb m.ops.length cmb] 33)).alloc (.cells #[.slice Aea e.vars.length cea, .slice Aeb e.left.length ceb, .slice Aec e.right.length cec] 54)) _))
  simp only [World.size_alloc] at b0 b1 m0 m1 e0 e1 e2
  generalize hW : ((((w.alloc (.cells #[.int .i64 a.sorts, .slice Aaa a.ops.length caa] 31)).alloc (.cells #[.int .i64 b.sorts, .slice Aba b.ops.length cba] 31)).alloc (.cells #[.slice Ama m.sorts.length cma, .slice Amb m.ops.length cmb] 33)).alloc (.cells #[.slice Aea e.vars.length cea, .slice Aeb e.left.length ceb, .slice Aec e.right.length cec] 54)).alloc (.cells #[.slice none 0 0, .slice none 0 0, .slice none 0 0] 54) = W at HB hsz Ha a0 a1 Hb b0 b1 Hm m0 m1 He e0 e1 e2 HZr
  clear hb h1 h2 h3 h4
  cases hm : mapOkB a b m with
  | false =>
    have HM := Lib.hid hm
    have HE := Lib.hid (show mapEqM a b m e = (noEq, false) by unfold mapEqM; rw [hm]; rfl)
    clear hm
    go_enter Try.func31, Try.ntmps31
    go_wp2_with fail
    clear hW
    refine (specMapOk_any a b m _ _ _ _ Ha.out Hb.out Hm.out).mono ?_
    rw [HM.out]
    rintro e w1 ⟨rfl, hb⟩
    replace HB := Lib.hid (sz_keep HB.out hb)
    replace HZr := Lib.hid (blk_keep HZr.out hb)
    clear hb
    clear a0 a1 b0 b1 m0 m1 e0 e1 e2
    have j0 := blk_cell HZr.out 0
    have j1 := blk_cell HZr.out 1
    have j2 := blk_cell HZr.out 2
    have jf0 := blk_free HZr.out 0
    have jf1 := blk_free HZr.out 1
    have jf2 := blk_free HZr.out 2
    simp at j0 j1 j2
    go_wp2
    have d1 := blk_set (blk_set (blk_set (HZr.out) 0 (.slice none 0 0)) 1 (.slice none 0 0)) 2 (.slice none 0 0)
    have hbz := (((HB.out.setCell (p := ⟨w.heap.size + 1 + 1 + 1 + 1, 0, none⟩) (by show w.heap.size ≤ w.heap.size + 1 + 1 + 1 + 1; omega) (.slice none 0 0)).setCell (p := ⟨w.heap.size + 1 + 1 + 1 + 1, 1, none⟩) (by show w.heap.size ≤ w.heap.size + 1 + 1 + 1 + 1; omega) (.slice none 0 0)).setCell (p := ⟨w.heap.size + 1 + 1 + 1 + 1, 2, none⟩) (by show w.heap.size ≤ w.heap.size + 1 + 1 + 1 + 1; omega) (.slice none 0 0))
    generalize ((w1.setCell ⟨w.heap.size + 1 + 1 + 1 + 1, 0, none⟩ (.slice none 0 0)).setCell ⟨w.heap.size + 1 + 1 + 1 + 1, 1, none⟩ (.slice none 0 0)).setCell ⟨w.heap.size + 1 + 1 + 1 + 1, 2, none⟩ (.slice none 0 0) = wz at d1 hbz  ⊢
    have k0 := blk_cell d1 0
    have k1 := blk_cell d1 1
    have k2 := blk_cell d1 2
    simp at k0 k1 k2
    clear j0 j1 j2 jf0 jf1 jf2
    refine bodyPost_ret (v := .tuple #[.agg #[.slice none 0 0, .slice none 0 0, .slice none 0 0], .bool false]) (by simp [results, Try.results31, go_sem, k0, k1, k2]) rfl ?_
    exact ⟨_, by rw [HE.out], by rw [HE.out]; exact nil_eq _ _, hbz⟩
  | true =>
    have HM := Lib.hid hm
    clear hm
    cases he : eqOkB a e with
    | false =>
      have HN := Lib.hid he
      have HE := Lib.hid (show mapEqM a b m e = (noEq, false) by unfold mapEqM; rw [he, Bool.and_false]; rfl)
      clear he
      go_enter Try.func31, Try.ntmps31
      go_wp2_with fail
      clear hW
      refine (specMapOk_any a b m _ _ _ _ Ha.out Hb.out Hm.out).mono ?_
      rw [HM.out]
      rintro e w1 ⟨rfl, hb⟩
      clear b0 b1 m0 m1
      replace HB := Lib.hid (sz_keep HB.out hb)
      replace a0 := cell_keep hb a0
      replace a1 := cell_keep hb a1
      replace e0 := cell_keep hb e0
      replace e1 := cell_keep hb e1
      replace e2 := cell_keep hb e2
      replace Ha := Lib.hid (Ha.out.keep hb)
      replace He := Lib.hid (He.out.keep hb)
      replace HZr := Lib.hid (blk_keep HZr.out hb)
      clear hb
      go_wp2_with fail
      refine (specEqOk_any a e _ _ _ Ha.out He.out).mono ?_
      rw [HN.out]
      rintro e w2 ⟨rfl, hb⟩
      replace HB := Lib.hid (sz_keep HB.out hb)
      replace HZr := Lib.hid (blk_keep HZr.out hb)
      clear hb
      clear a0 a1 e0 e1 e2
      have j0 := blk_cell HZr.out 0
      have j1 := blk_cell HZr.out 1
      have j2 := blk_cell HZr.out 2
      have jf0 := blk_free HZr.out 0
      have jf1 := blk_free HZr.out 1
      have jf2 := blk_free HZr.out 2
      simp at j0 j1 j2
      go_wp2
      have d1 := blk_set (blk_set (blk_set (HZr.out) 0 (.slice none 0 0)) 1 (.slice none 0 0)) 2 (.slice none 0 0)
      have hbz := (((HB.out.setCell (p := ⟨w.heap.size + 1 + 1 + 1 + 1, 0, none⟩) (by show w.heap.size ≤ w.heap.size + 1 + 1 + 1 + 1; omega) (.slice none 0 0)).setCell (p := ⟨w.heap.size + 1 + 1 + 1 + 1, 1, none⟩) (by show w.heap.size ≤ w.heap.size + 1 + 1 + 1 + 1; omega) (.slice none 0 0)).setCell (p := ⟨w.heap.size + 1 + 1 + 1 + 1, 2, none⟩) (by show w.heap.size ≤ w.heap.size + 1 + 1 + 1 + 1; omega) (.slice none 0 0))
      generalize ((w2.setCell ⟨w.heap.size + 1 + 1 + 1 + 1, 0, none⟩ (.slice none 0 0)).setCell ⟨w.heap.size + 1 + 1 + 1 + 1, 1, none⟩ (.slice none 0 0)).setCell ⟨w.heap.size + 1 + 1 + 1 + 1, 2, none⟩ (.slice none 0 0) = wz at d1 hbz  ⊢
      have k0 := blk_cell d1 0
      have k1 := blk_cell d1 1
      have k2 := blk_cell d1 2
      simp at k0 k1 k2
      clear j0 j1 j2 jf0 jf1 jf2
      refine bodyPost_ret (v := .tuple #[.agg #[.slice none 0 0, .slice none 0 0, .slice none 0 0], .bool false]) (by simp [results, Try.results31, go_sem, k0, k1, k2]) rfl ?_
      exact ⟨_, by rw [HE.out], by rw [HE.out]; exact nil_eq _ _, hbz⟩
    | true =>
      have HN := Lib.hid he
      have HE := Lib.hid (show mapEqM a b m e = (ledE m e, true) by unfold mapEqM; rw [HM.out, he]; rfl)
      have HIN := Lib.hid (eqIn_of (mapOk_facts HM.out) he)
      clear he
      go_enter Try.func31, Try.ntmps31
      go_wp2_with fail
      clear hW
      refine (specMapOk_any a b m _ _ _ _ Ha.out Hb.out Hm.out).mono ?_
      rw [HM.out]
      rintro e w1 ⟨rfl, hb⟩
      clear b0 b1
      replace HB := Lib.hid (sz_keep HB.out hb)
      replace a0 := cell_keep hb a0
      replace a1 := cell_keep hb a1
      replace m0 := cell_keep hb m0
      replace m1 := cell_keep hb m1
      replace e0 := cell_keep hb e0
      replace e1 := cell_keep hb e1
      replace e2 := cell_keep hb e2
      replace Ha := Lib.hid (Ha.out.keep hb)
      replace Hm := Lib.hid (Hm.out.keep hb)
      replace He := Lib.hid (He.out.keep hb)
      replace HZr := Lib.hid (blk_keep HZr.out hb)
      clear hb
      go_wp2_with fail
      refine (specEqOk_any a e _ _ _ Ha.out He.out).mono ?_
      rw [HN.out]
      rintro e w2 ⟨rfl, hb⟩
      clear a0 a1
      replace HB := Lib.hid (sz_keep HB.out hb)
      replace m0 := cell_keep hb m0
      replace m1 := cell_keep hb m1
      replace e0 := cell_keep hb e0
      replace e1 := cell_keep hb e1
      replace e2 := cell_keep hb e2
      replace Hm := Lib.hid (Hm.out.keep hb)
      replace He := Lib.hid (He.out.keep hb)
      replace HZr := Lib.hid (blk_keep HZr.out hb)
      clear hb
      have hv1 := HIN.out.vl
      have hv2 := HIN.out.ll
      have hv3 := HIN.out.rl
      go_wp2_with fail
      refine wp_region_held_drew (S := (fun w' => w'.cell? ⟨w.heap.size + 1 + 1, 0, none⟩ = some (.slice Ama m.sorts.length cma) ∧ w'.cell? ⟨w.heap.size + 1 + 1, 1, none⟩ = some (.slice Amb m.ops.length cmb) ∧ w'.cell? ⟨w.heap.size + 1 + 1 + 1, 0, none⟩ = some (.slice Aea e.vars.length cea) ∧ w'.cell? ⟨w.heap.size + 1 + 1 + 1, 1, none⟩ = some (.slice Aeb e.left.length ceb) ∧ w'.cell? ⟨w.heap.size + 1 + 1 + 1, 2, none⟩ = some (.slice Aec e.right.length cec))) (by kernel_rfl) ?_ (fun hHeld => ?_)
      · exact ⟨m0, m1, e0, e1, e2⟩
      refine wpAnyH_take (i := 0) (oi := _) (v := ?_) rfl (by kernel_rfl) (by kernel_rfl) (by kernel_rfl) (fun _ _ _ h => h) (Or.inl ⟨by rfl, ?_⟩) (by assumption) ?_
      rotate_left
      · first | (intro w' hSw; (try dsimp only at hSw); go_simp; done) | (intro w' hSw; (try dsimp only at hSw); go_simp; with_reducible rfl)
      try simp only [Act.put, List.getElem_toArray, List.getElem_cons_zero, List.getElem_cons_succ, List.setIfInBounds_toArray, List.set_cons_zero, List.set_cons_succ]
      refine wpAnyH_take (i := 1) (oi := _) (v := ?_) rfl (by kernel_rfl) (by kernel_rfl) (by kernel_rfl) (fun _ _ _ h => h) (Or.inl ⟨by rfl, ?_⟩) (by assumption) ?_
      rotate_left
      · first | (intro w' hSw; (try dsimp only at hSw); go_simp; done) | (intro w' hSw; (try dsimp only at hSw); go_simp; with_reducible rfl)
      try simp only [Act.put, List.getElem_toArray, List.getElem_cons_zero, List.getElem_cons_succ, List.setIfInBounds_toArray, List.set_cons_zero, List.set_cons_succ]
      refine wpAnyH_take (i := 2) (oi := _) (v := ?_) rfl (by kernel_rfl) (by kernel_rfl) (by kernel_rfl) (fun _ _ _ h => h) (Or.inl ⟨by rfl, ?_⟩) (by assumption) ?_
      rotate_left
      · first | (intro w' hSw; (try dsimp only at hSw); go_simp; done) | (intro w' hSw; (try dsimp only at hSw); go_simp; with_reducible rfl)
      try simp only [Act.put, List.getElem_toArray, List.getElem_cons_zero, List.getElem_cons_succ, List.setIfInBounds_toArray, List.set_cons_zero, List.set_cons_succ]
      refine wpAnyH_take (i := 4) (oi := _) (v := ?_) rfl (by kernel_rfl) (by kernel_rfl) (by kernel_rfl) (fun _ _ _ h => h) (Or.inl ⟨by rfl, ?_⟩) (by assumption) ?_
      rotate_left
      · first | (intro w' hSw; (try dsimp only at hSw); go_simp; done) | (intro w' hSw; (try dsimp only at hSw); go_simp; with_reducible rfl)
      try simp only [Act.put, List.getElem_toArray, List.getElem_cons_zero, List.getElem_cons_succ, List.setIfInBounds_toArray, List.set_cons_zero, List.set_cons_succ]
      refine wpAnyH_take (i := 5) (oi := _) (v := ?_) rfl (by kernel_rfl) (by kernel_rfl) (by kernel_rfl) (fun _ _ _ h => h) (Or.inl ⟨by rfl, ?_⟩) (by assumption) ?_
      rotate_left
      · first | (intro w' hSw; (try dsimp only at hSw); go_simp; done) | (intro w' hSw; (try dsimp only at hSw); go_simp; with_reducible rfl)
      try simp only [Act.put, List.getElem_toArray, List.getElem_cons_zero, List.getElem_cons_succ, List.setIfInBounds_toArray, List.set_cons_zero, List.set_cons_succ]
      refine wpAnyH_take (i := 6) (oi := _) (v := ?_) rfl (by kernel_rfl) (by kernel_rfl) (by kernel_rfl) (fun _ _ _ h => h) (Or.inl ⟨by rfl, ?_⟩) (by assumption) ?_
      rotate_left
      · first | (intro w' hSw; (try dsimp only at hSw); go_simp; done) | (intro w' hSw; (try dsimp only at hSw); go_simp; with_reducible rfl)
      try simp only [Act.put, List.getElem_toArray, List.getElem_cons_zero, List.getElem_cons_succ, List.setIfInBounds_toArray, List.set_cons_zero, List.set_cons_succ]
      refine wpAnyH_take (i := 8) (oi := _) (v := ?_) rfl (by kernel_rfl) (by kernel_rfl) (by kernel_rfl) (fun _ _ _ h => h) (Or.inl ⟨by rfl, ?_⟩) (by assumption) ?_
      rotate_left
      · first | (intro w' hSw; (try dsimp only at hSw); go_simp; done) | (intro w' hSw; (try dsimp only at hSw); go_simp; with_reducible rfl)
      try simp only [Act.put, List.getElem_toArray, List.getElem_cons_zero, List.getElem_cons_succ, List.setIfInBounds_toArray, List.set_cons_zero, List.set_cons_succ]
      refine wpAnyH_take (i := 9) (oi := _) (v := ?_) rfl (by kernel_rfl) (by kernel_rfl) (by kernel_rfl) (fun _ _ _ h => h) (Or.inl ⟨by rfl, ?_⟩) (by assumption) ?_
      rotate_left
      · first | (intro w' hSw; (try dsimp only at hSw); go_simp; done) | (intro w' hSw; (try dsimp only at hSw); go_simp; with_reducible rfl)
      try simp only [Act.put, List.getElem_toArray, List.getElem_cons_zero, List.getElem_cons_succ, List.setIfInBounds_toArray, List.set_cons_zero, List.set_cons_succ]
      refine wpAnyH_take (i := 10) (oi := _) (v := ?_) rfl (by kernel_rfl) (by kernel_rfl) (by kernel_rfl) (fun _ _ _ h => h) (Or.inl ⟨by rfl, ?_⟩) (by assumption) ?_
      rotate_left
      · first | (intro w' hSw; (try dsimp only at hSw); go_simp; done) | (intro w' hSw; (try dsimp only at hSw); go_simp; with_reducible rfl)
      try simp only [Act.put, List.getElem_toArray, List.getElem_cons_zero, List.getElem_cons_succ, List.setIfInBounds_toArray, List.set_cons_zero, List.set_cons_succ]
      refine wpAnyH_ready (rs := [3]) (by kernel_rfl) (by simp) ?_
      refine AllReadyH.cons (o := _) rfl (fun K hK => ?_) AllReadyH.nil
      go_simp
      refine (l4Row_any _ _ e.vars m w2.drew (Hm.out.keep (map_drew (Below.refl _ _))) (He.out.of.1.keep (map_drew (Below.refl _ _))) (fun x hx => HIN.out.vi x hx (HIN.out.vs x hx)) (by omega)).mono ?_
      rw [rowLed_led HIN.out.vs]
      rintro e w3 ⟨u3, rfl, ho3, hb3⟩
      have hx3 := map_undrew hb3
      obtain ⟨A3, c3, rfl, -⟩ := ho3.reads.form
      have O3_w3 := Lib.hid (show OInts w3 w2.heap.size _ _ from ho3)
      have HX3 := Lib.hid (hx3)
      have p0 := cell_keep hx3 m0
      have p1 := cell_keep hx3 m1
      have p2 := cell_keep hx3 e0
      have p3 := cell_keep hx3 e1
      have p4 := cell_keep hx3 e2
      have HQ3 := Lib.hid hx3
      clear ho3 hb3
      go_wp2_with fail
      refine hK.out _ _ ?_ (fun hHeld => ?_)
      · exact ⟨p0, p1, p2, p3, p4⟩
      clear hK K
      try simp only [Act.put, List.getElem_toArray, List.getElem_cons_zero, List.getElem_cons_succ, List.setIfInBounds_toArray, List.set_cons_zero, List.set_cons_succ]
      refine wpAnyH_ready (rs := [7]) (by kernel_rfl) (by simp) ?_
      refine AllReadyH.cons (o := _) rfl (fun K hK => ?_) AllReadyH.nil
      go_simp
      refine (l4Term_any _ _ e.left m w3 (Hm.out.keep HX3.out) (He.out.of.2.1.keep HX3.out) HIN.out.li (by omega)).mono ?_
      rintro e w4 ⟨u4, rfl, ho4, hb4⟩
      have hx4 := hb4
      obtain ⟨A4, c4, rfl, -⟩ := ho4.reads.form
      have AP3_4 := Lib.hid (apart_later O3_w3.out ho4)
      have O3_w4 := Lib.hid (O3_w3.out.keep hx4)
      have O4_w4 := Lib.hid (show OInts w4 w3.heap.size _ _ from ho4)
      have HX4 := Lib.hid (sz_keep HX3.out hx4)
      have q0 := cell_keep hx4 p0
      have q1 := cell_keep hx4 p1
      have q2 := cell_keep hx4 p2
      have q3 := cell_keep hx4 p3
      have q4 := cell_keep hx4 p4
      have HQ4 := Lib.hid hx4
      clear ho4 hb4 hx4
      go_wp2_with fail
      refine hK.out _ _ ?_ (fun hHeld => ?_)
      · exact ⟨q0, q1, q2, q3, q4⟩
      clear hK K
      try simp only [Act.put, List.getElem_toArray, List.getElem_cons_zero, List.getElem_cons_succ, List.setIfInBounds_toArray, List.set_cons_zero, List.set_cons_succ]
      refine wpAnyH_ready (rs := [11]) (by kernel_rfl) (by simp) ?_
      refine AllReadyH.cons (o := _) rfl (fun K hK => ?_) AllReadyH.nil
      go_simp
      refine (l4Term_any _ _ e.right m w4 (Hm.out.keep HX4.out) (He.out.of.2.2.keep HX4.out) HIN.out.ri (by omega)).mono ?_
      rintro e w5 ⟨u5, rfl, ho5, hb5⟩
      have hx5 := hb5
      obtain ⟨A5, c5, rfl, -⟩ := ho5.reads.form
      have AP3_5 := Lib.hid (apart_later O3_w4.out ho5)
      have O3_w5 := Lib.hid (O3_w4.out.keep hx5)
      have AP4_5 := Lib.hid (apart_later O4_w4.out ho5)
      have O4_w5 := Lib.hid (O4_w4.out.keep hx5)
      have O5_w5 := Lib.hid (show OInts w5 w4.heap.size _ _ from ho5)
      have HX5 := Lib.hid (sz_keep HX4.out hx5)
      have t0 := cell_keep hx5 q0
      have t1 := cell_keep hx5 q1
      have t2 := cell_keep hx5 q2
      have t3 := cell_keep hx5 q3
      have t4 := cell_keep hx5 q4
      have HQ5 := Lib.hid hx5
      have HZ5 := Lib.hid (blk_keep HZr.out HX5.out)
      have HSZ := Lib.hid (And.intro HB.out.size (And.intro HX3.out.size (And.intro HQ4.out.size HQ5.out.size)))
      have HBN := Lib.hid (sz_keep HB.out HX5.out)
      have j0 := blk_cell HZ5.out 0
      have j1 := blk_cell HZ5.out 1
      have j2 := blk_cell HZ5.out 2
      have jf0 := blk_free HZ5.out 0
      have jf1 := blk_free HZ5.out 1
      have jf2 := blk_free HZ5.out 2
      simp at j0 j1 j2
      clear ho5 hb5 hx5
      go_wp2_with fail
      refine hK.out _ _ ?_ (fun hHeld => ?_)
      · exact ⟨t0, t1, t2, t3, t4⟩
      clear hK K
      try simp only [Act.put, List.getElem_toArray, List.getElem_cons_zero, List.getElem_cons_succ, List.setIfInBounds_toArray, List.set_cons_zero, List.set_cons_succ]
      refine wpAnyH_take (i := 12) (oi := _) (v := ?_) rfl (by kernel_rfl) (by kernel_rfl) (by kernel_rfl) (fun _ _ _ h => h) (Or.inl ⟨by rfl, ?_⟩) (by assumption) ?_
      rotate_left
      · first | (intro w' hSw; (try dsimp only at hSw); go_simp; done) | (intro w' hSw; (try dsimp only at hSw); go_simp; with_reducible rfl)
      try simp only [Act.put, List.getElem_toArray, List.getElem_cons_zero, List.getElem_cons_succ, List.setIfInBounds_toArray, List.set_cons_zero, List.set_cons_succ]
      refine wpAnyH_ready (rs := [13]) (by kernel_rfl) (by simp) ?_
      refine AllReadyH.cons (o := _) rfl (fun K hK => ?_) AllReadyH.nil
      go_simp
      skip
      go_wp2_with fail
      refine hK.out _ _ ?_ (fun hHeld => ?_)
      · exact ⟨(set_other (by omega) _ _ _).trans ((set_other (by omega) _ _ _).trans ((set_other (by omega) _ _ _).trans t0)), (set_other (by omega) _ _ _).trans ((set_other (by omega) _ _ _).trans ((set_other (by omega) _ _ _).trans t1)), (set_other (by omega) _ _ _).trans ((set_other (by omega) _ _ _).trans ((set_other (by omega) _ _ _).trans t2)), (set_other (by omega) _ _ _).trans ((set_other (by omega) _ _ _).trans ((set_other (by omega) _ _ _).trans t3)), (set_other (by omega) _ _ _).trans ((set_other (by omega) _ _ _).trans ((set_other (by omega) _ _ _).trans t4))⟩
      clear hK K
      try simp only [Act.put, List.getElem_toArray, List.getElem_cons_zero, List.getElem_cons_succ, List.setIfInBounds_toArray, List.set_cons_zero, List.set_cons_succ]
      refine wpAnyH_take (i := 14) (oi := _) (v := ?_) rfl (by kernel_rfl) (by kernel_rfl) (by kernel_rfl) (fun _ _ _ h => h) (Or.inl ⟨by rfl, ?_⟩) (by assumption) ?_
      rotate_left
      · first | (intro w' hSw; (try dsimp only at hSw); go_simp; done) | (intro w' hSw; (try dsimp only at hSw); go_simp; with_reducible rfl)
      try simp only [Act.put, List.getElem_toArray, List.getElem_cons_zero, List.getElem_cons_succ, List.setIfInBounds_toArray, List.set_cons_zero, List.set_cons_succ]
      refine wpAnyH_done (by kernel_rfl) ?_ _
      clear m0 m1 e0 e1 e2 p0 p1 p2 p3 p4 q0 q1 q2 q3 q4 t0 t1 t2 t3 t4
      have hZ1 : w.heap.size + 1 + 1 + 1 + 1 < w2.heap.size := (Array.getElem?_eq_some_iff.1 HZr.out).1
      have hZ2 := HSZ.out
      replace HB := HBN
      go_wp2
      have d1 := blk_set (blk_set (blk_set (HZ5.out) 0 (.slice A3 (ledM m.sorts e.vars).length c3)) 1 (.slice A4 (ledM m.ops e.left).length c4)) 2 (.slice A5 (ledM m.ops e.right).length c5)
      have n0 := (((O3_w5.out.setLow (b := w.heap.size + 1 + 1 + 1 + 1) (by omega) 0 (.slice A3 (ledM m.sorts e.vars).length c3)).setLow (b := w.heap.size + 1 + 1 + 1 + 1) (by omega) 1 (.slice A4 (ledM m.ops e.left).length c4)).setLow (b := w.heap.size + 1 + 1 + 1 + 1) (by omega) 2 (.slice A5 (ledM m.ops e.right).length c5))
      have n1 := (((O4_w5.out.setLow (b := w.heap.size + 1 + 1 + 1 + 1) (by omega) 0 (.slice A3 (ledM m.sorts e.vars).length c3)).setLow (b := w.heap.size + 1 + 1 + 1 + 1) (by omega) 1 (.slice A4 (ledM m.ops e.left).length c4)).setLow (b := w.heap.size + 1 + 1 + 1 + 1) (by omega) 2 (.slice A5 (ledM m.ops e.right).length c5))
      have n2 := (((O5_w5.out.setLow (b := w.heap.size + 1 + 1 + 1 + 1) (by omega) 0 (.slice A3 (ledM m.sorts e.vars).length c3)).setLow (b := w.heap.size + 1 + 1 + 1 + 1) (by omega) 1 (.slice A4 (ledM m.ops e.left).length c4)).setLow (b := w.heap.size + 1 + 1 + 1 + 1) (by omega) 2 (.slice A5 (ledM m.ops e.right).length c5))
      have hbz := (((HB.out.setCell (p := ⟨w.heap.size + 1 + 1 + 1 + 1, 0, none⟩) (by show w.heap.size ≤ w.heap.size + 1 + 1 + 1 + 1; omega) (.slice A3 (ledM m.sorts e.vars).length c3)).setCell (p := ⟨w.heap.size + 1 + 1 + 1 + 1, 1, none⟩) (by show w.heap.size ≤ w.heap.size + 1 + 1 + 1 + 1; omega) (.slice A4 (ledM m.ops e.left).length c4)).setCell (p := ⟨w.heap.size + 1 + 1 + 1 + 1, 2, none⟩) (by show w.heap.size ≤ w.heap.size + 1 + 1 + 1 + 1; omega) (.slice A5 (ledM m.ops e.right).length c5))
      generalize ((w5.setCell ⟨w.heap.size + 1 + 1 + 1 + 1, 0, none⟩ (.slice A3 (ledM m.sorts e.vars).length c3)).setCell ⟨w.heap.size + 1 + 1 + 1 + 1, 1, none⟩ (.slice A4 (ledM m.ops e.left).length c4)).setCell ⟨w.heap.size + 1 + 1 + 1 + 1, 2, none⟩ (.slice A5 (ledM m.ops e.right).length c5) = wz at d1 hbz n0 n1 n2 ⊢
      have k0 := blk_cell d1 0
      have k1 := blk_cell d1 1
      have k2 := blk_cell d1 2
      simp at k0 k1 k2
      clear j0 j1 j2 jf0 jf1 jf2
      refine bodyPost_ret (v := .tuple #[.agg #[.slice A3 (ledM m.sorts e.vars).length c3, .slice A4 (ledM m.ops e.left).length c4, .slice A5 (ledM m.ops e.right).length c5], .bool true]) (by simp [results, Try.results31, go_sem, k0, k1, k2]) rfl ?_
      exact ⟨_, by rw [HE.out], by rw [HE.out]; exact ⟨_, _, _, rfl, n0.base (by omega), n1.base (by omega), n2.base (by omega), AP3_4.out, AP3_5.out, AP4_5.out⟩, hbz⟩
set_option maxHeartbeats 3200000 in
set_option maxRecDepth 100000 in
theorem specMapTerm_any (a b : MSig) (m : MMap) (vars t : List Int) (w : World) (va vb vm vv vt : Value) (h1 : RSig w va a) (h2 : RSig w vb b) (h3 : RMap w vm m) (h4 : RInts w vv vars) (h5 : RInts w vt t) :
    Calls Try.prog 24 #[va, vb, vm, vv, vt] w fun x w' => ∃ u v wm, x = .returned (.tuple #[u, v, .bool (mapTermM a b m vars t).2.2]) ∧ OInts wm w.heap.size u (mapTermM a b m vars t).1 ∧ w.heap.size ≤ wm.heap.size ∧ Below wm.heap.size wm w' ∧ OInts w' wm.heap.size v (mapTermM a b m vars t).2.1 ∧ Below w.heap.size w w' := by
  obtain ⟨Aaa, caa, rfl⟩ := h1.form
  obtain ⟨Aba, cba, rfl⟩ := h2.form
  obtain ⟨Ama, cma, Amb, cmb, rfl⟩ := h3.form
  have hb : Below w.heap.size w (((w.alloc (.cells #[.int .i64 a.sorts, .slice Aaa a.ops.length caa] 31)).alloc (.cells #[.int .i64 b.sorts, .slice Aba b.ops.length cba] 31)).alloc (.cells #[.slice Ama m.sorts.length cma, .slice Amb m.ops.length cmb] 33)) := ((below_alloc _ _).alloc (by simp) _).alloc (by simp; omega) _
  have HB := Lib.hid hb
  have hsz : (((w.alloc (.cells #[.int .i64 a.sorts, .slice Aaa a.ops.length caa] 31)).alloc (.cells #[.int .i64 b.sorts, .slice Aba b.ops.length cba] 31)).alloc (.cells #[.slice Ama m.sorts.length cma, .slice Amb m.ops.length cmb] 33)).heap.size = w.heap.size + 3 := by simp
  have Ha := Lib.hid (h1.keep hb)
  have a0 := cell_keep (below_alloc ((w.alloc (.cells #[.int .i64 a.sorts, .slice Aaa a.ops.length caa] 31)).alloc (.cells #[.int .i64 b.sorts, .slice Aba b.ops.length cba] 31)) (.cells #[.slice Ama m.sorts.length cma, .slice Amb m.ops.length cmb] 33)) (cell_keep (below_alloc (w.alloc (.cells #[.int .i64 a.sorts, .slice Aaa a.ops.length caa] 31)) (.cells #[.int .i64 b.sorts, .slice Aba b.ops.length cba] 31)) (bx_at (w) #[.int .i64 a.sorts, .slice Aaa a.ops.length caa] 31 (k := 0) rfl))
  have a1 := cell_keep (below_alloc ((w.alloc (.cells #[.int .i64 a.sorts, .slice Aaa a.ops.length caa] 31)).alloc (.cells #[.int .i64 b.sorts, .slice Aba b.ops.length cba] 31)) (.cells #[.slice Ama m.sorts.length cma, .slice Amb m.ops.length cmb] 33)) (cell_keep (below_alloc (w.alloc (.cells #[.int .i64 a.sorts, .slice Aaa a.ops.length caa] 31)) (.cells #[.int .i64 b.sorts, .slice Aba b.ops.length cba] 31)) (bx_at (w) #[.int .i64 a.sorts, .slice Aaa a.ops.length caa] 31 (k := 1) rfl))
  have Hb := Lib.hid (h2.keep hb)
  have b0 := cell_keep (below_alloc ((w.alloc (.cells #[.int .i64 a.sorts, .slice Aaa a.ops.length caa] 31)).alloc (.cells #[.int .i64 b.sorts, .slice Aba b.ops.length cba] 31)) (.cells #[.slice Ama m.sorts.length cma, .slice Amb m.ops.length cmb] 33)) (bx_at (w.alloc (.cells #[.int .i64 a.sorts, .slice Aaa a.ops.length caa] 31)) #[.int .i64 b.sorts, .slice Aba b.ops.length cba] 31 (k := 0) rfl)
  have b1 := cell_keep (below_alloc ((w.alloc (.cells #[.int .i64 a.sorts, .slice Aaa a.ops.length caa] 31)).alloc (.cells #[.int .i64 b.sorts, .slice Aba b.ops.length cba] 31)) (.cells #[.slice Ama m.sorts.length cma, .slice Amb m.ops.length cmb] 33)) (bx_at (w.alloc (.cells #[.int .i64 a.sorts, .slice Aaa a.ops.length caa] 31)) #[.int .i64 b.sorts, .slice Aba b.ops.length cba] 31 (k := 1) rfl)
  have Hm := Lib.hid (h3.keep hb)
  have m0 := bx_at ((w.alloc (.cells #[.int .i64 a.sorts, .slice Aaa a.ops.length caa] 31)).alloc (.cells #[.int .i64 b.sorts, .slice Aba b.ops.length cba] 31)) #[.slice Ama m.sorts.length cma, .slice Amb m.ops.length cmb] 33 (k := 0) rfl
  have m1 := bx_at ((w.alloc (.cells #[.int .i64 a.sorts, .slice Aaa a.ops.length caa] 31)).alloc (.cells #[.int .i64 b.sorts, .slice Aba b.ops.length cba] 31)) #[.slice Ama m.sorts.length cma, .slice Amb m.ops.length cmb] 33 (k := 1) rfl
  simp only [World.size_alloc] at b0 b1 m0 m1
  generalize hW : ((w.alloc (.cells #[.int .i64 a.sorts, .slice Aaa a.ops.length caa] 31)).alloc (.cells #[.int .i64 b.sorts, .slice Aba b.ops.length cba] 31)).alloc (.cells #[.slice Ama m.sorts.length cma, .slice Amb m.ops.length cmb] 33) = W at HB hsz Ha a0 a1 Hb b0 b1 Hm m0 m1
  clear hb h1 h2 h3
  have HV := Lib.hid (h4.keep HB.out)
  have HT := Lib.hid (h5.keep HB.out)
  have hl1 := Hm.out.of.1.len
  have hl2 := Hm.out.of.2.len
  have hl3 := h4.len
  have hl4 := h5.len
  obtain ⟨Av, cv, rfl, -⟩ := h4.form
  obtain ⟨At, ct, rfl, -⟩ := h5.form
  clear h4 h5
  cases hm : mapOkB a b m with
  | false =>
    have HM := Lib.hid hm
    have HE := Lib.hid (show mapTermM a b m vars t = ([], [], false) by unfold mapTermM; rw [hm]; rfl)
    clear hm
    go_enter Try.func24, Try.ntmps24
    go_wp2_with fail
    clear hW
    refine (specMapOk_any a b m _ _ _ _ Ha.out Hb.out Hm.out).mono ?_
    rw [HM.out]
    rintro e w1 ⟨rfl, hb⟩
    replace HB := Lib.hid (sz_keep HB.out hb)
    clear hb
    clear a0 a1 b0 b1 m0 m1
    go_wp2
    refine bodyPost_ret (v := .tuple #[.slice (some ⟨w1.heap.size, 0, none⟩) 0 0, .slice (some ⟨w1.heap.size + 1, 0, none⟩) 0 0, .bool false]) (by simp [results, Try.results24, go_sem]) rfl ?_
    refine ⟨_, _, w1.alloc (.cells #[] 3), by rw [HE.out], by rw [HE.out]; exact (own_empty _).base HB.out.size, ?_, below_alloc _ _, by rw [HE.out]; exact (own_empty_at _ (by simp)).base (by simp), ?_⟩
    · have := HB.out.size; simp; omega
    · exact (HB.out.alloc HB.out.size _).alloc (by have := HB.out.size; simp; omega) _
  | true =>
    have HM := Lib.hid hm
    clear hm
    obtain ⟨q, hq⟩ : ∃ q, sortM a vars t = q := ⟨_, rfl⟩
    have HQ := Lib.hid hq
    by_cases h0 : q < 0
    · have HE := Lib.hid (show mapTermM a b m vars t = ([], [], false) by unfold mapTermM; rw [hq, decide_eq_false (by omega), Bool.and_false]; rfl)
      clear hq
      go_enter Try.func24, Try.ntmps24
      go_wp2_with fail
      clear hW
      refine (specMapOk_any a b m _ _ _ _ Ha.out Hb.out Hm.out).mono ?_
      rw [HM.out]
      rintro e w1 ⟨rfl, hb⟩
      clear b0 b1 m0 m1
      replace HB := Lib.hid (sz_keep HB.out hb)
      replace a0 := cell_keep hb a0
      replace a1 := cell_keep hb a1
      replace Ha := Lib.hid (Ha.out.keep hb)
      replace HV := Lib.hid (HV.out.keep hb)
      replace HT := Lib.hid (HT.out.keep hb)
      clear hb
      go_wp2_with fail
      refine (specTermSort_any a vars t _ _ _ _ Ha.out HV.out HT.out).mono ?_
      rw [HQ.out]
      rintro e w2 ⟨rfl, hb⟩
      replace HB := Lib.hid (sz_keep HB.out hb)
      clear hb
      clear a0 a1
      go_wp2
      refine bodyPost_ret (v := .tuple #[.slice (some ⟨w2.heap.size, 0, none⟩) 0 0, .slice (some ⟨w2.heap.size + 1, 0, none⟩) 0 0, .bool false]) (by simp [results, Try.results24, go_sem]) rfl ?_
      refine ⟨_, _, w2.alloc (.cells #[] 3), by rw [HE.out], by rw [HE.out]; exact (own_empty _).base HB.out.size, ?_, below_alloc _ _, by rw [HE.out]; exact (own_empty_at _ (by simp)).base (by simp), ?_⟩
      · have := HB.out.size; simp; omega
      · exact (HB.out.alloc HB.out.size _).alloc (by have := HB.out.size; simp; omega) _
    · have HE := Lib.hid (show mapTermM a b m vars t = (ledM m.sorts vars, ledM m.ops t, true) by unfold mapTermM; rw [hq, decide_eq_true (by omega), HM.out]; rfl)
      have HIN := Lib.hid (term_in (mapOk_facts HM.out) (show 0 ≤ sortM a vars t by omega))
      have hlt := HIN.out.2.1
      have hlv := HIN.out.2.2.2.1
      clear hq
      go_enter Try.func24, Try.ntmps24
      go_wp2_with fail
      clear hW
      refine (specMapOk_any a b m _ _ _ _ Ha.out Hb.out Hm.out).mono ?_
      rw [HM.out]
      rintro e w1 ⟨rfl, hb⟩
      clear b0 b1
      replace HB := Lib.hid (sz_keep HB.out hb)
      replace a0 := cell_keep hb a0
      replace a1 := cell_keep hb a1
      replace m0 := cell_keep hb m0
      replace m1 := cell_keep hb m1
      replace Ha := Lib.hid (Ha.out.keep hb)
      replace Hm := Lib.hid (Hm.out.keep hb)
      replace HV := Lib.hid (HV.out.keep hb)
      replace HT := Lib.hid (HT.out.keep hb)
      clear hb
      go_wp2_with fail
      refine (specTermSort_any a vars t _ _ _ _ Ha.out HV.out HT.out).mono ?_
      rw [HQ.out]
      rintro e w2 ⟨rfl, hb⟩
      clear a0 a1
      replace HB := Lib.hid (sz_keep HB.out hb)
      replace m0 := cell_keep hb m0
      replace m1 := cell_keep hb m1
      replace Hm := Lib.hid (Hm.out.keep hb)
      replace HV := Lib.hid (HV.out.keep hb)
      replace HT := Lib.hid (HT.out.keep hb)
      clear hb
      go_wp2_with fail
      refine wp_region_held_drew (S := (fun w' => w'.cell? ⟨w.heap.size + 1 + 1, 0, none⟩ = some (.slice Ama m.sorts.length cma) ∧ w'.cell? ⟨w.heap.size + 1 + 1, 1, none⟩ = some (.slice Amb m.ops.length cmb))) (by kernel_rfl) ?_ (fun hHeld => ?_)
      · exact ⟨m0, m1⟩
      refine wpAnyH_take (i := 0) (oi := _) (v := ?_) rfl (by kernel_rfl) (by kernel_rfl) (by kernel_rfl) (fun _ _ _ h => h) (Or.inl ⟨by rfl, ?_⟩) (by assumption) ?_
      rotate_left
      · first | (intro w' hSw; (try dsimp only at hSw); go_simp; done) | (intro w' hSw; (try dsimp only at hSw); go_simp; with_reducible rfl)
      try simp only [Act.put, List.getElem_toArray, List.getElem_cons_zero, List.getElem_cons_succ, List.setIfInBounds_toArray, List.set_cons_zero, List.set_cons_succ]
      refine wpAnyH_take (i := 1) (oi := _) (v := ?_) rfl (by kernel_rfl) (by kernel_rfl) (by kernel_rfl) (fun _ _ _ h => h) (Or.inl ⟨by rfl, ?_⟩) (by assumption) ?_
      rotate_left
      · first | (intro w' hSw; (try dsimp only at hSw); go_simp; done) | (intro w' hSw; (try dsimp only at hSw); go_simp; with_reducible rfl)
      try simp only [Act.put, List.getElem_toArray, List.getElem_cons_zero, List.getElem_cons_succ, List.setIfInBounds_toArray, List.set_cons_zero, List.set_cons_succ]
      refine wpAnyH_take (i := 3) (oi := _) (v := ?_) rfl (by kernel_rfl) (by kernel_rfl) (by kernel_rfl) (fun _ _ _ h => h) (Or.inl ⟨by rfl, ?_⟩) (by assumption) ?_
      rotate_left
      · first | (intro w' hSw; (try dsimp only at hSw); go_simp; done) | (intro w' hSw; (try dsimp only at hSw); go_simp; with_reducible rfl)
      try simp only [Act.put, List.getElem_toArray, List.getElem_cons_zero, List.getElem_cons_succ, List.setIfInBounds_toArray, List.set_cons_zero, List.set_cons_succ]
      refine wpAnyH_take (i := 4) (oi := _) (v := ?_) rfl (by kernel_rfl) (by kernel_rfl) (by kernel_rfl) (fun _ _ _ h => h) (Or.inl ⟨by rfl, ?_⟩) (by assumption) ?_
      rotate_left
      · first | (intro w' hSw; (try dsimp only at hSw); go_simp; done) | (intro w' hSw; (try dsimp only at hSw); go_simp; with_reducible rfl)
      try simp only [Act.put, List.getElem_toArray, List.getElem_cons_zero, List.getElem_cons_succ, List.setIfInBounds_toArray, List.set_cons_zero, List.set_cons_succ]
      refine wpAnyH_ready (rs := [2]) (by kernel_rfl) (by simp) ?_
      refine AllReadyH.cons (o := _) rfl (fun K hK => ?_) AllReadyH.nil
      go_simp
      refine (l4Row_any _ _ vars m w2.drew (Hm.out.keep (map_drew (Below.refl _ _))) (HV.out.keep (map_drew (Below.refl _ _))) (fun x hx => HIN.out.2.2.1 x hx (HIN.out.2.2.2.2 x hx)) (by omega)).mono ?_
      rw [rowLed_led HIN.out.2.2.2.2]
      rintro e w3 ⟨u3, rfl, ho3, hb3⟩
      have hx3 := map_undrew hb3
      obtain ⟨A3, c3, rfl, -⟩ := ho3.reads.form
      have O3_w3 := Lib.hid (show OInts w3 w2.heap.size _ _ from ho3)
      have HX3 := Lib.hid (hx3)
      have p0 := cell_keep hx3 m0
      have p1 := cell_keep hx3 m1
      have HQ3 := Lib.hid hx3
      clear ho3 hb3
      go_wp2_with fail
      refine hK.out _ _ ?_ (fun hHeld => ?_)
      · exact ⟨p0, p1⟩
      clear hK K
      try simp only [Act.put, List.getElem_toArray, List.getElem_cons_zero, List.getElem_cons_succ, List.setIfInBounds_toArray, List.set_cons_zero, List.set_cons_succ]
      refine wpAnyH_ready (rs := [5]) (by kernel_rfl) (by simp) ?_
      refine AllReadyH.cons (o := _) rfl (fun K hK => ?_) AllReadyH.nil
      go_simp
      refine (l4Term_any _ _ t m w3 (Hm.out.keep HX3.out) (HT.out.keep HX3.out) HIN.out.1 (by omega)).mono ?_
      rintro e w4 ⟨u4, rfl, ho4, hb4⟩
      have hx4 := hb4
      obtain ⟨A4, c4, rfl, -⟩ := ho4.reads.form
      have O4_w4 := Lib.hid (show OInts w4 w3.heap.size _ _ from ho4)
      have HX4 := Lib.hid (sz_keep HX3.out hx4)
      have t0 := cell_keep hx4 p0
      have t1 := cell_keep hx4 p1
      have HQ4 := Lib.hid hx4
      clear ho4 hb4 hx4
      go_wp2_with fail
      refine hK.out _ _ ?_ (fun hHeld => ?_)
      · exact ⟨t0, t1⟩
      clear hK K
      try simp only [Act.put, List.getElem_toArray, List.getElem_cons_zero, List.getElem_cons_succ, List.setIfInBounds_toArray, List.set_cons_zero, List.set_cons_succ]
      refine wpAnyH_take (i := 6) (oi := _) (v := ?_) rfl (by kernel_rfl) (by kernel_rfl) (by kernel_rfl) (fun _ _ _ h => h) (Or.inl ⟨by rfl, ?_⟩) (by assumption) ?_
      rotate_left
      · first | (intro w' hSw; (try dsimp only at hSw); go_simp; done) | (intro w' hSw; (try dsimp only at hSw); go_simp; with_reducible rfl)
      try simp only [Act.put, List.getElem_toArray, List.getElem_cons_zero, List.getElem_cons_succ, List.setIfInBounds_toArray, List.set_cons_zero, List.set_cons_succ]
      refine wpAnyH_take (i := 7) (oi := _) (v := ?_) rfl (by kernel_rfl) (by kernel_rfl) (by kernel_rfl) (fun _ _ _ h => h) (Or.inl ⟨by rfl, ?_⟩) (by assumption) ?_
      rotate_left
      · first | (intro w' hSw; (try dsimp only at hSw); go_simp; done) | (intro w' hSw; (try dsimp only at hSw); go_simp; with_reducible rfl)
      try simp only [Act.put, List.getElem_toArray, List.getElem_cons_zero, List.getElem_cons_succ, List.setIfInBounds_toArray, List.set_cons_zero, List.set_cons_succ]
      refine wpAnyH_take (i := 8) (oi := _) (v := ?_) rfl (by kernel_rfl) (by kernel_rfl) (by kernel_rfl) (fun _ _ _ h => h) (Or.inl ⟨by rfl, ?_⟩) (by assumption) ?_
      rotate_left
      · first | (intro w' hSw; (try dsimp only at hSw); go_simp; done) | (intro w' hSw; (try dsimp only at hSw); go_simp; with_reducible rfl)
      try simp only [Act.put, List.getElem_toArray, List.getElem_cons_zero, List.getElem_cons_succ, List.setIfInBounds_toArray, List.set_cons_zero, List.set_cons_succ]
      refine wpAnyH_done (by kernel_rfl) ?_ _
      clear m0 m1 p0 p1 t0 t1
      go_wp2
      refine bodyPost_ret (v := .tuple #[.slice A3 (ledM m.sorts vars).length c3, .slice A4 (ledM m.ops t).length c4, .bool true]) (by simp [results, Try.results24, go_sem]) rfl ?_
      exact ⟨_, _, w3, by rw [HE.out], by rw [HE.out]; exact O3_w3.out.base HB.out.size, by have := HB.out.size; have := HX3.out.size; omega, HQ4.out, by rw [HE.out]; exact O4_w4.out, sz_keep HB.out HX4.out⟩
end Go.Proofs.Ytonainidjkcoeaa
