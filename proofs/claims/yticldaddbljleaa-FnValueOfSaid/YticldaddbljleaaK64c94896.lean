/- MapSelf, MapTerm, MapEq of package spec. · MapSelf of package spec. · MapThen of package spec. -/
import Derived.Test.YticldaddbljleaaKd4fccf74
namespace Go.Proofs.Yticldaddbljleaa
section
open Go.RowKit
set_option linter.unusedVariables false
set_option linter.unusedSimpArgs false

theorem own_empty_at (w : World) {b : Nat} (hb : w.heap.size = b) : OInts (w.alloc (.cells #[] 3)) b (.slice (some ⟨b, 0, none⟩) 0 0) [] := by subst hb; exact own_empty w
set_option maxHeartbeats 3200000 in
set_option maxRecDepth 100000 in
theorem specMapEq_any (a b : MSig) (m : MMap) (e : MEq) (w : World) (va vb vm ve : Value) (h1 : RSig w va a) (h2 : RSig w vb b) (h3 : RMap w vm m) (h4 : REq w ve e) :
    Calls Try.prog 19 #[va, vb, vm, ve] w fun x w' => ∃ u, x = .returned (.tuple #[u, .bool (mapEqM a b m e).2]) ∧ OEq w' w.heap.size u (mapEqM a b m e).1 ∧ Below w.heap.size w w' := by
  obtain ⟨Aaa, caa, rfl⟩ := h1.form
  obtain ⟨Aba, cba, rfl⟩ := h2.form
  obtain ⟨Ama, cma, Amb, cmb, rfl⟩ := h3.form
  obtain ⟨Aea, cea, Aeb, ceb, Aec, cec, rfl⟩ := h4.form
  have hb : Below w.heap.size w (((((w.alloc (.cells #[.int .i64 a.sorts, .slice Aaa a.ops.length caa] 25)).alloc (.cells #[.int .i64 b.sorts, .slice Aba b.ops.length cba] 25)).alloc (.cells #[.slice Ama m.sorts.length cma, .slice Amb m.ops.length cmb] 39)).alloc (.cells #[.slice Aea e.vars.length cea, .slice Aeb e.left.length ceb, .slice Aec e.right.length cec] 41)).alloc (.cells #[.slice none 0 0, .slice none 0 0, .slice none 0 0] 41)) := ((((below_alloc _ _).alloc (by simp) _).alloc (by simp; omega) _).alloc (by simp; omega) _).alloc (by simp; omega) _
  have HB := Lib.hid hb
  have hsz : (((((w.alloc (.cells #[.int .i64 a.sorts, .slice Aaa a.ops.length caa] 25)).alloc (.cells #[.int .i64 b.sorts, .slice Aba b.ops.length cba] 25)).alloc (.cells #[.slice Ama m.sorts.length cma, .slice Amb m.ops.length cmb] 39)).alloc (.cells #[.slice Aea e.vars.length cea, .slice Aeb e.left.length ceb, .slice Aec e.right.length cec] 41)).alloc (.cells #[.slice none 0 0, .slice none 0 0, .slice none 0 0] 41)).heap.size = w.heap.size + 5 := by simp
  have Ha := Lib.hid (h1.keep hb)
  have a0 := cell_keep (below_alloc ((((w.alloc (.cells #[.int .i64 a.sorts, .slice Aaa a.ops.length caa] 25)).alloc (.cells #[.int .i64 b.sorts, .slice Aba b.ops.length cba] 25)).alloc (.cells #[.slice Ama m.sorts.length cma, .slice Amb m.ops.length cmb] 39)).alloc (.cells #[.slice Aea e.vars.length cea, .slice Aeb e.left.length ceb, .slice Aec e.right.length cec] 41)) (.cells #[.slice none 0 0, .slice none 0 0, .slice none 0 0] 41)) (cell_keep (below_alloc (((w.alloc (.cells #[.int .i64 a.sorts, .slice Aaa a.ops.length caa] 25)).alloc (.cells #[.int .i64 b.sorts, .slice Aba b.ops.length cba] 25)).alloc (.cells #[.slice Ama m.sorts.length cma, .slice Amb m.ops.length cmb] 39)) (.cells #[.slice Aea e.vars.length cea, .slice Aeb e.left.length ceb, .slice Aec e.right.length cec] 41)) (cell_keep (below_alloc ((w.alloc (.cells #[.int .i64 a.sorts, .slice Aaa a.ops.length caa] 25)).alloc (.cells #[.int .i64 b.sorts, .slice Aba b.ops.length cba] 25)) (.cells #[.slice Ama m.sorts.length cma, .slice Amb m.ops.length cmb] 39)) (cell_keep (below_alloc (w.alloc (.cells #[.int .i64 a.sorts, .slice Aaa a.ops.length caa] 25)) (.cells #[.int .i64 b.sorts, .slice Aba b.ops.length cba] 25)) (bx_at (w) #[.int .i64 a.sorts, .slice Aaa a.ops.length caa] 25 (k := 0) rfl))))
  have a1 := cell_keep (below_alloc ((((w.alloc (.cells #[.int .i64 a.sorts, .slice Aaa a.ops.length caa] 25)).alloc (.cells #[.int .i64 b.sorts, .slice Aba b.ops.length cba] 25)).alloc (.cells #[.slice Ama m.sorts.length cma, .slice Amb m.ops.length cmb] 39)).alloc (.cells #[.slice Aea e.vars.length cea, .slice Aeb e.left.length ceb, .slice Aec e.right.length cec] 41)) (.cells #[.slice none 0 0, .slice none 0 0, .slice none 0 0] 41)) (cell_keep (below_alloc (((w.alloc (.cells #[.int .i64 a.sorts, .slice Aaa a.ops.length caa] 25)).alloc (.cells #[.int .i64 b.sorts, .slice Aba b.ops.length cba] 25)).alloc (.cells #[.slice Ama m.sorts.length cma, .slice Amb m.ops.length cmb] 39)) (.cells #[.slice Aea e.vars.length cea, .slice Aeb e.left.length ceb, .slice Aec e.right.length cec] 41)) (cell_keep (below_alloc ((w.alloc (.cells #[.int .i64 a.sorts, .slice Aaa a.ops.length caa] 25)).alloc (.cells #[.int .i64 b.sorts, .slice Aba b.ops.length cba] 25)) (.cells #[.slice Ama m.sorts.length cma, .slice Amb m.ops.length cmb] 39)) (cell_keep (below_alloc (w.alloc (.cells #[.int .i64 a.sorts, .slice Aaa a.ops.length caa] 25)) (.cells #[.int .i64 b.sorts, .slice Aba b.ops.length cba] 25)) (bx_at (w) #[.int .i64 a.sorts, .slice Aaa a.ops.length caa] 25 (k := 1) rfl))))
  have Hb := Lib.hid (h2.keep hb)
  have b0 := cell_keep (below_alloc ((((w.alloc (.cells #[.int .i64 a.sorts, .slice Aaa a.ops.length caa] 25)).alloc (.cells #[.int .i64 b.sorts, .slice Aba b.ops.length cba] 25)).alloc (.cells #[.slice Ama m.sorts.length cma, .slice Amb m.ops.length cmb] 39)).alloc (.cells #[.slice Aea e.vars.length cea, .slice Aeb e.left.length ceb, .slice Aec e.right.length cec] 41)) (.cells #[.slice none 0 0, .slice none 0 0, .slice none 0 0] 41)) (cell_keep (below_alloc (((w.alloc (.cells #[.int .i64 a.sorts, .slice Aaa a.ops.length caa] 25)).alloc (.cells #[.int .i64 b.sorts, .slice Aba b.ops.length cba] 25)).alloc (.cells #[.slice Ama m.sorts.length cma, .slice Amb m.ops.length cmb] 39)) (.cells #[.slice Aea e.vars.length cea, .slice Aeb e.left.length ceb, .slice Aec e.right.length cec] 41)) (cell_keep (below_alloc ((w.alloc (.cells #[.int .i64 a.sorts, .slice Aaa a.ops.length caa] 25)).alloc (.cells #[.int .i64 b.sorts, .slice Aba b.ops.length cba] 25)) (.cells #[.slice Ama m.sorts.length cma, .slice Amb m.ops.length cmb] 39)) (bx_at (w.alloc (.cells #[.int .i64 a.sorts, .slice Aaa a.ops.length caa] 25)) #[.int .i64 b.sorts, .slice Aba b.ops.length cba] 25 (k := 0) rfl)))
  have b1 := cell_keep (below_alloc ((((w.alloc (.cells #[.int .i64 a.sorts, .slice Aaa a.ops.length caa] 25)).alloc (.cells #[.int .i64 b.sorts, .slice Aba b.ops.length cba] 25)).alloc (.cells #[.slice Ama m.sorts.length cma, .slice Amb m.ops.length cmb] 39)).alloc (.cells #[.slice Aea e.vars.length cea, .slice Aeb e.left.length ceb, .slice Aec e.right.length cec] 41)) (.cells #[.slice none 0 0, .slice none 0 0, .slice none 0 0] 41)) (cell_keep (below_alloc (((w.alloc (.cells #[.int .i64 a.sorts, .slice Aaa a.ops.length caa] 25)).alloc (.cells #[.int .i64 b.sorts, .slice Aba b.ops.length cba] 25)).alloc (.cells #[.slice Ama m.sorts.length cma, .slice Amb m.ops.length cmb] 39)) (.cells #[.slice Aea e.vars.length cea, .slice Aeb e.left.length ceb, .slice Aec e.right.length cec] 41)) (cell_keep (below_alloc ((w.alloc (.cells #[.int .i64 a.sorts, .slice Aaa a.ops.length caa] 25)).alloc (.cells #[.int .i64 b.sorts, .slice Aba b.ops.length cba] 25)) (.cells #[.slice Ama m.sorts.length cma, .slice Amb m.ops.length cmb] 39)) (bx_at (w.alloc (.cells #[.int .i64 a.sorts, .slice Aaa a.ops.length caa] 25)) #[.int .i64 b.sorts, .slice Aba b.ops.length cba] 25 (k := 1) rfl)))
  have Hm := Lib.hid (h3.keep hb)
  have m0 := cell_keep (below_alloc ((((w.alloc (.cells #[.int .i64 a.sorts, .slice Aaa a.ops.length caa] 25)).alloc (.cells #[.int .i64 b.sorts, .slice Aba b.ops.length cba] 25)).alloc (.cells #[.slice Ama m.sorts.length cma, .slice Amb m.ops.length cmb] 39)).alloc (.cells #[.slice Aea e.vars.length cea, .slice Aeb e.left.length ceb, .slice Aec e.right.length cec] 41)) (.cells #[.slice none 0 0, .slice none 0 0, .slice none 0 0] 41)) (cell_keep (below_alloc (((w.alloc (.cells #[.int .i64 a.sorts, .slice Aaa a.ops.length caa] 25)).alloc (.cells #[.int .i64 b.sorts, .slice Aba b.ops.length cba] 25)).alloc (.cells #[.slice Ama m.sorts.length cma, .slice Amb m.ops.length cmb] 39)) (.cells #[.slice Aea e.vars.length cea, .slice Aeb e.left.length ceb, .slice Aec e.right.length cec] 41)) (bx_at ((w.alloc (.cells #[.int .i64 a.sorts, .slice Aaa a.ops.length caa] 25)).alloc (.cells #[.int .i64 b.sorts, .slice Aba b.ops.length cba] 25)) #[.slice Ama m.sorts.length cma, .slice Amb m.ops.length cmb] 39 (k := 0) rfl))
  have m1 := cell_keep (below_alloc ((((w.alloc (.cells #[.int .i64 a.sorts, .slice Aaa a.ops.length caa] 25)).alloc (.cells #[.int .i64 b.sorts, .slice Aba b.ops.length cba] 25)).alloc (.cells #[.slice Ama m.sorts.length cma, .slice Amb m.ops.length cmb] 39)).alloc (.cells #[.slice Aea e.vars.length cea, .slice Aeb e.left.length ceb, .slice Aec e.right.length cec] 41)) (.cells #[.slice none 0 0, .slice none 0 0, .slice none 0 0] 41)) (cell_keep (below_alloc (((w.alloc (.cells #[.int .i64 a.sorts, .slice Aaa a.ops.length caa] 25)).alloc (.cells #[.int .i64 b.sorts, .slice Aba b.ops.length cba] 25)).alloc (.cells #[.slice Ama m.sorts.length cma, .slice Amb m.ops.length cmb] 39)) (.cells #[.slice Aea e.vars.length cea, .slice Aeb e.left.length ceb, .slice Aec e.right.length cec] 41)) (bx_at ((w.alloc (.cells #[.int .i64 a.sorts, .slice Aaa a.ops.length caa] 25)).alloc (.cells #[.int .i64 b.sorts, .slice Aba b.ops.length cba] 25)) #[.slice Ama m.sorts.length cma, .slice Amb m.ops.length cmb] 39 (k := 1) rfl))
  have He := Lib.hid (h4.keep hb)
  have e0 := cell_keep (below_alloc ((((w.alloc (.cells #[.int .i64 a.sorts, .slice Aaa a.ops.length caa] 25)).alloc (.cells #[.int .i64 b.sorts, .slice Aba b.ops.length cba] 25)).alloc (.cells #[.slice Ama m.sorts.length cma, .slice Amb m.ops.length cmb] 39)).alloc (.cells #[.slice Aea e.vars.length cea, .slice Aeb e.left.length ceb, .slice Aec e.right.length cec] 41)) (.cells #[.slice none 0 0, .slice none 0 0, .slice none 0 0] 41)) (bx_at (((w.alloc (.cells #[.int .i64 a.sorts, .slice Aaa a.ops.length caa] 25)).alloc (.cells #[.int .i64 b.sorts, .slice Aba b.ops.length cba] 25)).alloc (.cells #[.slice Ama m.sorts.length cma, .slice Amb m.ops.length cmb] 39)) #[.slice Aea e.vars.length cea, .slice Aeb e.left.length ceb, .slice Aec e.right.length cec] 41 (k := 0) rfl)
  have e1 := cell_keep (below_alloc ((((w.alloc (.cells #[.int .i64 a.sorts, .slice Aaa a.ops.length caa] 25)).alloc (.cells #[.int .i64 b.sorts, .slice Aba b.ops.length cba] 25)).alloc (.cells #[.slice Ama m.sorts.length cma, .slice Amb m.ops.length cmb] 39)).alloc (.cells #[.slice Aea e.vars.length cea, .slice Aeb e.left.length ceb, .slice Aec e.right.length cec] 41)) (.cells #[.slice none 0 0, .slice none 0 0, .slice none 0 0] 41)) (bx_at (((w.alloc (.cells #[.int .i64 a.sorts, .slice Aaa a.ops.length caa] 25)).alloc (.cells #[.int .i64 b.sorts, .slice Aba b.ops.length cba] 25)).alloc (.cells #[.slice Ama m.sorts.length cma, .slice Amb m.ops.length cmb] 39)) #[.slice Aea e.vars.length cea, .slice Aeb e.left.length ceb, .slice Aec e.right.length cec] 41 (k := 1) rfl)
  have e2 := cell_keep (below_alloc ((((w.alloc (.cells #[.int .i64 a.sorts, .slice Aaa a.ops.length caa] 25)).alloc (.cells #[.int .i64 b.sorts, .slice Aba b.ops.length cba] 25)).alloc (.cells #[.slice Ama m.sorts.length cma, .slice Amb m.ops.length cmb] 39)).alloc (.cells #[.slice Aea e.vars.length cea, .slice Aeb e.left.length ceb, .slice Aec e.right.length cec] 41)) (.cells #[.slice none 0 0, .slice none 0 0, .slice none 0 0] 41)) (bx_at (((w.alloc (.cells #[.int .i64 a.sorts, .slice Aaa a.ops.length caa] 25)).alloc (.cells #[.int .i64 b.sorts, .slice Aba b.ops.length cba] 25)).alloc (.cells #[.slice Ama m.sorts.length cma, .slice Amb m.ops.length cmb] 39)) #[.slice Aea e.vars.length cea, .slice Aeb e.left.length ceb, .slice Aec e.right.length cec] 41 (k := 2) rfl)
  have HZr := Lib.hid (show (((((w.alloc (.cells #[.int .i64 a.sorts, .slice Aaa a.ops.length caa] 25)).alloc (.cells #[.int .i64 b.sorts, .slice Aba b.ops.length cba] 25)).alloc (.cells #[.slice Ama m.sorts.length cma, .slice Amb m.ops.length cmb] 39)).alloc (.cells #[.slice Aea e.vars.length cea, .slice Aeb e.left.length ceb, .slice Aec e.right.length cec] 41)).alloc (.cells #[.slice none 0 0, .slice none 0 0, .slice none 0 0] 41)).heap[w.heap.size + 1 + 1 + 1 + 1]? = some (.cells #[.slice none 0 0, .slice none 0 0, .slice none 0 0] 41 (0, 0)) from (congrArg (fun i => (((((w.alloc (.cells #[.int .i64 a.sorts, .slice Aaa a.ops.length caa] 25)).alloc (.cells #[.int .i64 b.sorts, .slice Aba b.ops.length cba] 25)).alloc (.cells #[.slice Ama m.sorts.length cma, .slice Amb m.ops.length cmb] 39)).alloc (.cells #[.slice Aea e.vars.length cea, .slice Aeb e.left.length ceb, .slice Aec e.right.length cec] 41)).alloc (.cells #[.slice none 0 0, .slice none 0 0, .slice none 0 0] 41)).heap[i]?) (by simp)).trans (heap_alloc_new ((((w.alloc (.cells #[.int .i64 a.sorts, .slice Aaa a.ops.length caa] 25)).alloc (.cells #[.int .i64 b.sorts, .slice Aba b.ops.length cba] 25)).alloc (.cells #[.slice Ama m.sorts.length cma, .slice Amb m.ops.length cmb] 39)).alloc (.cells #[.slice Aea e.vars.length cea, .slice Aeb e.left.length ceb, .slice Aec e.right.length cec] 41)) _))
  simp only [World.size_alloc] at b0 b1 m0 m1 e0 e1 e2
  generalize hW : ((((w.alloc (.cells #[.int .i64 a.sorts, .slice Aaa a.ops.length caa] 25)).alloc (.cells #[.int .i64 b.sorts, .slice Aba b.ops.length cba] 25)).alloc (.cells #[.slice Ama m.sorts.length cma, .slice Amb m.ops.length cmb] 39)).alloc (.cells #[.slice Aea e.vars.length cea, .slice Aeb e.left.length ceb, .slice Aec e.right.length cec] 41)).alloc (.cells #[.slice none 0 0, .slice none 0 0, .slice none 0 0] 41) = W at HB hsz Ha a0 a1 Hb b0 b1 Hm m0 m1 He e0 e1 e2 HZr
  clear hb h1 h2 h3 h4
  cases hm : mapOkB a b m with
  | false =>
    have HM := Lib.hid hm
    have HE := Lib.hid (show mapEqM a b m e = (noEq, false) by unfold mapEqM; rw [hm]; rfl)
    clear hm
    go_enter Try.func19, Try.ntmps19
    go_wp2_with fail
    clear hW
    refine (specMapOk_any a b m _ _ _ _ Ha.out Hb.out Hm.out).mono ?_
    rw [HM.out]
    rintro e w1 ⟨rfl, hb⟩
    replace HB := Lib.hid (sz_keep HB.out hb)
    replace HZr := Lib.hid (blk_keep HZr.out hb)
    clear hb
    clear a0 a1 b0 b1 m0 m1 e0 e1 e2
    have j0 := blk_cell HZr.out 0
    have j1 := blk_cell HZr.out 1
    have j2 := blk_cell HZr.out 2
    have jf0 := blk_free HZr.out 0
    have jf1 := blk_free HZr.out 1
    have jf2 := blk_free HZr.out 2
    simp at j0 j1 j2
    go_wp2
    have d1 := blk_set (blk_set (blk_set (HZr.out) 0 (.slice none 0 0)) 1 (.slice none 0 0)) 2 (.slice none 0 0)
    have hbz := (((HB.out.setCell (p := ⟨w.heap.size + 1 + 1 + 1 + 1, 0, none⟩) (by show w.heap.size ≤ w.heap.size + 1 + 1 + 1 + 1; omega) (.slice none 0 0)).setCell (p := ⟨w.heap.size + 1 + 1 + 1 + 1, 1, none⟩) (by show w.heap.size ≤ w.heap.size + 1 + 1 + 1 + 1; omega) (.slice none 0 0)).setCell (p := ⟨w.heap.size + 1 + 1 + 1 + 1, 2, none⟩) (by show w.heap.size ≤ w.heap.size + 1 + 1 + 1 + 1; omega) (.slice none 0 0))
    generalize ((w1.setCell ⟨w.heap.size + 1 + 1 + 1 + 1, 0, none⟩ (.slice none 0 0)).setCell ⟨w.heap.size + 1 + 1 + 1 + 1, 1, none⟩ (.slice none 0 0)).setCell ⟨w.heap.size + 1 + 1 + 1 + 1, 2, none⟩ (.slice none 0 0) = wz at d1 hbz  ⊢
    have k0 := blk_cell d1 0
    have k1 := blk_cell d1 1
    have k2 := blk_cell d1 2
    simp at k0 k1 k2
    clear j0 j1 j2 jf0 jf1 jf2
    refine bodyPost_ret (v := .tuple #[.agg #[.slice none 0 0, .slice none 0 0, .slice none 0 0], .bool false]) (by simp [results, Try.results19, go_sem, k0, k1, k2]) rfl ?_
    exact ⟨_, by rw [HE.out], by rw [HE.out]; exact nil_eq _ _, hbz⟩
  | true =>
    have HM := Lib.hid hm
    clear hm
    cases he : eqOkB a e with
    | false =>
      have HN := Lib.hid he
      have HE := Lib.hid (show mapEqM a b m e = (noEq, false) by unfold mapEqM; rw [he, Bool.and_false]; rfl)
      clear he
      go_enter Try.func19, Try.ntmps19
      go_wp2_with fail
      clear hW
      refine (specMapOk_any a b m _ _ _ _ Ha.out Hb.out Hm.out).mono ?_
      rw [HM.out]
      rintro e w1 ⟨rfl, hb⟩
      clear b0 b1 m0 m1
      replace HB := Lib.hid (sz_keep HB.out hb)
      replace a0 := cell_keep hb a0
      replace a1 := cell_keep hb a1
      replace e0 := cell_keep hb e0
      replace e1 := cell_keep hb e1
      replace e2 := cell_keep hb e2
      replace Ha := Lib.hid (Ha.out.keep hb)
      replace He := Lib.hid (He.out.keep hb)
      replace HZr := Lib.hid (blk_keep HZr.out hb)
      clear hb
      go_wp2_with fail
      refine (specEqOk_any a e _ _ _ Ha.out He.out).mono ?_
      rw [HN.out]
      rintro e w2 ⟨rfl, hb⟩
      replace HB := Lib.hid (sz_keep HB.out hb)
      replace HZr := Lib.hid (blk_keep HZr.out hb)
      clear hb
      clear a0 a1 e0 e1 e2
      have j0 := blk_cell HZr.out 0
      have j1 := blk_cell HZr.out 1
      have j2 := blk_cell HZr.out 2
      have jf0 := blk_free HZr.out 0
      have jf1 := blk_free HZr.out 1
      have jf2 := blk_free HZr.out 2
      simp at j0 j1 j2
      go_wp2
      have d1 := blk_set (blk_set (blk_set (HZr.out) 0 (.slice none 0 0)) 1 (.slice none 0 0)) 2 (.slice none 0 0)
      have hbz := (((HB.out.setCell (p := ⟨w.heap.size + 1 + 1 + 1 + 1, 0, none⟩) (by show w.heap.size ≤ w.heap.size + 1 + 1 + 1 + 1; omega) (.slice none 0 0)).setCell (p := ⟨w.heap.size + 1 + 1 + 1 + 1, 1, none⟩) (by show w.heap.size ≤ w.heap.size + 1 + 1 + 1 + 1; omega) (.slice none 0 0)).setCell (p := ⟨w.heap.size + 1 + 1 + 1 + 1, 2, none⟩) (by show w.heap.size ≤ w.heap.size + 1 + 1 + 1 + 1; omega) (.slice none 0 0))
      generalize ((w2.setCell ⟨w.heap.size + 1 + 1 + 1 + 1, 0, none⟩ (.slice none 0 0)).setCell ⟨w.heap.size + 1 + 1 + 1 + 1, 1, none⟩ (.slice none 0 0)).setCell ⟨w.heap.size + 1 + 1 + 1 + 1, 2, none⟩ (.slice none 0 0) = wz at d1 hbz  ⊢
      have k0 := blk_cell d1 0
      have k1 := blk_cell d1 1
      have k2 := blk_cell d1 2
      simp at k0 k1 k2
      clear j0 j1 j2 jf0 jf1 jf2
      refine bodyPost_ret (v := .tuple #[.agg #[.slice none 0 0, .slice none 0 0, .slice none 0 0], .bool false]) (by simp [results, Try.results19, go_sem, k0, k1, k2]) rfl ?_
      exact ⟨_, by rw [HE.out], by rw [HE.out]; exact nil_eq _ _, hbz⟩
    | true =>
      have HN := Lib.hid he
      have HE := Lib.hid (show mapEqM a b m e = (ledE m e, true) by unfold mapEqM; rw [HM.out, he]; rfl)
      have HIN := Lib.hid (eqIn_of (mapOk_facts HM.out) he)
      clear he
      go_enter Try.func19, Try.ntmps19
      go_wp2_with fail
      clear hW
      refine (specMapOk_any a b m _ _ _ _ Ha.out Hb.out Hm.out).mono ?_
      rw [HM.out]
      rintro e w1 ⟨rfl, hb⟩
      clear b0 b1
      replace HB := Lib.hid (sz_keep HB.out hb)
      replace a0 := cell_keep hb a0
      replace a1 := cell_keep hb a1
      replace m0 := cell_keep hb m0
      replace m1 := cell_keep hb m1
      replace e0 := cell_keep hb e0
      replace e1 := cell_keep hb e1
      replace e2 := cell_keep hb e2
      replace Ha := Lib.hid (Ha.out.keep hb)
      replace Hm := Lib.hid (Hm.out.keep hb)
      replace He := Lib.hid (He.out.keep hb)
      replace HZr := Lib.hid (blk_keep HZr.out hb)
      clear hb
      go_wp2_with fail
      refine (specEqOk_any a e _ _ _ Ha.out He.out).mono ?_
      rw [HN.out]
      rintro e w2 ⟨rfl, hb⟩
      clear a0 a1
      replace HB := Lib.hid (sz_keep HB.out hb)
      replace m0 := cell_keep hb m0
      replace m1 := cell_keep hb m1
      replace e0 := cell_keep hb e0
      replace e1 := cell_keep hb e1
      replace e2 := cell_keep hb e2
      replace Hm := Lib.hid (Hm.out.keep hb)
      replace He := Lib.hid (He.out.keep hb)
      replace HZr := Lib.hid (blk_keep HZr.out hb)
      clear hb
      have hv1 := HIN.out.vl
      have hv2 := HIN.out.ll
      have hv3 := HIN.out.rl
      go_wp2_with fail
      refine wp_region_held_drew (S := (fun w' => w'.cell? ⟨w.heap.size + 1 + 1, 0, none⟩ = some (.slice Ama m.sorts.length cma) ∧ w'.cell? ⟨w.heap.size + 1 + 1, 1, none⟩ = some (.slice Amb m.ops.length cmb) ∧ w'.cell? ⟨w.heap.size + 1 + 1 + 1, 0, none⟩ = some (.slice Aea e.vars.length cea) ∧ w'.cell? ⟨w.heap.size + 1 + 1 + 1, 1, none⟩ = some (.slice Aeb e.left.length ceb) ∧ w'.cell? ⟨w.heap.size + 1 + 1 + 1, 2, none⟩ = some (.slice Aec e.right.length cec))) (by kernel_rfl) ?_ (fun hHeld => ?_)
      · exact ⟨m0, m1, e0, e1, e2⟩
      refine wpAnyH_take (i := 0) (oi := _) (v := ?_) rfl (by kernel_rfl) (by kernel_rfl) (by kernel_rfl) (fun _ _ _ h => h) (Or.inl ⟨by rfl, ?_⟩) (by assumption) ?_
      rotate_left
      · first | (intro w' hSw; (try dsimp only at hSw); go_simp; done) | (intro w' hSw; (try dsimp only at hSw); go_simp; with_reducible rfl)
      try simp only [Act.put, List.getElem_toArray, List.getElem_cons_zero, List.getElem_cons_succ, List.setIfInBounds_toArray, List.set_cons_zero, List.set_cons_succ]
      refine wpAnyH_take (i := 1) (oi := _) (v := ?_) rfl (by kernel_rfl) (by kernel_rfl) (by kernel_rfl) (fun _ _ _ h => h) (Or.inl ⟨by rfl, ?_⟩) (by assumption) ?_
      rotate_left
      · first | (intro w' hSw; (try dsimp only at hSw); go_simp; done) | (intro w' hSw; (try dsimp only at hSw); go_simp; with_reducible rfl)
      try simp only [Act.put, List.getElem_toArray, List.getElem_cons_zero, List.getElem_cons_succ, List.setIfInBounds_toArray, List.set_cons_zero, List.set_cons_succ]
      refine wpAnyH_take (i := 2) (oi := _) (v := ?_) rfl (by kernel_rfl) (by kernel_rfl) (by kernel_rfl) (fun _ _ _ h => h) (Or.inl ⟨by rfl, ?_⟩) (by assumption) ?_
      rotate_left
      · first | (intro w' hSw; (try dsimp only at hSw); go_simp; done) | (intro w' hSw; (try dsimp only at hSw); go_simp; with_reducible rfl)
      try simp only [Act.put, List.getElem_toArray, List.getElem_cons_zero, List.getElem_cons_succ, List.setIfInBounds_toArray, List.set_cons_zero, List.set_cons_succ]
      refine wpAnyH_take (i := 4) (oi := _) (v := ?_) rfl (by kernel_rfl) (by kernel_rfl) (by kernel_rfl) (fun _ _ _ h => h) (Or.inl ⟨by rfl, ?_⟩) (by assumption) ?_
      rotate_left
      · first | (intro w' hSw; (try dsimp only at hSw); go_simp; done) | (intro w' hSw; (try dsimp only at hSw); go_simp; with_reducible rfl)
      try simp only [Act.put, List.getElem_toArray, List.getElem_cons_zero, List.getElem_cons_succ, List.setIfInBounds_toArray, List.set_cons_zero, List.set_cons_succ]
      refine wpAnyH_take (i := 5) (oi := _) (v := ?_) rfl (by kernel_rfl) (by kernel_rfl) (by kernel_rfl) (fun _ _ _ h => h) (Or.inl ⟨by rfl, ?_⟩) (by assumption) ?_
      rotate_left
      · first | (intro w' hSw; (try dsimp only at hSw); go_simp; done) | (intro w' hSw; (try dsimp only at hSw); go_simp; with_reducible rfl)
      try simp only [Act.put, List.getElem_toArray, List.getElem_cons_zero, List.getElem_cons_succ, List.setIfInBounds_toArray, List.set_cons_zero, List.set_cons_succ]
      refine wpAnyH_take (i := 6) (oi := _) (v := ?_) rfl (by kernel_rfl) (by kernel_rfl) (by kernel_rfl) (fun _ _ _ h => h) (Or.inl ⟨by rfl, ?_⟩) (by assumption) ?_
      rotate_left
      · first | (intro w' hSw; (try dsimp only at hSw); go_simp; done) | (intro w' hSw; (try dsimp only at hSw); go_simp; with_reducible rfl)
      try simp only [Act.put, List.getElem_toArray, List.getElem_cons_zero, List.getElem_cons_succ, List.setIfInBounds_toArray, List.set_cons_zero, List.set_cons_succ]
      refine wpAnyH_take (i := 8) (oi := _) (v := ?_) rfl (by kernel_rfl) (by kernel_rfl) (by kernel_rfl) (fun _ _ _ h => h) (Or.inl ⟨by rfl, ?_⟩) (by assumption) ?_
      rotate_left
      · first | (intro w' hSw; (try dsimp only at hSw); go_simp; done) | (intro w' hSw; (try dsimp only at hSw); go_simp; with_reducible rfl)
      try simp only [Act.put, List.getElem_toArray, List.getElem_cons_zero, List.getElem_cons_succ, List.setIfInBounds_toArray, List.set_cons_zero, List.set_cons_succ]
      refine wpAnyH_take (i := 9) (oi := _) (v := ?_) rfl (by kernel_rfl) (by kernel_rfl) (by kernel_rfl) (fun _ _ _ h => h) (Or.inl ⟨by rfl, ?_⟩) (by assumption) ?_
      rotate_left
      · first | (intro w' hSw; (try dsimp only at hSw); go_simp; done) | (intro w' hSw; (try dsimp only at hSw); go_simp; with_reducible rfl)
      try simp only [Act.put, List.getElem_toArray, List.getElem_cons_zero, List.getElem_cons_succ, List.setIfInBounds_toArray, List.set_cons_zero, List.set_cons_succ]
      refine wpAnyH_take (i := 10) (oi := _) (v := ?_) rfl (by kernel_rfl) (by kernel_rfl) (by kernel_rfl) (fun _ _ _ h => h) (Or.inl ⟨by rfl, ?_⟩) (by assumption) ?_
      rotate_left
      · first | (intro w' hSw; (try dsimp only at hSw); go_simp; done) | (intro w' hSw; (try dsimp only at hSw); go_simp; with_reducible rfl)
      try simp only [Act.put, List.getElem_toArray, List.getElem_cons_zero, List.getElem_cons_succ, List.setIfInBounds_toArray, List.set_cons_zero, List.set_cons_succ]
      refine wpAnyH_ready (rs := [3]) (by kernel_rfl) (by simp) ?_
      refine AllReadyH.cons (o := _) rfl (fun K hK => ?_) AllReadyH.nil
      go_simp
      refine (l4Row_any _ _ e.vars m w2.drew (Hm.out.keep (map_drew (Below.refl _ _))) (He.out.of.1.keep (map_drew (Below.refl _ _))) (fun x hx => HIN.out.vi x hx (HIN.out.vs x hx)) (by omega)).mono ?_
      rw [rowLed_led HIN.out.vs]
      rintro e w3 ⟨u3, rfl, ho3, hb3⟩
      have hx3 := map_undrew hb3
      obtain ⟨A3, c3, rfl, -⟩ := ho3.reads.form
      have O3_w3 := Lib.hid (show OInts w3 w2.heap.size _ _ from ho3)
      have HX3 := Lib.hid (hx3)
      have p0 := cell_keep hx3 m0
      have p1 := cell_keep hx3 m1
      have p2 := cell_keep hx3 e0
      have p3 := cell_keep hx3 e1
      have p4 := cell_keep hx3 e2
      have HQ3 := Lib.hid hx3
      clear ho3 hb3
      go_wp2_with fail
      refine hK.out _ _ ?_ (fun hHeld => ?_)
      · exact ⟨p0, p1, p2, p3, p4⟩
      clear hK K
      try simp only [Act.put, List.getElem_toArray, List.getElem_cons_zero, List.getElem_cons_succ, List.setIfInBounds_toArray, List.set_cons_zero, List.set_cons_succ]
      refine wpAnyH_ready (rs := [7]) (by kernel_rfl) (by simp) ?_
      refine AllReadyH.cons (o := _) rfl (fun K hK => ?_) AllReadyH.nil
      go_simp
      refine (l4Term_any _ _ e.left m w3 (Hm.out.keep HX3.out) (He.out.of.2.1.keep HX3.out) HIN.out.li (by omega)).mono ?_
      rintro e w4 ⟨u4, rfl, ho4, hb4⟩
      have hx4 := hb4
      obtain ⟨A4, c4, rfl, -⟩ := ho4.reads.form
      have AP3_4 := Lib.hid (apart_later O3_w3.out ho4)
      have O3_w4 := Lib.hid (O3_w3.out.keep hx4)
      have O4_w4 := Lib.hid (show OInts w4 w3.heap.size _ _ from ho4)
      have HX4 := Lib.hid (sz_keep HX3.out hx4)
      have q0 := cell_keep hx4 p0
      have q1 := cell_keep hx4 p1
      have q2 := cell_keep hx4 p2
      have q3 := cell_keep hx4 p3
      have q4 := cell_keep hx4 p4
      have HQ4 := Lib.hid hx4
      clear ho4 hb4 hx4
      go_wp2_with fail
      refine hK.out _ _ ?_ (fun hHeld => ?_)
      · exact ⟨q0, q1, q2, q3, q4⟩
      clear hK K
      try simp only [Act.put, List.getElem_toArray, List.getElem_cons_zero, List.getElem_cons_succ, List.setIfInBounds_toArray, List.set_cons_zero, List.set_cons_succ]
      refine wpAnyH_ready (rs := [11]) (by kernel_rfl) (by simp) ?_
      refine AllReadyH.cons (o := _) rfl (fun K hK => ?_) AllReadyH.nil
      go_simp
      refine (l4Term_any _ _ e.right m w4 (Hm.out.keep HX4.out) (He.out.of.2.2.keep HX4.out) HIN.out.ri (by omega)).mono ?_
      rintro e w5 ⟨u5, rfl, ho5, hb5⟩
      have hx5 := hb5
      obtain ⟨A5, c5, rfl, -⟩ := ho5.reads.form
      have AP3_5 := Lib.hid (apart_later O3_w4.out ho5)
      have O3_w5 := Lib.hid (O3_w4.out.keep hx5)
      have AP4_5 := Lib.hid (apart_later O4_w4.out ho5)
      have O4_w5 := Lib.hid (O4_w4.out.keep hx5)
      have O5_w5 := Lib.hid (show OInts w5 w4.heap.size _ _ from ho5)
      have HX5 := Lib.hid (sz_keep HX4.out hx5)
      have t0 := cell_keep hx5 q0
      have t1 := cell_keep hx5 q1
      have t2 := cell_keep hx5 q2
      have t3 := cell_keep hx5 q3
      have t4 := cell_keep hx5 q4
      have HQ5 := Lib.hid hx5
      have HZ5 := Lib.hid (blk_keep HZr.out HX5.out)
      have HSZ := Lib.hid (And.intro HB.out.size (And.intro HX3.out.size (And.intro HQ4.out.size HQ5.out.size)))
      have HBN := Lib.hid (sz_keep HB.out HX5.out)
      have j0 := blk_cell HZ5.out 0
      have j1 := blk_cell HZ5.out 1
      have j2 := blk_cell HZ5.out 2
      have jf0 := blk_free HZ5.out 0
      have jf1 := blk_free HZ5.out 1
      have jf2 := blk_free HZ5.out 2
      simp at j0 j1 j2
      clear ho5 hb5 hx5
      go_wp2_with fail
      refine hK.out _ _ ?_ (fun hHeld => ?_)
      · exact ⟨t0, t1, t2, t3, t4⟩
      clear hK K
      try simp only [Act.put, List.getElem_toArray, List.getElem_cons_zero, List.getElem_cons_succ, List.setIfInBounds_toArray, List.set_cons_zero, List.set_cons_succ]
      refine wpAnyH_take (i := 12) (oi := _) (v := ?_) rfl (by kernel_rfl) (by kernel_rfl) (by kernel_rfl) (fun _ _ _ h => h) (Or.inl ⟨by rfl, ?_⟩) (by assumption) ?_
      rotate_left
      · first | (intro w' hSw; (try dsimp only at hSw); go_simp; done) | (intro w' hSw; (try dsimp only at hSw); go_simp; with_reducible rfl)
      try simp only [Act.put, List.getElem_toArray, List.getElem_cons_zero, List.getElem_cons_succ, List.setIfInBounds_toArray, List.set_cons_zero, List.set_cons_succ]
      refine wpAnyH_ready (rs := [13]) (by kernel_rfl) (by simp) ?_
      refine AllReadyH.cons (o := _) rfl (fun K hK => ?_) AllReadyH.nil
      go_simp
      skip
      go_wp2_with fail
      refine hK.out _ _ ?_ (fun hHeld => ?_)
      · exact ⟨(set_other (by omega) _ _ _).trans ((set_other (by omega) _ _ _).trans ((set_other (by omega) _ _ _).trans t0)), (set_other (by omega) _ _ _).trans ((set_other (by omega) _ _ _).trans ((set_other (by omega) _ _ _).trans t1)), (set_other (by omega) _ _ _).trans ((set_other (by omega) _ _ _).trans ((set_other (by omega) _ _ _).trans t2)), (set_other (by omega) _ _ _).trans ((set_other (by omega) _ _ _).trans ((set_other (by omega) _ _ _).trans t3)), (set_other (by omega) _ _ _).trans ((set_other (by omega) _ _ _).trans ((set_other (by omega) _ _ _).trans t4))⟩
      clear hK K
      try simp only [Act.put, List.getElem_toArray, List.getElem_cons_zero, List.getElem_cons_succ, List.setIfInBounds_toArray, List.set_cons_zero, List.set_cons_succ]
      refine wpAnyH_take (i := 14) (oi := _) (v := ?_) rfl (by kernel_rfl) (by kernel_rfl) (by kernel_rfl) (fun _ _ _ h => h) (Or.inl ⟨by rfl, ?_⟩) (by assumption) ?_
      rotate_left
      · first | (intro w' hSw; (try dsimp only at hSw); go_simp; done) | (intro w' hSw; (try dsimp only at hSw); go_simp; with_reducible rfl)
      try simp only [Act.put, List.getElem_toArray, List.getElem_cons_zero, List.getElem_cons_succ, List.setIfInBounds_toArray, List.set_cons_zero, List.set_cons_succ]
      refine wpAnyH_done (by kernel_rfl) ?_ _
      clear m0 m1 e0 e1 e2 p0 p1 p2 p3 p4 q0 q1 q2 q3 q4 t0 t1 t2 t3 t4
      have hZ1 : w.heap.size + 1 + 1 + 1 + 1 < w2.heap.size := (Array.getElem?_eq_some_iff.1 HZr.out).1
      have hZ2 := HSZ.out
      replace HB := HBN
      go_wp2
      have d1 := blk_set (blk_set (blk_set (HZ5.out) 0 (.slice A3 (ledM m.sorts e.vars).length c3)) 1 (.slice A4 (ledM m.ops e.left).length c4)) 2 (.slice A5 (ledM m.ops e.right).length c5)
      have n0 := (((O3_w5.out.setLow (b := w.heap.size + 1 + 1 + 1 + 1) (by omega) 0 (.slice A3 (ledM m.sorts e.vars).length c3)).setLow (b := w.heap.size + 1 + 1 + 1 + 1) (by omega) 1 (.slice A4 (ledM m.ops e.left).length c4)).setLow (b := w.heap.size + 1 + 1 + 1 + 1) (by omega) 2 (.slice A5 (ledM m.ops e.right).length c5))
      have n1 := (((O4_w5.out.setLow (b := w.heap.size + 1 + 1 + 1 + 1) (by omega) 0 (.slice A3 (ledM m.sorts e.vars).length c3)).setLow (b := w.heap.size + 1 + 1 + 1 + 1) (by omega) 1 (.slice A4 (ledM m.ops e.left).length c4)).setLow (b := w.heap.size + 1 + 1 + 1 + 1) (by omega) 2 (.slice A5 (ledM m.ops e.right).length c5))
      have n2 := (((O5_w5.out.setLow (b := w.heap.size + 1 + 1 + 1 + 1) (by omega) 0 (.slice A3 (ledM m.sorts e.vars).length c3)).setLow (b := w.heap.size + 1 + 1 + 1 + 1) (by omega) 1 (.slice A4 (ledM m.ops e.left).length c4)).setLow (b := w.heap.size + 1 + 1 + 1 + 1) (by omega) 2 (.slice A5 (ledM m.ops e.right).length c5))
      have hbz := (((HB.out.setCell (p := ⟨w.heap.size + 1 + 1 + 1 + 1, 0, none⟩) (by show w.heap.size ≤ w.heap.size + 1 + 1 + 1 + 1; omega) (.slice A3 (ledM m.sorts e.vars).length c3)).setCell (p := ⟨w.heap.size + 1 + 1 + 1 + 1, 1, none⟩) (by show w.heap.size ≤ w.heap.size + 1 + 1 + 1 + 1; omega) (.slice A4 (ledM m.ops e.left).length c4)).setCell (p := ⟨w.heap.size + 1 + 1 + 1 + 1, 2, none⟩) (by show w.heap.size ≤ w.heap.size + 1 + 1 + 1 + 1; omega) (.slice A5 (ledM m.ops e.right).length c5))
      generalize ((w5.setCell ⟨w.heap.size + 1 + 1 + 1 + 1, 0, none⟩ (.slice A3 (ledM m.sorts e.vars).length c3)).setCell ⟨w.heap.size + 1 + 1 + 1 + 1, 1, none⟩ (.slice A4 (ledM m.ops e.left).length c4)).setCell ⟨w.heap.size + 1 + 1 + 1 + 1, 2, none⟩ (.slice A5 (ledM m.ops e.right).length c5) = wz at d1 hbz n0 n1 n2 ⊢
      have k0 := blk_cell d1 0
      have k1 := blk_cell d1 1
      have k2 := blk_cell d1 2
      simp at k0 k1 k2
      clear j0 j1 j2 jf0 jf1 jf2
      refine bodyPost_ret (v := .tuple #[.agg #[.slice A3 (ledM m.sorts e.vars).length c3, .slice A4 (ledM m.ops e.left).length c4, .slice A5 (ledM m.ops e.right).length c5], .bool true]) (by simp [results, Try.results19, go_sem, k0, k1, k2]) rfl ?_
      exact ⟨_, by rw [HE.out], by rw [HE.out]; exact ⟨_, _, _, rfl, n0.base (by omega), n1.base (by omega), n2.base (by omega), AP3_4.out, AP3_5.out, AP4_5.out⟩, hbz⟩
end

section
open Go.RowKit
set_option linter.unusedVariables false
set_option linter.unusedSimpArgs false

theorem count_take {n k : Nat} (h : k = n) : countM k = countM n := by rw [h]

set_option maxHeartbeats 3200000 in
set_option maxRecDepth 100000 in
theorem specMapSelf_any (s : MSig) (w : World) (v : Value) (h1 : RSig w v s) :
    Calls Try.prog 155 #[v] w fun e w' => ∃ u, e = .returned u ∧ OMap w' w.heap.size u (selfM s) ∧ Below w.heap.size w w' := by
  obtain ⟨i0, hi0, hz0, hz1, hz2⟩ := info_parts Try.tinfo_int
  obtain ⟨Asa, csa, rfl⟩ := h1.form
  have hb : Below w.heap.size w ((w.alloc (.cells #[.int .i64 s.sorts, .slice Asa s.ops.length csa] 25)).alloc (.cells #[.slice none 0 0, .slice none 0 0] 39)) := (below_alloc _ _).alloc (by simp) _
  have HB := Lib.hid hb
  have hsz : ((w.alloc (.cells #[.int .i64 s.sorts, .slice Asa s.ops.length csa] 25)).alloc (.cells #[.slice none 0 0, .slice none 0 0] 39)).heap.size = w.heap.size + 2 := by simp
  have Hs := Lib.hid (h1.keep hb)
  have s0 := cell_keep (below_alloc (w.alloc (.cells #[.int .i64 s.sorts, .slice Asa s.ops.length csa] 25)) (.cells #[.slice none 0 0, .slice none 0 0] 39)) (bx_at (w) #[.int .i64 s.sorts, .slice Asa s.ops.length csa] 25 (k := 0) rfl)
  have s1 := cell_keep (below_alloc (w.alloc (.cells #[.int .i64 s.sorts, .slice Asa s.ops.length csa] 25)) (.cells #[.slice none 0 0, .slice none 0 0] 39)) (bx_at (w) #[.int .i64 s.sorts, .slice Asa s.ops.length csa] 25 (k := 1) rfl)
  have HZr := Lib.hid (show ((w.alloc (.cells #[.int .i64 s.sorts, .slice Asa s.ops.length csa] 25)).alloc (.cells #[.slice none 0 0, .slice none 0 0] 39)).heap[w.heap.size + 1]? = some (.cells #[.slice none 0 0, .slice none 0 0] 39 (0, 0)) from (congrArg (fun i => ((w.alloc (.cells #[.int .i64 s.sorts, .slice Asa s.ops.length csa] 25)).alloc (.cells #[.slice none 0 0, .slice none 0 0] 39)).heap[i]?) (by simp)).trans (heap_alloc_new (w.alloc (.cells #[.int .i64 s.sorts, .slice Asa s.ops.length csa] 25)) _))
  generalize hW : (w.alloc (.cells #[.int .i64 s.sorts, .slice Asa s.ops.length csa] 25)).alloc (.cells #[.slice none 0 0, .slice none 0 0] 39) = W at HB hsz Hs s0 s1 HZr
  clear hb h1
  have hl1 := Hs.out.of.2.len
  have hwr : w.heap.size + 1 < W.heap.size := by omega
  clear hsz
  have hb3 := below_alloc W (.cells #[.slice none 0 0, .slice none 0 0] 39)
  have hl3 : (W.alloc (.cells #[.slice none 0 0, .slice none 0 0] 39)).heap[W.heap.size]? = some (.cells #[.slice none 0 0, .slice none 0 0] 39 (0, 0)) := heap_alloc_new W _
  generalize hW3 : W.alloc (.cells #[.slice none 0 0, .slice none 0 0] 39) = W3 at hb3 hl3
  have hl4 : ((W3.setCell ⟨W.heap.size, 0, none⟩ (.slice none 0 0)).setCell ⟨W.heap.size, 1, none⟩ (.slice none 0 0)).heap[W.heap.size]? = some (.cells #[.slice none 0 0, .slice none 0 0] 39 (0, 0)) := blk_set (blk_set hl3 0 (.slice none 0 0)) 1 (.slice none 0 0)
  have hb4 : Below W.heap.size W ((W3.setCell ⟨W.heap.size, 0, none⟩ (.slice none 0 0)).setCell ⟨W.heap.size, 1, none⟩ (.slice none 0 0)) := (hb3.setCell (p := ⟨W.heap.size, 0, none⟩) (Nat.le_refl _) _).setCell (p := ⟨W.heap.size, 1, none⟩) (Nat.le_refl _) _
  have j0 := blk_cell hl3 0
  have j1 := blk_cell hl3 1
  have jf0 := blk_free hl3 0
  have jf1 := blk_free hl3 1
  simp at j0 j1
  generalize hW4 : (W3.setCell ⟨W.heap.size, 0, none⟩ (.slice none 0 0)).setCell ⟨W.heap.size, 1, none⟩ (.slice none 0 0) = W4 at hl4 hb4
  have HL4 := Lib.hid hl4
  have HB4 := Lib.hid hb4
  clear hb3 hl3 hl4
  have HC0 := Lib.hid (And.intro s0 s1)
  have HC := Lib.hid (And.intro (cell_keep hb4 s0) (cell_keep hb4 s1))
  have HS0 := Lib.hid Hs.out
  have HB0 := Lib.hid HB.out
  have HZ0 := Lib.hid HZr.out
  have HZ4 := Lib.hid (blk_keep HZr.out hb4)
  replace Hs := Lib.hid (Hs.out.keep hb4)
  replace HB := Lib.hid (sz_keep HB.out hb4)
  have hlt4 : W.heap.size < W4.heap.size := (Array.getElem?_eq_some_iff.1 HL4.out).1
  clear hb4 HZr s0 s1
  cases hv : validB s with
  | false =>
    have HV := Lib.hid hv
    have HE := Lib.hid (show selfM s = noMap by unfold selfM; rw [hv]; rfl)
    clear hv
    go_enter Try.func155, Try.ntmps155
    go_wp2
    clear hW hW3 hW4 j0 j1 jf0 jf1
    go_loopw [4] (fun i wr => i = .int .i64 0 ∧ Below W4.heap.size W4 wr) (fun _ _ => 0)
    case atStart => exact ⟨rfl, Below.refl _ _⟩
    case round =>
      obtain ⟨rfl, hd⟩ := hrel
      obtain ⟨wv, rfl⟩ : ∃ wv : World, wv = wr := ⟨_, rfl⟩
      have s0 := cell_keep hd HC.out.1
      have s1 := cell_keep hd HC.out.2
      replace Hs := Lib.hid (Hs.out.keep hd)
      replace HB := Lib.hid (sz_keep HB.out hd)
      replace HZ4 := Lib.hid (blk_keep HZ4.out hd)
      replace HL4 := Lib.hid (blk_keep HL4.out hd)
      replace HC := Lib.hid (And.intro s0 s1)
      have hlt5 := hd.size
      clear hd
      by_cases hpos : 0 < s.sorts
      · go_wp2_with fail
        refine (specSigValid_any _ s _ Hs.out).mono ?_
        rw [HV.out]
        rintro e w1 ⟨rfl, hb⟩
        replace HB := Lib.hid (sz_keep HB.out hb)
        replace s0 := cell_keep hb s0
        replace s1 := cell_keep hb s1
        replace Hs := Lib.hid (Hs.out.keep hb)
        replace HZ4 := Lib.hid (blk_keep HZ4.out hb)
        replace HL4 := Lib.hid (blk_keep HL4.out hb)
        clear hb
        replace HC := Lib.hid (And.intro s0 s1)
        clear s0 s1
        go_wp2
        go_loopw [5] (fun i wr => i = .int .i64 0 ∧ Below w1.heap.size w1 wr) (fun _ _ => 0)
        case atStart => exact ⟨rfl, Below.refl _ _⟩
        case round =>
          obtain ⟨rfl, hd⟩ := hrel
          have s0 := cell_keep hd HC.out.1
          have s1 := cell_keep hd HC.out.2
          replace Hs := Lib.hid (Hs.out.keep hd)
          replace HB := Lib.hid (sz_keep HB.out hd)
          replace HZ4 := Lib.hid (blk_keep HZ4.out hd)
          replace HL4 := Lib.hid (blk_keep HL4.out hd)
          clear hd
          by_cases hpos2 : 0 < s.ops.length
          · have hp2 : (0 : Int) < (s.ops.length : Int) := by omega
            go_wp2_with fail
            refine (specSigValid_any _ s _ Hs.out).mono ?_
            rw [HV.out]
            rintro e w2 ⟨rfl, hb⟩
            replace HB := Lib.hid (sz_keep HB.out hb)
            replace HZ4 := Lib.hid (blk_keep HZ4.out hb)
            replace HL4 := Lib.hid (blk_keep HL4.out hb)
            clear hb
            clear s0 s1
            have l0 := blk_cell HL4.out 0
            have l1 := blk_cell HL4.out 1
            simp at l0 l1
            have j0 := blk_cell HZ4.out 0
            have j1 := blk_cell HZ4.out 1
            have jf0 := blk_free HZ4.out 0
            have jf1 := blk_free HZ4.out 1
            simp at j0 j1
            go_wp2
            have d1 := blk_set (blk_set (HZ4.out) 0 (.slice none 0 0)) 1 (.slice none 0 0)
            have hbz := ((HB.out.setCell (p := ⟨w.heap.size + 1, 0, none⟩) (by show w.heap.size ≤ w.heap.size + 1; omega) (.slice none 0 0)).setCell (p := ⟨w.heap.size + 1, 1, none⟩) (by show w.heap.size ≤ w.heap.size + 1; omega) (.slice none 0 0))
            generalize (w2.setCell ⟨w.heap.size + 1, 0, none⟩ (.slice none 0 0)).setCell ⟨w.heap.size + 1, 1, none⟩ (.slice none 0 0) = wz at d1 hbz  ⊢
            have k0 := blk_cell d1 0
            have k1 := blk_cell d1 1
            simp at k0 k1
            clear j0 j1 jf0 jf1 l0 l1
            refine bodyPost_ret (v := .agg #[.slice none 0 0, .slice none 0 0]) (by simp [results, Try.results155, go_sem, k0, k1]) rfl ?_
            exact ⟨_, rfl, by rw [HE.out]; exact nil_map _ _, hbz⟩
          · have hp2 : ¬ (0 : Int) < (s.ops.length : Int) := by omega
            have l0 := blk_cell HL4.out 0
            have l1 := blk_cell HL4.out 1
            simp at l0 l1
            have j0 := blk_cell HZ4.out 0
            have j1 := blk_cell HZ4.out 1
            have jf0 := blk_free HZ4.out 0
            have jf1 := blk_free HZ4.out 1
            simp at j0 j1
            go_wp2
            have d1 := blk_set (blk_set (HZ4.out) 0 (.slice none 0 0)) 1 (.slice none 0 0)
            have hbz := ((HB.out.setCell (p := ⟨w.heap.size + 1, 0, none⟩) (by show w.heap.size ≤ w.heap.size + 1; omega) (.slice none 0 0)).setCell (p := ⟨w.heap.size + 1, 1, none⟩) (by show w.heap.size ≤ w.heap.size + 1; omega) (.slice none 0 0))
            generalize (wr.setCell ⟨w.heap.size + 1, 0, none⟩ (.slice none 0 0)).setCell ⟨w.heap.size + 1, 1, none⟩ (.slice none 0 0) = wz at d1 hbz  ⊢
            have k0 := blk_cell d1 0
            have k1 := blk_cell d1 1
            simp at k0 k1
            clear j0 j1 jf0 jf1 l0 l1 s0 s1
            refine bodyPost_ret (v := .agg #[.slice none 0 0, .slice none 0 0]) (by simp [results, Try.results155, go_sem, k0, k1]) rfl ?_
            exact ⟨_, rfl, by rw [HE.out]; exact nil_map _ _, hbz⟩
      · go_wp2
        clear s0 s1
        go_loopw [5] (fun i wr => i = .int .i64 0 ∧ Below wv.heap.size wv wr) (fun _ _ => 0)
        case atStart => exact ⟨rfl, Below.refl _ _⟩
        case round =>
          obtain ⟨rfl, hd⟩ := hrel
          have s0 := cell_keep hd HC.out.1
          have s1 := cell_keep hd HC.out.2
          replace Hs := Lib.hid (Hs.out.keep hd)
          replace HB := Lib.hid (sz_keep HB.out hd)
          replace HZ4 := Lib.hid (blk_keep HZ4.out hd)
          replace HL4 := Lib.hid (blk_keep HL4.out hd)
          clear hd
          by_cases hpos2 : 0 < s.ops.length
          · have hp2 : (0 : Int) < (s.ops.length : Int) := by omega
            go_wp2_with fail
            refine (specSigValid_any _ s _ Hs.out).mono ?_
            rw [HV.out]
            rintro e w2 ⟨rfl, hb⟩
            replace HB := Lib.hid (sz_keep HB.out hb)
            replace HZ4 := Lib.hid (blk_keep HZ4.out hb)
            replace HL4 := Lib.hid (blk_keep HL4.out hb)
            clear hb
            clear s0 s1
            have l0 := blk_cell HL4.out 0
            have l1 := blk_cell HL4.out 1
            simp at l0 l1
            have j0 := blk_cell HZ4.out 0
            have j1 := blk_cell HZ4.out 1
            have jf0 := blk_free HZ4.out 0
            have jf1 := blk_free HZ4.out 1
            simp at j0 j1
            go_wp2
            have d1 := blk_set (blk_set (HZ4.out) 0 (.slice none 0 0)) 1 (.slice none 0 0)
            have hbz := ((HB.out.setCell (p := ⟨w.heap.size + 1, 0, none⟩) (by show w.heap.size ≤ w.heap.size + 1; omega) (.slice none 0 0)).setCell (p := ⟨w.heap.size + 1, 1, none⟩) (by show w.heap.size ≤ w.heap.size + 1; omega) (.slice none 0 0))
            generalize (w2.setCell ⟨w.heap.size + 1, 0, none⟩ (.slice none 0 0)).setCell ⟨w.heap.size + 1, 1, none⟩ (.slice none 0 0) = wz at d1 hbz  ⊢
            have k0 := blk_cell d1 0
            have k1 := blk_cell d1 1
            simp at k0 k1
            clear j0 j1 jf0 jf1 l0 l1
            refine bodyPost_ret (v := .agg #[.slice none 0 0, .slice none 0 0]) (by simp [results, Try.results155, go_sem, k0, k1]) rfl ?_
            exact ⟨_, rfl, by rw [HE.out]; exact nil_map _ _, hbz⟩
          · have hp2 : ¬ (0 : Int) < (s.ops.length : Int) := by omega
            have l0 := blk_cell HL4.out 0
            have l1 := blk_cell HL4.out 1
            simp at l0 l1
            have j0 := blk_cell HZ4.out 0
            have j1 := blk_cell HZ4.out 1
            have jf0 := blk_free HZ4.out 0
            have jf1 := blk_free HZ4.out 1
            simp at j0 j1
            go_wp2
            have d1 := blk_set (blk_set (HZ4.out) 0 (.slice none 0 0)) 1 (.slice none 0 0)
            have hbz := ((HB.out.setCell (p := ⟨w.heap.size + 1, 0, none⟩) (by show w.heap.size ≤ w.heap.size + 1; omega) (.slice none 0 0)).setCell (p := ⟨w.heap.size + 1, 1, none⟩) (by show w.heap.size ≤ w.heap.size + 1; omega) (.slice none 0 0))
            generalize (wr.setCell ⟨w.heap.size + 1, 0, none⟩ (.slice none 0 0)).setCell ⟨w.heap.size + 1, 1, none⟩ (.slice none 0 0) = wz at d1 hbz  ⊢
            have k0 := blk_cell d1 0
            have k1 := blk_cell d1 1
            simp at k0 k1
            clear j0 j1 jf0 jf1 l0 l1 s0 s1
            refine bodyPost_ret (v := .agg #[.slice none 0 0, .slice none 0 0]) (by simp [results, Try.results155, go_sem, k0, k1]) rfl ?_
            exact ⟨_, rfl, by rw [HE.out]; exact nil_map _ _, hbz⟩
  | true =>
    have HV := Lib.hid hv
    have hsv := valid_sorts hv
    have HE := Lib.hid (show selfM s = ⟨countM s.sorts.toNat, countM s.ops.length⟩ by unfold selfM; rw [hv]; rfl)
    clear hv Hs HB HC HZ4
    go_enter Try.func155, Try.ntmps155
    go_wp2
    clear hW hW3 hW4 j0 j1 jf0 jf1
    go_loopw [4] (fun i wr => ∃ k : Nat, ∃ u, (k : Int) ≤ s.sorts ∧ i = .int .i64 k ∧ Loc 39 W4 wr W.heap.size #[u, .slice none 0 0] u (countM k)) (fun i _ => s.sorts.toNat - (intOf i).toNat)
    case atStart => exact ⟨0, _, by omega, rfl, Loc.start HL4.out⟩
    case round =>
      obtain ⟨k, u, hk, rfl, hloc⟩ := hrel
      have HLOC := Lib.hid hloc
      have HBW := Lib.hid (hloc.below HB4.out (Nat.le_refl _))
      obtain ⟨Au, cu, rfl, -⟩ := own_reads hloc.own
      have s0 := cell_keep HBW.out HC0.out.1
      have s1 := cell_keep HBW.out HC0.out.2
      clear hloc
      by_cases hlt : (k : Int) < s.sorts
      · skip
        go_wp2_with fail
        refine (specSigValid_any _ s _ (HS0.out.keep HBW.out)).mono ?_
        rw [HV.out]
        rintro e w1 ⟨rfl, hb⟩
        have HL1 := Lib.hid (HLOC.out.keep hb)
        have hs1 := HBW.out.size
        have hs2 := hb.size
        have hs3 := HLOC.out.gr.size
        have HLEN := Lib.hid (countM_len k)
        have HSUC := Lib.hid (countM_succ k)
        have l0 := blk_cell HL1.out.loc 0
        simp at l0
        generalize countM k = ps at HL1 HLEN HSUC l0
        clear hb s0 s1
        go_wp2_with (at_builtin; refine wpList_append_own _ rfl _ _ 26 rfl W4.heap.size 3 i0 (.int .i64 0) 1 8 Try.underlying26 hi0 hz0 hz1 hz2 rfl (by decide) _ ps.length (ps.map (Value.int .i64)) rfl (own_keep HL1.out.own (below_alloc w1 _)) ⟨w1.heap.size, 0, none⟩ 1 1 ([(k : Int)].map (Value.int .i64)) rfl (by simp) (led_new w1 (k : Int)) (ints_one _) (by rw [HLEN.out, maxLen_eq]; omega) (by rw [HLEN.out]; omega) (by simp; omega) ?_)
        intro v6 w6 hv6 hg6 _
        have HO6 := Lib.hid (led_app (rs := [(k : Int)]) rfl hv6)
        obtain ⟨A6, c6, rfl, -⟩ := own_reads hv6
        have HN := Lib.hid (HL1.out.push (cs' := #[.slice A6 (ps.length + 1) c6, .slice none 0 0]) hg6 HO6.out 0 rfl)
        have hl6 := HL1.out.grown hg6
        have q0 := blk_cell hl6 0
        have qf := blk_free hl6 0
        simp at q0
        clear hv6 hg6 hl6 l0
        go_wp2
        go_roundw
        case rel => exact ⟨k + 1, _, by omega, by go_num, by rw [HSUC.out]; exact HN.out⟩
        case measure => simp [intOf]; omega
      · obtain ⟨wz, rfl⟩ : ∃ wz : World, wz = wr := ⟨_, rfl⟩
        have hks : s.sorts.toNat = k := by omega
        have HKS := Lib.hid hks
        have OU := Lib.hid HLOC.out.own
        have HLZ := Lib.hid HLOC.out.loc
        have HBZ := Lib.hid HBW.out
        have hz4 := HLOC.out.gr.size
        go_wp2
        clear s0 s1 hks HBW HLOC
        go_loopw [5] (fun i wr => ∃ j : Nat, ∃ u, j ≤ s.ops.length ∧ i = .int .i64 j ∧ Loc 39 wz wr W.heap.size #[.slice Au (countM k).length cu, u] u (countM j)) (fun i _ => s.ops.length - (intOf i).toNat)
        case atStart => exact ⟨0, _, Nat.zero_le _, rfl, Loc.start HLZ.out⟩
        case round =>
          obtain ⟨j, u, hj, rfl, hloc⟩ := hrel
          have HLOC := Lib.hid hloc
          have HBW := Lib.hid (hloc.below HBZ.out (Nat.le_refl _))
          obtain ⟨Av, cv, rfl, -⟩ := own_reads hloc.own
          have s0 := cell_keep HBW.out HC0.out.1
          have s1 := cell_keep HBW.out HC0.out.2
          clear hloc
          by_cases hlt2 : j < s.ops.length
          · have hlt3 : (j : Int) < (s.ops.length : Int) := by omega
            go_wp2_with fail
            refine (specSigValid_any _ s _ (HS0.out.keep HBW.out)).mono ?_
            rw [HV.out]
            rintro e w1 ⟨rfl, hb⟩
            have HL1 := Lib.hid (HLOC.out.keep hb)
            have hs1 := HBW.out.size
            have hs2 := hb.size
            have hs3 := HLOC.out.gr.size
            have HLEN := Lib.hid (countM_len j)
            have HSUC := Lib.hid (countM_succ j)
            have l0 := blk_cell HL1.out.loc 1
            simp at l0
            generalize countM j = ps at HL1 HLEN HSUC l0
            clear hb s0 s1
            go_wp2_with (at_builtin; refine wpList_append_own _ rfl _ _ 26 rfl wz.heap.size 3 i0 (.int .i64 0) 1 8 Try.underlying26 hi0 hz0 hz1 hz2 rfl (by decide) _ ps.length (ps.map (Value.int .i64)) rfl (own_keep HL1.out.own (below_alloc w1 _)) ⟨w1.heap.size, 0, none⟩ 1 1 ([(j : Int)].map (Value.int .i64)) rfl (by simp) (led_new w1 (j : Int)) (ints_one _) (by rw [HLEN.out, maxLen_eq]; omega) (by rw [HLEN.out]; omega) (by simp; omega) ?_)
            intro v6 w6 hv6 hg6 _
            have HO6 := Lib.hid (led_app (rs := [(j : Int)]) rfl hv6)
            obtain ⟨A6, c6, rfl, -⟩ := own_reads hv6
            have HN := Lib.hid (HL1.out.push (cs' := #[.slice Au (countM k).length cu, .slice A6 (ps.length + 1) c6]) hg6 HO6.out 1 rfl)
            have hl6 := HL1.out.grown hg6
            have q0 := blk_cell hl6 1
            have qf := blk_free hl6 1
            simp at q0
            clear hv6 hg6 hl6 l0
            go_wp2
            go_roundw
            case rel => exact ⟨j + 1, _, by omega, by go_num, by rw [HSUC.out]; exact HN.out⟩
            case measure => simp [intOf]; omega
          · have hlt3 : ¬ (j : Int) < (s.ops.length : Int) := by omega
            have hjn : j = s.ops.length := by omega
            have OU2 := Lib.hid (HLOC.out.other OU.out hlt4)
            have OV := Lib.hid HLOC.out.own
            have AP := Lib.hid (HLOC.out.apart OU.out)
            have HL4' := Lib.hid HLOC.out.loc
            have HB := Lib.hid (sz_keep HB0.out HBW.out)
            have HZ4 := Lib.hid (blk_keep HZ0.out HBW.out)
            have HE2 := Lib.hid (show selfM s = ⟨countM k, countM j⟩ by rw [HE.out, HKS.out, hjn])
            clear hjn
            have l0 := blk_cell HL4'.out 0
            have l1 := blk_cell HL4'.out 1
            simp at l0 l1
            have j0 := blk_cell HZ4.out 0
            have j1 := blk_cell HZ4.out 1
            have jf0 := blk_free HZ4.out 0
            have jf1 := blk_free HZ4.out 1
            simp at j0 j1
            go_wp2
            have d1 := blk_set (blk_set (HZ4.out) 0 (.slice Au (countM k).length cu)) 1 (.slice Av (countM j).length cv)
            have n0 := ((OU2.out.setLow (b := w.heap.size + 1) (by omega) 0 (.slice Au (countM k).length cu)).setLow (b := w.heap.size + 1) (by omega) 1 (.slice Av (countM j).length cv))
            have n1 := ((OV.out.setLow (b := w.heap.size + 1) (by omega) 0 (.slice Au (countM k).length cu)).setLow (b := w.heap.size + 1) (by omega) 1 (.slice Av (countM j).length cv))
            have hbz := ((HB.out.setCell (p := ⟨w.heap.size + 1, 0, none⟩) (by show w.heap.size ≤ w.heap.size + 1; omega) (.slice Au (countM k).length cu)).setCell (p := ⟨w.heap.size + 1, 1, none⟩) (by show w.heap.size ≤ w.heap.size + 1; omega) (.slice Av (countM j).length cv))
            generalize (wr.setCell ⟨w.heap.size + 1, 0, none⟩ (.slice Au (countM k).length cu)).setCell ⟨w.heap.size + 1, 1, none⟩ (.slice Av (countM j).length cv) = wz at d1 hbz n0 n1 ⊢
            have k0 := blk_cell d1 0
            have k1 := blk_cell d1 1
            simp at k0 k1
            clear j0 j1 jf0 jf1 l0 l1 s0 s1
            refine bodyPost_ret (v := .agg #[.slice Au (countM k).length cu, .slice Av (countM j).length cv]) (by simp [results, Try.results155, go_sem, k0, k1]) rfl ?_
            exact ⟨_, rfl, by rw [HE2.out]; exact ⟨_, _, rfl, n0.base (by omega), n1.base (by omega), AP.out⟩, hbz⟩
end

section
open Go.RowKit
set_option linter.unusedVariables false
set_option linter.unusedSimpArgs false
end
end Go.Proofs.Yticldaddbljleaa
