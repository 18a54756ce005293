/- MapSelf, MapTerm, MapEq of package spec. · ViewOk of package spec. -/
import Derived.Test.YtbopcghbmbchkaaK747b89bc
import Derived.Deep.DeepCutAuto
namespace Go.Proofs.Ytbopcghbmbchkaa
section
open Go.RowKit
set_option linter.unusedVariables false
set_option linter.unusedSimpArgs false

theorem own_empty_at (w : World) {b : Nat} (hb : w.heap.size = b) : OInts (w.alloc (.cells #[] 3)) b (.slice (some ⟨b, 0, none⟩) 0 0) [] := by subst hb; exact own_empty w
set_option maxHeartbeats 3200000 in
set_option maxRecDepth 100000 in
theorem specMapEq_any (a b : MSig) (m : MMap) (e : MEq) (w : World) (va vb vm ve : Value) (h1 : RSig w va a) (h2 : RSig w vb b) (h3 : RMap w vm m) (h4 : REq w ve e) :
    Calls Try.prog 49 #[va, vb, vm, ve] w fun x w' => ∃ u, x = .returned (.tuple #[u, .bool (mapEqM a b m e).2]) ∧ OEq w' w.heap.size u (mapEqM a b m e).1 ∧ Below w.heap.size w w' := by
  obtain ⟨Aaa, caa, rfl⟩ := h1.form
  obtain ⟨Aba, cba, rfl⟩ := h2.form
  obtain ⟨Ama, cma, Amb, cmb, rfl⟩ := h3.form
  obtain ⟨Aea, cea, Aeb, ceb, Aec, cec, rfl⟩ := h4.form
  have hb : Below w.heap.size w (((((w.alloc (.cells #[.int .i64 a.sorts, .slice Aaa a.ops.length caa] 37)).alloc (.cells #[.int .i64 b.sorts, .slice Aba b.ops.length cba] 37)).alloc (.cells #[.slice Ama m.sorts.length cma, .slice Amb m.ops.length cmb] 42)).alloc (.cells #[.slice Aea e.vars.length cea, .slice Aeb e.left.length ceb, .slice Aec e.right.length cec] 63)).alloc (.cells #[.slice none 0 0, .slice none 0 0, .slice none 0 0] 63)) := ((((below_alloc _ _).alloc (by simp) _).alloc (by simp; omega) _).alloc (by simp; omega) _).alloc (by simp; omega) _
  have HB := Lib.hid hb
  have hsz : (((((w.alloc (.cells #[.int .i64 a.sorts, .slice Aaa a.ops.length caa] 37)).alloc (.cells #[.int .i64 b.sorts, .slice Aba b.ops.length cba] 37)).alloc (.cells #[.slice Ama m.sorts.length cma, .slice Amb m.ops.length cmb] 42)).alloc (.cells #[.slice Aea e.vars.length cea, .slice Aeb e.left.length ceb, .slice Aec e.right.length cec] 63)).alloc (.cells #[.slice none 0 0, .slice none 0 0, .slice none 0 0] 63)).heap.size = w.heap.size + 5 := by simp
  have Ha := Lib.hid (h1.keep hb)
  have a0 := cell_keep (below_alloc ((((w.alloc (.cells #[.int .i64 a.sorts, .slice Aaa a.ops.length caa] 37)).alloc (.cells #[.int .i64 b.sorts, .slice Aba b.ops.length cba] 37)).alloc (.cells #[.slice Ama m.sorts.length cma, .slice Amb m.ops.length cmb] 42)).alloc (.cells #[.slice Aea e.vars.length cea, .slice Aeb e.left.length ceb, .slice Aec e.right.length cec] 63)) (.cells #[.slice none 0 0, .slice none 0 0, .slice none 0 0] 63)) (cell_keep (below_alloc (((w.alloc (.cells #[.int .i64 a.sorts, .slice Aaa a.ops.length caa] 37)).alloc (.cells #[.int .i64 b.sorts, .slice Aba b.ops.length cba] 37)).alloc (.cells #[.slice Ama m.sorts.length cma, .slice Amb m.ops.length cmb] 42)) (.cells #[.slice Aea e.vars.length cea, .slice Aeb e.left.length ceb, .slice Aec e.right.length cec] 63)) (cell_keep (below_alloc ((w.alloc (.cells #[.int .i64 a.sorts, .slice Aaa a.ops.length caa] 37)).alloc (.cells #[.int .i64 b.sorts, .slice Aba b.ops.length cba] 37)) (.cells #[.slice Ama m.sorts.length cma, .slice Amb m.ops.length cmb] 42)) (cell_keep (below_alloc (w.alloc (.cells #[.int .i64 a.sorts, .slice Aaa a.ops.length caa] 37)) (.cells #[.int .i64 b.sorts, .slice Aba b.ops.length cba] 37)) (bx_at (w) #[.int .i64 a.sorts, .slice Aaa a.ops.length caa] 37 (k := 0) rfl))))
  have a1 := cell_keep (below_alloc ((((w.alloc (.cells #[.int .i64 a.sorts, .slice Aaa a.ops.length caa] 37)).alloc (.cells #[.int .i64 b.sorts, .slice Aba b.ops.length cba] 37)).alloc (.cells #[.slice Ama m.sorts.length cma, .slice Amb m.ops.length cmb] 42)).alloc (.cells #[.slice Aea e.vars.length cea, .slice Aeb e.left.length ceb, .slice Aec e.right.length cec] 63)) (.cells #[.slice none 0 0, .slice none 0 0, .slice none 0 0] 63)) (cell_keep (below_alloc (((w.alloc (.cells #[.int .i64 a.sorts, .slice Aaa a.ops.length caa] 37)).alloc (.cells #[.int .i64 b.sorts, .slice Aba b.ops.length cba] 37)).alloc (.cells #[.slice Ama m.sorts.length cma, .slice Amb m.ops.length cmb] 42)) (.cells #[.slice Aea e.vars.length cea, .slice Aeb e.left.length ceb, .slice Aec e.right.length cec] 63)) (cell_keep (below_alloc ((w.alloc (.cells #[.int .i64 a.sorts, .slice Aaa a.ops.length caa] 37)).alloc (.cells #[.int .i64 b.sorts, .slice Aba b.ops.length cba] 37)) (.cells #[.slice Ama m.sorts.length cma, .slice Amb m.ops.length cmb] 42)) (cell_keep (below_alloc (w.alloc (.cells #[.int .i64 a.sorts, .slice Aaa a.ops.length caa] 37)) (.cells #[.int .i64 b.sorts, .slice Aba b.ops.length cba] 37)) (bx_at (w) #[.int .i64 a.sorts, .slice Aaa a.ops.length caa] 37 (k := 1) rfl))))
  have Hb := Lib.hid (h2.keep hb)
  have b0 := cell_keep (below_alloc ((((w.alloc (.cells #[.int .i64 a.sorts, .slice Aaa a.ops.length caa] 37)).alloc (.cells #[.int .i64 b.sorts, .slice Aba b.ops.length cba] 37)).alloc (.cells #[.slice Ama m.sorts.length cma, .slice Amb m.ops.length cmb] 42)).alloc (.cells #[.slice Aea e.vars.length cea, .slice Aeb e.left.length ceb, .slice Aec e.right.length cec] 63)) (.cells #[.slice none 0 0, .slice none 0 0, .slice none 0 0] 63)) (cell_keep (below_alloc (((w.alloc (.cells #[.int .i64 a.sorts, .slice Aaa a.ops.length caa] 37)).alloc (.cells #[.int .i64 b.sorts, .slice Aba b.ops.length cba] 37)).alloc (.cells #[.slice Ama m.sorts.length cma, .slice Amb m.ops.length cmb] 42)) (.cells #[.slice Aea e.vars.length cea, .slice Aeb e.left.length ceb, .slice Aec e.right.length cec] 63)) (cell_keep (below_alloc ((w.alloc (.cells #[.int .i64 a.sorts, .slice Aaa a.ops.length caa] 37)).alloc (.cells #[.int .i64 b.sorts, .slice Aba b.ops.length cba] 37)) (.cells #[.slice Ama m.sorts.length cma, .slice Amb m.ops.length cmb] 42)) (bx_at (w.alloc (.cells #[.int .i64 a.sorts, .slice Aaa a.ops.length caa] 37)) #[.int .i64 b.sorts, .slice Aba b.ops.length cba] 37 (k := 0) rfl)))
  have b1 := cell_keep (below_alloc ((((w.alloc (.cells #[.int .i64 a.sorts, .slice Aaa a.ops.length caa] 37)).alloc (.cells #[.int .i64 b.sorts, .slice Aba b.ops.length cba] 37)).alloc (.cells #[.slice Ama m.sorts.length cma, .slice Amb m.ops.length cmb] 42)).alloc (.cells #[.slice Aea e.vars.length cea, .slice Aeb e.left.length ceb, .slice Aec e.right.length cec] 63)) (.cells #[.slice none 0 0, .slice none 0 0, .slice none 0 0] 63)) (cell_keep (below_alloc (((w.alloc (.cells #[.int .i64 a.sorts, .slice Aaa a.ops.length caa] 37)).alloc (.cells #[.int .i64 b.sorts, .slice Aba b.ops.length cba] 37)).alloc (.cells #[.slice Ama m.sorts.length cma, .slice Amb m.ops.length cmb] 42)) (.cells #[.slice Aea e.vars.length cea, .slice Aeb e.left.length ceb, .slice Aec e.right.length cec] 63)) (cell_keep (below_alloc ((w.alloc (.cells #[.int .i64 a.sorts, .slice Aaa a.ops.length caa] 37)).alloc (.cells #[.int .i64 b.sorts, .slice Aba b.ops.length cba] 37)) (.cells #[.slice Ama m.sorts.length cma, .slice Amb m.ops.length cmb] 42)) (bx_at (w.alloc (.cells #[.int .i64 a.sorts, .slice Aaa a.ops.length caa] 37)) #[.int .i64 b.sorts, .slice Aba b.ops.length cba] 37 (k := 1) rfl)))
  have Hm := Lib.hid (h3.keep hb)
  have m0 := cell_keep (below_alloc ((((w.alloc (.cells #[.int .i64 a.sorts, .slice Aaa a.ops.length caa] 37)).alloc (.cells #[.int .i64 b.sorts, .slice Aba b.ops.length cba] 37)).alloc (.cells #[.slice Ama m.sorts.length cma, .slice Amb m.ops.length cmb] 42)).alloc (.cells #[.slice Aea e.vars.length cea, .slice Aeb e.left.length ceb, .slice Aec e.right.length cec] 63)) (.cells #[.slice none 0 0, .slice none 0 0, .slice none 0 0] 63)) (cell_keep (below_alloc (((w.alloc (.cells #[.int .i64 a.sorts, .slice Aaa a.ops.length caa] 37)).alloc (.cells #[.int .i64 b.sorts, .slice Aba b.ops.length cba] 37)).alloc (.cells #[.slice Ama m.sorts.length cma, .slice Amb m.ops.length cmb] 42)) (.cells #[.slice Aea e.vars.length cea, .slice Aeb e.left.length ceb, .slice Aec e.right.length cec] 63)) (bx_at ((w.alloc (.cells #[.int .i64 a.sorts, .slice Aaa a.ops.length caa] 37)).alloc (.cells #[.int .i64 b.sorts, .slice Aba b.ops.length cba] 37)) #[.slice Ama m.sorts.length cma, .slice Amb m.ops.length cmb] 42 (k := 0) rfl))
  have m1 := cell_keep (below_alloc ((((w.alloc (.cells #[.int .i64 a.sorts, .slice Aaa a.ops.length caa] 37)).alloc (.cells #[.int .i64 b.sorts, .slice Aba b.ops.length cba] 37)).alloc (.cells #[.slice Ama m.sorts.length cma, .slice Amb m.ops.length cmb] 42)).alloc (.cells #[.slice Aea e.vars.length cea, .slice Aeb e.left.length ceb, .slice Aec e.right.length cec] 63)) (.cells #[.slice none 0 0, .slice none 0 0, .slice none 0 0] 63)) (cell_keep (below_alloc (((w.alloc (.cells #[.int .i64 a.sorts, .slice Aaa a.ops.length caa] 37)).alloc (.cells #[.int .i64 b.sorts, .slice Aba b.ops.length cba] 37)).alloc (.cells #[.slice Ama m.sorts.length cma, .slice Amb m.ops.length cmb] 42)) (.cells #[.slice Aea e.vars.length cea, .slice Aeb e.left.length ceb, .slice Aec e.right.length cec] 63)) (bx_at ((w.alloc (.cells #[.int .i64 a.sorts, .slice Aaa a.ops.length caa] 37)).alloc (.cells #[.int .i64 b.sorts, .slice Aba b.ops.length cba] 37)) #[.slice Ama m.sorts.length cma, .slice Amb m.ops.length cmb] 42 (k := 1) rfl))
  have He := Lib.hid (h4.keep hb)
  have e0 := cell_keep (below_alloc ((((w.alloc (.cells #[.int .i64 a.sorts, .slice Aaa a.ops.length caa] 37)).alloc (.cells #[.int .i64 b.sorts, .slice Aba b.ops.length cba] 37)).alloc (.cells #[.slice Ama m.sorts.length cma, .slice Amb m.ops.length cmb] 42)).alloc (.cells #[.slice Aea e.vars.length cea, .slice Aeb e.left.length ceb, .slice Aec e.right.length cec] 63)) (.cells #[.slice none 0 0, .slice none 0 0, .slice none 0 0] 63)) (bx_at (((w.alloc (.cells #[.int .i64 a.sorts, .slice Aaa a.ops.length caa] 37)).alloc (.cells #[.int .i64 b.sorts, .slice Aba b.ops.length cba] 37)).alloc (.cells #[.slice Ama m.sorts.length cma, .slice Amb m.ops.length cmb] 42)) #[.slice Aea e.vars.length cea, .slice Aeb e.left.length ceb, .slice Aec e.right.length cec] 63 (k := 0) rfl)
  have e1 := cell_keep (below_alloc ((((w.alloc (.cells #[.int .i64 a.sorts, .slice Aaa a.ops.length caa] 37)).alloc (.cells #[.int .i64 b.sorts, .slice Aba b.ops.length cba] 37)).alloc (.cells #[.slice Ama m.sorts.length cma, .slice Amb m.ops.length cmb] 42)).alloc (.cells #[.slice Aea e.vars.length cea, .slice Aeb e.left.length ceb, .slice Aec e.right.length cec] 63)) (.cells #[.slice none 0 0, .slice none 0 0, .slice none 0 0] 63)) (bx_at (((w.alloc (.cells #[.int .i64 a.sorts, .slice Aaa a.ops.length caa] 37)).alloc (.cells #[.int .i64 b.sorts, .slice Aba b.ops.length cba] 37)).alloc (.cells #[.slice Ama m.sorts.length cma, .slice Amb m.ops.length cmb] 42)) #[.slice Aea e.vars.length cea, .slice Aeb e.left.length ceb, .slice Aec e.right.length cec] 63 (k := 1) rfl)
  have e2 := cell_keep (below_alloc ((((w.alloc (.cells #[.int .i64 a.sorts, .slice Aaa a.ops.length caa] 37)).alloc (.cells #[.int .i64 b.sorts, .slice Aba b.ops.length cba] 37)).alloc (.cells #[.slice Ama m.sorts.length cma, .slice Amb m.ops.length cmb] 42)).alloc (.cells #[.slice Aea e.vars.length cea, .slice Aeb e.left.length ceb, .slice Aec e.right.length cec] 63)) (.cells #[.slice none 0 0, .slice none 0 0, .slice none 0 0] 63)) (bx_at (((w.alloc (.cells #[.int .i64 a.sorts, .slice Aaa a.ops.length caa] 37)).alloc (.cells #[.int .i64 b.sorts, .slice Aba b.ops.length cba] 37)).alloc (.cells #[.slice Ama m.sorts.length cma, .slice Amb m.ops.length cmb] 42)) #[.slice Aea e.vars.length cea, .slice Aeb e.left.length ceb, .slice Aec e.right.length cec] 63 (k := 2) rfl)
  have HZr := Lib.hid (show (((((w.alloc (.cells #[.int .i64 a.sorts, .slice Aaa a.ops.length caa] 37)).alloc (.cells #[.int .i64 b.sorts, .slice Aba b.ops.length cba] 37)).alloc (.cells #[.slice Ama m.sorts.length cma, .slice Amb m.ops.length cmb] 42)).alloc (.cells #[.slice Aea e.vars.length cea, .slice Aeb e.left.length ceb, .slice Aec e.right.length cec] 63)).alloc (.cells #[.slice none 0 0, .slice none 0 0, .slice none 0 0] 63)).heap[w.heap.size + 1 + 1 + 1 + 1]? = some (.cells #[.slice none 0 0, .slice none 0 0, .slice none 0 0] 63 (0, 0)) from (congrArg (fun i => (((((w.alloc (.cells #[.int .i64 a.sorts, .slice Aaa a.ops.length caa] 37)).alloc (.cells #[.int .i64 b.sorts, .slice Aba b.ops.length cba] 37)).alloc (.cells #[.slice Ama m.sorts.length cma, .slice Amb m.ops.length cmb] 42)).alloc (.cells #[.slice Aea e.vars.length cea, .slice Aeb e.left.length ceb, .slice Aec e.right.length cec] 63)).alloc (.cells #[.slice none 0 0, .slice none 0 0, .slice none 0 0] 63)).heap[i]?) (by simp)).trans (heap_alloc_new ((((w.alloc (.cells #[.int .i64 a.sorts, .slice Aaa a.ops.length caa] 37)).alloc (.cells #[.int .i64 b.sorts, .slice Aba b.ops.length cba] 37)).alloc (.cells #[.slice Ama m.sorts.length cma, .slice Amb m.ops.length cmb] 42)).alloc (.cells #[.slice Aea e.vars.length cea, .slice Aeb e.left.length ceb, .slice Aec e.right.length cec] 63)) _))
  simp only [World.size_alloc] at b0 b1 m0 m1 e0 e1 e2
  generalize hW : ((((w.alloc (.cells #[.int .i64 a.sorts, .slice Aaa a.ops.length caa] 37)).alloc (.cells #[.int .i64 b.sorts, .slice Aba b.ops.length cba] 37)).alloc (.cells #[.slice Ama m.sorts.length cma, .slice Amb m.ops.length cmb] 42)).alloc (.cells #[.slice Aea e.vars.length cea, .slice Aeb e.left.length ceb, .slice Aec e.right.length cec] 63)).alloc (.cells #[.slice none 0 0, .slice none 0 0, .slice none 0 0] 63) = W at HB hsz Ha a0 a1 Hb b0 b1 Hm m0 m1 He e0 e1 e2 HZr
  clear hb h1 h2 h3 h4
  cases hm : mapOkB a b m with
  | false =>
    have HM := Lib.hid hm
    have HE := Lib.hid (show mapEqM a b m e = (noEq, false) by unfold mapEqM; rw [hm]; rfl)
    clear hm
    go_enter Try.func49, Try.ntmps49
    go_wp2_with fail
    clear hW
    refine (specMapOk_any a b m _ _ _ _ Ha.out Hb.out Hm.out).mono ?_
    rw [HM.out]
    rintro e w1 ⟨rfl, hb⟩
    replace HB := Lib.hid (sz_keep HB.out hb)
    replace HZr := Lib.hid (blk_keep HZr.out hb)
    clear hb
    clear a0 a1 b0 b1 m0 m1 e0 e1 e2
    have j0 := blk_cell HZr.out 0
    have j1 := blk_cell HZr.out 1
    have j2 := blk_cell HZr.out 2
    have jf0 := blk_free HZr.out 0
    have jf1 := blk_free HZr.out 1
    have jf2 := blk_free HZr.out 2
    simp at j0 j1 j2
    go_wp2
    have d1 := blk_set (blk_set (blk_set (HZr.out) 0 (.slice none 0 0)) 1 (.slice none 0 0)) 2 (.slice none 0 0)
    have hbz := (((HB.out.setCell (p := ⟨w.heap.size + 1 + 1 + 1 + 1, 0, none⟩) (by show w.heap.size ≤ w.heap.size + 1 + 1 + 1 + 1; omega) (.slice none 0 0)).setCell (p := ⟨w.heap.size + 1 + 1 + 1 + 1, 1, none⟩) (by show w.heap.size ≤ w.heap.size + 1 + 1 + 1 + 1; omega) (.slice none 0 0)).setCell (p := ⟨w.heap.size + 1 + 1 + 1 + 1, 2, none⟩) (by show w.heap.size ≤ w.heap.size + 1 + 1 + 1 + 1; omega) (.slice none 0 0))
    generalize ((w1.setCell ⟨w.heap.size + 1 + 1 + 1 + 1, 0, none⟩ (.slice none 0 0)).setCell ⟨w.heap.size + 1 + 1 + 1 + 1, 1, none⟩ (.slice none 0 0)).setCell ⟨w.heap.size + 1 + 1 + 1 + 1, 2, none⟩ (.slice none 0 0) = wz at d1 hbz  ⊢
    have k0 := blk_cell d1 0
    have k1 := blk_cell d1 1
    have k2 := blk_cell d1 2
    simp at k0 k1 k2
    clear j0 j1 j2 jf0 jf1 jf2
    refine bodyPost_ret (v := .tuple #[.agg #[.slice none 0 0, .slice none 0 0, .slice none 0 0], .bool false]) (by simp [results, Try.results49, go_sem, k0, k1, k2]) rfl ?_
    exact ⟨_, by rw [HE.out], by rw [HE.out]; exact nil_eq _ _, hbz⟩
  | true =>
    have HM := Lib.hid hm
    clear hm
    cases he : eqOkB a e with
    | false =>
      have HN := Lib.hid he
      have HE := Lib.hid (show mapEqM a b m e = (noEq, false) by unfold mapEqM; rw [he, Bool.and_false]; rfl)
      clear he
      go_enter Try.func49, Try.ntmps49
      go_wp2_with fail
      clear hW
      refine (specMapOk_any a b m _ _ _ _ Ha.out Hb.out Hm.out).mono ?_
      rw [HM.out]
      rintro e w1 ⟨rfl, hb⟩
      clear b0 b1 m0 m1
      replace HB := Lib.hid (sz_keep HB.out hb)
      replace a0 := cell_keep hb a0
      replace a1 := cell_keep hb a1
      replace e0 := cell_keep hb e0
      replace e1 := cell_keep hb e1
      replace e2 := cell_keep hb e2
      replace Ha := Lib.hid (Ha.out.keep hb)
      replace He := Lib.hid (He.out.keep hb)
      replace HZr := Lib.hid (blk_keep HZr.out hb)
      clear hb
      go_wp2_with fail
      refine (specEqOk_any a e _ _ _ Ha.out He.out).mono ?_
      rw [HN.out]
      rintro e w2 ⟨rfl, hb⟩
      replace HB := Lib.hid (sz_keep HB.out hb)
      replace HZr := Lib.hid (blk_keep HZr.out hb)
      clear hb
      clear a0 a1 e0 e1 e2
      have j0 := blk_cell HZr.out 0
      have j1 := blk_cell HZr.out 1
      have j2 := blk_cell HZr.out 2
      have jf0 := blk_free HZr.out 0
      have jf1 := blk_free HZr.out 1
      have jf2 := blk_free HZr.out 2
      simp at j0 j1 j2
      go_wp2
      have d1 := blk_set (blk_set (blk_set (HZr.out) 0 (.slice none 0 0)) 1 (.slice none 0 0)) 2 (.slice none 0 0)
      have hbz := (((HB.out.setCell (p := ⟨w.heap.size + 1 + 1 + 1 + 1, 0, none⟩) (by show w.heap.size ≤ w.heap.size + 1 + 1 + 1 + 1; omega) (.slice none 0 0)).setCell (p := ⟨w.heap.size + 1 + 1 + 1 + 1, 1, none⟩) (by show w.heap.size ≤ w.heap.size + 1 + 1 + 1 + 1; omega) (.slice none 0 0)).setCell (p := ⟨w.heap.size + 1 + 1 + 1 + 1, 2, none⟩) (by show w.heap.size ≤ w.heap.size + 1 + 1 + 1 + 1; omega) (.slice none 0 0))
      generalize ((w2.setCell ⟨w.heap.size + 1 + 1 + 1 + 1, 0, none⟩ (.slice none 0 0)).setCell ⟨w.heap.size + 1 + 1 + 1 + 1, 1, none⟩ (.slice none 0 0)).setCell ⟨w.heap.size + 1 + 1 + 1 + 1, 2, none⟩ (.slice none 0 0) = wz at d1 hbz  ⊢
      have k0 := blk_cell d1 0
      have k1 := blk_cell d1 1
      have k2 := blk_cell d1 2
      simp at k0 k1 k2
      clear j0 j1 j2 jf0 jf1 jf2
      refine bodyPost_ret (v := .tuple #[.agg #[.slice none 0 0, .slice none 0 0, .slice none 0 0], .bool false]) (by simp [results, Try.results49, go_sem, k0, k1, k2]) rfl ?_
      exact ⟨_, by rw [HE.out], by rw [HE.out]; exact nil_eq _ _, hbz⟩
    | true =>
      have HN := Lib.hid he
      have HE := Lib.hid (show mapEqM a b m e = (ledE m e, true) by unfold mapEqM; rw [HM.out, he]; rfl)
      have HIN := Lib.hid (eqIn_of (mapOk_facts HM.out) he)
      clear he
      go_enter Try.func49, Try.ntmps49
      go_wp2_with fail
      clear hW
      refine (specMapOk_any a b m _ _ _ _ Ha.out Hb.out Hm.out).mono ?_
      rw [HM.out]
      rintro e w1 ⟨rfl, hb⟩
      clear b0 b1
      replace HB := Lib.hid (sz_keep HB.out hb)
      replace a0 := cell_keep hb a0
      replace a1 := cell_keep hb a1
      replace m0 := cell_keep hb m0
      replace m1 := cell_keep hb m1
      replace e0 := cell_keep hb e0
      replace e1 := cell_keep hb e1
      replace e2 := cell_keep hb e2
      replace Ha := Lib.hid (Ha.out.keep hb)
      replace Hm := Lib.hid (Hm.out.keep hb)
      replace He := Lib.hid (He.out.keep hb)
      replace HZr := Lib.hid (blk_keep HZr.out hb)
      clear hb
      go_wp2_with fail
      refine (specEqOk_any a e _ _ _ Ha.out He.out).mono ?_
      rw [HN.out]
      rintro e w2 ⟨rfl, hb⟩
      clear a0 a1
      replace HB := Lib.hid (sz_keep HB.out hb)
      replace m0 := cell_keep hb m0
      replace m1 := cell_keep hb m1
      replace e0 := cell_keep hb e0
      replace e1 := cell_keep hb e1
      replace e2 := cell_keep hb e2
      replace Hm := Lib.hid (Hm.out.keep hb)
      replace He := Lib.hid (He.out.keep hb)
      replace HZr := Lib.hid (blk_keep HZr.out hb)
      clear hb
      have hv1 := HIN.out.vl
      have hv2 := HIN.out.ll
      have hv3 := HIN.out.rl
      go_wp2_with fail
      refine wp_region_held_drew (S := (fun w' => w'.cell? ⟨w.heap.size + 1 + 1, 0, none⟩ = some (.slice Ama m.sorts.length cma) ∧ w'.cell? ⟨w.heap.size + 1 + 1, 1, none⟩ = some (.slice Amb m.ops.length cmb) ∧ w'.cell? ⟨w.heap.size + 1 + 1 + 1, 0, none⟩ = some (.slice Aea e.vars.length cea) ∧ w'.cell? ⟨w.heap.size + 1 + 1 + 1, 1, none⟩ = some (.slice Aeb e.left.length ceb) ∧ w'.cell? ⟨w.heap.size + 1 + 1 + 1, 2, none⟩ = some (.slice Aec e.right.length cec))) (by kernel_rfl) ?_ (fun hHeld => ?_)
      · exact ⟨m0, m1, e0, e1, e2⟩
      refine wpAnyH_take (i := 0) (oi := _) (v := ?_) rfl (by kernel_rfl) (by kernel_rfl) (by kernel_rfl) (fun _ _ _ h => h) (Or.inl ⟨by rfl, ?_⟩) (by assumption) ?_
      rotate_left
      · first | (intro w' hSw; (try dsimp only at hSw); go_simp; done) | (intro w' hSw; (try dsimp only at hSw); go_simp; with_reducible rfl)
      try simp only [Act.put, List.getElem_toArray, List.getElem_cons_zero, List.getElem_cons_succ, List.setIfInBounds_toArray, List.set_cons_zero, List.set_cons_succ]
      refine wpAnyH_take (i := 1) (oi := _) (v := ?_) rfl (by kernel_rfl) (by kernel_rfl) (by kernel_rfl) (fun _ _ _ h => h) (Or.inl ⟨by rfl, ?_⟩) (by assumption) ?_
      rotate_left
      · first | (intro w' hSw; (try dsimp only at hSw); go_simp; done) | (intro w' hSw; (try dsimp only at hSw); go_simp; with_reducible rfl)
      try simp only [Act.put, List.getElem_toArray, List.getElem_cons_zero, List.getElem_cons_succ, List.setIfInBounds_toArray, List.set_cons_zero, List.set_cons_succ]
      refine wpAnyH_take (i := 2) (oi := _) (v := ?_) rfl (by kernel_rfl) (by kernel_rfl) (by kernel_rfl) (fun _ _ _ h => h) (Or.inl ⟨by rfl, ?_⟩) (by assumption) ?_
      rotate_left
      · first | (intro w' hSw; (try dsimp only at hSw); go_simp; done) | (intro w' hSw; (try dsimp only at hSw); go_simp; with_reducible rfl)
      try simp only [Act.put, List.getElem_toArray, List.getElem_cons_zero, List.getElem_cons_succ, List.setIfInBounds_toArray, List.set_cons_zero, List.set_cons_succ]
      refine wpAnyH_take (i := 4) (oi := _) (v := ?_) rfl (by kernel_rfl) (by kernel_rfl) (by kernel_rfl) (fun _ _ _ h => h) (Or.inl ⟨by rfl, ?_⟩) (by assumption) ?_
      rotate_left
      · first | (intro w' hSw; (try dsimp only at hSw); go_simp; done) | (intro w' hSw; (try dsimp only at hSw); go_simp; with_reducible rfl)
      try simp only [Act.put, List.getElem_toArray, List.getElem_cons_zero, List.getElem_cons_succ, List.setIfInBounds_toArray, List.set_cons_zero, List.set_cons_succ]
      refine wpAnyH_take (i := 5) (oi := _) (v := ?_) rfl (by kernel_rfl) (by kernel_rfl) (by kernel_rfl) (fun _ _ _ h => h) (Or.inl ⟨by rfl, ?_⟩) (by assumption) ?_
      rotate_left
      · first | (intro w' hSw; (try dsimp only at hSw); go_simp; done) | (intro w' hSw; (try dsimp only at hSw); go_simp; with_reducible rfl)
      try simp only [Act.put, List.getElem_toArray, List.getElem_cons_zero, List.getElem_cons_succ, List.setIfInBounds_toArray, List.set_cons_zero, List.set_cons_succ]
      refine wpAnyH_take (i := 6) (oi := _) (v := ?_) rfl (by kernel_rfl) (by kernel_rfl) (by kernel_rfl) (fun _ _ _ h => h) (Or.inl ⟨by rfl, ?_⟩) (by assumption) ?_
      rotate_left
      · first | (intro w' hSw; (try dsimp only at hSw); go_simp; done) | (intro w' hSw; (try dsimp only at hSw); go_simp; with_reducible rfl)
      try simp only [Act.put, List.getElem_toArray, List.getElem_cons_zero, List.getElem_cons_succ, List.setIfInBounds_toArray, List.set_cons_zero, List.set_cons_succ]
      refine wpAnyH_take (i := 8) (oi := _) (v := ?_) rfl (by kernel_rfl) (by kernel_rfl) (by kernel_rfl) (fun _ _ _ h => h) (Or.inl ⟨by rfl, ?_⟩) (by assumption) ?_
      rotate_left
      · first | (intro w' hSw; (try dsimp only at hSw); go_simp; done) | (intro w' hSw; (try dsimp only at hSw); go_simp; with_reducible rfl)
      try simp only [Act.put, List.getElem_toArray, List.getElem_cons_zero, List.getElem_cons_succ, List.setIfInBounds_toArray, List.set_cons_zero, List.set_cons_succ]
      refine wpAnyH_take (i := 9) (oi := _) (v := ?_) rfl (by kernel_rfl) (by kernel_rfl) (by kernel_rfl) (fun _ _ _ h => h) (Or.inl ⟨by rfl, ?_⟩) (by assumption) ?_
      rotate_left
      · first | (intro w' hSw; (try dsimp only at hSw); go_simp; done) | (intro w' hSw; (try dsimp only at hSw); go_simp; with_reducible rfl)
      try simp only [Act.put, List.getElem_toArray, List.getElem_cons_zero, List.getElem_cons_succ, List.setIfInBounds_toArray, List.set_cons_zero, List.set_cons_succ]
      refine wpAnyH_take (i := 10) (oi := _) (v := ?_) rfl (by kernel_rfl) (by kernel_rfl) (by kernel_rfl) (fun _ _ _ h => h) (Or.inl ⟨by rfl, ?_⟩) (by assumption) ?_
      rotate_left
      · first | (intro w' hSw; (try dsimp only at hSw); go_simp; done) | (intro w' hSw; (try dsimp only at hSw); go_simp; with_reducible rfl)
      try simp only [Act.put, List.getElem_toArray, List.getElem_cons_zero, List.getElem_cons_succ, List.setIfInBounds_toArray, List.set_cons_zero, List.set_cons_succ]
      refine wpAnyH_ready (rs := [3]) (by kernel_rfl) (by simp) ?_
      refine AllReadyH.cons (o := _) rfl (fun K hK => ?_) AllReadyH.nil
      go_simp
      refine (l4Row_any _ _ e.vars m w2.drew (Hm.out.keep (map_drew (Below.refl _ _))) (He.out.of.1.keep (map_drew (Below.refl _ _))) (fun x hx => HIN.out.vi x hx (HIN.out.vs x hx)) (by omega)).mono ?_
      rw [rowLed_led HIN.out.vs]
      rintro e w3 ⟨u3, rfl, ho3, hb3⟩
      have hx3 := map_undrew hb3
      obtain ⟨A3, c3, rfl, -⟩ := ho3.reads.form
      have O3_w3 := Lib.hid (show OInts w3 w2.heap.size _ _ from ho3)
      have HX3 := Lib.hid (hx3)
      have p0 := cell_keep hx3 m0
      have p1 := cell_keep hx3 m1
      have p2 := cell_keep hx3 e0
      have p3 := cell_keep hx3 e1
      have p4 := cell_keep hx3 e2
      have HQ3 := Lib.hid hx3
      clear ho3 hb3
      go_wp2_with fail
      refine hK.out _ _ ?_ (fun hHeld => ?_)
      · exact ⟨p0, p1, p2, p3, p4⟩
      clear hK K
      try simp only [Act.put, List.getElem_toArray, List.getElem_cons_zero, List.getElem_cons_succ, List.setIfInBounds_toArray, List.set_cons_zero, List.set_cons_succ]
      refine wpAnyH_ready (rs := [7]) (by kernel_rfl) (by simp) ?_
      refine AllReadyH.cons (o := _) rfl (fun K hK => ?_) AllReadyH.nil
      go_simp
      refine (l4Term_any _ _ e.left m w3 (Hm.out.keep HX3.out) (He.out.of.2.1.keep HX3.out) HIN.out.li (by omega)).mono ?_
      rintro e w4 ⟨u4, rfl, ho4, hb4⟩
      have hx4 := hb4
      obtain ⟨A4, c4, rfl, -⟩ := ho4.reads.form
      have AP3_4 := Lib.hid (apart_later O3_w3.out ho4)
      have O3_w4 := Lib.hid (O3_w3.out.keep hx4)
      have O4_w4 := Lib.hid (show OInts w4 w3.heap.size _ _ from ho4)
      have HX4 := Lib.hid (sz_keep HX3.out hx4)
      have q0 := cell_keep hx4 p0
      have q1 := cell_keep hx4 p1
      have q2 := cell_keep hx4 p2
      have q3 := cell_keep hx4 p3
      have q4 := cell_keep hx4 p4
      have HQ4 := Lib.hid hx4
      clear ho4 hb4 hx4
      go_wp2_with fail
      refine hK.out _ _ ?_ (fun hHeld => ?_)
      · exact ⟨q0, q1, q2, q3, q4⟩
      clear hK K
      try simp only [Act.put, List.getElem_toArray, List.getElem_cons_zero, List.getElem_cons_succ, List.setIfInBounds_toArray, List.set_cons_zero, List.set_cons_succ]
      refine wpAnyH_ready (rs := [11]) (by kernel_rfl) (by simp) ?_
      refine AllReadyH.cons (o := _) rfl (fun K hK => ?_) AllReadyH.nil
      go_simp
      refine (l4Term_any _ _ e.right m w4 (Hm.out.keep HX4.out) (He.out.of.2.2.keep HX4.out) HIN.out.ri (by omega)).mono ?_
      rintro e w5 ⟨u5, rfl, ho5, hb5⟩
      have hx5 := hb5
      obtain ⟨A5, c5, rfl, -⟩ := ho5.reads.form
      have AP3_5 := Lib.hid (apart_later O3_w4.out ho5)
      have O3_w5 := Lib.hid (O3_w4.out.keep hx5)
      have AP4_5 := Lib.hid (apart_later O4_w4.out ho5)
      have O4_w5 := Lib.hid (O4_w4.out.keep hx5)
      have O5_w5 := Lib.hid (show OInts w5 w4.heap.size _ _ from ho5)
      have HX5 := Lib.hid (sz_keep HX4.out hx5)
      have t0 := cell_keep hx5 q0
      have t1 := cell_keep hx5 q1
      have t2 := cell_keep hx5 q2
      have t3 := cell_keep hx5 q3
      have t4 := cell_keep hx5 q4
      have HQ5 := Lib.hid hx5
      have HZ5 := Lib.hid (blk_keep HZr.out HX5.out)
      have HSZ := Lib.hid (And.intro HB.out.size (And.intro HX3.out.size (And.intro HQ4.out.size HQ5.out.size)))
      have HBN := Lib.hid (sz_keep HB.out HX5.out)
      have j0 := blk_cell HZ5.out 0
      have j1 := blk_cell HZ5.out 1
      have j2 := blk_cell HZ5.out 2
      have jf0 := blk_free HZ5.out 0
      have jf1 := blk_free HZ5.out 1
      have jf2 := blk_free HZ5.out 2
      simp at j0 j1 j2
      clear ho5 hb5 hx5
      go_wp2_with fail
      refine hK.out _ _ ?_ (fun hHeld => ?_)
      · exact ⟨t0, t1, t2, t3, t4⟩
      clear hK K
      try simp only [Act.put, List.getElem_toArray, List.getElem_cons_zero, List.getElem_cons_succ, List.setIfInBounds_toArray, List.set_cons_zero, List.set_cons_succ]
      refine wpAnyH_take (i := 12) (oi := _) (v := ?_) rfl (by kernel_rfl) (by kernel_rfl) (by kernel_rfl) (fun _ _ _ h => h) (Or.inl ⟨by rfl, ?_⟩) (by assumption) ?_
      rotate_left
      · first | (intro w' hSw; (try dsimp only at hSw); go_simp; done) | (intro w' hSw; (try dsimp only at hSw); go_simp; with_reducible rfl)
      try simp only [Act.put, List.getElem_toArray, List.getElem_cons_zero, List.getElem_cons_succ, List.setIfInBounds_toArray, List.set_cons_zero, List.set_cons_succ]
      refine wpAnyH_ready (rs := [13]) (by kernel_rfl) (by simp) ?_
      refine AllReadyH.cons (o := _) rfl (fun K hK => ?_) AllReadyH.nil
      go_simp
      skip
      go_wp2_with fail
      refine hK.out _ _ ?_ (fun hHeld => ?_)
      · exact ⟨(set_other (by omega) _ _ _).trans ((set_other (by omega) _ _ _).trans ((set_other (by omega) _ _ _).trans t0)), (set_other (by omega) _ _ _).trans ((set_other (by omega) _ _ _).trans ((set_other (by omega) _ _ _).trans t1)), (set_other (by omega) _ _ _).trans ((set_other (by omega) _ _ _).trans ((set_other (by omega) _ _ _).trans t2)), (set_other (by omega) _ _ _).trans ((set_other (by omega) _ _ _).trans ((set_other (by omega) _ _ _).trans t3)), (set_other (by omega) _ _ _).trans ((set_other (by omega) _ _ _).trans ((set_other (by omega) _ _ _).trans t4))⟩
      clear hK K
      try simp only [Act.put, List.getElem_toArray, List.getElem_cons_zero, List.getElem_cons_succ, List.setIfInBounds_toArray, List.set_cons_zero, List.set_cons_succ]
      refine wpAnyH_take (i := 14) (oi := _) (v := ?_) rfl (by kernel_rfl) (by kernel_rfl) (by kernel_rfl) (fun _ _ _ h => h) (Or.inl ⟨by rfl, ?_⟩) (by assumption) ?_
      rotate_left
      · first | (intro w' hSw; (try dsimp only at hSw); go_simp; done) | (intro w' hSw; (try dsimp only at hSw); go_simp; with_reducible rfl)
      try simp only [Act.put, List.getElem_toArray, List.getElem_cons_zero, List.getElem_cons_succ, List.setIfInBounds_toArray, List.set_cons_zero, List.set_cons_succ]
      refine wpAnyH_done (by kernel_rfl) ?_ _
      clear m0 m1 e0 e1 e2 p0 p1 p2 p3 p4 q0 q1 q2 q3 q4 t0 t1 t2 t3 t4
      have hZ1 : w.heap.size + 1 + 1 + 1 + 1 < w2.heap.size := (Array.getElem?_eq_some_iff.1 HZr.out).1
      have hZ2 := HSZ.out
      replace HB := HBN
      go_wp2
      have d1 := blk_set (blk_set (blk_set (HZ5.out) 0 (.slice A3 (ledM m.sorts e.vars).length c3)) 1 (.slice A4 (ledM m.ops e.left).length c4)) 2 (.slice A5 (ledM m.ops e.right).length c5)
      have n0 := (((O3_w5.out.setLow (b := w.heap.size + 1 + 1 + 1 + 1) (by omega) 0 (.slice A3 (ledM m.sorts e.vars).length c3)).setLow (b := w.heap.size + 1 + 1 + 1 + 1) (by omega) 1 (.slice A4 (ledM m.ops e.left).length c4)).setLow (b := w.heap.size + 1 + 1 + 1 + 1) (by omega) 2 (.slice A5 (ledM m.ops e.right).length c5))
      have n1 := (((O4_w5.out.setLow (b := w.heap.size + 1 + 1 + 1 + 1) (by omega) 0 (.slice A3 (ledM m.sorts e.vars).length c3)).setLow (b := w.heap.size + 1 + 1 + 1 + 1) (by omega) 1 (.slice A4 (ledM m.ops e.left).length c4)).setLow (b := w.heap.size + 1 + 1 + 1 + 1) (by omega) 2 (.slice A5 (ledM m.ops e.right).length c5))
      have n2 := (((O5_w5.out.setLow (b := w.heap.size + 1 + 1 + 1 + 1) (by omega) 0 (.slice A3 (ledM m.sorts e.vars).length c3)).setLow (b := w.heap.size + 1 + 1 + 1 + 1) (by omega) 1 (.slice A4 (ledM m.ops e.left).length c4)).setLow (b := w.heap.size + 1 + 1 + 1 + 1) (by omega) 2 (.slice A5 (ledM m.ops e.right).length c5))
      have hbz := (((HB.out.setCell (p := ⟨w.heap.size + 1 + 1 + 1 + 1, 0, none⟩) (by show w.heap.size ≤ w.heap.size + 1 + 1 + 1 + 1; omega) (.slice A3 (ledM m.sorts e.vars).length c3)).setCell (p := ⟨w.heap.size + 1 + 1 + 1 + 1, 1, none⟩) (by show w.heap.size ≤ w.heap.size + 1 + 1 + 1 + 1; omega) (.slice A4 (ledM m.ops e.left).length c4)).setCell (p := ⟨w.heap.size + 1 + 1 + 1 + 1, 2, none⟩) (by show w.heap.size ≤ w.heap.size + 1 + 1 + 1 + 1; omega) (.slice A5 (ledM m.ops e.right).length c5))
      generalize ((w5.setCell ⟨w.heap.size + 1 + 1 + 1 + 1, 0, none⟩ (.slice A3 (ledM m.sorts e.vars).length c3)).setCell ⟨w.heap.size + 1 + 1 + 1 + 1, 1, none⟩ (.slice A4 (ledM m.ops e.left).length c4)).setCell ⟨w.heap.size + 1 + 1 + 1 + 1, 2, none⟩ (.slice A5 (ledM m.ops e.right).length c5) = wz at d1 hbz n0 n1 n2 ⊢
      have k0 := blk_cell d1 0
      have k1 := blk_cell d1 1
      have k2 := blk_cell d1 2
      simp at k0 k1 k2
      clear j0 j1 j2 jf0 jf1 jf2
      refine bodyPost_ret (v := .tuple #[.agg #[.slice A3 (ledM m.sorts e.vars).length c3, .slice A4 (ledM m.ops e.left).length c4, .slice A5 (ledM m.ops e.right).length c5], .bool true]) (by simp [results, Try.results49, go_sem, k0, k1, k2]) rfl ?_
      exact ⟨_, by rw [HE.out], by rw [HE.out]; exact ⟨_, _, _, rfl, n0.base (by omega), n1.base (by omega), n2.base (by omega), AP3_4.out, AP3_5.out, AP4_5.out⟩, hbz⟩
end

section
open Go.RowKit
set_option linter.unusedVariables false
set_option linter.unusedSimpArgs false
theorem set_blk3v {w : World} {b k : Nat} (h : k ≠ b) (i : Nat) (u : Value) : (w.setCell ⟨b, i, none⟩ u).heap[k]? = w.heap[k]? := Below.heap_setCell w ⟨b, i, none⟩ u k h
set_option maxHeartbeats 3200000 in
set_option maxRecDepth 100000 in
theorem specViewOk_any (a b : MThy) (v : MView) (w : World) (va vb vv : Value) (hsv : SmallV v) (h1 : RThy w va a) (h2 : RThy w vb b) (h3 : RView w vv v) :
    Calls Try.prog 9 #[va, vb, vv] w fun x w' => x = .returned (.bool (viewB a b v)) ∧ Below w.heap.size w w' := by
  obtain ⟨Aaa, caa, Aab, cab, rfl⟩ := h1.form
  obtain ⟨Aba, cba, Abb, cbb, rfl⟩ := h2.form
  obtain ⟨Ava, cva, Avb, cvb, Avc, cvc, rfl⟩ := h3.form
  have hb : Below w.heap.size w (((w.alloc (.cells #[.int .i64 a.over.sorts, .slice Aaa a.over.ops.length caa, .slice Aab a.eqs.length cab] 40)).alloc (.cells #[.int .i64 b.over.sorts, .slice Aba b.over.ops.length cba, .slice Abb b.eqs.length cbb] 40)).alloc (.cells #[.slice Ava v.along.sorts.length cva, .slice Avb v.along.ops.length cvb, .slice Avc v.proofs.length cvc] 45)) := ((below_alloc _ _).alloc (by simp) _).alloc (by simp; omega) _
  have HB := Lib.hid hb
  have hsz : (((w.alloc (.cells #[.int .i64 a.over.sorts, .slice Aaa a.over.ops.length caa, .slice Aab a.eqs.length cab] 40)).alloc (.cells #[.int .i64 b.over.sorts, .slice Aba b.over.ops.length cba, .slice Abb b.eqs.length cbb] 40)).alloc (.cells #[.slice Ava v.along.sorts.length cva, .slice Avb v.along.ops.length cvb, .slice Avc v.proofs.length cvc] 45)).heap.size = w.heap.size + 3 := by simp
  have Ha := Lib.hid (h1.keep hb)
  have a0 := cell_keep (below_alloc ((w.alloc (.cells #[.int .i64 a.over.sorts, .slice Aaa a.over.ops.length caa, .slice Aab a.eqs.length cab] 40)).alloc (.cells #[.int .i64 b.over.sorts, .slice Aba b.over.ops.length cba, .slice Abb b.eqs.length cbb] 40)) (.cells #[.slice Ava v.along.sorts.length cva, .slice Avb v.along.ops.length cvb, .slice Avc v.proofs.length cvc] 45)) (cell_keep (below_alloc (w.alloc (.cells #[.int .i64 a.over.sorts, .slice Aaa a.over.ops.length caa, .slice Aab a.eqs.length cab] 40)) (.cells #[.int .i64 b.over.sorts, .slice Aba b.over.ops.length cba, .slice Abb b.eqs.length cbb] 40)) (bx_at (w) #[.int .i64 a.over.sorts, .slice Aaa a.over.ops.length caa, .slice Aab a.eqs.length cab] 40 (k := 0) rfl))
  have a1 := cell_keep (below_alloc ((w.alloc (.cells #[.int .i64 a.over.sorts, .slice Aaa a.over.ops.length caa, .slice Aab a.eqs.length cab] 40)).alloc (.cells #[.int .i64 b.over.sorts, .slice Aba b.over.ops.length cba, .slice Abb b.eqs.length cbb] 40)) (.cells #[.slice Ava v.along.sorts.length cva, .slice Avb v.along.ops.length cvb, .slice Avc v.proofs.length cvc] 45)) (cell_keep (below_alloc (w.alloc (.cells #[.int .i64 a.over.sorts, .slice Aaa a.over.ops.length caa, .slice Aab a.eqs.length cab] 40)) (.cells #[.int .i64 b.over.sorts, .slice Aba b.over.ops.length cba, .slice Abb b.eqs.length cbb] 40)) (bx_at (w) #[.int .i64 a.over.sorts, .slice Aaa a.over.ops.length caa, .slice Aab a.eqs.length cab] 40 (k := 1) rfl))
  have a2 := cell_keep (below_alloc ((w.alloc (.cells #[.int .i64 a.over.sorts, .slice Aaa a.over.ops.length caa, .slice Aab a.eqs.length cab] 40)).alloc (.cells #[.int .i64 b.over.sorts, .slice Aba b.over.ops.length cba, .slice Abb b.eqs.length cbb] 40)) (.cells #[.slice Ava v.along.sorts.length cva, .slice Avb v.along.ops.length cvb, .slice Avc v.proofs.length cvc] 45)) (cell_keep (below_alloc (w.alloc (.cells #[.int .i64 a.over.sorts, .slice Aaa a.over.ops.length caa, .slice Aab a.eqs.length cab] 40)) (.cells #[.int .i64 b.over.sorts, .slice Aba b.over.ops.length cba, .slice Abb b.eqs.length cbb] 40)) (bx_at (w) #[.int .i64 a.over.sorts, .slice Aaa a.over.ops.length caa, .slice Aab a.eqs.length cab] 40 (k := 2) rfl))
  have Hb := Lib.hid (h2.keep hb)
  have b0 := cell_keep (below_alloc ((w.alloc (.cells #[.int .i64 a.over.sorts, .slice Aaa a.over.ops.length caa, .slice Aab a.eqs.length cab] 40)).alloc (.cells #[.int .i64 b.over.sorts, .slice Aba b.over.ops.length cba, .slice Abb b.eqs.length cbb] 40)) (.cells #[.slice Ava v.along.sorts.length cva, .slice Avb v.along.ops.length cvb, .slice Avc v.proofs.length cvc] 45)) (bx_at (w.alloc (.cells #[.int .i64 a.over.sorts, .slice Aaa a.over.ops.length caa, .slice Aab a.eqs.length cab] 40)) #[.int .i64 b.over.sorts, .slice Aba b.over.ops.length cba, .slice Abb b.eqs.length cbb] 40 (k := 0) rfl)
  have b1 := cell_keep (below_alloc ((w.alloc (.cells #[.int .i64 a.over.sorts, .slice Aaa a.over.ops.length caa, .slice Aab a.eqs.length cab] 40)).alloc (.cells #[.int .i64 b.over.sorts, .slice Aba b.over.ops.length cba, .slice Abb b.eqs.length cbb] 40)) (.cells #[.slice Ava v.along.sorts.length cva, .slice Avb v.along.ops.length cvb, .slice Avc v.proofs.length cvc] 45)) (bx_at (w.alloc (.cells #[.int .i64 a.over.sorts, .slice Aaa a.over.ops.length caa, .slice Aab a.eqs.length cab] 40)) #[.int .i64 b.over.sorts, .slice Aba b.over.ops.length cba, .slice Abb b.eqs.length cbb] 40 (k := 1) rfl)
  have b2 := cell_keep (below_alloc ((w.alloc (.cells #[.int .i64 a.over.sorts, .slice Aaa a.over.ops.length caa, .slice Aab a.eqs.length cab] 40)).alloc (.cells #[.int .i64 b.over.sorts, .slice Aba b.over.ops.length cba, .slice Abb b.eqs.length cbb] 40)) (.cells #[.slice Ava v.along.sorts.length cva, .slice Avb v.along.ops.length cvb, .slice Avc v.proofs.length cvc] 45)) (bx_at (w.alloc (.cells #[.int .i64 a.over.sorts, .slice Aaa a.over.ops.length caa, .slice Aab a.eqs.length cab] 40)) #[.int .i64 b.over.sorts, .slice Aba b.over.ops.length cba, .slice Abb b.eqs.length cbb] 40 (k := 2) rfl)
  have Hv := Lib.hid (h3.keep hb)
  have v0 := bx_at ((w.alloc (.cells #[.int .i64 a.over.sorts, .slice Aaa a.over.ops.length caa, .slice Aab a.eqs.length cab] 40)).alloc (.cells #[.int .i64 b.over.sorts, .slice Aba b.over.ops.length cba, .slice Abb b.eqs.length cbb] 40)) #[.slice Ava v.along.sorts.length cva, .slice Avb v.along.ops.length cvb, .slice Avc v.proofs.length cvc] 45 (k := 0) rfl
  have v1 := bx_at ((w.alloc (.cells #[.int .i64 a.over.sorts, .slice Aaa a.over.ops.length caa, .slice Aab a.eqs.length cab] 40)).alloc (.cells #[.int .i64 b.over.sorts, .slice Aba b.over.ops.length cba, .slice Abb b.eqs.length cbb] 40)) #[.slice Ava v.along.sorts.length cva, .slice Avb v.along.ops.length cvb, .slice Avc v.proofs.length cvc] 45 (k := 1) rfl
  have v2 := bx_at ((w.alloc (.cells #[.int .i64 a.over.sorts, .slice Aaa a.over.ops.length caa, .slice Aab a.eqs.length cab] 40)).alloc (.cells #[.int .i64 b.over.sorts, .slice Aba b.over.ops.length cba, .slice Abb b.eqs.length cbb] 40)) #[.slice Ava v.along.sorts.length cva, .slice Avb v.along.ops.length cvb, .slice Avc v.proofs.length cvc] 45 (k := 2) rfl
  simp only [World.size_alloc] at b0 b1 b2 v0 v1 v2
  generalize hW : ((w.alloc (.cells #[.int .i64 a.over.sorts, .slice Aaa a.over.ops.length caa, .slice Aab a.eqs.length cab] 40)).alloc (.cells #[.int .i64 b.over.sorts, .slice Aba b.over.ops.length cba, .slice Abb b.eqs.length cbb] 40)).alloc (.cells #[.slice Ava v.along.sorts.length cva, .slice Avb v.along.ops.length cvb, .slice Avc v.proofs.length cvc] 45) = W at HB hsz Ha a0 a1 a2 Hb b0 b1 b2 Hv v0 v1 v2
  clear hb h1 h2 h3
  have hla := Ha.out.of.2.2.len
  have hlb := Hb.out.of.2.2.len
  have hlv := Hv.out.of.2.2.len
  clear hsz
  have HSM := Lib.hid hsv
  clear hsv
  cases hva : thyB a with
  | false =>
    have HA := Lib.hid hva
    have HE := Lib.hid (view_no1 (b := b) (v := v) hva)
    clear hva
    go_enter Try.func9, Try.ntmps9
    go_wp2_with fail
    clear hW
    refine (specTheoryOk_any a _ _ Ha.out).mono ?_
    rw [HA.out]
    rintro e w1 ⟨rfl, hb⟩
    clear a0 a1 a2 b0 b1 b2 v0 v1 v2
    replace HB := Lib.hid (sz_keep HB.out hb)
    clear hb
    go_wp2
    go_ret
    exact ⟨ret_bool HE.out.symm, HB.out⟩
  | true =>
    have HA := Lib.hid hva
    clear hva
    cases hvb : thyB b with
    | false =>
      have HV := Lib.hid hvb
      have HE := Lib.hid (view_no2 (a := a) (v := v) hvb)
      clear hvb
      go_enter Try.func9, Try.ntmps9
      go_wp2_with fail
      clear hW
      refine (specTheoryOk_any a _ _ Ha.out).mono ?_
      rw [HA.out]
      rintro e w1 ⟨rfl, hb⟩
      replace HB := Lib.hid (sz_keep HB.out hb)
      replace a0 := cell_keep hb a0
      replace a1 := cell_keep hb a1
      replace a2 := cell_keep hb a2
      replace b0 := cell_keep hb b0
      replace b1 := cell_keep hb b1
      replace b2 := cell_keep hb b2
      replace v0 := cell_keep hb v0
      replace v1 := cell_keep hb v1
      replace v2 := cell_keep hb v2
      replace Ha := Lib.hid (Ha.out.keep hb)
      replace Hb := Lib.hid (Hb.out.keep hb)
      replace Hv := Lib.hid (Hv.out.keep hb)
      clear hb
      go_wp2_with fail
      refine (specTheoryOk_any b _ _ Hb.out).mono ?_
      rw [HV.out]
      rintro e w2 ⟨rfl, hb⟩
      clear a0 a1 a2 b0 b1 b2 v0 v1 v2
      replace HB := Lib.hid (sz_keep HB.out hb)
      clear hb
      go_wp2
      go_ret
      exact ⟨ret_bool HE.out.symm, HB.out⟩
    | true =>
      have HV := Lib.hid hvb
      clear hvb
      cases hm : mapOkB a.over b.over v.along with
      | false =>
        have HM := Lib.hid hm
        have HE := Lib.hid (view_no3 hm)
        clear hm
        go_enter Try.func9, Try.ntmps9
        go_wp2_with fail
        clear hW
        refine (specTheoryOk_any a _ _ Ha.out).mono ?_
        rw [HA.out]
        rintro e w1 ⟨rfl, hb⟩
        replace HB := Lib.hid (sz_keep HB.out hb)
        replace a0 := cell_keep hb a0
        replace a1 := cell_keep hb a1
        replace a2 := cell_keep hb a2
        replace b0 := cell_keep hb b0
        replace b1 := cell_keep hb b1
        replace b2 := cell_keep hb b2
        replace v0 := cell_keep hb v0
        replace v1 := cell_keep hb v1
        replace v2 := cell_keep hb v2
        replace Ha := Lib.hid (Ha.out.keep hb)
        replace Hb := Lib.hid (Hb.out.keep hb)
        replace Hv := Lib.hid (Hv.out.keep hb)
        clear hb
        go_wp2_with fail
        refine (specTheoryOk_any b _ _ Hb.out).mono ?_
        rw [HV.out]
        rintro e w2 ⟨rfl, hb⟩
        replace HB := Lib.hid (sz_keep HB.out hb)
        replace a0 := cell_keep hb a0
        replace a1 := cell_keep hb a1
        replace a2 := cell_keep hb a2
        replace b0 := cell_keep hb b0
        replace b1 := cell_keep hb b1
        replace b2 := cell_keep hb b2
        replace v0 := cell_keep hb v0
        replace v1 := cell_keep hb v1
        replace v2 := cell_keep hb v2
        replace Ha := Lib.hid (Ha.out.keep hb)
        replace Hb := Lib.hid (Hb.out.keep hb)
        replace Hv := Lib.hid (Hv.out.keep hb)
        clear hb
        go_wp2_with fail
        refine (specMapOk_any a.over b.over v.along _ _ _ _ (show RSig _ (.agg #[.int .i64 a.over.sorts, .slice Aaa a.over.ops.length caa]) a.over from ⟨_, rfl, Ha.out.of.2.1⟩) (show RSig _ (.agg #[.int .i64 b.over.sorts, .slice Aba b.over.ops.length cba]) b.over from ⟨_, rfl, Hb.out.of.2.1⟩) (show RMap _ (.agg #[.slice Ava v.along.sorts.length cva, .slice Avb v.along.ops.length cvb]) v.along from ⟨_, _, rfl, Hv.out.of.1, Hv.out.of.2.1⟩)).mono ?_
        rw [HM.out]
        rintro e w3 ⟨rfl, hb⟩
        replace HB := Lib.hid (sz_keep HB.out hb)
        replace a0 := cell_keep hb a0
        replace a1 := cell_keep hb a1
        replace a2 := cell_keep hb a2
        replace b0 := cell_keep hb b0
        replace b1 := cell_keep hb b1
        replace b2 := cell_keep hb b2
        replace v0 := cell_keep hb v0
        replace v1 := cell_keep hb v1
        replace v2 := cell_keep hb v2
        replace Ha := Lib.hid (Ha.out.keep hb)
        replace Hb := Lib.hid (Hb.out.keep hb)
        replace Hv := Lib.hid (Hv.out.keep hb)
        clear hb
        clear a0 a1 a2 b0 b1 b2 v0 v1 v2
        go_wp2
        go_ret
        exact ⟨ret_bool HE.out.symm, HB.out⟩
      | true =>
        have HM := Lib.hid hm
        have h6 := thy_few HA.out
        have HF := Lib.hid (mapOk_facts hm)
        clear hm
        by_cases hpl : v.proofs.length = a.eqs.length
        rotate_left
        · have hpl' : ((v.proofs.length : Int) != (a.eqs.length : Int)) = true := by simp; omega
          have HE := Lib.hid (view_no4 (a := a) (b := b) (v := v) hpl)
          clear hpl
          go_enter Try.func9, Try.ntmps9
          go_wp2_with fail
          clear hW
          refine (specTheoryOk_any a _ _ Ha.out).mono ?_
          rw [HA.out]
          rintro e w1 ⟨rfl, hb⟩
          replace HB := Lib.hid (sz_keep HB.out hb)
          replace a0 := cell_keep hb a0
          replace a1 := cell_keep hb a1
          replace a2 := cell_keep hb a2
          replace b0 := cell_keep hb b0
          replace b1 := cell_keep hb b1
          replace b2 := cell_keep hb b2
          replace v0 := cell_keep hb v0
          replace v1 := cell_keep hb v1
          replace v2 := cell_keep hb v2
          replace Ha := Lib.hid (Ha.out.keep hb)
          replace Hb := Lib.hid (Hb.out.keep hb)
          replace Hv := Lib.hid (Hv.out.keep hb)
          clear hb
          go_wp2_with fail
          refine (specTheoryOk_any b _ _ Hb.out).mono ?_
          rw [HV.out]
          rintro e w2 ⟨rfl, hb⟩
          replace HB := Lib.hid (sz_keep HB.out hb)
          replace a0 := cell_keep hb a0
          replace a1 := cell_keep hb a1
          replace a2 := cell_keep hb a2
          replace b0 := cell_keep hb b0
          replace b1 := cell_keep hb b1
          replace b2 := cell_keep hb b2
          replace v0 := cell_keep hb v0
          replace v1 := cell_keep hb v1
          replace v2 := cell_keep hb v2
          replace Ha := Lib.hid (Ha.out.keep hb)
          replace Hb := Lib.hid (Hb.out.keep hb)
          replace Hv := Lib.hid (Hv.out.keep hb)
          clear hb
          go_wp2_with fail
          refine (specMapOk_any a.over b.over v.along _ _ _ _ (show RSig _ (.agg #[.int .i64 a.over.sorts, .slice Aaa a.over.ops.length caa]) a.over from ⟨_, rfl, Ha.out.of.2.1⟩) (show RSig _ (.agg #[.int .i64 b.over.sorts, .slice Aba b.over.ops.length cba]) b.over from ⟨_, rfl, Hb.out.of.2.1⟩) (show RMap _ (.agg #[.slice Ava v.along.sorts.length cva, .slice Avb v.along.ops.length cvb]) v.along from ⟨_, _, rfl, Hv.out.of.1, Hv.out.of.2.1⟩)).mono ?_
          rw [HM.out]
          rintro e w3 ⟨rfl, hb⟩
          replace HB := Lib.hid (sz_keep HB.out hb)
          replace a0 := cell_keep hb a0
          replace a1 := cell_keep hb a1
          replace a2 := cell_keep hb a2
          replace b0 := cell_keep hb b0
          replace b1 := cell_keep hb b1
          replace b2 := cell_keep hb b2
          replace v0 := cell_keep hb v0
          replace v1 := cell_keep hb v1
          replace v2 := cell_keep hb v2
          replace Ha := Lib.hid (Ha.out.keep hb)
          replace Hb := Lib.hid (Hb.out.keep hb)
          replace Hv := Lib.hid (Hv.out.keep hb)
          clear hb
          go_wp2
          go_ret
          exact ⟨ret_bool HE.out.symm, HB.out⟩
        have hpl' : ((v.proofs.length : Int) != (a.eqs.length : Int)) = false := by simp [hpl]
        have HPL := Lib.hid hpl
        clear hpl
        go_enter Try.func9, Try.ntmps9
        go_wp2_with fail
        clear hW
        refine (specTheoryOk_any a _ _ Ha.out).mono ?_
        rw [HA.out]
        rintro e w1 ⟨rfl, hb⟩
        replace HB := Lib.hid (sz_keep HB.out hb)
        replace a0 := cell_keep hb a0
        replace a1 := cell_keep hb a1
        replace a2 := cell_keep hb a2
        replace b0 := cell_keep hb b0
        replace b1 := cell_keep hb b1
        replace b2 := cell_keep hb b2
        replace v0 := cell_keep hb v0
        replace v1 := cell_keep hb v1
        replace v2 := cell_keep hb v2
        replace Ha := Lib.hid (Ha.out.keep hb)
        replace Hb := Lib.hid (Hb.out.keep hb)
        replace Hv := Lib.hid (Hv.out.keep hb)
        clear hb
        go_wp2_with fail
        refine (specTheoryOk_any b _ _ Hb.out).mono ?_
        rw [HV.out]
        rintro e w2 ⟨rfl, hb⟩
        replace HB := Lib.hid (sz_keep HB.out hb)
        replace a0 := cell_keep hb a0
        replace a1 := cell_keep hb a1
        replace a2 := cell_keep hb a2
        replace b0 := cell_keep hb b0
        replace b1 := cell_keep hb b1
        replace b2 := cell_keep hb b2
        replace v0 := cell_keep hb v0
        replace v1 := cell_keep hb v1
        replace v2 := cell_keep hb v2
        replace Ha := Lib.hid (Ha.out.keep hb)
        replace Hb := Lib.hid (Hb.out.keep hb)
        replace Hv := Lib.hid (Hv.out.keep hb)
        clear hb
        go_wp2_with fail
        refine (specMapOk_any a.over b.over v.along _ _ _ _ (show RSig _ (.agg #[.int .i64 a.over.sorts, .slice Aaa a.over.ops.length caa]) a.over from ⟨_, rfl, Ha.out.of.2.1⟩) (show RSig _ (.agg #[.int .i64 b.over.sorts, .slice Aba b.over.ops.length cba]) b.over from ⟨_, rfl, Hb.out.of.2.1⟩) (show RMap _ (.agg #[.slice Ava v.along.sorts.length cva, .slice Avb v.along.ops.length cvb]) v.along from ⟨_, _, rfl, Hv.out.of.1, Hv.out.of.2.1⟩)).mono ?_
        rw [HM.out]
        rintro e w3 ⟨rfl, hb⟩
        replace HB := Lib.hid (sz_keep HB.out hb)
        replace a0 := cell_keep hb a0
        replace a1 := cell_keep hb a1
        replace a2 := cell_keep hb a2
        replace b0 := cell_keep hb b0
        replace b1 := cell_keep hb b1
        replace b2 := cell_keep hb b2
        replace v0 := cell_keep hb v0
        replace v1 := cell_keep hb v1
        replace v2 := cell_keep hb v2
        replace Ha := Lib.hid (Ha.out.keep hb)
        replace Hb := Lib.hid (Hb.out.keep hb)
        replace Hv := Lib.hid (Hv.out.keep hb)
        clear hb
        have HC := Lib.hid (And.intro a0 (And.intro a1 (And.intro a2 (And.intro b0 (And.intro b1 (And.intro b2 (And.intro v0 (And.intro v1 v2))))))))
        have hsw := HB.out.size
        have hxa := World.block_lt_of_cell? w3 _ v0
        simp only at hxa
        go_wp2
        clear a0 a1 a2 b0 b1 b2 v0 v1 v2
        go_loopw [7, 8, 9] (fun i s8 s9 wr => ∃ k : Nat, k ≤ a.eqs.length ∧ i = .int .i64 k ∧ allView b v a k = true ∧ Below w3.heap.size w3 wr) (fun i _ _ _ => a.eqs.length - (intOf i).toNat)
        case atStart => exact ⟨0, Nat.zero_le _, rfl, rfl, Below.refl _ _⟩
        case round =>
          obtain ⟨k, hk, rfl, hal, hd⟩ := hrel
          have HAL := Lib.hid hal
          have HD := Lib.hid hd
          clear hal
          have f0 := cell_keep hd HC.out.1
          have f1 := cell_keep hd HC.out.2.1
          have f2 := cell_keep hd HC.out.2.2.1
          have f3 := cell_keep hd HC.out.2.2.2.1
          have f4 := cell_keep hd HC.out.2.2.2.2.1
          have f5 := cell_keep hd HC.out.2.2.2.2.2.1
          have f6 := cell_keep hd HC.out.2.2.2.2.2.2.1
          have f7 := cell_keep hd HC.out.2.2.2.2.2.2.2.1
          have f8 := cell_keep hd HC.out.2.2.2.2.2.2.2.2
          by_cases hlt : k < a.eqs.length
          · have hlt' : (k : Int) < (a.eqs.length : Int) := by omega
            have hltv : (k : Int) < (v.proofs.length : Int) := by have := HPL.out; omega
            obtain ⟨b4, o4, c4, y0, y1, y2, e4, c00, c01, c02, r0, r1, r2⟩ := (Ha.out.of.2.2.keep hd).at_ hlt
            cases e4
            obtain ⟨b5, o5, c5, yp, e5, c03, r3⟩ := (Hv.out.of.2.2.keep hd).at_ (show k < v.proofs.length by rw [HPL.out]; exact hlt)
            cases e5
            have HME := Lib.hid (show mapEqM a.over b.over v.along a.eqs[k] = (ledE v.along a.eqs[k], true) by unfold mapEqM; rw [HM.out, thy_eq HA.out hlt]; rfl)
            have HNO := Lib.hid (fun h => view_no5 (a := a) (b := b) (v := v) hlt h)
            have HAT := Lib.hid (view_at (a := a) (b := b) (v := v) hlt (show k < v.proofs.length by rw [HPL.out]; exact hlt))
            have HSP := Lib.hid (HSM.out _ (List.getElem_mem (show k < v.proofs.length by rw [HPL.out]; exact hlt)))
            generalize a.eqs[k] = e at r0 r1 r2 HME HAT
            generalize v.proofs[k]'(by rw [HPL.out]; exact hlt) = p at r3 HAT HSP
            have HEQ := Lib.hid (show REq wr (.agg #[y0, y1, y2]) e from ⟨_, _, _, rfl, r0, r1, r2⟩)
            have HPR := Lib.hid r3
            obtain ⟨A0, g0, rfl, -⟩ := r0.form
            obtain ⟨A1, g1, rfl, -⟩ := r1.form
            obtain ⟨A2, g2, rfl, -⟩ := r2.form
            obtain ⟨A3, g3, rfl, -⟩ := r3.form
            have HSA := Lib.hid ((show RSig _ (.agg #[.int .i64 a.over.sorts, .slice Aaa a.over.ops.length caa]) a.over from ⟨_, rfl, Ha.out.of.2.1⟩).keep hd)
            have HSB := Lib.hid ((show RSig _ (.agg #[.int .i64 b.over.sorts, .slice Aba b.over.ops.length cba]) b.over from ⟨_, rfl, Hb.out.of.2.1⟩).keep hd)
            have HMM := Lib.hid ((show RMap _ (.agg #[.slice Ava v.along.sorts.length cva, .slice Avb v.along.ops.length cvb]) v.along from ⟨_, _, rfl, Hv.out.of.1, Hv.out.of.2.1⟩).keep hd)
            have HBT := Lib.hid (Hb.out.keep hd)
            have hww := hd.size
            have hb4 := World.block_lt_of_cell? wr _ c00
            have hb5 := World.block_lt_of_cell? wr _ c03
            simp only at hb4 hb5
            obtain ⟨r, hr⟩ : ∃ r, proofB b (ledE v.along e) p = r := ⟨_, rfl⟩
            rw [hr] at HAT
            have HR := Lib.hid hr
            clear r0 r1 r2 r3 hd hr
            go_wp2_with fail
            go_cut [8, 9] (fun s10 s11 wx => ∃ (bz : Nat) (B0 : Option Addr) (d0 : Nat) (B1 : Option Addr) (d1 : Nat) (B2 : Option Addr) (d2 : Nat), s10 = .pointer (some ⟨bz, 0, none⟩) ∧ s11 = .bool true ∧ wx.heap[bz]? = some (.cells #[.slice B0 (ledE v.along e).vars.length d0, .slice B1 (ledE v.along e).left.length d1, .slice B2 (ledE v.along e).right.length d2] 63 (0, 0)) ∧ REq wx (.agg #[.slice B0 (ledE v.along e).vars.length d0, .slice B1 (ledE v.along e).left.length d1, .slice B2 (ledE v.along e).right.length d2]) (ledE v.along e) ∧ Below wr.heap.size wr wx)
            case first =>
              refine wp_region_held_drew (S := (fun w' => w'.cell? ⟨w.heap.size, 0, none⟩ = some (.int .i64 a.over.sorts) ∧ w'.cell? ⟨w.heap.size, 1, none⟩ = some (.slice Aaa a.over.ops.length caa) ∧ w'.cell? ⟨w.heap.size, 2, none⟩ = some (.slice (some ⟨b4, o4, none⟩) a.eqs.length cab) ∧ w'.cell? ⟨w.heap.size + 1, 0, none⟩ = some (.int .i64 b.over.sorts) ∧ w'.cell? ⟨w.heap.size + 1, 1, none⟩ = some (.slice Aba b.over.ops.length cba) ∧ w'.cell? ⟨w.heap.size + 1, 2, none⟩ = some (.slice Abb b.eqs.length cbb) ∧ w'.cell? ⟨w.heap.size + 1 + 1, 0, none⟩ = some (.slice Ava v.along.sorts.length cva) ∧ w'.cell? ⟨w.heap.size + 1 + 1, 1, none⟩ = some (.slice Avb v.along.ops.length cvb) ∧ w'.cell? ⟨w.heap.size + 1 + 1, 2, none⟩ = some (.slice (some ⟨b5, o5, none⟩) v.proofs.length cvc) ∧ w'.cell? ⟨b4, o4 + k * 3, none⟩ = some (.slice A0 e.vars.length g0) ∧ w'.cell? ⟨b4, o4 + k * 3 + 1, none⟩ = some (.slice A1 e.left.length g1) ∧ w'.cell? ⟨b4, o4 + k * 3 + 2, none⟩ = some (.slice A2 e.right.length g2) ∧ w'.cell? ⟨b5, o5 + k, none⟩ = some (.slice A3 p.length g3))) (by kernel_rfl) ?_ (fun hHeld => ?_)
              · exact ⟨f0, f1, f2, f3, f4, f5, f6, f7, f8, c00, c01, c02, c03⟩
              refine wpAnyH_take (i := 0) (oi := _) (v := ?_) rfl (by kernel_rfl) (by kernel_rfl) (by kernel_rfl) (fun _ _ _ h => h) (Or.inl ⟨by rfl, ?_⟩) (by assumption) ?_
              rotate_left
              · first | (intro w' hSw; (try dsimp only at hSw); go_simp; done) | (intro w' hSw; (try dsimp only at hSw); go_simp; with_reducible rfl)
              try simp only [Act.put, List.getElem_toArray, List.getElem_cons_zero, List.getElem_cons_succ, List.setIfInBounds_toArray, List.set_cons_zero, List.set_cons_succ]
              refine wpAnyH_take (i := 1) (oi := _) (v := ?_) rfl (by kernel_rfl) (by kernel_rfl) (by kernel_rfl) (fun _ _ _ h => h) (Or.inl ⟨by rfl, ?_⟩) (by assumption) ?_
              rotate_left
              · first | (intro w' hSw; (try dsimp only at hSw); go_simp; done) | (intro w' hSw; (try dsimp only at hSw); go_simp; with_reducible rfl)
              try simp only [Act.put, List.getElem_toArray, List.getElem_cons_zero, List.getElem_cons_succ, List.setIfInBounds_toArray, List.set_cons_zero, List.set_cons_succ]
              refine wpAnyH_take (i := 2) (oi := _) (v := ?_) rfl (by kernel_rfl) (by kernel_rfl) (by kernel_rfl) (fun _ _ _ h => h) (Or.inl ⟨by rfl, ?_⟩) (by assumption) ?_
              rotate_left
              · first | (intro w' hSw; (try dsimp only at hSw); go_simp; done) | (intro w' hSw; (try dsimp only at hSw); go_simp; with_reducible rfl)
              try simp only [Act.put, List.getElem_toArray, List.getElem_cons_zero, List.getElem_cons_succ, List.setIfInBounds_toArray, List.set_cons_zero, List.set_cons_succ]
              refine wpAnyH_take (i := 3) (oi := _) (v := ?_) rfl (by kernel_rfl) (by kernel_rfl) (by kernel_rfl) (fun _ _ _ h => h) (Or.inl ⟨by rfl, ?_⟩) (by assumption) ?_
              rotate_left
              · first | (intro w' hSw; (try dsimp only at hSw); go_simp; done) | (intro w' hSw; (try dsimp only at hSw); go_simp; with_reducible rfl)
              try simp only [Act.put, List.getElem_toArray, List.getElem_cons_zero, List.getElem_cons_succ, List.setIfInBounds_toArray, List.set_cons_zero, List.set_cons_succ]
              refine wpAnyH_take (i := 4) (oi := _) (v := ?_) rfl (by kernel_rfl) (by kernel_rfl) (by kernel_rfl) (fun _ _ _ h => h) (Or.inl ⟨by rfl, ?_⟩) (by assumption) ?_
              rotate_left
              · first | (intro w' hSw; (try dsimp only at hSw); go_simp; done) | (intro w' hSw; (try dsimp only at hSw); go_simp; with_reducible rfl)
              try simp only [Act.put, List.getElem_toArray, List.getElem_cons_zero, List.getElem_cons_succ, List.setIfInBounds_toArray, List.set_cons_zero, List.set_cons_succ]
              refine wpAnyH_take (i := 5) (oi := _) (v := ?_) rfl (by kernel_rfl) (by kernel_rfl) (by kernel_rfl) (fun _ _ _ h => h) (Or.inl ⟨by rfl, ?_⟩) (by assumption) ?_
              rotate_left
              · first | (intro w' hSw; (try dsimp only at hSw); go_simp; done) | (intro w' hSw; (try dsimp only at hSw); go_simp; with_reducible rfl)
              try simp only [Act.put, List.getElem_toArray, List.getElem_cons_zero, List.getElem_cons_succ, List.setIfInBounds_toArray, List.set_cons_zero, List.set_cons_succ]
              refine wpAnyH_take (i := 6) (oi := _) (v := ?_) rfl (by kernel_rfl) (by kernel_rfl) (by kernel_rfl) (fun _ _ _ h => h) (Or.inl ⟨by rfl, ?_⟩) (by assumption) ?_
              rotate_left
              · first | (intro w' hSw; (try dsimp only at hSw); go_simp; done) | (intro w' hSw; (try dsimp only at hSw); go_simp; with_reducible rfl)
              try simp only [Act.put, List.getElem_toArray, List.getElem_cons_zero, List.getElem_cons_succ, List.setIfInBounds_toArray, List.set_cons_zero, List.set_cons_succ]
              refine wpAnyH_take (i := 7) (oi := _) (v := ?_) rfl (by kernel_rfl) (by kernel_rfl) (by kernel_rfl) (fun _ _ _ h => h) (Or.inl ⟨by rfl, ?_⟩) (by assumption) ?_
              rotate_left
              · first | (intro w' hSw; (try dsimp only at hSw); go_simp; done) | (intro w' hSw; (try dsimp only at hSw); go_simp; with_reducible rfl)
              try simp only [Act.put, List.getElem_toArray, List.getElem_cons_zero, List.getElem_cons_succ, List.setIfInBounds_toArray, List.set_cons_zero, List.set_cons_succ]
              refine wpAnyH_take (i := 8) (oi := _) (v := ?_) rfl (by kernel_rfl) (by kernel_rfl) (by kernel_rfl) (fun _ _ _ h => h) (Or.inl ⟨by rfl, ?_⟩) (by assumption) ?_
              rotate_left
              · first | (intro w' hSw; (try dsimp only at hSw); go_simp; done) | (intro w' hSw; (try dsimp only at hSw); go_simp; with_reducible rfl)
              try simp only [Act.put, List.getElem_toArray, List.getElem_cons_zero, List.getElem_cons_succ, List.setIfInBounds_toArray, List.set_cons_zero, List.set_cons_succ]
              refine wpAnyH_take (i := 9) (oi := _) (v := ?_) rfl (by kernel_rfl) (by kernel_rfl) (by kernel_rfl) (fun _ _ _ h => h) (Or.inl ⟨by rfl, ?_⟩) (by assumption) ?_
              rotate_left
              · first | (intro w' hSw; (try dsimp only at hSw); go_simp; done) | (intro w' hSw; (try dsimp only at hSw); go_simp; with_reducible rfl)
              try simp only [Act.put, List.getElem_toArray, List.getElem_cons_zero, List.getElem_cons_succ, List.setIfInBounds_toArray, List.set_cons_zero, List.set_cons_succ]
              refine wpAnyH_take (i := 10) (oi := _) (v := ?_) rfl (by kernel_rfl) (by kernel_rfl) (by kernel_rfl) (fun _ _ _ h => h) (Or.inl ⟨by rfl, ?_⟩) (by assumption) ?_
              rotate_left
              · first | (intro w' hSw; (try dsimp only at hSw); go_simp; done) | (intro w' hSw; (try dsimp only at hSw); go_simp; with_reducible rfl)
              try simp only [Act.put, List.getElem_toArray, List.getElem_cons_zero, List.getElem_cons_succ, List.setIfInBounds_toArray, List.set_cons_zero, List.set_cons_succ]
              refine wpAnyH_ready (rs := [11, 15]) (by kernel_rfl) (by simp) ?_
              refine AllReadyH.cons (o := _) rfl (fun K hK => ?_) (AllReadyH.cons (o := _) rfl (fun K hK => ?_) AllReadyH.nil)
              · skip
                go_simp
                refine (specMapEq_any a.over b.over v.along e wr.drew _ _ _ _ (HSA.out.keep (map_drew (Below.refl _ _))) (HSB.out.keep (map_drew (Below.refl _ _))) (HMM.out.keep (map_drew (Below.refl _ _))) (HEQ.out.keep (map_drew (Below.refl _ _)))).mono ?_
                rw [HME.out]
                try dsimp only
                rintro z w5 ⟨z0, rfl, ho, hb⟩
                replace hb := map_undrew hb
                obtain ⟨B0, d0, B1, d1, B2, d2, rfl⟩ := ho.reads.form
                have HO5 := Lib.hid (show OEq w5 wr.heap.size _ _ from ho)
                replace f0 := cell_keep hb f0
                replace f1 := cell_keep hb f1
                replace f2 := cell_keep hb f2
                replace f3 := cell_keep hb f3
                replace f4 := cell_keep hb f4
                replace f5 := cell_keep hb f5
                replace f6 := cell_keep hb f6
                replace f7 := cell_keep hb f7
                replace f8 := cell_keep hb f8
                replace c00 := cell_keep hb c00
                replace c01 := cell_keep hb c01
                replace c02 := cell_keep hb c02
                replace c03 := cell_keep hb c03
                have HP := Lib.hid hb
                clear ho hb
                go_wp2_with fail
                refine hK.out _ _ ?_ (fun hHeld => ?_)
                · exact ⟨f0, f1, f2, f3, f4, f5, f6, f7, f8, c00, c01, c02, c03⟩
                clear hK K
                try simp only [Act.put, List.getElem_toArray, List.getElem_cons_zero, List.getElem_cons_succ, List.setIfInBounds_toArray, List.set_cons_zero, List.set_cons_succ]
                refine wpAnyH_take (i := 12) (oi := _) (v := ?_) rfl (by kernel_rfl) (by kernel_rfl) (by kernel_rfl) (fun _ _ _ h => h) (Or.inl ⟨by rfl, ?_⟩) (by assumption) ?_
                rotate_left
                · first | (intro w' hSw; (try dsimp only at hSw); go_simp; done) | (intro w' hSw; (try dsimp only at hSw); go_simp; with_reducible rfl)
                try simp only [Act.put, List.getElem_toArray, List.getElem_cons_zero, List.getElem_cons_succ, List.setIfInBounds_toArray, List.set_cons_zero, List.set_cons_succ]
                refine wpAnyH_take (i := 13) (oi := _) (v := ?_) rfl (by kernel_rfl) (by kernel_rfl) (by kernel_rfl) (fun _ _ _ h => h) (Or.inl ⟨by rfl, ?_⟩) (by assumption) ?_
                rotate_left
                · first | (intro w' hSw; (try dsimp only at hSw); go_simp; done) | (intro w' hSw; (try dsimp only at hSw); go_simp; with_reducible rfl)
                try simp only [Act.put, List.getElem_toArray, List.getElem_cons_zero, List.getElem_cons_succ, List.setIfInBounds_toArray, List.set_cons_zero, List.set_cons_succ]
                refine wpAnyH_take (i := 14) (oi := _) (v := ?_) rfl (by kernel_rfl) (by kernel_rfl) (by kernel_rfl) (fun _ _ _ h => h) (Or.inl ⟨by rfl, ?_⟩) (by assumption) ?_
                rotate_left
                · first | (intro w' hSw; (try dsimp only at hSw); go_simp; done) | (intro w' hSw; (try dsimp only at hSw); go_simp; with_reducible rfl)
                try simp only [Act.put, List.getElem_toArray, List.getElem_cons_zero, List.getElem_cons_succ, List.setIfInBounds_toArray, List.set_cons_zero, List.set_cons_succ]
                refine wpAnyH_ready (rs := [15]) (by kernel_rfl) (by simp) ?_
                refine AllReadyH.cons (o := _) rfl (fun K hK => ?_) AllReadyH.nil
                have hzl := HP.out.size
                go_simp
                have hb := below_alloc w5 (.cells #[.slice none 0 0, .slice none 0 0, .slice none 0 0] 63)
                have hz := heap_alloc_new w5 (.cells #[.slice none 0 0, .slice none 0 0, .slice none 0 0] 63)
                generalize hWA : w5.alloc (.cells #[.slice none 0 0, .slice none 0 0, .slice none 0 0] 63) = w6 at hb hz ⊢
                clear hWA
                have HZb := Lib.hid (show w6.heap[w5.heap.size]? = some (.cells #[.slice none 0 0, .slice none 0 0, .slice none 0 0] 63 (0, 0)) from hz)
                have HLATE := Lib.hid hb.block
                replace f0 := cell_keep hb f0
                replace f1 := cell_keep hb f1
                replace f2 := cell_keep hb f2
                replace f3 := cell_keep hb f3
                replace f4 := cell_keep hb f4
                replace f5 := cell_keep hb f5
                replace f6 := cell_keep hb f6
                replace f7 := cell_keep hb f7
                replace f8 := cell_keep hb f8
                replace c00 := cell_keep hb c00
                replace c01 := cell_keep hb c01
                replace c02 := cell_keep hb c02
                replace c03 := cell_keep hb c03
                replace HP := Lib.hid (sz_keep HP.out hb)
                have j0 := blk_cell HZb.out 0
                have jf0 := blk_free HZb.out 0
                have j1 := blk_cell HZb.out 1
                have jf1 := blk_free HZb.out 1
                have j2 := blk_cell HZb.out 2
                have jf2 := blk_free HZb.out 2
                simp at j0 j1 j2
                clear hb hz
                go_wp2_with fail
                refine hK.out _ _ ?_ (fun hHeld => ?_)
                · exact ⟨f0, f1, f2, f3, f4, f5, f6, f7, f8, c00, c01, c02, c03⟩
                clear hK K
                try simp only [Act.put, List.getElem_toArray, List.getElem_cons_zero, List.getElem_cons_succ, List.setIfInBounds_toArray, List.set_cons_zero, List.set_cons_succ]
                refine wpAnyH_ready (rs := [16]) (by kernel_rfl) (by simp) ?_
                refine AllReadyH.cons (o := _) rfl (fun K hK => ?_) AllReadyH.nil
                go_simp
                go_wp2_with fail
                refine hK.out _ _ ?_ (fun hHeld => ?_)
                · exact ⟨(set_other (by omega) _ _ _).trans ((set_other (by omega) _ _ _).trans ((set_other (by omega) _ _ _).trans f0)), (set_other (by omega) _ _ _).trans ((set_other (by omega) _ _ _).trans ((set_other (by omega) _ _ _).trans f1)), (set_other (by omega) _ _ _).trans ((set_other (by omega) _ _ _).trans ((set_other (by omega) _ _ _).trans f2)), (set_other (by omega) _ _ _).trans ((set_other (by omega) _ _ _).trans ((set_other (by omega) _ _ _).trans f3)), (set_other (by omega) _ _ _).trans ((set_other (by omega) _ _ _).trans ((set_other (by omega) _ _ _).trans f4)), (set_other (by omega) _ _ _).trans ((set_other (by omega) _ _ _).trans ((set_other (by omega) _ _ _).trans f5)), (set_other (by omega) _ _ _).trans ((set_other (by omega) _ _ _).trans ((set_other (by omega) _ _ _).trans f6)), (set_other (by omega) _ _ _).trans ((set_other (by omega) _ _ _).trans ((set_other (by omega) _ _ _).trans f7)), (set_other (by omega) _ _ _).trans ((set_other (by omega) _ _ _).trans ((set_other (by omega) _ _ _).trans f8)), (set_other (by omega) _ _ _).trans ((set_other (by omega) _ _ _).trans ((set_other (by omega) _ _ _).trans c00)), (set_other (by omega) _ _ _).trans ((set_other (by omega) _ _ _).trans ((set_other (by omega) _ _ _).trans c01)), (set_other (by omega) _ _ _).trans ((set_other (by omega) _ _ _).trans ((set_other (by omega) _ _ _).trans c02)), (set_other (by omega) _ _ _).trans ((set_other (by omega) _ _ _).trans ((set_other (by omega) _ _ _).trans c03))⟩
                clear hK K
                try simp only [Act.put, List.getElem_toArray, List.getElem_cons_zero, List.getElem_cons_succ, List.setIfInBounds_toArray, List.set_cons_zero, List.set_cons_succ]
                refine wpAnyH_take (i := 17) (oi := _) (v := ?_) rfl (by kernel_rfl) (by kernel_rfl) (by kernel_rfl) (fun _ _ _ h => h) (Or.inl ⟨by rfl, ?_⟩) (by assumption) ?_
                rotate_left
                · first | (intro w' hSw; (try dsimp only at hSw); go_simp; done) | (intro w' hSw; (try dsimp only at hSw); go_simp; with_reducible rfl)
                try simp only [Act.put, List.getElem_toArray, List.getElem_cons_zero, List.getElem_cons_succ, List.setIfInBounds_toArray, List.set_cons_zero, List.set_cons_succ]
                refine wpAnyH_done (by kernel_rfl) ?_ _
                go_wp2_with fail
                go_meet
                exact ⟨_, _, _, _, _, _, _, rfl, rfl, (blk_set (blk_set (blk_set HZb.out 0 (.slice B0 (ledE v.along e).vars.length d0)) 1 (.slice B1 (ledE v.along e).left.length d1)) 2 (.slice B2 (ledE v.along e).right.length d2)), (OEq.same HO5.out (fun k q1 q2 => ((set_blk3v (by omega) _ _).trans ((set_blk3v (by omega) _ _).trans (set_blk3v (by omega) _ _))).trans (HLATE.out k q2))).reads, (((HP.out.setCell (p := ⟨w5.heap.size, 0, none⟩) hzl (.slice B0 (ledE v.along e).vars.length d0)).setCell (p := ⟨w5.heap.size, 1, none⟩) hzl (.slice B1 (ledE v.along e).left.length d1)).setCell (p := ⟨w5.heap.size, 2, none⟩) hzl (.slice B2 (ledE v.along e).right.length d2))⟩
              · skip
                have hzl : wr.heap.size ≤ wr.heap.size := Nat.le_refl _
                go_simp
                have hb := below_alloc wr (.cells #[.slice none 0 0, .slice none 0 0, .slice none 0 0] 63)
                have hz := heap_alloc_new wr (.cells #[.slice none 0 0, .slice none 0 0, .slice none 0 0] 63)
                generalize hWA : wr.alloc (.cells #[.slice none 0 0, .slice none 0 0, .slice none 0 0] 63) = w6 at hb hz ⊢
                clear hWA
                have HZb := Lib.hid (show w6.heap[wr.heap.size]? = some (.cells #[.slice none 0 0, .slice none 0 0, .slice none 0 0] 63 (0, 0)) from hz)
                replace f0 := cell_keep hb f0
                replace f1 := cell_keep hb f1
                replace f2 := cell_keep hb f2
                replace f3 := cell_keep hb f3
                replace f4 := cell_keep hb f4
                replace f5 := cell_keep hb f5
                replace f6 := cell_keep hb f6
                replace f7 := cell_keep hb f7
                replace f8 := cell_keep hb f8
                replace c00 := cell_keep hb c00
                replace c01 := cell_keep hb c01
                replace c02 := cell_keep hb c02
                replace c03 := cell_keep hb c03
                have HP := Lib.hid hb
                clear hb hz
                go_wp2_with fail
                refine hK.out _ _ ?_ (fun hHeld => ?_)
                · exact ⟨f0, f1, f2, f3, f4, f5, f6, f7, f8, c00, c01, c02, c03⟩
                clear hK K
                try simp only [Act.put, List.getElem_toArray, List.getElem_cons_zero, List.getElem_cons_succ, List.setIfInBounds_toArray, List.set_cons_zero, List.set_cons_succ]
                refine wpAnyH_ready (rs := [11]) (by kernel_rfl) (by simp) ?_
                refine AllReadyH.cons (o := _) rfl (fun K hK => ?_) AllReadyH.nil
                go_simp
                have hbl := (Array.getElem?_eq_some_iff.1 HZb.out).1
                refine (specMapEq_any a.over b.over v.along e w6.drew _ _ _ _ (HSA.out.keep (map_drew HP.out)) (HSB.out.keep (map_drew HP.out)) (HMM.out.keep (map_drew HP.out)) (HEQ.out.keep (map_drew HP.out))).mono ?_
                rw [HME.out]
                try dsimp only
                rintro z w5 ⟨z0, rfl, ho, hb⟩
                replace hb := map_undrew hb
                obtain ⟨B0, d0, B1, d1, B2, d2, rfl⟩ := ho.reads.form
                have HO5 := Lib.hid (show OEq w5 w6.heap.size _ _ from ho)
                replace f0 := cell_keep hb f0
                replace f1 := cell_keep hb f1
                replace f2 := cell_keep hb f2
                replace f3 := cell_keep hb f3
                replace f4 := cell_keep hb f4
                replace f5 := cell_keep hb f5
                replace f6 := cell_keep hb f6
                replace f7 := cell_keep hb f7
                replace f8 := cell_keep hb f8
                replace c00 := cell_keep hb c00
                replace c01 := cell_keep hb c01
                replace c02 := cell_keep hb c02
                replace c03 := cell_keep hb c03
                replace HZb := Lib.hid (blk_keep HZb.out hb)
                replace HP := Lib.hid (sz_keep HP.out hb)
                have j0 := blk_cell HZb.out 0
                have jf0 := blk_free HZb.out 0
                have j1 := blk_cell HZb.out 1
                have jf1 := blk_free HZb.out 1
                have j2 := blk_cell HZb.out 2
                have jf2 := blk_free HZb.out 2
                simp at j0 j1 j2
                clear ho hb
                go_wp2_with fail
                refine hK.out _ _ ?_ (fun hHeld => ?_)
                · exact ⟨f0, f1, f2, f3, f4, f5, f6, f7, f8, c00, c01, c02, c03⟩
                clear hK K
                try simp only [Act.put, List.getElem_toArray, List.getElem_cons_zero, List.getElem_cons_succ, List.setIfInBounds_toArray, List.set_cons_zero, List.set_cons_succ]
                refine wpAnyH_take (i := 12) (oi := _) (v := ?_) rfl (by kernel_rfl) (by kernel_rfl) (by kernel_rfl) (fun _ _ _ h => h) (Or.inl ⟨by rfl, ?_⟩) (by assumption) ?_
                rotate_left
                · first | (intro w' hSw; (try dsimp only at hSw); go_simp; done) | (intro w' hSw; (try dsimp only at hSw); go_simp; with_reducible rfl)
                try simp only [Act.put, List.getElem_toArray, List.getElem_cons_zero, List.getElem_cons_succ, List.setIfInBounds_toArray, List.set_cons_zero, List.set_cons_succ]
                refine wpAnyH_take (i := 13) (oi := _) (v := ?_) rfl (by kernel_rfl) (by kernel_rfl) (by kernel_rfl) (fun _ _ _ h => h) (Or.inl ⟨by rfl, ?_⟩) (by assumption) ?_
                rotate_left
                · first | (intro w' hSw; (try dsimp only at hSw); go_simp; done) | (intro w' hSw; (try dsimp only at hSw); go_simp; with_reducible rfl)
                try simp only [Act.put, List.getElem_toArray, List.getElem_cons_zero, List.getElem_cons_succ, List.setIfInBounds_toArray, List.set_cons_zero, List.set_cons_succ]
                refine wpAnyH_take (i := 14) (oi := _) (v := ?_) rfl (by kernel_rfl) (by kernel_rfl) (by kernel_rfl) (fun _ _ _ h => h) (Or.inl ⟨by rfl, ?_⟩) (by assumption) ?_
                rotate_left
                · first | (intro w' hSw; (try dsimp only at hSw); go_simp; done) | (intro w' hSw; (try dsimp only at hSw); go_simp; with_reducible rfl)
                try simp only [Act.put, List.getElem_toArray, List.getElem_cons_zero, List.getElem_cons_succ, List.setIfInBounds_toArray, List.set_cons_zero, List.set_cons_succ]
                refine wpAnyH_ready (rs := [16]) (by kernel_rfl) (by simp) ?_
                refine AllReadyH.cons (o := _) rfl (fun K hK => ?_) AllReadyH.nil
                go_simp
                go_wp2_with fail
                refine hK.out _ _ ?_ (fun hHeld => ?_)
                · exact ⟨(set_other (by omega) _ _ _).trans ((set_other (by omega) _ _ _).trans ((set_other (by omega) _ _ _).trans f0)), (set_other (by omega) _ _ _).trans ((set_other (by omega) _ _ _).trans ((set_other (by omega) _ _ _).trans f1)), (set_other (by omega) _ _ _).trans ((set_other (by omega) _ _ _).trans ((set_other (by omega) _ _ _).trans f2)), (set_other (by omega) _ _ _).trans ((set_other (by omega) _ _ _).trans ((set_other (by omega) _ _ _).trans f3)), (set_other (by omega) _ _ _).trans ((set_other (by omega) _ _ _).trans ((set_other (by omega) _ _ _).trans f4)), (set_other (by omega) _ _ _).trans ((set_other (by omega) _ _ _).trans ((set_other (by omega) _ _ _).trans f5)), (set_other (by omega) _ _ _).trans ((set_other (by omega) _ _ _).trans ((set_other (by omega) _ _ _).trans f6)), (set_other (by omega) _ _ _).trans ((set_other (by omega) _ _ _).trans ((set_other (by omega) _ _ _).trans f7)), (set_other (by omega) _ _ _).trans ((set_other (by omega) _ _ _).trans ((set_other (by omega) _ _ _).trans f8)), (set_other (by omega) _ _ _).trans ((set_other (by omega) _ _ _).trans ((set_other (by omega) _ _ _).trans c00)), (set_other (by omega) _ _ _).trans ((set_other (by omega) _ _ _).trans ((set_other (by omega) _ _ _).trans c01)), (set_other (by omega) _ _ _).trans ((set_other (by omega) _ _ _).trans ((set_other (by omega) _ _ _).trans c02)), (set_other (by omega) _ _ _).trans ((set_other (by omega) _ _ _).trans ((set_other (by omega) _ _ _).trans c03))⟩
                clear hK K
                try simp only [Act.put, List.getElem_toArray, List.getElem_cons_zero, List.getElem_cons_succ, List.setIfInBounds_toArray, List.set_cons_zero, List.set_cons_succ]
                refine wpAnyH_take (i := 17) (oi := _) (v := ?_) rfl (by kernel_rfl) (by kernel_rfl) (by kernel_rfl) (fun _ _ _ h => h) (Or.inl ⟨by rfl, ?_⟩) (by assumption) ?_
                rotate_left
                · first | (intro w' hSw; (try dsimp only at hSw); go_simp; done) | (intro w' hSw; (try dsimp only at hSw); go_simp; with_reducible rfl)
                try simp only [Act.put, List.getElem_toArray, List.getElem_cons_zero, List.getElem_cons_succ, List.setIfInBounds_toArray, List.set_cons_zero, List.set_cons_succ]
                refine wpAnyH_done (by kernel_rfl) ?_ _
                go_wp2_with fail
                go_meet
                exact ⟨_, _, _, _, _, _, _, rfl, rfl, (blk_set (blk_set (blk_set HZb.out 0 (.slice B0 (ledE v.along e).vars.length d0)) 1 (.slice B1 (ledE v.along e).left.length d1)) 2 (.slice B2 (ledE v.along e).right.length d2)), (OEq.same HO5.out (fun k q1 q2 => ((set_blk3v (by omega) _ _).trans ((set_blk3v (by omega) _ _).trans (set_blk3v (by omega) _ _))))).reads, (((HP.out.setCell (p := ⟨wr.heap.size, 0, none⟩) hzl (.slice B0 (ledE v.along e).vars.length d0)).setCell (p := ⟨wr.heap.size, 1, none⟩) hzl (.slice B1 (ledE v.along e).left.length d1)).setCell (p := ⟨wr.heap.size, 2, none⟩) hzl (.slice B2 (ledE v.along e).right.length d2))⟩
            case rest =>
            obtain ⟨bz, B0, d0, B1, d1, B2, d2, rfl, rfl, hblk, hrd, hb⟩ := hcut
            obtain ⟨w7, hwn⟩ : ∃ W', W' = wc := ⟨_, rfl⟩
            subst hwn
            have x0 := blk_cell hblk 0
            have x1 := blk_cell hblk 1
            have x2 := blk_cell hblk 2
            simp at x0 x1 x2
            have HRD := Lib.hid hrd
            have hbd := sz_keep HD.out hb
            have HBT7 := Lib.hid (HBT.out.keep hb)
            have HPR7 := Lib.hid (HPR.out.keep hb)
            have HD7 := Lib.hid hbd
            replace f3 := cell_keep hb f3
            replace f4 := cell_keep hb f4
            replace f5 := cell_keep hb f5
            replace f8 := cell_keep hb f8
            replace c03 := cell_keep hb c03
            have hs7 := hb.size
            clear hblk hrd hb hbd f0 f1 f2 f6 f7 c00 c01 c02
            go_wp2_with fail
            refine wp_region_held_drew (S := (fun w' => w'.cell? ⟨w.heap.size + 1, 0, none⟩ = some (.int .i64 b.over.sorts) ∧ w'.cell? ⟨w.heap.size + 1, 1, none⟩ = some (.slice Aba b.over.ops.length cba) ∧ w'.cell? ⟨w.heap.size + 1, 2, none⟩ = some (.slice Abb b.eqs.length cbb) ∧ w'.cell? ⟨w.heap.size + 1 + 1, 2, none⟩ = some (.slice (some ⟨b5, o5, none⟩) v.proofs.length cvc) ∧ w'.cell? ⟨b5, o5 + k, none⟩ = some (.slice A3 p.length g3) ∧ w'.cell? ⟨bz, 0, none⟩ = some (.slice B0 (ledE v.along e).vars.length d0) ∧ w'.cell? ⟨bz, 1, none⟩ = some (.slice B1 (ledE v.along e).left.length d1) ∧ w'.cell? ⟨bz, 2, none⟩ = some (.slice B2 (ledE v.along e).right.length d2))) (by kernel_rfl) ?_ (fun hHeld => ?_)
            · exact ⟨f3, f4, f5, f8, c03, x0, x1, x2⟩
            refine wpAnyH_take (i := 0) (oi := _) (v := ?_) rfl (by kernel_rfl) (by kernel_rfl) (by kernel_rfl) (fun _ _ _ h => h) (Or.inl ⟨by rfl, ?_⟩) (by assumption) ?_
            rotate_left
            · first | (intro w' hSw; (try dsimp only at hSw); go_simp; done) | (intro w' hSw; (try dsimp only at hSw); go_simp; with_reducible rfl)
            try simp only [Act.put, List.getElem_toArray, List.getElem_cons_zero, List.getElem_cons_succ, List.setIfInBounds_toArray, List.set_cons_zero, List.set_cons_succ]
            refine wpAnyH_take (i := 1) (oi := _) (v := ?_) rfl (by kernel_rfl) (by kernel_rfl) (by kernel_rfl) (fun _ _ _ h => h) (Or.inl ⟨by rfl, ?_⟩) (by assumption) ?_
            rotate_left
            · first | (intro w' hSw; (try dsimp only at hSw); go_simp; done) | (intro w' hSw; (try dsimp only at hSw); go_simp; with_reducible rfl)
            try simp only [Act.put, List.getElem_toArray, List.getElem_cons_zero, List.getElem_cons_succ, List.setIfInBounds_toArray, List.set_cons_zero, List.set_cons_succ]
            refine wpAnyH_take (i := 2) (oi := _) (v := ?_) rfl (by kernel_rfl) (by kernel_rfl) (by kernel_rfl) (fun _ _ _ h => h) (Or.inl ⟨by rfl, ?_⟩) (by assumption) ?_
            rotate_left
            · first | (intro w' hSw; (try dsimp only at hSw); go_simp; done) | (intro w' hSw; (try dsimp only at hSw); go_simp; with_reducible rfl)
            try simp only [Act.put, List.getElem_toArray, List.getElem_cons_zero, List.getElem_cons_succ, List.setIfInBounds_toArray, List.set_cons_zero, List.set_cons_succ]
            refine wpAnyH_take (i := 3) (oi := _) (v := ?_) rfl (by kernel_rfl) (by kernel_rfl) (by kernel_rfl) (fun _ _ _ h => h) (Or.inl ⟨by rfl, ?_⟩) (by assumption) ?_
            rotate_left
            · first | (intro w' hSw; (try dsimp only at hSw); go_simp; done) | (intro w' hSw; (try dsimp only at hSw); go_simp; with_reducible rfl)
            try simp only [Act.put, List.getElem_toArray, List.getElem_cons_zero, List.getElem_cons_succ, List.setIfInBounds_toArray, List.set_cons_zero, List.set_cons_succ]
            refine wpAnyH_take (i := 4) (oi := _) (v := ?_) rfl (by kernel_rfl) (by kernel_rfl) (by kernel_rfl) (fun _ _ _ h => h) (Or.inl ⟨by rfl, ?_⟩) (by assumption) ?_
            rotate_left
            · first | (intro w' hSw; (try dsimp only at hSw); go_simp; done) | (intro w' hSw; (try dsimp only at hSw); go_simp; with_reducible rfl)
            try simp only [Act.put, List.getElem_toArray, List.getElem_cons_zero, List.getElem_cons_succ, List.setIfInBounds_toArray, List.set_cons_zero, List.set_cons_succ]
            refine wpAnyH_take (i := 5) (oi := _) (v := ?_) rfl (by kernel_rfl) (by kernel_rfl) (by kernel_rfl) (fun _ _ _ h => h) (Or.inl ⟨by rfl, ?_⟩) (by assumption) ?_
            rotate_left
            · first | (intro w' hSw; (try dsimp only at hSw); go_simp; done) | (intro w' hSw; (try dsimp only at hSw); go_simp; with_reducible rfl)
            try simp only [Act.put, List.getElem_toArray, List.getElem_cons_zero, List.getElem_cons_succ, List.setIfInBounds_toArray, List.set_cons_zero, List.set_cons_succ]
            refine wpAnyH_take (i := 6) (oi := _) (v := ?_) rfl (by kernel_rfl) (by kernel_rfl) (by kernel_rfl) (fun _ _ _ h => h) (Or.inl ⟨by rfl, ?_⟩) (by assumption) ?_
            rotate_left
            · first | (intro w' hSw; (try dsimp only at hSw); go_simp; done) | (intro w' hSw; (try dsimp only at hSw); go_simp; with_reducible rfl)
            try simp only [Act.put, List.getElem_toArray, List.getElem_cons_zero, List.getElem_cons_succ, List.setIfInBounds_toArray, List.set_cons_zero, List.set_cons_succ]
            refine wpAnyH_ready (rs := [7]) (by kernel_rfl) (by simp) ?_
            refine AllReadyH.cons (o := _) rfl (fun K hK => ?_) AllReadyH.nil
            go_simp
            refine (specProofOk_any b (ledE v.along e) p w7.drew _ _ _ HSP.out (HBT7.out.keep (map_drew (Below.refl _ _))) (HRD.out.keep (map_drew (Below.refl _ _))) (HPR7.out.keep (map_drew (Below.refl _ _)))).mono ?_
            rw [HR.out]
            rintro z w8 ⟨rfl, hb⟩
            have hb := map_undrew hb
            have HX8 := Lib.hid hb
            have q0 := cell_keep hb f3
            have q1 := cell_keep hb f4
            have q2 := cell_keep hb f5
            have q3 := cell_keep hb f8
            have q4 := cell_keep hb c03
            have q5 := cell_keep hb x0
            have q6 := cell_keep hb x1
            have q7 := cell_keep hb x2
            clear hb
            go_wp2_with fail
            refine hK.out _ _ ?_ (fun hHeld => ?_)
            · exact ⟨q0, q1, q2, q3, q4, q5, q6, q7⟩
            clear hK K
            try simp only [Act.put, List.getElem_toArray, List.getElem_cons_zero, List.getElem_cons_succ, List.setIfInBounds_toArray, List.set_cons_zero, List.set_cons_succ]
            refine wpAnyH_take (i := 8) (oi := _) (v := ?_) rfl (by kernel_rfl) (by kernel_rfl) (by kernel_rfl) (fun _ _ _ h => h) (Or.inl ⟨by rfl, ?_⟩) (by assumption) ?_
            rotate_left
            · first | (intro w' hSw; (try dsimp only at hSw); go_simp; done) | (intro w' hSw; (try dsimp only at hSw); go_simp; with_reducible rfl)
            try simp only [Act.put, List.getElem_toArray, List.getElem_cons_zero, List.getElem_cons_succ, List.setIfInBounds_toArray, List.set_cons_zero, List.set_cons_succ]
            refine wpAnyH_done (by kernel_rfl) ?_ _
            have HN := Lib.hid (sz_keep HD7.out HX8.out)
            clear x0 x1 x2 f3 f4 f5 f8 c03 q0 q1 q2 q3 q4 q5 q6 q7
            cases r with
            | false =>
              have HE := Lib.hid (HNO.out HAT.out)
              go_wp2
              go_ret
              exact ⟨ret_bool HE.out.symm, sz_keep HB.out HN.out⟩
            | true =>
              go_wp2
              go_roundw
              case rel => exact ⟨k + 1, by omega, by go_num, by rw [allView_succ, HAL.out, HAT.out]; rfl, HN.out⟩
              case measure => simp [intOf]; omega
          · have hlt' : ¬ (k : Int) < (a.eqs.length : Int) := by omega
            have hkn : k = a.eqs.length := by omega
            subst hkn
            have HE := Lib.hid (view_yes HA.out HV.out HM.out HPL.out HAL.out)
            clear hd
            go_wp2
            go_ret
            exact ⟨ret_bool HE.out.symm, sz_keep HB.out HD.out⟩
end
end Go.Proofs.Ytbopcghbmbchkaa
