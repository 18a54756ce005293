/- ModelBack of package spec. -/
import Derived.Test.YtbopcghbmbchkabKb173dedf
namespace Go.Proofs.Ytbopcghbmbchkab
section
open Go.RowKit
set_option linter.unusedVariables false
set_option linter.unusedSimpArgs false

set_option maxHeartbeats 6400000 in
set_option maxRecDepth 100000 in
theorem specModelBack_any (a b : MSig) (f : MMap) (m : MModel) (w : World) (va vb vf vm : Value) (h1 : RSig w va a) (h2 : RSig w vb b) (h3 : RMap w vf f) (h4 : RModel w vm m) :
    Calls Try.prog 12 #[va, vb, vf, vm] w fun e w' => ∃ u, e = .returned u ∧ OModel w' w.heap.size u (modBackM a b f m) ∧ Below w.heap.size w w' := by
  obtain ⟨Aaa, caa, rfl⟩ := h1.form
  obtain ⟨Aba, cba, rfl⟩ := h2.form
  obtain ⟨Afa, cfa, Afb, cfb, rfl⟩ := h3.form
  obtain ⟨Ama, cma, Amb, cmb, rfl⟩ := h4.form
  have hb : Below w.heap.size w (((((w.alloc (.cells #[.int .i64 a.sorts, .slice Aaa a.ops.length caa] 25)).alloc (.cells #[.int .i64 b.sorts, .slice Aba b.ops.length cba] 25)).alloc (.cells #[.slice Afa f.sorts.length cfa, .slice Afb f.ops.length cfb] 28)).alloc (.cells #[.slice Ama m.sizes.length cma, .slice Amb m.tables.length cmb] 30)).alloc (.cells #[.slice none 0 0, .slice none 0 0] 30)) := ((((below_alloc _ _).alloc (by simp) _).alloc (by simp; omega) _).alloc (by simp; omega) _).alloc (by simp; omega) _
  have HB := Lib.hid hb
  have hsz : (((((w.alloc (.cells #[.int .i64 a.sorts, .slice Aaa a.ops.length caa] 25)).alloc (.cells #[.int .i64 b.sorts, .slice Aba b.ops.length cba] 25)).alloc (.cells #[.slice Afa f.sorts.length cfa, .slice Afb f.ops.length cfb] 28)).alloc (.cells #[.slice Ama m.sizes.length cma, .slice Amb m.tables.length cmb] 30)).alloc (.cells #[.slice none 0 0, .slice none 0 0] 30)).heap.size = w.heap.size + 5 := by simp
  have Ha := Lib.hid (h1.keep hb)
  have a0 := cell_keep (below_alloc ((((w.alloc (.cells #[.int .i64 a.sorts, .slice Aaa a.ops.length caa] 25)).alloc (.cells #[.int .i64 b.sorts, .slice Aba b.ops.length cba] 25)).alloc (.cells #[.slice Afa f.sorts.length cfa, .slice Afb f.ops.length cfb] 28)).alloc (.cells #[.slice Ama m.sizes.length cma, .slice Amb m.tables.length cmb] 30)) (.cells #[.slice none 0 0, .slice none 0 0] 30)) (cell_keep (below_alloc (((w.alloc (.cells #[.int .i64 a.sorts, .slice Aaa a.ops.length caa] 25)).alloc (.cells #[.int .i64 b.sorts, .slice Aba b.ops.length cba] 25)).alloc (.cells #[.slice Afa f.sorts.length cfa, .slice Afb f.ops.length cfb] 28)) (.cells #[.slice Ama m.sizes.length cma, .slice Amb m.tables.length cmb] 30)) (cell_keep (below_alloc ((w.alloc (.cells #[.int .i64 a.sorts, .slice Aaa a.ops.length caa] 25)).alloc (.cells #[.int .i64 b.sorts, .slice Aba b.ops.length cba] 25)) (.cells #[.slice Afa f.sorts.length cfa, .slice Afb f.ops.length cfb] 28)) (cell_keep (below_alloc (w.alloc (.cells #[.int .i64 a.sorts, .slice Aaa a.ops.length caa] 25)) (.cells #[.int .i64 b.sorts, .slice Aba b.ops.length cba] 25)) (bx_at (w) #[.int .i64 a.sorts, .slice Aaa a.ops.length caa] 25 (k := 0) rfl))))
  have a1 := cell_keep (below_alloc ((((w.alloc (.cells #[.int .i64 a.sorts, .slice Aaa a.ops.length caa] 25)).alloc (.cells #[.int .i64 b.sorts, .slice Aba b.ops.length cba] 25)).alloc (.cells #[.slice Afa f.sorts.length cfa, .slice Afb f.ops.length cfb] 28)).alloc (.cells #[.slice Ama m.sizes.length cma, .slice Amb m.tables.length cmb] 30)) (.cells #[.slice none 0 0, .slice none 0 0] 30)) (cell_keep (below_alloc (((w.alloc (.cells #[.int .i64 a.sorts, .slice Aaa a.ops.length caa] 25)).alloc (.cells #[.int .i64 b.sorts, .slice Aba b.ops.length cba] 25)).alloc (.cells #[.slice Afa f.sorts.length cfa, .slice Afb f.ops.length cfb] 28)) (.cells #[.slice Ama m.sizes.length cma, .slice Amb m.tables.length cmb] 30)) (cell_keep (below_alloc ((w.alloc (.cells #[.int .i64 a.sorts, .slice Aaa a.ops.length caa] 25)).alloc (.cells #[.int .i64 b.sorts, .slice Aba b.ops.length cba] 25)) (.cells #[.slice Afa f.sorts.length cfa, .slice Afb f.ops.length cfb] 28)) (cell_keep (below_alloc (w.alloc (.cells #[.int .i64 a.sorts, .slice Aaa a.ops.length caa] 25)) (.cells #[.int .i64 b.sorts, .slice Aba b.ops.length cba] 25)) (bx_at (w) #[.int .i64 a.sorts, .slice Aaa a.ops.length caa] 25 (k := 1) rfl))))
  have Hb := Lib.hid (h2.keep hb)
  have b0 := cell_keep (below_alloc ((((w.alloc (.cells #[.int .i64 a.sorts, .slice Aaa a.ops.length caa] 25)).alloc (.cells #[.int .i64 b.sorts, .slice Aba b.ops.length cba] 25)).alloc (.cells #[.slice Afa f.sorts.length cfa, .slice Afb f.ops.length cfb] 28)).alloc (.cells #[.slice Ama m.sizes.length cma, .slice Amb m.tables.length cmb] 30)) (.cells #[.slice none 0 0, .slice none 0 0] 30)) (cell_keep (below_alloc (((w.alloc (.cells #[.int .i64 a.sorts, .slice Aaa a.ops.length caa] 25)).alloc (.cells #[.int .i64 b.sorts, .slice Aba b.ops.length cba] 25)).alloc (.cells #[.slice Afa f.sorts.length cfa, .slice Afb f.ops.length cfb] 28)) (.cells #[.slice Ama m.sizes.length cma, .slice Amb m.tables.length cmb] 30)) (cell_keep (below_alloc ((w.alloc (.cells #[.int .i64 a.sorts, .slice Aaa a.ops.length caa] 25)).alloc (.cells #[.int .i64 b.sorts, .slice Aba b.ops.length cba] 25)) (.cells #[.slice Afa f.sorts.length cfa, .slice Afb f.ops.length cfb] 28)) (bx_at (w.alloc (.cells #[.int .i64 a.sorts, .slice Aaa a.ops.length caa] 25)) #[.int .i64 b.sorts, .slice Aba b.ops.length cba] 25 (k := 0) rfl)))
  have b1 := cell_keep (below_alloc ((((w.alloc (.cells #[.int .i64 a.sorts, .slice Aaa a.ops.length caa] 25)).alloc (.cells #[.int .i64 b.sorts, .slice Aba b.ops.length cba] 25)).alloc (.cells #[.slice Afa f.sorts.length cfa, .slice Afb f.ops.length cfb] 28)).alloc (.cells #[.slice Ama m.sizes.length cma, .slice Amb m.tables.length cmb] 30)) (.cells #[.slice none 0 0, .slice none 0 0] 30)) (cell_keep (below_alloc (((w.alloc (.cells #[.int .i64 a.sorts, .slice Aaa a.ops.length caa] 25)).alloc (.cells #[.int .i64 b.sorts, .slice Aba b.ops.length cba] 25)).alloc (.cells #[.slice Afa f.sorts.length cfa, .slice Afb f.ops.length cfb] 28)) (.cells #[.slice Ama m.sizes.length cma, .slice Amb m.tables.length cmb] 30)) (cell_keep (below_alloc ((w.alloc (.cells #[.int .i64 a.sorts, .slice Aaa a.ops.length caa] 25)).alloc (.cells #[.int .i64 b.sorts, .slice Aba b.ops.length cba] 25)) (.cells #[.slice Afa f.sorts.length cfa, .slice Afb f.ops.length cfb] 28)) (bx_at (w.alloc (.cells #[.int .i64 a.sorts, .slice Aaa a.ops.length caa] 25)) #[.int .i64 b.sorts, .slice Aba b.ops.length cba] 25 (k := 1) rfl)))
  have Hf := Lib.hid (h3.keep hb)
  have f0 := cell_keep (below_alloc ((((w.alloc (.cells #[.int .i64 a.sorts, .slice Aaa a.ops.length caa] 25)).alloc (.cells #[.int .i64 b.sorts, .slice Aba b.ops.length cba] 25)).alloc (.cells #[.slice Afa f.sorts.length cfa, .slice Afb f.ops.length cfb] 28)).alloc (.cells #[.slice Ama m.sizes.length cma, .slice Amb m.tables.length cmb] 30)) (.cells #[.slice none 0 0, .slice none 0 0] 30)) (cell_keep (below_alloc (((w.alloc (.cells #[.int .i64 a.sorts, .slice Aaa a.ops.length caa] 25)).alloc (.cells #[.int .i64 b.sorts, .slice Aba b.ops.length cba] 25)).alloc (.cells #[.slice Afa f.sorts.length cfa, .slice Afb f.ops.length cfb] 28)) (.cells #[.slice Ama m.sizes.length cma, .slice Amb m.tables.length cmb] 30)) (bx_at ((w.alloc (.cells #[.int .i64 a.sorts, .slice Aaa a.ops.length caa] 25)).alloc (.cells #[.int .i64 b.sorts, .slice Aba b.ops.length cba] 25)) #[.slice Afa f.sorts.length cfa, .slice Afb f.ops.length cfb] 28 (k := 0) rfl))
  have f1 := cell_keep (below_alloc ((((w.alloc (.cells #[.int .i64 a.sorts, .slice Aaa a.ops.length caa] 25)).alloc (.cells #[.int .i64 b.sorts, .slice Aba b.ops.length cba] 25)).alloc (.cells #[.slice Afa f.sorts.length cfa, .slice Afb f.ops.length cfb] 28)).alloc (.cells #[.slice Ama m.sizes.length cma, .slice Amb m.tables.length cmb] 30)) (.cells #[.slice none 0 0, .slice none 0 0] 30)) (cell_keep (below_alloc (((w.alloc (.cells #[.int .i64 a.sorts, .slice Aaa a.ops.length caa] 25)).alloc (.cells #[.int .i64 b.sorts, .slice Aba b.ops.length cba] 25)).alloc (.cells #[.slice Afa f.sorts.length cfa, .slice Afb f.ops.length cfb] 28)) (.cells #[.slice Ama m.sizes.length cma, .slice Amb m.tables.length cmb] 30)) (bx_at ((w.alloc (.cells #[.int .i64 a.sorts, .slice Aaa a.ops.length caa] 25)).alloc (.cells #[.int .i64 b.sorts, .slice Aba b.ops.length cba] 25)) #[.slice Afa f.sorts.length cfa, .slice Afb f.ops.length cfb] 28 (k := 1) rfl))
  have Hm := Lib.hid (h4.keep hb)
  have m0 := cell_keep (below_alloc ((((w.alloc (.cells #[.int .i64 a.sorts, .slice Aaa a.ops.length caa] 25)).alloc (.cells #[.int .i64 b.sorts, .slice Aba b.ops.length cba] 25)).alloc (.cells #[.slice Afa f.sorts.length cfa, .slice Afb f.ops.length cfb] 28)).alloc (.cells #[.slice Ama m.sizes.length cma, .slice Amb m.tables.length cmb] 30)) (.cells #[.slice none 0 0, .slice none 0 0] 30)) (bx_at (((w.alloc (.cells #[.int .i64 a.sorts, .slice Aaa a.ops.length caa] 25)).alloc (.cells #[.int .i64 b.sorts, .slice Aba b.ops.length cba] 25)).alloc (.cells #[.slice Afa f.sorts.length cfa, .slice Afb f.ops.length cfb] 28)) #[.slice Ama m.sizes.length cma, .slice Amb m.tables.length cmb] 30 (k := 0) rfl)
  have m1 := cell_keep (below_alloc ((((w.alloc (.cells #[.int .i64 a.sorts, .slice Aaa a.ops.length caa] 25)).alloc (.cells #[.int .i64 b.sorts, .slice Aba b.ops.length cba] 25)).alloc (.cells #[.slice Afa f.sorts.length cfa, .slice Afb f.ops.length cfb] 28)).alloc (.cells #[.slice Ama m.sizes.length cma, .slice Amb m.tables.length cmb] 30)) (.cells #[.slice none 0 0, .slice none 0 0] 30)) (bx_at (((w.alloc (.cells #[.int .i64 a.sorts, .slice Aaa a.ops.length caa] 25)).alloc (.cells #[.int .i64 b.sorts, .slice Aba b.ops.length cba] 25)).alloc (.cells #[.slice Afa f.sorts.length cfa, .slice Afb f.ops.length cfb] 28)) #[.slice Ama m.sizes.length cma, .slice Amb m.tables.length cmb] 30 (k := 1) rfl)
  have HZr := Lib.hid (show (((((w.alloc (.cells #[.int .i64 a.sorts, .slice Aaa a.ops.length caa] 25)).alloc (.cells #[.int .i64 b.sorts, .slice Aba b.ops.length cba] 25)).alloc (.cells #[.slice Afa f.sorts.length cfa, .slice Afb f.ops.length cfb] 28)).alloc (.cells #[.slice Ama m.sizes.length cma, .slice Amb m.tables.length cmb] 30)).alloc (.cells #[.slice none 0 0, .slice none 0 0] 30)).heap[w.heap.size + 1 + 1 + 1 + 1]? = some (.cells #[.slice none 0 0, .slice none 0 0] 30 (0, 0)) from (congrArg (fun i => (((((w.alloc (.cells #[.int .i64 a.sorts, .slice Aaa a.ops.length caa] 25)).alloc (.cells #[.int .i64 b.sorts, .slice Aba b.ops.length cba] 25)).alloc (.cells #[.slice Afa f.sorts.length cfa, .slice Afb f.ops.length cfb] 28)).alloc (.cells #[.slice Ama m.sizes.length cma, .slice Amb m.tables.length cmb] 30)).alloc (.cells #[.slice none 0 0, .slice none 0 0] 30)).heap[i]?) (by simp)).trans (heap_alloc_new ((((w.alloc (.cells #[.int .i64 a.sorts, .slice Aaa a.ops.length caa] 25)).alloc (.cells #[.int .i64 b.sorts, .slice Aba b.ops.length cba] 25)).alloc (.cells #[.slice Afa f.sorts.length cfa, .slice Afb f.ops.length cfb] 28)).alloc (.cells #[.slice Ama m.sizes.length cma, .slice Amb m.tables.length cmb] 30)) _))
  simp only [World.size_alloc] at b0 b1 f0 f1 m0 m1
  generalize hW : ((((w.alloc (.cells #[.int .i64 a.sorts, .slice Aaa a.ops.length caa] 25)).alloc (.cells #[.int .i64 b.sorts, .slice Aba b.ops.length cba] 25)).alloc (.cells #[.slice Afa f.sorts.length cfa, .slice Afb f.ops.length cfb] 28)).alloc (.cells #[.slice Ama m.sizes.length cma, .slice Amb m.tables.length cmb] 30)).alloc (.cells #[.slice none 0 0, .slice none 0 0] 30) = W at HB hsz Ha a0 a1 Hb b0 b1 Hf f0 f1 Hm m0 m1 HZr
  clear hb h1 h2 h3 h4
  have hl1 := Hf.out.of.1.len
  have hl2 := Hf.out.of.2.len
  have hl3 := Hm.out.of.1.len
  have hl4 := Hm.out.of.2.len
  cases hok : mapOkB a b f with
  | false =>
    have HOK := Lib.hid hok
    have HE := Lib.hid (show modBackM a b f m = ⟨[], []⟩ by unfold modBackM; rw [hok]; rfl)
    clear hok
    go_enter Try.func12, Try.ntmps12
    go_wp2_with fail
    clear hW
    refine (specMapOk_any a b f _ _ _ _ Ha.out Hb.out Hf.out).mono ?_
    rw [HOK.out]
    rintro x w1 ⟨rfl, hb⟩
    replace HZr := Lib.hid (blk_held HZr.out hb)
    replace HB := Lib.hid (sz_keep HB.out hb)
    replace a0 := cell_keep hb a0
    replace a1 := cell_keep hb a1
    replace b0 := cell_keep hb b0
    replace b1 := cell_keep hb b1
    replace f0 := cell_keep hb f0
    replace f1 := cell_keep hb f1
    replace m0 := cell_keep hb m0
    replace m1 := cell_keep hb m1
    replace Ha := Lib.hid (Ha.out.keep hb)
    replace Hb := Lib.hid (Hb.out.keep hb)
    replace Hf := Lib.hid (Hf.out.keep hb)
    replace Hm := Lib.hid (Hm.out.keep hb)
    clear hb
    have j0 := blk_cell HZr.out 0
    have j1 := blk_cell HZr.out 1
    have jf0 := blk_free HZr.out 0
    have jf1 := blk_free HZr.out 1
    simp at j0 j1
    go_wp2
    have d1 := blk_set (blk_set HZr.out 0 (.slice none 0 0)) 1 (.slice none 0 0)
    have hbz := ((HB.out.setCell (p := ⟨w.heap.size + 1 + 1 + 1 + 1, 0, none⟩) (by show w.heap.size ≤ w.heap.size + 1 + 1 + 1 + 1; omega) (.slice none 0 0)).setCell (p := ⟨w.heap.size + 1 + 1 + 1 + 1, 1, none⟩) (by show w.heap.size ≤ w.heap.size + 1 + 1 + 1 + 1; omega) (.slice none 0 0))
    generalize (w1.setCell ⟨w.heap.size + 1 + 1 + 1 + 1, 0, none⟩ (.slice none 0 0)).setCell ⟨w.heap.size + 1 + 1 + 1 + 1, 1, none⟩ (.slice none 0 0) = wz at d1 hbz ⊢
    have k0 := blk_cell d1 0
    have k1 := blk_cell d1 1
    simp at k0 k1
    clear j0 j1 jf0 jf1
    refine bodyPost_ret (v := .agg #[.slice none 0 0, .slice none 0 0]) (by simp [results, Try.results12, go_sem, k0, k1]) rfl ?_
    exact ⟨_, rfl, by rw [HE.out]; exact nil_model _ _, hbz⟩
  | true =>
    have HOK := Lib.hid hok
    cases hmo : modelB b m with
    | false =>
      have HMO := Lib.hid hmo
      have HE := Lib.hid (show modBackM a b f m = ⟨[], []⟩ by unfold modBackM; rw [hok, hmo]; rfl)
      clear hok hmo
      go_enter Try.func12, Try.ntmps12
      go_wp2_with fail
      clear hW
      refine (specMapOk_any a b f _ _ _ _ Ha.out Hb.out Hf.out).mono ?_
      rw [HOK.out]
      rintro x w1 ⟨rfl, hb⟩
      replace HZr := Lib.hid (blk_held HZr.out hb)
      replace HB := Lib.hid (sz_keep HB.out hb)
      replace a0 := cell_keep hb a0
      replace a1 := cell_keep hb a1
      replace b0 := cell_keep hb b0
      replace b1 := cell_keep hb b1
      replace f0 := cell_keep hb f0
      replace f1 := cell_keep hb f1
      replace m0 := cell_keep hb m0
      replace m1 := cell_keep hb m1
      replace Ha := Lib.hid (Ha.out.keep hb)
      replace Hb := Lib.hid (Hb.out.keep hb)
      replace Hf := Lib.hid (Hf.out.keep hb)
      replace Hm := Lib.hid (Hm.out.keep hb)
      clear hb
      go_wp2_with fail
      refine (specModelOk_any b m _ _ _ Hb.out Hm.out).mono ?_
      rw [HMO.out]
      rintro x w2 ⟨rfl, hb⟩
      replace HZr := Lib.hid (blk_held HZr.out hb)
      replace HB := Lib.hid (sz_keep HB.out hb)
      replace a0 := cell_keep hb a0
      replace a1 := cell_keep hb a1
      replace b0 := cell_keep hb b0
      replace b1 := cell_keep hb b1
      replace f0 := cell_keep hb f0
      replace f1 := cell_keep hb f1
      replace m0 := cell_keep hb m0
      replace m1 := cell_keep hb m1
      replace Ha := Lib.hid (Ha.out.keep hb)
      replace Hb := Lib.hid (Hb.out.keep hb)
      replace Hf := Lib.hid (Hf.out.keep hb)
      replace Hm := Lib.hid (Hm.out.keep hb)
      clear hb
      have j0 := blk_cell HZr.out 0
      have j1 := blk_cell HZr.out 1
      have jf0 := blk_free HZr.out 0
      have jf1 := blk_free HZr.out 1
      simp at j0 j1
      go_wp2
      have d1 := blk_set (blk_set HZr.out 0 (.slice none 0 0)) 1 (.slice none 0 0)
      have hbz := ((HB.out.setCell (p := ⟨w.heap.size + 1 + 1 + 1 + 1, 0, none⟩) (by show w.heap.size ≤ w.heap.size + 1 + 1 + 1 + 1; omega) (.slice none 0 0)).setCell (p := ⟨w.heap.size + 1 + 1 + 1 + 1, 1, none⟩) (by show w.heap.size ≤ w.heap.size + 1 + 1 + 1 + 1; omega) (.slice none 0 0))
      generalize (w2.setCell ⟨w.heap.size + 1 + 1 + 1 + 1, 0, none⟩ (.slice none 0 0)).setCell ⟨w.heap.size + 1 + 1 + 1 + 1, 1, none⟩ (.slice none 0 0) = wz at d1 hbz ⊢
      have k0 := blk_cell d1 0
      have k1 := blk_cell d1 1
      simp at k0 k1
      clear j0 j1 jf0 jf1
      refine bodyPost_ret (v := .agg #[.slice none 0 0, .slice none 0 0]) (by simp [results, Try.results12, go_sem, k0, k1]) rfl ?_
      exact ⟨_, rfl, by rw [HE.out]; exact nil_model _ _, hbz⟩
    | true =>
      have HMO := Lib.hid hmo
      have HE := Lib.hid (show modBackM a b f m = ⟨ledM m.sizes f.sorts, f.ops.map fun o => m.tables.getD o.toNat []⟩ by unfold modBackM; rw [hok, hmo]; rfl)
      have HMF := Lib.hid (mapOk_facts hok)
      have HMD := Lib.hid (model_facts hmo)
      have hsa := valid_sorts HMF.out.va
      have hfs : f.sorts.length ≤ 3 := by have := HMF.out.sl; omega
      have hfo : f.ops.length ≤ 6 := by have := HMF.out.ol; omega
      clear hok hmo hsa
      go_enter Try.func12, Try.ntmps12
      go_wp2_with fail
      clear hW
      refine (specMapOk_any a b f _ _ _ _ Ha.out Hb.out Hf.out).mono ?_
      rw [HOK.out]
      rintro x w1 ⟨rfl, hb⟩
      replace HZr := Lib.hid (blk_held HZr.out hb)
      replace HB := Lib.hid (sz_keep HB.out hb)
      replace a0 := cell_keep hb a0
      replace a1 := cell_keep hb a1
      replace b0 := cell_keep hb b0
      replace b1 := cell_keep hb b1
      replace f0 := cell_keep hb f0
      replace f1 := cell_keep hb f1
      replace m0 := cell_keep hb m0
      replace m1 := cell_keep hb m1
      replace Ha := Lib.hid (Ha.out.keep hb)
      replace Hb := Lib.hid (Hb.out.keep hb)
      replace Hf := Lib.hid (Hf.out.keep hb)
      replace Hm := Lib.hid (Hm.out.keep hb)
      clear hb
      go_wp2_with fail
      refine (specModelOk_any b m _ _ _ Hb.out Hm.out).mono ?_
      rw [HMO.out]
      rintro x w2 ⟨rfl, hb⟩
      replace HZr := Lib.hid (blk_held HZr.out hb)
      replace HB := Lib.hid (sz_keep HB.out hb)
      replace a0 := cell_keep hb a0
      replace a1 := cell_keep hb a1
      replace b0 := cell_keep hb b0
      replace b1 := cell_keep hb b1
      replace f0 := cell_keep hb f0
      replace f1 := cell_keep hb f1
      replace m0 := cell_keep hb m0
      replace m1 := cell_keep hb m1
      replace Ha := Lib.hid (Ha.out.keep hb)
      replace Hb := Lib.hid (Hb.out.keep hb)
      replace Hf := Lib.hid (Hf.out.keep hb)
      replace Hm := Lib.hid (Hm.out.keep hb)
      clear hb
      have hwr2 : w.heap.size + 1 + 1 + 1 + 1 < w2.heap.size := (Array.getElem?_eq_some_iff.1 HZr.out).1
      obtain ⟨i0, hi0, hz0, hz1, hz2⟩ := info_parts Try.tinfo_int
      obtain ⟨i1, hj, hy0, hy1, hy2⟩ := info_parts Try.tinfo_ints
      have HC0 := Lib.hid (And.intro f0 (And.intro f1 (And.intro m0 m1)))
      have HZ2 := HZr
      have HB2 := HB
      have hb3 := below_alloc w2 (.cells #[.slice none 0 0, .slice none 0 0] 30)
      have hl3 : (w2.alloc (.cells #[.slice none 0 0, .slice none 0 0] 30)).heap[w2.heap.size]? = some (.cells #[.slice none 0 0, .slice none 0 0] 30 (0, 0)) := heap_alloc_new w2 _
      generalize hW3 : w2.alloc (.cells #[.slice none 0 0, .slice none 0 0] 30) = W3 at hb3 hl3
      have hl4 : ((W3.setCell ⟨w2.heap.size, 0, none⟩ (.slice none 0 0)).setCell ⟨w2.heap.size, 1, none⟩ (.slice none 0 0)).heap[w2.heap.size]? = some (.cells #[.slice none 0 0, .slice none 0 0] 30 (0, 0)) := blk_set (blk_set hl3 0 (.slice none 0 0)) 1 (.slice none 0 0)
      have hb4 : Below w2.heap.size w2 ((W3.setCell ⟨w2.heap.size, 0, none⟩ (.slice none 0 0)).setCell ⟨w2.heap.size, 1, none⟩ (.slice none 0 0)) := (hb3.setCell (p := ⟨w2.heap.size, 0, none⟩) (Nat.le_refl _) _).setCell (p := ⟨w2.heap.size, 1, none⟩) (Nat.le_refl _) _
      have j0 := blk_cell hl3 0
      have j1 := blk_cell hl3 1
      have jf0 := blk_free hl3 0
      have jf1 := blk_free hl3 1
      simp at j0 j1
      generalize hW4 : (W3.setCell ⟨w2.heap.size, 0, none⟩ (.slice none 0 0)).setCell ⟨w2.heap.size, 1, none⟩ (.slice none 0 0) = W4 at hl4 hb4
      have HL4 := Lib.hid hl4
      have HB4 := Lib.hid hb4
      clear hb3 hl3 hl4
      have hlt4 : w2.heap.size < W4.heap.size := (Array.getElem?_eq_some_iff.1 HL4.out).1
      clear hb4
      go_wp2
      clear hW3 hW4 j0 j1 jf0 jf1 a0 a1 b0 b1 f0 f1 m0 m1
      go_loopw [10] (fun i wr => ∃ k : Nat, ∃ u, k ≤ f.sorts.length ∧ i = .int .i64 k ∧ Loc 30 W4 wr w2.heap.size #[u, .slice none 0 0] u (ledM m.sizes (f.sorts.take k))) (fun i _ => f.sorts.length - (intOf i).toNat)
      case atStart => exact ⟨0, _, Nat.zero_le _, rfl, Loc.start HL4.out⟩
      case round =>
        obtain ⟨k, u, hk, rfl, hloc⟩ := hrel
        have HLOC := Lib.hid hloc
        have HBW := Lib.hid (hloc.below HB4.out (Nat.le_refl _))
        obtain ⟨Au, cu, rfl, -⟩ := own_reads hloc.own
        have f0 := cell_keep HBW.out HC0.out.1
        have f1 := cell_keep HBW.out HC0.out.2.1
        have m0 := cell_keep HBW.out HC0.out.2.2.1
        have m1 := cell_keep HBW.out HC0.out.2.2.2
        clear hloc
        by_cases hltk : k < f.sorts.length
        · have hlt' : (k : Int) < (f.sorts.length : Int) := by omega
          obtain ⟨b7, o7, d7, e, hx⟩ := Hf.out.of.1.at_ hltk
          cases e
          have HTK := Lib.hid (ledM_take (tq := m.sizes) hltk)
          have HI := Lib.hid (HMF.out.sb _ (List.getElem_mem hltk))
          have HI2 := Lib.hid (show f.sorts[k] < 100 by have := (HMF.out.sb _ (List.getElem_mem hltk)).2; have := valid_sorts HMD.out.va; omega)
          generalize f.sorts[k] = x at hx HTK HI HI2
          obtain ⟨q, rfl⟩ : ∃ q : Nat, x = (q : Int) := ⟨x.toNat, by have := HI.out; omega⟩
          have hql : q < m.sizes.length := by have := HI.out; have := HMD.out.sl; omega
          have hql' : (q : Int) < (m.sizes.length : Int) := by omega
          have hq0 : (0 : Int) ≤ (q : Int) := by omega
          obtain ⟨b8, o8, d8, e, hy⟩ := Hm.out.of.1.at_ hql
          cases e
          have HY := Lib.hid (show (if (q : Int) < 100 then m.sizes.getD (q : Int).toNat 0 else (q : Int)) = m.sizes[q] by rw [if_pos HI2.out, Int.toNat_natCast, getD_at _ hql])
          generalize m.sizes[q] = y at hy HY
          replace hx := cell_keep HBW.out hx
          replace hy := cell_keep HBW.out hy
          have HLEN := Lib.hid (show (ledM m.sizes (f.sorts.take k)).length = k by rw [ledM_len, List.length_take]; omega)
          have l0 := blk_cell HLOC.out.loc 0
          simp at l0
          generalize ledM m.sizes (f.sorts.take k) = ps at HLOC HLEN HTK l0
          have hs1 := HBW.out.size
          have hs3 := HLOC.out.gr.size
          have hp1 : ps.length + 1 ≤ maxLen := by rw [HLEN.out, maxLen_eq]; omega
          have hp2 : (ps.length + 1) * 8 ≤ 140737488355328 := by rw [HLEN.out]; omega
          have HP := Lib.hid (And.intro hp1 hp2)
          have HS3 := Lib.hid (show W4.heap.size ≤ (wr.alloc (.cells #[.int .i64 y] 3)).heap.size by simp; omega)
          have HO1 := Lib.hid (own_keep HLOC.out.own (below_alloc wr (.cells #[.int .i64 y] 3)))
          have HN1 := Lib.hid (led_new wr y)
          have ea := World.block_lt_of_cell? wr _ l0
          have eb := World.block_lt_of_cell? wr _ hx
          have ec := World.block_lt_of_cell? wr _ hy
          have ed := World.block_lt_of_cell? wr _ m0
          have ee := World.block_lt_of_cell? wr _ f0
          simp only at ea eb ec ed ee
          clear hp1 hp2
          go_wp2_with fail
          go_region_law (first
            | (refine step_append_own rfl (.tmp 33) (.tmp 43) 26 rfl W4.heap.size 3 i0 (.int .i64 0) 1 8 Try.underlying26 hi0 hz0 hz1 hz2 rfl (by omega) _ ps.length (ps.map (Value.int .i64)) rfl HO1.out.drew ⟨wr.heap.size, 0, none⟩ 1 1 ([y].map (Value.int .i64)) rfl (by simp) HN1.out (ints_one _) HP.out.1 HP.out.2 HS3.out ?_; intro v6 w6 hv6 hg6; have HO6 := Lib.hid (led_app (rs := [y]) rfl hv6); obtain ⟨A6, c6, rfl, -⟩ := own_reads hv6; have hg7 := grown_undrew hg6; have HN := Lib.hid (HLOC.out.push (cs' := #[.slice A6 (ps.length + 1) c6, .slice none 0 0]) hg7 HO6.out 0 rfl); have hl6 := HLOC.out.grown hg7; have q0 := blk_cell hl6 0; have qf := blk_free hl6 0; simp at q0; clear hv6 hg6 hg7 hl6))
          all_goals
            clear l0 hx hy ea eb ec ed ee q0 qf f0 f1 m0 m1
            go_wp2
            go_roundw
            case rel => exact ⟨k + 1, _, by omega, by go_num, by rw [HTK.out, HY.out]; exact HN.out⟩
            case measure => simp [intOf]; omega
        · have hlt' : ¬ (k : Int) < (f.sorts.length : Int) := by omega
          obtain ⟨wz, rfl⟩ : ∃ wz : World, wz = wr := ⟨_, rfl⟩
          have HTA := Lib.hid (show f.sorts.take k = f.sorts from take_all (by omega))
          rw [HTA.out] at HLOC
          have HLZ := Lib.hid HLOC.out.loc
          have OU := Lib.hid HLOC.out.own
          have HBZ := Lib.hid HBW.out
          have hz4 := HLOC.out.gr.size
          try rw [HTA.out]
          have HUL := Lib.hid (show ∀ k, (Value.slice Au (ledM m.sizes f.sorts).length cu).ownBlock = some k → k < wz.heap.size from fun k e => (own_lt OU.out k e).2)
          have HNE := Lib.hid (show (Value.slice Au (ledM m.sizes f.sorts).length cu).ownBlock ≠ some w2.heap.size from fun e => by have := (own_lt OU.out _ e).1; omega)
          go_wp2
          clear f0 f1 m0 m1 HBW HLOC
          go_loopw [11] (fun i wr => ∃ k : Nat, ∃ u, k ≤ f.ops.length ∧ i = .int .i64 k ∧ LocR 30 wz wr w2.heap.size #[.slice Au (ledM m.sizes f.sorts).length cu, u] u (tabsM m (f.ops.take k))) (fun i _ => f.ops.length - (intOf i).toNat)
          case atStart => exact ⟨0, _, Nat.zero_le _, rfl, LocR.start HLZ.out⟩
          case round =>
            obtain ⟨k, u, hk, rfl, hloc⟩ := hrel
            have HLOC := Lib.hid hloc
            have HBW := Lib.hid (hloc.below HBZ.out (Nat.le_refl _))
            obtain ⟨us, hu1, hu2, hu3, hu4⟩ := hloc.own
            have HLT := Lib.hid (show (tabsM m (f.ops.take k)).length = k by rw [tabsM_len, List.length_take]; omega)
            have HTAB := Lib.hid (fun (h : k < f.ops.length) => tabsM_take (m := m) h)
            have HPE := Lib.hid (fun (h : k = f.ops.length) => show tabsM m (f.ops.take k) = tabsM m f.ops by rw [take_all (by omega)])
            generalize tabsM m (f.ops.take k) = ps at HLOC hloc hu1 hu2 hu3 hu4 HLT HTAB HPE
            obtain ⟨Av, cv, rfl, -⟩ := own_reads hu1
            have HU1 := Lib.hid hu1
            have HU2 := Lib.hid hu2
            have HU3 := Lib.hid hu3
            have HU4 := Lib.hid hu4
            have f1 := cell_keep HBW.out HC0.out.2.1
            have m1 := cell_keep HBW.out HC0.out.2.2.2
            have l1 := blk_cell hloc.loc 1
            simp at l1
            have hs3 := hloc.gr.size
            clear hloc hu1 hu2 hu3 hu4
            by_cases hlt : k < f.ops.length
            · have hlt' : (k : Int) < (f.ops.length : Int) := by omega
              obtain ⟨b7, o7, c7, e, hx0⟩ := Hf.out.of.2.at_ hlt
              cases e
              have HTK := Lib.hid (HTAB.out hlt)
              have hin := HMF.out.ob _ (List.getElem_mem hlt)
              generalize f.ops[k] = x at hx0 HTK hin
              obtain ⟨q, rfl⟩ : ∃ q : Nat, x = (q : Int) := ⟨x.toNat, by omega⟩
              have hqm : q < m.tables.length := by rw [HMD.out.tl]; omega
              have hqm' : (q : Int) < (m.tables.length : Int) := by omega
              have hq0 : (0 : Int) ≤ (q : Int) := by omega
              obtain ⟨b8, o8, c8, u8, e, ht0, hrt0⟩ := Hm.out.of.2.at_ hqm
              cases e
              have htl := table_len HMD.out hqm
              have HGD := Lib.hid (show m.tables.getD (q : Int).toNat [] = m.tables[q] by rw [Int.toNat_natCast, getD_at _ hqm])
              generalize m.tables[q] = tb at ht0 hrt0 htl HGD
              have hrt := hrt0.keep HBW.out
              have HRT := Lib.hid hrt
              obtain ⟨bx, ox, cx, ex, -⟩ := hrt.at_ (k := 0) (by omega)
              cases ex
              have HL7 := Lib.hid (show ps.length + 1 ≤ maxLen ∧ (ps.length + 1) * 24 ≤ 140737488355328 by rw [HLT.out, maxLen_eq]; omega)
              have HA1 := Lib.hid (show (tb.map (Value.int .i64)).length = tb.length * 1 ∧ 0 + tb.length ≤ maxLen ∧ (0 + tb.length) * 8 ≤ 140737488355328 ∧ wr.heap.size ≤ (wr.alloc (.cells #[] 3)).heap.size from ⟨by simp, by rw [maxLen_eq]; omega, by omega, by simp⟩)
              have HNEWS := Lib.hid (news_any (HRT.out.keep (below_alloc wr (.cells #[] 3))))
              have hx := cell_keep HBW.out hx0
              have ht := cell_keep HBW.out ht0
              have HLK := Lib.hid (And.intro (World.block_lt_of_cell? w2 _ HC0.out.2.1) (And.intro (World.block_lt_of_cell? w2 _ HC0.out.2.2.2) (And.intro (World.block_lt_of_cell? w2 _ hx0) (World.block_lt_of_cell? w2 _ ht0))))
              have HX0 := Lib.hid (And.intro hx0 ht0)
              have ea := World.block_lt_of_cell? wr _ l1
              simp only at ea
              clear hrt hrt0 hin hx0 ht0
              go_wp2_with fail
              refine wp_region_held_drew (S := (fun w' => w'.cell? ⟨w.heap.size + 1 + 1, 1, none⟩ = some (.slice (some ⟨b7, o7, none⟩) f.ops.length cfb) ∧ w'.cell? ⟨w.heap.size + 1 + 1 + 1, 1, none⟩ = some (.slice (some ⟨b8, o8, none⟩) m.tables.length cmb) ∧ w'.cell? ⟨b7, o7 + k, none⟩ = some (.int .i64 (q : Int)) ∧ w'.cell? ⟨b8, o8 + q, none⟩ = some (.slice (some ⟨bx, ox, none⟩) tb.length cx))) (by kernel_rfl) ?_ (fun hHeld => ?_)
              · exact ⟨f1, m1, hx, ht⟩
              refine wpAnyH_take (i := 0) (oi := _) (v := ?_) rfl (by kernel_rfl) (by kernel_rfl) (by kernel_rfl) (fun _ _ _ h => h) (Or.inl ⟨by rfl, ?_⟩) (by assumption) ?_
              rotate_left
              · first | (intro w' hSw; (try dsimp only at hSw); go_simp; done) | (intro w' hSw; (try dsimp only at hSw); go_simp; with_reducible rfl)
              try simp only [Act.put, List.getElem_toArray, List.getElem_cons_zero, List.getElem_cons_succ, List.setIfInBounds_toArray, List.set_cons_zero, List.set_cons_succ]
              refine wpAnyH_take (i := 3) (oi := _) (v := ?_) rfl (by kernel_rfl) (by kernel_rfl) (by kernel_rfl) (fun _ _ _ h => h) (Or.inl ⟨by rfl, ?_⟩) (by assumption) ?_
              rotate_left
              · first | (intro w' hSw; (try dsimp only at hSw); go_simp; done) | (intro w' hSw; (try dsimp only at hSw); go_simp; with_reducible rfl)
              try simp only [Act.put, List.getElem_toArray, List.getElem_cons_zero, List.getElem_cons_succ, List.setIfInBounds_toArray, List.set_cons_zero, List.set_cons_succ]
              refine wpAnyH_take (i := 4) (oi := _) (v := ?_) rfl (by kernel_rfl) (by kernel_rfl) (by kernel_rfl) (fun _ _ _ h => h) (Or.inl ⟨by rfl, ?_⟩) (by assumption) ?_
              rotate_left
              · first | (intro w' hSw; (try dsimp only at hSw); go_simp; done) | (intro w' hSw; (try dsimp only at hSw); go_simp; with_reducible rfl)
              try simp only [Act.put, List.getElem_toArray, List.getElem_cons_zero, List.getElem_cons_succ, List.setIfInBounds_toArray, List.set_cons_zero, List.set_cons_succ]
              refine wpAnyH_take (i := 5) (oi := _) (v := ?_) rfl (by kernel_rfl) (by kernel_rfl) (by kernel_rfl) (fun _ _ _ h => h) (Or.inl ⟨by rfl, ?_⟩) (by assumption) ?_
              rotate_left
              · first | (intro w' hSw; (try dsimp only at hSw); go_simp; done) | (intro w' hSw; (try dsimp only at hSw); go_simp; with_reducible rfl)
              try simp only [Act.put, List.getElem_toArray, List.getElem_cons_zero, List.getElem_cons_succ, List.setIfInBounds_toArray, List.set_cons_zero, List.set_cons_succ]
              refine wpAnyH_take (i := 6) (oi := _) (v := ?_) rfl (by kernel_rfl) (by kernel_rfl) (by kernel_rfl) (fun _ _ _ h => h) (Or.inl ⟨by rfl, ?_⟩) (by assumption) ?_
              rotate_left
              · first | (intro w' hSw; (try dsimp only at hSw); go_simp; done) | (intro w' hSw; (try dsimp only at hSw); go_simp; with_reducible rfl)
              try simp only [Act.put, List.getElem_toArray, List.getElem_cons_zero, List.getElem_cons_succ, List.setIfInBounds_toArray, List.set_cons_zero, List.set_cons_succ]
              refine wpAnyH_take (i := 7) (oi := _) (v := ?_) rfl (by kernel_rfl) (by kernel_rfl) (by kernel_rfl) (fun _ _ _ h => h) (Or.inl ⟨by rfl, ?_⟩) (by assumption) ?_
              rotate_left
              · first | (intro w' hSw; (try dsimp only at hSw); go_simp; done) | (intro w' hSw; (try dsimp only at hSw); go_simp; with_reducible rfl)
              try simp only [Act.put, List.getElem_toArray, List.getElem_cons_zero, List.getElem_cons_succ, List.setIfInBounds_toArray, List.set_cons_zero, List.set_cons_succ]
              refine wpAnyH_take (i := 8) (oi := _) (v := ?_) rfl (by kernel_rfl) (by kernel_rfl) (by kernel_rfl) (fun _ _ _ h => h) (Or.inl ⟨by rfl, ?_⟩) (by assumption) ?_
              rotate_left
              · first | (intro w' hSw; (try dsimp only at hSw); go_simp; done) | (intro w' hSw; (try dsimp only at hSw); go_simp; with_reducible rfl)
              try simp only [Act.put, List.getElem_toArray, List.getElem_cons_zero, List.getElem_cons_succ, List.setIfInBounds_toArray, List.set_cons_zero, List.set_cons_succ]
              refine wpAnyH_take (i := 9) (oi := _) (v := ?_) rfl (by kernel_rfl) (by kernel_rfl) (by kernel_rfl) (fun _ _ _ h => h) (Or.inl ⟨by rfl, ?_⟩) (by assumption) ?_
              rotate_left
              · first | (intro w' hSw; (try dsimp only at hSw); go_simp; done) | (intro w' hSw; (try dsimp only at hSw); go_simp; with_reducible rfl)
              try simp only [Act.put, List.getElem_toArray, List.getElem_cons_zero, List.getElem_cons_succ, List.setIfInBounds_toArray, List.set_cons_zero, List.set_cons_succ]
              refine wpAnyH_take (i := 10) (oi := _) (v := ?_) rfl (by kernel_rfl) (by kernel_rfl) (by kernel_rfl) (fun _ _ _ h => h) (Or.inl ⟨by rfl, ?_⟩) (by assumption) ?_
              rotate_left
              · first | (intro w' hSw; (try dsimp only at hSw); go_simp; done) | (intro w' hSw; (try dsimp only at hSw); go_simp; with_reducible rfl)
              try simp only [Act.put, List.getElem_toArray, List.getElem_cons_zero, List.getElem_cons_succ, List.setIfInBounds_toArray, List.set_cons_zero, List.set_cons_succ]
              refine wpAnyH_take (i := 11) (oi := _) (v := ?_) rfl (by kernel_rfl) (by kernel_rfl) (by kernel_rfl) (fun _ _ _ h => h) (Or.inl ⟨by rfl, ?_⟩) (by assumption) ?_
              rotate_left
              · first | (intro w' hSw; (try dsimp only at hSw); go_simp; done) | (intro w' hSw; (try dsimp only at hSw); go_simp; with_reducible rfl)
              try simp only [Act.put, List.getElem_toArray, List.getElem_cons_zero, List.getElem_cons_succ, List.setIfInBounds_toArray, List.set_cons_zero, List.set_cons_succ]
              refine wpAnyH_ready (rs := [1, 2]) (by kernel_rfl) (by simp) ?_
              refine AllReadyH.cons (o := _) rfl (fun K hK => ?_) ?_
              · go_simp
                refine hK.out _ _ ?_ (fun hHeld => ?_)
                · first | assumption | exact ⟨f1, m1, hx, ht⟩ | exact ⟨cell_keep (below_alloc _ _) f1, cell_keep (below_alloc _ _) m1, cell_keep (below_alloc _ _) hx, cell_keep (below_alloc _ _) ht⟩ | exact ⟨k0, k1, k2, k3⟩ | exact ⟨cell_keep (below_alloc _ _) k0, cell_keep (below_alloc _ _) k1, cell_keep (below_alloc _ _) k2, cell_keep (below_alloc _ _) k3⟩ | exact ⟨n0, n1, n2, n3⟩ | exact ⟨cell_keep HBF.out HC0.out.2.1, cell_keep HBF.out HC0.out.2.2.2, cell_keep HBF.out HX0.out.1, cell_keep HBF.out HX0.out.2⟩
                clear hK K
                try simp only [Act.put, List.getElem_toArray, List.getElem_cons_zero, List.getElem_cons_succ, List.setIfInBounds_toArray, List.set_cons_zero, List.set_cons_succ]
                refine wpAnyH_ready (rs := [2]) (by kernel_rfl) (by simp) ?_
                refine AllReadyH.cons (o := _) rfl (fun K hK => ?_) ?_
                · go_simp
                  refine hK.out _ _ ?_ (fun hHeld => ?_)
                  · first | assumption | exact ⟨f1, m1, hx, ht⟩ | exact ⟨cell_keep (below_alloc _ _) f1, cell_keep (below_alloc _ _) m1, cell_keep (below_alloc _ _) hx, cell_keep (below_alloc _ _) ht⟩ | exact ⟨k0, k1, k2, k3⟩ | exact ⟨cell_keep (below_alloc _ _) k0, cell_keep (below_alloc _ _) k1, cell_keep (below_alloc _ _) k2, cell_keep (below_alloc _ _) k3⟩ | exact ⟨n0, n1, n2, n3⟩ | exact ⟨cell_keep HBF.out HC0.out.2.1, cell_keep HBF.out HC0.out.2.2.2, cell_keep HBF.out HX0.out.1, cell_keep HBF.out HX0.out.2⟩
                  clear hK K
                  try simp only [Act.put, List.getElem_toArray, List.getElem_cons_zero, List.getElem_cons_succ, List.setIfInBounds_toArray, List.set_cons_zero, List.set_cons_succ]
                  refine wpAnyH_ready (rs := [12]) (by kernel_rfl) (by simp) ?_
                  refine AllReadyH.cons (o := _) rfl (fun K hK => ?_) ?_
                  · (refine step_append_own rfl (.tmp 55) (.tmp 64) 26 rfl wr.heap.size 3 i0 (.int .i64 0) 1 8 Try.underlying26 hi0 hz0 hz1 hz2 rfl (by omega) _ 0 [] rfl ((own_empty wr).drew) ⟨bx, ox, none⟩ tb.length cx (tb.map (Value.int .i64)) rfl HA1.out.1 HNEWS.out (ints_one _) HA1.out.2.1 HA1.out.2.2.1 HA1.out.2.2.2 ?_; intro v6 w6 hv6 hg6; simp only [Nat.zero_add, List.nil_append] at hv6; obtain ⟨A6, c6, rfl, -⟩ := own_reads hv6; have HB6 := Lib.hid (bel_grow hg6 (fun k e => by injection e with e; exact Nat.le_of_eq e)); have HO6 := Lib.hid (show OInts w6 wr.heap.size (.slice A6 tb.length c6) tb from hv6); clear hg6 hv6; have HOV := Lib.hid ((own_keep HU1.out HB6.out).alloc (.cells #[.slice A6 tb.length c6] 26)); have HN6 := Lib.hid (news_one5 w6 (.slice A6 tb.length c6) 26); have p1 := cell_keep HB6.out l1; have p2 : w2.heap.size < w6.heap.size := World.block_lt_of_cell? w6 _ p1; have k0 := cell_keep HB6.out f1; have k1 := cell_keep HB6.out m1; have k2 := cell_keep HB6.out hx; have k3 := cell_keep HB6.out ht; have HZ6 := Lib.hid (show wz.heap.size ≤ (w6.alloc (.cells #[.slice A6 tb.length c6] 26)).heap.size by have := HB6.out.size; simp; omega))
                    refine hK.out _ _ ?_ (fun hHeld => ?_)
                    · first | assumption | exact ⟨f1, m1, hx, ht⟩ | exact ⟨cell_keep (below_alloc _ _) f1, cell_keep (below_alloc _ _) m1, cell_keep (below_alloc _ _) hx, cell_keep (below_alloc _ _) ht⟩ | exact ⟨k0, k1, k2, k3⟩ | exact ⟨cell_keep (below_alloc _ _) k0, cell_keep (below_alloc _ _) k1, cell_keep (below_alloc _ _) k2, cell_keep (below_alloc _ _) k3⟩ | exact ⟨n0, n1, n2, n3⟩ | exact ⟨cell_keep HBF.out HC0.out.2.1, cell_keep HBF.out HC0.out.2.2.2, cell_keep HBF.out HX0.out.1, cell_keep HBF.out HX0.out.2⟩
                    clear hK K
                    try simp only [Act.put, List.getElem_toArray, List.getElem_cons_zero, List.getElem_cons_succ, List.setIfInBounds_toArray, List.set_cons_zero, List.set_cons_succ]
                    refine wpAnyH_ready (rs := [13]) (by kernel_rfl) (by simp) ?_
                    refine AllReadyH.cons (o := _) rfl (fun K hK => ?_) ?_
                    · go_simp
                      refine hK.out _ _ ?_ (fun hHeld => ?_)
                      · first | assumption | exact ⟨f1, m1, hx, ht⟩ | exact ⟨cell_keep (below_alloc _ _) f1, cell_keep (below_alloc _ _) m1, cell_keep (below_alloc _ _) hx, cell_keep (below_alloc _ _) ht⟩ | exact ⟨k0, k1, k2, k3⟩ | exact ⟨cell_keep (below_alloc _ _) k0, cell_keep (below_alloc _ _) k1, cell_keep (below_alloc _ _) k2, cell_keep (below_alloc _ _) k3⟩ | exact ⟨n0, n1, n2, n3⟩ | exact ⟨cell_keep HBF.out HC0.out.2.1, cell_keep HBF.out HC0.out.2.2.2, cell_keep HBF.out HX0.out.1, cell_keep HBF.out HX0.out.2⟩
                      clear hK K
                      try simp only [Act.put, List.getElem_toArray, List.getElem_cons_zero, List.getElem_cons_succ, List.setIfInBounds_toArray, List.set_cons_zero, List.set_cons_succ]
                      refine wpAnyH_ready (rs := [14]) (by kernel_rfl) (by simp) ?_
                      refine AllReadyH.cons (o := _) rfl (fun K hK => ?_) ?_
                      · (refine step_append_own rfl (.tmp 54) (.tmp 66) 23 rfl wz.heap.size 26 i1 (.slice none 0 0) 1 24 Try.underlying23 hj hy0 hy1 hy2 rfl (by omega) _ _ _ rfl HOV.out ⟨w6.heap.size, 0, none⟩ 1 1 [.slice A6 tb.length c6] rfl rfl HN6.out (rows_one5 _) HL7.out.1 HL7.out.2 HZ6.out ?_; intro v7 w7 hv7 hg7; obtain ⟨A7, c7', rfl, -⟩ := own_reads hv7; have HP := Lib.hid (HLOC.out.push (cs' := #[.slice Au (ledM m.sizes f.sorts).length cu, .slice A7 (ps.length + 1) c7']) HB6.out HO6.out HU1.out HU2.out HU3.out HU4.out hv7 hg7 1 rfl); have n0 := HLOC.out.at7 HB6.out HU1.out hg7 f1 (by have := HLK.out.1; omega); have n1 := HLOC.out.at7 HB6.out HU1.out hg7 m1 (by have := HLK.out.2.1; omega); have n2 := HLOC.out.at7 HB6.out HU1.out hg7 hx (by have := HLK.out.2.2.1; omega); have n3 := HLOC.out.at7 HB6.out HU1.out hg7 ht (by have := HLK.out.2.2.2; omega); have HBF := Lib.hid (HP.out.1.below HBZ.out (Nat.le_refl _)); clear hv7 hg7; have q1 := blk_cell HP.out.2 1; have q2 := blk_free HP.out.2 1; simp at q1)
                        refine hK.out _ _ ?_ (fun hHeld => ?_)
                        · first | assumption | exact ⟨f1, m1, hx, ht⟩ | exact ⟨cell_keep (below_alloc _ _) f1, cell_keep (below_alloc _ _) m1, cell_keep (below_alloc _ _) hx, cell_keep (below_alloc _ _) ht⟩ | exact ⟨k0, k1, k2, k3⟩ | exact ⟨cell_keep (below_alloc _ _) k0, cell_keep (below_alloc _ _) k1, cell_keep (below_alloc _ _) k2, cell_keep (below_alloc _ _) k3⟩ | exact ⟨n0, n1, n2, n3⟩ | exact ⟨cell_keep HBF.out HC0.out.2.1, cell_keep HBF.out HC0.out.2.2.2, cell_keep HBF.out HX0.out.1, cell_keep HBF.out HX0.out.2⟩
                        clear hK K
                        try simp only [Act.put, List.getElem_toArray, List.getElem_cons_zero, List.getElem_cons_succ, List.setIfInBounds_toArray, List.set_cons_zero, List.set_cons_succ]
                        refine wpAnyH_ready (rs := [15]) (by kernel_rfl) (by simp) ?_
                        refine AllReadyH.cons (o := _) rfl (fun K hK => ?_) ?_
                        · go_simp
                          refine hK.out _ _ ?_ (fun hHeld => ?_)
                          · first | assumption | exact ⟨f1, m1, hx, ht⟩ | exact ⟨cell_keep (below_alloc _ _) f1, cell_keep (below_alloc _ _) m1, cell_keep (below_alloc _ _) hx, cell_keep (below_alloc _ _) ht⟩ | exact ⟨k0, k1, k2, k3⟩ | exact ⟨cell_keep (below_alloc _ _) k0, cell_keep (below_alloc _ _) k1, cell_keep (below_alloc _ _) k2, cell_keep (below_alloc _ _) k3⟩ | exact ⟨n0, n1, n2, n3⟩ | exact ⟨cell_keep HBF.out HC0.out.2.1, cell_keep HBF.out HC0.out.2.2.2, cell_keep HBF.out HX0.out.1, cell_keep HBF.out HX0.out.2⟩
                          clear hK K
                          try simp only [Act.put, List.getElem_toArray, List.getElem_cons_zero, List.getElem_cons_succ, List.setIfInBounds_toArray, List.set_cons_zero, List.set_cons_succ]
                          refine wpAnyH_ready (rs := [16]) (by kernel_rfl) (by simp) ?_
                          refine AllReadyH.cons (o := _) rfl (fun K hK => ?_) ?_
                          · go_simp
                            refine hK.out _ _ ?_ (fun hHeld => ?_)
                            · first | assumption | exact ⟨f1, m1, hx, ht⟩ | exact ⟨cell_keep (below_alloc _ _) f1, cell_keep (below_alloc _ _) m1, cell_keep (below_alloc _ _) hx, cell_keep (below_alloc _ _) ht⟩ | exact ⟨k0, k1, k2, k3⟩ | exact ⟨cell_keep (below_alloc _ _) k0, cell_keep (below_alloc _ _) k1, cell_keep (below_alloc _ _) k2, cell_keep (below_alloc _ _) k3⟩ | exact ⟨n0, n1, n2, n3⟩ | exact ⟨cell_keep HBF.out HC0.out.2.1, cell_keep HBF.out HC0.out.2.2.2, cell_keep HBF.out HX0.out.1, cell_keep HBF.out HX0.out.2⟩
                            clear hK K
                            try simp only [Act.put, List.getElem_toArray, List.getElem_cons_zero, List.getElem_cons_succ, List.setIfInBounds_toArray, List.set_cons_zero, List.set_cons_succ]
                            refine wpAnyH_done (by kernel_rfl) ?_ _
                            clear l1 f1 m1 hx ht ea k0 k1 k2 k3 n0 n1 n2 n3 p1 p2 q1 q2
                            go_wp2
                            go_roundw
                            case rel => exact ⟨k + 1, _, by omega, by go_num, by rw [HTK.out, HGD.out]; exact HP.out.1⟩
                            case measure => simp [intOf]; omega
                          exact AllReadyH.nil
                        exact AllReadyH.nil
                      exact AllReadyH.nil
                    exact AllReadyH.nil
                  exact AllReadyH.nil
                exact AllReadyH.nil
              refine AllReadyH.cons (o := _) rfl (fun K hK => ?_) ?_
              · go_simp
                refine hK.out _ _ ?_ (fun hHeld => ?_)
                · first | assumption | exact ⟨f1, m1, hx, ht⟩ | exact ⟨cell_keep (below_alloc _ _) f1, cell_keep (below_alloc _ _) m1, cell_keep (below_alloc _ _) hx, cell_keep (below_alloc _ _) ht⟩ | exact ⟨k0, k1, k2, k3⟩ | exact ⟨cell_keep (below_alloc _ _) k0, cell_keep (below_alloc _ _) k1, cell_keep (below_alloc _ _) k2, cell_keep (below_alloc _ _) k3⟩ | exact ⟨n0, n1, n2, n3⟩ | exact ⟨cell_keep HBF.out HC0.out.2.1, cell_keep HBF.out HC0.out.2.2.2, cell_keep HBF.out HX0.out.1, cell_keep HBF.out HX0.out.2⟩
                clear hK K
                try simp only [Act.put, List.getElem_toArray, List.getElem_cons_zero, List.getElem_cons_succ, List.setIfInBounds_toArray, List.set_cons_zero, List.set_cons_succ]
                refine wpAnyH_ready (rs := [1, 12]) (by kernel_rfl) (by simp) ?_
                refine AllReadyH.cons (o := _) rfl (fun K hK => ?_) ?_
                · go_simp
                  refine hK.out _ _ ?_ (fun hHeld => ?_)
                  · first | assumption | exact ⟨f1, m1, hx, ht⟩ | exact ⟨cell_keep (below_alloc _ _) f1, cell_keep (below_alloc _ _) m1, cell_keep (below_alloc _ _) hx, cell_keep (below_alloc _ _) ht⟩ | exact ⟨k0, k1, k2, k3⟩ | exact ⟨cell_keep (below_alloc _ _) k0, cell_keep (below_alloc _ _) k1, cell_keep (below_alloc _ _) k2, cell_keep (below_alloc _ _) k3⟩ | exact ⟨n0, n1, n2, n3⟩ | exact ⟨cell_keep HBF.out HC0.out.2.1, cell_keep HBF.out HC0.out.2.2.2, cell_keep HBF.out HX0.out.1, cell_keep HBF.out HX0.out.2⟩
                  clear hK K
                  try simp only [Act.put, List.getElem_toArray, List.getElem_cons_zero, List.getElem_cons_succ, List.setIfInBounds_toArray, List.set_cons_zero, List.set_cons_succ]
                  refine wpAnyH_ready (rs := [12]) (by kernel_rfl) (by simp) ?_
                  refine AllReadyH.cons (o := _) rfl (fun K hK => ?_) ?_
                  · (refine step_append_own rfl (.tmp 55) (.tmp 64) 26 rfl wr.heap.size 3 i0 (.int .i64 0) 1 8 Try.underlying26 hi0 hz0 hz1 hz2 rfl (by omega) _ 0 [] rfl ((own_empty wr).drew) ⟨bx, ox, none⟩ tb.length cx (tb.map (Value.int .i64)) rfl HA1.out.1 HNEWS.out (ints_one _) HA1.out.2.1 HA1.out.2.2.1 HA1.out.2.2.2 ?_; intro v6 w6 hv6 hg6; simp only [Nat.zero_add, List.nil_append] at hv6; obtain ⟨A6, c6, rfl, -⟩ := own_reads hv6; have HB6 := Lib.hid (bel_grow hg6 (fun k e => by injection e with e; exact Nat.le_of_eq e)); have HO6 := Lib.hid (show OInts w6 wr.heap.size (.slice A6 tb.length c6) tb from hv6); clear hg6 hv6; have HOV := Lib.hid ((own_keep HU1.out HB6.out).alloc (.cells #[.slice A6 tb.length c6] 26)); have HN6 := Lib.hid (news_one5 w6 (.slice A6 tb.length c6) 26); have p1 := cell_keep HB6.out l1; have p2 : w2.heap.size < w6.heap.size := World.block_lt_of_cell? w6 _ p1; have k0 := cell_keep HB6.out f1; have k1 := cell_keep HB6.out m1; have k2 := cell_keep HB6.out hx; have k3 := cell_keep HB6.out ht; have HZ6 := Lib.hid (show wz.heap.size ≤ (w6.alloc (.cells #[.slice A6 tb.length c6] 26)).heap.size by have := HB6.out.size; simp; omega))
                    refine hK.out _ _ ?_ (fun hHeld => ?_)
                    · first | assumption | exact ⟨f1, m1, hx, ht⟩ | exact ⟨cell_keep (below_alloc _ _) f1, cell_keep (below_alloc _ _) m1, cell_keep (below_alloc _ _) hx, cell_keep (below_alloc _ _) ht⟩ | exact ⟨k0, k1, k2, k3⟩ | exact ⟨cell_keep (below_alloc _ _) k0, cell_keep (below_alloc _ _) k1, cell_keep (below_alloc _ _) k2, cell_keep (below_alloc _ _) k3⟩ | exact ⟨n0, n1, n2, n3⟩ | exact ⟨cell_keep HBF.out HC0.out.2.1, cell_keep HBF.out HC0.out.2.2.2, cell_keep HBF.out HX0.out.1, cell_keep HBF.out HX0.out.2⟩
                    clear hK K
                    try simp only [Act.put, List.getElem_toArray, List.getElem_cons_zero, List.getElem_cons_succ, List.setIfInBounds_toArray, List.set_cons_zero, List.set_cons_succ]
                    refine wpAnyH_ready (rs := [13]) (by kernel_rfl) (by simp) ?_
                    refine AllReadyH.cons (o := _) rfl (fun K hK => ?_) ?_
                    · go_simp
                      refine hK.out _ _ ?_ (fun hHeld => ?_)
                      · first | assumption | exact ⟨f1, m1, hx, ht⟩ | exact ⟨cell_keep (below_alloc _ _) f1, cell_keep (below_alloc _ _) m1, cell_keep (below_alloc _ _) hx, cell_keep (below_alloc _ _) ht⟩ | exact ⟨k0, k1, k2, k3⟩ | exact ⟨cell_keep (below_alloc _ _) k0, cell_keep (below_alloc _ _) k1, cell_keep (below_alloc _ _) k2, cell_keep (below_alloc _ _) k3⟩ | exact ⟨n0, n1, n2, n3⟩ | exact ⟨cell_keep HBF.out HC0.out.2.1, cell_keep HBF.out HC0.out.2.2.2, cell_keep HBF.out HX0.out.1, cell_keep HBF.out HX0.out.2⟩
                      clear hK K
                      try simp only [Act.put, List.getElem_toArray, List.getElem_cons_zero, List.getElem_cons_succ, List.setIfInBounds_toArray, List.set_cons_zero, List.set_cons_succ]
                      refine wpAnyH_ready (rs := [14]) (by kernel_rfl) (by simp) ?_
                      refine AllReadyH.cons (o := _) rfl (fun K hK => ?_) ?_
                      · (refine step_append_own rfl (.tmp 54) (.tmp 66) 23 rfl wz.heap.size 26 i1 (.slice none 0 0) 1 24 Try.underlying23 hj hy0 hy1 hy2 rfl (by omega) _ _ _ rfl HOV.out ⟨w6.heap.size, 0, none⟩ 1 1 [.slice A6 tb.length c6] rfl rfl HN6.out (rows_one5 _) HL7.out.1 HL7.out.2 HZ6.out ?_; intro v7 w7 hv7 hg7; obtain ⟨A7, c7', rfl, -⟩ := own_reads hv7; have HP := Lib.hid (HLOC.out.push (cs' := #[.slice Au (ledM m.sizes f.sorts).length cu, .slice A7 (ps.length + 1) c7']) HB6.out HO6.out HU1.out HU2.out HU3.out HU4.out hv7 hg7 1 rfl); have n0 := HLOC.out.at7 HB6.out HU1.out hg7 f1 (by have := HLK.out.1; omega); have n1 := HLOC.out.at7 HB6.out HU1.out hg7 m1 (by have := HLK.out.2.1; omega); have n2 := HLOC.out.at7 HB6.out HU1.out hg7 hx (by have := HLK.out.2.2.1; omega); have n3 := HLOC.out.at7 HB6.out HU1.out hg7 ht (by have := HLK.out.2.2.2; omega); have HBF := Lib.hid (HP.out.1.below HBZ.out (Nat.le_refl _)); clear hv7 hg7; have q1 := blk_cell HP.out.2 1; have q2 := blk_free HP.out.2 1; simp at q1)
                        refine hK.out _ _ ?_ (fun hHeld => ?_)
                        · first | assumption | exact ⟨f1, m1, hx, ht⟩ | exact ⟨cell_keep (below_alloc _ _) f1, cell_keep (below_alloc _ _) m1, cell_keep (below_alloc _ _) hx, cell_keep (below_alloc _ _) ht⟩ | exact ⟨k0, k1, k2, k3⟩ | exact ⟨cell_keep (below_alloc _ _) k0, cell_keep (below_alloc _ _) k1, cell_keep (below_alloc _ _) k2, cell_keep (below_alloc _ _) k3⟩ | exact ⟨n0, n1, n2, n3⟩ | exact ⟨cell_keep HBF.out HC0.out.2.1, cell_keep HBF.out HC0.out.2.2.2, cell_keep HBF.out HX0.out.1, cell_keep HBF.out HX0.out.2⟩
                        clear hK K
                        try simp only [Act.put, List.getElem_toArray, List.getElem_cons_zero, List.getElem_cons_succ, List.setIfInBounds_toArray, List.set_cons_zero, List.set_cons_succ]
                        refine wpAnyH_ready (rs := [15]) (by kernel_rfl) (by simp) ?_
                        refine AllReadyH.cons (o := _) rfl (fun K hK => ?_) ?_
                        · go_simp
                          refine hK.out _ _ ?_ (fun hHeld => ?_)
                          · first | assumption | exact ⟨f1, m1, hx, ht⟩ | exact ⟨cell_keep (below_alloc _ _) f1, cell_keep (below_alloc _ _) m1, cell_keep (below_alloc _ _) hx, cell_keep (below_alloc _ _) ht⟩ | exact ⟨k0, k1, k2, k3⟩ | exact ⟨cell_keep (below_alloc _ _) k0, cell_keep (below_alloc _ _) k1, cell_keep (below_alloc _ _) k2, cell_keep (below_alloc _ _) k3⟩ | exact ⟨n0, n1, n2, n3⟩ | exact ⟨cell_keep HBF.out HC0.out.2.1, cell_keep HBF.out HC0.out.2.2.2, cell_keep HBF.out HX0.out.1, cell_keep HBF.out HX0.out.2⟩
                          clear hK K
                          try simp only [Act.put, List.getElem_toArray, List.getElem_cons_zero, List.getElem_cons_succ, List.setIfInBounds_toArray, List.set_cons_zero, List.set_cons_succ]
                          refine wpAnyH_ready (rs := [16]) (by kernel_rfl) (by simp) ?_
                          refine AllReadyH.cons (o := _) rfl (fun K hK => ?_) ?_
                          · go_simp
                            refine hK.out _ _ ?_ (fun hHeld => ?_)
                            · first | assumption | exact ⟨f1, m1, hx, ht⟩ | exact ⟨cell_keep (below_alloc _ _) f1, cell_keep (below_alloc _ _) m1, cell_keep (below_alloc _ _) hx, cell_keep (below_alloc _ _) ht⟩ | exact ⟨k0, k1, k2, k3⟩ | exact ⟨cell_keep (below_alloc _ _) k0, cell_keep (below_alloc _ _) k1, cell_keep (below_alloc _ _) k2, cell_keep (below_alloc _ _) k3⟩ | exact ⟨n0, n1, n2, n3⟩ | exact ⟨cell_keep HBF.out HC0.out.2.1, cell_keep HBF.out HC0.out.2.2.2, cell_keep HBF.out HX0.out.1, cell_keep HBF.out HX0.out.2⟩
                            clear hK K
                            try simp only [Act.put, List.getElem_toArray, List.getElem_cons_zero, List.getElem_cons_succ, List.setIfInBounds_toArray, List.set_cons_zero, List.set_cons_succ]
                            refine wpAnyH_done (by kernel_rfl) ?_ _
                            clear l1 f1 m1 hx ht ea k0 k1 k2 k3 n0 n1 n2 n3 p1 p2 q1 q2
                            go_wp2
                            go_roundw
                            case rel => exact ⟨k + 1, _, by omega, by go_num, by rw [HTK.out, HGD.out]; exact HP.out.1⟩
                            case measure => simp [intOf]; omega
                          exact AllReadyH.nil
                        exact AllReadyH.nil
                      exact AllReadyH.nil
                    exact AllReadyH.nil
                  exact AllReadyH.nil
                refine AllReadyH.cons (o := _) rfl (fun K hK => ?_) ?_
                · (refine step_append_own rfl (.tmp 55) (.tmp 64) 26 rfl wr.heap.size 3 i0 (.int .i64 0) 1 8 Try.underlying26 hi0 hz0 hz1 hz2 rfl (by omega) _ 0 [] rfl ((own_empty wr).drew) ⟨bx, ox, none⟩ tb.length cx (tb.map (Value.int .i64)) rfl HA1.out.1 HNEWS.out (ints_one _) HA1.out.2.1 HA1.out.2.2.1 HA1.out.2.2.2 ?_; intro v6 w6 hv6 hg6; simp only [Nat.zero_add, List.nil_append] at hv6; obtain ⟨A6, c6, rfl, -⟩ := own_reads hv6; have HB6 := Lib.hid (bel_grow hg6 (fun k e => by injection e with e; exact Nat.le_of_eq e)); have HO6 := Lib.hid (show OInts w6 wr.heap.size (.slice A6 tb.length c6) tb from hv6); clear hg6 hv6; have HOV := Lib.hid ((own_keep HU1.out HB6.out).alloc (.cells #[.slice A6 tb.length c6] 26)); have HN6 := Lib.hid (news_one5 w6 (.slice A6 tb.length c6) 26); have p1 := cell_keep HB6.out l1; have p2 : w2.heap.size < w6.heap.size := World.block_lt_of_cell? w6 _ p1; have k0 := cell_keep HB6.out f1; have k1 := cell_keep HB6.out m1; have k2 := cell_keep HB6.out hx; have k3 := cell_keep HB6.out ht; have HZ6 := Lib.hid (show wz.heap.size ≤ (w6.alloc (.cells #[.slice A6 tb.length c6] 26)).heap.size by have := HB6.out.size; simp; omega))
                  refine hK.out _ _ ?_ (fun hHeld => ?_)
                  · first | assumption | exact ⟨f1, m1, hx, ht⟩ | exact ⟨cell_keep (below_alloc _ _) f1, cell_keep (below_alloc _ _) m1, cell_keep (below_alloc _ _) hx, cell_keep (below_alloc _ _) ht⟩ | exact ⟨k0, k1, k2, k3⟩ | exact ⟨cell_keep (below_alloc _ _) k0, cell_keep (below_alloc _ _) k1, cell_keep (below_alloc _ _) k2, cell_keep (below_alloc _ _) k3⟩ | exact ⟨n0, n1, n2, n3⟩ | exact ⟨cell_keep HBF.out HC0.out.2.1, cell_keep HBF.out HC0.out.2.2.2, cell_keep HBF.out HX0.out.1, cell_keep HBF.out HX0.out.2⟩
                  clear hK K
                  try simp only [Act.put, List.getElem_toArray, List.getElem_cons_zero, List.getElem_cons_succ, List.setIfInBounds_toArray, List.set_cons_zero, List.set_cons_succ]
                  refine wpAnyH_ready (rs := [1, 13]) (by kernel_rfl) (by simp) ?_
                  refine AllReadyH.cons (o := _) rfl (fun K hK => ?_) ?_
                  · go_simp
                    refine hK.out _ _ ?_ (fun hHeld => ?_)
                    · first | assumption | exact ⟨f1, m1, hx, ht⟩ | exact ⟨cell_keep (below_alloc _ _) f1, cell_keep (below_alloc _ _) m1, cell_keep (below_alloc _ _) hx, cell_keep (below_alloc _ _) ht⟩ | exact ⟨k0, k1, k2, k3⟩ | exact ⟨cell_keep (below_alloc _ _) k0, cell_keep (below_alloc _ _) k1, cell_keep (below_alloc _ _) k2, cell_keep (below_alloc _ _) k3⟩ | exact ⟨n0, n1, n2, n3⟩ | exact ⟨cell_keep HBF.out HC0.out.2.1, cell_keep HBF.out HC0.out.2.2.2, cell_keep HBF.out HX0.out.1, cell_keep HBF.out HX0.out.2⟩
                    clear hK K
                    try simp only [Act.put, List.getElem_toArray, List.getElem_cons_zero, List.getElem_cons_succ, List.setIfInBounds_toArray, List.set_cons_zero, List.set_cons_succ]
                    refine wpAnyH_ready (rs := [13]) (by kernel_rfl) (by simp) ?_
                    refine AllReadyH.cons (o := _) rfl (fun K hK => ?_) ?_
                    · go_simp
                      refine hK.out _ _ ?_ (fun hHeld => ?_)
                      · first | assumption | exact ⟨f1, m1, hx, ht⟩ | exact ⟨cell_keep (below_alloc _ _) f1, cell_keep (below_alloc _ _) m1, cell_keep (below_alloc _ _) hx, cell_keep (below_alloc _ _) ht⟩ | exact ⟨k0, k1, k2, k3⟩ | exact ⟨cell_keep (below_alloc _ _) k0, cell_keep (below_alloc _ _) k1, cell_keep (below_alloc _ _) k2, cell_keep (below_alloc _ _) k3⟩ | exact ⟨n0, n1, n2, n3⟩ | exact ⟨cell_keep HBF.out HC0.out.2.1, cell_keep HBF.out HC0.out.2.2.2, cell_keep HBF.out HX0.out.1, cell_keep HBF.out HX0.out.2⟩
                      clear hK K
                      try simp only [Act.put, List.getElem_toArray, List.getElem_cons_zero, List.getElem_cons_succ, List.setIfInBounds_toArray, List.set_cons_zero, List.set_cons_succ]
                      refine wpAnyH_ready (rs := [14]) (by kernel_rfl) (by simp) ?_
                      refine AllReadyH.cons (o := _) rfl (fun K hK => ?_) ?_
                      · (refine step_append_own rfl (.tmp 54) (.tmp 66) 23 rfl wz.heap.size 26 i1 (.slice none 0 0) 1 24 Try.underlying23 hj hy0 hy1 hy2 rfl (by omega) _ _ _ rfl HOV.out ⟨w6.heap.size, 0, none⟩ 1 1 [.slice A6 tb.length c6] rfl rfl HN6.out (rows_one5 _) HL7.out.1 HL7.out.2 HZ6.out ?_; intro v7 w7 hv7 hg7; obtain ⟨A7, c7', rfl, -⟩ := own_reads hv7; have HP := Lib.hid (HLOC.out.push (cs' := #[.slice Au (ledM m.sizes f.sorts).length cu, .slice A7 (ps.length + 1) c7']) HB6.out HO6.out HU1.out HU2.out HU3.out HU4.out hv7 hg7 1 rfl); have n0 := HLOC.out.at7 HB6.out HU1.out hg7 f1 (by have := HLK.out.1; omega); have n1 := HLOC.out.at7 HB6.out HU1.out hg7 m1 (by have := HLK.out.2.1; omega); have n2 := HLOC.out.at7 HB6.out HU1.out hg7 hx (by have := HLK.out.2.2.1; omega); have n3 := HLOC.out.at7 HB6.out HU1.out hg7 ht (by have := HLK.out.2.2.2; omega); have HBF := Lib.hid (HP.out.1.below HBZ.out (Nat.le_refl _)); clear hv7 hg7; have q1 := blk_cell HP.out.2 1; have q2 := blk_free HP.out.2 1; simp at q1)
                        refine hK.out _ _ ?_ (fun hHeld => ?_)
                        · first | assumption | exact ⟨f1, m1, hx, ht⟩ | exact ⟨cell_keep (below_alloc _ _) f1, cell_keep (below_alloc _ _) m1, cell_keep (below_alloc _ _) hx, cell_keep (below_alloc _ _) ht⟩ | exact ⟨k0, k1, k2, k3⟩ | exact ⟨cell_keep (below_alloc _ _) k0, cell_keep (below_alloc _ _) k1, cell_keep (below_alloc _ _) k2, cell_keep (below_alloc _ _) k3⟩ | exact ⟨n0, n1, n2, n3⟩ | exact ⟨cell_keep HBF.out HC0.out.2.1, cell_keep HBF.out HC0.out.2.2.2, cell_keep HBF.out HX0.out.1, cell_keep HBF.out HX0.out.2⟩
                        clear hK K
                        try simp only [Act.put, List.getElem_toArray, List.getElem_cons_zero, List.getElem_cons_succ, List.setIfInBounds_toArray, List.set_cons_zero, List.set_cons_succ]
                        refine wpAnyH_ready (rs := [15]) (by kernel_rfl) (by simp) ?_
                        refine AllReadyH.cons (o := _) rfl (fun K hK => ?_) ?_
                        · go_simp
                          refine hK.out _ _ ?_ (fun hHeld => ?_)
                          · first | assumption | exact ⟨f1, m1, hx, ht⟩ | exact ⟨cell_keep (below_alloc _ _) f1, cell_keep (below_alloc _ _) m1, cell_keep (below_alloc _ _) hx, cell_keep (below_alloc _ _) ht⟩ | exact ⟨k0, k1, k2, k3⟩ | exact ⟨cell_keep (below_alloc _ _) k0, cell_keep (below_alloc _ _) k1, cell_keep (below_alloc _ _) k2, cell_keep (below_alloc _ _) k3⟩ | exact ⟨n0, n1, n2, n3⟩ | exact ⟨cell_keep HBF.out HC0.out.2.1, cell_keep HBF.out HC0.out.2.2.2, cell_keep HBF.out HX0.out.1, cell_keep HBF.out HX0.out.2⟩
                          clear hK K
                          try simp only [Act.put, List.getElem_toArray, List.getElem_cons_zero, List.getElem_cons_succ, List.setIfInBounds_toArray, List.set_cons_zero, List.set_cons_succ]
                          refine wpAnyH_ready (rs := [16]) (by kernel_rfl) (by simp) ?_
                          refine AllReadyH.cons (o := _) rfl (fun K hK => ?_) ?_
                          · go_simp
                            refine hK.out _ _ ?_ (fun hHeld => ?_)
                            · first | assumption | exact ⟨f1, m1, hx, ht⟩ | exact ⟨cell_keep (below_alloc _ _) f1, cell_keep (below_alloc _ _) m1, cell_keep (below_alloc _ _) hx, cell_keep (below_alloc _ _) ht⟩ | exact ⟨k0, k1, k2, k3⟩ | exact ⟨cell_keep (below_alloc _ _) k0, cell_keep (below_alloc _ _) k1, cell_keep (below_alloc _ _) k2, cell_keep (below_alloc _ _) k3⟩ | exact ⟨n0, n1, n2, n3⟩ | exact ⟨cell_keep HBF.out HC0.out.2.1, cell_keep HBF.out HC0.out.2.2.2, cell_keep HBF.out HX0.out.1, cell_keep HBF.out HX0.out.2⟩
                            clear hK K
                            try simp only [Act.put, List.getElem_toArray, List.getElem_cons_zero, List.getElem_cons_succ, List.setIfInBounds_toArray, List.set_cons_zero, List.set_cons_succ]
                            refine wpAnyH_done (by kernel_rfl) ?_ _
                            clear l1 f1 m1 hx ht ea k0 k1 k2 k3 n0 n1 n2 n3 p1 p2 q1 q2
                            go_wp2
                            go_roundw
                            case rel => exact ⟨k + 1, _, by omega, by go_num, by rw [HTK.out, HGD.out]; exact HP.out.1⟩
                            case measure => simp [intOf]; omega
                          exact AllReadyH.nil
                        exact AllReadyH.nil
                      exact AllReadyH.nil
                    exact AllReadyH.nil
                  refine AllReadyH.cons (o := _) rfl (fun K hK => ?_) ?_
                  · go_simp
                    refine hK.out _ _ ?_ (fun hHeld => ?_)
                    · first | assumption | exact ⟨f1, m1, hx, ht⟩ | exact ⟨cell_keep (below_alloc _ _) f1, cell_keep (below_alloc _ _) m1, cell_keep (below_alloc _ _) hx, cell_keep (below_alloc _ _) ht⟩ | exact ⟨k0, k1, k2, k3⟩ | exact ⟨cell_keep (below_alloc _ _) k0, cell_keep (below_alloc _ _) k1, cell_keep (below_alloc _ _) k2, cell_keep (below_alloc _ _) k3⟩ | exact ⟨n0, n1, n2, n3⟩ | exact ⟨cell_keep HBF.out HC0.out.2.1, cell_keep HBF.out HC0.out.2.2.2, cell_keep HBF.out HX0.out.1, cell_keep HBF.out HX0.out.2⟩
                    clear hK K
                    try simp only [Act.put, List.getElem_toArray, List.getElem_cons_zero, List.getElem_cons_succ, List.setIfInBounds_toArray, List.set_cons_zero, List.set_cons_succ]
                    refine wpAnyH_ready (rs := [1]) (by kernel_rfl) (by simp) ?_
                    refine AllReadyH.cons (o := _) rfl (fun K hK => ?_) ?_
                    · go_simp
                      refine hK.out _ _ ?_ (fun hHeld => ?_)
                      · first | assumption | exact ⟨f1, m1, hx, ht⟩ | exact ⟨cell_keep (below_alloc _ _) f1, cell_keep (below_alloc _ _) m1, cell_keep (below_alloc _ _) hx, cell_keep (below_alloc _ _) ht⟩ | exact ⟨k0, k1, k2, k3⟩ | exact ⟨cell_keep (below_alloc _ _) k0, cell_keep (below_alloc _ _) k1, cell_keep (below_alloc _ _) k2, cell_keep (below_alloc _ _) k3⟩ | exact ⟨n0, n1, n2, n3⟩ | exact ⟨cell_keep HBF.out HC0.out.2.1, cell_keep HBF.out HC0.out.2.2.2, cell_keep HBF.out HX0.out.1, cell_keep HBF.out HX0.out.2⟩
                      clear hK K
                      try simp only [Act.put, List.getElem_toArray, List.getElem_cons_zero, List.getElem_cons_succ, List.setIfInBounds_toArray, List.set_cons_zero, List.set_cons_succ]
                      refine wpAnyH_ready (rs := [14]) (by kernel_rfl) (by simp) ?_
                      refine AllReadyH.cons (o := _) rfl (fun K hK => ?_) ?_
                      · (refine step_append_own rfl (.tmp 54) (.tmp 66) 23 rfl wz.heap.size 26 i1 (.slice none 0 0) 1 24 Try.underlying23 hj hy0 hy1 hy2 rfl (by omega) _ _ _ rfl HOV.out ⟨w6.heap.size, 0, none⟩ 1 1 [.slice A6 tb.length c6] rfl rfl HN6.out (rows_one5 _) HL7.out.1 HL7.out.2 HZ6.out ?_; intro v7 w7 hv7 hg7; obtain ⟨A7, c7', rfl, -⟩ := own_reads hv7; have HP := Lib.hid (HLOC.out.push (cs' := #[.slice Au (ledM m.sizes f.sorts).length cu, .slice A7 (ps.length + 1) c7']) HB6.out HO6.out HU1.out HU2.out HU3.out HU4.out hv7 hg7 1 rfl); have n0 := HLOC.out.at7 HB6.out HU1.out hg7 f1 (by have := HLK.out.1; omega); have n1 := HLOC.out.at7 HB6.out HU1.out hg7 m1 (by have := HLK.out.2.1; omega); have n2 := HLOC.out.at7 HB6.out HU1.out hg7 hx (by have := HLK.out.2.2.1; omega); have n3 := HLOC.out.at7 HB6.out HU1.out hg7 ht (by have := HLK.out.2.2.2; omega); have HBF := Lib.hid (HP.out.1.below HBZ.out (Nat.le_refl _)); clear hv7 hg7; have q1 := blk_cell HP.out.2 1; have q2 := blk_free HP.out.2 1; simp at q1)
                        refine hK.out _ _ ?_ (fun hHeld => ?_)
                        · first | assumption | exact ⟨f1, m1, hx, ht⟩ | exact ⟨cell_keep (below_alloc _ _) f1, cell_keep (below_alloc _ _) m1, cell_keep (below_alloc _ _) hx, cell_keep (below_alloc _ _) ht⟩ | exact ⟨k0, k1, k2, k3⟩ | exact ⟨cell_keep (below_alloc _ _) k0, cell_keep (below_alloc _ _) k1, cell_keep (below_alloc _ _) k2, cell_keep (below_alloc _ _) k3⟩ | exact ⟨n0, n1, n2, n3⟩ | exact ⟨cell_keep HBF.out HC0.out.2.1, cell_keep HBF.out HC0.out.2.2.2, cell_keep HBF.out HX0.out.1, cell_keep HBF.out HX0.out.2⟩
                        clear hK K
                        try simp only [Act.put, List.getElem_toArray, List.getElem_cons_zero, List.getElem_cons_succ, List.setIfInBounds_toArray, List.set_cons_zero, List.set_cons_succ]
                        refine wpAnyH_ready (rs := [15]) (by kernel_rfl) (by simp) ?_
                        refine AllReadyH.cons (o := _) rfl (fun K hK => ?_) ?_
                        · go_simp
                          refine hK.out _ _ ?_ (fun hHeld => ?_)
                          · first | assumption | exact ⟨f1, m1, hx, ht⟩ | exact ⟨cell_keep (below_alloc _ _) f1, cell_keep (below_alloc _ _) m1, cell_keep (below_alloc _ _) hx, cell_keep (below_alloc _ _) ht⟩ | exact ⟨k0, k1, k2, k3⟩ | exact ⟨cell_keep (below_alloc _ _) k0, cell_keep (below_alloc _ _) k1, cell_keep (below_alloc _ _) k2, cell_keep (below_alloc _ _) k3⟩ | exact ⟨n0, n1, n2, n3⟩ | exact ⟨cell_keep HBF.out HC0.out.2.1, cell_keep HBF.out HC0.out.2.2.2, cell_keep HBF.out HX0.out.1, cell_keep HBF.out HX0.out.2⟩
                          clear hK K
                          try simp only [Act.put, List.getElem_toArray, List.getElem_cons_zero, List.getElem_cons_succ, List.setIfInBounds_toArray, List.set_cons_zero, List.set_cons_succ]
                          refine wpAnyH_ready (rs := [16]) (by kernel_rfl) (by simp) ?_
                          refine AllReadyH.cons (o := _) rfl (fun K hK => ?_) ?_
                          · go_simp
                            refine hK.out _ _ ?_ (fun hHeld => ?_)
                            · first | assumption | exact ⟨f1, m1, hx, ht⟩ | exact ⟨cell_keep (below_alloc _ _) f1, cell_keep (below_alloc _ _) m1, cell_keep (below_alloc _ _) hx, cell_keep (below_alloc _ _) ht⟩ | exact ⟨k0, k1, k2, k3⟩ | exact ⟨cell_keep (below_alloc _ _) k0, cell_keep (below_alloc _ _) k1, cell_keep (below_alloc _ _) k2, cell_keep (below_alloc _ _) k3⟩ | exact ⟨n0, n1, n2, n3⟩ | exact ⟨cell_keep HBF.out HC0.out.2.1, cell_keep HBF.out HC0.out.2.2.2, cell_keep HBF.out HX0.out.1, cell_keep HBF.out HX0.out.2⟩
                            clear hK K
                            try simp only [Act.put, List.getElem_toArray, List.getElem_cons_zero, List.getElem_cons_succ, List.setIfInBounds_toArray, List.set_cons_zero, List.set_cons_succ]
                            refine wpAnyH_done (by kernel_rfl) ?_ _
                            clear l1 f1 m1 hx ht ea k0 k1 k2 k3 n0 n1 n2 n3 p1 p2 q1 q2
                            go_wp2
                            go_roundw
                            case rel => exact ⟨k + 1, _, by omega, by go_num, by rw [HTK.out, HGD.out]; exact HP.out.1⟩
                            case measure => simp [intOf]; omega
                          exact AllReadyH.nil
                        exact AllReadyH.nil
                      exact AllReadyH.nil
                    exact AllReadyH.nil
                  exact AllReadyH.nil
                exact AllReadyH.nil
              exact AllReadyH.nil
            · have hkn : k = f.ops.length := by omega
              have hlt' : ¬ (k : Int) < (f.ops.length : Int) := by omega
              have HPS := Lib.hid (HPE.out hkn)
              have OU9 := Lib.hid (HLOC.out.other OU.out HNE.out)
              have OV := Lib.hid HLOC.out.own
              have HL9 := Lib.hid HLOC.out.loc
              replace HB := Lib.hid (sz_keep HB.out HBW.out)
              have HZ9 := Lib.hid (blk_held HZr.out HBW.out)
              have l0 := blk_cell HL9.out 0
              have l1 := blk_cell HL9.out 1
              simp at l0 l1
              have j0 := blk_cell HZ9.out 0
              have j1 := blk_cell HZ9.out 1
              have jf0 := blk_free HZ9.out 0
              have jf1 := blk_free HZ9.out 1
              simp at j0 j1
              clear m1
              go_wp2
              clear f1
              have d1 := blk_set (blk_set HZ9.out 0 (.slice Au (ledM m.sizes f.sorts).length cu)) 1 (.slice Av ps.length cv)
              have n0 := (OU9.out.setLow (b := w.heap.size + 1 + 1 + 1 + 1) (by omega) 0 (.slice Au (ledM m.sizes f.sorts).length cu)).setLow (b := w.heap.size + 1 + 1 + 1 + 1) (by omega) 1 (.slice Av ps.length cv)
              have n1 := (OV.out.setLow' (b := w.heap.size + 1 + 1 + 1 + 1) (by omega) 0 (.slice Au (ledM m.sizes f.sorts).length cu)).setLow' (b := w.heap.size + 1 + 1 + 1 + 1) (by omega) 1 (.slice Av ps.length cv)
              have hbz := ((HB.out.setCell (p := ⟨w.heap.size + 1 + 1 + 1 + 1, 0, none⟩) (by show w.heap.size ≤ w.heap.size + 1 + 1 + 1 + 1; omega) (.slice Au (ledM m.sizes f.sorts).length cu)).setCell (p := ⟨w.heap.size + 1 + 1 + 1 + 1, 1, none⟩) (by show w.heap.size ≤ w.heap.size + 1 + 1 + 1 + 1; omega) (.slice Av ps.length cv))
              generalize (wr.setCell ⟨w.heap.size + 1 + 1 + 1 + 1, 0, none⟩ (.slice Au (ledM m.sizes f.sorts).length cu)).setCell ⟨w.heap.size + 1 + 1 + 1 + 1, 1, none⟩ (.slice Av ps.length cv) = wy at d1 hbz n0 n1 ⊢
              have k0 := blk_cell d1 0
              have k1 := blk_cell d1 1
              simp at k0 k1
              clear j0 j1 jf0 jf1 l0 l1
              refine bodyPost_ret (v := .agg #[.slice Au (ledM m.sizes f.sorts).length cu, .slice Av ps.length cv]) (by simp [results, Try.results12, go_sem, k0, k1]) rfl ?_
              exact ⟨_, rfl, by rw [HE.out]; exact ⟨_, _, rfl, n0.base (by omega), wz.heap.size, by omega, HUL.out, by show ORows _ _ _ (tabsM m f.ops); rw [← HPS.out]; exact n1⟩, hbz⟩
end
end Go.Proofs.Ytbopcghbmbchkab
