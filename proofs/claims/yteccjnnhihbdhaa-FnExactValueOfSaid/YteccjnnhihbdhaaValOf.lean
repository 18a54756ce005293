/- ValueOf of both packages. -/
import Derived.Test.YteccjnnhihbdhaaValOk
import Derived.Test.YteccjnnhihbdhaaValIn
import Derived.Test.YteccjnnhihbdhaaValS
import Derived.Test.YteccjnnhihbdhaaRead2
import Derived.Test.YteccjnnhihbdhaaSort
namespace Go.Proofs.Yteccjnnhihbdhaa
open Go.RowKit
set_option linter.unusedVariables false
set_option linter.unusedSimpArgs false

theorem value_none {s : MSig} {m : MModel} {vars t vals : List Int} (h : termM s vars t = none) : valueM s m vars t vals = -1 := by unfold valueM; rw [h]
theorem value_bad {s : MSig} {m : MModel} {vars t vals : List Int} (h : valsB s m vars vals = false) : valueM s m vars t vals = -1 := by unfold valueM; rw [h]; cases termM s vars t <;> rfl
theorem value_some {s : MSig} {m : MModel} {vars t vals : List Int} {tm : Tm} (h : termM s vars t = some tm) (h2 : valsB s m vars vals = true) : valueM s m vars t vals = valT m vals tm := by unfold valueM; rw [h, h2]; rfl

set_option maxHeartbeats 1600000 in
set_option maxRecDepth 100000 in
theorem valueOf_any (s : MSig) (m : MModel) (vars t vals : List Int) (w : World) (v v' v2 v3 v4 : Value) (hsm : Small t) (h1 : RSig w v s) (h2 : RModel w v' m) (h3 : RInts w v2 vars) (h4 : RInts w v3 t) (h5 : RInts w v4 vals) :
    Calls Try.prog 22 #[v, v', v2, v3, v4] w fun e w' => e = .returned (.int .i64 (valueM s m vars t vals)) ∧ Below w.heap.size w w' := by
  obtain ⟨Asa, csa, rfl⟩ := h1.form
  obtain ⟨Ama, cma, Amb, cmb, rfl⟩ := h2.form
  have hb : Below w.heap.size w ((w.alloc (.cells #[.int .i64 s.sorts, .slice Asa s.ops.length csa] 31)).alloc (.cells #[.slice Ama m.sizes.length cma, .slice Amb m.tables.length cmb] 33)) := (below_alloc _ _).alloc (by simp) _
  have HB := Lib.hid hb
  have hsz : ((w.alloc (.cells #[.int .i64 s.sorts, .slice Asa s.ops.length csa] 31)).alloc (.cells #[.slice Ama m.sizes.length cma, .slice Amb m.tables.length cmb] 33)).heap.size = w.heap.size + 2 := by simp
  have Hs := Lib.hid (h1.keep hb)
  have s0 := cell_keep (below_alloc (w.alloc (.cells #[.int .i64 s.sorts, .slice Asa s.ops.length csa] 31)) (.cells #[.slice Ama m.sizes.length cma, .slice Amb m.tables.length cmb] 33)) (bx_at (w) #[.int .i64 s.sorts, .slice Asa s.ops.length csa] 31 (k := 0) rfl)
  have s1 := cell_keep (below_alloc (w.alloc (.cells #[.int .i64 s.sorts, .slice Asa s.ops.length csa] 31)) (.cells #[.slice Ama m.sizes.length cma, .slice Amb m.tables.length cmb] 33)) (bx_at (w) #[.int .i64 s.sorts, .slice Asa s.ops.length csa] 31 (k := 1) rfl)
  have Hm := Lib.hid (h2.keep hb)
  have m0 := bx_at (w.alloc (.cells #[.int .i64 s.sorts, .slice Asa s.ops.length csa] 31)) #[.slice Ama m.sizes.length cma, .slice Amb m.tables.length cmb] 33 (k := 0) rfl
  have m1 := bx_at (w.alloc (.cells #[.int .i64 s.sorts, .slice Asa s.ops.length csa] 31)) #[.slice Ama m.sizes.length cma, .slice Amb m.tables.length cmb] 33 (k := 1) rfl
  simp only [World.size_alloc] at m0 m1
  generalize hW : (w.alloc (.cells #[.int .i64 s.sorts, .slice Asa s.ops.length csa] 31)).alloc (.cells #[.slice Ama m.sizes.length cma, .slice Amb m.tables.length cmb] 33) = W at HB hsz Hs s0 s1 Hm m0 m1
  clear hb h1 h2
  have H3 := Lib.hid (h3.keep HB.out)
  have H4 := Lib.hid (h4.keep HB.out)
  have H5 := Lib.hid (h5.keep HB.out)
  have HSM := Lib.hid hsm
  obtain ⟨A3, d3, rfl, -⟩ := h3.form
  obtain ⟨A4, d4, rfl, -⟩ := h4.form
  obtain ⟨A5, d5, rfl, -⟩ := h5.form
  clear h3 h4 h5 hsm
  go_enter Try.func22, Try.ntmps22
  go_wp2_with fail
  clear hW
  refine (termOf_any s vars t _ _ _ _ HSM.out Hs.out H3.out H4.out).mono ?_
  rintro e w1 ⟨hm, hb⟩
  replace HB := Lib.hid (sz_keep HB.out hb)
  replace s0 := cell_keep hb s0
  replace s1 := cell_keep hb s1
  replace m0 := cell_keep hb m0
  replace m1 := cell_keep hb m1
  replace Hs := Lib.hid (Hs.out.keep hb)
  replace Hm := Lib.hid (Hm.out.keep hb)
  replace H3 := Lib.hid (H3.out.keep hb)
  replace H5 := Lib.hid (H5.out.keep hb)
  clear hb
  cases ht : termM s vars t with
  | none =>
    rw [ht] at hm
    simp only at hm
    subst hm
    have HR := Lib.hid (value_none (m := m) (vals := vals) ht)
    clear ht
    go_wp2
    go_ret
    exact ⟨ret_int HR.out.symm, HB.out⟩
  | some tm =>
    rw [ht] at hm
    simp only at hm
    obtain ⟨u, rfl, hu⟩ := hm
    have HU := Lib.hid hu
    have HTT := Lib.hid ht
    obtain ⟨T, y, fid, rfl, -⟩ := hu.sorts
    clear ht hu
    cases hv : valsB s m vars vals with
    | false =>
      have HV := Lib.hid hv
      have HR := Lib.hid (value_bad (t := t) hv)
      clear hv
      go_wp2_with fail
      refine (valuesOk_any s m vars vals _ _ _ _ _ Hs.out Hm.out H3.out H5.out).mono ?_
      rw [HV.out]
      rintro e w2 ⟨rfl, hb⟩
      replace HB := Lib.hid (sz_keep HB.out hb)
      replace s0 := cell_keep hb s0
      replace s1 := cell_keep hb s1
      replace m0 := cell_keep hb m0
      replace m1 := cell_keep hb m1
      replace Hs := Lib.hid (Hs.out.keep hb)
      replace Hm := Lib.hid (Hm.out.keep hb)
      replace H3 := Lib.hid (H3.out.keep hb)
      replace H5 := Lib.hid (H5.out.keep hb)
      clear hb
      go_wp2
      go_ret
      exact ⟨ret_int HR.out.symm, HB.out⟩
    | true =>
      have HV := Lib.hid hv
      have HR := Lib.hid (value_some HTT.out hv)
      clear hv
      go_wp2_with fail
      refine (valuesOk_any s m vars vals _ _ _ _ _ Hs.out Hm.out H3.out H5.out).mono ?_
      rw [HV.out]
      rintro e w2 ⟨rfl, hb⟩
      replace HU := Lib.hid (HU.out.below hb)
      replace HB := Lib.hid (sz_keep HB.out hb)
      replace s0 := cell_keep hb s0
      replace s1 := cell_keep hb s1
      replace m0 := cell_keep hb m0
      replace m1 := cell_keep hb m1
      replace Hs := Lib.hid (Hs.out.keep hb)
      replace Hm := Lib.hid (Hm.out.keep hb)
      replace H3 := Lib.hid (H3.out.keep hb)
      replace H5 := Lib.hid (H5.out.keep hb)
      clear hb
      go_wp2_with fail
      refine (val_any (model_facts (vals_facts HV.out).2.1) (vals_facts HV.out).2.2 tm (termM_to HTT.out).2.2.1 _ _ _ _ _ Hm.out HU.out H5.out).mono ?_
      rintro e w3 ⟨rfl, hb⟩
      replace HB := Lib.hid (sz_keep HB.out hb)
      replace s0 := cell_keep hb s0
      replace s1 := cell_keep hb s1
      replace m0 := cell_keep hb m0
      replace m1 := cell_keep hb m1
      replace Hs := Lib.hid (Hs.out.keep hb)
      replace Hm := Lib.hid (Hm.out.keep hb)
      replace H3 := Lib.hid (H3.out.keep hb)
      replace H5 := Lib.hid (H5.out.keep hb)
      clear hb
      go_wp2
      go_ret
      exact ⟨ret_int HR.out.symm, HB.out⟩

set_option maxHeartbeats 1600000 in
set_option maxRecDepth 100000 in
theorem specValueOf_any (s : MSig) (m : MModel) (vars t vals : List Int) (w : World) (v v' v2 v3 v4 : Value) (h1 : RSig w v s) (h2 : RModel w v' m) (h3 : RInts w v2 vars) (h4 : RInts w v3 t) (h5 : RInts w v4 vals) :
    Calls Try.prog 21 #[v, v', v2, v3, v4] w fun e w' => e = .returned (.int .i64 (valueM s m vars t vals)) ∧ Below w.heap.size w w' := by
  obtain ⟨Asa, csa, rfl⟩ := h1.form
  obtain ⟨Ama, cma, Amb, cmb, rfl⟩ := h2.form
  have hb : Below w.heap.size w ((w.alloc (.cells #[.int .i64 s.sorts, .slice Asa s.ops.length csa] 31)).alloc (.cells #[.slice Ama m.sizes.length cma, .slice Amb m.tables.length cmb] 33)) := (below_alloc _ _).alloc (by simp) _
  have HB := Lib.hid hb
  have hsz : ((w.alloc (.cells #[.int .i64 s.sorts, .slice Asa s.ops.length csa] 31)).alloc (.cells #[.slice Ama m.sizes.length cma, .slice Amb m.tables.length cmb] 33)).heap.size = w.heap.size + 2 := by simp
  have Hs := Lib.hid (h1.keep hb)
  have s0 := cell_keep (below_alloc (w.alloc (.cells #[.int .i64 s.sorts, .slice Asa s.ops.length csa] 31)) (.cells #[.slice Ama m.sizes.length cma, .slice Amb m.tables.length cmb] 33)) (bx_at (w) #[.int .i64 s.sorts, .slice Asa s.ops.length csa] 31 (k := 0) rfl)
  have s1 := cell_keep (below_alloc (w.alloc (.cells #[.int .i64 s.sorts, .slice Asa s.ops.length csa] 31)) (.cells #[.slice Ama m.sizes.length cma, .slice Amb m.tables.length cmb] 33)) (bx_at (w) #[.int .i64 s.sorts, .slice Asa s.ops.length csa] 31 (k := 1) rfl)
  have Hm := Lib.hid (h2.keep hb)
  have m0 := bx_at (w.alloc (.cells #[.int .i64 s.sorts, .slice Asa s.ops.length csa] 31)) #[.slice Ama m.sizes.length cma, .slice Amb m.tables.length cmb] 33 (k := 0) rfl
  have m1 := bx_at (w.alloc (.cells #[.int .i64 s.sorts, .slice Asa s.ops.length csa] 31)) #[.slice Ama m.sizes.length cma, .slice Amb m.tables.length cmb] 33 (k := 1) rfl
  simp only [World.size_alloc] at m0 m1
  generalize hW : (w.alloc (.cells #[.int .i64 s.sorts, .slice Asa s.ops.length csa] 31)).alloc (.cells #[.slice Ama m.sizes.length cma, .slice Amb m.tables.length cmb] 33) = W at HB hsz Hs s0 s1 Hm m0 m1
  clear hb h1 h2
  have H3 := Lib.hid (h3.keep HB.out)
  have H4 := Lib.hid (h4.keep HB.out)
  have H5 := Lib.hid (h5.keep HB.out)
  obtain ⟨A3, d3, rfl, -⟩ := h3.form
  obtain ⟨A4, d4, rfl, -⟩ := h4.form
  obtain ⟨A5, d5, rfl, -⟩ := h5.form
  clear h3 h4 h5
  cases hv : valsB s m vars vals with
  | false =>
    have HV := Lib.hid hv
    have HR := Lib.hid (value_bad (t := t) hv)
    clear hv
    go_enter Try.func21, Try.ntmps21
    go_wp2_with fail
    clear hW
    refine (specValuesOk_any s m vars vals _ _ _ _ _ Hs.out Hm.out H3.out H5.out).mono ?_
    rw [HV.out]
    rintro e w1 ⟨rfl, hb⟩
    replace HB := Lib.hid (sz_keep HB.out hb)
    replace s0 := cell_keep hb s0
    replace s1 := cell_keep hb s1
    replace m0 := cell_keep hb m0
    replace m1 := cell_keep hb m1
    replace Hs := Lib.hid (Hs.out.keep hb)
    replace Hm := Lib.hid (Hm.out.keep hb)
    replace H3 := Lib.hid (H3.out.keep hb)
    replace H4 := Lib.hid (H4.out.keep hb)
    replace H5 := Lib.hid (H5.out.keep hb)
    clear hb
    go_wp2
    go_ret
    exact ⟨ret_int HR.out.symm, HB.out⟩
  | true =>
    have HV := Lib.hid hv
    clear hv
    go_enter Try.func21, Try.ntmps21
    go_wp2_with fail
    clear hW
    refine (specValuesOk_any s m vars vals _ _ _ _ _ Hs.out Hm.out H3.out H5.out).mono ?_
    rw [HV.out]
    rintro e w1 ⟨rfl, hb⟩
    replace HB := Lib.hid (sz_keep HB.out hb)
    replace s0 := cell_keep hb s0
    replace s1 := cell_keep hb s1
    replace m0 := cell_keep hb m0
    replace m1 := cell_keep hb m1
    replace Hs := Lib.hid (Hs.out.keep hb)
    replace Hm := Lib.hid (Hm.out.keep hb)
    replace H3 := Lib.hid (H3.out.keep hb)
    replace H4 := Lib.hid (H4.out.keep hb)
    replace H5 := Lib.hid (H5.out.keep hb)
    clear hb
    go_wp2_with fail
    refine (specTermSort_any s vars t _ _ _ _ Hs.out H3.out H4.out).mono ?_
    cases ht : termM s vars t with
    | none =>
      have hsn : sortM s vars t = -1 := by unfold sortM; rw [ht]
      rw [hsn]
      have HR := Lib.hid (value_none (m := m) (vals := vals) ht)
      rintro e w2 ⟨rfl, hb⟩
      replace HB := Lib.hid (sz_keep HB.out hb)
      replace s0 := cell_keep hb s0
      replace s1 := cell_keep hb s1
      replace m0 := cell_keep hb m0
      replace m1 := cell_keep hb m1
      replace Hs := Lib.hid (Hs.out.keep hb)
      replace Hm := Lib.hid (Hm.out.keep hb)
      replace H3 := Lib.hid (H3.out.keep hb)
      replace H4 := Lib.hid (H4.out.keep hb)
      replace H5 := Lib.hid (H5.out.keep hb)
      clear hb
      clear ht hsn
      go_wp2
      go_ret
      exact ⟨ret_int HR.out.symm, HB.out⟩
    | some tm =>
      have hsn : sortM s vars t = tm.sort := sortM_some ht
      rw [hsn]
      have HTT := Lib.hid ht
      have HR := Lib.hid (value_some ht HV.out)
      have hpos := (sort_ok (vals_facts HV.out).1 (termM_to ht).2.2.1).1
      rintro e w2 ⟨rfl, hb⟩
      replace HB := Lib.hid (sz_keep HB.out hb)
      replace s0 := cell_keep hb s0
      replace s1 := cell_keep hb s1
      replace m0 := cell_keep hb m0
      replace m1 := cell_keep hb m1
      replace Hs := Lib.hid (Hs.out.keep hb)
      replace Hm := Lib.hid (Hm.out.keep hb)
      replace H3 := Lib.hid (H3.out.keep hb)
      replace H4 := Lib.hid (H4.out.keep hb)
      replace H5 := Lib.hid (H5.out.keep hb)
      clear hb
      generalize tm.sort = q at hpos ⊢
      have hq : ¬ q < 0 := by omega
      clear ht hsn
      go_wp2_with fail
      refine (l5_any (termM_to HTT.out).2.1 (model_facts (vals_facts HV.out).2.1) (vals_facts HV.out).2.2 (vars_valid (vals_facts HV.out).1).2.1 tm (termM_to HTT.out).2.2.1 0 [] _ _ _ _ _ (by rw [(termM_to HTT.out).2.2.2]; simp) Hs.out Hm.out H4.out H5.out).mono ?_
      rintro e w3 ⟨rfl, hb⟩
      replace HB := Lib.hid (sz_keep HB.out hb)
      replace s0 := cell_keep hb s0
      replace s1 := cell_keep hb s1
      replace m0 := cell_keep hb m0
      replace m1 := cell_keep hb m1
      replace Hs := Lib.hid (Hs.out.keep hb)
      replace Hm := Lib.hid (Hm.out.keep hb)
      replace H3 := Lib.hid (H3.out.keep hb)
      replace H4 := Lib.hid (H4.out.keep hb)
      replace H5 := Lib.hid (H5.out.keep hb)
      clear hb
      go_wp2
      go_ret
      exact ⟨ret_int HR.out.symm, HB.out⟩
end Go.Proofs.Yteccjnnhihbdhaa
