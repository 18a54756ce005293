/- l20Asked: a signature, a model and an equation; DrawHolds, DrawFailsAt. · Where an equation fails: what both walks need of the plain functions. No walk. · ValuesOk of both packages. · numberOf of package impl; two rows that are filled at once. -/
import Derived.Test.YtkhabmoidpgapaaKc539d738
import Derived.Deep.AppendLies
namespace Go.Proofs.Ytkhabmoidpgapaa
section
open Go.RowKit
set_option linter.unusedVariables false
set_option linter.unusedSimpArgs false

theorem OEqD.same {w w' : World} {B : Nat} {v : Value} {e : MEq} (h : OEqD w B v e) (hk : ∀ k, B ≤ k → k < w.heap.size → w'.heap[k]? = w.heap[k]?) : OEqD w' B v e := by
  obtain ⟨a, b, c, rfl, h1, h2, h3⟩ := h; exact ⟨a, b, c, rfl, h1.same hk, h2.same hk, h3.same hk⟩
theorem OEqD.drewm {x : World} {b : Nat} {v : Value} {e : MEq} (h : OEqD x b v e) : OEqD x.drew b v e := h
theorem gr_undrewm {w w' : World} {r : Option Nat} (h : w.drew.grownBy w' r) : w.grownBy w' r := ⟨h.os, h.tape, h.output, h.size, h.block⟩
theorem gr_cellm {w w' : World} {g b i : Nat} {u : Value} (h : w.grownBy w' (some g)) (hc : w.cell? ⟨b, i, none⟩ = some u) (hne : b ≠ g) : w'.cell? ⟨b, i, none⟩ = some u := h.cell hc (by show some b ≠ some g; intro e; injection e with e; exact hne e)
/-- what l20Asked answers -/
def AskPost (g p : Nat) (w : World) (x : Ending) (w' : World) : Prop :=
  ∃ (sv mv ev : Value) (s : MSig) (m : MModel) (e : MEq) (q : Nat), x = .returned (.tuple #[sv, mv, ev]) ∧ OSig w' w.heap.size sv s ∧ OModel w' w.heap.size mv m ∧ FewMo s m ∧ OEqD w' w.heap.size ev e ∧ SmallE e ∧ e.vars.length ≤ 5 ∧ e.left.length ≤ 7 ∧ e.right.length ≤ 7 ∧ RRd w' g q ∧ q ≤ p + 600000 ∧ w.grownBy w' (some g)

set_option maxHeartbeats 3200000 in
set_option maxRecDepth 100000 in
theorem asked_any (g p : Nat) (w : World) (h : RRd w g p) (hp : p ≤ 100000) :
    Calls Try.prog 57 #[.pointer (some ⟨g, 0, none⟩)] w (AskPost g p w) := by
  have hgl := h.lt
  obtain ⟨W, hW⟩ : ∃ W : World, W = ((w.alloc (.cells #[.int .i64 0, .slice none 0 0] 25)).alloc (.cells #[.slice none 0 0, .slice none 0 0] 28)).alloc (.cells #[.slice none 0 0, .slice none 0 0, .slice none 0 0] 41) := ⟨_, rfl⟩
  have hb0 : Below w.heap.size w W := by rw [hW]; exact ((below_alloc _ _).alloc (by simp) _).alloc (by simp; omega) _
  have HB0 := Lib.hid hb0
  have HZ0 := Lib.hid (show W.heap.size = w.heap.size + 3 by rw [hW]; simp)
  have HZR0 := Lib.hid (show W.heap[w.heap.size]? = some (.cells #[.int .i64 0, .slice none 0 0] 25 (0, 0)) by rw [hW]; exact (heap_alloc_old ((w.alloc (.cells #[.int .i64 0, .slice none 0 0] 25)).alloc (.cells #[.slice none 0 0, .slice none 0 0] 28)) _ (by simp; omega)).trans ((heap_alloc_old (w.alloc (.cells #[.int .i64 0, .slice none 0 0] 25)) _ (by simp)).trans (heap_alloc_new (w) _)))
  have HZR1 := Lib.hid (show W.heap[w.heap.size + 1]? = some (.cells #[.slice none 0 0, .slice none 0 0] 28 (0, 0)) by rw [hW]; exact (heap_alloc_old ((w.alloc (.cells #[.int .i64 0, .slice none 0 0] 25)).alloc (.cells #[.slice none 0 0, .slice none 0 0] 28)) _ (by simp)).trans ((congrArg (fun i => ((w.alloc (.cells #[.int .i64 0, .slice none 0 0] 25)).alloc (.cells #[.slice none 0 0, .slice none 0 0] 28)).heap[i]?) (by simp)).trans (heap_alloc_new (w.alloc (.cells #[.int .i64 0, .slice none 0 0] 25)) _)))
  have HZR2 := Lib.hid (show W.heap[w.heap.size + 2]? = some (.cells #[.slice none 0 0, .slice none 0 0, .slice none 0 0] 41 (0, 0)) by rw [hW]; exact (congrArg (fun i => (((w.alloc (.cells #[.int .i64 0, .slice none 0 0] 25)).alloc (.cells #[.slice none 0 0, .slice none 0 0] 28)).alloc (.cells #[.slice none 0 0, .slice none 0 0, .slice none 0 0] 41)).heap[i]?) (by simp)).trans (heap_alloc_new ((w.alloc (.cells #[.int .i64 0, .slice none 0 0] 25)).alloc (.cells #[.slice none 0 0, .slice none 0 0] 28)) _))
  have HR0 := Lib.hid (h.keep hb0)
  have hW' := hW.symm
  clear hb0 hW h
  go_enter Try.func57, Try.ntmps57
  go_wp2_with fail
  clear hW'
  refine (model_any g p 14 _ HR0.out (by omega) (by omega) (by omega)).mono ?_
  rintro x w2 ⟨sv, mv, ⟨sorts, rows⟩, m, q, rfl, ⟨u, rfl, ho⟩, hs1, hm, hl1, hl2, hl3, hl4, hr2, hq2, hg2⟩
  obtain ⟨x, y, rfl, o1, C, hC, hub, o2⟩ := hm
  obtain ⟨us, hu1, -⟩ := id ho
  obtain ⟨Au, cu, rfl, -⟩ := own_reads hu1
  obtain ⟨A0, c0, rfl, -⟩ := own_reads o1
  obtain ⟨us2, hu2, -⟩ := id o2
  obtain ⟨A1, c1, rfl, -⟩ := own_reads hu2
  have HF := Lib.hid (show FewMo ⟨sorts, rows⟩ m from ⟨hs1, hl1, hl2, hl3, hl4⟩)
  have hzW := HZ0.out
  have hz2 : W.heap.size ≤ w2.heap.size := hg2.size
  have hba : Below w2.heap.size w2 ((w2.alloc (.cells #[.int .i64 sorts, .slice Au rows.length cu] 25)).alloc (.cells #[.slice A0 m.sizes.length c0, .slice A1 m.tables.length c1] 28)) := (below_alloc _ _).alloc (by simp) _
  have HG3 := Lib.hid (gr_alloc (gr_alloc hg2 (.cells #[.int .i64 sorts, .slice Au rows.length cu] 25)) (.cells #[.slice A0 m.sizes.length c0, .slice A1 m.tables.length c1] 28))
  have HBA := Lib.hid ((heap_alloc_old (w2.alloc (.cells #[.int .i64 sorts, .slice Au rows.length cu] 25)) (.cells #[.slice A0 m.sizes.length c0, .slice A1 m.tables.length c1] 28) (by simp)).trans (heap_alloc_new w2 (.cells #[.int .i64 sorts, .slice Au rows.length cu] 25)))
  have HBB := Lib.hid ((congrArg (fun i => ((w2.alloc (.cells #[.int .i64 sorts, .slice Au rows.length cu] 25)).alloc (.cells #[.slice A0 m.sizes.length c0, .slice A1 m.tables.length c1] 28)).heap[i]?) (show w2.heap.size + 1 = (w2.alloc (.cells #[.int .i64 sorts, .slice Au rows.length cu] 25)).heap.size by simp)).trans (heap_alloc_new (w2.alloc (.cells #[.int .i64 sorts, .slice Au rows.length cu] 25)) (.cells #[.slice A0 m.sizes.length c0, .slice A1 m.tables.length c1] 28)))
  have HO3 := Lib.hid ((ho.keep hba).base (B' := w.heap.size + 3) (by omega))
  have HM3 := Lib.hid (OModel.base (B' := w.heap.size + 3) (show OModel _ W.heap.size (.agg #[.slice A0 m.sizes.length c0, .slice A1 m.tables.length c1]) m from ⟨_, _, rfl, o1.keep hba, C, hC, hub, o2.keep hba⟩) (by omega))
  have HR3 := Lib.hid (hr2.keep hba)
  clear ho o1 o2 hu1 hu2 hub hr2 hg2 hba hs1 hl1 hl2 hl3 hl4
  generalize hW3 : (w2.alloc (.cells #[.int .i64 sorts, .slice Au rows.length cu] 25)).alloc (.cells #[.slice A0 m.sizes.length c0, .slice A1 m.tables.length c1] 28) = w3 at HG3 HBA HBB HO3 HM3 HR3
  have hz3 : w2.heap.size + 1 < w3.heap.size := (Array.getElem?_eq_some_iff.1 HBB.out).1
  have p0 := block_cell HBA.out 0
  have p1 := block_cell HBA.out 1
  have p2 := block_cell HBB.out 0
  have p3 := block_cell HBB.out 1
  simp at p0 p1 p2 p3
  have HS := Lib.hid (show RSig w3 (.agg #[.int .i64 sorts, .slice Au rows.length cu]) ⟨sorts, rows⟩ from ⟨_, rfl, HO3.out.reads⟩)
  have HGW3 := Lib.hid (gr_trans (gr_below (gr_refl w g) HB0.out) HG3.out (fun x e => by injection e with e; exact .inl e.symm))
  cases hv : validB ⟨sorts, rows⟩ with
  | false =>
    have HV := Lib.hid hv
    clear hv
    go_wp2_with fail
    clear hW3
    refine (specSigValid_any _ ⟨sorts, rows⟩ _ HS.out).mono ?_
    rw [HV.out]
    rintro e wz ⟨rfl, hb⟩
    replace p0 := cell_keep hb p0
    replace p1 := cell_keep hb p1
    replace p2 := cell_keep hb p2
    replace p3 := cell_keep hb p3
    have HGW := Lib.hid (gr_below HGW3.out hb)
    have HRDW := Lib.hid (HR3.out.keep hb)
    replace HO3 := Lib.hid (HO3.out.keep hb)
    replace HM3 := Lib.hid (HM3.out.keep hb)
    have hra := gr_at (gr_below HG3.out hb) (by omega) HZR0.out
    have hrb := gr_at (gr_below HG3.out hb) (by omega) HZR1.out
    have hrc := gr_at (gr_below HG3.out hb) (by omega) HZR2.out
    have hzz := hb.size
    have r0 := block_cell hra 0
    have rf0 := block_free hra 0
    have r1 := block_cell hra 1
    have rf1 := block_free hra 1
    have r2 := block_cell hrb 0
    have rf2 := block_free hrb 0
    have r3 := block_cell hrb 1
    have rf3 := block_free hrb 1
    have r4 := block_cell hrc 0
    have rf4 := block_free hrc 0
    have r5 := block_cell hrc 1
    have rf5 := block_free hrc 1
    have r6 := block_cell hrc 2
    have rf6 := block_free hrc 2
    simp at r0 r1 r2 r3 r4 r5 r6
    clear hb
    go_wp2_with fail
    go_region_held3 (fun w' => w'.cell? ⟨w2.heap.size, 0, none⟩ = some (.int .i64 sorts) ∧ w'.cell? ⟨w2.heap.size, 1, none⟩ = some (.slice Au rows.length cu) ∧ w'.cell? ⟨w2.heap.size + 1, 0, none⟩ = some (.slice A0 m.sizes.length c0) ∧ w'.cell? ⟨w2.heap.size + 1, 1, none⟩ = some (.slice A1 m.tables.length c1)) (first | with_reducible exact ⟨drew_cellm p0, drew_cellm p1, drew_cellm p2, drew_cellm p3⟩ | with_reducible exact ⟨drew_cellm (keep2m p0 (by omega)), drew_cellm (keep2m p1 (by omega)), drew_cellm (keep2m p2 (by omega)), drew_cellm (keep2m p3 (by omega))⟩ | with_reducible exact ⟨drew_cellm (keep2m (keep2m p0 (by omega)) (by omega)), drew_cellm (keep2m (keep2m p1 (by omega)) (by omega)), drew_cellm (keep2m (keep2m p2 (by omega)) (by omega)), drew_cellm (keep2m (keep2m p3 (by omega)) (by omega))⟩ | with_reducible exact ⟨drew_cellm (keep3m (keep2m (keep2m p0 (by omega)) (by omega)) (by omega)), drew_cellm (keep3m (keep2m (keep2m p1 (by omega)) (by omega)) (by omega)), drew_cellm (keep3m (keep2m (keep2m p2 (by omega)) (by omega)) (by omega)), drew_cellm (keep3m (keep2m (keep2m p3 (by omega)) (by omega)) (by omega))⟩) (fail)
    have d0 := ((put3_other (x := (.slice none 0 0)) (y := (.slice none 0 0)) (z := (.slice none 0 0)) (show w.heap.size ≠ w.heap.size + 2 by omega)).trans ((put2_other (x := (.slice A0 m.sizes.length c0)) (y := (.slice A1 m.tables.length c1)) (show w.heap.size ≠ w.heap.size + 1 by omega)).trans (put2_at (x := (.int .i64 sorts)) (y := (.slice Au rows.length cu)) hra)))
    have d1 := ((put3_other (x := (.slice none 0 0)) (y := (.slice none 0 0)) (z := (.slice none 0 0)) (show w.heap.size + 1 ≠ w.heap.size + 2 by omega)).trans (put2_at (x := (.slice A0 m.sizes.length c0)) (y := (.slice A1 m.tables.length c1)) ((put2_other (x := (.int .i64 sorts)) (y := (.slice Au rows.length cu)) (show w.heap.size + 1 ≠ w.heap.size by omega)).trans hrb)))
    have d2 := (put3_at (x := (.slice none 0 0)) (y := (.slice none 0 0)) (z := (.slice none 0 0)) ((put2_other (x := (.slice A0 m.sizes.length c0)) (y := (.slice A1 m.tables.length c1)) (show w.heap.size + 2 ≠ w.heap.size + 1 by omega)).trans ((put2_other (x := (.int .i64 sorts)) (y := (.slice Au rows.length cu)) (show w.heap.size + 2 ≠ w.heap.size by omega)).trans hrc)))
    have HLOW := Lib.hid (fun (k : Nat) (hk : w.heap.size + 3 ≤ k) => ((put3_other (x := (.slice none 0 0)) (y := (.slice none 0 0)) (z := (.slice none 0 0)) (show k ≠ w.heap.size + 2 by omega)).trans ((put2_other (x := (.slice A0 m.sizes.length c0)) (y := (.slice A1 m.tables.length c1)) (show k ≠ w.heap.size + 1 by omega)).trans (put2_other (wz := wz) (x := (.int .i64 sorts)) (y := (.slice Au rows.length cu)) (show k ≠ w.heap.size by omega)))))
    have HRDZ := Lib.hid (put3_rd (b := w.heap.size + 2) (x := (.slice none 0 0)) (y := (.slice none 0 0)) (z := (.slice none 0 0)) (put2_rd (b := w.heap.size + 1) (x := (.slice A0 m.sizes.length c0)) (y := (.slice A1 m.tables.length c1)) (put2_rd (b := w.heap.size) (x := (.int .i64 sorts)) (y := (.slice Au rows.length cu)) HRDW.out (by omega)) (by omega)) (by omega))
    have HGRZ := Lib.hid (put3_gr (b := w.heap.size + 2) (x := (.slice none 0 0)) (y := (.slice none 0 0)) (z := (.slice none 0 0)) (put2_gr (b := w.heap.size + 1) (x := (.slice A0 m.sizes.length c0)) (y := (.slice A1 m.tables.length c1)) (put2_gr (b := w.heap.size) (x := (.int .i64 sorts)) (y := (.slice Au rows.length cu)) HGW.out (by omega)) (by omega)) (by omega))
    clear r0 rf0 r1 rf1 r2 rf2 r3 rf3 r4 rf4 r5 rf5 r6 rf6
    generalize ((((((wz.setCell ⟨w.heap.size, 0, none⟩ (.int .i64 sorts)).setCell ⟨w.heap.size, 1, none⟩ (.slice Au rows.length cu)).setCell ⟨w.heap.size + 1, 0, none⟩ (.slice A0 m.sizes.length c0)).setCell ⟨w.heap.size + 1, 1, none⟩ (.slice A1 m.tables.length c1)).setCell ⟨w.heap.size + 2, 0, none⟩ (.slice none 0 0)).setCell ⟨w.heap.size + 2, 1, none⟩ (.slice none 0 0)).setCell ⟨w.heap.size + 2, 2, none⟩ (.slice none 0 0) = w9 at d0 d1 d2 HLOW HRDZ HGRZ ⊢
    have k0 := drew_cellm (block_cell d0 0)
    have k1 := drew_cellm (block_cell d0 1)
    have k2 := drew_cellm (block_cell d1 0)
    have k3 := drew_cellm (block_cell d1 1)
    have k4 := drew_cellm (block_cell d2 0)
    have k5 := drew_cellm (block_cell d2 1)
    have k6 := drew_cellm (block_cell d2 2)
    simp at k0 k1 k2 k3 k4 k5 k6
    go_wp2
    refine bodyPost_ret (v := .tuple #[.agg #[.int .i64 sorts, .slice Au rows.length cu], .agg #[.slice A0 m.sizes.length c0, .slice A1 m.tables.length c1], .agg #[.slice none 0 0, .slice none 0 0, .slice none 0 0]]) (by simp [results, Try.results57, go_sem, k0, k1, k2, k3, k4, k5, k6]) rfl ?_
    exact ⟨_, _, _, ⟨sorts, rows⟩, m, ⟨[], [], []⟩, q, rfl, osig_drewm (OSig.base (B := w.heap.size + 3) ⟨_, rfl, HO3.out.same (fun k h1 h2 => HLOW.out k h1)⟩ (by omega)), OModel.drew (OModel.base (B := w.heap.size + 3) (HM3.out.same (fun k h1 h2 => HLOW.out k h1)) (by omega)), HF.out, ⟨_, _, _, rfl, OInts.nil _ _, OInts.nil _ _, OInts.nil _ _⟩, ⟨(fun x hx => by cases hx), (fun x hx => by cases hx)⟩, by simp, by simp, by simp, HRDZ.out, by omega, gr_todrewm HGRZ.out⟩
  | true =>
    have HV := Lib.hid hv
    clear hv
    go_wp2_with fail
    clear hW3
    refine (specSigValid_any _ ⟨sorts, rows⟩ _ HS.out).mono ?_
    rw [HV.out]
    rintro e w4 ⟨rfl, hb⟩
    replace p0 := cell_keep hb p0
    replace p1 := cell_keep hb p1
    replace p2 := cell_keep hb p2
    replace p3 := cell_keep hb p3
    have HGW4 := Lib.hid (gr_below HGW3.out hb)
    have HG4 := Lib.hid (gr_below HG3.out hb)
    have HRD4 := Lib.hid (HR3.out.keep hb)
    replace HO3 := Lib.hid (HO3.out.keep hb)
    replace HM3 := Lib.hid (HM3.out.keep hb)
    have hz4 := hb.size
    clear hb
    go_wp2_with fail
    go_region_held3 (fun w' => w'.cell? ⟨w2.heap.size, 0, none⟩ = some (.int .i64 sorts) ∧ w'.cell? ⟨w2.heap.size, 1, none⟩ = some (.slice Au rows.length cu) ∧ w'.cell? ⟨w2.heap.size + 1, 0, none⟩ = some (.slice A0 m.sizes.length c0) ∧ w'.cell? ⟨w2.heap.size + 1, 1, none⟩ = some (.slice A1 m.tables.length c1)) (first | with_reducible exact ⟨drew_cellm p0, drew_cellm p1, drew_cellm p2, drew_cellm p3⟩ | with_reducible exact ⟨q0, q1, q2, q3⟩ | with_reducible exact ⟨keep2m q0 (by omega), keep2m q1 (by omega), keep2m q2 (by omega), keep2m q3 (by omega)⟩ | with_reducible exact ⟨keep2m (keep2m q0 (by omega)) (by omega), keep2m (keep2m q1 (by omega)) (by omega), keep2m (keep2m q2 (by omega)) (by omega), keep2m (keep2m q3 (by omega)) (by omega)⟩ | with_reducible exact ⟨keep3m (keep2m (keep2m q0 (by omega)) (by omega)) (by omega), keep3m (keep2m (keep2m q1 (by omega)) (by omega)) (by omega), keep3m (keep2m (keep2m q2 (by omega)) (by omega)) (by omega), keep3m (keep2m (keep2m q3 (by omega)) (by omega)) (by omega)⟩)
      (first | (go_at_call 91; refine (eqOf_draw ⟨sorts, rows⟩ HV.out g q _ w4.drew HRD4.out (by omega) (show OSig w4 (g + 1) (.agg #[.int .i64 sorts, .slice Au rows.length cu]) ⟨sorts, rows⟩ from ⟨_, rfl, HO3.out.base (by omega)⟩)).mono ?_; rintro x w5 ⟨ev, e, q5, rfl, ⟨b0, b1, b2, rfl, oe0, oe1, oe2⟩, hse, hev, hel, her, -, hr5, hq5, hg5⟩; have hg5 := gr_undrewm hg5; obtain ⟨B0, dc0, rfl, -⟩ := own_reads oe0; obtain ⟨B1, dc1, rfl, -⟩ := own_reads oe1; obtain ⟨B2, dc2, rfl, -⟩ := own_reads oe2; have HE5 := Lib.hid (show OEqD w5 w4.heap.size (.agg #[.slice B0 e.vars.length dc0, .slice B1 e.left.length dc1, .slice B2 e.right.length dc2]) e from ⟨_, _, _, rfl, oe0, oe1, oe2⟩); have HSE := Lib.hid hse; have q0 := gr_cellm hg5 p0 (by omega); have q1 := gr_cellm hg5 p1 (by omega); have q2 := gr_cellm hg5 p2 (by omega); have q3 := gr_cellm hg5 p3 (by omega); have HGW := Lib.hid (gr_trans HGW4.out hg5 (fun x e => by injection e with e; exact .inl e.symm)); have HRDW := Lib.hid hr5; have HO5 := Lib.hid (HO3.out.grown hg5 (fun k e => by injection e with e; omega)); have HM5 := Lib.hid (OModel.past HM3.out hg5 (by omega)); have hra := gr_at (gr_trans HG4.out hg5 (fun x e => by injection e with e; exact .inl e.symm)) (by omega) HZR0.out; have hrb := gr_at (gr_trans HG4.out hg5 (fun x e => by injection e with e; exact .inl e.symm)) (by omega) HZR1.out; have hrc := gr_at (gr_trans HG4.out hg5 (fun x e => by injection e with e; exact .inl e.symm)) (by omega) HZR2.out; have hz5 := hg5.size; have r0 := block_cell hra 0; have rf0 := block_free hra 0; have r1 := block_cell hra 1; have rf1 := block_free hra 1; have r2 := block_cell hrb 0; have rf2 := block_free hrb 0; have r3 := block_cell hrb 1; have rf3 := block_free hrb 1; have r4 := block_cell hrc 0; have rf4 := block_free hrc 0; have r5 := block_cell hrc 1; have rf5 := block_free hrc 1; have r6 := block_cell hrc 2; have rf6 := block_free hrc 2; simp at r0 r1 r2 r3 r4 r5 r6; clear hse hr5 hg5 oe0 oe1 oe2 p0 p1 p2 p3))
    have d0 := ((put3_other (x := (.slice B0 e.vars.length dc0)) (y := (.slice B1 e.left.length dc1)) (z := (.slice B2 e.right.length dc2)) (show w.heap.size ≠ w.heap.size + 2 by omega)).trans ((put2_other (x := (.slice A0 m.sizes.length c0)) (y := (.slice A1 m.tables.length c1)) (show w.heap.size ≠ w.heap.size + 1 by omega)).trans (put2_at (x := (.int .i64 sorts)) (y := (.slice Au rows.length cu)) hra)))
    have d1 := ((put3_other (x := (.slice B0 e.vars.length dc0)) (y := (.slice B1 e.left.length dc1)) (z := (.slice B2 e.right.length dc2)) (show w.heap.size + 1 ≠ w.heap.size + 2 by omega)).trans (put2_at (x := (.slice A0 m.sizes.length c0)) (y := (.slice A1 m.tables.length c1)) ((put2_other (x := (.int .i64 sorts)) (y := (.slice Au rows.length cu)) (show w.heap.size + 1 ≠ w.heap.size by omega)).trans hrb)))
    have d2 := (put3_at (x := (.slice B0 e.vars.length dc0)) (y := (.slice B1 e.left.length dc1)) (z := (.slice B2 e.right.length dc2)) ((put2_other (x := (.slice A0 m.sizes.length c0)) (y := (.slice A1 m.tables.length c1)) (show w.heap.size + 2 ≠ w.heap.size + 1 by omega)).trans ((put2_other (x := (.int .i64 sorts)) (y := (.slice Au rows.length cu)) (show w.heap.size + 2 ≠ w.heap.size by omega)).trans hrc)))
    have HLOW := Lib.hid (fun (k : Nat) (hk : w.heap.size + 3 ≤ k) => ((put3_other (x := (.slice B0 e.vars.length dc0)) (y := (.slice B1 e.left.length dc1)) (z := (.slice B2 e.right.length dc2)) (show k ≠ w.heap.size + 2 by omega)).trans ((put2_other (x := (.slice A0 m.sizes.length c0)) (y := (.slice A1 m.tables.length c1)) (show k ≠ w.heap.size + 1 by omega)).trans (put2_other (wz := w5) (x := (.int .i64 sorts)) (y := (.slice Au rows.length cu)) (show k ≠ w.heap.size by omega)))))
    have HRDZ := Lib.hid (put3_rd (b := w.heap.size + 2) (x := (.slice B0 e.vars.length dc0)) (y := (.slice B1 e.left.length dc1)) (z := (.slice B2 e.right.length dc2)) (put2_rd (b := w.heap.size + 1) (x := (.slice A0 m.sizes.length c0)) (y := (.slice A1 m.tables.length c1)) (put2_rd (b := w.heap.size) (x := (.int .i64 sorts)) (y := (.slice Au rows.length cu)) HRDW.out (by omega)) (by omega)) (by omega))
    have HGRZ := Lib.hid (put3_gr (b := w.heap.size + 2) (x := (.slice B0 e.vars.length dc0)) (y := (.slice B1 e.left.length dc1)) (z := (.slice B2 e.right.length dc2)) (put2_gr (b := w.heap.size + 1) (x := (.slice A0 m.sizes.length c0)) (y := (.slice A1 m.tables.length c1)) (put2_gr (b := w.heap.size) (x := (.int .i64 sorts)) (y := (.slice Au rows.length cu)) HGW.out (by omega)) (by omega)) (by omega))
    clear r0 rf0 r1 rf1 r2 rf2 r3 rf3 r4 rf4 r5 rf5 r6 rf6
    generalize ((((((w5.setCell ⟨w.heap.size, 0, none⟩ (.int .i64 sorts)).setCell ⟨w.heap.size, 1, none⟩ (.slice Au rows.length cu)).setCell ⟨w.heap.size + 1, 0, none⟩ (.slice A0 m.sizes.length c0)).setCell ⟨w.heap.size + 1, 1, none⟩ (.slice A1 m.tables.length c1)).setCell ⟨w.heap.size + 2, 0, none⟩ (.slice B0 e.vars.length dc0)).setCell ⟨w.heap.size + 2, 1, none⟩ (.slice B1 e.left.length dc1)).setCell ⟨w.heap.size + 2, 2, none⟩ (.slice B2 e.right.length dc2) = w9 at d0 d1 d2 HLOW HRDZ HGRZ ⊢
    have k0 := block_cell d0 0
    have k1 := block_cell d0 1
    have k2 := block_cell d1 0
    have k3 := block_cell d1 1
    have k4 := block_cell d2 0
    have k5 := block_cell d2 1
    have k6 := block_cell d2 2
    simp at k0 k1 k2 k3 k4 k5 k6
    go_wp2
    refine bodyPost_ret (v := .tuple #[.agg #[.int .i64 sorts, .slice Au rows.length cu], .agg #[.slice A0 m.sizes.length c0, .slice A1 m.tables.length c1], .agg #[.slice B0 e.vars.length dc0, .slice B1 e.left.length dc1, .slice B2 e.right.length dc2]]) (by simp [results, Try.results57, go_sem, k0, k1, k2, k3, k4, k5, k6]) rfl ?_
    exact ⟨_, _, _, ⟨sorts, rows⟩, m, e, q5, rfl, id (OSig.base (B := w.heap.size + 3) ⟨_, rfl, HO5.out.same (fun k h1 h2 => HLOW.out k h1)⟩ (by omega)), id (OModel.base (B := w.heap.size + 3) (HM5.out.same (fun k h1 h2 => HLOW.out k h1)) (by omega)), HF.out, id (OEqD.base (HE5.out.same (fun k h1 h2 => HLOW.out k (by omega))) (by omega)), HSE.out, hev, hel, her, HRDZ.out, by omega, HGRZ.out⟩

def DrawAskPost (w : World) (x : Ending) (w' : World) : Prop :=
  ∃ (sv mv ev : Value) (s : MSig) (m : MModel) (e : MEq), x = .returned (.tuple #[sv, mv, ev]) ∧ OSig w' w.heap.size sv s ∧ OModel w' w.heap.size mv m ∧ FewMo s m ∧ OEqD w' w.heap.size ev e ∧ SmallE e ∧ e.vars.length ≤ 5 ∧ e.left.length ≤ 7 ∧ e.right.length ≤ 7 ∧ Below w.heap.size w w'

set_option maxHeartbeats 1600000 in
set_option maxRecDepth 100000 in
theorem drawHolds_any (v : Value) (bs : List Int) (w : World) (h : RBytes w w.heap.size v bs) :
    Calls Try.prog 26 #[v] w (DrawAskPost w) := by
  obtain ⟨W, hW⟩ : ∃ W : World, W = ((w.alloc (.cells #[.int .i64 0, .slice none 0 0] 25)).alloc (.cells #[.slice none 0 0, .slice none 0 0] 28)).alloc (.cells #[.slice none 0 0, .slice none 0 0, .slice none 0 0] 41) := ⟨_, rfl⟩
  have hb0 : Below w.heap.size w W := by rw [hW]; exact ((below_alloc _ _).alloc (by simp) _).alloc (by simp; omega) _
  have HB0 := Lib.hid hb0
  have HZ0 := Lib.hid (show W.heap.size = w.heap.size + 3 by rw [hW]; simp)
  have HZR0 := Lib.hid (show W.heap[w.heap.size]? = some (.cells #[.int .i64 0, .slice none 0 0] 25 (0, 0)) by rw [hW]; exact (heap_alloc_old ((w.alloc (.cells #[.int .i64 0, .slice none 0 0] 25)).alloc (.cells #[.slice none 0 0, .slice none 0 0] 28)) _ (by simp; omega)).trans ((heap_alloc_old (w.alloc (.cells #[.int .i64 0, .slice none 0 0] 25)) _ (by simp)).trans (heap_alloc_new (w) _)))
  have HZR1 := Lib.hid (show W.heap[w.heap.size + 1]? = some (.cells #[.slice none 0 0, .slice none 0 0] 28 (0, 0)) by rw [hW]; exact (heap_alloc_old ((w.alloc (.cells #[.int .i64 0, .slice none 0 0] 25)).alloc (.cells #[.slice none 0 0, .slice none 0 0] 28)) _ (by simp)).trans ((congrArg (fun i => ((w.alloc (.cells #[.int .i64 0, .slice none 0 0] 25)).alloc (.cells #[.slice none 0 0, .slice none 0 0] 28)).heap[i]?) (by simp)).trans (heap_alloc_new (w.alloc (.cells #[.int .i64 0, .slice none 0 0] 25)) _)))
  have HZR2 := Lib.hid (show W.heap[w.heap.size + 2]? = some (.cells #[.slice none 0 0, .slice none 0 0, .slice none 0 0] 41 (0, 0)) by rw [hW]; exact (congrArg (fun i => (((w.alloc (.cells #[.int .i64 0, .slice none 0 0] 25)).alloc (.cells #[.slice none 0 0, .slice none 0 0] 28)).alloc (.cells #[.slice none 0 0, .slice none 0 0, .slice none 0 0] 41)).heap[i]?) (by simp)).trans (heap_alloc_new ((w.alloc (.cells #[.int .i64 0, .slice none 0 0] 25)).alloc (.cells #[.slice none 0 0, .slice none 0 0] 28)) _))
  have HW := Lib.hid (bytes_alloc h hb0)
  obtain ⟨A, c, rfl, -⟩ := h
  have hW' := hW.symm
  clear hb0 hW
  go_enter Try.func26, Try.ntmps26
  go_wp2_with fail
  clear hW'
  refine (open_any _ bs _ HW.out).mono ?_
  rintro e w1 ⟨rfl, hr1, hb1⟩
  rw [HZ0.out] at hr1
  have HR1 := Lib.hid hr1
  have HB1 := Lib.hid hb1
  rw [HZ0.out]
  have hzW := HZ0.out
  have hz1 := HB1.out.size
  have hlt1 : w.heap.size + 3 < w1.heap.size := HR1.out.lt
  clear hr1 hb1
  go_wp2_with fail
  refine (asked_any (w.heap.size + 3) 0 _ HR1.out (by omega)).mono ?_
  rintro x w2 ⟨sv, mv, ev, ⟨sorts, rows⟩, m, e, q, rfl, ⟨u, rfl, ho⟩, ⟨x, y, rfl, o1, C, hC, hub, o2⟩, hf, ⟨b0, b1, b2, rfl, oe0, oe1, oe2⟩, hse, hev, hel, her, hr2, hq2, hg2⟩
  obtain ⟨us, hu1, -⟩ := id ho
  obtain ⟨Au, cu, rfl, -⟩ := own_reads hu1
  obtain ⟨A0, c0, rfl, -⟩ := own_reads o1
  obtain ⟨us2, hu2, -⟩ := id o2
  obtain ⟨A1, c1, rfl, -⟩ := own_reads hu2
  obtain ⟨B0, dc0, rfl, -⟩ := own_reads oe0
  obtain ⟨B1, dc1, rfl, -⟩ := own_reads oe1
  obtain ⟨B2, dc2, rfl, -⟩ := own_reads oe2
  have HF := Lib.hid hf
  have HSE := Lib.hid hse
  have hra := gr_at hg2 (by omega) ((HB1.out.block _ (by omega)).trans HZR0.out)
  have hrb := gr_at hg2 (by omega) ((HB1.out.block _ (by omega)).trans HZR1.out)
  have hrc := gr_at hg2 (by omega) ((HB1.out.block _ (by omega)).trans HZR2.out)
  have r0 := block_cell hra 0
  have rf0 := block_free hra 0
  have r1 := block_cell hra 1
  have rf1 := block_free hra 1
  have r2 := block_cell hrb 0
  have rf2 := block_free hrb 0
  have r3 := block_cell hrb 1
  have rf3 := block_free hrb 1
  have r4 := block_cell hrc 0
  have rf4 := block_free hrc 0
  have r5 := block_cell hrc 1
  have rf5 := block_free hrc 1
  have r6 := block_cell hrc 2
  have rf6 := block_free hrc 2
  simp at r0 r1 r2 r3 r4 r5 r6
  have hbel : Below w.heap.size w w2 := (HB0.out.trans (HB1.out.mono (by omega))).trans (below_of_gr' hg2 (by omega) (by omega))
  clear hf hse
  go_wp2
  have d0 := ((put3_other (x := (.slice B0 e.vars.length dc0)) (y := (.slice B1 e.left.length dc1)) (z := (.slice B2 e.right.length dc2)) (show w.heap.size ≠ w.heap.size + 2 by omega)).trans ((put2_other (x := (.slice A0 m.sizes.length c0)) (y := (.slice A1 m.tables.length c1)) (show w.heap.size ≠ w.heap.size + 1 by omega)).trans (put2_at (x := (.int .i64 sorts)) (y := (.slice Au rows.length cu)) hra)))
  have d1 := ((put3_other (x := (.slice B0 e.vars.length dc0)) (y := (.slice B1 e.left.length dc1)) (z := (.slice B2 e.right.length dc2)) (show w.heap.size + 1 ≠ w.heap.size + 2 by omega)).trans (put2_at (x := (.slice A0 m.sizes.length c0)) (y := (.slice A1 m.tables.length c1)) ((put2_other (x := (.int .i64 sorts)) (y := (.slice Au rows.length cu)) (show w.heap.size + 1 ≠ w.heap.size by omega)).trans hrb)))
  have d2 := (put3_at (x := (.slice B0 e.vars.length dc0)) (y := (.slice B1 e.left.length dc1)) (z := (.slice B2 e.right.length dc2)) ((put2_other (x := (.slice A0 m.sizes.length c0)) (y := (.slice A1 m.tables.length c1)) (show w.heap.size + 2 ≠ w.heap.size + 1 by omega)).trans ((put2_other (x := (.int .i64 sorts)) (y := (.slice Au rows.length cu)) (show w.heap.size + 2 ≠ w.heap.size by omega)).trans hrc)))
  have HLOW := Lib.hid (fun (k : Nat) (hk : w.heap.size + 3 ≤ k) => ((put3_other (x := (.slice B0 e.vars.length dc0)) (y := (.slice B1 e.left.length dc1)) (z := (.slice B2 e.right.length dc2)) (show k ≠ w.heap.size + 2 by omega)).trans ((put2_other (x := (.slice A0 m.sizes.length c0)) (y := (.slice A1 m.tables.length c1)) (show k ≠ w.heap.size + 1 by omega)).trans (put2_other (wz := w2) (x := (.int .i64 sorts)) (y := (.slice Au rows.length cu)) (show k ≠ w.heap.size by omega)))))
  have HBEL := Lib.hid (put3_bel (b := w.heap.size + 2) (x := (.slice B0 e.vars.length dc0)) (y := (.slice B1 e.left.length dc1)) (z := (.slice B2 e.right.length dc2)) (put2_bel (b := w.heap.size + 1) (x := (.slice A0 m.sizes.length c0)) (y := (.slice A1 m.tables.length c1)) (put2_bel (b := w.heap.size) (x := (.int .i64 sorts)) (y := (.slice Au rows.length cu)) hbel (by omega)) (by omega)) (by omega))
  clear r0 rf0 r1 rf1 r2 rf2 r3 rf3 r4 rf4 r5 rf5 r6 rf6
  generalize ((((((w2.setCell ⟨w.heap.size, 0, none⟩ (.int .i64 sorts)).setCell ⟨w.heap.size, 1, none⟩ (.slice Au rows.length cu)).setCell ⟨w.heap.size + 1, 0, none⟩ (.slice A0 m.sizes.length c0)).setCell ⟨w.heap.size + 1, 1, none⟩ (.slice A1 m.tables.length c1)).setCell ⟨w.heap.size + 2, 0, none⟩ (.slice B0 e.vars.length dc0)).setCell ⟨w.heap.size + 2, 1, none⟩ (.slice B1 e.left.length dc1)).setCell ⟨w.heap.size + 2, 2, none⟩ (.slice B2 e.right.length dc2) = w9 at d0 d1 d2 HLOW HBEL ⊢
  have k0 := block_cell d0 0
  have k1 := block_cell d0 1
  have k2 := block_cell d1 0
  have k3 := block_cell d1 1
  have k4 := block_cell d2 0
  have k5 := block_cell d2 1
  have k6 := block_cell d2 2
  simp at k0 k1 k2 k3 k4 k5 k6
  refine bodyPost_ret (v := .tuple #[.agg #[.int .i64 sorts, .slice Au rows.length cu], .agg #[.slice A0 m.sizes.length c0, .slice A1 m.tables.length c1], .agg #[.slice B0 e.vars.length dc0, .slice B1 e.left.length dc1, .slice B2 e.right.length dc2]]) (by simp [results, Try.results26, go_sem, k0, k1, k2, k3, k4, k5, k6]) rfl ?_
  exact ⟨_, _, _, ⟨sorts, rows⟩, m, e, rfl, OSig.base (B := w1.heap.size) ⟨_, rfl, ho.same (fun k h1 h2 => HLOW.out k (by omega))⟩ (by omega), OModel.base (B := w1.heap.size) (OModel.same (w := w2) ⟨_, _, rfl, o1, C, hC, hub, o2⟩ (fun k h1 h2 => HLOW.out k (by omega))) (by omega), HF.out, OEqD.base (B := w1.heap.size) (OEqD.same (w := w2) ⟨_, _, _, rfl, oe0, oe1, oe2⟩ (fun k h1 h2 => HLOW.out k (by omega))) (by omega), HSE.out, hev, hel, her, HBEL.out⟩

set_option maxHeartbeats 1600000 in
set_option maxRecDepth 100000 in
theorem drawFailsAt_any (v : Value) (bs : List Int) (w : World) (h : RBytes w w.heap.size v bs) :
    Calls Try.prog 19 #[v] w (DrawAskPost w) := by
  obtain ⟨W, hW⟩ : ∃ W : World, W = ((w.alloc (.cells #[.int .i64 0, .slice none 0 0] 25)).alloc (.cells #[.slice none 0 0, .slice none 0 0] 28)).alloc (.cells #[.slice none 0 0, .slice none 0 0, .slice none 0 0] 41) := ⟨_, rfl⟩
  have hb0 : Below w.heap.size w W := by rw [hW]; exact ((below_alloc _ _).alloc (by simp) _).alloc (by simp; omega) _
  have HB0 := Lib.hid hb0
  have HZ0 := Lib.hid (show W.heap.size = w.heap.size + 3 by rw [hW]; simp)
  have HZR0 := Lib.hid (show W.heap[w.heap.size]? = some (.cells #[.int .i64 0, .slice none 0 0] 25 (0, 0)) by rw [hW]; exact (heap_alloc_old ((w.alloc (.cells #[.int .i64 0, .slice none 0 0] 25)).alloc (.cells #[.slice none 0 0, .slice none 0 0] 28)) _ (by simp; omega)).trans ((heap_alloc_old (w.alloc (.cells #[.int .i64 0, .slice none 0 0] 25)) _ (by simp)).trans (heap_alloc_new (w) _)))
  have HZR1 := Lib.hid (show W.heap[w.heap.size + 1]? = some (.cells #[.slice none 0 0, .slice none 0 0] 28 (0, 0)) by rw [hW]; exact (heap_alloc_old ((w.alloc (.cells #[.int .i64 0, .slice none 0 0] 25)).alloc (.cells #[.slice none 0 0, .slice none 0 0] 28)) _ (by simp)).trans ((congrArg (fun i => ((w.alloc (.cells #[.int .i64 0, .slice none 0 0] 25)).alloc (.cells #[.slice none 0 0, .slice none 0 0] 28)).heap[i]?) (by simp)).trans (heap_alloc_new (w.alloc (.cells #[.int .i64 0, .slice none 0 0] 25)) _)))
  have HZR2 := Lib.hid (show W.heap[w.heap.size + 2]? = some (.cells #[.slice none 0 0, .slice none 0 0, .slice none 0 0] 41 (0, 0)) by rw [hW]; exact (congrArg (fun i => (((w.alloc (.cells #[.int .i64 0, .slice none 0 0] 25)).alloc (.cells #[.slice none 0 0, .slice none 0 0] 28)).alloc (.cells #[.slice none 0 0, .slice none 0 0, .slice none 0 0] 41)).heap[i]?) (by simp)).trans (heap_alloc_new ((w.alloc (.cells #[.int .i64 0, .slice none 0 0] 25)).alloc (.cells #[.slice none 0 0, .slice none 0 0] 28)) _))
  have HW := Lib.hid (bytes_alloc h hb0)
  obtain ⟨A, c, rfl, -⟩ := h
  have hW' := hW.symm
  clear hb0 hW
  go_enter Try.func19, Try.ntmps19
  go_wp2_with fail
  clear hW'
  refine (open_any _ bs _ HW.out).mono ?_
  rintro e w1 ⟨rfl, hr1, hb1⟩
  rw [HZ0.out] at hr1
  have HR1 := Lib.hid hr1
  have HB1 := Lib.hid hb1
  rw [HZ0.out]
  have hzW := HZ0.out
  have hz1 := HB1.out.size
  have hlt1 : w.heap.size + 3 < w1.heap.size := HR1.out.lt
  clear hr1 hb1
  go_wp2_with fail
  refine (asked_any (w.heap.size + 3) 0 _ HR1.out (by omega)).mono ?_
  rintro x w2 ⟨sv, mv, ev, ⟨sorts, rows⟩, m, e, q, rfl, ⟨u, rfl, ho⟩, ⟨x, y, rfl, o1, C, hC, hub, o2⟩, hf, ⟨b0, b1, b2, rfl, oe0, oe1, oe2⟩, hse, hev, hel, her, hr2, hq2, hg2⟩
  obtain ⟨us, hu1, -⟩ := id ho
  obtain ⟨Au, cu, rfl, -⟩ := own_reads hu1
  obtain ⟨A0, c0, rfl, -⟩ := own_reads o1
  obtain ⟨us2, hu2, -⟩ := id o2
  obtain ⟨A1, c1, rfl, -⟩ := own_reads hu2
  obtain ⟨B0, dc0, rfl, -⟩ := own_reads oe0
  obtain ⟨B1, dc1, rfl, -⟩ := own_reads oe1
  obtain ⟨B2, dc2, rfl, -⟩ := own_reads oe2
  have HF := Lib.hid hf
  have HSE := Lib.hid hse
  have hra := gr_at hg2 (by omega) ((HB1.out.block _ (by omega)).trans HZR0.out)
  have hrb := gr_at hg2 (by omega) ((HB1.out.block _ (by omega)).trans HZR1.out)
  have hrc := gr_at hg2 (by omega) ((HB1.out.block _ (by omega)).trans HZR2.out)
  have r0 := block_cell hra 0
  have rf0 := block_free hra 0
  have r1 := block_cell hra 1
  have rf1 := block_free hra 1
  have r2 := block_cell hrb 0
  have rf2 := block_free hrb 0
  have r3 := block_cell hrb 1
  have rf3 := block_free hrb 1
  have r4 := block_cell hrc 0
  have rf4 := block_free hrc 0
  have r5 := block_cell hrc 1
  have rf5 := block_free hrc 1
  have r6 := block_cell hrc 2
  have rf6 := block_free hrc 2
  simp at r0 r1 r2 r3 r4 r5 r6
  have hbel : Below w.heap.size w w2 := (HB0.out.trans (HB1.out.mono (by omega))).trans (below_of_gr' hg2 (by omega) (by omega))
  clear hf hse
  go_wp2
  have d0 := ((put3_other (x := (.slice B0 e.vars.length dc0)) (y := (.slice B1 e.left.length dc1)) (z := (.slice B2 e.right.length dc2)) (show w.heap.size ≠ w.heap.size + 2 by omega)).trans ((put2_other (x := (.slice A0 m.sizes.length c0)) (y := (.slice A1 m.tables.length c1)) (show w.heap.size ≠ w.heap.size + 1 by omega)).trans (put2_at (x := (.int .i64 sorts)) (y := (.slice Au rows.length cu)) hra)))
  have d1 := ((put3_other (x := (.slice B0 e.vars.length dc0)) (y := (.slice B1 e.left.length dc1)) (z := (.slice B2 e.right.length dc2)) (show w.heap.size + 1 ≠ w.heap.size + 2 by omega)).trans (put2_at (x := (.slice A0 m.sizes.length c0)) (y := (.slice A1 m.tables.length c1)) ((put2_other (x := (.int .i64 sorts)) (y := (.slice Au rows.length cu)) (show w.heap.size + 1 ≠ w.heap.size by omega)).trans hrb)))
  have d2 := (put3_at (x := (.slice B0 e.vars.length dc0)) (y := (.slice B1 e.left.length dc1)) (z := (.slice B2 e.right.length dc2)) ((put2_other (x := (.slice A0 m.sizes.length c0)) (y := (.slice A1 m.tables.length c1)) (show w.heap.size + 2 ≠ w.heap.size + 1 by omega)).trans ((put2_other (x := (.int .i64 sorts)) (y := (.slice Au rows.length cu)) (show w.heap.size + 2 ≠ w.heap.size by omega)).trans hrc)))
  have HLOW := Lib.hid (fun (k : Nat) (hk : w.heap.size + 3 ≤ k) => ((put3_other (x := (.slice B0 e.vars.length dc0)) (y := (.slice B1 e.left.length dc1)) (z := (.slice B2 e.right.length dc2)) (show k ≠ w.heap.size + 2 by omega)).trans ((put2_other (x := (.slice A0 m.sizes.length c0)) (y := (.slice A1 m.tables.length c1)) (show k ≠ w.heap.size + 1 by omega)).trans (put2_other (wz := w2) (x := (.int .i64 sorts)) (y := (.slice Au rows.length cu)) (show k ≠ w.heap.size by omega)))))
  have HBEL := Lib.hid (put3_bel (b := w.heap.size + 2) (x := (.slice B0 e.vars.length dc0)) (y := (.slice B1 e.left.length dc1)) (z := (.slice B2 e.right.length dc2)) (put2_bel (b := w.heap.size + 1) (x := (.slice A0 m.sizes.length c0)) (y := (.slice A1 m.tables.length c1)) (put2_bel (b := w.heap.size) (x := (.int .i64 sorts)) (y := (.slice Au rows.length cu)) hbel (by omega)) (by omega)) (by omega))
  clear r0 rf0 r1 rf1 r2 rf2 r3 rf3 r4 rf4 r5 rf5 r6 rf6
  generalize ((((((w2.setCell ⟨w.heap.size, 0, none⟩ (.int .i64 sorts)).setCell ⟨w.heap.size, 1, none⟩ (.slice Au rows.length cu)).setCell ⟨w.heap.size + 1, 0, none⟩ (.slice A0 m.sizes.length c0)).setCell ⟨w.heap.size + 1, 1, none⟩ (.slice A1 m.tables.length c1)).setCell ⟨w.heap.size + 2, 0, none⟩ (.slice B0 e.vars.length dc0)).setCell ⟨w.heap.size + 2, 1, none⟩ (.slice B1 e.left.length dc1)).setCell ⟨w.heap.size + 2, 2, none⟩ (.slice B2 e.right.length dc2) = w9 at d0 d1 d2 HLOW HBEL ⊢
  have k0 := block_cell d0 0
  have k1 := block_cell d0 1
  have k2 := block_cell d1 0
  have k3 := block_cell d1 1
  have k4 := block_cell d2 0
  have k5 := block_cell d2 1
  have k6 := block_cell d2 2
  simp at k0 k1 k2 k3 k4 k5 k6
  refine bodyPost_ret (v := .tuple #[.agg #[.int .i64 sorts, .slice Au rows.length cu], .agg #[.slice A0 m.sizes.length c0, .slice A1 m.tables.length c1], .agg #[.slice B0 e.vars.length dc0, .slice B1 e.left.length dc1, .slice B2 e.right.length dc2]]) (by simp [results, Try.results19, go_sem, k0, k1, k2, k3, k4, k5, k6]) rfl ?_
  exact ⟨_, _, _, ⟨sorts, rows⟩, m, e, rfl, OSig.base (B := w1.heap.size) ⟨_, rfl, ho.same (fun k h1 h2 => HLOW.out k (by omega))⟩ (by omega), OModel.base (B := w1.heap.size) (OModel.same (w := w2) ⟨_, _, rfl, o1, C, hC, hub, o2⟩ (fun k h1 h2 => HLOW.out k (by omega))) (by omega), HF.out, OEqD.base (B := w1.heap.size) (OEqD.same (w := w2) ⟨_, _, _, rfl, oe0, oe1, oe2⟩ (fun k h1 h2 => HLOW.out k (by omega))) (by omega), HSE.out, hev, hel, her, HBEL.out⟩
end

section
open Go.RowKit
set_option linter.unusedVariables false
set_option linter.unusedSimpArgs false

theorem fails_no1 {s : MSig} {m : MModel} {e : MEq} (h : eqOkB s e = false) : failsM s m e = ([], false) := by unfold failsM; rw [h]; rfl
theorem fails_no2 {s : MSig} {m : MModel} {e : MEq} (h : modelB s m = false) : failsM s m e = ([], false) := by unfold failsM; rw [h, Bool.and_false]; rfl
/-- both sides of an equation that is ok are terms -/
theorem eq_terms {s : MSig} {e : MEq} (h : eqOkB s e = true) : varsB s e.vars = true ∧ ∃ l r : Tm, termM s e.vars e.left = some l ∧ termM s e.vars e.right = some r ∧ wfT s e.vars l ∧ wfT s e.vars r ∧ l.row = e.left ∧ r.row = e.right ∧ e.left.length ≤ 30 ∧ e.right.length ≤ 30 := by
  unfold eqOkB at h
  simp only [Bool.and_eq_true, decide_eq_true_eq] at h
  obtain ⟨h1, h2⟩ := h
  have hr : 0 ≤ sortM s e.vars e.right := by rw [h2]; exact h1
  have f : ∀ {t : List Int}, 0 ≤ sortM s e.vars t → ∃ tm, termM s e.vars t = some tm := fun {t} h => by
    unfold sortM at h
    cases ht : termM s e.vars t with
    | none => rw [ht] at h; simp at h
    | some tm => exact ⟨tm, rfl⟩
  obtain ⟨l, hl⟩ := f h1
  obtain ⟨r, hr⟩ := f hr
  obtain ⟨a1, a2, a3, a4⟩ := termM_to hl
  obtain ⟨b1, b2, b3, b4⟩ := termM_to hr
  exact ⟨a1, l, r, hl, hr, a3, b3, a4, b4, a2, b2⟩
theorem fails_yes {s : MSig} {m : MModel} {e : MEq} {l r : Tm} (h1 : eqOkB s e = true) (h2 : modelB s m = true) (hl : termM s e.vars e.left = some l) (hr : termM s e.vars e.right = some r) :
    failsM s m e = match failRow m (ledM m.sizes e.vars) l r with
      | some row => (row, true)
      | none => ([], false) := by
  unfold failsM; rw [h1, h2, hl, hr]; rfl
/-- n rounds have found nothing -/
def NoFail (m : MModel) (zs : List Int) (l r : Tm) (n : Nat) : Prop := n ≤ (waysM zs).toNat ∧ failRow m zs l r = failFrom m zs l r ((waysM zs).toNat - n) n
theorem noFail_zero (m : MModel) (zs : List Int) (l r : Tm) : NoFail m zs l r 0 := ⟨Nat.zero_le _, rfl⟩
theorem NoFail.step {m : MModel} {zs : List Int} {l r : Tm} {n : Nat} (h : NoFail m zs l r n) (hn : n < (waysM zs).toNat) (hf : valT m (digM zs n) l = valT m (digM zs n) r) : NoFail m zs l r (n + 1) := by
  refine ⟨hn, h.2.trans ?_⟩
  obtain ⟨f, hfe⟩ : ∃ f, (waysM zs).toNat - n = f + 1 := ⟨(waysM zs).toNat - n - 1, by omega⟩
  rw [hfe, failFrom_step (by unfold failAt; simp [hf]), show (waysM zs).toNat - (n + 1) = f by omega]
theorem NoFail.hit {m : MModel} {zs : List Int} {l r : Tm} {n : Nat} (h : NoFail m zs l r n) (hn : n < (waysM zs).toNat) (hf : ¬ valT m (digM zs n) l = valT m (digM zs n) r) : failRow m zs l r = some (digM zs n) := by
  refine h.2.trans ?_
  obtain ⟨f, hfe⟩ : ∃ f, (waysM zs).toNat - n = f + 1 := ⟨(waysM zs).toNat - n - 1, by omega⟩
  rw [hfe, failFrom_hit (by unfold failAt; simp [hf])]
theorem NoFail.none {m : MModel} {zs : List Int} {l r : Tm} {n : Nat} (h : NoFail m zs l r n) (hn : n = (waysM zs).toNat) : failRow m zs l r = none := by
  refine h.2.trans ?_
  rw [hn, Nat.sub_self]
  rfl
theorem fails_len (s : MSig) (m : MModel) (e : MEq) : (failsM s m e).1.length ≤ 4 := by
  cases h1 : eqOkB s e with
  | false => rw [fails_no1 h1]; simp
  | true =>
    cases h2 : modelB s m with
    | false => rw [fails_no2 h2]; simp
    | true =>
      obtain ⟨hv, l, r, hl, hr, -⟩ := eq_terms h1
      rw [fails_yes h1 h2 hl hr]
      have hv4 := (vars_valid hv).2.1
      have : ∀ (f n : Nat) (row : List Int), failFrom m (ledM m.sizes e.vars) l r f n = some row → row.length ≤ 4 := by
        intro f
        induction f with
        | zero => intro n row h; simp [failFrom] at h
        | succ f ih =>
          intro n row h
          simp only [failFrom] at h
          split at h
          · injection h with h
            rw [← h, digM_len, ledM_len]
            exact hv4
          · exact ih _ _ h
      cases hf : failRow m (ledM m.sizes e.vars) l r with
      | none => simp
      | some row => exact this _ _ _ hf
end

section
open Go.RowKit
set_option linter.unusedVariables false
set_option linter.unusedSimpArgs false

theorem valOkAt_eq {m : MModel} {vars vals : List Int} {k : Nat} (hk : k < vars.length) (hk' : k < vals.length) : valOkAt m vars vals k = inSize (m.sizes.getD (vars[k]).toNat 0) vals[k] := by
  unfold valOkAt inSize; rw [getD_at _ hk', getD_at _ hk]

set_option maxHeartbeats 1600000 in
set_option maxRecDepth 100000 in
theorem valuesOk_any (s : MSig) (m : MModel) (vars vals : List Int) (w : World) (v v' v2 v3 : Value) (h1 : RSig w v s) (h2 : RModel w v' m) (h3 : RInts w v2 vars) (h4 : RInts w v3 vals) :
    Calls Try.prog 16 #[v, v', v2, v3] w fun e w' => e = .returned (.bool (valsB s m vars vals)) ∧ Below w.heap.size w w' := by
  obtain ⟨Asa, csa, rfl⟩ := h1.form
  obtain ⟨Ama, cma, Amb, cmb, rfl⟩ := h2.form
  have hb : Below w.heap.size w ((w.alloc (.cells #[.int .i64 s.sorts, .slice Asa s.ops.length csa] 25)).alloc (.cells #[.slice Ama m.sizes.length cma, .slice Amb m.tables.length cmb] 28)) := (below_alloc _ _).alloc (by simp) _
  have HB := Lib.hid hb
  have hsz : ((w.alloc (.cells #[.int .i64 s.sorts, .slice Asa s.ops.length csa] 25)).alloc (.cells #[.slice Ama m.sizes.length cma, .slice Amb m.tables.length cmb] 28)).heap.size = w.heap.size + 2 := by simp
  have Hs := Lib.hid (h1.keep hb)
  have s0 := cell_keep (below_alloc (w.alloc (.cells #[.int .i64 s.sorts, .slice Asa s.ops.length csa] 25)) (.cells #[.slice Ama m.sizes.length cma, .slice Amb m.tables.length cmb] 28)) (bx_at (w) #[.int .i64 s.sorts, .slice Asa s.ops.length csa] 25 (k := 0) rfl)
  have s1 := cell_keep (below_alloc (w.alloc (.cells #[.int .i64 s.sorts, .slice Asa s.ops.length csa] 25)) (.cells #[.slice Ama m.sizes.length cma, .slice Amb m.tables.length cmb] 28)) (bx_at (w) #[.int .i64 s.sorts, .slice Asa s.ops.length csa] 25 (k := 1) rfl)
  have Hm := Lib.hid (h2.keep hb)
  have m0 := bx_at (w.alloc (.cells #[.int .i64 s.sorts, .slice Asa s.ops.length csa] 25)) #[.slice Ama m.sizes.length cma, .slice Amb m.tables.length cmb] 28 (k := 0) rfl
  have m1 := bx_at (w.alloc (.cells #[.int .i64 s.sorts, .slice Asa s.ops.length csa] 25)) #[.slice Ama m.sizes.length cma, .slice Amb m.tables.length cmb] 28 (k := 1) rfl
  simp only [World.size_alloc] at m0 m1
  generalize hW : (w.alloc (.cells #[.int .i64 s.sorts, .slice Asa s.ops.length csa] 25)).alloc (.cells #[.slice Ama m.sizes.length cma, .slice Amb m.tables.length cmb] 28) = W at HB hsz Hs s0 s1 Hm m0 m1
  clear hb h1 h2
  have H3 := Lib.hid (h3.keep HB.out)
  have H4 := Lib.hid (h4.keep HB.out)
  have hl3 := h3.len
  have hl4 := h4.len
  obtain ⟨A3, d3, rfl, -⟩ := h3.form
  obtain ⟨A4, d4, rfl, -⟩ := h4.form
  clear h3 h4
  cases hv : varsB s vars with
  | false =>
    have HV := Lib.hid hv
    have HE := Lib.hid (vals_no1 (m := m) (vals := vals) hv)
    clear hv
    go_enter Try.func16, Try.ntmps16
    go_wp2_with fail
    clear hW
    refine (varsOk_any _ _ s vars _ Hs.out H3.out).mono ?_
    rw [HV.out]
    rintro e w1 ⟨rfl, hb⟩
    replace HB := Lib.hid (sz_keep HB.out hb)
    replace s0 := cell_keep hb s0
    replace s1 := cell_keep hb s1
    replace m0 := cell_keep hb m0
    replace m1 := cell_keep hb m1
    replace Hs := Lib.hid (Hs.out.keep hb)
    replace Hm := Lib.hid (Hm.out.keep hb)
    clear hb
    go_wp2
    go_ret
    exact ⟨ret_bool HE.out.symm, HB.out⟩
  | true =>
    have HV := Lib.hid hv
    have HVF := Lib.hid (vars_valid hv).2.2
    clear hv
    cases hm : modelB s m with
    | false =>
      have HM := Lib.hid hm
      have HE := Lib.hid (vals_no2 (vars := vars) (vals := vals) hm)
      clear hm
      go_enter Try.func16, Try.ntmps16
      go_wp2_with fail
      clear hW
      refine (varsOk_any _ _ s vars _ Hs.out H3.out).mono ?_
      rw [HV.out]
      rintro e w1 ⟨rfl, hb⟩
      replace HB := Lib.hid (sz_keep HB.out hb)
      replace s0 := cell_keep hb s0
      replace s1 := cell_keep hb s1
      replace m0 := cell_keep hb m0
      replace m1 := cell_keep hb m1
      replace Hs := Lib.hid (Hs.out.keep hb)
      replace Hm := Lib.hid (Hm.out.keep hb)
      clear hb
      go_wp2_with fail
      refine (modelOk_any s m _ _ _ Hs.out Hm.out).mono ?_
      rw [HM.out]
      rintro e w2 ⟨rfl, hb⟩
      replace HB := Lib.hid (sz_keep HB.out hb)
      replace s0 := cell_keep hb s0
      replace s1 := cell_keep hb s1
      replace m0 := cell_keep hb m0
      replace m1 := cell_keep hb m1
      replace Hs := Lib.hid (Hs.out.keep hb)
      replace Hm := Lib.hid (Hm.out.keep hb)
      clear hb
      go_wp2
      go_ret
      exact ⟨ret_bool HE.out.symm, HB.out⟩
    | true =>
      have HM := Lib.hid hm
      have HMF := Lib.hid (model_facts hm)
      clear hm
      by_cases hl : vals.length = vars.length
      · have e1 : ((vals.length : Int) != (vars.length : Int)) = false := by simp [hl]
        have HL := Lib.hid hl
        have hle : vals.length ≤ vars.length := by omega
        clear hl
        go_enter Try.func16, Try.ntmps16
        go_wp2_with fail
        clear hW
        refine (varsOk_any _ _ s vars _ Hs.out H3.out).mono ?_
        rw [HV.out]
        rintro e w1 ⟨rfl, hb⟩
        replace HB := Lib.hid (sz_keep HB.out hb)
        replace s0 := cell_keep hb s0
        replace s1 := cell_keep hb s1
        replace m0 := cell_keep hb m0
        replace m1 := cell_keep hb m1
        replace Hs := Lib.hid (Hs.out.keep hb)
        replace Hm := Lib.hid (Hm.out.keep hb)
        replace H3 := Lib.hid (H3.out.keep hb)
        replace H4 := Lib.hid (H4.out.keep hb)
        clear hb
        go_wp2_with fail
        refine (modelOk_any s m _ _ _ Hs.out Hm.out).mono ?_
        rw [HM.out]
        rintro e w2 ⟨rfl, hb⟩
        replace HB := Lib.hid (sz_keep HB.out hb)
        replace s0 := cell_keep hb s0
        replace s1 := cell_keep hb s1
        replace m0 := cell_keep hb m0
        replace m1 := cell_keep hb m1
        replace Hs := Lib.hid (Hs.out.keep hb)
        replace Hm := Lib.hid (Hm.out.keep hb)
        replace H3 := Lib.hid (H3.out.keep hb)
        replace H4 := Lib.hid (H4.out.keep hb)
        clear hb
        have HC := Lib.hid (And.intro m0 m1)
        go_wp2
        clear s0 s1 m0 m1
        go_loopw [9, 10, 30] (fun _ _ i wr => ∃ k : Nat, k ≤ vals.length ∧ i = .int .i64 k ∧ allVal m vars vals k = true ∧ Below w2.heap.size w2 wr) (fun _ _ i _ => vals.length - (intOf i).toNat)
        case atStart => exact ⟨0, Nat.zero_le _, rfl, allVal_zero _ _ _, Below.refl _ _⟩
        case round =>
          obtain ⟨k, hk, rfl, hal, hd⟩ := hrel
          have HAL := Lib.hid hal
          have HD := Lib.hid hd
          have f0 := cell_keep hd HC.out.1
          have f1 := cell_keep hd HC.out.2
          clear hal hd
          by_cases hlt : k < vals.length
          · have hlt' : (k : Int) < (vals.length : Int) := by omega
            have hkv : k < vars.length := by omega
            have hkv' : (k : Int) < (vars.length : Int) := by omega
            obtain ⟨b7, o7, c7, e, hx⟩ := (H4.out.keep HD.out).at_ hlt
            cases e
            obtain ⟨b8, o8, c8, e, hy⟩ := (H3.out.keep HD.out).at_ hkv
            cases e
            have hin := HVF.out k hkv
            have hms : vars[k] < (m.sizes.length : Int) := by have := HMF.out.sl; omega
            have HSUC := Lib.hid (allVal_succ m vars vals k)
            have HAT := Lib.hid (valOkAt_eq (m := m) hkv hlt)
            have HBAD := Lib.hid (fun h => vals_no4 (s := s) (m := m) (vars := vars) hlt h)
            generalize vars[k] = x at hy hin hms HAT
            generalize vals[k] = y at hx HAT
            obtain ⟨r, hr⟩ : ∃ r, inSize (m.sizes.getD x.toNat 0) y = r := ⟨_, rfl⟩
            have HR := Lib.hid hr
            have hx0 := hin.1
            clear hr hin
            go_wp2_with fail
            refine wp_region_held_drew (S := (fun w' => w'.cell? ⟨w.heap.size + 1, 0, none⟩ = some (.slice Ama m.sizes.length cma) ∧ w'.cell? ⟨w.heap.size + 1, 1, none⟩ = some (.slice Amb m.tables.length cmb) ∧ w'.cell? ⟨b8, o8 + k, none⟩ = some (.int .i64 x))) (by kernel_rfl) ?_ (fun hHeld => ?_)
            · exact ⟨f0, f1, hy⟩
            refine wpAnyH_take (i := 0) (oi := _) (v := ?_) rfl (by kernel_rfl) (by kernel_rfl) (by kernel_rfl) (fun _ _ _ h => h) (Or.inl ⟨by rfl, ?_⟩) (by assumption) ?_
            rotate_left
            · first | (intro w' hSw; (try dsimp only at hSw); go_simp; done) | (intro w' hSw; (try dsimp only at hSw); go_simp; with_reducible rfl)
            try simp only [Act.put, List.getElem_toArray, List.getElem_cons_zero, List.getElem_cons_succ, List.setIfInBounds_toArray, List.set_cons_zero, List.set_cons_succ]
            refine wpAnyH_take (i := 1) (oi := _) (v := ?_) rfl (by kernel_rfl) (by kernel_rfl) (by kernel_rfl) (fun _ _ _ h => h) (Or.inl ⟨by rfl, ?_⟩) (by assumption) ?_
            rotate_left
            · first | (intro w' hSw; (try dsimp only at hSw); go_simp; done) | (intro w' hSw; (try dsimp only at hSw); go_simp; with_reducible rfl)
            try simp only [Act.put, List.getElem_toArray, List.getElem_cons_zero, List.getElem_cons_succ, List.setIfInBounds_toArray, List.set_cons_zero, List.set_cons_succ]
            refine wpAnyH_take (i := 2) (oi := _) (v := ?_) rfl (by kernel_rfl) (by kernel_rfl) (by kernel_rfl) (fun _ _ _ h => h) (Or.inl ⟨by rfl, ?_⟩) (by assumption) ?_
            rotate_left
            · first | (intro w' hSw; (try dsimp only at hSw); go_simp; done) | (intro w' hSw; (try dsimp only at hSw); go_simp; with_reducible rfl)
            try simp only [Act.put, List.getElem_toArray, List.getElem_cons_zero, List.getElem_cons_succ, List.setIfInBounds_toArray, List.set_cons_zero, List.set_cons_succ]
            refine wpAnyH_take (i := 3) (oi := _) (v := ?_) rfl (by kernel_rfl) (by kernel_rfl) (by kernel_rfl) (fun _ _ _ h => h) (Or.inl ⟨by rfl, ?_⟩) (by assumption) ?_
            rotate_left
            · first | (intro w' hSw; (try dsimp only at hSw); go_simp; done) | (intro w' hSw; (try dsimp only at hSw); go_simp; with_reducible rfl)
            try simp only [Act.put, List.getElem_toArray, List.getElem_cons_zero, List.getElem_cons_succ, List.setIfInBounds_toArray, List.set_cons_zero, List.set_cons_succ]
            refine wpAnyH_take (i := 4) (oi := _) (v := ?_) rfl (by kernel_rfl) (by kernel_rfl) (by kernel_rfl) (fun _ _ _ h => h) (Or.inl ⟨by rfl, ?_⟩) (by assumption) ?_
            rotate_left
            · first | (intro w' hSw; (try dsimp only at hSw); go_simp; done) | (intro w' hSw; (try dsimp only at hSw); go_simp; with_reducible rfl)
            try simp only [Act.put, List.getElem_toArray, List.getElem_cons_zero, List.getElem_cons_succ, List.setIfInBounds_toArray, List.set_cons_zero, List.set_cons_succ]
            refine wpAnyH_take (i := 5) (oi := _) (v := ?_) rfl (by kernel_rfl) (by kernel_rfl) (by kernel_rfl) (fun _ _ _ h => h) (Or.inl ⟨by rfl, ?_⟩) (by assumption) ?_
            rotate_left
            · first | (intro w' hSw; (try dsimp only at hSw); go_simp; done) | (intro w' hSw; (try dsimp only at hSw); go_simp; with_reducible rfl)
            try simp only [Act.put, List.getElem_toArray, List.getElem_cons_zero, List.getElem_cons_succ, List.setIfInBounds_toArray, List.set_cons_zero, List.set_cons_succ]
            refine wpAnyH_ready (rs := [6]) (by kernel_rfl) (by simp) ?_
            refine AllReadyH.cons (o := _) rfl (fun K hK => ?_) AllReadyH.nil
            go_simp
            refine (isValue_any m x y _ _ ((Hm.out.keep HD.out).keep (map_drew (Below.refl _ _))) hx0 hms).mono ?_
            rw [HR.out]
            rintro x w6 ⟨rfl, hb6⟩
            have hx6 := map_undrew hb6
            have HX6 := Lib.hid (sz_keep HD.out hx6)
            have j1 := cell_keep hx6 f0
            have j2 := cell_keep hx6 f1
            have j3 := cell_keep hx6 hy
            clear hb6 hx6
            go_wp2_with fail
            refine hK.out _ _ ?_ (fun hHeld => ?_)
            · exact ⟨j1, j2, j3⟩
            clear hK K
            try simp only [Act.put, List.getElem_toArray, List.getElem_cons_zero, List.getElem_cons_succ, List.setIfInBounds_toArray, List.set_cons_zero, List.set_cons_succ]
            refine wpAnyH_take (i := 7) (oi := _) (v := ?_) rfl (by kernel_rfl) (by kernel_rfl) (by kernel_rfl) (fun _ _ _ h => h) (Or.inl ⟨by rfl, ?_⟩) (by assumption) ?_
            rotate_left
            · first | (intro w' hSw; (try dsimp only at hSw); go_simp; done) | (intro w' hSw; (try dsimp only at hSw); go_simp; with_reducible rfl)
            try simp only [Act.put, List.getElem_toArray, List.getElem_cons_zero, List.getElem_cons_succ, List.setIfInBounds_toArray, List.set_cons_zero, List.set_cons_succ]
            refine wpAnyH_done (by kernel_rfl) ?_ _
            clear f0 f1 j1 j2 j3 hx hy
            cases r with
            | true =>
              go_wp2
              go_roundw
              case rel => exact ⟨k + 1, by omega, by go_num, by rw [HSUC.out, HAL.out, HAT.out, HR.out]; rfl, HX6.out⟩
              case measure => simp [intOf]; omega
            | false =>
              have HF := Lib.hid (HBAD.out (HAT.out.trans HR.out))
              go_wp2
              go_ret
              exact ⟨ret_bool HF.out.symm, sz_keep HB.out HX6.out⟩
          · have hkn : k = vals.length := by omega
            have hlt' : ¬ (k : Int) < (vals.length : Int) := by omega
            have HE := Lib.hid (vals_yes HV.out HM.out HL.out (by rw [← hkn]; exact HAL.out))
            clear f0 f1
            go_wp2
            go_ret
            exact ⟨ret_bool HE.out.symm, sz_keep HB.out HD.out⟩
      · have e1 : ((vals.length : Int) != (vars.length : Int)) = true := by simp; omega
        have HE := Lib.hid (vals_no3 (s := s) (m := m) hl)
        clear hl
        go_enter Try.func16, Try.ntmps16
        go_wp2_with fail
        clear hW
        refine (varsOk_any _ _ s vars _ Hs.out H3.out).mono ?_
        rw [HV.out]
        rintro e w1 ⟨rfl, hb⟩
        replace HB := Lib.hid (sz_keep HB.out hb)
        replace s0 := cell_keep hb s0
        replace s1 := cell_keep hb s1
        replace m0 := cell_keep hb m0
        replace m1 := cell_keep hb m1
        replace Hs := Lib.hid (Hs.out.keep hb)
        replace Hm := Lib.hid (Hm.out.keep hb)
        clear hb
        go_wp2_with fail
        refine (modelOk_any s m _ _ _ Hs.out Hm.out).mono ?_
        rw [HM.out]
        rintro e w2 ⟨rfl, hb⟩
        replace HB := Lib.hid (sz_keep HB.out hb)
        replace s0 := cell_keep hb s0
        replace s1 := cell_keep hb s1
        replace m0 := cell_keep hb m0
        replace m1 := cell_keep hb m1
        replace Hs := Lib.hid (Hs.out.keep hb)
        replace Hm := Lib.hid (Hm.out.keep hb)
        clear hb
        go_wp2
        go_ret
        exact ⟨ret_bool HE.out.symm, HB.out⟩

set_option maxHeartbeats 1600000 in
set_option maxRecDepth 100000 in
theorem specValuesOk_any (s : MSig) (m : MModel) (vars vals : List Int) (w : World) (v v' v2 v3 : Value) (h1 : RSig w v s) (h2 : RModel w v' m) (h3 : RInts w v2 vars) (h4 : RInts w v3 vals) :
    Calls Try.prog 17 #[v, v', v2, v3] w fun e w' => e = .returned (.bool (valsB s m vars vals)) ∧ Below w.heap.size w w' := by
  obtain ⟨Asa, csa, rfl⟩ := h1.form
  obtain ⟨Ama, cma, Amb, cmb, rfl⟩ := h2.form
  have hb : Below w.heap.size w ((w.alloc (.cells #[.int .i64 s.sorts, .slice Asa s.ops.length csa] 25)).alloc (.cells #[.slice Ama m.sizes.length cma, .slice Amb m.tables.length cmb] 28)) := (below_alloc _ _).alloc (by simp) _
  have HB := Lib.hid hb
  have hsz : ((w.alloc (.cells #[.int .i64 s.sorts, .slice Asa s.ops.length csa] 25)).alloc (.cells #[.slice Ama m.sizes.length cma, .slice Amb m.tables.length cmb] 28)).heap.size = w.heap.size + 2 := by simp
  have Hs := Lib.hid (h1.keep hb)
  have s0 := cell_keep (below_alloc (w.alloc (.cells #[.int .i64 s.sorts, .slice Asa s.ops.length csa] 25)) (.cells #[.slice Ama m.sizes.length cma, .slice Amb m.tables.length cmb] 28)) (bx_at (w) #[.int .i64 s.sorts, .slice Asa s.ops.length csa] 25 (k := 0) rfl)
  have s1 := cell_keep (below_alloc (w.alloc (.cells #[.int .i64 s.sorts, .slice Asa s.ops.length csa] 25)) (.cells #[.slice Ama m.sizes.length cma, .slice Amb m.tables.length cmb] 28)) (bx_at (w) #[.int .i64 s.sorts, .slice Asa s.ops.length csa] 25 (k := 1) rfl)
  have Hm := Lib.hid (h2.keep hb)
  have m0 := bx_at (w.alloc (.cells #[.int .i64 s.sorts, .slice Asa s.ops.length csa] 25)) #[.slice Ama m.sizes.length cma, .slice Amb m.tables.length cmb] 28 (k := 0) rfl
  have m1 := bx_at (w.alloc (.cells #[.int .i64 s.sorts, .slice Asa s.ops.length csa] 25)) #[.slice Ama m.sizes.length cma, .slice Amb m.tables.length cmb] 28 (k := 1) rfl
  simp only [World.size_alloc] at m0 m1
  generalize hW : (w.alloc (.cells #[.int .i64 s.sorts, .slice Asa s.ops.length csa] 25)).alloc (.cells #[.slice Ama m.sizes.length cma, .slice Amb m.tables.length cmb] 28) = W at HB hsz Hs s0 s1 Hm m0 m1
  clear hb h1 h2
  have H3 := Lib.hid (h3.keep HB.out)
  have H4 := Lib.hid (h4.keep HB.out)
  have hl3 := h3.len
  have hl4 := h4.len
  have hlm := Hm.out.of.1.len
  obtain ⟨A3, d3, rfl, -⟩ := h3.form
  obtain ⟨A4, d4, rfl, -⟩ := h4.form
  clear h3 h4
  cases hm : modelB s m with
  | false =>
    have HM := Lib.hid hm
    have HE := Lib.hid (vals_no2 (vars := vars) (vals := vals) hm)
    clear hm
    go_enter Try.func17, Try.ntmps17
    go_wp2_with fail
    clear hW
    refine (specModelOk_any s m _ _ _ Hs.out Hm.out).mono ?_
    rw [HM.out]
    rintro e w2 ⟨rfl, hb⟩
    replace HB := Lib.hid (sz_keep HB.out hb)
    replace s0 := cell_keep hb s0
    replace s1 := cell_keep hb s1
    replace m0 := cell_keep hb m0
    replace m1 := cell_keep hb m1
    replace Hs := Lib.hid (Hs.out.keep hb)
    replace Hm := Lib.hid (Hm.out.keep hb)
    clear hb
    go_wp2
    go_ret
    exact ⟨ret_bool HE.out.symm, HB.out⟩
  | true =>
    have HM := Lib.hid hm
    have HMF := Lib.hid (model_facts hm)
    clear hm
    cases hv : varsB s vars with
    | false =>
      have HV := Lib.hid hv
      have HE := Lib.hid (vals_no1 (m := m) (vals := vals) hv)
      clear hv
      go_enter Try.func17, Try.ntmps17
      go_wp2_with fail
      clear hW
      refine (specModelOk_any s m _ _ _ Hs.out Hm.out).mono ?_
      rw [HM.out]
      rintro e w1 ⟨rfl, hb⟩
      replace HB := Lib.hid (sz_keep HB.out hb)
      replace s0 := cell_keep hb s0
      replace s1 := cell_keep hb s1
      replace m0 := cell_keep hb m0
      replace m1 := cell_keep hb m1
      replace Hs := Lib.hid (Hs.out.keep hb)
      replace Hm := Lib.hid (Hm.out.keep hb)
      replace H3 := Lib.hid (H3.out.keep hb)
      clear hb
      go_wp2_with fail
      refine (specVarsOk_any _ _ s vars _ Hs.out H3.out).mono ?_
      rw [HV.out]
      rintro e w2 ⟨rfl, hb⟩
      replace HB := Lib.hid (sz_keep HB.out hb)
      replace s0 := cell_keep hb s0
      replace s1 := cell_keep hb s1
      replace m0 := cell_keep hb m0
      replace m1 := cell_keep hb m1
      replace Hs := Lib.hid (Hs.out.keep hb)
      replace Hm := Lib.hid (Hm.out.keep hb)
      clear hb
      go_wp2
      go_ret
      exact ⟨ret_bool HE.out.symm, HB.out⟩
    | true =>
      have HV := Lib.hid hv
      have HVF := Lib.hid (vars_valid hv).2.2
      clear hv
      by_cases hl : vals.length = vars.length
      · have e1 : ((vals.length : Int) != (vars.length : Int)) = false := by simp [hl]
        have HL := Lib.hid hl
        have hle : vals.length ≤ vars.length := by omega
        clear hl
        go_enter Try.func17, Try.ntmps17
        go_wp2_with fail
        clear hW
        refine (specModelOk_any s m _ _ _ Hs.out Hm.out).mono ?_
        rw [HM.out]
        rintro e w1 ⟨rfl, hb⟩
        replace HB := Lib.hid (sz_keep HB.out hb)
        replace s0 := cell_keep hb s0
        replace s1 := cell_keep hb s1
        replace m0 := cell_keep hb m0
        replace m1 := cell_keep hb m1
        replace Hs := Lib.hid (Hs.out.keep hb)
        replace Hm := Lib.hid (Hm.out.keep hb)
        replace H3 := Lib.hid (H3.out.keep hb)
        replace H4 := Lib.hid (H4.out.keep hb)
        clear hb
        go_wp2_with fail
        refine (specVarsOk_any _ _ s vars _ Hs.out H3.out).mono ?_
        rw [HV.out]
        rintro e w2 ⟨rfl, hb⟩
        replace HB := Lib.hid (sz_keep HB.out hb)
        replace s0 := cell_keep hb s0
        replace s1 := cell_keep hb s1
        replace m0 := cell_keep hb m0
        replace m1 := cell_keep hb m1
        replace Hs := Lib.hid (Hs.out.keep hb)
        replace Hm := Lib.hid (Hm.out.keep hb)
        replace H3 := Lib.hid (H3.out.keep hb)
        replace H4 := Lib.hid (H4.out.keep hb)
        clear hb
        have HC := Lib.hid (And.intro m0 m1)
        go_wp2
        clear s0 s1 m0 m1
        go_loopw [9] (fun i wr => ∃ k : Nat, k ≤ vals.length ∧ i = .int .i64 k ∧ allVal m vars vals k = true ∧ Below w2.heap.size w2 wr) (fun i _ => vals.length - (intOf i).toNat)
        case atStart => exact ⟨0, Nat.zero_le _, rfl, allVal_zero _ _ _, Below.refl _ _⟩
        case round =>
          obtain ⟨k, hk, rfl, hal, hd⟩ := hrel
          have HAL := Lib.hid hal
          have HD := Lib.hid hd
          have f0 := cell_keep hd HC.out.1
          clear hal hd
          by_cases hlt : k < vals.length
          · have hlt' : (k : Int) < (vals.length : Int) := by omega
            have hkv : k < vars.length := by omega
            have hkv' : (k : Int) < (vars.length : Int) := by omega
            obtain ⟨b7, o7, c7, e, hx⟩ := (H4.out.keep HD.out).at_ hlt
            cases e
            obtain ⟨b8, o8, c8, e, hy⟩ := (H3.out.keep HD.out).at_ hkv
            cases e
            have hin := HVF.out k hkv
            have hms : vars[k] < (m.sizes.length : Int) := by have := HMF.out.sl; omega
            have HSUC := Lib.hid (allVal_succ m vars vals k)
            have HAT := Lib.hid (valOkAt_eq (m := m) hkv hlt)
            have HBAD := Lib.hid (fun h => vals_no4 (s := s) (m := m) (vars := vars) hlt h)
            generalize vars[k] = x at hy hin hms HAT
            generalize vals[k] = y at hx HAT
            obtain ⟨t, rfl⟩ : ∃ t : Nat, x = (t : Int) := ⟨x.toNat, by omega⟩
            have htm : t < m.sizes.length := by omega
            have htm' : (t : Int) < (m.sizes.length : Int) := by omega
            obtain ⟨b2, o2, c2, e, hz⟩ := (Hm.out.of.1.keep HD.out).at_ htm
            cases e
            have hz13 := HMF.out.sz _ (List.getElem_mem htm)
            replace HAT := Lib.hid (show valOkAt m vars vals k = inSize m.sizes[t] y by rw [HAT.out, Int.toNat_natCast, getD_at _ htm])
            generalize m.sizes[t] = z at hz hz13 HAT
            obtain ⟨r, hr⟩ : ∃ r, inSize z y = r := ⟨_, rfl⟩
            have HR := Lib.hid hr
            have hw2 : IntKind.i64.wrap (z - 1) = z - 1 := by rw [IntKind.wrap_i64]; omega
            clear hr hin hms
            go_wp2_with fail
            refine wp_region_held_drew (S := (fun w' => w'.cell? ⟨w.heap.size + 1, 0, none⟩ = some (.slice (some ⟨b2, o2, none⟩) m.sizes.length cma) ∧ w'.cell? ⟨b8, o8 + k, none⟩ = some (.int .i64 (t : Int)) ∧ w'.cell? ⟨b2, o2 + t, none⟩ = some (.int .i64 z) ∧ w'.cell? ⟨b7, o7 + k, none⟩ = some (.int .i64 y))) (by kernel_rfl) ?_ (fun hHeld => ?_)
            · exact ⟨f0, hy, hz, hx⟩
            refine wpAnyH_take (i := 0) (oi := _) (v := ?_) rfl (by kernel_rfl) (by kernel_rfl) (by kernel_rfl) (fun _ _ _ h => h) (Or.inl ⟨by rfl, ?_⟩) (by assumption) ?_
            rotate_left
            · first | (intro w' hSw; (try dsimp only at hSw); go_simp; done) | (intro w' hSw; (try dsimp only at hSw); go_simp; with_reducible rfl)
            try simp only [Act.put, List.getElem_toArray, List.getElem_cons_zero, List.getElem_cons_succ, List.setIfInBounds_toArray, List.set_cons_zero, List.set_cons_succ]
            refine wpAnyH_take (i := 1) (oi := _) (v := ?_) rfl (by kernel_rfl) (by kernel_rfl) (by kernel_rfl) (fun _ _ _ h => h) (Or.inl ⟨by rfl, ?_⟩) (by assumption) ?_
            rotate_left
            · first | (intro w' hSw; (try dsimp only at hSw); go_simp; done) | (intro w' hSw; (try dsimp only at hSw); go_simp; with_reducible rfl)
            try simp only [Act.put, List.getElem_toArray, List.getElem_cons_zero, List.getElem_cons_succ, List.setIfInBounds_toArray, List.set_cons_zero, List.set_cons_succ]
            refine wpAnyH_take (i := 2) (oi := _) (v := ?_) rfl (by kernel_rfl) (by kernel_rfl) (by kernel_rfl) (fun _ _ _ h => h) (Or.inl ⟨by rfl, ?_⟩) (by assumption) ?_
            rotate_left
            · first | (intro w' hSw; (try dsimp only at hSw); go_simp; done) | (intro w' hSw; (try dsimp only at hSw); go_simp; with_reducible rfl)
            try simp only [Act.put, List.getElem_toArray, List.getElem_cons_zero, List.getElem_cons_succ, List.setIfInBounds_toArray, List.set_cons_zero, List.set_cons_succ]
            refine wpAnyH_take (i := 3) (oi := _) (v := ?_) rfl (by kernel_rfl) (by kernel_rfl) (by kernel_rfl) (fun _ _ _ h => h) (Or.inl ⟨by rfl, ?_⟩) (by assumption) ?_
            rotate_left
            · first | (intro w' hSw; (try dsimp only at hSw); go_simp; done) | (intro w' hSw; (try dsimp only at hSw); go_simp; with_reducible rfl)
            try simp only [Act.put, List.getElem_toArray, List.getElem_cons_zero, List.getElem_cons_succ, List.setIfInBounds_toArray, List.set_cons_zero, List.set_cons_succ]
            refine wpAnyH_take (i := 4) (oi := _) (v := ?_) rfl (by kernel_rfl) (by kernel_rfl) (by kernel_rfl) (fun _ _ _ h => h) (Or.inl ⟨by rfl, ?_⟩) (by assumption) ?_
            rotate_left
            · first | (intro w' hSw; (try dsimp only at hSw); go_simp; done) | (intro w' hSw; (try dsimp only at hSw); go_simp; with_reducible rfl)
            try simp only [Act.put, List.getElem_toArray, List.getElem_cons_zero, List.getElem_cons_succ, List.setIfInBounds_toArray, List.set_cons_zero, List.set_cons_succ]
            refine wpAnyH_take (i := 5) (oi := _) (v := ?_) rfl (by kernel_rfl) (by kernel_rfl) (by kernel_rfl) (fun _ _ _ h => h) (Or.inl ⟨by rfl, ?_⟩) (by assumption) ?_
            rotate_left
            · first | (intro w' hSw; (try dsimp only at hSw); go_simp; done) | (intro w' hSw; (try dsimp only at hSw); go_simp; with_reducible rfl)
            try simp only [Act.put, List.getElem_toArray, List.getElem_cons_zero, List.getElem_cons_succ, List.setIfInBounds_toArray, List.set_cons_zero, List.set_cons_succ]
            refine wpAnyH_take (i := 6) (oi := _) (v := ?_) rfl (by kernel_rfl) (by kernel_rfl) (by kernel_rfl) (fun _ _ _ h => h) (Or.inl ⟨by rfl, ?_⟩) (by assumption) ?_
            rotate_left
            · first | (intro w' hSw; (try dsimp only at hSw); go_simp; done) | (intro w' hSw; (try dsimp only at hSw); go_simp; with_reducible rfl)
            try simp only [Act.put, List.getElem_toArray, List.getElem_cons_zero, List.getElem_cons_succ, List.setIfInBounds_toArray, List.set_cons_zero, List.set_cons_succ]
            refine wpAnyH_take (i := 7) (oi := _) (v := ?_) rfl (by kernel_rfl) (by kernel_rfl) (by kernel_rfl) (fun _ _ _ h => h) (Or.inl ⟨by rfl, ?_⟩) (by assumption) ?_
            rotate_left
            · first | (intro w' hSw; (try dsimp only at hSw); go_simp; done) | (intro w' hSw; (try dsimp only at hSw); go_simp; with_reducible rfl)
            try simp only [Act.put, List.getElem_toArray, List.getElem_cons_zero, List.getElem_cons_succ, List.setIfInBounds_toArray, List.set_cons_zero, List.set_cons_succ]
            refine wpAnyH_take (i := 8) (oi := _) (v := ?_) rfl (by kernel_rfl) (by kernel_rfl) (by kernel_rfl) (fun _ _ _ h => h) (Or.inl ⟨by rfl, ?_⟩) (by assumption) ?_
            rotate_left
            · first | (intro w' hSw; (try dsimp only at hSw); go_simp; done) | (intro w' hSw; (try dsimp only at hSw); go_simp; with_reducible rfl)
            try simp only [Act.put, List.getElem_toArray, List.getElem_cons_zero, List.getElem_cons_succ, List.setIfInBounds_toArray, List.set_cons_zero, List.set_cons_succ]
            refine wpAnyH_take (i := 9) (oi := _) (v := ?_) rfl (by kernel_rfl) (by kernel_rfl) (by kernel_rfl) (fun _ _ _ h => h) (Or.inl ⟨by rfl, ?_⟩) (by assumption) ?_
            rotate_left
            · first | (intro w' hSw; (try dsimp only at hSw); go_simp; done) | (intro w' hSw; (try dsimp only at hSw); go_simp; with_reducible rfl)
            try simp only [Act.put, List.getElem_toArray, List.getElem_cons_zero, List.getElem_cons_succ, List.setIfInBounds_toArray, List.set_cons_zero, List.set_cons_succ]
            refine wpAnyH_take (i := 10) (oi := _) (v := ?_) rfl (by kernel_rfl) (by kernel_rfl) (by kernel_rfl) (fun _ _ _ h => h) (Or.inl ⟨by rfl, ?_⟩) (by assumption) ?_
            rotate_left
            · first | (intro w' hSw; (try dsimp only at hSw); go_simp; done) | (intro w' hSw; (try dsimp only at hSw); go_simp; with_reducible rfl)
            try simp only [Act.put, List.getElem_toArray, List.getElem_cons_zero, List.getElem_cons_succ, List.setIfInBounds_toArray, List.set_cons_zero, List.set_cons_succ]
            refine wpAnyH_take (i := 11) (oi := _) (v := ?_) rfl (by kernel_rfl) (by kernel_rfl) (by kernel_rfl) (fun _ _ _ h => h) (Or.inl ⟨by rfl, ?_⟩) (by assumption) ?_
            rotate_left
            · first | (intro w' hSw; (try dsimp only at hSw); go_simp; done) | (intro w' hSw; (try dsimp only at hSw); go_simp; with_reducible rfl)
            try simp only [Act.put, List.getElem_toArray, List.getElem_cons_zero, List.getElem_cons_succ, List.setIfInBounds_toArray, List.set_cons_zero, List.set_cons_succ]
            refine wpAnyH_take (i := 12) (oi := _) (v := ?_) rfl (by kernel_rfl) (by kernel_rfl) (by kernel_rfl) (fun _ _ _ h => h) (Or.inl ⟨by rfl, ?_⟩) (by assumption) ?_
            rotate_left
            · first | (intro w' hSw; (try dsimp only at hSw); go_simp; done) | (intro w' hSw; (try dsimp only at hSw); go_simp; with_reducible rfl)
            try simp only [Act.put, List.getElem_toArray, List.getElem_cons_zero, List.getElem_cons_succ, List.setIfInBounds_toArray, List.set_cons_zero, List.set_cons_succ]
            refine wpAnyH_ready (rs := [13]) (by kernel_rfl) (by simp) ?_
            refine AllReadyH.cons (o := _) rfl (fun K hK => ?_) AllReadyH.nil
            go_simp
            refine (l1In_is y 0 (z - 1) _ r (by rw [inSize_inB rfl]; exact HR.out)).mono ?_
            rintro x w6 ⟨rfl, rfl⟩
            go_wp2_with fail
            refine hK.out _ _ ?_ (fun hHeld => ?_)
            · exact ⟨f0, hy, hz, hx⟩
            clear hK K
            try simp only [Act.put, List.getElem_toArray, List.getElem_cons_zero, List.getElem_cons_succ, List.setIfInBounds_toArray, List.set_cons_zero, List.set_cons_succ]
            refine wpAnyH_take (i := 14) (oi := _) (v := ?_) rfl (by kernel_rfl) (by kernel_rfl) (by kernel_rfl) (fun _ _ _ h => h) (Or.inl ⟨by rfl, ?_⟩) (by assumption) ?_
            rotate_left
            · first | (intro w' hSw; (try dsimp only at hSw); go_simp; done) | (intro w' hSw; (try dsimp only at hSw); go_simp; with_reducible rfl)
            try simp only [Act.put, List.getElem_toArray, List.getElem_cons_zero, List.getElem_cons_succ, List.setIfInBounds_toArray, List.set_cons_zero, List.set_cons_succ]
            refine wpAnyH_done (by kernel_rfl) ?_ _
            have HX6 := Lib.hid (map_drew HD.out)
            clear f0 hx hy hz
            cases r with
            | true =>
              go_wp2
              go_roundw
              case rel => exact ⟨k + 1, by omega, by go_num, by rw [HSUC.out, HAL.out, HAT.out, HR.out]; rfl, HX6.out⟩
              case measure => simp [intOf]; omega
            | false =>
              have HF := Lib.hid (HBAD.out (HAT.out.trans HR.out))
              go_wp2
              go_ret
              exact ⟨ret_bool HF.out.symm, sz_keep HB.out HX6.out⟩
          · have hkn : k = vals.length := by omega
            have hlt' : ¬ (k : Int) < (vals.length : Int) := by omega
            have HE := Lib.hid (vals_yes HV.out HM.out HL.out (by rw [← hkn]; exact HAL.out))
            clear f0
            go_wp2
            go_ret
            exact ⟨ret_bool HE.out.symm, sz_keep HB.out HD.out⟩
      · have e1 : ((vals.length : Int) != (vars.length : Int)) = true := by simp; omega
        have HE := Lib.hid (vals_no3 (s := s) (m := m) hl)
        clear hl
        go_enter Try.func17, Try.ntmps17
        go_wp2_with fail
        clear hW
        refine (specModelOk_any s m _ _ _ Hs.out Hm.out).mono ?_
        rw [HM.out]
        rintro e w1 ⟨rfl, hb⟩
        replace HB := Lib.hid (sz_keep HB.out hb)
        replace s0 := cell_keep hb s0
        replace s1 := cell_keep hb s1
        replace m0 := cell_keep hb m0
        replace m1 := cell_keep hb m1
        replace Hs := Lib.hid (Hs.out.keep hb)
        replace Hm := Lib.hid (Hm.out.keep hb)
        replace H3 := Lib.hid (H3.out.keep hb)
        clear hb
        go_wp2_with fail
        refine (specVarsOk_any _ _ s vars _ Hs.out H3.out).mono ?_
        rw [HV.out]
        rintro e w2 ⟨rfl, hb⟩
        replace HB := Lib.hid (sz_keep HB.out hb)
        replace s0 := cell_keep hb s0
        replace s1 := cell_keep hb s1
        replace m0 := cell_keep hb m0
        replace m1 := cell_keep hb m1
        replace Hs := Lib.hid (Hs.out.keep hb)
        replace Hm := Lib.hid (Hm.out.keep hb)
        clear hb
        go_wp2
        go_ret
        exact ⟨ret_bool HE.out.symm, HB.out⟩
end

section
open Go.RowKit
set_option linter.unusedVariables false
set_option linter.unusedSimpArgs false

theorem vb_alloc {a w : World} (h : Below a.heap.size a w) (o : Obj) : Below a.heap.size a (w.alloc o) := h.alloc h.size o
theorem vb_drew {a w : World} (h : Below a.heap.size a w) : Below a.heap.size a w.drew := ⟨h.os, h.tape, h.output, h.size, h.block⟩
theorem vb_undrew {w w' : World} (h : Below w.drew.heap.size w.drew w') : Below w.heap.size w w' := ⟨h.os, h.tape, h.output, h.size, h.block⟩
theorem va_far {w : World} {b rb : Nat} (h : b ≠ rb) (i o : Nat) (u : Value) : (w.setCell ⟨rb, i, none⟩ u).cell? ⟨b, o, none⟩ = w.cell? ⟨b, o, none⟩ := World.cell?_of_block (Below.heap_setCell w ⟨rb, i, none⟩ u b h)
theorem place_wrap {zs vs : List Int} (hz : Sizes zs) (hl : zs.length ≤ 4) (h : InAll zs vs) {k : Nat} (hk : k < zs.length) (hk' : k < vs.length) :
    ∃ a, IntKind.i64.wrap (placeM 0 (zs.take k) (vs.take k) * zs[k]) = a ∧ IntKind.i64.wrap (a + vs[k]) = placeM 0 (zs.take (k + 1)) (vs.take (k + 1)) := by
  have h1 := ways_few (hz.take (k + 1)) (by simp; omega)
  obtain ⟨h2, h3⟩ := place_in (hz.take (k + 1)) (h.take (k + 1))
  have h4 := h.2 k hk hk'
  have h5 := hz _ (List.getElem_mem hk)
  rw [placeM_take hk hk'] at h2 h3 ⊢
  generalize placeM 0 (zs.take k) (vs.take k) * zs[k] = q at h2 h3 ⊢
  generalize vs[k] = v at h2 h3 h4 ⊢
  refine ⟨q, ?_, ?_⟩ <;> (rw [IntKind.wrap_i64]; omega)

set_option maxRecDepth 100000 in
theorem numberOf_any (zs vs : List Int) (w : World) (v v' : Value) (h : RInts w v zs) (h' : RInts w v' vs) (hz : Sizes zs) (hl : zs.length ≤ 4) (hin : InAll zs vs) :
    Calls Try.prog 95 #[v, v'] w fun e w' => e = .returned (.int .i64 (placeM 0 zs vs)) ∧ w = w' := by
  have H := Lib.hid h
  have H' := Lib.hid h'
  obtain ⟨A, c, rfl, -⟩ := h.form
  obtain ⟨A', c', rfl, -⟩ := h'.form
  have HW := Lib.hid (fun (k : Nat) (hk : k < zs.length) (hk' : k < vs.length) => place_wrap hz hl hin hk hk')
  have HL := Lib.hid hin.1
  have hvl : vs.length ≤ 4 := by rw [hin.1]; exact hl
  clear h h' hz hin
  go_enter Try.func95, Try.ntmps95
  go_wp2
  go_loopw [5, 6, 7, 10] (fun p _ _ i wr => ∃ k : Nat, k ≤ vs.length ∧ i = .int .i64 k ∧ p = .int .i64 (placeM 0 (zs.take k) (vs.take k)) ∧ w = wr) (fun _ _ _ i _ => vs.length - (intOf i).toNat)
  case atStart => exact ⟨0, Nat.zero_le _, rfl, rfl, rfl⟩
  case round =>
    obtain ⟨k, hk, rfl, rfl, rfl⟩ := hrel
    by_cases hlt : k < vs.length
    · obtain ⟨b, o, c2, e, hx⟩ := H'.out.at_ hlt
      cases e
      have hlt' : (k : Int) < (vs.length : Int) := by omega
      have hkz : k < zs.length := by rw [← HL.out]; exact hlt
      have hkz' : (k : Int) < (zs.length : Int) := by omega
      obtain ⟨b2, o2, c3, e, hy⟩ := H.out.at_ hkz
      cases e
      obtain ⟨a, hw1, hw2⟩ := HW.out k hkz hlt
      generalize vs[k] = x at hx hw2
      generalize zs[k] = z at hy hw1
      generalize hq : placeM 0 (zs.take (k + 1)) (vs.take (k + 1)) = q at hw2
      have HQ := Lib.hid hq
      clear hq
      go_wp2
      go_roundw
      case rel => exact ⟨k + 1, by omega, by go_num, by rw [HQ.out], by first | trivial | rfl⟩
      case measure => simp [intOf]; omega
    · have hkn : k = vs.length := by omega
      have hlt' : ¬ (k : Int) < (vs.length : Int) := by omega
      have HT := Lib.hid (show zs.take k = zs from take_all (by rw [← HL.out]; omega))
      have HT2 := Lib.hid (show vs.take k = vs from take_all (by omega))
      rw [HT.out, HT2.out]
      go_wp2
      go_ret
      exact ⟨rfl, rfl⟩

/-- two rows that are being filled at once: k of their places are done -/
def TwoAt (W2 wr : World) (bs bt n : Nat) (xs ys : List Int) (k : Nat) : Prop :=
  ∃ cs ds : Array Value, wr.heap[bs]? = some (.cells cs 3 (0, 0)) ∧ wr.heap[bt]? = some (.cells ds 3 (0, 0)) ∧ cs.size = n ∧ ds.size = n ∧ (∀ j, j < k → cs[j]? = (xs[j]?).map (Value.int .i64)) ∧ (∀ j, j < k → ds[j]? = (ys[j]?).map (Value.int .i64)) ∧
    bs ≠ bt ∧ W2.heap.size ≤ bs ∧ W2.heap.size ≤ bt ∧ Below W2.heap.size W2 wr
section
variable {W2 wr w6 : World} {bs bt n k : Nat} {xs ys : List Int} {x y : Int}
theorem TwoAt.bel (h : TwoAt W2 wr bs bt n xs ys k) : Below W2.heap.size W2 wr := by obtain ⟨_, _, _, _, _, _, _, _, _, _, _, hb⟩ := h; exact hb
theorem TwoAt.ne (h : TwoAt W2 wr bs bt n xs ys k) : bs ≠ bt ∧ W2.heap.size ≤ bs ∧ W2.heap.size ≤ bt := by obtain ⟨_, _, _, _, _, _, _, _, a, b, c, _⟩ := h; exact ⟨a, b, c⟩
theorem two_put {cs : Array Value} {zs : List Int} {z : Int} (hs : cs.size = n) (hk : k < n) (hd : ∀ j, j < k → cs[j]? = (zs[j]?).map (Value.int .i64)) (hz : zs[k]? = some z) : ∀ j, j < k + 1 → (cs.setIfInBounds k (.int .i64 z))[j]? = (zs[j]?).map (Value.int .i64) := by
  intro j hj
  rw [Array.getElem?_setIfInBounds]
  by_cases hjk : k = j
  · subst hjk
    rw [if_pos rfl, if_pos (by omega), hz]
    rfl
  · rw [if_neg hjk]
    exact hd j (by omega)
theorem TwoAt.step (h : TwoAt W2 wr bs bt n xs ys k) (hb : Below wr.heap.size wr w6) (hk : k < n) (hx : xs[k]? = some x) (hy : ys[k]? = some y) :
    TwoAt W2 ((w6.setCell ⟨bs, k, none⟩ (.int .i64 x)).setCell ⟨bt, k, none⟩ (.int .i64 y)) bs bt n xs ys (k + 1) := by
  obtain ⟨cs, ds, a1, a2, a3, a4, a5, a6, a7, a8, a9, a10⟩ := h
  have b1 := (hb.block _ (Array.getElem?_eq_some_iff.1 a1).1).trans a1
  have b2 := (hb.block _ (Array.getElem?_eq_some_iff.1 a2).1).trans a2
  refine ⟨_, _, (Below.heap_setCell _ ⟨bt, k, none⟩ _ bs (by show bs ≠ bt; exact a7)).trans (blk_set b1 k _), blk_set ((Below.heap_setCell _ ⟨bs, k, none⟩ _ bt (by show bt ≠ bs; exact fun e => a7 e.symm)).trans b2) k _, by simpa using a3, by simpa using a4, two_put a3 hk a5 hx, two_put a4 hk a6 hy, a7, a8, a9,
    ((a10.trans (hb.mono a10.size)).setCell (p := ⟨bs, k, none⟩) a8 _).setCell (p := ⟨bt, k, none⟩) a9 _⟩
theorem TwoAt.cells (h : TwoAt W2 wr bs bt n xs ys k) (hb : Below wr.heap.size wr w6) (hk : k < n) (X : Value) :
    (∃ u, w6.cell? ⟨bs, k, none⟩ = some u) ∧ w6.frozen? ⟨bs, k, none⟩ = false ∧ (∃ u, (w6.setCell ⟨bs, k, none⟩ X).cell? ⟨bt, k, none⟩ = some u) ∧ (w6.setCell ⟨bs, k, none⟩ X).frozen? ⟨bt, k, none⟩ = false := by
  obtain ⟨cs, ds, a1, a2, a3, a4, a5, a6, a7, a8, a9, a10⟩ := h
  have b1 := (hb.block _ (Array.getElem?_eq_some_iff.1 a1).1).trans a1
  have b2 := (hb.block _ (Array.getElem?_eq_some_iff.1 a2).1).trans a2
  have b3 := (Below.heap_setCell w6 ⟨bs, k, none⟩ X bt (by show bt ≠ bs; exact fun e => a7 e.symm)).trans b2
  exact ⟨⟨cs[k]'(by omega), (blk_cell b1 k).trans (Array.getElem?_eq_getElem (by omega))⟩, blk_free b1 k, ⟨ds[k]'(by omega), (blk_cell b3 k).trans (Array.getElem?_eq_getElem (by omega))⟩, blk_free b3 k⟩
theorem TwoAt.done (h : TwoAt W2 wr bs bt n xs ys n) (hx : xs.length = n) (hy : ys.length = n) (hm : n ≤ 9223372036854775807) : RInts wr (.slice (some ⟨bs, 0, none⟩) n n) xs ∧ RInts wr (.slice (some ⟨bt, 0, none⟩) n n) ys := by
  obtain ⟨cs, ds, a1, a2, a3, a4, a5, a6, a7, a8, a9, a10⟩ := h
  refine ⟨⟨_, n, by rw [hx], by omega, by rw [maxLen_eq]; exact hm, fun j x hj => ⟨bs, 0, rfl, ?_⟩⟩, ⟨_, n, by rw [hy], by omega, by rw [maxLen_eq]; exact hm, fun j x hj => ⟨bt, 0, rfl, ?_⟩⟩⟩
  · have hl := (List.getElem?_eq_some_iff.1 hj).1
    rw [Nat.zero_add, blk_cell a1, a5 j (by omega), hj]; rfl
  · have hl := (List.getElem?_eq_some_iff.1 hj).1
    rw [Nat.zero_add, blk_cell a2, a6 j (by omega), hj]; rfl
theorem two_start {W wx : World} {o : Array Value} (hh : wx.heap = ((W.alloc (.cells o 3)).alloc (.cells o 3)).heap) (ho : wx.os = W.os) (ht : wx.tape = W.tape) (hp : wx.output = W.output) (hn : o.size = n) (xs ys : List Int) :
    TwoAt W wx W.heap.size (W.heap.size + 1) n xs ys 0 ∧ TwoAt W wx (W.heap.size + 1) W.heap.size n xs ys 0 := by
  have h1 : ((W.alloc (.cells o 3)).alloc (.cells o 3)).heap[W.heap.size]? = some (.cells o 3 (0, 0)) := by
    rw [heap_alloc_old _ _ (by simp)]; exact heap_alloc_new W _
  have h2 : ((W.alloc (.cells o 3)).alloc (.cells o 3)).heap[W.heap.size + 1]? = some (.cells o 3 (0, 0)) :=
    (congrArg (fun i => ((W.alloc (.cells o 3)).alloc (.cells o 3)).heap[i]?) (by simp)).trans (heap_alloc_new (W.alloc (.cells o 3)) _)
  have hb : Below W.heap.size W ((W.alloc (.cells o 3)).alloc (.cells o 3)) := (below_alloc _ _).alloc (by simp) _
  have hb' : Below W.heap.size W wx := ⟨ho, ht, hp, by rw [hh]; exact hb.size, fun n hn => by rw [hh]; exact hb.block n hn⟩
  rw [← hh] at h1 h2
  exact ⟨⟨o, o, h1, h2, hn, hn, fun j hj => by omega, fun j hj => by omega, by omega, by omega, by omega, hb'⟩, ⟨o, o, h2, h1, hn, hn, fun j hj => by omega, fun j hj => by omega, by omega, by omega, by omega, hb'⟩⟩
end
end
end Go.Proofs.Ytkhabmoidpgapaa
