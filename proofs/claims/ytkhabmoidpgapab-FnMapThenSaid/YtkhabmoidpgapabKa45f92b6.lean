/- DrawMapThen. · The draw of FnMapSelf; laws.sameMap. -/
import Derived.Test.YtkhabmoidpgapabK81705f2d
namespace Go.Proofs.Ytkhabmoidpgapab
section
open Go.RowKit
set_option linter.unusedVariables false
set_option linter.unusedSimpArgs false

def DrawMThenPost (w : World) (e : Ending) (w' : World) : Prop :=
  ∃ (av bv cv mv nv : Value) (a b c : MSig) (m n : MMap), e = .returned (.tuple #[av, bv, cv, mv, nv]) ∧ OSig w' w.heap.size av a ∧ OSig w' w.heap.size bv b ∧ OSig w' w.heap.size cv c ∧ OMapD w' w.heap.size mv m ∧ OMapD w' w.heap.size nv n ∧ Below w.heap.size w w'

set_option maxHeartbeats 3200000 in
set_option maxRecDepth 100000 in
theorem drawMapThen_any (v : Value) (bs : List Int) (w : World) (h : RBytes w w.heap.size v bs) :
    Calls Try.prog 14 #[v] w (DrawMThenPost w) := by
  obtain ⟨W, hW⟩ : ∃ W : World, W = ((((w.alloc (.cells #[.int .i64 0, .slice none 0 0] 25)).alloc (.cells #[.int .i64 0, .slice none 0 0] 25)).alloc (.cells #[.int .i64 0, .slice none 0 0] 25)).alloc (.cells #[.slice none 0 0, .slice none 0 0] 28)).alloc (.cells #[.slice none 0 0, .slice none 0 0] 28) := ⟨_, rfl⟩
  have hb0 : Below w.heap.size w W := by rw [hW]; exact ((((below_alloc _ _).alloc (by simp) _).alloc (by simp <;> omega) _).alloc (by simp <;> omega) _).alloc (by simp <;> omega) _
  have HB0 := Lib.hid hb0
  have HZ0 := Lib.hid (show W.heap.size = w.heap.size + 5 by rw [hW]; simp)
  have HZR0 := Lib.hid (show W.heap[w.heap.size]? = some (.cells #[.int .i64 0, .slice none 0 0] 25 (0, 0)) by rw [hW]; exact (heap_alloc_old ((((w.alloc (.cells #[.int .i64 0, .slice none 0 0] 25)).alloc (.cells #[.int .i64 0, .slice none 0 0] 25)).alloc (.cells #[.int .i64 0, .slice none 0 0] 25)).alloc (.cells #[.slice none 0 0, .slice none 0 0] 28)) _ (by simp <;> omega)).trans ((heap_alloc_old (((w.alloc (.cells #[.int .i64 0, .slice none 0 0] 25)).alloc (.cells #[.int .i64 0, .slice none 0 0] 25)).alloc (.cells #[.int .i64 0, .slice none 0 0] 25)) _ (by simp <;> omega)).trans ((heap_alloc_old ((w.alloc (.cells #[.int .i64 0, .slice none 0 0] 25)).alloc (.cells #[.int .i64 0, .slice none 0 0] 25)) _ (by simp <;> omega)).trans ((heap_alloc_old (w.alloc (.cells #[.int .i64 0, .slice none 0 0] 25)) _ (by simp)).trans (heap_alloc_new (w) _)))))
  have HZR1 := Lib.hid (show W.heap[w.heap.size + 1]? = some (.cells #[.int .i64 0, .slice none 0 0] 25 (0, 0)) by rw [hW]; exact (heap_alloc_old ((((w.alloc (.cells #[.int .i64 0, .slice none 0 0] 25)).alloc (.cells #[.int .i64 0, .slice none 0 0] 25)).alloc (.cells #[.int .i64 0, .slice none 0 0] 25)).alloc (.cells #[.slice none 0 0, .slice none 0 0] 28)) _ (by simp <;> omega)).trans ((heap_alloc_old (((w.alloc (.cells #[.int .i64 0, .slice none 0 0] 25)).alloc (.cells #[.int .i64 0, .slice none 0 0] 25)).alloc (.cells #[.int .i64 0, .slice none 0 0] 25)) _ (by simp <;> omega)).trans ((heap_alloc_old ((w.alloc (.cells #[.int .i64 0, .slice none 0 0] 25)).alloc (.cells #[.int .i64 0, .slice none 0 0] 25)) _ (by simp)).trans ((congrArg (fun i => ((w.alloc (.cells #[.int .i64 0, .slice none 0 0] 25)).alloc (.cells #[.int .i64 0, .slice none 0 0] 25)).heap[i]?) (by simp)).trans (heap_alloc_new (w.alloc (.cells #[.int .i64 0, .slice none 0 0] 25)) _)))))
  have HZR2 := Lib.hid (show W.heap[w.heap.size + 2]? = some (.cells #[.int .i64 0, .slice none 0 0] 25 (0, 0)) by rw [hW]; exact (heap_alloc_old ((((w.alloc (.cells #[.int .i64 0, .slice none 0 0] 25)).alloc (.cells #[.int .i64 0, .slice none 0 0] 25)).alloc (.cells #[.int .i64 0, .slice none 0 0] 25)).alloc (.cells #[.slice none 0 0, .slice none 0 0] 28)) _ (by simp <;> omega)).trans ((heap_alloc_old (((w.alloc (.cells #[.int .i64 0, .slice none 0 0] 25)).alloc (.cells #[.int .i64 0, .slice none 0 0] 25)).alloc (.cells #[.int .i64 0, .slice none 0 0] 25)) _ (by simp)).trans ((congrArg (fun i => (((w.alloc (.cells #[.int .i64 0, .slice none 0 0] 25)).alloc (.cells #[.int .i64 0, .slice none 0 0] 25)).alloc (.cells #[.int .i64 0, .slice none 0 0] 25)).heap[i]?) (by simp)).trans (heap_alloc_new ((w.alloc (.cells #[.int .i64 0, .slice none 0 0] 25)).alloc (.cells #[.int .i64 0, .slice none 0 0] 25)) _))))
  have HZR3 := Lib.hid (show W.heap[w.heap.size + 3]? = some (.cells #[.slice none 0 0, .slice none 0 0] 28 (0, 0)) by rw [hW]; exact (heap_alloc_old ((((w.alloc (.cells #[.int .i64 0, .slice none 0 0] 25)).alloc (.cells #[.int .i64 0, .slice none 0 0] 25)).alloc (.cells #[.int .i64 0, .slice none 0 0] 25)).alloc (.cells #[.slice none 0 0, .slice none 0 0] 28)) _ (by simp)).trans ((congrArg (fun i => ((((w.alloc (.cells #[.int .i64 0, .slice none 0 0] 25)).alloc (.cells #[.int .i64 0, .slice none 0 0] 25)).alloc (.cells #[.int .i64 0, .slice none 0 0] 25)).alloc (.cells #[.slice none 0 0, .slice none 0 0] 28)).heap[i]?) (by simp)).trans (heap_alloc_new (((w.alloc (.cells #[.int .i64 0, .slice none 0 0] 25)).alloc (.cells #[.int .i64 0, .slice none 0 0] 25)).alloc (.cells #[.int .i64 0, .slice none 0 0] 25)) _)))
  have HZR4 := Lib.hid (show W.heap[w.heap.size + 4]? = some (.cells #[.slice none 0 0, .slice none 0 0] 28 (0, 0)) by rw [hW]; exact (congrArg (fun i => (((((w.alloc (.cells #[.int .i64 0, .slice none 0 0] 25)).alloc (.cells #[.int .i64 0, .slice none 0 0] 25)).alloc (.cells #[.int .i64 0, .slice none 0 0] 25)).alloc (.cells #[.slice none 0 0, .slice none 0 0] 28)).alloc (.cells #[.slice none 0 0, .slice none 0 0] 28)).heap[i]?) (by simp)).trans (heap_alloc_new ((((w.alloc (.cells #[.int .i64 0, .slice none 0 0] 25)).alloc (.cells #[.int .i64 0, .slice none 0 0] 25)).alloc (.cells #[.int .i64 0, .slice none 0 0] 25)).alloc (.cells #[.slice none 0 0, .slice none 0 0] 28)) _))
  have HW := Lib.hid (bytes_alloc h hb0)
  obtain ⟨A, c, rfl, -⟩ := h
  have hW' := hW.symm
  clear hb0 hW
  go_enter Try.func14, Try.ntmps14
  go_wp2_with fail
  clear hW'
  refine (open_any _ bs _ HW.out).mono ?_
  rintro e w1 ⟨rfl, hr1, hb1⟩
  rw [HZ0.out] at hr1
  have HR1 := Lib.hid hr1
  have HB1 := Lib.hid hb1
  rw [HZ0.out]
  have hzW := HZ0.out
  have hz1 := HB1.out.size
  have hlt1 : w.heap.size + 5 < w1.heap.size := HR1.out.lt
  clear hr1 hb1
  go_wp2_with fail
  refine (map20_any (w.heap.size + 5) 0 14 _ HR1.out (by omega) (by omega) (by omega)).mono ?_
  rintro e w2 ⟨av, bv, mv, ⟨as_, ar⟩, ⟨bs_, br⟩, m, q, rfl, ⟨ua, rfl, oa⟩, -, ⟨ub, rfl, ob⟩, -, ⟨x, y, rfl, o0, o1⟩, -, -, hr2, hq2, hg2⟩
  obtain ⟨us1, hu1, -⟩ := id oa
  obtain ⟨Aa, ca, rfl, -⟩ := own_reads hu1
  obtain ⟨us2, hu2, -⟩ := id ob
  obtain ⟨Ab, cb, rfl, -⟩ := own_reads hu2
  obtain ⟨A0, c0, rfl, -⟩ := own_reads o0
  obtain ⟨A1, c1, rfl, -⟩ := own_reads o1
  simp only at oa ob
  have hz2 : w1.heap.size ≤ w2.heap.size := hg2.size
  have hba : Below w2.heap.size w2 (((w2.alloc (.cells #[.int .i64 as_, .slice Aa ar.length ca] 25)).alloc (.cells #[.int .i64 bs_, .slice Ab br.length cb] 25)).alloc (.cells #[.slice A0 m.sorts.length c0, .slice A1 m.ops.length c1] 28)) := ((below_alloc _ _).alloc (by simp) _).alloc (by simp <;> omega) _
  have HG3 := Lib.hid (gr_below hg2 hba)
  have HBA := Lib.hid ((heap_alloc_old ((w2.alloc (.cells #[.int .i64 as_, .slice Aa ar.length ca] 25)).alloc (.cells #[.int .i64 bs_, .slice Ab br.length cb] 25)) (.cells #[.slice A0 m.sorts.length c0, .slice A1 m.ops.length c1] 28) (by simp <;> omega)).trans ((heap_alloc_old (w2.alloc (.cells #[.int .i64 as_, .slice Aa ar.length ca] 25)) (.cells #[.int .i64 bs_, .slice Ab br.length cb] 25) (by simp)).trans (heap_alloc_new w2 (.cells #[.int .i64 as_, .slice Aa ar.length ca] 25))))
  have HBB := Lib.hid ((show (((w2.alloc (.cells #[.int .i64 as_, .slice Aa ar.length ca] 25)).alloc (.cells #[.int .i64 bs_, .slice Ab br.length cb] 25)).alloc (.cells #[.slice A0 m.sorts.length c0, .slice A1 m.ops.length c1] 28)).heap[w2.heap.size + 1]? = ((w2.alloc (.cells #[.int .i64 as_, .slice Aa ar.length ca] 25)).alloc (.cells #[.int .i64 bs_, .slice Ab br.length cb] 25)).heap[w2.heap.size + 1]? from heap_alloc_old _ _ (by simp)).trans ((congrArg (fun i => ((w2.alloc (.cells #[.int .i64 as_, .slice Aa ar.length ca] 25)).alloc (.cells #[.int .i64 bs_, .slice Ab br.length cb] 25)).heap[i]?) (show w2.heap.size + 1 = (w2.alloc (.cells #[.int .i64 as_, .slice Aa ar.length ca] 25)).heap.size by simp)).trans (heap_alloc_new (w2.alloc (.cells #[.int .i64 as_, .slice Aa ar.length ca] 25)) (.cells #[.int .i64 bs_, .slice Ab br.length cb] 25))))
  have HBM := Lib.hid ((congrArg (fun i => (((w2.alloc (.cells #[.int .i64 as_, .slice Aa ar.length ca] 25)).alloc (.cells #[.int .i64 bs_, .slice Ab br.length cb] 25)).alloc (.cells #[.slice A0 m.sorts.length c0, .slice A1 m.ops.length c1] 28)).heap[i]?) (show w2.heap.size + 2 = ((w2.alloc (.cells #[.int .i64 as_, .slice Aa ar.length ca] 25)).alloc (.cells #[.int .i64 bs_, .slice Ab br.length cb] 25)).heap.size by simp)).trans (heap_alloc_new ((w2.alloc (.cells #[.int .i64 as_, .slice Aa ar.length ca] 25)).alloc (.cells #[.int .i64 bs_, .slice Ab br.length cb] 25)) (.cells #[.slice A0 m.sorts.length c0, .slice A1 m.ops.length c1] 28)))
  have HO := Lib.hid (oa.keep hba)
  have HB := Lib.hid (ob.keep hba)
  have HM0 := Lib.hid (o0.keep hba)
  have HM1 := Lib.hid (o1.keep hba)
  have HR := Lib.hid (hr2.keep hba)
  clear oa ob o0 o1 hr2 hg2 hu1 hu2 hba
  generalize hW3 : ((w2.alloc (.cells #[.int .i64 as_, .slice Aa ar.length ca] 25)).alloc (.cells #[.int .i64 bs_, .slice Ab br.length cb] 25)).alloc (.cells #[.slice A0 m.sorts.length c0, .slice A1 m.ops.length c1] 28) = w3 at HG3 HBA HBB HBM HO HB HM0 HM1 HR
  have hz3 : w2.heap.size + 2 < w3.heap.size := (Array.getElem?_eq_some_iff.1 HBM.out).1
  have g0 := block_cell HBB.out 0
  have g1 := block_cell HBB.out 1
  simp at g0 g1
  go_wp2_with fail
  clear hW3
  refine (into_any ⟨bs_, br⟩ (w.heap.size + 5) q w3 _ w1.heap.size ⟨_, rfl, HB.out⟩ (by omega) (by omega) HR.out (by omega)).mono ?_
  rintro e w4 ⟨cv, nv, ⟨cs_, cr⟩, n, q4, rfl, ⟨uc, rfl, oc⟩, -, ⟨x, y, rfl, o0, o1⟩, -, -, hr4, hq4, hg4⟩
  obtain ⟨us4, hu4, -⟩ := id oc
  obtain ⟨Ac, cc, rfl, -⟩ := own_reads hu4
  obtain ⟨B0, e0, rfl, -⟩ := own_reads o0
  obtain ⟨B1, e1, rfl, -⟩ := own_reads o1
  simp only at oc
  have hz4 : w3.heap.size ≤ w4.heap.size := hg4.size
  have hga := gr_alloc (gr_alloc hg4 (.cells #[.int .i64 cs_, .slice Ac cr.length cc] 25)) (.cells #[.slice B0 n.sorts.length e0, .slice B1 n.ops.length e1] 28)
  have hba : Below w4.heap.size w4 ((w4.alloc (.cells #[.int .i64 cs_, .slice Ac cr.length cc] 25)).alloc (.cells #[.slice B0 n.sorts.length e0, .slice B1 n.ops.length e1] 28)) := (below_alloc _ _).alloc (by simp) _
  have HGA := Lib.hid (gr_trans HG3.out hga (fun x e => by injection e with e; exact .inl e.symm))
  replace HBA := Lib.hid (gr_at hga (by omega) HBA.out)
  replace HBB := Lib.hid (gr_at hga (by omega) HBB.out)
  replace HBM := Lib.hid (gr_at hga (by omega) HBM.out)
  have HBC := Lib.hid ((heap_alloc_old (w4.alloc (.cells #[.int .i64 cs_, .slice Ac cr.length cc] 25)) (.cells #[.slice B0 n.sorts.length e0, .slice B1 n.ops.length e1] 28) (by simp)).trans (heap_alloc_new w4 (.cells #[.int .i64 cs_, .slice Ac cr.length cc] 25)))
  have HBN := Lib.hid ((congrArg (fun i => ((w4.alloc (.cells #[.int .i64 cs_, .slice Ac cr.length cc] 25)).alloc (.cells #[.slice B0 n.sorts.length e0, .slice B1 n.ops.length e1] 28)).heap[i]?) (show w4.heap.size + 1 = (w4.alloc (.cells #[.int .i64 cs_, .slice Ac cr.length cc] 25)).heap.size by simp)).trans (heap_alloc_new (w4.alloc (.cells #[.int .i64 cs_, .slice Ac cr.length cc] 25)) (.cells #[.slice B0 n.sorts.length e0, .slice B1 n.ops.length e1] 28)))
  replace HO := Lib.hid (HO.out.grown hga (fun k e => by injection e with e; omega))
  replace HB := Lib.hid (HB.out.grown hga (fun k e => by injection e with e; omega))
  have HMM := Lib.hid (show OMapD _ w1.heap.size (.agg #[.slice A0 m.sorts.length c0, .slice A1 m.ops.length c1]) m from ⟨_, _, rfl, own_past HM0.out hga (by omega), own_past HM1.out hga (by omega)⟩)
  have HC := Lib.hid (oc.keep hba)
  have HNN := Lib.hid (show OMapD _ w3.heap.size (.agg #[.slice B0 n.sorts.length e0, .slice B1 n.ops.length e1]) n from ⟨_, _, rfl, o0.keep hba, o1.keep hba⟩)
  generalize hW5 : (w4.alloc (.cells #[.int .i64 cs_, .slice Ac cr.length cc] 25)).alloc (.cells #[.slice B0 n.sorts.length e0, .slice B1 n.ops.length e1] 28) = w5 at HGA HBA HBB HBM HBC HBN HO HB HMM HC HNN
  have p0 := block_cell HBA.out 0
  have p1 := block_cell HBA.out 1
  have p2 := block_cell HBB.out 0
  have p3 := block_cell HBB.out 1
  have p4 := block_cell HBC.out 0
  have p5 := block_cell HBC.out 1
  have p6 := block_cell HBM.out 0
  have p7 := block_cell HBM.out 1
  have p8 := block_cell HBN.out 0
  have p9 := block_cell HBN.out 1
  simp at p0 p1 p2 p3 p4 p5 p6 p7 p8 p9
  have hra := gr_at HGA.out (by omega) ((HB1.out.block _ (by omega)).trans HZR0.out)
  have hrb := gr_at HGA.out (by omega) ((HB1.out.block _ (by omega)).trans HZR1.out)
  have hrc := gr_at HGA.out (by omega) ((HB1.out.block _ (by omega)).trans HZR2.out)
  have hrm := gr_at HGA.out (by omega) ((HB1.out.block _ (by omega)).trans HZR3.out)
  have hrn := gr_at HGA.out (by omega) ((HB1.out.block _ (by omega)).trans HZR4.out)
  have r0 := block_cell hra 0
  have rf0 := block_free hra 0
  have r1 := block_cell hra 1
  have rf1 := block_free hra 1
  have r2 := block_cell hrb 0
  have rf2 := block_free hrb 0
  have r3 := block_cell hrb 1
  have rf3 := block_free hrb 1
  have r4 := block_cell hrc 0
  have rf4 := block_free hrc 0
  have r5 := block_cell hrc 1
  have rf5 := block_free hrc 1
  have r6 := block_cell hrm 0
  have rf6 := block_free hrm 0
  have r7 := block_cell hrm 1
  have rf7 := block_free hrm 1
  have r8 := block_cell hrn 0
  have rf8 := block_free hrn 0
  have r9 := block_cell hrn 1
  have rf9 := block_free hrn 1
  simp at r0 r1 r2 r3 r4 r5 r6 r7 r8 r9
  have HBEL0 := Lib.hid (show Below w.heap.size w w5 from (HB0.out.trans (HB1.out.mono (by omega))).trans (below_of_gr' HGA.out (by omega) (by omega)))
  clear oc hu4 o0 o1 hr4 hg4 hga hba g0 g1
  go_wp2_with fail
  clear hW5
  go_region_held3 (fun w' => w'.cell? ⟨w2.heap.size, 0, none⟩ = some (.int .i64 as_) ∧ w'.cell? ⟨w2.heap.size, 1, none⟩ = some (.slice Aa ar.length ca) ∧ w'.cell? ⟨w2.heap.size + 1, 0, none⟩ = some (.int .i64 bs_) ∧ w'.cell? ⟨w2.heap.size + 1, 1, none⟩ = some (.slice Ab br.length cb) ∧ w'.cell? ⟨w4.heap.size, 0, none⟩ = some (.int .i64 cs_) ∧ w'.cell? ⟨w4.heap.size, 1, none⟩ = some (.slice Ac cr.length cc) ∧ w'.cell? ⟨w2.heap.size + 2, 0, none⟩ = some (.slice A0 m.sorts.length c0) ∧ w'.cell? ⟨w2.heap.size + 2, 1, none⟩ = some (.slice A1 m.ops.length c1) ∧ w'.cell? ⟨w4.heap.size + 1, 0, none⟩ = some (.slice B0 n.sorts.length e0) ∧ w'.cell? ⟨w4.heap.size + 1, 1, none⟩ = some (.slice B1 n.ops.length e1)) (first | with_reducible exact ⟨drew_cellm p0, drew_cellm p1, drew_cellm p2, drew_cellm p3, drew_cellm p4, drew_cellm p5, drew_cellm p6, drew_cellm p7, drew_cellm p8, drew_cellm p9⟩ | with_reducible exact ⟨drew_cellm (keep2m p0 (by omega)), drew_cellm (keep2m p1 (by omega)), drew_cellm (keep2m p2 (by omega)), drew_cellm (keep2m p3 (by omega)), drew_cellm (keep2m p4 (by omega)), drew_cellm (keep2m p5 (by omega)), drew_cellm (keep2m p6 (by omega)), drew_cellm (keep2m p7 (by omega)), drew_cellm (keep2m p8 (by omega)), drew_cellm (keep2m p9 (by omega))⟩ | with_reducible exact ⟨drew_cellm (keep2m (keep2m p0 (by omega)) (by omega)), drew_cellm (keep2m (keep2m p1 (by omega)) (by omega)), drew_cellm (keep2m (keep2m p2 (by omega)) (by omega)), drew_cellm (keep2m (keep2m p3 (by omega)) (by omega)), drew_cellm (keep2m (keep2m p4 (by omega)) (by omega)), drew_cellm (keep2m (keep2m p5 (by omega)) (by omega)), drew_cellm (keep2m (keep2m p6 (by omega)) (by omega)), drew_cellm (keep2m (keep2m p7 (by omega)) (by omega)), drew_cellm (keep2m (keep2m p8 (by omega)) (by omega)), drew_cellm (keep2m (keep2m p9 (by omega)) (by omega))⟩ | with_reducible exact ⟨drew_cellm (keep2m (keep2m (keep2m p0 (by omega)) (by omega)) (by omega)), drew_cellm (keep2m (keep2m (keep2m p1 (by omega)) (by omega)) (by omega)), drew_cellm (keep2m (keep2m (keep2m p2 (by omega)) (by omega)) (by omega)), drew_cellm (keep2m (keep2m (keep2m p3 (by omega)) (by omega)) (by omega)), drew_cellm (keep2m (keep2m (keep2m p4 (by omega)) (by omega)) (by omega)), drew_cellm (keep2m (keep2m (keep2m p5 (by omega)) (by omega)) (by omega)), drew_cellm (keep2m (keep2m (keep2m p6 (by omega)) (by omega)) (by omega)), drew_cellm (keep2m (keep2m (keep2m p7 (by omega)) (by omega)) (by omega)), drew_cellm (keep2m (keep2m (keep2m p8 (by omega)) (by omega)) (by omega)), drew_cellm (keep2m (keep2m (keep2m p9 (by omega)) (by omega)) (by omega))⟩ | with_reducible exact ⟨drew_cellm (keep2m (keep2m (keep2m (keep2m p0 (by omega)) (by omega)) (by omega)) (by omega)), drew_cellm (keep2m (keep2m (keep2m (keep2m p1 (by omega)) (by omega)) (by omega)) (by omega)), drew_cellm (keep2m (keep2m (keep2m (keep2m p2 (by omega)) (by omega)) (by omega)) (by omega)), drew_cellm (keep2m (keep2m (keep2m (keep2m p3 (by omega)) (by omega)) (by omega)) (by omega)), drew_cellm (keep2m (keep2m (keep2m (keep2m p4 (by omega)) (by omega)) (by omega)) (by omega)), drew_cellm (keep2m (keep2m (keep2m (keep2m p5 (by omega)) (by omega)) (by omega)) (by omega)), drew_cellm (keep2m (keep2m (keep2m (keep2m p6 (by omega)) (by omega)) (by omega)) (by omega)), drew_cellm (keep2m (keep2m (keep2m (keep2m p7 (by omega)) (by omega)) (by omega)) (by omega)), drew_cellm (keep2m (keep2m (keep2m (keep2m p8 (by omega)) (by omega)) (by omega)) (by omega)), drew_cellm (keep2m (keep2m (keep2m (keep2m p9 (by omega)) (by omega)) (by omega)) (by omega))⟩ | with_reducible exact ⟨drew_cellm (keep2m (keep2m (keep2m (keep2m (keep2m p0 (by omega)) (by omega)) (by omega)) (by omega)) (by omega)), drew_cellm (keep2m (keep2m (keep2m (keep2m (keep2m p1 (by omega)) (by omega)) (by omega)) (by omega)) (by omega)), drew_cellm (keep2m (keep2m (keep2m (keep2m (keep2m p2 (by omega)) (by omega)) (by omega)) (by omega)) (by omega)), drew_cellm (keep2m (keep2m (keep2m (keep2m (keep2m p3 (by omega)) (by omega)) (by omega)) (by omega)) (by omega)), drew_cellm (keep2m (keep2m (keep2m (keep2m (keep2m p4 (by omega)) (by omega)) (by omega)) (by omega)) (by omega)), drew_cellm (keep2m (keep2m (keep2m (keep2m (keep2m p5 (by omega)) (by omega)) (by omega)) (by omega)) (by omega)), drew_cellm (keep2m (keep2m (keep2m (keep2m (keep2m p6 (by omega)) (by omega)) (by omega)) (by omega)) (by omega)), drew_cellm (keep2m (keep2m (keep2m (keep2m (keep2m p7 (by omega)) (by omega)) (by omega)) (by omega)) (by omega)), drew_cellm (keep2m (keep2m (keep2m (keep2m (keep2m p8 (by omega)) (by omega)) (by omega)) (by omega)) (by omega)), drew_cellm (keep2m (keep2m (keep2m (keep2m (keep2m p9 (by omega)) (by omega)) (by omega)) (by omega)) (by omega))⟩) (fail)
  clear p0 p1 p2 p3 p4 p5 p6 p7 p8 p9
  have d0 := ((put2_other (x := (.slice B0 n.sorts.length e0)) (y := (.slice B1 n.ops.length e1)) (show w.heap.size ≠ w.heap.size + 4 by omega)).trans ((put2_other (x := (.slice A0 m.sorts.length c0)) (y := (.slice A1 m.ops.length c1)) (show w.heap.size ≠ w.heap.size + 3 by omega)).trans ((put2_other (x := (.int .i64 cs_)) (y := (.slice Ac cr.length cc)) (show w.heap.size ≠ w.heap.size + 2 by omega)).trans ((put2_other (x := (.int .i64 bs_)) (y := (.slice Ab br.length cb)) (show w.heap.size ≠ w.heap.size + 1 by omega)).trans (put2_at (x := (.int .i64 as_)) (y := (.slice Aa ar.length ca)) hra)))))
  have d1 := ((put2_other (x := (.slice B0 n.sorts.length e0)) (y := (.slice B1 n.ops.length e1)) (show w.heap.size + 1 ≠ w.heap.size + 4 by omega)).trans ((put2_other (x := (.slice A0 m.sorts.length c0)) (y := (.slice A1 m.ops.length c1)) (show w.heap.size + 1 ≠ w.heap.size + 3 by omega)).trans ((put2_other (x := (.int .i64 cs_)) (y := (.slice Ac cr.length cc)) (show w.heap.size + 1 ≠ w.heap.size + 2 by omega)).trans (put2_at (x := (.int .i64 bs_)) (y := (.slice Ab br.length cb)) ((put2_other (x := (.int .i64 as_)) (y := (.slice Aa ar.length ca)) (show w.heap.size + 1 ≠ w.heap.size by omega)).trans hrb)))))
  have d2 := ((put2_other (x := (.slice B0 n.sorts.length e0)) (y := (.slice B1 n.ops.length e1)) (show w.heap.size + 2 ≠ w.heap.size + 4 by omega)).trans ((put2_other (x := (.slice A0 m.sorts.length c0)) (y := (.slice A1 m.ops.length c1)) (show w.heap.size + 2 ≠ w.heap.size + 3 by omega)).trans (put2_at (x := (.int .i64 cs_)) (y := (.slice Ac cr.length cc)) ((put2_other (x := (.int .i64 bs_)) (y := (.slice Ab br.length cb)) (show w.heap.size + 2 ≠ w.heap.size + 1 by omega)).trans ((put2_other (x := (.int .i64 as_)) (y := (.slice Aa ar.length ca)) (show w.heap.size + 2 ≠ w.heap.size by omega)).trans hrc)))))
  have d3 := ((put2_other (x := (.slice B0 n.sorts.length e0)) (y := (.slice B1 n.ops.length e1)) (show w.heap.size + 3 ≠ w.heap.size + 4 by omega)).trans (put2_at (x := (.slice A0 m.sorts.length c0)) (y := (.slice A1 m.ops.length c1)) ((put2_other (x := (.int .i64 cs_)) (y := (.slice Ac cr.length cc)) (show w.heap.size + 3 ≠ w.heap.size + 2 by omega)).trans ((put2_other (x := (.int .i64 bs_)) (y := (.slice Ab br.length cb)) (show w.heap.size + 3 ≠ w.heap.size + 1 by omega)).trans ((put2_other (x := (.int .i64 as_)) (y := (.slice Aa ar.length ca)) (show w.heap.size + 3 ≠ w.heap.size by omega)).trans hrm)))))
  have d4 := (put2_at (x := (.slice B0 n.sorts.length e0)) (y := (.slice B1 n.ops.length e1)) ((put2_other (x := (.slice A0 m.sorts.length c0)) (y := (.slice A1 m.ops.length c1)) (show w.heap.size + 4 ≠ w.heap.size + 3 by omega)).trans ((put2_other (x := (.int .i64 cs_)) (y := (.slice Ac cr.length cc)) (show w.heap.size + 4 ≠ w.heap.size + 2 by omega)).trans ((put2_other (x := (.int .i64 bs_)) (y := (.slice Ab br.length cb)) (show w.heap.size + 4 ≠ w.heap.size + 1 by omega)).trans ((put2_other (x := (.int .i64 as_)) (y := (.slice Aa ar.length ca)) (show w.heap.size + 4 ≠ w.heap.size by omega)).trans hrn)))))
  have HLOW := Lib.hid (fun (k : Nat) (hk : w.heap.size + 5 ≤ k) => ((put2_other (x := (.slice B0 n.sorts.length e0)) (y := (.slice B1 n.ops.length e1)) (show k ≠ w.heap.size + 4 by omega)).trans ((put2_other (x := (.slice A0 m.sorts.length c0)) (y := (.slice A1 m.ops.length c1)) (show k ≠ w.heap.size + 3 by omega)).trans ((put2_other (x := (.int .i64 cs_)) (y := (.slice Ac cr.length cc)) (show k ≠ w.heap.size + 2 by omega)).trans ((put2_other (x := (.int .i64 bs_)) (y := (.slice Ab br.length cb)) (show k ≠ w.heap.size + 1 by omega)).trans (put2_other (wz := w5) (x := (.int .i64 as_)) (y := (.slice Aa ar.length ca)) (show k ≠ w.heap.size by omega)))))))
  have HBEL := Lib.hid (put2_bel (b := w.heap.size + 4) (x := (.slice B0 n.sorts.length e0)) (y := (.slice B1 n.ops.length e1)) (put2_bel (b := w.heap.size + 3) (x := (.slice A0 m.sorts.length c0)) (y := (.slice A1 m.ops.length c1)) (put2_bel (b := w.heap.size + 2) (x := (.int .i64 cs_)) (y := (.slice Ac cr.length cc)) (put2_bel (b := w.heap.size + 1) (x := (.int .i64 bs_)) (y := (.slice Ab br.length cb)) (put2_bel (b := w.heap.size) (x := (.int .i64 as_)) (y := (.slice Aa ar.length ca)) HBEL0.out (by omega)) (by omega)) (by omega)) (by omega)) (by omega))
  clear r0 rf0 r1 rf1 r2 rf2 r3 rf3 r4 rf4 r5 rf5 r6 rf6 r7 rf7 r8 rf8 r9 rf9
  generalize (((((((((w5.setCell ⟨w.heap.size, 0, none⟩ (.int .i64 as_)).setCell ⟨w.heap.size, 1, none⟩ (.slice Aa ar.length ca)).setCell ⟨w.heap.size + 1, 0, none⟩ (.int .i64 bs_)).setCell ⟨w.heap.size + 1, 1, none⟩ (.slice Ab br.length cb)).setCell ⟨w.heap.size + 2, 0, none⟩ (.int .i64 cs_)).setCell ⟨w.heap.size + 2, 1, none⟩ (.slice Ac cr.length cc)).setCell ⟨w.heap.size + 3, 0, none⟩ (.slice A0 m.sorts.length c0)).setCell ⟨w.heap.size + 3, 1, none⟩ (.slice A1 m.ops.length c1)).setCell ⟨w.heap.size + 4, 0, none⟩ (.slice B0 n.sorts.length e0)).setCell ⟨w.heap.size + 4, 1, none⟩ (.slice B1 n.ops.length e1) = w9 at d0 d1 d2 d3 d4 HLOW HBEL ⊢
  have k0 := drew_cellm (block_cell d0 0)
  have k1 := drew_cellm (block_cell d0 1)
  have k2 := drew_cellm (block_cell d1 0)
  have k3 := drew_cellm (block_cell d1 1)
  have k4 := drew_cellm (block_cell d2 0)
  have k5 := drew_cellm (block_cell d2 1)
  have k6 := drew_cellm (block_cell d3 0)
  have k7 := drew_cellm (block_cell d3 1)
  have k8 := drew_cellm (block_cell d4 0)
  have k9 := drew_cellm (block_cell d4 1)
  simp at k0 k1 k2 k3 k4 k5 k6 k7 k8 k9
  go_wp2
  refine bodyPost_ret (v := .tuple #[.agg #[.int .i64 as_, .slice Aa ar.length ca], .agg #[.int .i64 bs_, .slice Ab br.length cb], .agg #[.int .i64 cs_, .slice Ac cr.length cc], .agg #[.slice A0 m.sorts.length c0, .slice A1 m.ops.length c1], .agg #[.slice B0 n.sorts.length e0, .slice B1 n.ops.length e1]]) (by simp [results, Try.results14, go_sem, k0, k1, k2, k3, k4, k5, k6, k7, k8, k9]) rfl ?_
  exact ⟨_, _, _, _, _, ⟨as_, ar⟩, ⟨bs_, br⟩, ⟨cs_, cr⟩, m, n, rfl, osig_drewm (OSig.base (B := w1.heap.size) ⟨_, rfl, HO.out.same (fun k h1 h2 => HLOW.out k (by omega))⟩ (by omega)), osig_drewm (OSig.base (B := w1.heap.size) ⟨_, rfl, HB.out.same (fun k h1 h2 => HLOW.out k (by omega))⟩ (by omega)), osig_drewm (OSig.base (B := w1.heap.size) ⟨_, rfl, HC.out.same (fun k h1 h2 => HLOW.out k (by omega))⟩ (by omega)), OMapD.drew (OMapD.base (B := w1.heap.size) (HMM.out.same (fun k h1 h2 => HLOW.out k (by omega))) (by omega)), OMapD.drew (OMapD.base (B := w3.heap.size) (HNN.out.same (fun k h1 h2 => HLOW.out k (by omega))) (by omega)), map_drew HBEL.out⟩
end

section
open Go.RowKit
set_option linter.unusedVariables false
set_option linter.unusedSimpArgs false


set_option maxRecDepth 100000 in
theorem sameMap_yes (v v' : Value) (m : MMap) (w : World) (h : RMap w v m) (h' : RMap w v' m) :
    Calls Try.prog 17 #[v, v'] w fun e w' => e = .returned (.bool true) ∧ Below w.heap.size w w' := by
  obtain ⟨p, hp⟩ : ∃ p, p = m := ⟨_, rfl⟩
  have HP := Lib.hid hp
  replace h' : RMap w v' p := by rw [hp]; exact h'
  clear hp
  obtain ⟨Ama, cma, Amb, cmb, rfl⟩ := h.form
  obtain ⟨Apa, cpa, Apb, cpb, rfl⟩ := h'.form
  have hb : Below w.heap.size w ((w.alloc (.cells #[.slice Ama m.sorts.length cma, .slice Amb m.ops.length cmb] 28)).alloc (.cells #[.slice Apa p.sorts.length cpa, .slice Apb p.ops.length cpb] 28)) := (below_alloc _ _).alloc (by simp) _
  have HB := Lib.hid hb
  have hsz : ((w.alloc (.cells #[.slice Ama m.sorts.length cma, .slice Amb m.ops.length cmb] 28)).alloc (.cells #[.slice Apa p.sorts.length cpa, .slice Apb p.ops.length cpb] 28)).heap.size = w.heap.size + 2 := by simp
  have Hm := Lib.hid (h.keep hb)
  have m0 := cell_keep (below_alloc (w.alloc (.cells #[.slice Ama m.sorts.length cma, .slice Amb m.ops.length cmb] 28)) (.cells #[.slice Apa p.sorts.length cpa, .slice Apb p.ops.length cpb] 28)) (bx_at (w) #[.slice Ama m.sorts.length cma, .slice Amb m.ops.length cmb] 28 (k := 0) rfl)
  have m1 := cell_keep (below_alloc (w.alloc (.cells #[.slice Ama m.sorts.length cma, .slice Amb m.ops.length cmb] 28)) (.cells #[.slice Apa p.sorts.length cpa, .slice Apb p.ops.length cpb] 28)) (bx_at (w) #[.slice Ama m.sorts.length cma, .slice Amb m.ops.length cmb] 28 (k := 1) rfl)
  have Hp := Lib.hid (h'.keep hb)
  have p0 := bx_at (w.alloc (.cells #[.slice Ama m.sorts.length cma, .slice Amb m.ops.length cmb] 28)) #[.slice Apa p.sorts.length cpa, .slice Apb p.ops.length cpb] 28 (k := 0) rfl
  have p1 := bx_at (w.alloc (.cells #[.slice Ama m.sorts.length cma, .slice Amb m.ops.length cmb] 28)) #[.slice Apa p.sorts.length cpa, .slice Apb p.ops.length cpb] 28 (k := 1) rfl
  simp only [World.size_alloc] at p0 p1
  generalize hW : (w.alloc (.cells #[.slice Ama m.sorts.length cma, .slice Amb m.ops.length cmb] 28)).alloc (.cells #[.slice Apa p.sorts.length cpa, .slice Apb p.ops.length cpb] 28) = W at HB hsz Hm m0 m1 Hp p0 p1
  clear hb h h'
  have HS := Lib.hid (show sameI m.sorts p.sorts = true by rw [HP.out]; unfold sameI; simp)
  have HO := Lib.hid (show sameI m.ops p.ops = true by rw [HP.out]; unfold sameI; simp)
  go_enter Try.func17, Try.ntmps17
  go_wp2_with fail
  clear hW
  refine (sameInts_any _ _ m.sorts p.sorts _ Hm.out.of.1 Hp.out.of.1).mono ?_
  rw [HS.out]
  rintro e w1 ⟨rfl, hd⟩
  have hb := hd.below
  have f0 := cell_keep hb m1
  have f1 := cell_keep hb p1
  have HB1 := Lib.hid (sz_keep HB.out hb)
  have R0 := Lib.hid (Hm.out.of.2.keep hb)
  have R1 := Lib.hid (Hp.out.of.2.keep hb)
  clear hd hb m0 m1 p0 p1
  go_wp2_with fail
  refine (sameInts_any _ _ m.ops p.ops _ R0.out R1.out).mono ?_
  rw [HO.out]
  rintro e w2 ⟨rfl, hd⟩
  have HB2 := Lib.hid (sz_keep HB1.out hd.below)
  clear hd f0 f1
  go_wp2
  go_ret
  exact ⟨rfl, HB2.out⟩
end
end Go.Proofs.Ytkhabmoidpgapab
