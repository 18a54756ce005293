/- DrawVarsOk, DrawTermSort, DrawTermAt. -/
import Derived.Test.YtcbjfedhebeogabDrawA
namespace Go.Proofs.Ytcbjfedhebeogab
open Go.RowKit
set_option linter.unusedVariables false

/-- the result's signature is written at the end of a draw -/
theorem fin_sig {w w3 : World} {B : Nat} {sorts : Int} {u : Value} {rows : List (List Int)} (hres : w3.heap[w.heap.size]? = some (.cells #[.int .i64 0, .slice none 0 0] 25 (0, 0))) (ho : ORows w3 B u rows) (hB : w.heap.size < B) (hb : Below w.heap.size w w3) :
    let w9 := (w3.setCell ⟨w.heap.size, 0, none⟩ (.int .i64 sorts)).setCell ⟨w.heap.size, 1, none⟩ u
    w9.heap[w.heap.size]? = some (.cells #[.int .i64 sorts, u] 25 (0, 0)) ∧ OSig w9 w.heap.size (.agg #[.int .i64 sorts, u]) ⟨sorts, rows⟩ ∧ Below w.heap.size w w9 ∧ (∀ (v : Value) (xs : List Int) (C : Nat), w.heap.size < C → OInts w3 C v xs → OInts w9 w.heap.size v xs) ∧ (∀ (v : Value) (xs : List (List Int)) (C : Nat), w.heap.size < C → ORows w3 C v xs → ORows w9 w.heap.size v xs) := by
  intro w9
  refine ⟨block_set (block_set hres 0 _) 1 u, ⟨_, rfl, ((ho.setLow hB _ _).setLow hB _ _).base (by omega)⟩, (hb.setCell (Nat.le_refl _) _).setCell (Nat.le_refl _) _, fun v xs C hC h => ?_, fun v xs C hC h => ?_⟩
  · exact OInts.base (ownsRow_setCell_below (ownsRow_setCell_below h hC _) hC _) (by omega)
  · exact ((h.setLow hC _ _).setLow hC _ _).base (by omega)

def Draw3Post (w : World) (e : Ending) (w' : World) : Prop :=
  ∃ (sv : Value) (s : MSig) (vv : Value) (vars : List Int) (tv : Value) (t : List Int), e = .returned (.tuple #[sv, vv, tv]) ∧ OSig w' w.heap.size sv s ∧ OInts w' w.heap.size vv vars ∧ OInts w' w.heap.size tv t ∧ (∃ ad c, tv = .slice (some ad) t.length c) ∧ s.ops.length ≤ 5 ∧ vars.length ≤ 5 ∧ t.length ≤ 40 ∧ Small t ∧ Below w.heap.size w w'
def Draw4Post (w : World) (e : Ending) (w' : World) : Prop :=
  ∃ (sv : Value) (s : MSig) (vv : Value) (vars : List Int) (tv : Value) (t : List Int) (a : Int), e = .returned (.tuple #[sv, vv, tv, .int .i64 a]) ∧ OSig w' w.heap.size sv s ∧ OInts w' w.heap.size vv vars ∧ OInts w' w.heap.size tv t ∧ (∃ ad c, tv = .slice (some ad) t.length c) ∧ s.ops.length ≤ 5 ∧ vars.length ≤ 5 ∧ t.length ≤ 40 ∧ Small t ∧ Below w.heap.size w w'
def Draw2Post (w : World) (e : Ending) (w' : World) : Prop :=
  ∃ (sv : Value) (s : MSig) (vv : Value) (vars : List Int), e = .returned (.tuple #[sv, vv]) ∧ OSig w' w.heap.size sv s ∧ OInts w' w.heap.size vv vars ∧ s.ops.length ≤ 5 ∧ vars.length ≤ 5 ∧ Below w.heap.size w w'

set_option maxRecDepth 100000 in
theorem drawTermSort_any (v : Value) (bs : List Int) (w : World) (h : RBytes w w.heap.size v bs) :
    Calls Try.prog 13 #[v] w (Draw3Post w) := by
  have hb0 := below_alloc w (.cells #[.int .i64 0, .slice none 0 0] 25)
  have HW := Lib.hid (bytes_alloc h hb0)
  obtain ⟨A, c, rfl, -⟩ := h
  go_enter Try.func13, Try.ntmps13
  go_wp2_with fail
  refine (open_any _ bs _ HW.out).mono ?_
  rintro e w1 ⟨rfl, hr1, hb1⟩
  have hr1' : RRd w1 (w.heap.size + 1) 0 := by simpa using hr1
  have HR1 := Lib.hid hr1'
  have HB1 := Lib.hid hb1
  clear hr1 hr1' hb1
  go_wp2_with fail
  refine (termOf_draw (w.heap.size + 1) 0 _ _ HR1.out (by omega) (by omega) (by omega)).mono ?_
  rintro e w2 ⟨sv, ⟨sorts, rows⟩, vv, vars, tv, t, q, rfl, ⟨u, rfl, ho⟩, hov, hot, ⟨ad, ct, rfl⟩, hs1, hs2, hs3, hs4, hr2, hq2, hg2⟩
  obtain ⟨Au, cu, rfl, -⟩ := ho.reads.form
  obtain ⟨Av, cv, rfl, -⟩ := own_reads hov
  have hsz := HB1.out.size
  simp at hsz
  have hres := gr_at hg2 (by omega) ((HB1.out.block w.heap.size (by simp)).trans (heap_alloc_new w _))
  have e3 := block_cell hres 0
  have e4 := block_cell hres 1
  have e5 := block_free hres 0
  have e6 := block_free hres 1
  simp at e3 e4
  have D := Lib.hid (fin_sig (sorts := sorts) hres ho (by omega) ((hb0.trans (HB1.out.mono (by simp))).trans (below_of_gr' hg2 (by omega))))
  have HOV := Lib.hid hov
  have HOT := Lib.hid hot
  clear ho hov hot hres hg2 hr2
  go_wp2
  obtain ⟨d1, d2, d3, d4, -⟩ := D.out
  have HV9 := Lib.hid (d4 _ _ _ (by omega) HOV.out)
  have HT9 := Lib.hid (d4 _ _ _ (by omega) HOT.out)
  clear d4 D
  generalize (w2.setCell ⟨w.heap.size, 0, none⟩ (.int .i64 sorts)).setCell ⟨w.heap.size, 1, none⟩ (.slice Au rows.length cu) = w9 at d1 d2 d3 HV9 HT9 ⊢
  have k0 := block_cell d1 0
  have k1 := block_cell d1 1
  simp at k0 k1
  refine bodyPost_ret (v := .tuple #[.agg #[.int .i64 sorts, .slice Au rows.length cu], .slice Av vars.length cv, .slice (some ad) t.length ct]) (by simp [results, Try.results13, go_sem, k0, k1]) rfl ?_
  exact ⟨_, ⟨sorts, rows⟩, _, vars, _, t, rfl, d2, HV9.out, HT9.out, ⟨_, _, rfl⟩, hs1, hs2, hs3, hs4, d3⟩

set_option maxHeartbeats 800000 in
set_option maxRecDepth 100000 in
theorem drawTermAt_any (v : Value) (bs : List Int) (w : World) (h : RBytes w w.heap.size v bs) :
    Calls Try.prog 24 #[v] w (Draw4Post w) := by
  have hb0 := below_alloc w (.cells #[.int .i64 0, .slice none 0 0] 25)
  have HW := Lib.hid (bytes_alloc h hb0)
  obtain ⟨A, c, rfl, -⟩ := h
  go_enter Try.func24, Try.ntmps24
  go_wp2_with fail
  refine (open_any _ bs _ HW.out).mono ?_
  rintro e w1 ⟨rfl, hr1, hb1⟩
  have hr1' : RRd w1 (w.heap.size + 1) 0 := by simpa using hr1
  have HR1 := Lib.hid hr1'
  have HB1 := Lib.hid hb1
  clear hr1 hr1' hb1
  go_wp2_with fail
  refine (termOf_draw (w.heap.size + 1) 0 _ _ HR1.out (by omega) (by omega) (by omega)).mono ?_
  rintro e w2 ⟨sv, ⟨sorts, rows⟩, vv, vars, tv, t, q, rfl, ⟨u, rfl, ho⟩, hov, hot, ⟨ad, ct, rfl⟩, hs1, hs2, hs3, hs4, hr2, hq2, hg2⟩
  obtain ⟨Au, cu, rfl, -⟩ := ho.reads.form
  obtain ⟨Av, cv, rfl, -⟩ := own_reads hov
  simp only at hs1 ho
  have hsz := HB1.out.size
  simp at hsz
  have hz2 : w1.heap.size ≤ w2.heap.size := hg2.size
  have hlt1 : w.heap.size + 1 < w1.heap.size := HR1.out.lt
  have hal := below_alloc w2 (.cells #[.int .i64 sorts, .slice Au rows.length cu] 25)
  have HRES := Lib.hid ((heap_alloc_old w2 (.cells #[.int .i64 sorts, .slice Au rows.length cu] 25) (by omega)).trans (gr_at hg2 (by omega) ((HB1.out.block w.heap.size (by simp)).trans (heap_alloc_new w (.cells #[.int .i64 0, .slice none 0 0] 25)))))
  have HBX := Lib.hid (heap_alloc_new w2 (.cells #[.int .i64 sorts, .slice Au rows.length cu] 25))
  have HB3 := Lib.hid (((hb0.trans (HB1.out.mono (by simp))).trans (below_of_gr' hg2 (by omega))).trans (hal.mono (by omega)))
  have HO := Lib.hid (ho.keep hal)
  have HOV := Lib.hid (hov.keep hal)
  have HOT := Lib.hid (hot.keep hal)
  have HR := Lib.hid (hr2.keep hal)
  clear ho hov hot hr2 hg2 hal
  generalize hW3 : w2.alloc (.cells #[.int .i64 sorts, .slice Au rows.length cu] 25) = w3 at HRES HBX HB3 HO HOV HOT HR
  have g0 := block_cell HBX.out 0
  have g1 := block_cell HBX.out 1
  simp at g0 g1
  go_wp2_with fail
  clear hW3
  have ea := World.new_ne w3 _ g0
  go_region_held3 (fun w' => w'.cell? ⟨w2.heap.size, 0, none⟩ = some (.int .i64 sorts) ∧ w'.cell? ⟨w2.heap.size, 1, none⟩ = some (.slice Au rows.length cu)) (first | go_keep | exact ⟨j0, j1⟩ | exact ⟨i0, i1⟩ | exact ⟨block_cell (block_set_ne (block_set_ne (gr_at HG5.out (by omega) HBX.out) 0 _ (by omega)) 1 _ (by omega)) 0, block_cell (block_set_ne (block_set_ne (gr_at HG5.out (by omega) HBX.out) 0 _ (by omega)) 1 _ (by omega)) 1⟩)
    (first
      | (go_at_call_of 39 (Value.int .i64 20); refine (pick_any (w.heap.size + 1) (q + 1) 20 _ HR4.out (by omega)).mono ?_; rintro e w5 ⟨x5, rfl, -, hr5, hg5⟩; have HG5 := Lib.hid (gr_more HG4.out hg5); have i0 := block_cell (gr_at HG5.out (by omega) HBX.out) 0; have i1 := block_cell (gr_at HG5.out (by omega) HBX.out) 1; have r0 := block_cell (gr_at HG5.out (by omega) HRES.out) 0; have r1 := block_cell (gr_at HG5.out (by omega) HRES.out) 1; simp at i0 i1 r0 r1; have r2 := block_free (gr_at HG5.out (by omega) HRES.out) 0; have r3 := block_free (gr_at HG5.out (by omega) HRES.out) 1; clear hr5 hg5)
      | (go_at_call 39; refine (pick_any (w.heap.size + 1) q _ w3.drew HR.out (by omega)).mono ?_; rintro e w4 ⟨x4, rfl, -, hr4, hg4⟩; have HR4 := Lib.hid hr4; have HG4 := Lib.hid (gr_drew hg4); have j0 := block_cell (gr_at HG4.out (by omega) HBX.out) 0; have j1 := block_cell (gr_at HG4.out (by omega) HBX.out) 1; simp at j0 j1; clear hr4 hg4))
  clear j0 j1 i0 i1 r0 r1 r2 r3 g0 g1 ea
  have hz3 : w2.heap.size < w3.heap.size := (Array.getElem?_eq_some_iff.1 HBX.out).1
  have D := Lib.hid (fin_sig (sorts := sorts) (gr_at HG5.out (by omega) HRES.out) (HO.out.grown HG5.out (fun k e => by injection e with e; omega)) (by omega) (HB3.out.trans (below_of_gr' HG5.out (by omega))))
  have HV5 := Lib.hid (HOV.out.past HG5.out (by omega))
  have HT5 := Lib.hid (HOT.out.past HG5.out (by omega))
  obtain ⟨d1, d2, d3, d4, -⟩ := D.out
  have HV9 := Lib.hid (d4 _ _ _ (by omega) HV5.out)
  have HT9 := Lib.hid (d4 _ _ _ (by omega) HT5.out)
  clear d4 D
  generalize (w5.setCell ⟨w.heap.size, 0, none⟩ (.int .i64 sorts)).setCell ⟨w.heap.size, 1, none⟩ (.slice Au rows.length cu) = w9 at d1 d2 d3 HV9 HT9 ⊢
  generalize IntKind.i64.wrap (x4 - IntKind.i64.wrap (x5.tdiv 19)) = a
  have k0 := block_cell d1 0
  have k1 := block_cell d1 1
  simp at k0 k1
  go_wp2
  refine bodyPost_ret (v := .tuple #[.agg #[.int .i64 sorts, .slice Au rows.length cu], .slice Av vars.length cv, .slice (some ad) t.length ct, .int .i64 a]) (by simp [results, Try.results24, go_sem, k0, k1]) rfl ?_
  exact ⟨_, ⟨sorts, rows⟩, _, vars, _, t, a, rfl, d2, HV9.out, HT9.out, ⟨_, _, rfl⟩, hs1, hs2, hs3, hs4, d3⟩

set_option maxHeartbeats 800000 in
set_option maxRecDepth 100000 in
theorem drawVarsOk_any (v : Value) (bs : List Int) (w : World) (h : RBytes w w.heap.size v bs) :
    Calls Try.prog 8 #[v] w (Draw2Post w) := by
  have hb0 := below_alloc w (.cells #[.int .i64 0, .slice none 0 0] 25)
  have HW := Lib.hid (bytes_alloc h hb0)
  obtain ⟨A, c, rfl, -⟩ := h
  go_enter Try.func8, Try.ntmps8
  go_wp2_with fail
  refine (open_any _ bs _ HW.out).mono ?_
  rintro e w1 ⟨rfl, hr1, hb1⟩
  have hr1' : RRd w1 (w.heap.size + 1) 0 := by simpa using hr1
  have HR1 := Lib.hid hr1'
  have HB1 := Lib.hid hb1
  clear hr1 hr1' hb1
  go_wp2_with fail
  refine (sig_any (w.heap.size + 1) 0 _ _ HR1.out (by omega) (by omega) (by omega)).mono ?_
  rintro e w2 ⟨sv, ⟨sorts, rows⟩, q, rfl, ⟨u, rfl, ho⟩, hs1, hr2, hq2, hg2⟩
  obtain ⟨Au, cu, rfl, -⟩ := ho.reads.form
  simp only at hs1 ho
  have hsz := HB1.out.size
  simp at hsz
  have hz2 : w1.heap.size ≤ w2.heap.size := hg2.size
  have hlt1 : w.heap.size + 1 < w1.heap.size := HR1.out.lt
  have hal := below_alloc w2 (.cells #[.int .i64 sorts, .slice Au rows.length cu] 25)
  have HRES := Lib.hid ((heap_alloc_old w2 (.cells #[.int .i64 sorts, .slice Au rows.length cu] 25) (by omega)).trans (gr_at hg2 (by omega) ((HB1.out.block w.heap.size (by simp)).trans (heap_alloc_new w (.cells #[.int .i64 0, .slice none 0 0] 25)))))
  have HBX := Lib.hid (heap_alloc_new w2 (.cells #[.int .i64 sorts, .slice Au rows.length cu] 25))
  have HB3 := Lib.hid (((hb0.trans (HB1.out.mono (by simp))).trans (below_of_gr' hg2 (by omega))).trans (hal.mono (by omega)))
  have HO := Lib.hid (ho.keep hal)
  have HR := Lib.hid (hr2.keep hal)
  clear ho hr2 hg2 hal
  generalize hW3 : w2.alloc (.cells #[.int .i64 sorts, .slice Au rows.length cu] 25) = w3 at HRES HBX HB3 HO HR
  have g0 := block_cell HBX.out 0
  have g1 := block_cell HBX.out 1
  simp at g0 g1
  have HRS := Lib.hid (show RSig w3 (.agg #[.int .i64 sorts, .slice Au rows.length cu]) ⟨sorts, rows⟩ from ⟨_, rfl, HO.out.reads⟩)
  go_wp2_with fail
  clear hW3
  have ea := World.new_ne w3 _ g0
  go_region_held3 (fun w' => w'.cell? ⟨w2.heap.size, 0, none⟩ = some (.int .i64 sorts) ∧ w'.cell? ⟨w2.heap.size, 1, none⟩ = some (.slice Au rows.length cu)) (first | go_keep | exact ⟨i0, i1⟩ | exact ⟨block_cell (block_set_ne (block_set_ne (gr_at HG5.out (by omega) HBX.out) 0 _ (by omega)) 1 _ (by omega)) 0, block_cell (block_set_ne (block_set_ne (gr_at HG5.out (by omega) HBX.out) 0 _ (by omega)) 1 _ (by omega)) 1⟩)
    (first
      | (go_at_call 28; refine (drawVars_any (w.heap.size + 1) q 4 ⟨sorts, rows⟩ _ w3.drew HR.out (by omega) (by omega) (by omega) HRS.out).mono ?_; rintro e w5 ⟨vv, vars, q5, rfl, hov, hvl, hr5, hq5, hg5⟩; obtain ⟨Av, cv, rfl, -⟩ := own_reads hov; have HOV := Lib.hid hov; have HVL := Lib.hid hvl; have HG5 := Lib.hid (gr_drew hg5); have i0 := block_cell (gr_at HG5.out (by omega) HBX.out) 0; have i1 := block_cell (gr_at HG5.out (by omega) HBX.out) 1; have r0 := block_cell (gr_at HG5.out (by omega) HRES.out) 0; have r1 := block_cell (gr_at HG5.out (by omega) HRES.out) 1; simp at i0 i1 r0 r1; have r2 := block_free (gr_at HG5.out (by omega) HRES.out) 0; have r3 := block_free (gr_at HG5.out (by omega) HRES.out) 1; clear hr5 hg5 hov hvl))
  clear i0 i1 r0 r1 r2 r3 g0 g1 ea
  have hz3 : w2.heap.size < w3.heap.size := (Array.getElem?_eq_some_iff.1 HBX.out).1
  have D := Lib.hid (fin_sig (sorts := sorts) (gr_at HG5.out (by omega) HRES.out) (HO.out.grown HG5.out (fun k e => by injection e with e; omega)) (by omega) (HB3.out.trans (below_of_gr' HG5.out (by omega))))
  obtain ⟨d1, d2, d3, d4, -⟩ := D.out
  have HV9 := Lib.hid (d4 _ _ _ (by show w.heap.size < w3.heap.size; omega) HOV.out)
  clear d4 D
  generalize (w5.setCell ⟨w.heap.size, 0, none⟩ (.int .i64 sorts)).setCell ⟨w.heap.size, 1, none⟩ (.slice Au rows.length cu) = w9 at d1 d2 d3 HV9 ⊢
  have k0 := block_cell d1 0
  have k1 := block_cell d1 1
  simp at k0 k1
  go_wp2
  refine bodyPost_ret (v := .tuple #[.agg #[.int .i64 sorts, .slice Au rows.length cu], .slice Av vars.length cv]) (by simp [results, Try.results8, go_sem, k0, k1]) rfl ?_
  exact ⟨_, ⟨sorts, rows⟩, _, vars, rfl, d2, HV9.out, hs1, HVL.out, d3⟩
end Go.Proofs.Ytcbjfedhebeogab
