/- DrawTermSwap. -/
import Derived.Test.YtcbjfedhebeogacDrawB
import Derived.Test.YtcbjfedhebeogacAt
namespace Go.Proofs.Ytcbjfedhebeogac
open Go.RowKit
set_option linter.unusedVariables false

def DrawSwapPost (w : World) (e : Ending) (w' : World) : Prop :=
  ∃ (sv : Value) (s : MSig) (vv : Value) (vars : List Int) (tv : Value) (t : List Int) (a : Int) (xv : Value) (xs : List Int), e = .returned (.tuple #[sv, vv, tv, .int .i64 a, xv]) ∧ OSig w' w.heap.size sv s ∧ OInts w' w.heap.size vv vars ∧ OInts w' w.heap.size tv t ∧ (∃ ad c, tv = .slice (some ad) t.length c) ∧ OInts w' w.heap.size xv xs ∧ s.ops.length ≤ 5 ∧ vars.length ≤ 5 ∧ t.length ≤ 40 ∧ Small t ∧ xs.length ≤ 7 ∧ Small xs ∧ Below w.heap.size w w'

set_option maxHeartbeats 1600000 in
set_option maxRecDepth 100000 in
theorem drawTermSwap_any (v : Value) (bs : List Int) (w : World) (h : RBytes w w.heap.size v bs) :
    Calls Try.prog 9 #[v] w (DrawSwapPost w) := by
  have hb0 := below_alloc w (.cells #[.int .i64 0, .slice none 0 0] 25)
  have HW := Lib.hid (bytes_alloc h hb0)
  obtain ⟨A, c, rfl, -⟩ := h
  go_enter Try.func9, Try.ntmps9
  go_wp2_with fail
  refine (open_any _ bs _ HW.out).mono ?_
  rintro e w1 ⟨rfl, hr1, hb1⟩
  have hr1' : RRd w1 (w.heap.size + 1) 0 := by simpa using hr1
  have HR1 := Lib.hid hr1'
  have HB1 := Lib.hid hb1
  clear hr1 hr1' hb1
  go_wp2_with fail
  refine (termOf_draw (w.heap.size + 1) 0 _ _ HR1.out (by omega) (by omega) (by omega)).mono ?_
  rintro e w2 ⟨sv, ⟨sorts, rows⟩, vv, vars, tv, t, q, rfl, ⟨u, rfl, ho⟩, hov, hot, ⟨ad, ct, rfl⟩, hs1, hs2, hs3, hs4, hr2, hq2, hg2⟩
  obtain ⟨Au, cu, rfl, -⟩ := ho.reads.form
  obtain ⟨Av, cv, rfl, -⟩ := own_reads hov
  simp only at hs1 ho
  have hsz := HB1.out.size
  simp at hsz
  have hz2 : w1.heap.size ≤ w2.heap.size := hg2.size
  have hlt1 : w.heap.size + 1 < w1.heap.size := HR1.out.lt
  have hal := below_alloc w2 (.cells #[.int .i64 sorts, .slice Au rows.length cu] 25)
  have HRES := Lib.hid ((heap_alloc_old w2 (.cells #[.int .i64 sorts, .slice Au rows.length cu] 25) (by omega)).trans (gr_at hg2 (by omega) ((HB1.out.block w.heap.size (by simp)).trans (heap_alloc_new w (.cells #[.int .i64 0, .slice none 0 0] 25)))))
  have HBX := Lib.hid (heap_alloc_new w2 (.cells #[.int .i64 sorts, .slice Au rows.length cu] 25))
  have HB3 := Lib.hid (((hb0.trans (HB1.out.mono (by simp))).trans (below_of_gr' hg2 (by omega))).trans (hal.mono (by omega)))
  have HO := Lib.hid (ho.keep hal)
  have HOV := Lib.hid (hov.keep hal)
  have HOT := Lib.hid (hot.keep hal)
  have HR := Lib.hid (hr2.keep hal)
  clear ho hov hot hr2 hg2 hal
  generalize hW3 : w2.alloc (.cells #[.int .i64 sorts, .slice Au rows.length cu] 25) = w3 at HRES HBX HB3 HO HOV HOT HR
  have hz3 : w2.heap.size < w3.heap.size := (Array.getElem?_eq_some_iff.1 HBX.out).1
  have g0 := block_cell HBX.out 0
  have g1 := block_cell HBX.out 1
  simp at g0 g1
  have HRS := Lib.hid (show RSig w3 (.agg #[.int .i64 sorts, .slice Au rows.length cu]) ⟨sorts, rows⟩ from ⟨_, rfl, HO.out.reads⟩)
  go_wp2_with fail
  clear hW3
  refine (pick_any (w.heap.size + 1) q _ w3 HR.out (by omega)).mono ?_
  rintro e w4 ⟨x4, rfl, -, hr4, hg4⟩
  have hz4 : w3.heap.size ≤ w4.heap.size := hg4.size
  have HE := Lib.hid (own_empty w4)
  have HR5 := Lib.hid (hr4.keep (below_alloc w4 (.cells #[] 3)))
  have HG5 := Lib.hid (gr_alloc hg4 (.cells #[] 3))
  clear hr4 hg4 g0 g1
  generalize hW5 : w4.alloc (.cells #[] 3) = w5 at HE HR5 HG5
  have g0 := block_cell (gr_at HG5.out (by omega) HBX.out) 0
  have g1 := block_cell (gr_at HG5.out (by omega) HBX.out) 1
  simp at g0 g1
  have HRS5 := Lib.hid (show RSig w5 (.agg #[.int .i64 sorts, .slice Au rows.length cu]) ⟨sorts, rows⟩ from ⟨_, rfl, (HO.out.grown HG5.out (fun k e => by injection e with e; omega)).reads⟩)
  have HRV5 := Lib.hid ((HOV.out.past HG5.out (by omega)).reads)
  have HRT5 := Lib.hid ((HOT.out.past HG5.out (by omega)).reads)
  go_upto_if 31 with (go_at_call 41; refine (specTermSort_any ⟨sorts, rows⟩ vars t _ _ _ _ HRS5.out HRV5.out HRT5.out).mono ?_; rintro e w6 ⟨rfl, hb6⟩; have HG6 := Lib.hid (gr_below HG5.out hb6); have HR6 := Lib.hid (HR5.out.keep hb6); have HE6 := Lib.hid (HE.out.keep hb6); clear hb6 g0 g1 hW5)
  go_cut [12] (fun t12 wx => ∃ (us : List Int) (qx : Nat), w3.grownBy wx (some (w.heap.size + 1)) ∧ RRd wx (w.heap.size + 1) qx ∧ OInts wx w3.heap.size t12 us ∧ us.length ≤ 7 ∧ Small us)
  case first =>
    by_cases h0 : 0 ≤ sortM ⟨sorts, rows⟩ vars t
    · obtain ⟨tm0, hvb, -⟩ := sortM_to h0
      have HVAL := Lib.hid ((vars_valid hvb).1)
      have g0 := block_cell (gr_at HG6.out (by omega) HBX.out) 0
      have g1 := block_cell (gr_at HG6.out (by omega) HBX.out) 1
      simp at g0 g1
      go_wp2_with fail
      refine (drawAny_any ⟨sorts, rows⟩ vars HVAL.out (by omega) 2 (by omega) (w.heap.size + 1) (q + 1) _ _ w6 HR6.out (by rw [show Qb 2 = 21636 from rfl]; omega) ⟨_, rfl, (HO.out.grown HG6.out (fun k e => by injection e with e; omega)).base (by omega)⟩ ((HOV.out.past HG6.out (by omega)).base (by omega))).mono ?_
      rintro e w7 ⟨uv, us, q7, rfl, ⟨ad7, c7, rfl⟩, hou, hul, hus, hr7, hq7, hg7⟩
      rw [show Lb 2 = 7 from rfl] at hul
      rw [show Qb 2 = 21636 from rfl] at hq7
      have hz6 : w3.heap.size ≤ w6.heap.size := HG6.out.size
      have HOU7 := Lib.hid (hou.base hz6)
      have HG7 := Lib.hid (gr_more HG6.out hg7)
      have HR7 := Lib.hid hr7
      have HUS := Lib.hid hus
      have hz7 : w3.heap.size ≤ w7.heap.size := HG7.out.size
      clear hou hus hr7 hg7 g0 g1
      by_cases h1 : x4 < (t.length : Int)
      · have g0 := block_cell (gr_at HG7.out (by omega) HBX.out) 0
        have g1 := block_cell (gr_at HG7.out (by omega) HBX.out) 1
        simp at g0 g1
        have HS7 := Lib.hid (show RSig w7 (.agg #[.int .i64 sorts, .slice Au rows.length cu]) ⟨sorts, rows⟩ from ⟨_, rfl, (HO.out.grown HG7.out (fun k e => by injection e with e; omega)).reads⟩)
        have HV7 := Lib.hid ((HOV.out.past HG7.out (by omega)).reads)
        have HT7 := Lib.hid ((HOT.out.past HG7.out (by omega)).reads)
        go_wp2_with fail
        have ea := World.new_ne w7 _ g0
        go_region_held3 (fun w' => w'.cell? ⟨w2.heap.size, 0, none⟩ = some (.int .i64 sorts) ∧ w'.cell? ⟨w2.heap.size, 1, none⟩ = some (.slice Au rows.length cu)) (first | exact ⟨j0, j1⟩ | exact ⟨i0, i1⟩ | exact ⟨k0, k1⟩ | go_keep)
          (first
            | (go_at_call 44; refine (specTermAt_any ⟨sorts, rows⟩ vars t x4 w7.drew _ _ _ (HS7.out.keep (bel_drew (Below.refl _ _))) (HV7.out.keep (bel_drew (Below.refl _ _))) (HT7.out.keep (bel_drew (Below.refl _ _)))).mono ?_; rintro e w8 ⟨pv, rfl, hop, hb8⟩; obtain ⟨Ap, cp, rfl, -⟩ := own_reads hop; have HP8 := Lib.hid hop.reads; have HB8 := Lib.hid (show Below w7.heap.size w7 w8 from bel_undrew hb8); have j0 := cell_keep HB8.out g0; have j1 := cell_keep HB8.out g1; clear hop hb8)
            | (go_at_call 41; refine (specTermSort_any ⟨sorts, rows⟩ vars (atM ⟨sorts, rows⟩ vars t x4) w8 _ _ _ (HS7.out.keep HB8.out) (HV7.out.keep HB8.out) HP8.out).mono ?_; rintro e w9 ⟨rfl, hb9⟩; have HB9 := Lib.hid (fit_keep HB8.out hb9); have i0 := cell_keep hb9 j0; have i1 := cell_keep hb9 j1; have HG9 := Lib.hid (gr_below HG7.out HB9.out); have HR9 := Lib.hid (HR7.out.keep HB9.out); clear hb9)
            | (go_at_call 43; refine (dterm_any ⟨sorts, rows⟩ vars HVAL.out (by omega) 2 (by omega) (w.heap.size + 1) q7 _ _ _ w9 HR9.out (by rw [show Qb 2 = 21636 from rfl]; omega) ⟨_, rfl, (HO.out.grown HG9.out (fun k e => by injection e with e; omega)).base (by omega)⟩ ((HOV.out.past HG9.out (by omega)).base (by omega))).mono ?_; rintro e w10 ⟨yv, ys, q10, rfl, ⟨ad10, c10, rfl⟩, hoy, hyl, hys, hr10, hq10, hg10⟩; have hz9 : w3.heap.size ≤ w9.heap.size := HG9.out.size; have HOY := Lib.hid (hoy.base hz9); have HG10 := Lib.hid (gr_more HG9.out hg10); have HR10 := Lib.hid hr10; have HYS := Lib.hid (And.intro hyl hys); have k0 := block_cell (gr_at HG10.out (by omega) HBX.out) 0; have k1 := block_cell (gr_at HG10.out (by omega) HBX.out) 1; simp at k0 k1; clear hoy hyl hys hr10 hg10))
        clear j0 j1 i0 i1 k0 k1 g0 g1 ea
        go_wp2
        go_meet
        case rel => exact ⟨ys, q10, HG10.out, HR10.out, HOY.out, HYS.out.1, HYS.out.2⟩
      · go_wp2
        go_meet
        case rel => exact ⟨us, q7, HG7.out, HR7.out, HOU7.out, hul, HUS.out⟩
    · go_wp2
      go_meet
      case rel => exact ⟨[], q + 1, HG6.out, HR6.out, HE6.out.base (by omega), by simp, fun x hx => by cases hx⟩
  case rest =>
    obtain ⟨us, qx, hgx, hrx, hox, hul, hus⟩ := hcut
    obtain ⟨wy, rfl⟩ : ∃ wy : World, wy = wc := ⟨_, rfl⟩
    obtain ⟨At, c9, rfl, -⟩ := own_reads hox
    have HG3Y := Lib.hid hgx
    have hzy : w3.heap.size ≤ wy.heap.size := hgx.size
    have g0 := block_cell (gr_at HG3Y.out (by omega) HBX.out) 0
    have g1 := block_cell (gr_at HG3Y.out (by omega) HBX.out) 1
    have r0 := block_cell (gr_at HG3Y.out (by omega) HRES.out) 0
    have r1 := block_cell (gr_at HG3Y.out (by omega) HRES.out) 1
    simp at g0 g1 r0 r1
    have r2 := block_free (gr_at HG3Y.out (by omega) HRES.out) 0
    have r3 := block_free (gr_at HG3Y.out (by omega) HRES.out) 1
    have D := Lib.hid (fin_sig (sorts := sorts) (gr_at HG3Y.out (by omega) HRES.out) (HO.out.grown HG3Y.out (fun k e => by injection e with e; omega)) (by omega) (HB3.out.trans (below_of_gr' HG3Y.out (by omega))))
    have HVX := Lib.hid (HOV.out.past HG3Y.out (by omega))
    have HTX := Lib.hid (HOT.out.past HG3Y.out (by omega))
    have HYX := Lib.hid hox
    have HSX := Lib.hid hus
    clear hgx hrx hox hus
    go_wp2
    obtain ⟨d1, d2, d3, d4, d5⟩ := D.out
    have HV9 := Lib.hid (d4 _ _ _ (by omega) HVX.out)
    have HT9 := Lib.hid (d4 _ _ _ (by omega) HTX.out)
    have HY9 := Lib.hid (d4 _ _ _ (by show w.heap.size < w3.heap.size; omega) HYX.out)
    clear d4 d5 D
    generalize (wy.setCell ⟨w.heap.size, 0, none⟩ (.int .i64 sorts)).setCell ⟨w.heap.size, 1, none⟩ (.slice Au rows.length cu) = w9 at d1 d2 d3 HV9 HT9 HY9 ⊢
    have k0 := block_cell d1 0
    have k1 := block_cell d1 1
    simp at k0 k1
    clear g0 g1 r0 r1 r2 r3
    refine bodyPost_ret (v := .tuple #[.agg #[.int .i64 sorts, .slice Au rows.length cu], .slice Av vars.length cv, .slice (some ad) t.length ct, .int .i64 x4, .slice At us.length c9]) (by simp [results, Try.results9, go_sem, k0, k1]) rfl ?_
    exact ⟨_, ⟨sorts, rows⟩, _, vars, _, t, x4, _, us, rfl, d2, HV9.out, HT9.out, ⟨_, _, rfl⟩, HY9.out, hs1, hs2, hs3, hs4, hul, HSX.out, d3⟩
end Go.Proofs.Ytcbjfedhebeogac
