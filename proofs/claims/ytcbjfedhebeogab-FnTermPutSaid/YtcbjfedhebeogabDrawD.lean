/- DrawTermPut. -/
import Derived.Test.YtcbjfedhebeogabDrawC
import Derived.Test.YtcbjfedhebeogabPut
import Derived.Lib.AppendZeros
import Derived.Deep.AppendSrc
import Derived.Deep.Upon
namespace Go.Proofs.Ytcbjfedhebeogab
open Go.RowKit
set_option linter.unusedVariables false

/-- a row of numbers at the end of an own one -/
theorem app_own_run (w : World) (ty : TypeId) (B : Nat) (v x : Value) (xs ys : List Int) (hs : OInts w B v xs) (hx : RInts w x ys) (hl : xs.length + ys.length ≤ 1000) (hB : B ≤ w.heap.size) :
    ∃ A c w', (Builtin.append_ #[26, 26] ty #[v, x]).run Try.prog w = .ok (.slice A (xs ++ ys).length c) w' ∧ OInts w' B (.slice A (xs ++ ys).length c) (xs ++ ys) ∧ w.grownBy w' v.ownBlock := by
  obtain ⟨i0, hi0, hz0, hz1, hz2⟩ := info_parts Try.tinfo_int
  obtain ⟨A2, c2, rfl, -⟩ := hx.form
  cases A2 with
  | none =>
    have h0 : ys = [] := by
      cases ys with
      | nil => rfl
      | cons y ys =>
        obtain ⟨b, o, c', e, -⟩ := hx.at_ (k := 0) (by simp)
        cases e
    subst h0
    obtain ⟨A, c, rfl, hc, -⟩ := own_reads hs
    refine ⟨A, c, w, ?_, by simpa using hs, ⟨rfl, rfl, rfl, Nat.le_refl _, fun _ _ _ => rfl⟩⟩
    have := run_append_nothing (P := Try.prog) w 26 26 ty 3 i0 Try.underlying26 hi0 A xs.length c hc (.slice none ([] : List Int).length c2) (Src.ofNil w Try.underlying26 c2)
    simpa using this
  | some ad =>
    obtain ⟨v', w', hr, ho, hg, -⟩ := run_append_own (P := Try.prog) w B 26 ty 3 i0 (.int .i64 0) 1 8 Try.underlying26 hi0 hz0 hz1 hz2 rfl (by decide) v xs.length (xs.map (Value.int .i64)) hs ad ys.length c2 (ys.map (Value.int .i64)) (by simp) (news_any hx) (ints_one _) (by rw [maxLen_eq]; omega) (by omega) hB
    have ho' := app_ints rfl ho
    obtain ⟨A, c, rfl, -⟩ := own_reads ho'
    exact ⟨A, c, w', hr, ho', hg⟩

def DrawPutPost (w : World) (e : Ending) (w' : World) : Prop :=
  ∃ (sv : Value) (s : MSig) (vv : Value) (vars : List Int) (tv : Value) (t : List Int) (ov : Value) (others : List Int) (rv : Value) (rows : List (List Int)), e = .returned (.tuple #[sv, vv, tv, ov, rv]) ∧ OSig w' w.heap.size sv s ∧ OInts w' w.heap.size vv vars ∧ OInts w' w.heap.size tv t ∧ (∃ ad c, tv = .slice (some ad) t.length c) ∧ OInts w' w.heap.size ov others ∧ ORows w' w.heap.size rv rows ∧ s.ops.length ≤ 5 ∧ vars.length ≤ 5 ∧ t.length ≤ 40 ∧ Small t ∧ others.length ≤ 5 ∧ rows.length ≤ 5 ∧ (∀ r ∈ rows, Small r ∧ r.length ≤ Lb 1) ∧ Below w.heap.size w w'

set_option maxHeartbeats 1600000 in
set_option maxRecDepth 100000 in
theorem drawTermPut_any (v : Value) (bs : List Int) (w : World) (h : RBytes w w.heap.size v bs) :
    Calls Try.prog 20 #[v] w (DrawPutPost w) := by
  have hb0 := below_alloc w (.cells #[.int .i64 0, .slice none 0 0] 25)
  have HW := Lib.hid (bytes_alloc h hb0)
  obtain ⟨A, c, rfl, -⟩ := h
  go_enter Try.func20, Try.ntmps20
  go_wp2_with fail
  refine (open_any _ bs _ HW.out).mono ?_
  rintro e w1 ⟨rfl, hr1, hb1⟩
  have hr1' : RRd w1 (w.heap.size + 1) 0 := by simpa using hr1
  have HR1 := Lib.hid hr1'
  have HB1 := Lib.hid hb1
  clear hr1 hr1' hb1
  go_wp2_with fail
  refine (termOf_draw (w.heap.size + 1) 0 _ _ HR1.out (by omega) (by omega) (by omega)).mono ?_
  rintro e w2 ⟨sv, ⟨sorts, rows⟩, vv, vars, tv, t, q, rfl, ⟨u, rfl, ho⟩, hov, hot, ⟨ad, ct, rfl⟩, hs1, hs2, hs3, hs4, hr2, hq2, hg2⟩
  obtain ⟨Au, cu, rfl, -⟩ := ho.reads.form
  obtain ⟨Av, cv, rfl, -⟩ := own_reads hov
  simp only at hs1 ho
  have hsz := HB1.out.size
  simp at hsz
  have hz2 : w1.heap.size ≤ w2.heap.size := hg2.size
  have hlt1 : w.heap.size + 1 < w1.heap.size := HR1.out.lt
  have hal := below_alloc w2 (.cells #[.int .i64 sorts, .slice Au rows.length cu] 25)
  have HRES := Lib.hid ((heap_alloc_old w2 (.cells #[.int .i64 sorts, .slice Au rows.length cu] 25) (by omega)).trans (gr_at hg2 (by omega) ((HB1.out.block w.heap.size (by simp)).trans (heap_alloc_new w (.cells #[.int .i64 0, .slice none 0 0] 25)))))
  have HBX := Lib.hid (heap_alloc_new w2 (.cells #[.int .i64 sorts, .slice Au rows.length cu] 25))
  have HB3 := Lib.hid (((hb0.trans (HB1.out.mono (by simp))).trans (below_of_gr' hg2 (by omega))).trans (hal.mono (by omega)))
  have HO := Lib.hid (ho.keep hal)
  have HOV := Lib.hid (hov.keep hal)
  have HOT := Lib.hid (hot.keep hal)
  have HR := Lib.hid (hr2.keep hal)
  clear ho hov hot hr2 hg2 hal
  generalize hW3 : w2.alloc (.cells #[.int .i64 sorts, .slice Au rows.length cu] 25) = w3 at HRES HBX HB3 HO HOV HOT HR
  have hz3 : w2.heap.size < w3.heap.size := (Array.getElem?_eq_some_iff.1 HBX.out).1
  have g0 := block_cell HBX.out 0
  have g1 := block_cell HBX.out 1
  simp at g0 g1
  have HRS := Lib.hid (show RSig w3 (.agg #[.int .i64 sorts, .slice Au rows.length cu]) ⟨sorts, rows⟩ from ⟨_, rfl, HO.out.reads⟩)
  go_wp2_with fail
  clear hW3
  refine (drawVars_any (w.heap.size + 1) q 0 ⟨sorts, rows⟩ _ w3 HR.out (by omega) (by omega) (by omega) HRS.out).mono ?_
  rintro e w4 ⟨xv, xs, q4, rfl, hox, hxl, hr4, hq4, hg4⟩
  obtain ⟨Ax, cx, rfl, -⟩ := own_reads hox
  have hz4 : w3.heap.size ≤ w4.heap.size := hg4.size
  obtain ⟨Ao, co, w5, hrun, hoo, hgr⟩ := app_own_run w4 26 w3.heap.size _ _ xs vars hox (HOV.out.past hg4 (by omega)).reads (by omega) (by omega)
  generalize xs ++ vars = ls at hrun hoo
  have HRUN := Lib.hid hrun
  have HOO := Lib.hid (hoo.base (show w1.heap.size ≤ w3.heap.size by omega))
  have HG5 := Lib.hid (gr_trans hg4 hgr (fun k e => .inr (own_lt hox k e).1))
  have HR5 := Lib.hid (hr4.grown hgr (fun k e => by have := (own_lt hox k e).1; omega))
  clear hrun hoo hgr hox hr4 hg4 g0 g1
  go_upto_if 28 with (at_builtin; refine Lib.wpList_append_run _ rfl _ _ _ _ rfl _ _ rfl rfl _ _ HRUN.out ?_)
  go_cut [11] (fun t11 wx => ∃ (others : List Int), w3.grownBy wx (some (w.heap.size + 1)) ∧ RRd wx (w.heap.size + 1) q4 ∧ OInts wx w1.heap.size t11 others ∧ others.length ≤ 5)
  case first =>
    by_cases h4 : (4 : Int) < (ls.length : Int)
    · go_wp2
      go_meet
      case rel => exact ⟨vars, HG5.out, HR5.out, HOV.out.past HG5.out (by omega), hs2⟩
    · go_wp2
      go_meet
      case rel => exact ⟨ls, HG5.out, HR5.out, HOO.out, by omega⟩
  case rest =>
    obtain ⟨others, hgx, hrx, hoth, hol5⟩ := hcut
    obtain ⟨wx, rfl⟩ : ∃ wx : World, wx = wc := ⟨_, rfl⟩
    obtain ⟨Aw, cw, rfl, -⟩ := own_reads hoth
    have hzx : w3.heap.size ≤ wx.heap.size := hgx.size
    have HG3X := Lib.hid hgx
    have HOT2 := Lib.hid hoth
    have HE := Lib.hid (show ORows (wx.alloc (.cells #[] 26)) wx.heap.size (.slice (some ⟨wx.heap.size, 0, none⟩) 0 0) [] from ⟨[], World.ownsRow_lit wx #[] 0 (Nat.le_refl _) (Nat.zero_le _) rfl, rfl, fun j u row h => by simp at h, fun i j u u' _ h => by simp at h⟩)
    have HR6 := Lib.hid (hrx.keep (below_alloc wx (.cells #[] 26)))
    have HG6 := Lib.hid (gr_alloc (gr_refl wx (w.heap.size + 1)) (.cells #[] 26))
    clear hgx hrx hoth
    generalize hW6 : wx.alloc (.cells #[] 26) = w6 at HE HR6 HG6
    have HG36 := Lib.hid (gr_more HG3X.out HG6.out)
    have g0 := block_cell (gr_at HG36.out (by omega) HBX.out) 0
    have g1 := block_cell (gr_at HG36.out (by omega) HBX.out) 1
    simp at g0 g1
    have HRS6 := Lib.hid (show RSig w6 (.agg #[.int .i64 sorts, .slice Au rows.length cu]) ⟨sorts, rows⟩ from ⟨_, rfl, (HO.out.grown HG36.out (fun k e => by injection e with e; omega)).reads⟩)
    have HRV6 := Lib.hid ((HOV.out.past HG36.out (by omega)).reads)
    have HRO6 := Lib.hid ((HOT2.out.past HG6.out (by omega)).reads)
    go_upto_region 7 with fail
    clear hW6
    go_cut [38] (fun s38 wy => ∃ (b : Bool), s38 = .bool b ∧ (b = true → varsB ⟨sorts, rows⟩ vars = true) ∧ wx.grownBy wy (some (w.heap.size + 1)) ∧ RRd wy (w.heap.size + 1) q4 ∧ ORows wy wx.heap.size (.slice (some ⟨wx.heap.size, 0, none⟩) 0 0) [])
    case first =>
      go_wp2_with fail
      refine (specVarsOk_any _ _ ⟨sorts, rows⟩ vars w6 HRS6.out HRV6.out).mono ?_
      rintro e w8 ⟨rfl, hb8⟩
      have HB8 := Lib.hid hb8
      have k0 := cell_keep hb8 g0
      have k1 := cell_keep hb8 g1
      clear hb8 g0 g1
      cases hvb : varsB ⟨sorts, rows⟩ vars with
      | false =>
        go_wp2
        go_meet
        case rel => exact ⟨false, rfl, by simp, gr_below HG6.out HB8.out, HR6.out.keep HB8.out, HE.out.keep HB8.out⟩
      | true =>
        go_wp2_with fail
        refine (specVarsOk_any _ _ ⟨sorts, rows⟩ others w8 (HRS6.out.keep HB8.out) (HRO6.out.keep HB8.out)).mono ?_
        rintro e w9 ⟨rfl, hb9⟩
        have HB9 := Lib.hid (fit_keep HB8.out hb9)
        generalize varsB ⟨sorts, rows⟩ others = bo
        clear hb9 k0 k1
        go_wp2
        go_meet
        case rel => exact ⟨bo, rfl, fun _ => hvb, gr_below HG6.out HB9.out, HR6.out.keep HB9.out, HE.out.keep HB9.out⟩
    case rest =>
      obtain ⟨b, rfl, hbt, hg8, hr8, he8⟩ := hcut
      obtain ⟨w8, rfl⟩ : ∃ w8 : World, w8 = wc := ⟨_, rfl⟩
      have HBT := Lib.hid hbt
      have HG8 := Lib.hid hg8
      have HR8 := Lib.hid hr8
      have HE8 := Lib.hid he8
      have HG38 := Lib.hid (gr_more HG3X.out hg8)
      clear hbt hg8 hr8 he8 g0 g1
      go_upto_if 38 with fail
      go_cut [12] (fun t12 wy => ∃ (rws : List (List Int)) (qx : Nat), wx.grownBy wy (some (w.heap.size + 1)) ∧ RRd wy (w.heap.size + 1) qx ∧ ORows wy wx.heap.size t12 rws ∧ rws.length ≤ 5 ∧ (∀ r ∈ rws, Small r ∧ r.length ≤ Lb 1))
      case first =>
        cases b with
        | false =>
          go_wp2
          go_meet
          case rel => exact ⟨[], q4, HG8.out, HR8.out, HE8.out, by simp, fun r hr => by simp at hr⟩
        | true =>
          have HVAL := Lib.hid ((vars_valid (HBT.out rfl)).1)
          have g0 := block_cell (gr_at HG38.out (by omega) HBX.out) 0
          have g1 := block_cell (gr_at HG38.out (by omega) HBX.out) 1
          simp at g0 g1
          go_wp2_with fail
          refine (drawTerms_any ⟨sorts, rows⟩ vars others HVAL.out (by omega) (by omega) 1 (by omega) (w.heap.size + 1) q4 _ _ _ w8 HR8.out (by rw [show Qb 1 = 900 from rfl]; omega) ⟨_, rfl, (HO.out.grown HG38.out (fun k e => by injection e with e; omega)).base (by omega)⟩ ((HOV.out.past HG38.out (by omega)).base (by omega)) ((HOT2.out.past HG8.out (by omega)).base (by omega))).mono ?_
          rintro e w9 ⟨tv, rws, q9, rfl, hotv, htl, hts, hr9, hq9, hg9⟩
          have HOTT := Lib.hid (hotv.base HG8.out.size)
          have HG9 := Lib.hid (gr_more HG8.out hg9)
          have HR9 := Lib.hid hr9
          have HTS := Lib.hid hts
          clear hotv hts hr9 hg9 g0 g1
          go_wp2
          go_meet
          case rel => exact ⟨rws, q9, HG9.out, HR9.out, HOTT.out, by omega, HTS.out⟩
      case rest =>
        obtain ⟨rws, qx, hgy, hry, hoy, hl5, hsx⟩ := hcut
        obtain ⟨wy, rfl⟩ : ∃ wy : World, wy = wc := ⟨_, rfl⟩
        obtain ⟨At, c9, rfl, -⟩ := hoy.reads.form
        have HG3Y := Lib.hid (gr_more HG3X.out hgy)
        have hzy : wx.heap.size ≤ wy.heap.size := hgy.size
        have g0 := block_cell (gr_at HG3Y.out (by omega) HBX.out) 0
        have g1 := block_cell (gr_at HG3Y.out (by omega) HBX.out) 1
        have r0 := block_cell (gr_at HG3Y.out (by omega) HRES.out) 0
        have r1 := block_cell (gr_at HG3Y.out (by omega) HRES.out) 1
        simp at g0 g1 r0 r1
        have r2 := block_free (gr_at HG3Y.out (by omega) HRES.out) 0
        have r3 := block_free (gr_at HG3Y.out (by omega) HRES.out) 1
        have D := Lib.hid (fin_sig (sorts := sorts) (gr_at HG3Y.out (by omega) HRES.out) (HO.out.grown HG3Y.out (fun k e => by injection e with e; omega)) (by omega) (HB3.out.trans (below_of_gr' HG3Y.out (by omega))))
        have HVX := Lib.hid (HOV.out.past HG3Y.out (by omega))
        have HTX := Lib.hid (HOT.out.past HG3Y.out (by omega))
        have HXX := Lib.hid (HOT2.out.past hgy (by omega))
        have HYX := Lib.hid hoy
        have HSX := Lib.hid hsx
        clear hgy hry hoy hsx
        go_wp2
        obtain ⟨d1, d2, d3, d4, d5⟩ := D.out
        have HV9 := Lib.hid (d4 _ _ _ (by omega) HVX.out)
        have HT9 := Lib.hid (d4 _ _ _ (by omega) HTX.out)
        have HX9 := Lib.hid (d4 _ _ _ (by omega) HXX.out)
        have HY9 := Lib.hid (d5 _ _ _ (by omega) HYX.out)
        clear d4 d5 D
        generalize (wy.setCell ⟨w.heap.size, 0, none⟩ (.int .i64 sorts)).setCell ⟨w.heap.size, 1, none⟩ (.slice Au rows.length cu) = w9 at d1 d2 d3 HV9 HT9 HX9 HY9 ⊢
        have k0 := block_cell d1 0
        have k1 := block_cell d1 1
        simp at k0 k1
        clear g0 g1 r0 r1 r2 r3
        refine bodyPost_ret (v := .tuple #[.agg #[.int .i64 sorts, .slice Au rows.length cu], .slice Av vars.length cv, .slice (some ad) t.length ct, .slice Aw others.length cw, .slice At rws.length c9]) (by simp [results, Try.results20, go_sem, k0, k1]) rfl ?_
        exact ⟨_, ⟨sorts, rows⟩, _, vars, _, t, _, others, _, rws, rfl, d2, HV9.out, HT9.out, ⟨_, _, rfl⟩, HX9.out, HY9.out, hs1, hs2, hs3, hs4, hol5, hl5, HSX.out, d3⟩
end Go.Proofs.Ytcbjfedhebeogab
