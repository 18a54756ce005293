/- DrawEqOk. -/
import Derived.Test.YteccjnnhihbdhabDrawEq
import Derived.Test.YteccjnnhihbdhabLocR
import Derived.Test.YteccjnnhihbdhabLed
import Derived.Test.YteccjnnhihbdhabCut
import Derived.Test.YteccjnnhihbdhabMapOk
namespace Go.Proofs.Yteccjnnhihbdhab
open Go.RowKit
set_option linter.unusedVariables false
set_option linter.unusedSimpArgs false

theorem keep2 {w : World} {b c i : Nat} {x y u : Value} (h : w.cell? ⟨c, i, none⟩ = some u) (hne : c ≠ b) : ((w.setCell ⟨b, 0, none⟩ x).setCell ⟨b, 1, none⟩ y).cell? ⟨c, i, none⟩ = some u :=
  (World.cell?_of_block ((Below.heap_setCell _ ⟨b, 1, none⟩ y c hne).trans (Below.heap_setCell w ⟨b, 0, none⟩ x c hne))).trans h
theorem drew_cell {w : World} {p : Addr} {v : Value} (h : w.cell? p = some v) : w.drew.cell? p = some v := h
theorem blk_two {w : World} {b c i : Nat} {o : Obj} {y : Value} (h : w.heap[c]? = some o) (hne : c ≠ b) : (w.setCell ⟨b, i, none⟩ y).heap[c]? = some o := (Below.heap_setCell w ⟨b, i, none⟩ y c hne).trans h
theorem small_snocE {t : List Int} (h : Small t) : Small (t ++ [100]) := fun x hx => by
  rcases List.mem_append.1 hx with hx | hx
  · exact h x hx
  · simp at hx; omega
def DrawEqPost (w : World) (e : Ending) (w' : World) : Prop :=
  ∃ (sv : Value) (s : MSig) (ev : Value) (eq : MEq), e = .returned (.tuple #[sv, ev]) ∧ OSig w' w.heap.size sv s ∧ OEqD w' w.heap.size ev eq ∧ SmallE eq ∧ eq.vars.length ≤ 5 ∧ eq.left.length ≤ 8 ∧ eq.right.length ≤ 8 ∧ s.ops.length ≤ 5 ∧ Below w.heap.size w w'
/-- both results are written; b: where they lie -/
theorem eq_fin {wz : World} {b B : Nat} {sorts : Int} {u vv lv rv : Value} {rows : List (List Int)} {e : MEq} {w : World} (hs : wz.heap[b]? = some (.cells #[.int .i64 0, .slice none 0 0] 35 (0, 0))) (he : wz.heap[b + 1]? = some (.cells #[.slice none 0 0, .slice none 0 0, .slice none 0 0] 69 (0, 0)))
    (ho : ORows wz B u rows) (hB : b + 1 < B) (h1 : OInts wz B vv e.vars) (h2 : OInts wz B lv e.left) (h3 : OInts wz B rv e.right) (hb : Below b w wz) :
    let w9 := ((((wz.setCell ⟨b, 0, none⟩ (.int .i64 sorts)).setCell ⟨b, 1, none⟩ u).setCell ⟨b + 1, 0, none⟩ vv).setCell ⟨b + 1, 1, none⟩ lv).setCell ⟨b + 1, 2, none⟩ rv
    w9.heap[b]? = some (.cells #[.int .i64 sorts, u] 35 (0, 0)) ∧ w9.heap[b + 1]? = some (.cells #[vv, lv, rv] 69 (0, 0)) ∧ OSig w9 b (.agg #[.int .i64 sorts, u]) ⟨sorts, rows⟩ ∧ OEqD w9 b (.agg #[vv, lv, rv]) e ∧ Below b w w9 := by
  intro w9
  have a1 := block_set (block_set hs 0 (.int .i64 sorts)) 1 u
  have a2 : ((wz.setCell ⟨b, 0, none⟩ (.int .i64 sorts)).setCell ⟨b, 1, none⟩ u).heap[b + 1]? = _ := blk_two (blk_two he (by omega)) (by omega)
  have low : ∀ {v : Value} {xs : List Int}, OInts wz B v xs → OInts w9 b v xs := fun {v xs} ho => OInts.base (((((ho.low (by omega) 0).low (by omega) 1).low (by omega) 0).low (by omega) 1).low (by omega) 2) (by omega)
  refine ⟨blk_two (blk_two (blk_two a1 (by omega)) (by omega)) (by omega), box3_set a2, ⟨_, rfl, ?_⟩, ⟨_, _, _, rfl, low h1, low h2, low h3⟩, ?_⟩
  · exact (((((ho.setLow' (by omega) 0 _).setLow' (by omega) 1 _).setLow' (by omega) 0 _).setLow' (by omega) 1 _).setLow' (by omega) 2 _).base (by omega)
  · exact ((((hb.setCell (p := ⟨b, 0, none⟩) (Nat.le_refl _) _).setCell (p := ⟨b, 1, none⟩) (Nat.le_refl _) _).setCell (p := ⟨b + 1, 0, none⟩) (by show b ≤ b + 1; omega) _).setCell (p := ⟨b + 1, 1, none⟩) (by show b ≤ b + 1; omega) _).setCell (p := ⟨b + 1, 2, none⟩) (by show b ≤ b + 1; omega) _

theorem sig_drew {x : World} {b : Nat} {v : Value} {s : MSig} (h : OSig x b v s) : OSig x.drew b v s := h
theorem ints_drew {x : World} {b : Nat} {v : Value} {s : List Int} (h : OInts x b v s) : OInts x.drew b v s := h
theorem eqd_drew {x : World} {b : Nat} {v : Value} {e : MEq} (h : OEqD x b v e) : OEqD x.drew b v e := by
  obtain ⟨a, b, c, rfl, h1, h2, h3⟩ := h; exact ⟨a, b, c, rfl, ints_drew h1, ints_drew h2, ints_drew h3⟩
theorem fin_drew {x w : World} {b : Nat} {o1 o2 : Option Obj} {v u : Value} {s : MSig} {e : MEq} (h : x.heap[b]? = o1 ∧ x.heap[b + 1]? = o2 ∧ OSig x b v s ∧ OEqD x b u e ∧ Below b w x) :
    x.drew.heap[b]? = o1 ∧ x.drew.heap[b + 1]? = o2 ∧ OSig x.drew b v s ∧ OEqD x.drew b u e ∧ Below b w x.drew := ⟨h.1, h.2.1, sig_drew h.2.2.1, eqd_drew h.2.2.2.1, map_drew h.2.2.2.2⟩

set_option maxHeartbeats 3200000 in
set_option maxRecDepth 100000 in
theorem drawEqOk_any (v : Value) (bs : List Int) (w : World) (h : RBytes w w.heap.size v bs) :
    Calls Try.prog 41 #[v] w (DrawEqPost w) := by
  obtain ⟨i0, hi0, hy0, hy1, hy2⟩ := info_parts Try.tinfo_int
  obtain ⟨W, hW⟩ : ∃ W : World, W = (w.alloc (.cells #[.int .i64 0, .slice none 0 0] 35)).alloc (.cells #[.slice none 0 0, .slice none 0 0, .slice none 0 0] 69) := ⟨_, rfl⟩
  have hb0 : Below w.heap.size w W := by rw [hW]; exact (below_alloc _ _).alloc (by simp) _
  have HB0 := Lib.hid hb0
  have HZ0 := Lib.hid (show W.heap.size = w.heap.size + 2 by rw [hW]; simp)
  have HRS0 := Lib.hid (show W.heap[w.heap.size]? = some (.cells #[.int .i64 0, .slice none 0 0] 35 (0, 0)) by rw [hW]; exact (heap_alloc_old _ _ (by simp)).trans (heap_alloc_new w _))
  have HRE0 := Lib.hid (show W.heap[w.heap.size + 1]? = some (.cells #[.slice none 0 0, .slice none 0 0, .slice none 0 0] 69 (0, 0)) by rw [hW]; exact (congrArg (fun i => ((w.alloc (.cells #[.int .i64 0, .slice none 0 0] 35)).alloc (.cells #[.slice none 0 0, .slice none 0 0, .slice none 0 0] 69)).heap[i]?) (by simp)).trans (heap_alloc_new (w.alloc (.cells #[.int .i64 0, .slice none 0 0] 35)) _))
  have HW := Lib.hid (bytes_alloc h hb0)
  obtain ⟨A, c, rfl, -⟩ := h
  have hW' := hW.symm
  clear hb0 hW
  go_enter Try.func41, Try.ntmps41
  go_wp2_with fail
  clear hW'
  refine (open_any _ bs _ HW.out).mono ?_
  rintro e w1 ⟨rfl, hr1, hb1⟩
  rw [HZ0.out] at hr1
  have HR1 := Lib.hid hr1
  have HB1 := Lib.hid hb1
  rw [HZ0.out]
  clear hr1 hb1
  go_wp2_with fail
  refine (sig_any (w.heap.size + 2) 0 _ _ HR1.out (by omega) (by omega) (by omega)).mono ?_
  rintro e w2 ⟨sv, ⟨sorts, rows⟩, q, rfl, ⟨u, rfl, ho⟩, hs1, hr2, hq2, hg2⟩
  obtain ⟨Au, cu, rfl, -⟩ := ho.reads.form
  simp only at hs1 ho
  have hzW := HZ0.out
  have hz1 := HB1.out.size
  have hz2 : w1.heap.size ≤ w2.heap.size := hg2.size
  have hlt1 : w.heap.size + 2 < w1.heap.size := HR1.out.lt
  have hal := below_alloc w2 (.cells #[.int .i64 sorts, .slice Au rows.length cu] 35)
  have HG3 := Lib.hid (gr_alloc hg2 (.cells #[.int .i64 sorts, .slice Au rows.length cu] 35))
  have HBX := Lib.hid (heap_alloc_new w2 (.cells #[.int .i64 sorts, .slice Au rows.length cu] 35))
  have HO := Lib.hid (ho.keep hal)
  have HR := Lib.hid (hr2.keep hal)
  clear ho hr2 hg2 hal
  generalize hW3 : w2.alloc (.cells #[.int .i64 sorts, .slice Au rows.length cu] 35) = w3 at HG3 HBX HO HR
  have hz3 : w2.heap.size < w3.heap.size := (Array.getElem?_eq_some_iff.1 HBX.out).1
  have g0 := block_cell HBX.out 0
  have g1 := block_cell HBX.out 1
  simp at g0 g1
  have HRS := Lib.hid (show RSig w3 (.agg #[.int .i64 sorts, .slice Au rows.length cu]) ⟨sorts, rows⟩ from ⟨_, rfl, HO.out.reads⟩)
  have HBW := Lib.hid (show Below w.heap.size w w1 from HB0.out.trans (HB1.out.mono (by omega)))
  have HRSW := Lib.hid (show w1.heap[w.heap.size]? = some (.cells #[.int .i64 0, .slice none 0 0] 35 (0, 0)) from (HB1.out.block _ (by omega)).trans HRS0.out)
  have HREW := Lib.hid (show w1.heap[w.heap.size + 1]? = some (.cells #[.slice none 0 0, .slice none 0 0, .slice none 0 0] 69 (0, 0)) from (HB1.out.block _ (by omega)).trans HRE0.out)
  cases hv : validB ⟨sorts, rows⟩ with
  | false =>
    have HV := Lib.hid hv
    clear hv
    go_wp2_with fail
    clear hW3
    refine (specSigValid_any _ ⟨sorts, rows⟩ w3 HRS.out).mono ?_
    rw [HV.out]
    rintro e wz ⟨rfl, hb⟩
    have HGZ := Lib.hid (gr_below HG3.out hb)
    have HOZ := Lib.hid (HO.out.keep hb)
    replace g0 := cell_keep hb g0
    replace g1 := cell_keep hb g1
    clear hb
    have hrs := gr_at HGZ.out (by omega) HRSW.out
    have hre := gr_at HGZ.out (by omega) HREW.out
    have D := Lib.hid (eq_fin (sorts := sorts) (e := ⟨[], [], []⟩) hrs hre (HOZ.out) (by omega) (OInts.nil _ _) (OInts.nil _ _) (OInts.nil _ _) (HBW.out.trans (below_of_gr' HGZ.out (by omega) (by omega))))
    have r0 := block_cell hrs 0
    have r1 := block_cell hrs 1
    have r2 := block_cell hre 0
    have r3 := block_cell hre 1
    have r4 := block_cell hre 2
    have rf0 := block_free hrs 0
    have rf1 := block_free hrs 1
    have rf2 := block_free hre 0
    have rf3 := block_free hre 1
    have rf4 := block_free hre 2
    simp at r0 r1 r2 r3 r4
    clear hrs hre
    go_wp2
    obtain ⟨d1, d2, d3, d4, d5⟩ := D.out
    generalize ((((wz.setCell ⟨w.heap.size, 0, none⟩ (.int .i64 sorts)).setCell ⟨w.heap.size, 1, none⟩ (.slice Au rows.length cu)).setCell ⟨w.heap.size + 1, 0, none⟩ (.slice none 0 0)).setCell ⟨w.heap.size + 1, 1, none⟩ (.slice none 0 0)).setCell ⟨w.heap.size + 1, 2, none⟩ (.slice none 0 0) = w9 at d1 d2 d3 d4 d5 ⊢
    have k0 := block_cell d1 0
    have k1 := block_cell d1 1
    have k2 := block_cell d2 0
    have k3 := block_cell d2 1
    have k4 := block_cell d2 2
    simp at k0 k1 k2 k3 k4
    clear r0 r1 r2 r3 r4 rf0 rf1 rf2 rf3 rf4 g0 g1
    refine bodyPost_ret (v := .tuple #[.agg #[.int .i64 sorts, .slice Au rows.length cu], .agg #[.slice none 0 0, .slice none 0 0, .slice none 0 0]]) (by simp [results, Try.results41, go_sem, k0, k1, k2, k3, k4]) rfl ?_
    exact ⟨_, ⟨sorts, rows⟩, _, ⟨[], [], []⟩, rfl, d3, d4, ⟨fun x hx => by simp at hx, fun x hx => by simp at hx⟩, by simp, by simp, by simp, hs1, d5⟩
  | true =>
    have HV := Lib.hid hv
    clear hv
    go_wp2_with fail
    clear hW3
    refine (specSigValid_any _ ⟨sorts, rows⟩ w3 HRS.out).mono ?_
    rw [HV.out]
    rintro e w4 ⟨rfl, hb⟩
    have HG4 := Lib.hid (gr_below HG3.out hb)
    have HG34 := Lib.hid (gr_below (gr_refl w3 (w.heap.size + 2)) hb)
    have HBX4 := Lib.hid ((hb.block _ hz3).trans HBX.out)
    have HO4 := Lib.hid (HO.out.keep hb)
    have HR4 := Lib.hid (HR.out.keep hb)
    have hz4 := hb.size
    replace g0 := cell_keep hb g0
    replace g1 := cell_keep hb g1
    clear hb
    go_wp2_with fail
    refine (eqOf_draw ⟨sorts, rows⟩ HV.out (w.heap.size + 2) q _ w4 HR4.out (by omega) ⟨_, rfl, HO4.out.base (by omega)⟩).mono ?_
    rintro e w5 ⟨ev, ⟨vars, ls, rs⟩, q5, rfl, hoe, hsm, hvl, hll, hlr, hform, hr5, hq5, hg5⟩
    obtain ⟨vv, lv, rv, rfl, hov, hol, hor⟩ := hoe
    obtain ⟨a', b', adr, cr, hf⟩ := hform
    injection hf with hf
    simp at hf
    obtain ⟨rfl, rfl, rfl⟩ := hf
    simp only at hsm hvl hll hlr hov hol hor
    obtain ⟨Av, cv, rfl, -⟩ := own_reads hov
    obtain ⟨Al, cl, rfl, -⟩ := own_reads hol
    have hal := below_alloc w5 (.cells #[.slice Av vars.length cv, .slice Al ls.length cl, .slice (some adr) rs.length cr] 69)
    have HSM := Lib.hid hsm
    have HG6 := Lib.hid (gr_alloc hg5 (.cells #[.slice Av vars.length cv, .slice Al ls.length cl, .slice (some adr) rs.length cr] 69))
    have HEX := Lib.hid (heap_alloc_new w5 (.cells #[.slice Av vars.length cv, .slice Al ls.length cl, .slice (some adr) rs.length cr] 69))
    have HOV5 := Lib.hid (And.intro hov hol)
    have HG56 := Lib.hid (gr_alloc (gr_refl w5 (w.heap.size + 2)) (.cells #[.slice Av vars.length cv, .slice Al ls.length cl, .slice (some adr) rs.length cr] 69))
    have HOV := Lib.hid (And.intro (hov.keep hal) (And.intro (hol.keep hal) (hor.keep hal)))
    have HR6 := Lib.hid (hr5.keep hal)
    have hz5 : w4.heap.size ≤ w5.heap.size := hg5.size
    have HSZ6 := Lib.hid (show (w5.alloc (.cells #[.slice Av vars.length cv, .slice Al ls.length cl, .slice (some adr) rs.length cr] 69)).heap.size = w5.heap.size + 1 by simp)
    clear hsm hov hol hor hr5 hg5 hal g0 g1
    generalize hW6 : w5.alloc (.cells #[.slice Av vars.length cv, .slice Al ls.length cl, .slice (some adr) rs.length cr] 69) = w6 at HG6 HEX HOV HR6 HSZ6 HG56
    go_wp2_with fail
    clear hW6
    refine (odd_any (w.heap.size + 2) q5 4 w6 HR6.out (by omega) (by omega) (by omega)).mono ?_
    rintro e w7 ⟨b, q7, rfl, hr7, hq7, hg7⟩
    have HG7 := Lib.hid (gr_more HG6.out hg7)
    have HGW := Lib.hid (gr_more HG4.out HG7.out)
    have HG37 := Lib.hid (gr_more HG34.out HG7.out)
    have HG57 := Lib.hid (gr_more HG56.out hg7)
    have HE7 := Lib.hid (gr_at hg7 (by omega) HEX.out)
    have HS7 := Lib.hid (gr_at HG7.out (by omega) HBX4.out)
    have HO7 := Lib.hid (show ORows w7 w1.heap.size (.slice Au rows.length cu) rows from HO4.out.grown HG7.out (fun k e => by injection e with e; omega))
    have HV7 := Lib.hid (And.intro (HOV.out.1.past hg7 (by omega)) (And.intro (HOV.out.2.1.past hg7 (by omega)) (HOV.out.2.2.past hg7 (by omega))))
    have hz7 : w6.heap.size ≤ w7.heap.size := hg7.size
    have hz6 := HSZ6.out
    clear hr7 hg7
    cases b with
    | false =>
      have hrs := gr_at HGW.out (by omega) HRSW.out
      have hre := gr_at HGW.out (by omega) HREW.out
      have e0 := block_cell HE7.out 0
      have e1 := block_cell HE7.out 1
      have e2 := block_cell HE7.out 2
      have s0 := block_cell HS7.out 0
      have s1 := block_cell HS7.out 1
      simp at e0 e1 e2 s0 s1
      have D := Lib.hid (fin_drew (eq_fin (wz := w7) (sorts := sorts) (e := ⟨vars, ls, rs⟩) hrs hre (B := w.heap.size + 2) (show ORows w7 (w.heap.size + 2) (.slice Au rows.length cu) rows from HO7.out.base (by omega)) (by omega) (show OInts w7 (w.heap.size + 2) _ _ from HV7.out.1.base (by omega)) (show OInts w7 (w.heap.size + 2) _ _ from HV7.out.2.1.base (by omega)) (show OInts w7 (w.heap.size + 2) _ _ from HV7.out.2.2.base (by omega)) (HBW.out.trans (below_of_gr' HGW.out (by omega) (by omega)))))
      have r0 := block_cell hrs 0
      have r1 := block_cell hrs 1
      have r2 := block_cell hre 0
      have r3 := block_cell hre 1
      have r4 := block_cell hre 2
      have rf0 := block_free hrs 0
      have rf1 := block_free hrs 1
      have rf2 := block_free hre 0
      have rf3 := block_free hre 1
      have rf4 := block_free hre 2
      simp at r0 r1 r2 r3 r4
      clear hrs hre
      have t0 := (show w7.drew.cell? ⟨w2.heap.size, 0, none⟩ = some (.int .i64 sorts) from s0)
      have t1 := (show w7.drew.cell? ⟨w2.heap.size, 1, none⟩ = some (.slice Au rows.length cu) from s1)
      have t2 := (show w7.drew.cell? ⟨w5.heap.size, 0, none⟩ = some (.slice Av vars.length cv) from e0)
      have t3 := (show w7.drew.cell? ⟨w5.heap.size, 1, none⟩ = some (.slice Al ls.length cl) from e1)
      have t4 := (show w7.drew.cell? ⟨w5.heap.size, 2, none⟩ = some (.slice (some adr) rs.length cr) from e2)
      go_wp2_with fail
      refine wp_region_held_drew (S := (fun w' => w'.cell? ⟨w2.heap.size, 0, none⟩ = some (.int .i64 sorts) ∧ w'.cell? ⟨w2.heap.size, 1, none⟩ = some (.slice Au rows.length cu) ∧ w'.cell? ⟨w5.heap.size, 0, none⟩ = some (.slice Av vars.length cv) ∧ w'.cell? ⟨w5.heap.size, 1, none⟩ = some (.slice Al ls.length cl) ∧ w'.cell? ⟨w5.heap.size, 2, none⟩ = some (.slice (some adr) rs.length cr))) (by kernel_rfl) ?_ (fun hHeld => ?_)
      · exact ⟨t0, t1, t2, t3, t4⟩
      refine wpAnyH_take (i := 0) (oi := _) (v := ?_) rfl (by kernel_rfl) (by kernel_rfl) (by kernel_rfl) (fun _ _ _ h => h) (Or.inl ⟨by rfl, ?_⟩) (by assumption) ?_
      rotate_left
      · first | (intro w' hSw; (try dsimp only at hSw); go_simp; done) | (intro w' hSw; (try dsimp only at hSw); go_simp; with_reducible rfl)
      try simp only [Act.put, List.getElem_toArray, List.getElem_cons_zero, List.getElem_cons_succ, List.setIfInBounds_toArray, List.set_cons_zero, List.set_cons_succ]
      refine wpAnyH_take (i := 1) (oi := _) (v := ?_) rfl (by kernel_rfl) (by kernel_rfl) (by kernel_rfl) (fun _ _ _ h => h) (Or.inl ⟨by rfl, ?_⟩) (by assumption) ?_
      rotate_left
      · first | (intro w' hSw; (try dsimp only at hSw); go_simp; done) | (intro w' hSw; (try dsimp only at hSw); go_simp; with_reducible rfl)
      try simp only [Act.put, List.getElem_toArray, List.getElem_cons_zero, List.getElem_cons_succ, List.setIfInBounds_toArray, List.set_cons_zero, List.set_cons_succ]
      refine wpAnyH_ready (rs := [2]) (by kernel_rfl) (by simp) ?_
      refine AllReadyH.cons (o := _) rfl (fun K hK => ?_) AllReadyH.nil
      go_simp
      refine hK.out _ _ ?_ (fun hHeld => ?_)
      · exact ⟨drew_cell (keep2 s0 (by omega)), drew_cell (keep2 s1 (by omega)), drew_cell (keep2 e0 (by omega)), drew_cell (keep2 e1 (by omega)), drew_cell (keep2 e2 (by omega))⟩
      clear hK K
      try simp only [Act.put, List.getElem_toArray, List.getElem_cons_zero, List.getElem_cons_succ, List.setIfInBounds_toArray, List.set_cons_zero, List.set_cons_succ]
      refine wpAnyH_ready (rs := [3]) (by kernel_rfl) (by simp) ?_
      refine AllReadyH.cons (o := _) rfl (fun K hK => ?_) AllReadyH.nil
      go_simp
      refine hK.out _ _ ?_ (fun hHeld => ?_)
      · exact ⟨drew_cell (keep3 (keep2 s0 (by omega)) (by omega)), drew_cell (keep3 (keep2 s1 (by omega)) (by omega)), drew_cell (keep3 (keep2 e0 (by omega)) (by omega)), drew_cell (keep3 (keep2 e1 (by omega)) (by omega)), drew_cell (keep3 (keep2 e2 (by omega)) (by omega))⟩
      clear hK K
      try simp only [Act.put, List.getElem_toArray, List.getElem_cons_zero, List.getElem_cons_succ, List.setIfInBounds_toArray, List.set_cons_zero, List.set_cons_succ]
      refine wpAnyH_done (by kernel_rfl) ?_ _
      clear s0 s1 e0 e1 e2 t0 t1 t2 t3 t4
      obtain ⟨d1, d2, d3, d4, d5⟩ := D.out
      generalize ((((((w7).setCell ⟨w.heap.size, 0, none⟩ (.int .i64 sorts)).setCell ⟨w.heap.size, 1, none⟩ (.slice Au rows.length cu)).setCell ⟨w.heap.size + 1, 0, none⟩ (.slice Av vars.length cv)).setCell ⟨w.heap.size + 1, 1, none⟩ (.slice Al ls.length cl)).setCell ⟨w.heap.size + 1, 2, none⟩ (.slice (some adr) rs.length cr)).drew = wn at d1 d2 d3 d4 d5 ⊢
      have k0 := block_cell d1 0
      have k1 := block_cell d1 1
      have k2 := block_cell d2 0
      have k3 := block_cell d2 1
      have k4 := block_cell d2 2
      simp at k0 k1 k2 k3 k4
      clear r0 r1 r2 r3 r4 rf0 rf1 rf2 rf3 rf4
      go_wp2
      refine bodyPost_ret (v := .tuple #[.agg #[.int .i64 sorts, .slice Au rows.length cu], .agg #[.slice Av vars.length cv, .slice Al ls.length cl, .slice (some adr) rs.length cr]]) (by simp [results, Try.results41, go_sem, k0, k1, k2, k3, k4]) rfl ?_
      exact ⟨_, ⟨sorts, rows⟩, _, ⟨vars, ls, rs⟩, rfl, d3, d4, HSM.out, hvl, by simp only; omega, by simp only; omega, hs1, d5⟩
    | true =>
      have e2 := block_cell HE7.out 2
      simp at e2
      have HN := Lib.hid (news_any (HV7.out.2.2.reads.keep (below_alloc w7 (.cells #[] 3))))
      have hA1 : (rs.map (Value.int .i64)).length = rs.length * 1 := by simp
      have HA1 := Lib.hid hA1
      have hblt : w5.heap.size < w7.heap.size := by omega
      clear hA1
      go_wp2_with (at_builtin; refine wpList_append_own _ rfl (.tmp 21) (.tmp 23) 25 rfl w7.heap.size 3 i0 (.int .i64 0) 1 8 Try.underlying25 hi0 hy0 hy1 hy2 rfl (by decide) _ 0 [] rfl (own_empty w7) adr rs.length cr (rs.map (Value.int .i64)) rfl HA1.out HN.out (ints_one _) (by rw [maxLen_eq]; omega) (by omega) (by simp) ?_)
      intro v8 w8 hv8 hg8 _
      try simp only [Nat.zero_add, List.nil_append] at hv8
      obtain ⟨A8, c8, rfl, -⟩ := own_reads hv8
      have hb8 : Below w7.heap.size w7 w8 := bel_grow5 hg8 (fun k e => by injection e with e; exact Nat.le_of_eq e)
      have hz8 := hb8.size
      have HB8 := Lib.hid hb8
      have HO8 := Lib.hid (show OInts w8 w7.heap.size (.slice A8 rs.length c8) rs from hv8)
      have p2 := cell_keep hb8 e2
      clear hv8 hg8 hb8
      go_wp2_with (at_builtin; refine wpList_append_own _ rfl (.tmp 24) (.tmp 25) 25 rfl w7.heap.size 3 i0 (.int .i64 0) 1 8 Try.underlying25 hi0 hy0 hy1 hy2 rfl (by decide) _ rs.length (rs.map (Value.int .i64)) rfl (own_keep HO8.out (below_alloc w8 _)) ⟨w8.heap.size, 0, none⟩ 1 1 ([(100 : Int)].map (Value.int .i64)) rfl (by simp) (led_new w8 100) (ints_one _) (by rw [maxLen_eq]; omega) (by omega) (by simp; omega) ?_)
      intro v9 w9 hv9 hg9 _
      have HO9 := Lib.hid (led_app (rs := [100]) rfl hv9)
      obtain ⟨A9, c9, rfl, -⟩ := own_reads hv9
      have hb9 : Below w7.heap.size w7 w9 := (HB8.out.alloc (by omega) _).grown hg9 (by simp; omega) (fun k e => (own_lt HO8.out k e).1)
      have HB9 := Lib.hid hb9
      have HEB := Lib.hid ((hb9.block _ (by omega)).trans HE7.out)
      have t2 := block_cell HEB.out 2
      have tf2 := block_free HEB.out 2
      simp at t2
      clear hv9 hg9 hb9 e2 p2
      go_upto_region 8 with fail
      clear t2 tf2
      have HE10 := Lib.hid (block_set HEB.out 2 (.slice A9 (rs.length + 1) c9))
      have HS10 := Lib.hid (blk_two (b := w5.heap.size) (i := 2) (y := .slice A9 (rs.length + 1) c9) ((HB9.out.block _ (by omega)).trans HS7.out) (by omega))
      have hrs := blk_two (b := w5.heap.size) (i := 2) (y := .slice A9 (rs.length + 1) c9) ((HB9.out.block _ (by omega)).trans (gr_at HGW.out (by omega) HRSW.out)) (by omega)
      have hre := blk_two (b := w5.heap.size) (i := 2) (y := .slice A9 (rs.length + 1) c9) ((HB9.out.block _ (by omega)).trans (gr_at HGW.out (by omega) HREW.out)) (by omega)
      have HO10 := Lib.hid (HO.out.same (w' := w9.setCell ⟨w5.heap.size, 2, none⟩ (.slice A9 (rs.length + 1) c9)) (fun k q1 q2 => (Below.heap_setCell w9 ⟨w5.heap.size, 2, none⟩ _ k (by show k ≠ w5.heap.size; omega)).trans ((HB9.out.block k (by omega)).trans (HG37.out.block k q2 (fun e => by injection e with e; omega)))))
      have HV10 := Lib.hid (HOV5.out.1.same (w' := w9.setCell ⟨w5.heap.size, 2, none⟩ (.slice A9 (rs.length + 1) c9)) (fun k q1 q2 => (Below.heap_setCell w9 ⟨w5.heap.size, 2, none⟩ _ k (by show k ≠ w5.heap.size; omega)).trans ((HB9.out.block k (by omega)).trans (HG57.out.block k q2 (fun e => by injection e with e; omega)))))
      have HL10 := Lib.hid (HOV5.out.2.same (w' := w9.setCell ⟨w5.heap.size, 2, none⟩ (.slice A9 (rs.length + 1) c9)) (fun k q1 q2 => (Below.heap_setCell w9 ⟨w5.heap.size, 2, none⟩ _ k (by show k ≠ w5.heap.size; omega)).trans ((HB9.out.block k (by omega)).trans (HG57.out.block k q2 (fun e => by injection e with e; omega)))))
      have HN10 := Lib.hid (HO9.out.low (b := w5.heap.size) (by omega) 2 (x := .slice A9 (rs.length + 1) c9))
      have HBX10 := Lib.hid (show Below w.heap.size w (w9.setCell ⟨w5.heap.size, 2, none⟩ (.slice A9 (rs.length + 1) c9)) from ((HBW.out.trans (below_of_gr' HGW.out (by omega) (by omega))).trans (HB9.out.mono (by omega))).setCell (p := ⟨w5.heap.size, 2, none⟩) (by show w.heap.size ≤ w5.heap.size; omega) _)
      generalize hWX : w9.setCell ⟨w5.heap.size, 2, none⟩ (.slice A9 (rs.length + 1) c9) = wx at HE10 HS10 hrs hre HO10 HV10 HL10 HN10 HBX10 ⊢
      have e0 := block_cell HE10.out 0
      have e1 := block_cell HE10.out 1
      have e2 := block_cell HE10.out 2
      have s0 := block_cell HS10.out 0
      have s1 := block_cell HS10.out 1
      simp at e0 e1 e2 s0 s1
      have D := Lib.hid (fin_drew (eq_fin (wz := wx) (sorts := sorts) (e := ⟨vars, ls, rs ++ [100]⟩) hrs hre (B := w.heap.size + 2) (show ORows wx (w.heap.size + 2) (.slice Au rows.length cu) rows from HO10.out.base (by omega)) (by omega) (show OInts wx (w.heap.size + 2) _ _ from HV10.out.base (by omega)) (show OInts wx (w.heap.size + 2) _ _ from HL10.out.base (by omega)) (show OInts wx (w.heap.size + 2) _ _ from HN10.out.base (by omega)) HBX10.out))
      have r0 := block_cell hrs 0
      have r1 := block_cell hrs 1
      have r2 := block_cell hre 0
      have r3 := block_cell hre 1
      have r4 := block_cell hre 2
      have rf0 := block_free hrs 0
      have rf1 := block_free hrs 1
      have rf2 := block_free hre 0
      have rf3 := block_free hre 1
      have rf4 := block_free hre 2
      simp at r0 r1 r2 r3 r4
      clear hrs hre
      clear hWX
      have t0 := (show wx.drew.cell? ⟨w2.heap.size, 0, none⟩ = some (.int .i64 sorts) from s0)
      have t1 := (show wx.drew.cell? ⟨w2.heap.size, 1, none⟩ = some (.slice Au rows.length cu) from s1)
      have t2 := (show wx.drew.cell? ⟨w5.heap.size, 0, none⟩ = some (.slice Av vars.length cv) from e0)
      have t3 := (show wx.drew.cell? ⟨w5.heap.size, 1, none⟩ = some (.slice Al ls.length cl) from e1)
      have t4 := (show wx.drew.cell? ⟨w5.heap.size, 2, none⟩ = some (.slice A9 (rs.length + 1) c9) from e2)
      go_wp2_with fail
      refine wp_region_held_drew (S := (fun w' => w'.cell? ⟨w2.heap.size, 0, none⟩ = some (.int .i64 sorts) ∧ w'.cell? ⟨w2.heap.size, 1, none⟩ = some (.slice Au rows.length cu) ∧ w'.cell? ⟨w5.heap.size, 0, none⟩ = some (.slice Av vars.length cv) ∧ w'.cell? ⟨w5.heap.size, 1, none⟩ = some (.slice Al ls.length cl) ∧ w'.cell? ⟨w5.heap.size, 2, none⟩ = some (.slice A9 (rs.length + 1) c9))) (by kernel_rfl) ?_ (fun hHeld => ?_)
      · exact ⟨t0, t1, t2, t3, t4⟩
      refine wpAnyH_take (i := 0) (oi := _) (v := ?_) rfl (by kernel_rfl) (by kernel_rfl) (by kernel_rfl) (fun _ _ _ h => h) (Or.inl ⟨by rfl, ?_⟩) (by assumption) ?_
      rotate_left
      · first | (intro w' hSw; (try dsimp only at hSw); go_simp; done) | (intro w' hSw; (try dsimp only at hSw); go_simp; with_reducible rfl)
      try simp only [Act.put, List.getElem_toArray, List.getElem_cons_zero, List.getElem_cons_succ, List.setIfInBounds_toArray, List.set_cons_zero, List.set_cons_succ]
      refine wpAnyH_take (i := 1) (oi := _) (v := ?_) rfl (by kernel_rfl) (by kernel_rfl) (by kernel_rfl) (fun _ _ _ h => h) (Or.inl ⟨by rfl, ?_⟩) (by assumption) ?_
      rotate_left
      · first | (intro w' hSw; (try dsimp only at hSw); go_simp; done) | (intro w' hSw; (try dsimp only at hSw); go_simp; with_reducible rfl)
      try simp only [Act.put, List.getElem_toArray, List.getElem_cons_zero, List.getElem_cons_succ, List.setIfInBounds_toArray, List.set_cons_zero, List.set_cons_succ]
      refine wpAnyH_ready (rs := [2]) (by kernel_rfl) (by simp) ?_
      refine AllReadyH.cons (o := _) rfl (fun K hK => ?_) AllReadyH.nil
      go_simp
      refine hK.out _ _ ?_ (fun hHeld => ?_)
      · exact ⟨drew_cell (keep2 s0 (by omega)), drew_cell (keep2 s1 (by omega)), drew_cell (keep2 e0 (by omega)), drew_cell (keep2 e1 (by omega)), drew_cell (keep2 e2 (by omega))⟩
      clear hK K
      try simp only [Act.put, List.getElem_toArray, List.getElem_cons_zero, List.getElem_cons_succ, List.setIfInBounds_toArray, List.set_cons_zero, List.set_cons_succ]
      refine wpAnyH_ready (rs := [3]) (by kernel_rfl) (by simp) ?_
      refine AllReadyH.cons (o := _) rfl (fun K hK => ?_) AllReadyH.nil
      go_simp
      refine hK.out _ _ ?_ (fun hHeld => ?_)
      · exact ⟨drew_cell (keep3 (keep2 s0 (by omega)) (by omega)), drew_cell (keep3 (keep2 s1 (by omega)) (by omega)), drew_cell (keep3 (keep2 e0 (by omega)) (by omega)), drew_cell (keep3 (keep2 e1 (by omega)) (by omega)), drew_cell (keep3 (keep2 e2 (by omega)) (by omega))⟩
      clear hK K
      try simp only [Act.put, List.getElem_toArray, List.getElem_cons_zero, List.getElem_cons_succ, List.setIfInBounds_toArray, List.set_cons_zero, List.set_cons_succ]
      refine wpAnyH_done (by kernel_rfl) ?_ _
      clear s0 s1 e0 e1 e2 t0 t1 t2 t3 t4
      obtain ⟨d1, d2, d3, d4, d5⟩ := D.out
      generalize ((((((wx).setCell ⟨w.heap.size, 0, none⟩ (.int .i64 sorts)).setCell ⟨w.heap.size, 1, none⟩ (.slice Au rows.length cu)).setCell ⟨w.heap.size + 1, 0, none⟩ (.slice Av vars.length cv)).setCell ⟨w.heap.size + 1, 1, none⟩ (.slice Al ls.length cl)).setCell ⟨w.heap.size + 1, 2, none⟩ (.slice A9 (rs.length + 1) c9)).drew = wn at d1 d2 d3 d4 d5 ⊢
      have k0 := block_cell d1 0
      have k1 := block_cell d1 1
      have k2 := block_cell d2 0
      have k3 := block_cell d2 1
      have k4 := block_cell d2 2
      simp at k0 k1 k2 k3 k4
      clear r0 r1 r2 r3 r4 rf0 rf1 rf2 rf3 rf4
      go_wp2
      refine bodyPost_ret (v := .tuple #[.agg #[.int .i64 sorts, .slice Au rows.length cu], .agg #[.slice Av vars.length cv, .slice Al ls.length cl, .slice A9 (rs.length + 1) c9]]) (by simp [results, Try.results41, go_sem, k0, k1, k2, k3, k4]) rfl ?_
      exact ⟨_, ⟨sorts, rows⟩, _, ⟨vars, ls, rs ++ [100]⟩, rfl, d3, d4, ⟨HSM.out.1, small_snocE HSM.out.2⟩, hvl, by simp only; omega, by simp; omega, hs1, d5⟩
end Go.Proofs.Yteccjnnhihbdhab
