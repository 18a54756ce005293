/- l20Set: sets of values. · DrawMadeOf. · Rows that lead values to values; what a map of models is (plain). No walk. · The first places of values in rows; kernels and images of maps of models (plain). No walk. · Sets of values, and what operations make of them (plain). No walk. · What is made holds the sets; made twice is made once; all of all (plain). · slices.Index, placesIn, hasValue of package impl. · haveValues, setsOk of package impl. · takesAndLeaves, ledValues of package impl. -/
import Derived.Test.YtkhabmoidpgapaaK9730a853
namespace Go.Proofs.Ytkhabmoidpgapaa
section
open Go.RowKit
set_option linter.unusedVariables false
set_option linter.unusedSimpArgs false

def SetPost (g p : Nat) (w : World) (e : Ending) (w' : World) : Prop :=
  ∃ (v : Value) (xs : List Int) (q : Nat), e = .returned v ∧ OInts w' w.heap.size v xs ∧ xs.length ≤ 4 ∧ RRd w' g q ∧ q ≤ p + 20 ∧ w.grownBy w' (some g)

set_option maxHeartbeats 3200000 in
set_option maxRecDepth 100000 in
theorem set20_any (s : MSig) (m : MModel) (g p B : Nat) (w : World) (sv mv : Value) (h : RRd w g p) (hp : p ≤ 1000000) (h1 : RSig w sv s) (hom : OModel w B mv m) (hgB : g < B) (hsl : m.sizes.length ≤ 3) (hsz1 : ∀ z ∈ m.sizes, 1 ≤ z ∧ z ≤ 4) :
    Calls Try.prog 68 #[.pointer (some ⟨g, 0, none⟩), sv, mv] w (SetPost g p w) := by
  obtain ⟨i0, hi0, hz0, hz1, hz2⟩ := info_parts Try.info_int
  have hgl := h.lt
  have h2 := hom.reads
  obtain ⟨Asa, csa, rfl⟩ := h1.form
  obtain ⟨Ama, cma, Amb, cmb, rfl⟩ := h2.form
  have hb : Below w.heap.size w ((w.alloc (.cells #[.int .i64 s.sorts, .slice Asa s.ops.length csa] 25)).alloc (.cells #[.slice Ama m.sizes.length cma, .slice Amb m.tables.length cmb] 28)) := (below_alloc _ _).alloc (by simp) _
  have HB := Lib.hid hb
  have hsz : ((w.alloc (.cells #[.int .i64 s.sorts, .slice Asa s.ops.length csa] 25)).alloc (.cells #[.slice Ama m.sizes.length cma, .slice Amb m.tables.length cmb] 28)).heap.size = w.heap.size + 2 := by simp
  have Hs := Lib.hid (h1.keep hb)
  have s0 := cell_keep (below_alloc (w.alloc (.cells #[.int .i64 s.sorts, .slice Asa s.ops.length csa] 25)) (.cells #[.slice Ama m.sizes.length cma, .slice Amb m.tables.length cmb] 28)) (bx_at (w) #[.int .i64 s.sorts, .slice Asa s.ops.length csa] 25 (k := 0) rfl)
  have s1 := cell_keep (below_alloc (w.alloc (.cells #[.int .i64 s.sorts, .slice Asa s.ops.length csa] 25)) (.cells #[.slice Ama m.sizes.length cma, .slice Amb m.tables.length cmb] 28)) (bx_at (w) #[.int .i64 s.sorts, .slice Asa s.ops.length csa] 25 (k := 1) rfl)
  have Hm := Lib.hid (h2.keep hb)
  have m0 := bx_at (w.alloc (.cells #[.int .i64 s.sorts, .slice Asa s.ops.length csa] 25)) #[.slice Ama m.sizes.length cma, .slice Amb m.tables.length cmb] 28 (k := 0) rfl
  have m1 := bx_at (w.alloc (.cells #[.int .i64 s.sorts, .slice Asa s.ops.length csa] 25)) #[.slice Ama m.sizes.length cma, .slice Amb m.tables.length cmb] 28 (k := 1) rfl
  simp only [World.size_alloc] at m0 m1
  generalize hW : (w.alloc (.cells #[.int .i64 s.sorts, .slice Asa s.ops.length csa] 25)).alloc (.cells #[.slice Ama m.sizes.length cma, .slice Amb m.tables.length cmb] 28) = W at HB hsz Hs s0 s1 Hm m0 m1
  clear hb h1 h2
  have HOM := Lib.hid hom
  have HRD := Lib.hid (h.keep HB.out)
  have HSZ := Lib.hid hsz1
  have HWZ := Lib.hid hsz
  have HCM := Lib.hid m0
  have HE := Lib.hid (own_empty W)
  have HBE := Lib.hid (below_alloc W (.cells #[] 3))
  have hwl : w.heap.size + 1 < W.heap.size := by omega
  clear h hom hsz1 hsz s0 s1
  go_enter Try.func68, Try.ntmps68
  go_wp2
  clear hW m0 m1
  go_loopw [7, 8] (fun o i wr => ∃ (k : Nat) (A : Option Addr) (c : Nat) (xs : List Int) (q : Nat), k ≤ m.sizes.length ∧ i = .int .i64 k ∧ o = .slice A xs.length c ∧ OInts wr W.heap.size (.slice A xs.length c) xs ∧ xs.length = k ∧ W.grownBy wr (some g) ∧ RRd wr g q ∧ q ≤ p + k) (fun _ i _ => m.sizes.length - (intOf i).toNat)
  case atStart => exact ⟨0, _, _, [], p, Nat.zero_le _, rfl, rfl, HE.out, rfl, gr_below (gr_refl W g) HBE.out, HRD.out.keep HBE.out, Nat.le_refl _⟩
  case round =>
    obtain ⟨k, A, c, xs, q, hk, rfl, rfl, ho, hxl, hg, hr, hq⟩ := hrel
    obtain ⟨wo, hwo⟩ : ∃ x : World, x = wr := ⟨_, rfl⟩
    subst hwo
    have HO := Lib.hid ho
    have HXL := Lib.hid hxl
    have HG := Lib.hid hg
    have HR := Lib.hid hr
    have m0 := hg.cell HCM.out (by show some (w.heap.size + 1) ≠ some g; intro e; injection e with e; omega)
    have hx4 : xs.length ≤ 3 := by omega
    clear ho hxl hr
    by_cases hlt : k < m.sizes.length
    · have hlt' : (k : Int) < (m.sizes.length : Int) := by omega
      obtain ⟨bz, oz, cz, e, hzc⟩ := (OModel.past HOM.out (gr_trans (gr_below (gr_refl w g) HB.out) hg (fun x e => by injection e with e; exact .inl e.symm)) hgB).reads.of.1.at_ hlt
      cases e
      have hzz := HSZ.out _ (List.getElem_mem hlt)
      generalize m.sizes[k] = z at hzc hzz
      have hzp : 0 ≤ z := by omega
      clear hg
      rcases (show z = 1 ∨ z = 2 ∨ z = 3 ∨ z = 4 by omega) with rfl | rfl | rfl | rfl
      all_goals
        go_wp2_with fail
        refine (pick_any g q _ _ HR.out (by omega)).mono ?_
        rintro e w2 ⟨y, rfl, hy, hr2, hg2⟩
        have HG2 := Lib.hid (gr_trans HG.out hg2 (fun x e => by injection e with e; exact .inl e.symm))
        have HR2 := Lib.hid hr2
        have HO2 := Lib.hid (show OInts w2 W.heap.size (.slice A xs.length c) xs from own_past HO.out hg2 (by omega))
        clear hr2 hg2 hy
        go_wp2_with (at_builtin; refine wpList_append_own _ rfl _ _ 26 rfl W.heap.size 3 i0 (.int .i64 0) 1 8 Try.underlying26 hi0 hz0 hz1 hz2 rfl (by decide) _ xs.length (xs.map (Value.int .i64)) rfl (own_keep HO2.out (below_alloc w2 _)) ⟨w2.heap.size, 0, none⟩ 1 1 ([y].map (Value.int .i64)) rfl (by simp) (led_new w2 y) (ints_one _) (by rw [maxLen_eq]; omega) (by omega) (by have := HG2.out.size; simp; omega) ?_)
        intro v6 w6 hv6 hg6 _
        have HO6 := Lib.hid (led_app (rs := [y]) rfl hv6)
        obtain ⟨A6, c6, rfl, -⟩ := own_reads hv6
        have HG6 := Lib.hid (gr_trans (gr_alloc HG2.out (.cells #[.int .i64 y] 3)) hg6 (fun k e => .inr (own_lt HO2.out k e).1))
        have HR6 := Lib.hid ((HR2.out.keep (below_alloc w2 (.cells #[.int .i64 y] 3))).grown hg6 (fun k e => by have := (own_lt HO2.out k e).1; omega))
        clear hv6 hg6 m0 hzc
        go_wp2
        go_roundw
        case rel => exact ⟨k + 1, _, _, xs ++ [y], q + 1, by omega, by go_num, by rw [List.length_append]; rfl, by rw [List.length_append]; exact HO6.out, by have := HXL.out; simp; omega, HG6.out, HR6.out, by omega⟩
        case measure => simp [intOf]; omega
    · have hlt' : ¬ (k : Int) < (m.sizes.length : Int) := by omega
      have hq3 : q ≤ p + 3 := by omega
      clear hg hq
      go_wp2_with fail
      refine (odd_any g q 20 _ HR.out (by omega) (by omega) (by omega)).mono ?_
      rintro e w2 ⟨b, q2, rfl, hr2, hq2, hg2⟩
      have HG2 := Lib.hid (gr_trans HG.out hg2 (fun x e => by injection e with e; exact .inl e.symm))
      have HR2 := Lib.hid hr2
      have HO2 := Lib.hid (show OInts w2 W.heap.size (.slice A xs.length c) xs from own_past HO.out hg2 (by omega))
      clear hr2 hg2 m0
      cases b with
      | false =>
        go_wp2
        go_ret
        exact ⟨_, xs, q2, rfl, HO2.out.base HB.out.size, by omega, HR2.out, by omega, gr_trans (gr_below (gr_refl w g) HB.out) HG2.out (fun x e => by injection e with e; exact .inl e.symm)⟩
      | true =>
        go_wp2_with (at_builtin; refine wpList_append_own _ rfl _ _ 26 rfl W.heap.size 3 i0 (.int .i64 0) 1 8 Try.underlying26 hi0 hz0 hz1 hz2 rfl (by decide) _ xs.length (xs.map (Value.int .i64)) rfl (own_keep HO2.out (below_alloc w2 _)) ⟨w2.heap.size, 0, none⟩ 1 1 ([(0 : Int)].map (Value.int .i64)) rfl (by simp) (led_new w2 (0 : Int)) (ints_one _) (by rw [maxLen_eq]; omega) (by omega) (by have := HG2.out.size; simp; omega) ?_)
        intro v6 w6 hv6 hg6 _
        have HO6 := Lib.hid (led_app (rs := [(0 : Int)]) rfl hv6)
        obtain ⟨A6, c6, rfl, -⟩ := own_reads hv6
        have HG6 := Lib.hid (gr_trans (gr_alloc HG2.out (.cells #[.int .i64 (0 : Int)] 3)) hg6 (fun k e => .inr (own_lt HO2.out k e).1))
        have HR6 := Lib.hid ((HR2.out.keep (below_alloc w2 (.cells #[.int .i64 (0 : Int)] 3))).grown hg6 (fun k e => by have := (own_lt HO2.out k e).1; omega))
        clear hv6 hg6
        go_wp2
        go_ret
        exact ⟨_, xs ++ [0], q2, rfl, HO6.out.base HB.out.size, by simp; omega, HR6.out, by omega, gr_trans (gr_below (gr_refl w g) HB.out) HG6.out (fun x e => by injection e with e; exact .inl e.symm)⟩
end

section
open Go.RowKit
set_option linter.unusedVariables false
set_option linter.unusedSimpArgs false

theorem gr_undrewq {w w' : World} {r : Option Nat} (h : w.drew.grownBy w' r) : w.grownBy w' r := ⟨h.os, h.tape, h.output, h.size, h.block⟩
theorem gr_cellq {w w' : World} {g b i : Nat} {u : Value} (h : w.grownBy w' (some g)) (hc : w.cell? ⟨b, i, none⟩ = some u) (hne : b ≠ g) : w'.cell? ⟨b, i, none⟩ = some u := h.cell hc (by show some b ≠ some g; intro e; injection e with e; exact hne e)
def DrawMadePost (w : World) (x : Ending) (w' : World) : Prop :=
  ∃ (sv mv vv : Value) (s : MSig) (m : MModel) (xs : List Int), x = .returned (.tuple #[sv, mv, vv]) ∧ OSig w' w.heap.size sv s ∧ OModel w' w.heap.size mv m ∧ FewMo s m ∧ OInts w' w.heap.size vv xs ∧ xs.length ≤ 4 ∧ Below w.heap.size w w'

set_option maxHeartbeats 3200000 in
set_option maxRecDepth 100000 in
theorem drawMadeOf_any (v : Value) (bs : List Int) (w : World) (h : RBytes w w.heap.size v bs) :
    Calls Try.prog 30 #[v] w (DrawMadePost w) := by
  obtain ⟨W, hW⟩ : ∃ W : World, W = (w.alloc (.cells #[.int .i64 0, .slice none 0 0] 25)).alloc (.cells #[.slice none 0 0, .slice none 0 0] 28) := ⟨_, rfl⟩
  have hb0 : Below w.heap.size w W := by rw [hW]; exact (below_alloc _ _).alloc (by simp) _
  have HB0 := Lib.hid hb0
  have HZ0 := Lib.hid (show W.heap.size = w.heap.size + 2 by rw [hW]; simp)
  have HZR0 := Lib.hid (show W.heap[w.heap.size]? = some (.cells #[.int .i64 0, .slice none 0 0] 25 (0, 0)) by rw [hW]; exact (heap_alloc_old (w.alloc (.cells #[.int .i64 0, .slice none 0 0] 25)) _ (by simp)).trans (heap_alloc_new (w) _))
  have HZR1 := Lib.hid (show W.heap[w.heap.size + 1]? = some (.cells #[.slice none 0 0, .slice none 0 0] 28 (0, 0)) by rw [hW]; exact (congrArg (fun i => ((w.alloc (.cells #[.int .i64 0, .slice none 0 0] 25)).alloc (.cells #[.slice none 0 0, .slice none 0 0] 28)).heap[i]?) (by simp)).trans (heap_alloc_new (w.alloc (.cells #[.int .i64 0, .slice none 0 0] 25)) _))
  have HW := Lib.hid (bytes_alloc h hb0)
  obtain ⟨A, c, rfl, -⟩ := h
  have hW' := hW.symm
  clear hb0 hW
  go_enter Try.func30, Try.ntmps30
  go_wp2_with fail
  clear hW'
  refine (open_any _ bs _ HW.out).mono ?_
  rintro e w1 ⟨rfl, hr1, hb1⟩
  rw [HZ0.out] at hr1
  have HR1 := Lib.hid hr1
  have HB1 := Lib.hid hb1
  rw [HZ0.out]
  have hzW := HZ0.out
  have hz1 := HB1.out.size
  have hlt1 : w.heap.size + 2 < w1.heap.size := HR1.out.lt
  clear hr1 hb1
  go_wp2_with fail
  refine (model_any (w.heap.size + 2) 0 16 _ HR1.out (by omega) (by omega) (by omega)).mono ?_
  rintro x w2 ⟨sv, mv, ⟨sorts, rows⟩, m, q, rfl, ⟨u, rfl, ho⟩, hs1, hm, hl1, hl2, hl3, hl4, hr2, hq2, hg2⟩
  obtain ⟨x, y, rfl, o1, C, hC, hub, o2⟩ := hm
  obtain ⟨us, hu1, -⟩ := id ho
  obtain ⟨Au, cu, rfl, -⟩ := own_reads hu1
  obtain ⟨A0, c0, rfl, -⟩ := own_reads o1
  obtain ⟨us2, hu2, -⟩ := id o2
  obtain ⟨A1, c1, rfl, -⟩ := own_reads hu2
  have HF := Lib.hid (show FewMo ⟨sorts, rows⟩ m from ⟨hs1, hl1, hl2, hl3, hl4⟩)
  have hzz2 : w1.heap.size ≤ w2.heap.size := hg2.size
  have hba : Below w2.heap.size w2 ((w2.alloc (.cells #[.int .i64 sorts, .slice Au rows.length cu] 25)).alloc (.cells #[.slice A0 m.sizes.length c0, .slice A1 m.tables.length c1] 28)) := (below_alloc _ _).alloc (by simp) _
  have HG3 := Lib.hid (gr_alloc (gr_alloc hg2 (.cells #[.int .i64 sorts, .slice Au rows.length cu] 25)) (.cells #[.slice A0 m.sizes.length c0, .slice A1 m.tables.length c1] 28))
  have HBA := Lib.hid ((heap_alloc_old (w2.alloc (.cells #[.int .i64 sorts, .slice Au rows.length cu] 25)) (.cells #[.slice A0 m.sizes.length c0, .slice A1 m.tables.length c1] 28) (by simp)).trans (heap_alloc_new w2 (.cells #[.int .i64 sorts, .slice Au rows.length cu] 25)))
  have HBB := Lib.hid ((congrArg (fun i => ((w2.alloc (.cells #[.int .i64 sorts, .slice Au rows.length cu] 25)).alloc (.cells #[.slice A0 m.sizes.length c0, .slice A1 m.tables.length c1] 28)).heap[i]?) (show w2.heap.size + 1 = (w2.alloc (.cells #[.int .i64 sorts, .slice Au rows.length cu] 25)).heap.size by simp)).trans (heap_alloc_new (w2.alloc (.cells #[.int .i64 sorts, .slice Au rows.length cu] 25)) (.cells #[.slice A0 m.sizes.length c0, .slice A1 m.tables.length c1] 28)))
  have HO3 := Lib.hid (ho.keep hba)
  have HM3 := Lib.hid (show OModel _ w1.heap.size (.agg #[.slice A0 m.sizes.length c0, .slice A1 m.tables.length c1]) m from ⟨_, _, rfl, o1.keep hba, C, hC, hub, o2.keep hba⟩)
  have HR3 := Lib.hid (hr2.keep hba)
  clear ho o1 o2 hu1 hu2 hub hr2 hg2 hba hs1 hl3 hl4
  have HL1 := Lib.hid hl1
  have HL2 := Lib.hid hl2
  clear hl1 hl2
  generalize hW3 : (w2.alloc (.cells #[.int .i64 sorts, .slice Au rows.length cu] 25)).alloc (.cells #[.slice A0 m.sizes.length c0, .slice A1 m.tables.length c1] 28) = w3 at HG3 HBA HBB HO3 HM3 HR3
  have hz3 : w2.heap.size + 1 < w3.heap.size := (Array.getElem?_eq_some_iff.1 HBB.out).1
  have p0 := block_cell HBA.out 0
  have p1 := block_cell HBA.out 1
  have p2 := block_cell HBB.out 0
  have p3 := block_cell HBB.out 1
  simp at p0 p1 p2 p3
  go_wp2_with fail
  clear hW3
  go_region_held3 (fun w' => w'.cell? ⟨w2.heap.size, 0, none⟩ = some (.int .i64 sorts) ∧ w'.cell? ⟨w2.heap.size, 1, none⟩ = some (.slice Au rows.length cu) ∧ w'.cell? ⟨w2.heap.size + 1, 0, none⟩ = some (.slice A0 m.sizes.length c0) ∧ w'.cell? ⟨w2.heap.size + 1, 1, none⟩ = some (.slice A1 m.tables.length c1)) (first | with_reducible exact ⟨drew_cellm p0, drew_cellm p1, drew_cellm p2, drew_cellm p3⟩ | with_reducible exact ⟨q0, q1, q2, q3⟩ | with_reducible exact ⟨keep2m q0 (by omega), keep2m q1 (by omega), keep2m q2 (by omega), keep2m q3 (by omega)⟩ | with_reducible exact ⟨keep2m (keep2m q0 (by omega)) (by omega), keep2m (keep2m q1 (by omega)) (by omega), keep2m (keep2m q2 (by omega)) (by omega), keep2m (keep2m q3 (by omega)) (by omega)⟩)
    (first | (go_at_call 68; refine (set20_any ⟨sorts, rows⟩ m (w.heap.size + 2) q w1.heap.size w3.drew _ _ HR3.out (by omega) ⟨_, rfl, HO3.out.reads⟩ HM3.out (by omega) HL1.out HL2.out).mono ?_; rintro x w5 ⟨vv, xs, q5, rfl, ov, hxl, hr5, hq5, hg5⟩; have hg5 := gr_undrewq hg5; obtain ⟨Av, cv, rfl, -⟩ := own_reads ov; have HV5 := Lib.hid (show OInts w5 w3.heap.size (.slice Av xs.length cv) xs from ov); have q0 := gr_cellq hg5 p0 (by omega); have q1 := gr_cellq hg5 p1 (by omega); have q2 := gr_cellq hg5 p2 (by omega); have q3 := gr_cellq hg5 p3 (by omega); have HBEL0 := Lib.hid (show Below w.heap.size w w5 from (HB0.out.trans (HB1.out.mono (by omega))).trans (below_of_gr' (gr_trans HG3.out hg5 (fun x e => by injection e with e; exact .inl e.symm)) (by omega) (by omega))); have HO5 := Lib.hid (HO3.out.grown hg5 (fun k e => by injection e with e; omega)); have HM5 := Lib.hid (OModel.past HM3.out hg5 (by omega)); have hra := gr_at (gr_trans HG3.out hg5 (fun x e => by injection e with e; exact .inl e.symm)) (by omega) ((HB1.out.block _ (by omega)).trans HZR0.out); have hrb := gr_at (gr_trans HG3.out hg5 (fun x e => by injection e with e; exact .inl e.symm)) (by omega) ((HB1.out.block _ (by omega)).trans HZR1.out); have hz5 := hg5.size; have r0 := block_cell hra 0; have rf0 := block_free hra 0; have r1 := block_cell hra 1; have rf1 := block_free hra 1; have r2 := block_cell hrb 0; have rf2 := block_free hrb 0; have r3 := block_cell hrb 1; have rf3 := block_free hrb 1; simp at r0 r1 r2 r3; clear hr5 hg5 ov p0 p1 p2 p3))
  clear q0 q1 q2 q3
  have d0 := ((put2_other (x := (.slice A0 m.sizes.length c0)) (y := (.slice A1 m.tables.length c1)) (show w.heap.size ≠ w.heap.size + 1 by omega)).trans (put2_at (x := (.int .i64 sorts)) (y := (.slice Au rows.length cu)) hra))
  have d1 := (put2_at (x := (.slice A0 m.sizes.length c0)) (y := (.slice A1 m.tables.length c1)) ((put2_other (x := (.int .i64 sorts)) (y := (.slice Au rows.length cu)) (show w.heap.size + 1 ≠ w.heap.size by omega)).trans hrb))
  have HLOW := Lib.hid (fun (k : Nat) (hk : w.heap.size + 2 ≤ k) => ((put2_other (x := (.slice A0 m.sizes.length c0)) (y := (.slice A1 m.tables.length c1)) (show k ≠ w.heap.size + 1 by omega)).trans (put2_other (wz := w5) (x := (.int .i64 sorts)) (y := (.slice Au rows.length cu)) (show k ≠ w.heap.size by omega))))
  have HBEL := Lib.hid (put2_bel (b := w.heap.size + 1) (x := (.slice A0 m.sizes.length c0)) (y := (.slice A1 m.tables.length c1)) (put2_bel (b := w.heap.size) (x := (.int .i64 sorts)) (y := (.slice Au rows.length cu)) HBEL0.out (by omega)) (by omega))
  clear r0 rf0 r1 rf1 r2 rf2 r3 rf3
  generalize (((w5.setCell ⟨w.heap.size, 0, none⟩ (.int .i64 sorts)).setCell ⟨w.heap.size, 1, none⟩ (.slice Au rows.length cu)).setCell ⟨w.heap.size + 1, 0, none⟩ (.slice A0 m.sizes.length c0)).setCell ⟨w.heap.size + 1, 1, none⟩ (.slice A1 m.tables.length c1) = w9 at d0 d1 HLOW HBEL ⊢
  have k0 := block_cell d0 0
  have k1 := block_cell d0 1
  have k2 := block_cell d1 0
  have k3 := block_cell d1 1
  simp at k0 k1 k2 k3
  go_wp2
  refine bodyPost_ret (v := .tuple #[.agg #[.int .i64 sorts, .slice Au rows.length cu], .agg #[.slice A0 m.sizes.length c0, .slice A1 m.tables.length c1], .slice Av xs.length cv]) (by simp [results, Try.results30, go_sem, k0, k1, k2, k3]) rfl ?_
  exact ⟨_, _, _, ⟨sorts, rows⟩, m, xs, rfl, OSig.base (B := w1.heap.size) ⟨_, rfl, HO5.out.same (fun k h1 h2 => HLOW.out k (by omega))⟩ (by omega), OModel.base (B := w1.heap.size) (HM5.out.same (fun k h1 h2 => HLOW.out k (by omega))) (by omega), HF.out, OInts.base (OInts.same HV5.out (fun k h1 h2 => HLOW.out k (by omega))) (by omega), hxl, HBEL.out⟩
end

section
open Go.RowKit
set_option linter.unusedVariables false
set_option linter.unusedSimpArgs false

/-- all numbers below one -/
def allN (p : Nat → Bool) (n : Nat) : Bool := (List.range n).all p
theorem allN_zero (p : Nat → Bool) : allN p 0 = true := rfl
theorem allN_succ (p : Nat → Bool) (n : Nat) : allN p (n + 1) = (allN p n && p n) := by
  unfold allN; rw [List.range_succ, List.all_append]; simp
theorem allN_bad {p : Nat → Bool} {k n : Nat} (hk : k < n) (h : p k = false) : allN p n = false := by
  unfold allN; rw [List.all_eq_false]; exact ⟨k, List.mem_range.2 hk, by simp [h]⟩
theorem allN_at {p : Nat → Bool} {n : Nat} (h : allN p n = true) {k : Nat} (hk : k < n) : p k = true := by
  unfold allN at h; rw [List.all_eq_true] at h; exact h k (List.mem_range.2 hk)
theorem allN_iff {p : Nat → Bool} {n : Nat} : allN p n = true ↔ ∀ k, k < n → p k = true := by
  unfold allN; rw [List.all_eq_true]
  exact ⟨fun h k hk => h k (List.mem_range.2 hk), fun h k hk => h k (List.mem_range.1 hk)⟩

/-- what stands for a value of a sort -/
def ledOne (h : List (List Int)) (s v : Int) : Int := (h.getD s.toNat []).getD v.toNat 0
/-- what stands for each value of a row -/
def ledV (h : List (List Int)) (sorts vals : List Int) : List Int := List.zipWith (ledOne h) sorts vals
def VIn (h : List (List Int)) (sorts vals : List Int) : Prop := vals.length = sorts.length ∧ ∀ (j : Nat) (hj : j < sorts.length) (hj' : j < vals.length), 0 ≤ sorts[j] ∧ sorts[j] < (h.length : Int) ∧ 0 ≤ vals[j] ∧ vals[j] < ((h.getD (sorts[j]).toNat []).length : Int)
theorem ledV_len {h : List (List Int)} {sorts vals : List Int} (he : vals.length = sorts.length) : (ledV h sorts vals).length = vals.length := by
  unfold ledV; rw [List.length_zipWith]; omega
theorem ledV_at {h : List (List Int)} {sorts vals : List Int} {k : Nat} (h1 : k < sorts.length) (h2 : k < vals.length) (h3 : k < (ledV h sorts vals).length) : (ledV h sorts vals)[k] = ledOne h sorts[k] vals[k] := by
  show (List.zipWith (ledOne h) sorts vals)[k]'(by simpa [ledV] using h3) = _
  rw [List.getElem_zipWith]
theorem ledV_take {h : List (List Int)} {sorts vals : List Int} {k : Nat} (h1 : k < sorts.length) (h2 : k < vals.length) : ledV h (sorts.take (k + 1)) (vals.take (k + 1)) = ledV h (sorts.take k) (vals.take k) ++ [ledOne h sorts[k] vals[k]] := by
  unfold ledV
  rw [List.take_succ_eq_append_getElem h1, List.take_succ_eq_append_getElem h2, List.zipWith_append (by rw [List.length_take, List.length_take]; omega)]
  rfl
/-- as many numbers as values -/
def Lens (h : List (List Int)) (zs : List Int) : Prop := h.length = zs.length ∧ ∀ (k : Nat) (hk : k < zs.length), ((h.getD k []).length : Int) = zs[k]
/-- each number is a value -/
def Vals (h : List (List Int)) (ys : List Int) : Prop := ∀ (k : Nat), k < h.length → ∀ x ∈ h.getD k [], 0 ≤ x ∧ x < ys.getD k 0
theorem led_get {zs sorts : List Int} {j : Nat} (hj : j < sorts.length) (h1 : sorts[j] < 100) (h2 : j < (ledM zs sorts).length) : (ledM zs sorts)[j] = zs.getD (sorts[j]).toNat 0 := by
  have e := ledM_at (tq := zs) hj
  rw [List.getElem?_eq_getElem h2] at e
  injection e with e
  rw [e, if_pos h1]
theorem vin_of {h : List (List Int)} {zs sorts vals : List Int} (hl : Lens h zs) (hs : ∀ x ∈ sorts, 0 ≤ x ∧ x < (zs.length : Int)) (hz : zs.length ≤ 3) (hin : InAll (ledM zs sorts) vals) : VIn h sorts vals := by
  refine ⟨by rw [hin.1, ledM_len], fun j hj hj' => ?_⟩
  have a := hs _ (List.getElem_mem hj)
  have hj2 : j < (ledM zs sorts).length := by rw [ledM_len]; exact hj
  have b := hin.2 j hj2 hj'
  rw [led_get hj (by omega) hj2] at b
  have c := hl.2 (sorts[j]).toNat (by omega)
  rw [getD_at _ (show (sorts[j]).toNat < zs.length by omega)] at b
  have d := hl.1
  exact ⟨a.1, by omega, b.1, by omega⟩
theorem ledV_in {h : List (List Int)} {zs ys sorts vals : List Int} (hl : Lens h zs) (hv : Vals h ys) (hy : ys.length = zs.length) (hs : ∀ x ∈ sorts, 0 ≤ x ∧ x < (zs.length : Int)) (hz : zs.length ≤ 3) (hin : InAll (ledM zs sorts) vals) : InAll (ledM ys sorts) (ledV h sorts vals) := by
  have hvi := vin_of hl hs hz hin
  have hlv := ledV_len (h := h) hvi.1
  refine ⟨by rw [hlv, hvi.1, ledM_len], fun j h1 h2 => ?_⟩
  have hj : j < sorts.length := by rw [ledM_len] at h1; exact h1
  have hj' : j < vals.length := by rw [hlv] at h2; exact h2
  have a := hs _ (List.getElem_mem hj)
  rw [led_get hj (by omega) h1, ledV_at hj hj' h2]
  obtain ⟨b1, b2, b3, b4⟩ := hvi.2 j hj hj'
  have hk : (vals[j]).toNat < (h.getD (sorts[j]).toNat []).length := by omega
  unfold ledOne
  rw [getD_at _ hk]
  exact hv (sorts[j]).toNat (by omega) _ (List.getElem_mem hk)

/-- a row leads each value of a sort to a value -/
def homRow (a b : MModel) (h : List (List Int)) (k : Nat) : Bool := decide (((h.getD k []).length : Int) = a.sizes.getD k 0) && belowB (h.getD k []) (b.sizes.getD k 0)
/-- the same, told by the operation's sorts and tables -/
def homTo (a b : MModel) (h : List (List Int)) (takes : List Int) (last : Int) (ta tb : List Int) (n : Nat) : Bool := decide (tb.getD (placeM 0 (ledM b.sizes takes) (ledV h takes (digM (ledM a.sizes takes) n))).toNat 0 = ledOne h last (ta.getD n 0))
/-- an operation goes along, at one row of values -/
def homAt (s : MSig) (a b : MModel) (h : List (List Int)) (k n : Nat) : Bool := decide ((b.tables.getD k []).getD (placeM 0 (takenM s b k) (ledV h (opRow s k).dropLast (digM (takenM s a k) n))).toNat 0 = ledOne h ((opRow s k).getLastD (-1)) ((a.tables.getD k []).getD n 0))
theorem homAt_to (s : MSig) (a b : MModel) (h : List (List Int)) (k : Nat) : homAt s a b h k = homTo a b h (opRow s k).dropLast ((opRow s k).getLastD (-1)) (a.tables.getD k []) (b.tables.getD k []) := rfl
def homOp (s : MSig) (a b : MModel) (h : List (List Int)) (k : Nat) : Bool := allN (homAt s a b h k) (a.tables.getD k []).length
def homOps (s : MSig) (a b : MModel) (h : List (List Int)) : Bool := allN (homOp s a b h) s.ops.length
def homB (s : MSig) (a b : MModel) (h : List (List Int)) : Bool := (((modelB s a && modelB s b) && decide ((h.length : Int) = s.sorts)) && allN (homRow a b h) h.length) && homOps s a b h
theorem hom_no1 {s : MSig} {a b : MModel} {h : List (List Int)} (e : modelB s a = false) : homB s a b h = false := by unfold homB; simp [e]
theorem hom_no2 {s : MSig} {a b : MModel} {h : List (List Int)} (e : modelB s b = false) : homB s a b h = false := by unfold homB; simp [e]
theorem hom_no3 {s : MSig} {a b : MModel} {h : List (List Int)} (e : ¬ (h.length : Int) = s.sorts) : homB s a b h = false := by unfold homB; simp [e]
theorem hom_no4 {s : MSig} {a b : MModel} {h : List (List Int)} {k : Nat} (hk : k < h.length) (e : homRow a b h k = false) : homB s a b h = false := by unfold homB; simp [allN_bad hk e]
theorem hom_no5 {s : MSig} {a b : MModel} {h : List (List Int)} (e : homOps s a b h = false) : homB s a b h = false := by unfold homB; simp [e]
theorem hom_is {s : MSig} {a b : MModel} {h : List (List Int)} (h1 : modelB s a = true) (h2 : modelB s b = true) (h3 : (h.length : Int) = s.sorts) (h4 : allN (homRow a b h) h.length = true) : homB s a b h = homOps s a b h := by unfold homB; simp [h1, h2, h3, h4]
theorem homRow_no1 {a b : MModel} {h : List (List Int)} {k : Nat} (e : ¬ ((h.getD k []).length : Int) = a.sizes.getD k 0) : homRow a b h k = false := by unfold homRow; rw [decide_eq_false e, Bool.false_and]
theorem homRow_no2 {a b : MModel} {h : List (List Int)} {k : Nat} (e : belowB (h.getD k []) (b.sizes.getD k 0) = false) : homRow a b h k = false := by unfold homRow; rw [e, Bool.and_false]
theorem homRow_yes {a b : MModel} {h : List (List Int)} {k : Nat} (e1 : ((h.getD k []).length : Int) = a.sizes.getD k 0) (e : belowB (h.getD k []) (b.sizes.getD k 0) = true) : homRow a b h k = true := by unfold homRow; rw [e, decide_eq_true e1]; rfl
/-- what a map of models needs, its operations aside -/
structure HomRows (s : MSig) (a b : MModel) (h : List (List Int)) : Prop where
  fa : ModFacts s a
  fb : ModFacts s b
  le : Lens h a.sizes
  va : Vals h b.sizes
theorem hom_rows {s : MSig} {a b : MModel} {h : List (List Int)} (h1 : modelB s a = true) (h2 : modelB s b = true) (h3 : (h.length : Int) = s.sorts) (h4 : allN (homRow a b h) h.length = true) : HomRows s a b h := by
  have fa := model_facts h1
  have fb := model_facts h2
  have hsl := fa.sl
  have hsb := fb.sl
  refine ⟨fa, fb, ⟨by omega, fun k hk => ?_⟩, fun k hk x hx => ?_⟩
  · have := allN_at h4 (show k < h.length by omega)
    unfold homRow at this
    simp only [Bool.and_eq_true, decide_eq_true_eq] at this
    rw [this.1, getD_at _ hk]
  · have := allN_at h4 hk
    unfold homRow belowB at this
    simp only [Bool.and_eq_true, decide_eq_true_eq, List.all_eq_true] at this
    exact this.2 x hx
theorem hom_facts {s : MSig} {a b : MModel} {h : List (List Int)} (e : homB s a b h = true) : HomRows s a b h ∧ homOps s a b h = true := by
  unfold homB at e
  simp only [Bool.and_eq_true, decide_eq_true_eq] at e
  obtain ⟨⟨⟨⟨h1, h2⟩, h3⟩, h4⟩, h5⟩ := e
  exact ⟨hom_rows h1 h2 h3 h4, h5⟩
section
variable {s : MSig} {a b : MModel} {h : List (List Int)}
theorem ModFacts.row_in (f : ModFacts s a) {k : Nat} (hk : k < s.ops.length) : ∀ x ∈ (opRow s k).dropLast, 0 ≤ x ∧ x < (a.sizes.length : Int) := fun x hx => by
  have := (opRow_valid f.va hk).2.2 x (List.mem_of_mem_dropLast' hx)
  have := f.sl
  omega
theorem ModFacts.last_in (f : ModFacts s a) {k : Nat} (hk : k < s.ops.length) : 0 ≤ (opRow s k).getLastD (-1) ∧ (opRow s k).getLastD (-1) < (a.sizes.length : Int) := by
  obtain ⟨h1, h2, h3⟩ := opRow_valid f.va hk
  rw [last_at (by omega)]
  have := h3 _ (List.getElem_mem (show (opRow s k).length - 1 < (opRow s k).length by omega))
  have := f.sl
  omega
/-- an operation's sorts and table in a model -/
structure OpAt (s : MSig) (m : MModel) (takes : List Int) (last : Int) (table : List Int) : Prop where
  tin : ∀ x ∈ takes, 0 ≤ x ∧ x < (m.sizes.length : Int)
  tsm : takes.length ≤ 2
  lin : 0 ≤ last ∧ last < (m.sizes.length : Int)
  len : (table.length : Int) = waysM (ledM m.sizes takes)
  val : ∀ x ∈ table, 0 ≤ x ∧ x < m.sizes.getD last.toNat 0
  siz : Sizes (ledM m.sizes takes)
  into : InTo m.sizes takes
theorem OpAt.zlen {s : MSig} {m : MModel} {takes : List Int} {last : Int} {table : List Int} (o : OpAt s m takes last table) : (ledM m.sizes takes).length ≤ 4 := by rw [ledM_len]; have := o.tsm; omega
theorem OpAt.few {s : MSig} {m : MModel} {takes : List Int} {last : Int} {table : List Int} (o : OpAt s m takes last table) : table.length ≤ 81 := by have := o.len; have := ways_few o.siz o.zlen; omega
theorem ModFacts.op (f : ModFacts s a) {k : Nat} (hk : k < s.ops.length) : OpAt s a (opRow s k).dropLast ((opRow s k).getLastD (-1)) (a.tables.getD k []) := by
  obtain ⟨q1, q2, q3, q4⟩ := f.table hk
  obtain ⟨h1, h2, h3⟩ := opRow_valid f.va hk
  refine ⟨f.row_in hk, by rw [List.length_dropLast]; omega, f.last_in hk, by rw [q2]; exact q3, by rw [q2]; exact q4, (f.taken hk).1, f.into fun x hx => h3 x (List.mem_of_mem_dropLast' hx)⟩
theorem HomRows.in_ (r : HomRows s a b h) {k : Nat} (hk : k < s.ops.length) (n : Int) : VIn h (opRow s k).dropLast (digM (ledM a.sizes (opRow s k).dropLast) n) ∧ InAll (ledM b.sizes (opRow s k).dropLast) (ledV h (opRow s k).dropLast (digM (ledM a.sizes (opRow s k).dropLast) n)) := by
  have h3 := r.fa.sorts
  have h0 := dig_in (r.fa.taken hk).1 n
  have hab : b.sizes.length = a.sizes.length := by have := r.fa.sl; have := r.fb.sl; omega
  exact ⟨vin_of r.le (r.fa.row_in hk) h3.1 h0, ledV_in r.le r.va hab (r.fa.row_in hk) h3.1 h0⟩
end
end

section
open Go.RowKit
set_option linter.unusedVariables false
set_option linter.unusedSimpArgs false

def firstIx (row : List Int) (v : Int) : Int := if v ∈ row then (row.idxOf v : Int) else -1
theorem firstIx_hit {row : List Int} {v : Int} {k : Nat} (hk : k < row.length) (hn : v ∉ row.take k) (he : row[k] = v) : firstIx row v = k := by
  have hm : v ∈ row := he ▸ List.getElem_mem hk
  unfold firstIx
  rw [if_pos hm]
  have hs : row = row.take k ++ (v :: row.drop (k + 1)) := by
    rw [← he, ← List.drop_eq_getElem_cons hk, List.take_append_drop]
  have : row.idxOf v = k := by
    conv => lhs; rw [hs]
    rw [List.idxOf_append, if_neg hn, List.idxOf_cons_self, List.length_take]
    omega
  rw [this]
theorem firstIx_none {row : List Int} {v : Int} (hn : v ∉ row) : firstIx row v = -1 := by unfold firstIx; rw [if_neg hn]
theorem not_take {row : List Int} {v : Int} {k : Nat} (hk : k < row.length) (hn : v ∉ row.take k) (he : row[k] ≠ v) : v ∉ row.take (k + 1) := by
  rw [List.take_succ_eq_append_getElem hk]
  simp only [List.mem_append, List.mem_singleton, not_or]
  exact ⟨hn, fun e => he e.symm⟩
def placesM (row vals : List Int) : List Int := vals.map (firstIx row)
theorem placesM_len (row vals : List Int) : (placesM row vals).length = vals.length := by simp [placesM]
theorem placesM_at {row vals : List Int} {k : Nat} (hk : k < vals.length) (h : k < (placesM row vals).length) : (placesM row vals)[k] = firstIx row vals[k] := by simp [placesM]
theorem placesM_take {row vals : List Int} {k : Nat} (hk : k < vals.length) : placesM row (vals.take (k + 1)) = placesM row (vals.take k) ++ [firstIx row vals[k]] := by
  unfold placesM; rw [List.take_succ_eq_append_getElem hk, List.map_append]; rfl
def kernelM (s : MSig) (a b : MModel) (h : List (List Int)) : List (List Int) := if homB s a b h then h.map (fun r => placesM r r) else []
theorem kernel_no {s : MSig} {a b : MModel} {h : List (List Int)} (e : homB s a b h = false) : kernelM s a b h = [] := by unfold kernelM; rw [e]; rfl
theorem kernel_yes {s : MSig} {a b : MModel} {h : List (List Int)} (e : homB s a b h = true) : kernelM s a b h = h.map (fun r => placesM r r) := by unfold kernelM; rw [e]; rfl

/-- a set and one value more -/
def addV (set v : Int) : Int := if set / 2 ^ v.toNat % 2 = 0 then set + 2 ^ v.toNat else set
theorem shl_pow {v : Int} (h0 : 0 ≤ v) (h3 : v ≤ 3) : wrap64 (2 ^ min v.toNat 64) = 2 ^ v.toNat := by
  rcases (show v = 0 ∨ v = 1 ∨ v = 2 ∨ v = 3 by omega) with rfl | rfl | rfl | rfl <;> simp [wrap64]
theorem shl_wrap {v : Int} (h0 : 0 ≤ v) (h3 : v ≤ 3) : IntKind.i64.wrap (2 ^ min v.toNat 64) = 2 ^ v.toNat := by
  rcases (show v = 0 ∨ v = 1 ∨ v = 2 ∨ v = 3 by omega) with rfl | rfl | rfl | rfl <;> simp [IntKind.wrap_i64]
def setM (row : List Int) : Int := row.foldl addV 0
theorem setM_take {row : List Int} {k : Nat} (hk : k < row.length) : setM (row.take (k + 1)) = addV (setM (row.take k)) row[k] := by
  unfold setM; rw [List.take_succ_eq_append_getElem hk, List.foldl_append]; rfl
theorem val3 {v : Int} (h0 : 0 ≤ v) (h1 : v < 3) : v = 0 ∨ v = 1 ∨ v = 2 := by omega
theorem set8 {x : Int} (h0 : 0 ≤ x) (h1 : x < 8) : x = 0 ∨ x = 1 ∨ x = 2 ∨ x = 3 ∨ x = 4 ∨ x = 5 ∨ x = 6 ∨ x = 7 := by omega
theorem addV_in {x v : Int} (h0 : 0 ≤ x) (h1 : x < 8) (h2 : 0 ≤ v) (h3 : v < 3) : 0 ≤ addV x v ∧ addV x v < 8 := by
  rcases val3 h2 h3 with rfl | rfl | rfl <;> rcases set8 h0 h1 with rfl | rfl | rfl | rfl | rfl | rfl | rfl | rfl <;> decide
theorem setM_in {row : List Int} (h : ∀ x ∈ row, 0 ≤ x ∧ x < 3) : 0 ≤ setM row ∧ setM row < 8 := by
  have : ∀ (row : List Int) (x : Int), (∀ y ∈ row, 0 ≤ y ∧ y < 3) → 0 ≤ x → x < 8 → 0 ≤ row.foldl addV x ∧ row.foldl addV x < 8 := by
    intro row
    induction row with
    | nil => intro x _ a b; exact ⟨a, b⟩
    | cons y row ih =>
      intro x hx a b
      have hy := hx y (List.mem_cons_self ..)
      have := addV_in a b hy.1 hy.2
      exact ih _ (fun z hz => hx z (List.mem_cons_of_mem _ hz)) this.1 this.2
  exact this row 0 h (by omega) (by omega)
def imageM (s : MSig) (a b : MModel) (h : List (List Int)) : List Int := if homB s a b h then h.map setM else []
theorem image_no {s : MSig} {a b : MModel} {h : List (List Int)} (e : homB s a b h = false) : imageM s a b h = [] := by unfold imageM; rw [e]; rfl
theorem image_yes {s : MSig} {a b : MModel} {h : List (List Int)} (e : homB s a b h = true) : imageM s a b h = h.map setM := by unfold imageM; rw [e]; rfl
/-- what a map of models is made of -/
structure HomUse (s : MSig) (b : MModel) (h : List (List Int)) : Prop where
  sor : (h.length : Int) = s.sorts
  few : h.length ≤ 3
  row : ∀ (k : Nat) (hk : k < h.length), (h[k]).length ≤ 3 ∧ ∀ x ∈ h[k], 0 ≤ x ∧ x < 3
theorem hom_use {s : MSig} {a b : MModel} {h : List (List Int)} (e : homB s a b h = true) : HomUse s b h := by
  obtain ⟨r, -⟩ := hom_facts e
  have h1 := r.fa.sl
  have h2 := r.le.1
  have h3 := r.fa.sorts
  refine ⟨by omega, by omega, fun k hk => ?_⟩
  have hka : k < a.sizes.length := by omega
  have hkb : k < b.sizes.length := by have := r.fb.sl; omega
  have l := r.le.2 k hka
  have v := r.va k hk
  rw [getD_at _ hk] at l v
  rw [getD_at _ hkb] at v
  have za := r.fa.sz _ (List.getElem_mem hka)
  have zb := r.fb.sz _ (List.getElem_mem hkb)
  exact ⟨by omega, fun x hx => by have := v x hx; omega⟩
end

section
open Go.RowKit
set_option linter.unusedVariables false
set_option linter.unusedSimpArgs false

def hasB (set v : Int) : Bool := decide (set / 2 ^ v.toNat % 2 = 1)
def haveOne (sets : List Int) (s v : Int) : Bool := hasB (sets.getD s.toNat 0) v
/-- the first n values are in their sets -/
def haveB (sets takes vals : List Int) (n : Nat) : Bool := allN (fun j => haveOne sets (takes.getD j 0) (vals.getD j 0)) n
/-- what one row of values adds -/
def addAt (zs takes : List Int) (last : Int) (table : List Int) (j : Nat) (st : List Int × Bool) : List Int × Bool :=
  if !haveOne st.1 last (table.getD j 0) && haveB st.1 takes (digM zs j) takes.length then (st.1.set last.toNat (st.1.getD last.toNat 0 + 2 ^ (table.getD j 0).toNat), true) else st
def addRows (zs takes : List Int) (last : Int) (table : List Int) (n : Nat) (st : List Int × Bool) : List Int × Bool := (List.range n).foldl (fun st j => addAt zs takes last table j st) st
theorem addRows_zero (zs takes : List Int) (last : Int) (table : List Int) (st : List Int × Bool) : addRows zs takes last table 0 st = st := rfl
theorem addRows_succ (zs takes : List Int) (last : Int) (table : List Int) (n : Nat) (st : List Int × Bool) : addRows zs takes last table (n + 1) st = addAt zs takes last table n (addRows zs takes last table n st) := by
  unfold addRows; rw [List.range_succ, List.foldl_append]; rfl
def addOp (s : MSig) (m : MModel) (k : Nat) (st : List Int × Bool) : List Int × Bool := addRows (ledM m.sizes (opRow s k).dropLast) (opRow s k).dropLast ((opRow s k).getLastD (-1)) (m.tables.getD k []) (m.tables.getD k []).length st
def addOps (s : MSig) (m : MModel) (n : Nat) (st : List Int × Bool) : List Int × Bool := (List.range n).foldl (fun st k => addOp s m k st) st
theorem addOps_zero (s : MSig) (m : MModel) (st : List Int × Bool) : addOps s m 0 st = st := rfl
theorem addOps_succ (s : MSig) (m : MModel) (n : Nat) (st : List Int × Bool) : addOps s m (n + 1) st = addOp s m n (addOps s m n st) := by
  unfold addOps; rw [List.range_succ, List.foldl_append]; rfl
/-- all operations once -/
def roundM (s : MSig) (m : MModel) (sets : List Int) : List Int × Bool := addOps s m s.ops.length (sets, false)
def closeM (s : MSig) (m : MModel) : Nat → List Int → List Int
  | 0, sets => sets
  | f + 1, sets => if (roundM s m sets).2 then closeM s m f (roundM s m sets).1 else (roundM s m sets).1
/-- a set for each sort -/
structure SetsIn (m : MModel) (sets : List Int) : Prop where
  len : sets.length = m.sizes.length
  val : ∀ (k : Nat) (hk : k < sets.length), 0 ≤ sets[k] ∧ sets[k] < 2 ^ (m.sizes.getD k 0).toNat
def setB (m : MModel) (sets : List Int) (k : Nat) : Bool := decide (0 ≤ sets.getD k 0) && decide (sets.getD k 0 < 2 ^ (m.sizes.getD k 0).toNat)
def setsB (m : MModel) (sets : List Int) : Bool := decide (sets.length = m.sizes.length) && allN (setB m sets) sets.length
theorem setsB_iff {m : MModel} {sets : List Int} : setsB m sets = true ↔ SetsIn m sets := by
  unfold setsB
  rw [Bool.and_eq_true, decide_eq_true_eq, allN_iff]
  constructor
  · rintro ⟨h1, h2⟩
    refine ⟨h1, fun k hk => ?_⟩
    have := h2 k hk
    unfold setB at this
    rw [Bool.and_eq_true, decide_eq_true_eq, decide_eq_true_eq, getD_at _ hk] at this
    exact this
  · rintro ⟨h1, h2⟩
    refine ⟨h1, fun k hk => ?_⟩
    unfold setB
    rw [Bool.and_eq_true, decide_eq_true_eq, decide_eq_true_eq, getD_at _ hk]
    exact h2 k hk
theorem setsB_no1 {m : MModel} {sets : List Int} (h : ¬ sets.length = m.sizes.length) : setsB m sets = false := by unfold setsB; rw [decide_eq_false h, Bool.false_and]
theorem setsB_no2 {m : MModel} {sets : List Int} {k : Nat} (hk : k < sets.length) (h : setB m sets k = false) : setsB m sets = false := by unfold setsB; rw [allN_bad hk h, Bool.and_false]
theorem setsB_yes {m : MModel} {sets : List Int} (h1 : sets.length = m.sizes.length) (h : allN (setB m sets) sets.length = true) : setsB m sets = true := by unfold setsB; rw [h, decide_eq_true h1]; rfl
theorem pow_size {z : Int} (h0 : 1 ≤ z) (h1 : z ≤ 3) : (2 : Int) ^ z.toNat ≤ 8 := by
  rcases (show z = 1 ∨ z = 2 ∨ z = 3 by omega) with rfl | rfl | rfl <;> decide
theorem pow_in {v : Int} (h0 : 0 ≤ v) (h3 : v < 3) : 1 ≤ (2 : Int) ^ v.toNat ∧ (2 : Int) ^ v.toNat ≤ 4 := by
  rcases val3 h0 h3 with rfl | rfl | rfl <;> decide
theorem dig_three {zs : List Int} (hz : Sizes zs) (n : Int) : ∀ x ∈ digM zs n, 0 ≤ x ∧ x < 3 := by
  intro x hx
  obtain ⟨k, hk, rfl⟩ := List.getElem_of_mem hx
  have h := dig_in hz n
  have hk' : k < zs.length := by rw [← h.1]; exact hk
  have := h.2 k hk' hk
  have := hz _ (List.getElem_mem hk')
  omega
theorem shl_add {x v : Int} (h0 : 0 ≤ x) (h1 : x < 8) (h2 : 0 ≤ v) (h3 : v < 3) : wrap64 (x + wrap64 (2 ^ v.toNat)) = x + 2 ^ v.toNat := by
  rcases val3 h2 h3 with rfl | rfl | rfl <;> simp [wrap64] <;> omega
theorem add_new {x v z : Int} (h0 : 0 ≤ x) (h2 : 0 ≤ v) (h3 : v < z) (hz : z ≤ 3) (hx : x < 2 ^ z.toNat) (hn : hasB x v = false) : x < x + 2 ^ v.toNat ∧ x + 2 ^ v.toNat < 2 ^ z.toNat := by
  rcases (show z = 1 ∨ z = 2 ∨ z = 3 by omega) with rfl | rfl | rfl <;> rcases val3 h2 (by omega) with rfl | rfl | rfl <;> (try omega) <;> rcases set8 h0 (by have : (2 : Int) ^ (1 : Int).toNat = 2 := by decide
                                                                                                                                                              have : (2 : Int) ^ (2 : Int).toNat = 4 := by decide
                                                                                                                                                              have : (2 : Int) ^ (3 : Int).toNat = 8 := by decide
                                                                                                                                                              omega) with rfl | rfl | rfl | rfl | rfl | rfl | rfl | rfl <;> revert hn hx <;> decide
section
variable {s : MSig} {m : MModel}
theorem SetsIn.small (f : ModFacts s m) {sets : List Int} (h : SetsIn m sets) {k : Nat} (hk : k < sets.length) : 0 ≤ sets[k] ∧ sets[k] < 8 := by
  have := h.val k hk
  have hk' : k < m.sizes.length := by rw [← h.len]; exact hk
  rw [getD_at _ hk'] at this
  have z := f.sz _ (List.getElem_mem hk')
  have := pow_size z.1 z.2
  omega
def total (sets : List Int) : Int := sets.foldl (· + ·) 0
theorem foldl_add (xs : List Int) (a : Int) : xs.foldl (· + ·) a = a + total xs := by
  unfold total
  induction xs generalizing a with
  | nil => simp
  | cons x xs ih => simp only [List.foldl_cons]; rw [ih (a + x), ih (0 + x)]; omega
theorem total_cons (x : Int) (xs : List Int) : total (x :: xs) = x + total xs := by
  have := foldl_add xs (0 + x)
  unfold total at this ⊢
  simp only [List.foldl_cons]
  rw [this]; omega
theorem total_set : ∀ {xs : List Int} {k : Nat} (hk : k < xs.length) (y : Int), total (xs.set k y) = total xs - xs[k] + y
  | x :: xs, 0, _, y => by simp only [List.set_cons_zero, total_cons, List.getElem_cons_zero]; omega
  | x :: xs, k + 1, hk, y => by
    simp only [List.set_cons_succ, total_cons, List.getElem_cons_succ]
    rw [total_set (xs := xs) (by simpa using hk) y]; omega
theorem total_le : ∀ {xs : List Int}, (∀ x ∈ xs, 0 ≤ x ∧ x < 8) → 0 ≤ total xs ∧ total xs ≤ 7 * xs.length
  | [], _ => by simp [total]
  | x :: xs, h => by
    have a := h x (List.mem_cons_self ..)
    have b := total_le (xs := xs) (fun y hy => h y (List.mem_cons_of_mem _ hy))
    rw [total_cons, List.length_cons]
    omega
/-- what a row of values adds keeps sets, and adds to their sum if it tells so -/
structure Grows (m : MModel) (a b : List Int × Bool) : Prop where
  ok : SetsIn m b.1
  le : total a.1 ≤ total b.1
  up : b.2 = true → a.2 = true ∨ total a.1 < total b.1
  fl : a.2 = true → b.2 = true
  st : b.2 = false → b.1 = a.1
theorem Grows.refl {a : List Int × Bool} (h : SetsIn m a.1) : Grows m a a := ⟨h, Int.le_refl _, fun h => .inl h, fun h => h, fun _ => rfl⟩
theorem Grows.trans {a b c : List Int × Bool} (h : Grows m a b) (g : Grows m b c) : Grows m a c := by
  refine ⟨g.ok, Int.le_trans h.le g.le, fun hc => ?_, fun ha => g.fl (h.fl ha), fun hc => ?_⟩
  · rcases g.up hc with hb | hb
    · rcases h.up hb with ha | ha
      · exact .inl ha
      · exact .inr (Int.lt_of_lt_of_le ha g.le)
    · exact .inr (Int.lt_of_le_of_lt h.le hb)
  · have hb : b.2 = false := by cases hb : b.2 with
      | false => rfl
      | true => rw [g.fl hb] at hc; cases hc
    rw [g.st hc, h.st hb]
theorem addAt_grows (f : ModFacts s m) {takes : List Int} {last : Int} {table : List Int} (o : OpAt s m takes last table) {zs : List Int} {j : Nat} (hj : j < table.length) {st : List Int × Bool} (h : SetsIn m st.1) :
    Grows m st (addAt zs takes last table j st) := by
  unfold addAt
  split
  · rename_i hc
    rw [Bool.and_eq_true] at hc
    have hn : haveOne st.1 last (table.getD j 0) = false := by simpa using hc.1
    have hl := o.lin
    have hlk : last.toNat < st.1.length := by rw [h.len]; omega
    have hlm : last.toNat < m.sizes.length := by omega
    rw [getD_at _ hj] at *
    have hv := o.val _ (List.getElem_mem hj)
    rw [getD_at _ hlm] at hv
    have hx := h.val _ hlk
    rw [getD_at _ hlm] at hx
    unfold haveOne at hn
    rw [getD_at _ hlk] at *
    have hz := f.sz _ (List.getElem_mem hlm)
    obtain ⟨n1, n2⟩ := add_new hx.1 hv.1 hv.2 hz.2 hx.2 hn
    refine ⟨⟨by simp [h.len], fun k hk => ?_⟩, ?_, fun _ => .inr ?_, fun _ => rfl, fun e => by cases e⟩
    · simp only [List.length_set] at hk
      simp only [List.getElem_set]
      split
      · rename_i e
        subst e
        rw [getD_at _ hlm]
        omega
      · exact h.val k hk
    · simp only; rw [total_set hlk]; omega
    · simp only; rw [total_set hlk]; omega
  · exact Grows.refl h
theorem addRows_grows (f : ModFacts s m) {takes : List Int} {last : Int} {table : List Int} (o : OpAt s m takes last table) {zs : List Int} {st : List Int × Bool} (h : SetsIn m st.1) : ∀ n, n ≤ table.length → Grows m st (addRows zs takes last table n st) := by
  intro n
  induction n with
  | zero => intro _; exact Grows.refl h
  | succ n ih =>
    intro hn
    have g := ih (by omega)
    rw [addRows_succ]
    exact g.trans (addAt_grows f o (by omega) g.ok)
theorem addOps_grows (f : ModFacts s m) {st : List Int × Bool} (h : SetsIn m st.1) : ∀ n, n ≤ s.ops.length → Grows m st (addOps s m n st) := by
  intro n
  induction n with
  | zero => intro _; exact Grows.refl h
  | succ n ih =>
    intro hn
    have g := ih (by omega)
    rw [addOps_succ]
    exact g.trans (addRows_grows f (f.op (by omega)) g.ok _ (Nat.le_refl _))
theorem roundM_grows (f : ModFacts s m) {sets : List Int} (h : SetsIn m sets) : SetsIn m (roundM s m sets).1 ∧ ((roundM s m sets).2 = true → total sets < total (roundM s m sets).1) ∧ ((roundM s m sets).2 = false → (roundM s m sets).1 = sets) := by
  have g := addOps_grows f (st := (sets, false)) h s.ops.length (Nat.le_refl _)
  refine ⟨g.ok, fun e => ?_, g.st⟩
  rcases g.up e with x | x
  · cases x
  · exact x
theorem total_21 (f : ModFacts s m) {sets : List Int} (h : SetsIn m sets) : 0 ≤ total sets ∧ total sets ≤ 21 := by
  have := total_le (xs := sets) (fun x hx => by obtain ⟨k, hk, rfl⟩ := List.getElem_of_mem hx; exact h.small f hk)
  have := h.len
  have := f.sorts
  omega
end
/-- what is made of sets, with operations and themselves -/
def madeM (s : MSig) (m : MModel) (sets : List Int) : List Int := if modelB s m && setsB m sets then closeM s m 22 sets else []
theorem made_no1 {s : MSig} {m : MModel} {sets : List Int} (h : modelB s m = false) : madeM s m sets = [] := by unfold madeM; rw [h]; rfl
theorem made_no2 {s : MSig} {m : MModel} {sets : List Int} (h : setsB m sets = false) : madeM s m sets = [] := by unfold madeM; rw [h, Bool.and_false]; rfl
theorem made_yes {s : MSig} {m : MModel} {sets : List Int} (h : modelB s m = true) (h2 : setsB m sets = true) : madeM s m sets = closeM s m 22 sets := by unfold madeM; rw [h, h2]; rfl
/-- some rounds have been gone through -/
def Closing (s : MSig) (m : MModel) (sets now : List Int) : Prop := SetsIn m now ∧ ∃ f : Nat, closeM s m 22 sets = closeM s m (f + 1) now ∧ 21 - total now ≤ (f : Int)
theorem closing_start {s : MSig} {m : MModel} (f : ModFacts s m) {sets : List Int} (h : SetsIn m sets) : Closing s m sets sets := ⟨h, 21, rfl, by have := total_21 f h; omega⟩
theorem Closing.more {s : MSig} {m : MModel} (f : ModFacts s m) {sets now : List Int} (h : Closing s m sets now) (e : (roundM s m now).2 = true) : Closing s m sets (roundM s m now).1 ∧ total now < total (roundM s m now).1 := by
  obtain ⟨h1, n, h2, h3⟩ := h
  obtain ⟨g1, g2, -⟩ := roundM_grows f h1
  have g3 := g2 e
  have g4 := total_21 f g1
  refine ⟨⟨g1, n - 1, ?_, by omega⟩, g3⟩
  rw [h2]
  obtain ⟨k, rfl⟩ : ∃ k, n = k + 1 := ⟨n - 1, by omega⟩
  rw [closeM, if_pos e]
  rfl
theorem Closing.done {s : MSig} {m : MModel} (f : ModFacts s m) {sets now : List Int} (h : Closing s m sets now) (e : (roundM s m now).2 = false) : closeM s m 22 sets = now ∧ (roundM s m now).1 = now := by
  obtain ⟨h1, n, h2, h3⟩ := h
  obtain ⟨g1, -, g2⟩ := roundM_grows f h1
  rw [h2, closeM, if_neg (by rw [e]; simp)]
  exact ⟨g2 e, g2 e⟩
theorem closeM_len {s : MSig} {m : MModel} (f : ModFacts s m) : ∀ (n : Nat) {sets : List Int}, SetsIn m sets → SetsIn m (closeM s m n sets)
  | 0, _, h => h
  | n + 1, sets, h => by
    rw [closeM]
    split
    · exact closeM_len f n (roundM_grows f h).1
    · exact (roundM_grows f h).1
theorem made_len (s : MSig) (m : MModel) (sets : List Int) : (madeM s m sets).length ≤ 3 := by
  unfold madeM
  split
  · rename_i h
    rw [Bool.and_eq_true] at h
    have f := model_facts h.1
    have := (closeM_len f 22 (setsB_iff.1 h.2)).len
    have := f.sorts
    omega
  · simp
end

section
open Go.RowKit
set_option linter.unusedVariables false
set_option linter.unusedSimpArgs false

/-- every value of a is one of b -/
def BitsSub (a b : Int) : Prop := ∀ v : Int, 0 ≤ v → v < 3 → hasB a v = true → hasB b v = true
theorem BitsSub.refl (a : Int) : BitsSub a a := fun _ _ _ h => h
theorem BitsSub.trans {a b c : Int} (h : BitsSub a b) (k : BitsSub b c) : BitsSub a c := fun v h0 h1 h2 => k v h0 h1 (h v h0 h1 h2)
theorem int8 {x : Int} (h0 : 0 ≤ x) (h1 : x < 8) : x = 0 ∨ x = 1 ∨ x = 2 ∨ x = 3 ∨ x = 4 ∨ x = 5 ∨ x = 6 ∨ x = 7 := by omega
theorem int3 {x : Int} (h0 : 0 ≤ x) (h1 : x < 3) : x = 0 ∨ x = 1 ∨ x = 2 := by omega
theorem bits_add {x v : Int} (h0 : 0 ≤ x) (h1 : x < 8) (h2 : 0 ≤ v) (h3 : v < 3) (hn : hasB x v = false) : BitsSub x (x + 2 ^ v.toNat) := by
  intro u h4 h5 h6
  rcases int8 h0 h1 with rfl | rfl | rfl | rfl | rfl | rfl | rfl | rfl <;> rcases int3 h2 h3 with rfl | rfl | rfl <;> rcases int3 h4 h5 with rfl | rfl | rfl <;> revert hn h6 <;> decide
/-- as numbers -/
theorem bits_le {a b : Int} (h0 : 0 ≤ a) (h1 : a < 8) (h2 : 0 ≤ b) (h3 : b < 8) (h : BitsSub a b) : a ≤ b ∧ bits .and .i64 (b - a) a = 0 := by
  have e0 := h 0 (by omega) (by omega)
  have e1 := h 1 (by omega) (by omega)
  have e2 := h 2 (by omega) (by omega)
  clear h
  rcases int8 h0 h1 with rfl | rfl | rfl | rfl | rfl | rfl | rfl | rfl <;> rcases int8 h2 h3 with rfl | rfl | rfl | rfl | rfl | rfl | rfl | rfl <;> first | exact ⟨by decide, by decide⟩ | (exfalso; revert e0 e1 e2; decide)
def SetsSub (a b : List Int) : Prop := ∀ k, BitsSub (a.getD k 0) (b.getD k 0)
theorem SetsSub.refl (a : List Int) : SetsSub a a := fun _ => BitsSub.refl _
theorem SetsSub.trans {a b c : List Int} (h : SetsSub a b) (k : SetsSub b c) : SetsSub a c := fun j => (h j).trans (k j)
section
variable {s : MSig} {m : MModel}
theorem addAt_sub (f : ModFacts s m) {takes : List Int} {last : Int} {table : List Int} (o : OpAt s m takes last table) {zs : List Int} {j : Nat} (hj : j < table.length) {st : List Int × Bool} (h : SetsIn m st.1) :
    SetsSub st.1 (addAt zs takes last table j st).1 := by
  unfold addAt
  split
  · rename_i hc
    rw [Bool.and_eq_true] at hc
    have hn : haveOne st.1 last (table.getD j 0) = false := by simpa using hc.1
    have hl := o.lin
    have hlk : last.toNat < st.1.length := by rw [h.len]; omega
    have hlm : last.toNat < m.sizes.length := by omega
    rw [getD_at _ hj] at *
    have hv := o.val _ (List.getElem_mem hj)
    rw [getD_at _ hlm] at hv
    have hx := h.small f hlk
    have hz := f.sz _ (List.getElem_mem hlm)
    unfold haveOne at hn
    rw [getD_at _ hlk] at *
    intro k
    simp only
    by_cases hk : last.toNat = k
    · subst hk
      rw [getD_at _ hlk, getD_at _ (show last.toNat < (st.1.set last.toNat (st.1[last.toNat] + 2 ^ (table[j]).toNat)).length by simpa using hlk), List.getElem_set_self]
      exact bits_add hx.1 hx.2 hv.1 (by omega) hn
    · rw [List.getD_eq_getElem?_getD, List.getD_eq_getElem?_getD, List.getElem?_set_ne hk]
      exact BitsSub.refl _
  · exact SetsSub.refl _
theorem addRows_sub (f : ModFacts s m) {takes : List Int} {last : Int} {table : List Int} (o : OpAt s m takes last table) {zs : List Int} {st : List Int × Bool} (h : SetsIn m st.1) : ∀ n, n ≤ table.length → SetsSub st.1 (addRows zs takes last table n st).1 := by
  intro n
  induction n with
  | zero => intro _; exact SetsSub.refl _
  | succ n ih =>
    intro hn
    rw [addRows_succ]
    exact (ih (by omega)).trans (addAt_sub f o (by omega) (addRows_grows f o h n (by omega)).ok)
theorem addOps_sub (f : ModFacts s m) {st : List Int × Bool} (h : SetsIn m st.1) : ∀ n, n ≤ s.ops.length → SetsSub st.1 (addOps s m n st).1 := by
  intro n
  induction n with
  | zero => intro _; exact SetsSub.refl _
  | succ n ih =>
    intro hn
    rw [addOps_succ]
    exact (ih (by omega)).trans (addRows_sub f (f.op (by omega)) (addOps_grows f h n (by omega)).ok _ (Nat.le_refl _))
theorem roundM_sub (f : ModFacts s m) {sets : List Int} (h : SetsIn m sets) : SetsSub sets (roundM s m sets).1 := addOps_sub f (st := (sets, false)) h _ (Nat.le_refl _)
theorem closeM_sub (f : ModFacts s m) : ∀ (n : Nat) {sets : List Int}, SetsIn m sets → SetsSub sets (closeM s m n sets)
  | 0, _, _ => SetsSub.refl _
  | n + 1, sets, h => by
    rw [closeM]
    split
    · exact (roundM_sub f h).trans (closeM_sub f n (roundM_grows f h).1)
    · exact roundM_sub f h
/-- what is closed is closed -/
theorem closeM_closed (f : ModFacts s m) : ∀ (n : Nat) {sets : List Int}, SetsIn m sets → 21 - total sets < (n : Int) → (roundM s m (closeM s m n sets)).2 = false
  | 0, sets, h, hn => by have := total_21 f h; omega
  | n + 1, sets, h, hn => by
    obtain ⟨g1, g2, g3⟩ := roundM_grows f h
    rw [closeM]
    cases hr : (roundM s m sets).2 with
    | true =>
      rw [if_pos rfl]
      have := g2 hr
      exact closeM_closed f n g1 (by omega)
    | false =>
      rw [if_neg (by simp), g3 hr]
      exact hr
theorem closeM_of_closed (f : ModFacts s m) {sets : List Int} (h : SetsIn m sets) (hr : (roundM s m sets).2 = false) (n : Nat) : closeM s m (n + 1) sets = sets := by
  rw [closeM, if_neg (by rw [hr]; simp), (roundM_grows f h).2.2 hr]
/-- made twice is made once -/
theorem made_twice (s : MSig) (m : MModel) {sets : List Int} (h1 : modelB s m = true) (h2 : setsB m sets = true) : madeM s m (madeM s m sets) = madeM s m sets := by
  have f := model_facts h1
  have hi := setsB_iff.1 h2
  have hc := closeM_len f 22 hi
  have hcl := closeM_closed f 22 hi (by have := total_21 f hi; omega)
  rw [made_yes h1 h2, made_yes h1 (setsB_iff.2 hc)]
  exact closeM_of_closed f hc hcl 21
theorem made_sub (s : MSig) (m : MModel) {sets : List Int} (h1 : modelB s m = true) (h2 : setsB m sets = true) : SetsSub sets (madeM s m sets) ∧ SetsIn m (madeM s m sets) := by
  have f := model_facts h1
  rw [made_yes h1 h2]
  exact ⟨closeM_sub f 22 (setsB_iff.1 h2), closeM_len f 22 (setsB_iff.1 h2)⟩
/-- all values -/
def fullM (m : MModel) : List Int := m.sizes.map fun z => 2 ^ z.toNat - 1
theorem full_at {k : Nat} (hk : k < m.sizes.length) : (fullM m).getD k 0 = 2 ^ (m.sizes[k]).toNat - 1 := by
  unfold fullM
  rw [getD_at _ (by simpa using hk), List.getElem_map]
theorem full_in (f : ModFacts s m) : SetsIn m (fullM m) := by
  refine ⟨by simp [fullM], fun k hk => ?_⟩
  have hk2 : k < m.sizes.length := by simpa [fullM] using hk
  have hz := f.sz _ (List.getElem_mem hk2)
  have e := full_at hk2
  rw [getD_at _ hk] at e
  rw [e, getD_at _ hk2]
  rcases (show m.sizes[k] = 1 ∨ m.sizes[k] = 2 ∨ m.sizes[k] = 3 by omega) with h | h | h <;> rw [h] <;> decide
theorem made_full (s : MSig) (m : MModel) (h1 : modelB s m = true) : madeM s m (fullM m) = fullM m := by
  have f := model_facts h1
  have hi := full_in f
  rw [made_yes h1 (setsB_iff.2 hi)]
  obtain ⟨g1, g2, g3⟩ := roundM_grows f hi
  have hs := roundM_sub f hi
  have e : (roundM s m (fullM m)).1 = fullM m := by
    refine List.ext_getElem (by rw [g1.len, hi.len]) fun k hk hk2 => ?_
    have hk3 : k < m.sizes.length := by rw [← g1.len]; exact hk
    have a := g1.val k hk
    have a8 := g1.small f hk
    have b8 := hi.small f hk2
    have hsk := hs k
    rw [getD_at _ hk2, getD_at _ hk] at hsk
    have hle := (bits_le b8.1 b8.2 a8.1 a8.2 hsk).1
    have e := full_at hk3
    rw [getD_at _ hk2] at e
    rw [getD_at _ hk3] at a
    omega
  refine closeM_of_closed f hi ?_ 21
  cases hr : (roundM s m (fullM m)).2 with
  | false => rfl
  | true => have := g2 hr; rw [e] at this; omega
end
end

section
open Go.RowKit
set_option linter.unusedVariables false
set_option linter.unusedSimpArgs false

set_option maxRecDepth 100000 in
theorem hasValue_any (set x : Int) (w : World) (h0 : 0 ≤ set) (h1 : set < 8) (h2 : 0 ≤ x) (h3 : x < 3) :
    Calls Try.prog 98 #[.int .i64 set, .int .i64 x] w fun e w' => e = .returned (.bool (decide (set / 2 ^ x.toNat % 2 = 1))) ∧ w = w' := by
  go_enter Try.func98, Try.ntmps98
  go_wp2
  go_ret
  refine ⟨ret_bool ?_, rfl⟩
  rcases val3 h2 h3 with rfl | rfl | rfl <;> rcases set8 h0 h1 with rfl | rfl | rfl | rfl | rfl | rfl | rfl | rfl <;> decide
end

section
open Go.RowKit
set_option linter.unusedVariables false
set_option linter.unusedSimpArgs false

set_option maxRecDepth 100000 in
theorem haveValues_any (sets takes vals : List Int) (w : World) (v v1 v2 : Value) (h : RInts w v sets) (h1 : RInts w v1 takes) (h2 : RInts w v2 vals) (hl : vals.length = takes.length) (hs : vals.length ≤ 1000)
    (hin : ∀ x ∈ takes, 0 ≤ x ∧ x < (sets.length : Int)) (hse : ∀ x ∈ sets, 0 ≤ x ∧ x < 8) (hva : ∀ x ∈ vals, 0 ≤ x ∧ x < 3) :
    Calls Try.prog 99 #[v, v1, v2] w fun e w' => e = .returned (.bool (haveB sets takes vals takes.length)) ∧ w = w' := by
  have H := Lib.hid h
  have H1 := Lib.hid h1
  have H2 := Lib.hid h2
  obtain ⟨A, c, rfl, -⟩ := h.form
  obtain ⟨A1, c1, rfl, -⟩ := h1.form
  obtain ⟨A2, c2, rfl, -⟩ := h2.form
  have HIN := Lib.hid hin
  have HSE := Lib.hid hse
  have HVA := Lib.hid hva
  have HL := Lib.hid hl
  have HDEF := Lib.hid (show haveB sets takes vals takes.length = allN (fun j => haveOne sets (takes.getD j 0) (vals.getD j 0)) takes.length from rfl)
  generalize haveB sets takes vals takes.length = R at HDEF ⊢
  clear h h1 h2 hin hse hva hl
  go_enter Try.func99, Try.ntmps99
  go_wp2
  go_loopw [7, 8, 11] (fun _ _ i wr => ∃ k : Nat, k ≤ vals.length ∧ i = .int .i64 k ∧ allN (fun j => haveOne sets (takes.getD j 0) (vals.getD j 0)) k = true ∧ w = wr) (fun _ _ i _ => vals.length - (intOf i).toNat)
  case atStart => exact ⟨0, Nat.zero_le _, rfl, rfl, rfl⟩
  case round =>
    obtain ⟨k, hk, rfl, hall, rfl⟩ := hrel
    have HALL := Lib.hid hall
    clear hall
    by_cases hlt : k < vals.length
    · have hlt' : (k : Int) < (vals.length : Int) := by omega
      have hkt : k < takes.length := by have := HL.out; omega
      have hkt' : (k : Int) < (takes.length : Int) := by omega
      obtain ⟨b, o, c', e, hx⟩ := H2.out.at_ hlt
      cases e
      obtain ⟨b1, o1, c1', e, hy⟩ := H1.out.at_ hkt
      cases e
      have HT := Lib.hid (allN_succ (fun j => haveOne sets (takes.getD j 0) (vals.getD j 0)) k)
      have HN := Lib.hid (fun e => allN_bad (p := fun j => haveOne sets (takes.getD j 0) (vals.getD j 0)) hkt e)
      simp only [getD_at _ hlt, getD_at _ hkt] at HT HN
      have HI := Lib.hid (HIN.out _ (List.getElem_mem hkt))
      have HV := Lib.hid (HVA.out _ (List.getElem_mem hlt))
      generalize takes[k] = t at hy HT HN HI
      generalize vals[k] = x at hx HT HN HV
      obtain ⟨n, rfl⟩ : ∃ n : Nat, t = (n : Int) := ⟨t.toNat, by have := HI.out; omega⟩
      have hn : n < sets.length := by have := HI.out; omega
      have hn' : (n : Int) < (sets.length : Int) := by omega
      obtain ⟨b2, o2, c2', e, hz⟩ := H.out.at_ hn
      cases e
      have HS := Lib.hid (HSE.out _ (List.getElem_mem hn))
      have HD := Lib.hid (show haveOne sets (n : Int) x = hasB sets[n] x by unfold haveOne; rw [Int.toNat_natCast, getD_at _ hn])
      rw [HD.out] at HT HN
      generalize sets[n] = y at hz HS HT HN HD
      have HQ := Lib.hid (show Calls Try.prog 98 #[.int .i64 y, .int .i64 x] w fun e w' => e = .returned (.bool (hasB y x)) ∧ w = w' from hasValue_any y x w HS.out.1 HS.out.2 HV.out.1 HV.out.2)
      cases hh : hasB y x with
      | true =>
        have HHB := Lib.hid hh
        rw [hh] at HT HN HQ
        clear hh
        go_wp2_with fail
        refine HQ.out.mono ?_
        rintro e w7 ⟨rfl, rfl⟩
        go_wp2
        go_roundw
        case rel => exact ⟨k + 1, by omega, by go_num, by rw [HT.out, HALL.out]; rfl, by first | trivial | rfl⟩
        case measure => simp [intOf]; omega
      | false =>
        rw [hh] at HN HQ
        have HF := Lib.hid (HN.out rfl)
        clear hh
        go_wp2_with fail
        refine HQ.out.mono ?_
        rintro e w7 ⟨rfl, rfl⟩
        go_wp2
        go_ret
        exact ⟨ret_bool (by rw [HDEF.out, HF.out]), rfl⟩
    · have hkn : k = takes.length := by have := HL.out; omega
      have hlt' : ¬ (k : Int) < (vals.length : Int) := by omega
      go_wp2
      go_ret
      exact ⟨ret_bool (by rw [HDEF.out, ← hkn, HALL.out]), rfl⟩

set_option maxRecDepth 100000 in
theorem setsOk_any (m : MModel) (sets : List Int) (w : World) (v v1 : Value) (h : RModel w v m) (h1 : RInts w v1 sets) (hz : Sizes m.sizes) (hm : m.sizes.length ≤ 3) :
    Calls Try.prog 69 #[v, v1] w fun e w' => e = .returned (.bool (setsB m sets)) ∧ Below w.heap.size w w' := by
  obtain ⟨Ama, cma, Amb, cmb, rfl⟩ := h.form
  have hb : Below w.heap.size w (w.alloc (.cells #[.slice Ama m.sizes.length cma, .slice Amb m.tables.length cmb] 28)) := below_alloc _ _
  have HB := Lib.hid hb
  have hsz : (w.alloc (.cells #[.slice Ama m.sizes.length cma, .slice Amb m.tables.length cmb] 28)).heap.size = w.heap.size + 1 := by simp
  have Hm := Lib.hid (h.keep hb)
  have m0 := bx_at (w) #[.slice Ama m.sizes.length cma, .slice Amb m.tables.length cmb] 28 (k := 0) rfl
  have m1 := bx_at (w) #[.slice Ama m.sizes.length cma, .slice Amb m.tables.length cmb] 28 (k := 1) rfl
  generalize hW : w.alloc (.cells #[.slice Ama m.sizes.length cma, .slice Amb m.tables.length cmb] 28) = W at HB hsz Hm m0 m1
  clear hb h
  have H1 := Lib.hid (h1.keep HB.out)
  obtain ⟨A1, c1, rfl, -⟩ := h1.form
  have HZ := Lib.hid hz
  have hl1 := h1.len
  clear h1 hz
  by_cases hlen : sets.length = m.sizes.length
  · have HLEN := Lib.hid hlen
    have e1 : ((sets.length : Int) != (m.sizes.length : Int)) = false := by simp [hlen]
    have hs3 : sets.length ≤ 3 := by omega
    have HNO := Lib.hid (fun (k : Nat) (hk : k < sets.length) e => setsB_no2 (m := m) hk e)
    have HYE := Lib.hid (fun e => setsB_yes (m := m) HLEN.out e)
    clear hlen
    have HC := Lib.hid m0
    go_enter Try.func69, Try.ntmps69
    go_wp2
    clear hW m0 m1
    go_loopw [5, 6, 15] (fun _ _ i wr => ∃ k : Nat, k ≤ sets.length ∧ i = .int .i64 k ∧ allN (setB m sets) k = true ∧ W = wr) (fun _ _ i _ => sets.length - (intOf i).toNat)
    case atStart => exact ⟨0, Nat.zero_le _, rfl, rfl, rfl⟩
    case round =>
      obtain ⟨k, hk, rfl, hall, rfl⟩ := hrel
      have HALL := Lib.hid hall
      clear hall
      by_cases hlt : k < sets.length
      · have hlt' : (k : Int) < (sets.length : Int) := by omega
        have hkm : k < m.sizes.length := by have := HLEN.out; omega
        have hkm' : (k : Int) < (m.sizes.length : Int) := by omega
        obtain ⟨b, o, c', e, hx⟩ := H1.out.at_ hlt
        cases e
        obtain ⟨b5, o5, c5, e, hy⟩ := Hm.out.of.1.at_ hkm
        cases e
        have HT := Lib.hid (allN_succ (setB m sets) k)
        have HN := Lib.hid (fun e => HNO.out k hlt e)
        have HD := Lib.hid (show setB m sets k = (decide (0 ≤ sets[k]) && decide (sets[k] < 2 ^ (m.sizes[k]).toNat)) by unfold setB; rw [getD_at _ hlt, getD_at _ hkm])
        rw [HD.out] at HT HN
        have HZK := Lib.hid (HZ.out _ (List.getElem_mem hkm))
        have m0 := HC.out
        generalize sets[k] = x at hx HT HN HD
        generalize m.sizes[k] = z at hy HT HN HZK HD
        have hz1 : (0 : Int) ≤ z := by have := HZK.out; omega
        have hsh := shl_pow (v := z) (by omega) (by have := HZK.out; omega)
        generalize (2 : Int) ^ z.toNat = p at HT HN HD hsh
        by_cases hx0 : x < 0
        · have hx0' : decide (x < 0) = true := by simpa using hx0
          have HF := Lib.hid (HN.out (by rw [decide_eq_false (by omega), Bool.false_and]))
          go_wp2
          go_ret
          exact ⟨ret_bool HF.out.symm, HB.out⟩
        · have hx0' : decide (x < 0) = false := by simpa using hx0
          by_cases hxp : p ≤ x
          · have HF := Lib.hid (HN.out (by rw [decide_eq_false (show ¬ x < p by omega), Bool.and_false]))
            go_wp2
            go_ret
            exact ⟨ret_bool HF.out.symm, HB.out⟩
          · have HT2 := Lib.hid (show allN (setB m sets) (k + 1) = true by rw [HT.out, HALL.out, decide_eq_true (show 0 ≤ x by omega), decide_eq_true (show x < p by omega)]; rfl)
            go_wp2
            go_roundw
            case rel => exact ⟨k + 1, by omega, by go_num, HT2.out, by first | trivial | rfl⟩
            case measure => simp [intOf]; omega
      · have hkn : k = sets.length := by omega
        have hlt' : ¬ (k : Int) < (sets.length : Int) := by omega
        have HF := Lib.hid (HYE.out (by rw [← hkn]; exact HALL.out))
        go_wp2
        go_ret
        exact ⟨ret_bool HF.out.symm, HB.out⟩
  · have HF := Lib.hid (setsB_no1 hlen)
    have e1 : ((sets.length : Int) != (m.sizes.length : Int)) = true := by simpa using (fun e : (sets.length : Int) = m.sizes.length => hlen (by omega))
    clear hlen
    go_enter Try.func69, Try.ntmps69
    go_wp2
    go_ret
    exact ⟨ret_bool HF.out.symm, HB.out⟩
end

section
open Go.RowKit
set_option linter.unusedVariables false
set_option linter.unusedSimpArgs false

set_option maxRecDepth 100000 in
theorem takesAndLeaves_any (s : MSig) (k : Nat) (w : World) (v : Value) (h : RSig w v s) (hv : validB s = true) (hk : k < s.ops.length) :
    Calls Try.prog 97 #[v, .int .i64 k] w fun e w' => ∃ u, e = .returned (.tuple #[u, .int .i64 ((opRow s k).getLastD (-1))]) ∧ RInts w' u (opRow s k).dropLast ∧ Below w.heap.size w w' := by
  obtain ⟨Asa, csa, rfl⟩ := h.form
  have hb : Below w.heap.size w (w.alloc (.cells #[.int .i64 s.sorts, .slice Asa s.ops.length csa] 25)) := below_alloc _ _
  have HB := Lib.hid hb
  have hsz : (w.alloc (.cells #[.int .i64 s.sorts, .slice Asa s.ops.length csa] 25)).heap.size = w.heap.size + 1 := by simp
  have Hs := Lib.hid (h.keep hb)
  have s0 := bx_at (w) #[.int .i64 s.sorts, .slice Asa s.ops.length csa] 25 (k := 0) rfl
  have s1 := bx_at (w) #[.int .i64 s.sorts, .slice Asa s.ops.length csa] 25 (k := 1) rfl
  generalize hW : w.alloc (.cells #[.int .i64 s.sorts, .slice Asa s.ops.length csa] 25) = W at HB hsz Hs s0 s1
  clear hb h
  have hk' : (k : Int) < (s.ops.length : Int) := by omega
  obtain ⟨r1, r2, -⟩ := opRow_valid hv hk
  obtain ⟨b, o, c, u, e, hx, hr⟩ := Hs.out.of.2.at_ hk
  cases e
  have HR : Hid (RInts W u (opRow s k)) := by rw [opRow_at hk]; exact hr
  clear hr hv
  generalize opRow s k = row at HR r1 r2
  obtain ⟨n, hn⟩ : ∃ n : Nat, row.length = n + 1 := ⟨row.length - 1, by omega⟩
  have hne : n < row.length := by omega
  obtain ⟨b1, o1, c1, rfl, hy⟩ := HR.out.at_ hne
  have hcap : n ≤ c1 := by
    obtain ⟨A9, c9, e, h9, -⟩ := HR.out.form
    cases e
    omega
  have HLS : Hid (row.getLastD (-1) = row[n]) := by
    have := last_at (row := row) (by omega)
    simp only [hn, Nat.add_sub_cancel] at this
    exact this
  have HD := Lib.hid HR.out.dropLast
  rw [hn] at HD
  simp only [Nat.add_sub_cancel] at HD
  rw [HLS.out]
  generalize row[n] = last at hy
  have hw0 : IntKind.i64.wrap (((n + 1 : Nat) : Int) - 1) = (n : Int) := by rw [IntKind.wrap_i64]; omega
  have hnn : (n : Int) < (n : Int) + 1 := by omega
  rw [hn] at hx
  clear HR HLS hne
  go_enter Try.func97, Try.ntmps97
  go_wp2_with fail
  clear hW
  refine wp_region_held_drew (S := (fun w' => w'.cell? ⟨b1, o1 + n, none⟩ = some (.int .i64 last))) (by kernel_rfl) ?_ (fun hHeld => ?_)
  · exact hy
  refine wpAnyH_take (i := 0) (oi := _) (v := ?_) rfl (by kernel_rfl) (by kernel_rfl) (by kernel_rfl) (fun _ _ _ h => h) (Or.inl ⟨by rfl, ?_⟩) (by assumption) ?_
  rotate_left
  · first | (intro w' hSw; (try dsimp only at hSw); go_simp; done) | (intro w' hSw; (try dsimp only at hSw); go_simp; with_reducible rfl)
  try simp only [Act.put, List.getElem_toArray, List.getElem_cons_zero, List.getElem_cons_succ, List.setIfInBounds_toArray, List.set_cons_zero, List.set_cons_succ]
  refine wpAnyH_take (i := 1) (oi := _) (v := ?_) rfl (by kernel_rfl) (by kernel_rfl) (by kernel_rfl) (fun _ _ _ h => h) (Or.inl ⟨by rfl, ?_⟩) (by assumption) ?_
  rotate_left
  · first | (intro w' hSw; (try dsimp only at hSw); go_simp; done) | (intro w' hSw; (try dsimp only at hSw); go_simp; with_reducible rfl)
  try simp only [Act.put, List.getElem_toArray, List.getElem_cons_zero, List.getElem_cons_succ, List.setIfInBounds_toArray, List.set_cons_zero, List.set_cons_succ]
  refine wpAnyH_take (i := 2) (oi := _) (v := ?_) rfl (by kernel_rfl) (by kernel_rfl) (by kernel_rfl) (fun _ _ _ h => h) (Or.inl ⟨by rfl, ?_⟩) (by assumption) ?_
  rotate_left
  · first | (intro w' hSw; (try dsimp only at hSw); go_simp; done) | (intro w' hSw; (try dsimp only at hSw); go_simp; with_reducible rfl)
  try simp only [Act.put, List.getElem_toArray, List.getElem_cons_zero, List.getElem_cons_succ, List.setIfInBounds_toArray, List.set_cons_zero, List.set_cons_succ]
  refine wpAnyH_take (i := 3) (oi := _) (v := ?_) rfl (by kernel_rfl) (by kernel_rfl) (by kernel_rfl) (fun _ _ _ h => h) (Or.inl ⟨by rfl, ?_⟩) (by assumption) ?_
  rotate_left
  · first | (intro w' hSw; (try dsimp only at hSw); go_simp; done) | (intro w' hSw; (try dsimp only at hSw); go_simp; with_reducible rfl)
  try simp only [Act.put, List.getElem_toArray, List.getElem_cons_zero, List.getElem_cons_succ, List.setIfInBounds_toArray, List.set_cons_zero, List.set_cons_succ]
  refine wpAnyH_take (i := 4) (oi := _) (v := ?_) rfl (by kernel_rfl) (by kernel_rfl) (by kernel_rfl) (fun _ _ _ h => h) (Or.inl ⟨by rfl, ?_⟩) (by assumption) ?_
  rotate_left
  · first | (intro w' hSw; (try dsimp only at hSw); go_simp; done) | (intro w' hSw; (try dsimp only at hSw); go_simp; with_reducible rfl)
  try simp only [Act.put, List.getElem_toArray, List.getElem_cons_zero, List.getElem_cons_succ, List.setIfInBounds_toArray, List.set_cons_zero, List.set_cons_succ]
  refine wpAnyH_take (i := 5) (oi := _) (v := ?_) rfl (by kernel_rfl) (by kernel_rfl) (by kernel_rfl) (fun _ _ _ h => h) (Or.inl ⟨by rfl, ?_⟩) (by assumption) ?_
  rotate_left
  · first | (intro w' hSw; (try dsimp only at hSw); go_simp; done) | (intro w' hSw; (try dsimp only at hSw); go_simp; with_reducible rfl)
  try simp only [Act.put, List.getElem_toArray, List.getElem_cons_zero, List.getElem_cons_succ, List.setIfInBounds_toArray, List.set_cons_zero, List.set_cons_succ]
  refine wpAnyH_take (i := 6) (oi := _) (v := ?_) rfl (by kernel_rfl) (by kernel_rfl) (by kernel_rfl) (fun _ _ _ h => h) (Or.inl ⟨by rfl, ?_⟩) (by assumption) ?_
  rotate_left
  · first | (intro w' hSw; (try dsimp only at hSw); go_simp; done) | (intro w' hSw; (try dsimp only at hSw); go_simp; with_reducible rfl)
  try simp only [Act.put, List.getElem_toArray, List.getElem_cons_zero, List.getElem_cons_succ, List.setIfInBounds_toArray, List.set_cons_zero, List.set_cons_succ]
  refine wpAnyH_take (i := 7) (oi := _) (v := ?_) rfl (by kernel_rfl) (by kernel_rfl) (by kernel_rfl) (fun _ _ _ h => h) (Or.inl ⟨by rfl, ?_⟩) (by assumption) ?_
  rotate_left
  · first | (intro w' hSw; (try dsimp only at hSw); go_simp; done) | (intro w' hSw; (try dsimp only at hSw); go_simp; with_reducible rfl)
  try simp only [Act.put, List.getElem_toArray, List.getElem_cons_zero, List.getElem_cons_succ, List.setIfInBounds_toArray, List.set_cons_zero, List.set_cons_succ]
  refine wpAnyH_take (i := 8) (oi := _) (v := ?_) rfl (by kernel_rfl) (by kernel_rfl) (by kernel_rfl) (fun _ _ _ h => h) (Or.inl ⟨by rfl, ?_⟩) (by assumption) ?_
  rotate_left
  · first | (intro w' hSw; (try dsimp only at hSw); go_simp; done) | (intro w' hSw; (try dsimp only at hSw); go_simp; with_reducible rfl)
  try simp only [Act.put, List.getElem_toArray, List.getElem_cons_zero, List.getElem_cons_succ, List.setIfInBounds_toArray, List.set_cons_zero, List.set_cons_succ]
  refine wpAnyH_done (by kernel_rfl) ?_ _
  clear hx hy s0 s1
  go_wp2
  refine bodyPost_ret (v := .tuple #[.slice (some ⟨b1, o1, none⟩) n c1, .int .i64 last]) (by simp [results, Try.results97, go_sem]) rfl ?_
  exact ⟨_, rfl, HD.out.keep (map_drew (Below.refl _ _)), map_drew HB.out⟩

set_option maxRecDepth 100000 in
theorem ledValues_any (h : List (List Int)) (sorts vals : List Int) (w : World) (v v1 v2 : Value) (hh : RRows w v h) (h1 : RInts w v1 sorts) (h2 : RInts w v2 vals) (hin : VIn h sorts vals) (hs : vals.length ≤ 1000000) :
    Calls Try.prog 100 #[v, v1, v2] w fun e w' => ∃ u, e = .returned u ∧ OInts w' w.heap.size u (ledV h sorts vals) ∧ Below w.heap.size w w' := by
  have HH := Lib.hid hh
  have H1 := Lib.hid h1
  have H2 := Lib.hid h2
  have HIN := Lib.hid hin
  obtain ⟨A, c, rfl, -⟩ := hh.form
  obtain ⟨A1, c1, rfl, -⟩ := h1.form
  obtain ⟨A2, c2, rfl, -⟩ := h2.form
  have HRL := Lib.hid (ledV_len (h := h) hin.1)
  have hle : sorts.length = vals.length := hin.1.symm
  have HLE := Lib.hid hle
  clear hh h1 h2 hin hle
  have hmk := run_make_row' (P := Try.prog) 26 3 (.int .i64 0) 8 Try.underlying26 Try.tinfo_int rfl .i64 .i64 vals.length (by omega) (by omega)
  go_enter Try.func100, Try.ntmps100
  go_wp2
  go_loopw [8, 9, 15] (fun a b i wr => ∃ k : Nat, k ≤ vals.length ∧ i = .int .i64 k ∧ Filling w wr (ledV h sorts vals) k) (fun _ _ i _ => vals.length - (intOf i).toNat)
  case atStart => exact ⟨0, Nat.zero_le _, rfl, Filling.start w _ _ (by rw [HRL.out]; simp [madeCells])⟩
  case round =>
    obtain ⟨k, hk, rfl, hf⟩ := hrel
    have HF := Lib.hid hf
    have HB := Lib.hid (filling_below hf)
    clear hf hmk
    by_cases hlt : k < vals.length
    · have hlt' : (k : Int) < (vals.length : Int) := by omega
      have hks : k < sorts.length := by have := HLE.out; omega
      have hks' : (k : Int) < (sorts.length : Int) := by omega
      obtain ⟨b, o, c', e, hx⟩ := (H2.out.keep HB.out).at_ hlt
      cases e
      obtain ⟨b1, o1, c1', e, hy⟩ := (H1.out.keep HB.out).at_ hks
      cases e
      have HX := Lib.hid (ledV_at hks hlt (by rw [HRL.out]; exact hlt))
      obtain ⟨q1, q2, q3, q4⟩ := HIN.out.2 k hks hlt
      obtain ⟨u, g1, g2⟩ := HF.out.cell (by rw [HRL.out]; exact hlt)
      generalize sorts[k] = sk at *
      generalize vals[k] = vk at *
      obtain ⟨i, rfl⟩ : ∃ i : Nat, sk = (i : Int) := ⟨sk.toNat, by omega⟩
      obtain ⟨j, rfl⟩ : ∃ j : Nat, vk = (j : Int) := ⟨vk.toNat, by omega⟩
      have hi : i < h.length := by omega
      unfold ledOne at HX
      rw [Int.toNat_natCast] at HX q4
      rw [getD_at _ hi] at HX q4
      obtain ⟨b2, o2, c2', u2, e, hz, hr⟩ := (HH.out.keep HB.out).at_ hi
      cases e
      generalize h[i] = hrow at *
      have hj : j < hrow.length := by omega
      rw [Int.toNat_natCast, getD_at _ hj] at HX
      obtain ⟨b3, o3, c3', rfl, ht⟩ := hr.at_ hj
      generalize hrow[j] = out at *
      clear hr
      go_wp2
      go_roundw
      case rel => exact ⟨k + 1, by omega, by go_num, HF.out.step (by rw [HRL.out]; exact hlt) HX.out⟩
      case measure => simp [intOf]; omega
    · go_wp2
      go_ret
      obtain ⟨r1, r2⟩ := HF.out.done (by rw [HRL.out]; omega) (by omega)
      have hkn : k = vals.length := by omega
      subst hkn
      exact ⟨_, rfl, r1, r2⟩
end
end Go.Proofs.Ytkhabmoidpgapaa
