/- FnMapThen answers true at every slice of bytes. No condition. -/
import Derived.Test.YtkhabmoidpgapabKa45f92b6
import Derived.Deep.DeepCutAuto
namespace Go.Proofs.Ytkhabmoidpgapab
open Go.ChangeShapes Go.WideShapes Go.ChangeAt Go.RowKit
set_option linter.unusedVariables false
set_option linter.unusedSimpArgs false

set_option maxHeartbeats 6400000 in
set_option maxRecDepth 100000 in
theorem walk_FnMapThen (v : Value) (bs : List Int) (w : World) (h : RBytes w w.heap.size v bs) :
    Calls Try.prog 4 #[v] w fun e w' => e = .returned (.bool true) ∧ Below w.heap.size w w' := by
  have HW := Lib.hid h
  obtain ⟨A, c, rfl, hc1, hc2, -⟩ := h
  rw [maxLen_eq] at hc2
  by_cases hl : 1048576 < bs.length
  · go_enter Try.func4, Try.ntmps4
    go_wp2
    go_ret
    exact ⟨rfl, Below.refl _ _⟩
  · go_enter Try.func4, Try.ntmps4
    go_wp2_with fail
    refine (drawMapThen_any _ bs _ HW.out).mono ?_
    rintro e w1 ⟨av, bv, cv, mv, nv, a, b, c, m, n, rfl, oa, ob, oc, om, on, hb1⟩
    have HB1 := Lib.hid hb1
    have hh1 := oa.reads
    have hh2 := ob.reads
    have hh3 := oc.reads
    have hh4 := om.reads
    have hh5 := on.reads
    clear hb1 oa ob oc om on
    obtain ⟨Aaa, caa, rfl⟩ := hh1.form
    obtain ⟨Aba, cba, rfl⟩ := hh2.form
    obtain ⟨Aca, cca, rfl⟩ := hh3.form
    obtain ⟨Ama, cma, Amb, cmb, rfl⟩ := hh4.form
    obtain ⟨Ana, cna, Anb, cnb, rfl⟩ := hh5.form
    have hb : Below w1.heap.size w1 (((((w1.alloc (.cells #[.int .i64 a.sorts, .slice Aaa a.ops.length caa] 25)).alloc (.cells #[.int .i64 b.sorts, .slice Aba b.ops.length cba] 25)).alloc (.cells #[.int .i64 c.sorts, .slice Aca c.ops.length cca] 25)).alloc (.cells #[.slice Ama m.sorts.length cma, .slice Amb m.ops.length cmb] 28)).alloc (.cells #[.slice Ana n.sorts.length cna, .slice Anb n.ops.length cnb] 28)) := ((((below_alloc _ _).alloc (by simp) _).alloc (by simp; omega) _).alloc (by simp; omega) _).alloc (by simp; omega) _
    have HB := Lib.hid hb
    have hsz : (((((w1.alloc (.cells #[.int .i64 a.sorts, .slice Aaa a.ops.length caa] 25)).alloc (.cells #[.int .i64 b.sorts, .slice Aba b.ops.length cba] 25)).alloc (.cells #[.int .i64 c.sorts, .slice Aca c.ops.length cca] 25)).alloc (.cells #[.slice Ama m.sorts.length cma, .slice Amb m.ops.length cmb] 28)).alloc (.cells #[.slice Ana n.sorts.length cna, .slice Anb n.ops.length cnb] 28)).heap.size = w1.heap.size + 5 := by simp
    have Ha := Lib.hid (hh1.keep hb)
    have a0 := cell_keep (below_alloc ((((w1.alloc (.cells #[.int .i64 a.sorts, .slice Aaa a.ops.length caa] 25)).alloc (.cells #[.int .i64 b.sorts, .slice Aba b.ops.length cba] 25)).alloc (.cells #[.int .i64 c.sorts, .slice Aca c.ops.length cca] 25)).alloc (.cells #[.slice Ama m.sorts.length cma, .slice Amb m.ops.length cmb] 28)) (.cells #[.slice Ana n.sorts.length cna, .slice Anb n.ops.length cnb] 28)) (cell_keep (below_alloc (((w1.alloc (.cells #[.int .i64 a.sorts, .slice Aaa a.ops.length caa] 25)).alloc (.cells #[.int .i64 b.sorts, .slice Aba b.ops.length cba] 25)).alloc (.cells #[.int .i64 c.sorts, .slice Aca c.ops.length cca] 25)) (.cells #[.slice Ama m.sorts.length cma, .slice Amb m.ops.length cmb] 28)) (cell_keep (below_alloc ((w1.alloc (.cells #[.int .i64 a.sorts, .slice Aaa a.ops.length caa] 25)).alloc (.cells #[.int .i64 b.sorts, .slice Aba b.ops.length cba] 25)) (.cells #[.int .i64 c.sorts, .slice Aca c.ops.length cca] 25)) (cell_keep (below_alloc (w1.alloc (.cells #[.int .i64 a.sorts, .slice Aaa a.ops.length caa] 25)) (.cells #[.int .i64 b.sorts, .slice Aba b.ops.length cba] 25)) (bx_at (w1) #[.int .i64 a.sorts, .slice Aaa a.ops.length caa] 25 (k := 0) rfl))))
    have a1 := cell_keep (below_alloc ((((w1.alloc (.cells #[.int .i64 a.sorts, .slice Aaa a.ops.length caa] 25)).alloc (.cells #[.int .i64 b.sorts, .slice Aba b.ops.length cba] 25)).alloc (.cells #[.int .i64 c.sorts, .slice Aca c.ops.length cca] 25)).alloc (.cells #[.slice Ama m.sorts.length cma, .slice Amb m.ops.length cmb] 28)) (.cells #[.slice Ana n.sorts.length cna, .slice Anb n.ops.length cnb] 28)) (cell_keep (below_alloc (((w1.alloc (.cells #[.int .i64 a.sorts, .slice Aaa a.ops.length caa] 25)).alloc (.cells #[.int .i64 b.sorts, .slice Aba b.ops.length cba] 25)).alloc (.cells #[.int .i64 c.sorts, .slice Aca c.ops.length cca] 25)) (.cells #[.slice Ama m.sorts.length cma, .slice Amb m.ops.length cmb] 28)) (cell_keep (below_alloc ((w1.alloc (.cells #[.int .i64 a.sorts, .slice Aaa a.ops.length caa] 25)).alloc (.cells #[.int .i64 b.sorts, .slice Aba b.ops.length cba] 25)) (.cells #[.int .i64 c.sorts, .slice Aca c.ops.length cca] 25)) (cell_keep (below_alloc (w1.alloc (.cells #[.int .i64 a.sorts, .slice Aaa a.ops.length caa] 25)) (.cells #[.int .i64 b.sorts, .slice Aba b.ops.length cba] 25)) (bx_at (w1) #[.int .i64 a.sorts, .slice Aaa a.ops.length caa] 25 (k := 1) rfl))))
    have Hb := Lib.hid (hh2.keep hb)
    have b0 := cell_keep (below_alloc ((((w1.alloc (.cells #[.int .i64 a.sorts, .slice Aaa a.ops.length caa] 25)).alloc (.cells #[.int .i64 b.sorts, .slice Aba b.ops.length cba] 25)).alloc (.cells #[.int .i64 c.sorts, .slice Aca c.ops.length cca] 25)).alloc (.cells #[.slice Ama m.sorts.length cma, .slice Amb m.ops.length cmb] 28)) (.cells #[.slice Ana n.sorts.length cna, .slice Anb n.ops.length cnb] 28)) (cell_keep (below_alloc (((w1.alloc (.cells #[.int .i64 a.sorts, .slice Aaa a.ops.length caa] 25)).alloc (.cells #[.int .i64 b.sorts, .slice Aba b.ops.length cba] 25)).alloc (.cells #[.int .i64 c.sorts, .slice Aca c.ops.length cca] 25)) (.cells #[.slice Ama m.sorts.length cma, .slice Amb m.ops.length cmb] 28)) (cell_keep (below_alloc ((w1.alloc (.cells #[.int .i64 a.sorts, .slice Aaa a.ops.length caa] 25)).alloc (.cells #[.int .i64 b.sorts, .slice Aba b.ops.length cba] 25)) (.cells #[.int .i64 c.sorts, .slice Aca c.ops.length cca] 25)) (bx_at (w1.alloc (.cells #[.int .i64 a.sorts, .slice Aaa a.ops.length caa] 25)) #[.int .i64 b.sorts, .slice Aba b.ops.length cba] 25 (k := 0) rfl)))
    have b1 := cell_keep (below_alloc ((((w1.alloc (.cells #[.int .i64 a.sorts, .slice Aaa a.ops.length caa] 25)).alloc (.cells #[.int .i64 b.sorts, .slice Aba b.ops.length cba] 25)).alloc (.cells #[.int .i64 c.sorts, .slice Aca c.ops.length cca] 25)).alloc (.cells #[.slice Ama m.sorts.length cma, .slice Amb m.ops.length cmb] 28)) (.cells #[.slice Ana n.sorts.length cna, .slice Anb n.ops.length cnb] 28)) (cell_keep (below_alloc (((w1.alloc (.cells #[.int .i64 a.sorts, .slice Aaa a.ops.length caa] 25)).alloc (.cells #[.int .i64 b.sorts, .slice Aba b.ops.length cba] 25)).alloc (.cells #[.int .i64 c.sorts, .slice Aca c.ops.length cca] 25)) (.cells #[.slice Ama m.sorts.length cma, .slice Amb m.ops.length cmb] 28)) (cell_keep (below_alloc ((w1.alloc (.cells #[.int .i64 a.sorts, .slice Aaa a.ops.length caa] 25)).alloc (.cells #[.int .i64 b.sorts, .slice Aba b.ops.length cba] 25)) (.cells #[.int .i64 c.sorts, .slice Aca c.ops.length cca] 25)) (bx_at (w1.alloc (.cells #[.int .i64 a.sorts, .slice Aaa a.ops.length caa] 25)) #[.int .i64 b.sorts, .slice Aba b.ops.length cba] 25 (k := 1) rfl)))
    have Hc := Lib.hid (hh3.keep hb)
    have c0 := cell_keep (below_alloc ((((w1.alloc (.cells #[.int .i64 a.sorts, .slice Aaa a.ops.length caa] 25)).alloc (.cells #[.int .i64 b.sorts, .slice Aba b.ops.length cba] 25)).alloc (.cells #[.int .i64 c.sorts, .slice Aca c.ops.length cca] 25)).alloc (.cells #[.slice Ama m.sorts.length cma, .slice Amb m.ops.length cmb] 28)) (.cells #[.slice Ana n.sorts.length cna, .slice Anb n.ops.length cnb] 28)) (cell_keep (below_alloc (((w1.alloc (.cells #[.int .i64 a.sorts, .slice Aaa a.ops.length caa] 25)).alloc (.cells #[.int .i64 b.sorts, .slice Aba b.ops.length cba] 25)).alloc (.cells #[.int .i64 c.sorts, .slice Aca c.ops.length cca] 25)) (.cells #[.slice Ama m.sorts.length cma, .slice Amb m.ops.length cmb] 28)) (bx_at ((w1.alloc (.cells #[.int .i64 a.sorts, .slice Aaa a.ops.length caa] 25)).alloc (.cells #[.int .i64 b.sorts, .slice Aba b.ops.length cba] 25)) #[.int .i64 c.sorts, .slice Aca c.ops.length cca] 25 (k := 0) rfl))
    have c1 := cell_keep (below_alloc ((((w1.alloc (.cells #[.int .i64 a.sorts, .slice Aaa a.ops.length caa] 25)).alloc (.cells #[.int .i64 b.sorts, .slice Aba b.ops.length cba] 25)).alloc (.cells #[.int .i64 c.sorts, .slice Aca c.ops.length cca] 25)).alloc (.cells #[.slice Ama m.sorts.length cma, .slice Amb m.ops.length cmb] 28)) (.cells #[.slice Ana n.sorts.length cna, .slice Anb n.ops.length cnb] 28)) (cell_keep (below_alloc (((w1.alloc (.cells #[.int .i64 a.sorts, .slice Aaa a.ops.length caa] 25)).alloc (.cells #[.int .i64 b.sorts, .slice Aba b.ops.length cba] 25)).alloc (.cells #[.int .i64 c.sorts, .slice Aca c.ops.length cca] 25)) (.cells #[.slice Ama m.sorts.length cma, .slice Amb m.ops.length cmb] 28)) (bx_at ((w1.alloc (.cells #[.int .i64 a.sorts, .slice Aaa a.ops.length caa] 25)).alloc (.cells #[.int .i64 b.sorts, .slice Aba b.ops.length cba] 25)) #[.int .i64 c.sorts, .slice Aca c.ops.length cca] 25 (k := 1) rfl))
    have Hm := Lib.hid (hh4.keep hb)
    have m0 := cell_keep (below_alloc ((((w1.alloc (.cells #[.int .i64 a.sorts, .slice Aaa a.ops.length caa] 25)).alloc (.cells #[.int .i64 b.sorts, .slice Aba b.ops.length cba] 25)).alloc (.cells #[.int .i64 c.sorts, .slice Aca c.ops.length cca] 25)).alloc (.cells #[.slice Ama m.sorts.length cma, .slice Amb m.ops.length cmb] 28)) (.cells #[.slice Ana n.sorts.length cna, .slice Anb n.ops.length cnb] 28)) (bx_at (((w1.alloc (.cells #[.int .i64 a.sorts, .slice Aaa a.ops.length caa] 25)).alloc (.cells #[.int .i64 b.sorts, .slice Aba b.ops.length cba] 25)).alloc (.cells #[.int .i64 c.sorts, .slice Aca c.ops.length cca] 25)) #[.slice Ama m.sorts.length cma, .slice Amb m.ops.length cmb] 28 (k := 0) rfl)
    have m1 := cell_keep (below_alloc ((((w1.alloc (.cells #[.int .i64 a.sorts, .slice Aaa a.ops.length caa] 25)).alloc (.cells #[.int .i64 b.sorts, .slice Aba b.ops.length cba] 25)).alloc (.cells #[.int .i64 c.sorts, .slice Aca c.ops.length cca] 25)).alloc (.cells #[.slice Ama m.sorts.length cma, .slice Amb m.ops.length cmb] 28)) (.cells #[.slice Ana n.sorts.length cna, .slice Anb n.ops.length cnb] 28)) (bx_at (((w1.alloc (.cells #[.int .i64 a.sorts, .slice Aaa a.ops.length caa] 25)).alloc (.cells #[.int .i64 b.sorts, .slice Aba b.ops.length cba] 25)).alloc (.cells #[.int .i64 c.sorts, .slice Aca c.ops.length cca] 25)) #[.slice Ama m.sorts.length cma, .slice Amb m.ops.length cmb] 28 (k := 1) rfl)
    have Hn := Lib.hid (hh5.keep hb)
    have n0 := bx_at ((((w1.alloc (.cells #[.int .i64 a.sorts, .slice Aaa a.ops.length caa] 25)).alloc (.cells #[.int .i64 b.sorts, .slice Aba b.ops.length cba] 25)).alloc (.cells #[.int .i64 c.sorts, .slice Aca c.ops.length cca] 25)).alloc (.cells #[.slice Ama m.sorts.length cma, .slice Amb m.ops.length cmb] 28)) #[.slice Ana n.sorts.length cna, .slice Anb n.ops.length cnb] 28 (k := 0) rfl
    have n1 := bx_at ((((w1.alloc (.cells #[.int .i64 a.sorts, .slice Aaa a.ops.length caa] 25)).alloc (.cells #[.int .i64 b.sorts, .slice Aba b.ops.length cba] 25)).alloc (.cells #[.int .i64 c.sorts, .slice Aca c.ops.length cca] 25)).alloc (.cells #[.slice Ama m.sorts.length cma, .slice Amb m.ops.length cmb] 28)) #[.slice Ana n.sorts.length cna, .slice Anb n.ops.length cnb] 28 (k := 1) rfl
    simp only [World.size_alloc] at b0 b1 c0 c1 m0 m1 n0 n1
    generalize hW : ((((w1.alloc (.cells #[.int .i64 a.sorts, .slice Aaa a.ops.length caa] 25)).alloc (.cells #[.int .i64 b.sorts, .slice Aba b.ops.length cba] 25)).alloc (.cells #[.int .i64 c.sorts, .slice Aca c.ops.length cca] 25)).alloc (.cells #[.slice Ama m.sorts.length cma, .slice Amb m.ops.length cmb] 28)).alloc (.cells #[.slice Ana n.sorts.length cna, .slice Anb n.ops.length cnb] 28) = W at HB hsz Ha a0 a1 Hb b0 b1 Hc c0 c1 Hm m0 m1 Hn n0 n1
    clear hb hh1 hh2 hh3 hh4 hh5
    have hkn : ∀ k : Bool, (k != k) = false := fun k => by cases k <;> rfl
    cases hok : (thenM a b c m n).2 with
    | false =>
      obtain ⟨x, k, hmt, h1, h2⟩ : ∃ (x : MMap) (k : Bool), thenM a b c m n = (x, k) ∧ x = ⟨[], []⟩ ∧ k = false := ⟨⟨[], []⟩, false, by
        unfold thenM at hok ⊢
        split at hok
        · cases hok
        · rename_i hn; rw [if_neg hn]; rfl, rfl, rfl⟩
      have HMT := Lib.hid hmt
      have HRW := Lib.hid (And.intro h1 h2)
      clear hok hmt hsz h1 h2
      go_wp2_with fail
      clear hW
      refine (mapThen_any a b c m n _ _ _ _ _ _ Ha.out Hb.out Hc.out Hm.out Hn.out).mono ?_
      rw [HMT.out]
      rintro e w3 ⟨u, rfl, o, hb⟩
      simp only at o
      have HX := Lib.hid o.reads
      obtain ⟨X0, d0, X1, d1, rfl⟩ := o.reads.form
      replace HB := Lib.hid (sz_keep HB.out hb)
      replace a0 := cell_keep hb a0
      replace a1 := cell_keep hb a1
      replace b0 := cell_keep hb b0
      replace b1 := cell_keep hb b1
      replace c0 := cell_keep hb c0
      replace c1 := cell_keep hb c1
      replace m0 := cell_keep hb m0
      replace m1 := cell_keep hb m1
      replace n0 := cell_keep hb n0
      replace n1 := cell_keep hb n1
      replace Ha := Lib.hid (Ha.out.keep hb)
      replace Hb := Lib.hid (Hb.out.keep hb)
      replace Hc := Lib.hid (Hc.out.keep hb)
      replace Hm := Lib.hid (Hm.out.keep hb)
      replace Hn := Lib.hid (Hn.out.keep hb)
      clear hb
      clear o
      have hb := below_alloc w3 (.cells #[.slice X0 x.sorts.length d0, .slice X1 x.ops.length d1] 28)
      have hz := heap_alloc_new w3 (.cells #[.slice X0 x.sorts.length d0, .slice X1 x.ops.length d1] 28)
      generalize hWN : w3.alloc (.cells #[.slice X0 x.sorts.length d0, .slice X1 x.ops.length d1] 28) = w4 at hb hz
      replace HB := Lib.hid (sz_keep HB.out hb)
      replace a0 := cell_keep hb a0
      replace a1 := cell_keep hb a1
      replace b0 := cell_keep hb b0
      replace b1 := cell_keep hb b1
      replace c0 := cell_keep hb c0
      replace c1 := cell_keep hb c1
      replace m0 := cell_keep hb m0
      replace m1 := cell_keep hb m1
      replace n0 := cell_keep hb n0
      replace n1 := cell_keep hb n1
      replace Ha := Lib.hid (Ha.out.keep hb)
      replace Hb := Lib.hid (Hb.out.keep hb)
      replace Hc := Lib.hid (Hc.out.keep hb)
      replace Hm := Lib.hid (Hm.out.keep hb)
      replace Hn := Lib.hid (Hn.out.keep hb)
      replace HX := Lib.hid (HX.out.keep hb)
      clear hb
      have x0 := block_cell hz 0
      have x1 := block_cell hz 1
      simp at x0 x1
      clear hz
      go_wp2_with fail
      clear hWN
      refine (specMapThen_any a b c m n _ _ _ _ _ _ Ha.out Hb.out Hc.out Hm.out Hn.out).mono ?_
      rw [HMT.out]
      rintro e w5 ⟨u, rfl, o, hb⟩
      simp only at o
      have HY := Lib.hid o.reads
      obtain ⟨Y0, e0, Y1, e1, rfl⟩ := o.reads.form
      replace HB := Lib.hid (sz_keep HB.out hb)
      replace a0 := cell_keep hb a0
      replace a1 := cell_keep hb a1
      replace b0 := cell_keep hb b0
      replace b1 := cell_keep hb b1
      replace c0 := cell_keep hb c0
      replace c1 := cell_keep hb c1
      replace m0 := cell_keep hb m0
      replace m1 := cell_keep hb m1
      replace n0 := cell_keep hb n0
      replace n1 := cell_keep hb n1
      replace x0 := cell_keep hb x0
      replace x1 := cell_keep hb x1
      replace Ha := Lib.hid (Ha.out.keep hb)
      replace Hb := Lib.hid (Hb.out.keep hb)
      replace Hc := Lib.hid (Hc.out.keep hb)
      replace Hm := Lib.hid (Hm.out.keep hb)
      replace Hn := Lib.hid (Hn.out.keep hb)
      replace HX := Lib.hid (HX.out.keep hb)
      clear hb
      clear o
      have hb := below_alloc w5 (.cells #[.slice Y0 x.sorts.length e0, .slice Y1 x.ops.length e1] 28)
      have hz := heap_alloc_new w5 (.cells #[.slice Y0 x.sorts.length e0, .slice Y1 x.ops.length e1] 28)
      generalize hWN : w5.alloc (.cells #[.slice Y0 x.sorts.length e0, .slice Y1 x.ops.length e1] 28) = w6 at hb hz
      replace HB := Lib.hid (sz_keep HB.out hb)
      replace a0 := cell_keep hb a0
      replace a1 := cell_keep hb a1
      replace b0 := cell_keep hb b0
      replace b1 := cell_keep hb b1
      replace c0 := cell_keep hb c0
      replace c1 := cell_keep hb c1
      replace m0 := cell_keep hb m0
      replace m1 := cell_keep hb m1
      replace n0 := cell_keep hb n0
      replace n1 := cell_keep hb n1
      replace x0 := cell_keep hb x0
      replace x1 := cell_keep hb x1
      replace Ha := Lib.hid (Ha.out.keep hb)
      replace Hb := Lib.hid (Hb.out.keep hb)
      replace Hc := Lib.hid (Hc.out.keep hb)
      replace Hm := Lib.hid (Hm.out.keep hb)
      replace Hn := Lib.hid (Hn.out.keep hb)
      replace HX := Lib.hid (HX.out.keep hb)
      replace HY := Lib.hid (HY.out.keep hb)
      clear hb
      have y0 := block_cell hz 0
      have y1 := block_cell hz 1
      simp at y0 y1
      clear hz
      go_wp2_with fail
      clear hWN
      refine (sameMap_yes _ _ x _ HX.out HY.out).mono ?_
      rintro e w7 ⟨rfl, hb⟩
      replace HB := Lib.hid (sz_keep HB.out hb)
      replace a0 := cell_keep hb a0
      replace a1 := cell_keep hb a1
      replace b0 := cell_keep hb b0
      replace b1 := cell_keep hb b1
      replace c0 := cell_keep hb c0
      replace c1 := cell_keep hb c1
      replace m0 := cell_keep hb m0
      replace m1 := cell_keep hb m1
      replace n0 := cell_keep hb n0
      replace n1 := cell_keep hb n1
      replace x0 := cell_keep hb x0
      replace x1 := cell_keep hb x1
      replace y0 := cell_keep hb y0
      replace y1 := cell_keep hb y1
      replace Ha := Lib.hid (Ha.out.keep hb)
      replace Hb := Lib.hid (Hb.out.keep hb)
      replace Hc := Lib.hid (Hc.out.keep hb)
      replace Hm := Lib.hid (Hm.out.keep hb)
      replace Hn := Lib.hid (Hn.out.keep hb)
      replace HX := Lib.hid (HX.out.keep hb)
      clear hb
      clear y0 y1
      obtain ⟨h1, h2⟩ := HRW.out
      subst h1 h2
      clear a0 a1 b0 b1 c0 c1 m0 m1 n0 n1 x1
      go_wp2_with fail
      refine (alive_any _).mono ?_
      rintro x w9 ⟨rfl, hb⟩
      have HB9 := Lib.hid (sz_keep HB1.out (sz_keep HB.out hb))
      clear hb x0
      go_wp2
      go_ret
      exact ⟨rfl, HB9.out⟩
    | true =>
      obtain ⟨x, k, hmt, hk⟩ : ∃ (x : MMap) (k : Bool), thenM a b c m n = (x, k) ∧ k = true := ⟨_, _, rfl, hok⟩
      have HMT := Lib.hid hmt
      have HKT := Lib.hid hk
      have hoc := thenM_ok hok
      rw [hmt] at hoc
      simp only at hoc
      have HOK := Lib.hid hoc
      have HSA := Lib.hid (thenM_self hoc).1
      have HSC := Lib.hid (thenM_self hoc).2
      clear hok hmt hsz hk hoc
      go_wp2_with fail
      clear hW
      refine (mapThen_any a b c m n _ _ _ _ _ _ Ha.out Hb.out Hc.out Hm.out Hn.out).mono ?_
      rw [HMT.out]
      rintro e w3 ⟨u, rfl, o, hb⟩
      simp only at o
      have HX := Lib.hid o.reads
      obtain ⟨X0, d0, X1, d1, rfl⟩ := o.reads.form
      replace HB := Lib.hid (sz_keep HB.out hb)
      replace a0 := cell_keep hb a0
      replace a1 := cell_keep hb a1
      replace b0 := cell_keep hb b0
      replace b1 := cell_keep hb b1
      replace c0 := cell_keep hb c0
      replace c1 := cell_keep hb c1
      replace m0 := cell_keep hb m0
      replace m1 := cell_keep hb m1
      replace n0 := cell_keep hb n0
      replace n1 := cell_keep hb n1
      replace Ha := Lib.hid (Ha.out.keep hb)
      replace Hb := Lib.hid (Hb.out.keep hb)
      replace Hc := Lib.hid (Hc.out.keep hb)
      replace Hm := Lib.hid (Hm.out.keep hb)
      replace Hn := Lib.hid (Hn.out.keep hb)
      clear hb
      clear o
      have hb := below_alloc w3 (.cells #[.slice X0 x.sorts.length d0, .slice X1 x.ops.length d1] 28)
      have hz := heap_alloc_new w3 (.cells #[.slice X0 x.sorts.length d0, .slice X1 x.ops.length d1] 28)
      generalize hWN : w3.alloc (.cells #[.slice X0 x.sorts.length d0, .slice X1 x.ops.length d1] 28) = w4 at hb hz
      replace HB := Lib.hid (sz_keep HB.out hb)
      replace a0 := cell_keep hb a0
      replace a1 := cell_keep hb a1
      replace b0 := cell_keep hb b0
      replace b1 := cell_keep hb b1
      replace c0 := cell_keep hb c0
      replace c1 := cell_keep hb c1
      replace m0 := cell_keep hb m0
      replace m1 := cell_keep hb m1
      replace n0 := cell_keep hb n0
      replace n1 := cell_keep hb n1
      replace Ha := Lib.hid (Ha.out.keep hb)
      replace Hb := Lib.hid (Hb.out.keep hb)
      replace Hc := Lib.hid (Hc.out.keep hb)
      replace Hm := Lib.hid (Hm.out.keep hb)
      replace Hn := Lib.hid (Hn.out.keep hb)
      replace HX := Lib.hid (HX.out.keep hb)
      clear hb
      have x0 := block_cell hz 0
      have x1 := block_cell hz 1
      simp at x0 x1
      clear hz
      go_wp2_with fail
      clear hWN
      refine (specMapThen_any a b c m n _ _ _ _ _ _ Ha.out Hb.out Hc.out Hm.out Hn.out).mono ?_
      rw [HMT.out]
      rintro e w5 ⟨u, rfl, o, hb⟩
      simp only at o
      have HY := Lib.hid o.reads
      obtain ⟨Y0, e0, Y1, e1, rfl⟩ := o.reads.form
      replace HB := Lib.hid (sz_keep HB.out hb)
      replace a0 := cell_keep hb a0
      replace a1 := cell_keep hb a1
      replace b0 := cell_keep hb b0
      replace b1 := cell_keep hb b1
      replace c0 := cell_keep hb c0
      replace c1 := cell_keep hb c1
      replace m0 := cell_keep hb m0
      replace m1 := cell_keep hb m1
      replace n0 := cell_keep hb n0
      replace n1 := cell_keep hb n1
      replace x0 := cell_keep hb x0
      replace x1 := cell_keep hb x1
      replace Ha := Lib.hid (Ha.out.keep hb)
      replace Hb := Lib.hid (Hb.out.keep hb)
      replace Hc := Lib.hid (Hc.out.keep hb)
      replace Hm := Lib.hid (Hm.out.keep hb)
      replace Hn := Lib.hid (Hn.out.keep hb)
      replace HX := Lib.hid (HX.out.keep hb)
      clear hb
      clear o
      have hb := below_alloc w5 (.cells #[.slice Y0 x.sorts.length e0, .slice Y1 x.ops.length e1] 28)
      have hz := heap_alloc_new w5 (.cells #[.slice Y0 x.sorts.length e0, .slice Y1 x.ops.length e1] 28)
      generalize hWN : w5.alloc (.cells #[.slice Y0 x.sorts.length e0, .slice Y1 x.ops.length e1] 28) = w6 at hb hz
      replace HB := Lib.hid (sz_keep HB.out hb)
      replace a0 := cell_keep hb a0
      replace a1 := cell_keep hb a1
      replace b0 := cell_keep hb b0
      replace b1 := cell_keep hb b1
      replace c0 := cell_keep hb c0
      replace c1 := cell_keep hb c1
      replace m0 := cell_keep hb m0
      replace m1 := cell_keep hb m1
      replace n0 := cell_keep hb n0
      replace n1 := cell_keep hb n1
      replace x0 := cell_keep hb x0
      replace x1 := cell_keep hb x1
      replace Ha := Lib.hid (Ha.out.keep hb)
      replace Hb := Lib.hid (Hb.out.keep hb)
      replace Hc := Lib.hid (Hc.out.keep hb)
      replace Hm := Lib.hid (Hm.out.keep hb)
      replace Hn := Lib.hid (Hn.out.keep hb)
      replace HX := Lib.hid (HX.out.keep hb)
      replace HY := Lib.hid (HY.out.keep hb)
      clear hb
      have y0 := block_cell hz 0
      have y1 := block_cell hz 1
      simp at y0 y1
      clear hz
      go_wp2_with fail
      clear hWN
      refine (sameMap_yes _ _ x _ HX.out HY.out).mono ?_
      rintro e w7 ⟨rfl, hb⟩
      replace HB := Lib.hid (sz_keep HB.out hb)
      replace a0 := cell_keep hb a0
      replace a1 := cell_keep hb a1
      replace b0 := cell_keep hb b0
      replace b1 := cell_keep hb b1
      replace c0 := cell_keep hb c0
      replace c1 := cell_keep hb c1
      replace m0 := cell_keep hb m0
      replace m1 := cell_keep hb m1
      replace n0 := cell_keep hb n0
      replace n1 := cell_keep hb n1
      replace x0 := cell_keep hb x0
      replace x1 := cell_keep hb x1
      replace y0 := cell_keep hb y0
      replace y1 := cell_keep hb y1
      replace Ha := Lib.hid (Ha.out.keep hb)
      replace Hb := Lib.hid (Hb.out.keep hb)
      replace Hc := Lib.hid (Hc.out.keep hb)
      replace Hm := Lib.hid (Hm.out.keep hb)
      replace Hn := Lib.hid (Hn.out.keep hb)
      replace HX := Lib.hid (HX.out.keep hb)
      clear hb
      clear y0 y1
      have hk := HKT.out
      subst hk
      clear b0 b1 m0 m1 n0 n1
      go_wp2_with fail
      have hk1 := World.block_lt_of_cell? w7 _ a0
      have hk2 := World.block_lt_of_cell? w7 _ c0
      have hk3 := World.block_lt_of_cell? w7 _ x0
      simp only at hk1 hk2 hk3
      go_cut [12, 13] (fun s1 s2 wx => ∃ (bz : Nat) (L0 : Option Addr) (f0 : Nat) (L1 : Option Addr) (f1 : Nat), s1 = .pointer (some ⟨bz, 0, none⟩) ∧ s2 = .bool true ∧ w7.heap.size ≤ bz ∧ wx.heap[bz]? = some (.cells #[.slice L0 x.sorts.length f0, .slice L1 x.ops.length f1] 28 (0, 0)) ∧ OMap wx w7.heap.size (.agg #[.slice L0 x.sorts.length f0, .slice L1 x.ops.length f1]) x ∧ Below w7.heap.size w7 wx)
      case first =>
        refine wp_region_held_drew (S := (fun w' => w'.cell? ⟨w1.heap.size, 0, none⟩ = some (.int .i64 a.sorts) ∧ w'.cell? ⟨w1.heap.size, 1, none⟩ = some (.slice Aaa a.ops.length caa) ∧ w'.cell? ⟨w1.heap.size + 1 + 1, 0, none⟩ = some (.int .i64 c.sorts) ∧ w'.cell? ⟨w1.heap.size + 1 + 1, 1, none⟩ = some (.slice Aca c.ops.length cca) ∧ w'.cell? ⟨w3.heap.size, 0, none⟩ = some (.slice X0 x.sorts.length d0) ∧ w'.cell? ⟨w3.heap.size, 1, none⟩ = some (.slice X1 x.ops.length d1))) (by kernel_rfl) ?_ (fun hHeld => ?_)
        · exact ⟨a0, a1, c0, c1, x0, x1⟩
        refine wpAnyH_take (i := 0) (oi := _) (v := ?_) rfl (by kernel_rfl) (by kernel_rfl) (by kernel_rfl) (fun _ _ _ h => h) (Or.inl ⟨by rfl, ?_⟩) (by assumption) ?_
        rotate_left
        · first | (intro w' hSw; (try dsimp only at hSw); go_simp; done) | (intro w' hSw; (try dsimp only at hSw); go_simp; with_reducible rfl)
        try simp only [Act.put, List.getElem_toArray, List.getElem_cons_zero, List.getElem_cons_succ, List.setIfInBounds_toArray, List.set_cons_zero, List.set_cons_succ]
        refine wpAnyH_take (i := 1) (oi := _) (v := ?_) rfl (by kernel_rfl) (by kernel_rfl) (by kernel_rfl) (fun _ _ _ h => h) (Or.inl ⟨by rfl, ?_⟩) (by assumption) ?_
        rotate_left
        · first | (intro w' hSw; (try dsimp only at hSw); go_simp; done) | (intro w' hSw; (try dsimp only at hSw); go_simp; with_reducible rfl)
        try simp only [Act.put, List.getElem_toArray, List.getElem_cons_zero, List.getElem_cons_succ, List.setIfInBounds_toArray, List.set_cons_zero, List.set_cons_succ]
        refine wpAnyH_take (i := 2) (oi := _) (v := ?_) rfl (by kernel_rfl) (by kernel_rfl) (by kernel_rfl) (fun _ _ _ h => h) (Or.inl ⟨by rfl, ?_⟩) (by assumption) ?_
        rotate_left
        · first | (intro w' hSw; (try dsimp only at hSw); go_simp; done) | (intro w' hSw; (try dsimp only at hSw); go_simp; with_reducible rfl)
        try simp only [Act.put, List.getElem_toArray, List.getElem_cons_zero, List.getElem_cons_succ, List.setIfInBounds_toArray, List.set_cons_zero, List.set_cons_succ]
        refine wpAnyH_take (i := 3) (oi := _) (v := ?_) rfl (by kernel_rfl) (by kernel_rfl) (by kernel_rfl) (fun _ _ _ h => h) (Or.inl ⟨by rfl, ?_⟩) (by assumption) ?_
        rotate_left
        · first | (intro w' hSw; (try dsimp only at hSw); go_simp; done) | (intro w' hSw; (try dsimp only at hSw); go_simp; with_reducible rfl)
        try simp only [Act.put, List.getElem_toArray, List.getElem_cons_zero, List.getElem_cons_succ, List.setIfInBounds_toArray, List.set_cons_zero, List.set_cons_succ]
        refine wpAnyH_take (i := 5) (oi := _) (v := ?_) rfl (by kernel_rfl) (by kernel_rfl) (by kernel_rfl) (fun _ _ _ h => h) (Or.inl ⟨by rfl, ?_⟩) (by assumption) ?_
        rotate_left
        · first | (intro w' hSw; (try dsimp only at hSw); go_simp; done) | (intro w' hSw; (try dsimp only at hSw); go_simp; with_reducible rfl)
        try simp only [Act.put, List.getElem_toArray, List.getElem_cons_zero, List.getElem_cons_succ, List.setIfInBounds_toArray, List.set_cons_zero, List.set_cons_succ]
        refine wpAnyH_ready (rs := [4, 10]) (by kernel_rfl) (by simp) ?_
        refine AllReadyH.cons (o := _) rfl (fun K hK => ?_) (AllReadyH.cons (o := _) rfl (fun K hK => ?_) (AllReadyH.nil))
        · skip
          go_simp
          refine (mapSelf_any a w7.drew _ (Ha.out.keep (map_drew (Below.refl _ _)))).mono ?_
          rintro e wp ⟨us, rfl, os, hb⟩
          replace hb := map_undrew hb
          replace a0 := cell_keep hb a0
          replace a1 := cell_keep hb a1
          replace c0 := cell_keep hb c0
          replace c1 := cell_keep hb c1
          replace x0 := cell_keep hb x0
          replace x1 := cell_keep hb x1
          have HP := Lib.hid hb
          have HMS := Lib.hid os.reads
          obtain ⟨S0, e0, S1, e1, rfl⟩ := os.reads.form
          clear hb os
          go_wp2_with fail
          refine hK.out _ _ ?_ (fun hHeld => ?_)
          · exact ⟨a0, a1, c0, c1, x0, x1⟩
          clear hK K
          try simp only [Act.put, List.getElem_toArray, List.getElem_cons_zero, List.getElem_cons_succ, List.setIfInBounds_toArray, List.set_cons_zero, List.set_cons_succ]
          refine wpAnyH_ready (rs := [6, 10]) (by kernel_rfl) (by simp) ?_
          refine AllReadyH.cons (o := _) rfl (fun K hK => ?_) (AllReadyH.cons (o := _) rfl (fun K hK => ?_) (AllReadyH.nil))
          · skip
            go_simp
            have hs1 := HP.out.size
            refine (mapThen_any a a c (selfM a) x wp _ _ _ _ _ (Ha.out.keep HP.out) (Ha.out.keep HP.out) (Hc.out.keep HP.out) HMS.out (HX.out.keep HP.out)).mono ?_
            rw [HSA.out]
            rintro e wq ⟨ul, rfl, ol, hb⟩
            simp only at ol
            have HO := Lib.hid ol
            obtain ⟨L0, f0, L1, f1, rfl⟩ := ol.reads.form
            have hs2 := hb.size
            replace a0 := cell_keep hb a0
            replace a1 := cell_keep hb a1
            replace c0 := cell_keep hb c0
            replace c1 := cell_keep hb c1
            replace x0 := cell_keep hb x0
            replace x1 := cell_keep hb x1
            replace HP := Lib.hid (sz_keep HP.out hb)
            clear ol hb HMS
            go_wp2_with fail
            refine hK.out _ _ ?_ (fun hHeld => ?_)
            · exact ⟨a0, a1, c0, c1, x0, x1⟩
            clear hK K
            try simp only [Act.put, List.getElem_toArray, List.getElem_cons_zero, List.getElem_cons_succ, List.setIfInBounds_toArray, List.set_cons_zero, List.set_cons_succ]
            refine wpAnyH_take (i := 7) (oi := _) (v := ?_) rfl (by kernel_rfl) (by kernel_rfl) (by kernel_rfl) (fun _ _ _ h => h) (Or.inl ⟨by rfl, ?_⟩) (by assumption) ?_
            rotate_left
            · first | (intro w' hSw; (try dsimp only at hSw); go_simp; done) | (intro w' hSw; (try dsimp only at hSw); go_simp; with_reducible rfl)
            try simp only [Act.put, List.getElem_toArray, List.getElem_cons_zero, List.getElem_cons_succ, List.setIfInBounds_toArray, List.set_cons_zero, List.set_cons_succ]
            refine wpAnyH_take (i := 8) (oi := _) (v := ?_) rfl (by kernel_rfl) (by kernel_rfl) (by kernel_rfl) (fun _ _ _ h => h) (Or.inl ⟨by rfl, ?_⟩) (by assumption) ?_
            rotate_left
            · first | (intro w' hSw; (try dsimp only at hSw); go_simp; done) | (intro w' hSw; (try dsimp only at hSw); go_simp; with_reducible rfl)
            try simp only [Act.put, List.getElem_toArray, List.getElem_cons_zero, List.getElem_cons_succ, List.setIfInBounds_toArray, List.set_cons_zero, List.set_cons_succ]
            refine wpAnyH_take (i := 9) (oi := _) (v := ?_) rfl (by kernel_rfl) (by kernel_rfl) (by kernel_rfl) (fun _ _ _ h => h) (Or.inl ⟨by rfl, ?_⟩) (by assumption) ?_
            rotate_left
            · first | (intro w' hSw; (try dsimp only at hSw); go_simp; done) | (intro w' hSw; (try dsimp only at hSw); go_simp; with_reducible rfl)
            try simp only [Act.put, List.getElem_toArray, List.getElem_cons_zero, List.getElem_cons_succ, List.setIfInBounds_toArray, List.set_cons_zero, List.set_cons_succ]
            refine wpAnyH_ready (rs := [10]) (by kernel_rfl) (by simp) ?_
            refine AllReadyH.cons (o := _) rfl (fun K hK => ?_) (AllReadyH.nil)
            go_simp
            have hb := below_alloc wq (.cells #[.slice none 0 0, .slice none 0 0] 28)
            have hz := heap_alloc_new wq (.cells #[.slice none 0 0, .slice none 0 0] 28)
            have hzl : w7.heap.size ≤ wq.heap.size := HP.out.size
            generalize hWA : wq.alloc (.cells #[.slice none 0 0, .slice none 0 0] 28) = wa at hb hz ⊢
            clear hWA
            have HLATE := Lib.hid hb.block
            replace a0 := cell_keep hb a0
            replace a1 := cell_keep hb a1
            replace c0 := cell_keep hb c0
            replace c1 := cell_keep hb c1
            replace x0 := cell_keep hb x0
            replace x1 := cell_keep hb x1
            replace HP := Lib.hid (sz_keep HP.out hb)
            have HZb := Lib.hid hz
            clear hb hz
            have j0 := block_cell HZb.out 0
            have jf0 := block_free HZb.out 0
            have j1 := block_cell HZb.out 1
            have jf1 := block_free HZb.out 1
            simp at j0 j1
            go_wp2_with fail
            refine hK.out _ _ ?_ (fun hHeld => ?_)
            · exact ⟨a0, a1, c0, c1, x0, x1⟩
            clear hK K
            try simp only [Act.put, List.getElem_toArray, List.getElem_cons_zero, List.getElem_cons_succ, List.setIfInBounds_toArray, List.set_cons_zero, List.set_cons_succ]
            refine wpAnyH_ready (rs := [11]) (by kernel_rfl) (by simp) ?_
            refine AllReadyH.cons (o := _) rfl (fun K hK => ?_) (AllReadyH.nil)
            go_simp
            go_wp2_with fail
            refine hK.out _ _ ?_ (fun hHeld => ?_)
            · exact ⟨(set_other (by omega) _ _ _).trans ((set_other (by omega) _ _ _).trans a0), (set_other (by omega) _ _ _).trans ((set_other (by omega) _ _ _).trans a1), (set_other (by omega) _ _ _).trans ((set_other (by omega) _ _ _).trans c0), (set_other (by omega) _ _ _).trans ((set_other (by omega) _ _ _).trans c1), (set_other (by omega) _ _ _).trans ((set_other (by omega) _ _ _).trans x0), (set_other (by omega) _ _ _).trans ((set_other (by omega) _ _ _).trans x1)⟩
            clear hK K
            try simp only [Act.put, List.getElem_toArray, List.getElem_cons_zero, List.getElem_cons_succ, List.setIfInBounds_toArray, List.set_cons_zero, List.set_cons_succ]
            refine wpAnyH_take (i := 12) (oi := _) (v := ?_) rfl (by kernel_rfl) (by kernel_rfl) (by kernel_rfl) (fun _ _ _ h => h) (Or.inl ⟨by rfl, ?_⟩) (by assumption) ?_
            rotate_left
            · first | (intro w' hSw; (try dsimp only at hSw); go_simp; done) | (intro w' hSw; (try dsimp only at hSw); go_simp; with_reducible rfl)
            try simp only [Act.put, List.getElem_toArray, List.getElem_cons_zero, List.getElem_cons_succ, List.setIfInBounds_toArray, List.set_cons_zero, List.set_cons_succ]
            refine wpAnyH_done (by kernel_rfl) ?_ _
            go_wp2_with fail
            go_meet
            exact ⟨_, _, _, _, _, rfl, rfl, hzl, block_set (block_set HZb.out 0 (.slice L0 x.sorts.length f0)) 1 (.slice L1 x.ops.length f1), (HO.out.same (fun k q1 q2 => ((Below.heap_setCell _ ⟨wq.heap.size, 1, none⟩ _ k (by show k ≠ wq.heap.size; omega)).trans (Below.heap_setCell _ ⟨wq.heap.size, 0, none⟩ _ k (by show k ≠ wq.heap.size; omega))).trans (HLATE.out k q2))).base (by omega), (HP.out.setCell (p := ⟨wq.heap.size, 0, none⟩) hzl (.slice L0 x.sorts.length f0)).setCell (p := ⟨wq.heap.size, 1, none⟩) hzl (.slice L1 x.ops.length f1)⟩
          · skip
            go_simp
            have hb := below_alloc wp (.cells #[.slice none 0 0, .slice none 0 0] 28)
            have hz := heap_alloc_new wp (.cells #[.slice none 0 0, .slice none 0 0] 28)
            have hzl : w7.heap.size ≤ wp.heap.size := HP.out.size
            generalize hWA : wp.alloc (.cells #[.slice none 0 0, .slice none 0 0] 28) = wa at hb hz ⊢
            clear hWA
            replace a0 := cell_keep hb a0
            replace a1 := cell_keep hb a1
            replace c0 := cell_keep hb c0
            replace c1 := cell_keep hb c1
            replace x0 := cell_keep hb x0
            replace x1 := cell_keep hb x1
            replace HMS := Lib.hid (HMS.out.keep hb)
            replace HP := Lib.hid (sz_keep HP.out hb)
            have HZb := Lib.hid hz
            clear hb hz
            go_wp2_with fail
            refine hK.out _ _ ?_ (fun hHeld => ?_)
            · exact ⟨a0, a1, c0, c1, x0, x1⟩
            clear hK K
            try simp only [Act.put, List.getElem_toArray, List.getElem_cons_zero, List.getElem_cons_succ, List.setIfInBounds_toArray, List.set_cons_zero, List.set_cons_succ]
            refine wpAnyH_ready (rs := [6]) (by kernel_rfl) (by simp) ?_
            refine AllReadyH.cons (o := _) rfl (fun K hK => ?_) (AllReadyH.nil)
            go_simp
            have hs1 := HP.out.size
            have hbl := (Array.getElem?_eq_some_iff.1 HZb.out).1
            refine (mapThen_any a a c (selfM a) x wa _ _ _ _ _ (Ha.out.keep HP.out) (Ha.out.keep HP.out) (Hc.out.keep HP.out) HMS.out (HX.out.keep HP.out)).mono ?_
            rw [HSA.out]
            rintro e wq ⟨ul, rfl, ol, hb⟩
            simp only at ol
            have HO := Lib.hid ol
            obtain ⟨L0, f0, L1, f1, rfl⟩ := ol.reads.form
            have hs2 := hb.size
            replace a0 := cell_keep hb a0
            replace a1 := cell_keep hb a1
            replace c0 := cell_keep hb c0
            replace c1 := cell_keep hb c1
            replace x0 := cell_keep hb x0
            replace x1 := cell_keep hb x1
            replace HP := Lib.hid (sz_keep HP.out hb)
            replace HZb := Lib.hid (blk_keep HZb.out hb)
            have j0 := block_cell HZb.out 0
            have jf0 := block_free HZb.out 0
            have j1 := block_cell HZb.out 1
            have jf1 := block_free HZb.out 1
            simp at j0 j1
            clear ol hb HMS
            go_wp2_with fail
            refine hK.out _ _ ?_ (fun hHeld => ?_)
            · exact ⟨a0, a1, c0, c1, x0, x1⟩
            clear hK K
            try simp only [Act.put, List.getElem_toArray, List.getElem_cons_zero, List.getElem_cons_succ, List.setIfInBounds_toArray, List.set_cons_zero, List.set_cons_succ]
            refine wpAnyH_take (i := 7) (oi := _) (v := ?_) rfl (by kernel_rfl) (by kernel_rfl) (by kernel_rfl) (fun _ _ _ h => h) (Or.inl ⟨by rfl, ?_⟩) (by assumption) ?_
            rotate_left
            · first | (intro w' hSw; (try dsimp only at hSw); go_simp; done) | (intro w' hSw; (try dsimp only at hSw); go_simp; with_reducible rfl)
            try simp only [Act.put, List.getElem_toArray, List.getElem_cons_zero, List.getElem_cons_succ, List.setIfInBounds_toArray, List.set_cons_zero, List.set_cons_succ]
            refine wpAnyH_take (i := 8) (oi := _) (v := ?_) rfl (by kernel_rfl) (by kernel_rfl) (by kernel_rfl) (fun _ _ _ h => h) (Or.inl ⟨by rfl, ?_⟩) (by assumption) ?_
            rotate_left
            · first | (intro w' hSw; (try dsimp only at hSw); go_simp; done) | (intro w' hSw; (try dsimp only at hSw); go_simp; with_reducible rfl)
            try simp only [Act.put, List.getElem_toArray, List.getElem_cons_zero, List.getElem_cons_succ, List.setIfInBounds_toArray, List.set_cons_zero, List.set_cons_succ]
            refine wpAnyH_take (i := 9) (oi := _) (v := ?_) rfl (by kernel_rfl) (by kernel_rfl) (by kernel_rfl) (fun _ _ _ h => h) (Or.inl ⟨by rfl, ?_⟩) (by assumption) ?_
            rotate_left
            · first | (intro w' hSw; (try dsimp only at hSw); go_simp; done) | (intro w' hSw; (try dsimp only at hSw); go_simp; with_reducible rfl)
            try simp only [Act.put, List.getElem_toArray, List.getElem_cons_zero, List.getElem_cons_succ, List.setIfInBounds_toArray, List.set_cons_zero, List.set_cons_succ]
            refine wpAnyH_ready (rs := [11]) (by kernel_rfl) (by simp) ?_
            refine AllReadyH.cons (o := _) rfl (fun K hK => ?_) (AllReadyH.nil)
            go_simp
            go_wp2_with fail
            refine hK.out _ _ ?_ (fun hHeld => ?_)
            · exact ⟨(set_other (by omega) _ _ _).trans ((set_other (by omega) _ _ _).trans a0), (set_other (by omega) _ _ _).trans ((set_other (by omega) _ _ _).trans a1), (set_other (by omega) _ _ _).trans ((set_other (by omega) _ _ _).trans c0), (set_other (by omega) _ _ _).trans ((set_other (by omega) _ _ _).trans c1), (set_other (by omega) _ _ _).trans ((set_other (by omega) _ _ _).trans x0), (set_other (by omega) _ _ _).trans ((set_other (by omega) _ _ _).trans x1)⟩
            clear hK K
            try simp only [Act.put, List.getElem_toArray, List.getElem_cons_zero, List.getElem_cons_succ, List.setIfInBounds_toArray, List.set_cons_zero, List.set_cons_succ]
            refine wpAnyH_take (i := 12) (oi := _) (v := ?_) rfl (by kernel_rfl) (by kernel_rfl) (by kernel_rfl) (fun _ _ _ h => h) (Or.inl ⟨by rfl, ?_⟩) (by assumption) ?_
            rotate_left
            · first | (intro w' hSw; (try dsimp only at hSw); go_simp; done) | (intro w' hSw; (try dsimp only at hSw); go_simp; with_reducible rfl)
            try simp only [Act.put, List.getElem_toArray, List.getElem_cons_zero, List.getElem_cons_succ, List.setIfInBounds_toArray, List.set_cons_zero, List.set_cons_succ]
            refine wpAnyH_done (by kernel_rfl) ?_ _
            go_wp2_with fail
            go_meet
            exact ⟨_, _, _, _, _, rfl, rfl, hzl, block_set (block_set HZb.out 0 (.slice L0 x.sorts.length f0)) 1 (.slice L1 x.ops.length f1), (HO.out.same (fun k q1 q2 => ((Below.heap_setCell _ ⟨wp.heap.size, 1, none⟩ _ k (by show k ≠ wp.heap.size; omega)).trans (Below.heap_setCell _ ⟨wp.heap.size, 0, none⟩ _ k (by show k ≠ wp.heap.size; omega))))).base (by omega), (HP.out.setCell (p := ⟨wp.heap.size, 0, none⟩) hzl (.slice L0 x.sorts.length f0)).setCell (p := ⟨wp.heap.size, 1, none⟩) hzl (.slice L1 x.ops.length f1)⟩
        · skip
          go_simp
          have hb := below_alloc w7 (.cells #[.slice none 0 0, .slice none 0 0] 28)
          have hz := heap_alloc_new w7 (.cells #[.slice none 0 0, .slice none 0 0] 28)
          replace hb : Below w7.heap.size w7 (w7.alloc (.cells #[.slice none 0 0, .slice none 0 0] 28)).drew := ⟨hb.os, hb.tape, hb.output, hb.size, hb.block⟩
          replace hz : ((w7.alloc (.cells #[.slice none 0 0, .slice none 0 0] 28)).drew).heap[w7.heap.size]? = _ := hz
          have hzl : w7.heap.size ≤ w7.heap.size := Nat.le_refl _
          generalize hWA : (w7.alloc (.cells #[.slice none 0 0, .slice none 0 0] 28)).drew = wa at hb hz ⊢
          clear hWA
          replace a0 := cell_keep hb a0
          replace a1 := cell_keep hb a1
          replace c0 := cell_keep hb c0
          replace c1 := cell_keep hb c1
          replace x0 := cell_keep hb x0
          replace x1 := cell_keep hb x1
          have HP := Lib.hid hb
          have HZb := Lib.hid hz
          clear hb hz
          go_wp2_with fail
          refine hK.out _ _ ?_ (fun hHeld => ?_)
          · exact ⟨a0, a1, c0, c1, x0, x1⟩
          clear hK K
          try simp only [Act.put, List.getElem_toArray, List.getElem_cons_zero, List.getElem_cons_succ, List.setIfInBounds_toArray, List.set_cons_zero, List.set_cons_succ]
          refine wpAnyH_ready (rs := [4]) (by kernel_rfl) (by simp) ?_
          refine AllReadyH.cons (o := _) rfl (fun K hK => ?_) (AllReadyH.nil)
          go_simp
          refine (mapSelf_any a wa _ (Ha.out.keep HP.out)).mono ?_
          rintro e wp ⟨us, rfl, os, hb⟩
          replace a0 := cell_keep hb a0
          replace a1 := cell_keep hb a1
          replace c0 := cell_keep hb c0
          replace c1 := cell_keep hb c1
          replace x0 := cell_keep hb x0
          replace x1 := cell_keep hb x1
          replace HP := Lib.hid (sz_keep HP.out hb)
          replace HZb := Lib.hid (blk_keep HZb.out hb)
          have HMS := Lib.hid os.reads
          obtain ⟨S0, e0, S1, e1, rfl⟩ := os.reads.form
          clear hb os
          go_wp2_with fail
          refine hK.out _ _ ?_ (fun hHeld => ?_)
          · exact ⟨a0, a1, c0, c1, x0, x1⟩
          clear hK K
          try simp only [Act.put, List.getElem_toArray, List.getElem_cons_zero, List.getElem_cons_succ, List.setIfInBounds_toArray, List.set_cons_zero, List.set_cons_succ]
          refine wpAnyH_ready (rs := [6]) (by kernel_rfl) (by simp) ?_
          refine AllReadyH.cons (o := _) rfl (fun K hK => ?_) (AllReadyH.nil)
          go_simp
          have hs1 := HP.out.size
          have hbl := (Array.getElem?_eq_some_iff.1 HZb.out).1
          refine (mapThen_any a a c (selfM a) x wp _ _ _ _ _ (Ha.out.keep HP.out) (Ha.out.keep HP.out) (Hc.out.keep HP.out) HMS.out (HX.out.keep HP.out)).mono ?_
          rw [HSA.out]
          rintro e wq ⟨ul, rfl, ol, hb⟩
          simp only at ol
          have HO := Lib.hid ol
          obtain ⟨L0, f0, L1, f1, rfl⟩ := ol.reads.form
          have hs2 := hb.size
          replace a0 := cell_keep hb a0
          replace a1 := cell_keep hb a1
          replace c0 := cell_keep hb c0
          replace c1 := cell_keep hb c1
          replace x0 := cell_keep hb x0
          replace x1 := cell_keep hb x1
          replace HP := Lib.hid (sz_keep HP.out hb)
          replace HZb := Lib.hid (blk_keep HZb.out hb)
          have j0 := block_cell HZb.out 0
          have jf0 := block_free HZb.out 0
          have j1 := block_cell HZb.out 1
          have jf1 := block_free HZb.out 1
          simp at j0 j1
          clear ol hb HMS
          go_wp2_with fail
          refine hK.out _ _ ?_ (fun hHeld => ?_)
          · exact ⟨a0, a1, c0, c1, x0, x1⟩
          clear hK K
          try simp only [Act.put, List.getElem_toArray, List.getElem_cons_zero, List.getElem_cons_succ, List.setIfInBounds_toArray, List.set_cons_zero, List.set_cons_succ]
          refine wpAnyH_take (i := 7) (oi := _) (v := ?_) rfl (by kernel_rfl) (by kernel_rfl) (by kernel_rfl) (fun _ _ _ h => h) (Or.inl ⟨by rfl, ?_⟩) (by assumption) ?_
          rotate_left
          · first | (intro w' hSw; (try dsimp only at hSw); go_simp; done) | (intro w' hSw; (try dsimp only at hSw); go_simp; with_reducible rfl)
          try simp only [Act.put, List.getElem_toArray, List.getElem_cons_zero, List.getElem_cons_succ, List.setIfInBounds_toArray, List.set_cons_zero, List.set_cons_succ]
          refine wpAnyH_take (i := 8) (oi := _) (v := ?_) rfl (by kernel_rfl) (by kernel_rfl) (by kernel_rfl) (fun _ _ _ h => h) (Or.inl ⟨by rfl, ?_⟩) (by assumption) ?_
          rotate_left
          · first | (intro w' hSw; (try dsimp only at hSw); go_simp; done) | (intro w' hSw; (try dsimp only at hSw); go_simp; with_reducible rfl)
          try simp only [Act.put, List.getElem_toArray, List.getElem_cons_zero, List.getElem_cons_succ, List.setIfInBounds_toArray, List.set_cons_zero, List.set_cons_succ]
          refine wpAnyH_take (i := 9) (oi := _) (v := ?_) rfl (by kernel_rfl) (by kernel_rfl) (by kernel_rfl) (fun _ _ _ h => h) (Or.inl ⟨by rfl, ?_⟩) (by assumption) ?_
          rotate_left
          · first | (intro w' hSw; (try dsimp only at hSw); go_simp; done) | (intro w' hSw; (try dsimp only at hSw); go_simp; with_reducible rfl)
          try simp only [Act.put, List.getElem_toArray, List.getElem_cons_zero, List.getElem_cons_succ, List.setIfInBounds_toArray, List.set_cons_zero, List.set_cons_succ]
          refine wpAnyH_ready (rs := [11]) (by kernel_rfl) (by simp) ?_
          refine AllReadyH.cons (o := _) rfl (fun K hK => ?_) (AllReadyH.nil)
          go_simp
          go_wp2_with fail
          refine hK.out _ _ ?_ (fun hHeld => ?_)
          · exact ⟨(set_other (by omega) _ _ _).trans ((set_other (by omega) _ _ _).trans a0), (set_other (by omega) _ _ _).trans ((set_other (by omega) _ _ _).trans a1), (set_other (by omega) _ _ _).trans ((set_other (by omega) _ _ _).trans c0), (set_other (by omega) _ _ _).trans ((set_other (by omega) _ _ _).trans c1), (set_other (by omega) _ _ _).trans ((set_other (by omega) _ _ _).trans x0), (set_other (by omega) _ _ _).trans ((set_other (by omega) _ _ _).trans x1)⟩
          clear hK K
          try simp only [Act.put, List.getElem_toArray, List.getElem_cons_zero, List.getElem_cons_succ, List.setIfInBounds_toArray, List.set_cons_zero, List.set_cons_succ]
          refine wpAnyH_take (i := 12) (oi := _) (v := ?_) rfl (by kernel_rfl) (by kernel_rfl) (by kernel_rfl) (fun _ _ _ h => h) (Or.inl ⟨by rfl, ?_⟩) (by assumption) ?_
          rotate_left
          · first | (intro w' hSw; (try dsimp only at hSw); go_simp; done) | (intro w' hSw; (try dsimp only at hSw); go_simp; with_reducible rfl)
          try simp only [Act.put, List.getElem_toArray, List.getElem_cons_zero, List.getElem_cons_succ, List.setIfInBounds_toArray, List.set_cons_zero, List.set_cons_succ]
          refine wpAnyH_done (by kernel_rfl) ?_ _
          go_wp2_with fail
          go_meet
          exact ⟨_, _, _, _, _, rfl, rfl, hzl, block_set (block_set HZb.out 0 (.slice L0 x.sorts.length f0)) 1 (.slice L1 x.ops.length f1), (HO.out.same (fun k q1 q2 => ((Below.heap_setCell _ ⟨w7.heap.size, 1, none⟩ _ k (by show k ≠ w7.heap.size; omega)).trans (Below.heap_setCell _ ⟨w7.heap.size, 0, none⟩ _ k (by show k ≠ w7.heap.size; omega))))).base (by omega), (HP.out.setCell (p := ⟨w7.heap.size, 0, none⟩) hzl (.slice L0 x.sorts.length f0)).setCell (p := ⟨w7.heap.size, 1, none⟩) hzl (.slice L1 x.ops.length f1)⟩
      case rest =>
        obtain ⟨bL, L0, fL0, L1, fL1, rfl, rfl, hle, hblk, hol, hb⟩ := hcut
        obtain ⟨w8, hwn⟩ : ∃ W', W' = wc := ⟨_, rfl⟩
        subst hwn
        clear hk1 hk2 hk3
        have HRDL := Lib.hid hol.reads
        have HBKL := Lib.hid hblk

        replace HB := Lib.hid (sz_keep HB.out hb)
        replace a0 := cell_keep hb a0
        replace a1 := cell_keep hb a1
        replace c0 := cell_keep hb c0
        replace c1 := cell_keep hb c1
        replace x0 := cell_keep hb x0
        replace x1 := cell_keep hb x1
        replace Ha := Lib.hid (Ha.out.keep hb)
        replace Hc := Lib.hid (Hc.out.keep hb)
        replace HX := Lib.hid (HX.out.keep hb)
        clear hb
        clear hle hblk hol
        go_wp2_with fail
        have hk1 := World.block_lt_of_cell? w8 _ a0
        have hk2 := World.block_lt_of_cell? w8 _ c0
        have hk3 := World.block_lt_of_cell? w8 _ x0
        simp only at hk1 hk2 hk3
        go_cut [14, 15] (fun s1 s2 wx => ∃ (bz : Nat) (Q0 : Option Addr) (f0 : Nat) (Q1 : Option Addr) (f1 : Nat), s1 = .pointer (some ⟨bz, 0, none⟩) ∧ s2 = .bool true ∧ w8.heap.size ≤ bz ∧ wx.heap[bz]? = some (.cells #[.slice Q0 x.sorts.length f0, .slice Q1 x.ops.length f1] 28 (0, 0)) ∧ OMap wx w8.heap.size (.agg #[.slice Q0 x.sorts.length f0, .slice Q1 x.ops.length f1]) x ∧ Below w8.heap.size w8 wx)
        case first =>
          refine wp_region_held_drew (S := (fun w' => w'.cell? ⟨w1.heap.size, 0, none⟩ = some (.int .i64 a.sorts) ∧ w'.cell? ⟨w1.heap.size, 1, none⟩ = some (.slice Aaa a.ops.length caa) ∧ w'.cell? ⟨w1.heap.size + 1 + 1, 0, none⟩ = some (.int .i64 c.sorts) ∧ w'.cell? ⟨w1.heap.size + 1 + 1, 1, none⟩ = some (.slice Aca c.ops.length cca) ∧ w'.cell? ⟨w3.heap.size, 0, none⟩ = some (.slice X0 x.sorts.length d0) ∧ w'.cell? ⟨w3.heap.size, 1, none⟩ = some (.slice X1 x.ops.length d1))) (by kernel_rfl) ?_ (fun hHeld => ?_)
          · exact ⟨a0, a1, c0, c1, x0, x1⟩
          refine wpAnyH_take (i := 0) (oi := _) (v := ?_) rfl (by kernel_rfl) (by kernel_rfl) (by kernel_rfl) (fun _ _ _ h => h) (Or.inl ⟨by rfl, ?_⟩) (by assumption) ?_
          rotate_left
          · first | (intro w' hSw; (try dsimp only at hSw); go_simp; done) | (intro w' hSw; (try dsimp only at hSw); go_simp; with_reducible rfl)
          try simp only [Act.put, List.getElem_toArray, List.getElem_cons_zero, List.getElem_cons_succ, List.setIfInBounds_toArray, List.set_cons_zero, List.set_cons_succ]
          refine wpAnyH_take (i := 1) (oi := _) (v := ?_) rfl (by kernel_rfl) (by kernel_rfl) (by kernel_rfl) (fun _ _ _ h => h) (Or.inl ⟨by rfl, ?_⟩) (by assumption) ?_
          rotate_left
          · first | (intro w' hSw; (try dsimp only at hSw); go_simp; done) | (intro w' hSw; (try dsimp only at hSw); go_simp; with_reducible rfl)
          try simp only [Act.put, List.getElem_toArray, List.getElem_cons_zero, List.getElem_cons_succ, List.setIfInBounds_toArray, List.set_cons_zero, List.set_cons_succ]
          refine wpAnyH_take (i := 2) (oi := _) (v := ?_) rfl (by kernel_rfl) (by kernel_rfl) (by kernel_rfl) (fun _ _ _ h => h) (Or.inl ⟨by rfl, ?_⟩) (by assumption) ?_
          rotate_left
          · first | (intro w' hSw; (try dsimp only at hSw); go_simp; done) | (intro w' hSw; (try dsimp only at hSw); go_simp; with_reducible rfl)
          try simp only [Act.put, List.getElem_toArray, List.getElem_cons_zero, List.getElem_cons_succ, List.setIfInBounds_toArray, List.set_cons_zero, List.set_cons_succ]
          refine wpAnyH_take (i := 3) (oi := _) (v := ?_) rfl (by kernel_rfl) (by kernel_rfl) (by kernel_rfl) (fun _ _ _ h => h) (Or.inl ⟨by rfl, ?_⟩) (by assumption) ?_
          rotate_left
          · first | (intro w' hSw; (try dsimp only at hSw); go_simp; done) | (intro w' hSw; (try dsimp only at hSw); go_simp; with_reducible rfl)
          try simp only [Act.put, List.getElem_toArray, List.getElem_cons_zero, List.getElem_cons_succ, List.setIfInBounds_toArray, List.set_cons_zero, List.set_cons_succ]
          refine wpAnyH_take (i := 4) (oi := _) (v := ?_) rfl (by kernel_rfl) (by kernel_rfl) (by kernel_rfl) (fun _ _ _ h => h) (Or.inl ⟨by rfl, ?_⟩) (by assumption) ?_
          rotate_left
          · first | (intro w' hSw; (try dsimp only at hSw); go_simp; done) | (intro w' hSw; (try dsimp only at hSw); go_simp; with_reducible rfl)
          try simp only [Act.put, List.getElem_toArray, List.getElem_cons_zero, List.getElem_cons_succ, List.setIfInBounds_toArray, List.set_cons_zero, List.set_cons_succ]
          refine wpAnyH_ready (rs := [5, 10]) (by kernel_rfl) (by simp) ?_
          refine AllReadyH.cons (o := _) rfl (fun K hK => ?_) (AllReadyH.cons (o := _) rfl (fun K hK => ?_) (AllReadyH.nil))
          · skip
            go_simp
            refine (mapSelf_any c w8.drew _ (Hc.out.keep (map_drew (Below.refl _ _)))).mono ?_
            rintro e wp ⟨us, rfl, os, hb⟩
            replace hb := map_undrew hb
            replace a0 := cell_keep hb a0
            replace a1 := cell_keep hb a1
            replace c0 := cell_keep hb c0
            replace c1 := cell_keep hb c1
            replace x0 := cell_keep hb x0
            replace x1 := cell_keep hb x1
            have HP := Lib.hid hb
            have HMS := Lib.hid os.reads
            obtain ⟨S0, e0, S1, e1, rfl⟩ := os.reads.form
            clear hb os
            go_wp2_with fail
            refine hK.out _ _ ?_ (fun hHeld => ?_)
            · exact ⟨a0, a1, c0, c1, x0, x1⟩
            clear hK K
            try simp only [Act.put, List.getElem_toArray, List.getElem_cons_zero, List.getElem_cons_succ, List.setIfInBounds_toArray, List.set_cons_zero, List.set_cons_succ]
            refine wpAnyH_ready (rs := [6, 10]) (by kernel_rfl) (by simp) ?_
            refine AllReadyH.cons (o := _) rfl (fun K hK => ?_) (AllReadyH.cons (o := _) rfl (fun K hK => ?_) (AllReadyH.nil))
            · skip
              go_simp
              have hs1 := HP.out.size
              refine (mapThen_any a c c x (selfM c) wp _ _ _ _ _ (Ha.out.keep HP.out) (Hc.out.keep HP.out) (Hc.out.keep HP.out) (HX.out.keep HP.out) HMS.out).mono ?_
              rw [HSC.out]
              rintro e wq ⟨ul, rfl, ol, hb⟩
              simp only at ol
              have HO := Lib.hid ol
              obtain ⟨Q0, f0, Q1, f1, rfl⟩ := ol.reads.form
              have hs2 := hb.size
              replace a0 := cell_keep hb a0
              replace a1 := cell_keep hb a1
              replace c0 := cell_keep hb c0
              replace c1 := cell_keep hb c1
              replace x0 := cell_keep hb x0
              replace x1 := cell_keep hb x1
              replace HP := Lib.hid (sz_keep HP.out hb)
              clear ol hb HMS
              go_wp2_with fail
              refine hK.out _ _ ?_ (fun hHeld => ?_)
              · exact ⟨a0, a1, c0, c1, x0, x1⟩
              clear hK K
              try simp only [Act.put, List.getElem_toArray, List.getElem_cons_zero, List.getElem_cons_succ, List.setIfInBounds_toArray, List.set_cons_zero, List.set_cons_succ]
              refine wpAnyH_take (i := 7) (oi := _) (v := ?_) rfl (by kernel_rfl) (by kernel_rfl) (by kernel_rfl) (fun _ _ _ h => h) (Or.inl ⟨by rfl, ?_⟩) (by assumption) ?_
              rotate_left
              · first | (intro w' hSw; (try dsimp only at hSw); go_simp; done) | (intro w' hSw; (try dsimp only at hSw); go_simp; with_reducible rfl)
              try simp only [Act.put, List.getElem_toArray, List.getElem_cons_zero, List.getElem_cons_succ, List.setIfInBounds_toArray, List.set_cons_zero, List.set_cons_succ]
              refine wpAnyH_take (i := 8) (oi := _) (v := ?_) rfl (by kernel_rfl) (by kernel_rfl) (by kernel_rfl) (fun _ _ _ h => h) (Or.inl ⟨by rfl, ?_⟩) (by assumption) ?_
              rotate_left
              · first | (intro w' hSw; (try dsimp only at hSw); go_simp; done) | (intro w' hSw; (try dsimp only at hSw); go_simp; with_reducible rfl)
              try simp only [Act.put, List.getElem_toArray, List.getElem_cons_zero, List.getElem_cons_succ, List.setIfInBounds_toArray, List.set_cons_zero, List.set_cons_succ]
              refine wpAnyH_take (i := 9) (oi := _) (v := ?_) rfl (by kernel_rfl) (by kernel_rfl) (by kernel_rfl) (fun _ _ _ h => h) (Or.inl ⟨by rfl, ?_⟩) (by assumption) ?_
              rotate_left
              · first | (intro w' hSw; (try dsimp only at hSw); go_simp; done) | (intro w' hSw; (try dsimp only at hSw); go_simp; with_reducible rfl)
              try simp only [Act.put, List.getElem_toArray, List.getElem_cons_zero, List.getElem_cons_succ, List.setIfInBounds_toArray, List.set_cons_zero, List.set_cons_succ]
              refine wpAnyH_ready (rs := [10]) (by kernel_rfl) (by simp) ?_
              refine AllReadyH.cons (o := _) rfl (fun K hK => ?_) (AllReadyH.nil)
              go_simp
              have hb := below_alloc wq (.cells #[.slice none 0 0, .slice none 0 0] 28)
              have hz := heap_alloc_new wq (.cells #[.slice none 0 0, .slice none 0 0] 28)
              have hzl : w8.heap.size ≤ wq.heap.size := HP.out.size
              generalize hWA : wq.alloc (.cells #[.slice none 0 0, .slice none 0 0] 28) = wa at hb hz ⊢
              clear hWA
              have HLATE := Lib.hid hb.block
              replace a0 := cell_keep hb a0
              replace a1 := cell_keep hb a1
              replace c0 := cell_keep hb c0
              replace c1 := cell_keep hb c1
              replace x0 := cell_keep hb x0
              replace x1 := cell_keep hb x1
              replace HP := Lib.hid (sz_keep HP.out hb)
              have HZb := Lib.hid hz
              clear hb hz
              have j0 := block_cell HZb.out 0
              have jf0 := block_free HZb.out 0
              have j1 := block_cell HZb.out 1
              have jf1 := block_free HZb.out 1
              simp at j0 j1
              go_wp2_with fail
              refine hK.out _ _ ?_ (fun hHeld => ?_)
              · exact ⟨a0, a1, c0, c1, x0, x1⟩
              clear hK K
              try simp only [Act.put, List.getElem_toArray, List.getElem_cons_zero, List.getElem_cons_succ, List.setIfInBounds_toArray, List.set_cons_zero, List.set_cons_succ]
              refine wpAnyH_ready (rs := [11]) (by kernel_rfl) (by simp) ?_
              refine AllReadyH.cons (o := _) rfl (fun K hK => ?_) (AllReadyH.nil)
              go_simp
              go_wp2_with fail
              refine hK.out _ _ ?_ (fun hHeld => ?_)
              · exact ⟨(set_other (by omega) _ _ _).trans ((set_other (by omega) _ _ _).trans a0), (set_other (by omega) _ _ _).trans ((set_other (by omega) _ _ _).trans a1), (set_other (by omega) _ _ _).trans ((set_other (by omega) _ _ _).trans c0), (set_other (by omega) _ _ _).trans ((set_other (by omega) _ _ _).trans c1), (set_other (by omega) _ _ _).trans ((set_other (by omega) _ _ _).trans x0), (set_other (by omega) _ _ _).trans ((set_other (by omega) _ _ _).trans x1)⟩
              clear hK K
              try simp only [Act.put, List.getElem_toArray, List.getElem_cons_zero, List.getElem_cons_succ, List.setIfInBounds_toArray, List.set_cons_zero, List.set_cons_succ]
              refine wpAnyH_take (i := 12) (oi := _) (v := ?_) rfl (by kernel_rfl) (by kernel_rfl) (by kernel_rfl) (fun _ _ _ h => h) (Or.inl ⟨by rfl, ?_⟩) (by assumption) ?_
              rotate_left
              · first | (intro w' hSw; (try dsimp only at hSw); go_simp; done) | (intro w' hSw; (try dsimp only at hSw); go_simp; with_reducible rfl)
              try simp only [Act.put, List.getElem_toArray, List.getElem_cons_zero, List.getElem_cons_succ, List.setIfInBounds_toArray, List.set_cons_zero, List.set_cons_succ]
              refine wpAnyH_done (by kernel_rfl) ?_ _
              go_wp2_with fail
              go_meet
              exact ⟨_, _, _, _, _, rfl, rfl, hzl, block_set (block_set HZb.out 0 (.slice Q0 x.sorts.length f0)) 1 (.slice Q1 x.ops.length f1), (HO.out.same (fun k q1 q2 => ((Below.heap_setCell _ ⟨wq.heap.size, 1, none⟩ _ k (by show k ≠ wq.heap.size; omega)).trans (Below.heap_setCell _ ⟨wq.heap.size, 0, none⟩ _ k (by show k ≠ wq.heap.size; omega))).trans (HLATE.out k q2))).base (by omega), (HP.out.setCell (p := ⟨wq.heap.size, 0, none⟩) hzl (.slice Q0 x.sorts.length f0)).setCell (p := ⟨wq.heap.size, 1, none⟩) hzl (.slice Q1 x.ops.length f1)⟩
            · skip
              go_simp
              have hb := below_alloc wp (.cells #[.slice none 0 0, .slice none 0 0] 28)
              have hz := heap_alloc_new wp (.cells #[.slice none 0 0, .slice none 0 0] 28)
              have hzl : w8.heap.size ≤ wp.heap.size := HP.out.size
              generalize hWA : wp.alloc (.cells #[.slice none 0 0, .slice none 0 0] 28) = wa at hb hz ⊢
              clear hWA
              replace a0 := cell_keep hb a0
              replace a1 := cell_keep hb a1
              replace c0 := cell_keep hb c0
              replace c1 := cell_keep hb c1
              replace x0 := cell_keep hb x0
              replace x1 := cell_keep hb x1
              replace HMS := Lib.hid (HMS.out.keep hb)
              replace HP := Lib.hid (sz_keep HP.out hb)
              have HZb := Lib.hid hz
              clear hb hz
              go_wp2_with fail
              refine hK.out _ _ ?_ (fun hHeld => ?_)
              · exact ⟨a0, a1, c0, c1, x0, x1⟩
              clear hK K
              try simp only [Act.put, List.getElem_toArray, List.getElem_cons_zero, List.getElem_cons_succ, List.setIfInBounds_toArray, List.set_cons_zero, List.set_cons_succ]
              refine wpAnyH_ready (rs := [6]) (by kernel_rfl) (by simp) ?_
              refine AllReadyH.cons (o := _) rfl (fun K hK => ?_) (AllReadyH.nil)
              go_simp
              have hs1 := HP.out.size
              have hbl := (Array.getElem?_eq_some_iff.1 HZb.out).1
              refine (mapThen_any a c c x (selfM c) wa _ _ _ _ _ (Ha.out.keep HP.out) (Hc.out.keep HP.out) (Hc.out.keep HP.out) (HX.out.keep HP.out) HMS.out).mono ?_
              rw [HSC.out]
              rintro e wq ⟨ul, rfl, ol, hb⟩
              simp only at ol
              have HO := Lib.hid ol
              obtain ⟨Q0, f0, Q1, f1, rfl⟩ := ol.reads.form
              have hs2 := hb.size
              replace a0 := cell_keep hb a0
              replace a1 := cell_keep hb a1
              replace c0 := cell_keep hb c0
              replace c1 := cell_keep hb c1
              replace x0 := cell_keep hb x0
              replace x1 := cell_keep hb x1
              replace HP := Lib.hid (sz_keep HP.out hb)
              replace HZb := Lib.hid (blk_keep HZb.out hb)
              have j0 := block_cell HZb.out 0
              have jf0 := block_free HZb.out 0
              have j1 := block_cell HZb.out 1
              have jf1 := block_free HZb.out 1
              simp at j0 j1
              clear ol hb HMS
              go_wp2_with fail
              refine hK.out _ _ ?_ (fun hHeld => ?_)
              · exact ⟨a0, a1, c0, c1, x0, x1⟩
              clear hK K
              try simp only [Act.put, List.getElem_toArray, List.getElem_cons_zero, List.getElem_cons_succ, List.setIfInBounds_toArray, List.set_cons_zero, List.set_cons_succ]
              refine wpAnyH_take (i := 7) (oi := _) (v := ?_) rfl (by kernel_rfl) (by kernel_rfl) (by kernel_rfl) (fun _ _ _ h => h) (Or.inl ⟨by rfl, ?_⟩) (by assumption) ?_
              rotate_left
              · first | (intro w' hSw; (try dsimp only at hSw); go_simp; done) | (intro w' hSw; (try dsimp only at hSw); go_simp; with_reducible rfl)
              try simp only [Act.put, List.getElem_toArray, List.getElem_cons_zero, List.getElem_cons_succ, List.setIfInBounds_toArray, List.set_cons_zero, List.set_cons_succ]
              refine wpAnyH_take (i := 8) (oi := _) (v := ?_) rfl (by kernel_rfl) (by kernel_rfl) (by kernel_rfl) (fun _ _ _ h => h) (Or.inl ⟨by rfl, ?_⟩) (by assumption) ?_
              rotate_left
              · first | (intro w' hSw; (try dsimp only at hSw); go_simp; done) | (intro w' hSw; (try dsimp only at hSw); go_simp; with_reducible rfl)
              try simp only [Act.put, List.getElem_toArray, List.getElem_cons_zero, List.getElem_cons_succ, List.setIfInBounds_toArray, List.set_cons_zero, List.set_cons_succ]
              refine wpAnyH_take (i := 9) (oi := _) (v := ?_) rfl (by kernel_rfl) (by kernel_rfl) (by kernel_rfl) (fun _ _ _ h => h) (Or.inl ⟨by rfl, ?_⟩) (by assumption) ?_
              rotate_left
              · first | (intro w' hSw; (try dsimp only at hSw); go_simp; done) | (intro w' hSw; (try dsimp only at hSw); go_simp; with_reducible rfl)
              try simp only [Act.put, List.getElem_toArray, List.getElem_cons_zero, List.getElem_cons_succ, List.setIfInBounds_toArray, List.set_cons_zero, List.set_cons_succ]
              refine wpAnyH_ready (rs := [11]) (by kernel_rfl) (by simp) ?_
              refine AllReadyH.cons (o := _) rfl (fun K hK => ?_) (AllReadyH.nil)
              go_simp
              go_wp2_with fail
              refine hK.out _ _ ?_ (fun hHeld => ?_)
              · exact ⟨(set_other (by omega) _ _ _).trans ((set_other (by omega) _ _ _).trans a0), (set_other (by omega) _ _ _).trans ((set_other (by omega) _ _ _).trans a1), (set_other (by omega) _ _ _).trans ((set_other (by omega) _ _ _).trans c0), (set_other (by omega) _ _ _).trans ((set_other (by omega) _ _ _).trans c1), (set_other (by omega) _ _ _).trans ((set_other (by omega) _ _ _).trans x0), (set_other (by omega) _ _ _).trans ((set_other (by omega) _ _ _).trans x1)⟩
              clear hK K
              try simp only [Act.put, List.getElem_toArray, List.getElem_cons_zero, List.getElem_cons_succ, List.setIfInBounds_toArray, List.set_cons_zero, List.set_cons_succ]
              refine wpAnyH_take (i := 12) (oi := _) (v := ?_) rfl (by kernel_rfl) (by kernel_rfl) (by kernel_rfl) (fun _ _ _ h => h) (Or.inl ⟨by rfl, ?_⟩) (by assumption) ?_
              rotate_left
              · first | (intro w' hSw; (try dsimp only at hSw); go_simp; done) | (intro w' hSw; (try dsimp only at hSw); go_simp; with_reducible rfl)
              try simp only [Act.put, List.getElem_toArray, List.getElem_cons_zero, List.getElem_cons_succ, List.setIfInBounds_toArray, List.set_cons_zero, List.set_cons_succ]
              refine wpAnyH_done (by kernel_rfl) ?_ _
              go_wp2_with fail
              go_meet
              exact ⟨_, _, _, _, _, rfl, rfl, hzl, block_set (block_set HZb.out 0 (.slice Q0 x.sorts.length f0)) 1 (.slice Q1 x.ops.length f1), (HO.out.same (fun k q1 q2 => ((Below.heap_setCell _ ⟨wp.heap.size, 1, none⟩ _ k (by show k ≠ wp.heap.size; omega)).trans (Below.heap_setCell _ ⟨wp.heap.size, 0, none⟩ _ k (by show k ≠ wp.heap.size; omega))))).base (by omega), (HP.out.setCell (p := ⟨wp.heap.size, 0, none⟩) hzl (.slice Q0 x.sorts.length f0)).setCell (p := ⟨wp.heap.size, 1, none⟩) hzl (.slice Q1 x.ops.length f1)⟩
          · skip
            go_simp
            have hb := below_alloc w8 (.cells #[.slice none 0 0, .slice none 0 0] 28)
            have hz := heap_alloc_new w8 (.cells #[.slice none 0 0, .slice none 0 0] 28)
            replace hb : Below w8.heap.size w8 (w8.alloc (.cells #[.slice none 0 0, .slice none 0 0] 28)).drew := ⟨hb.os, hb.tape, hb.output, hb.size, hb.block⟩
            replace hz : ((w8.alloc (.cells #[.slice none 0 0, .slice none 0 0] 28)).drew).heap[w8.heap.size]? = _ := hz
            have hzl : w8.heap.size ≤ w8.heap.size := Nat.le_refl _
            generalize hWA : (w8.alloc (.cells #[.slice none 0 0, .slice none 0 0] 28)).drew = wa at hb hz ⊢
            clear hWA
            replace a0 := cell_keep hb a0
            replace a1 := cell_keep hb a1
            replace c0 := cell_keep hb c0
            replace c1 := cell_keep hb c1
            replace x0 := cell_keep hb x0
            replace x1 := cell_keep hb x1
            have HP := Lib.hid hb
            have HZb := Lib.hid hz
            clear hb hz
            go_wp2_with fail
            refine hK.out _ _ ?_ (fun hHeld => ?_)
            · exact ⟨a0, a1, c0, c1, x0, x1⟩
            clear hK K
            try simp only [Act.put, List.getElem_toArray, List.getElem_cons_zero, List.getElem_cons_succ, List.setIfInBounds_toArray, List.set_cons_zero, List.set_cons_succ]
            refine wpAnyH_ready (rs := [5]) (by kernel_rfl) (by simp) ?_
            refine AllReadyH.cons (o := _) rfl (fun K hK => ?_) (AllReadyH.nil)
            go_simp
            refine (mapSelf_any c wa _ (Hc.out.keep HP.out)).mono ?_
            rintro e wp ⟨us, rfl, os, hb⟩
            replace a0 := cell_keep hb a0
            replace a1 := cell_keep hb a1
            replace c0 := cell_keep hb c0
            replace c1 := cell_keep hb c1
            replace x0 := cell_keep hb x0
            replace x1 := cell_keep hb x1
            replace HP := Lib.hid (sz_keep HP.out hb)
            replace HZb := Lib.hid (blk_keep HZb.out hb)
            have HMS := Lib.hid os.reads
            obtain ⟨S0, e0, S1, e1, rfl⟩ := os.reads.form
            clear hb os
            go_wp2_with fail
            refine hK.out _ _ ?_ (fun hHeld => ?_)
            · exact ⟨a0, a1, c0, c1, x0, x1⟩
            clear hK K
            try simp only [Act.put, List.getElem_toArray, List.getElem_cons_zero, List.getElem_cons_succ, List.setIfInBounds_toArray, List.set_cons_zero, List.set_cons_succ]
            refine wpAnyH_ready (rs := [6]) (by kernel_rfl) (by simp) ?_
            refine AllReadyH.cons (o := _) rfl (fun K hK => ?_) (AllReadyH.nil)
            go_simp
            have hs1 := HP.out.size
            have hbl := (Array.getElem?_eq_some_iff.1 HZb.out).1
            refine (mapThen_any a c c x (selfM c) wp _ _ _ _ _ (Ha.out.keep HP.out) (Hc.out.keep HP.out) (Hc.out.keep HP.out) (HX.out.keep HP.out) HMS.out).mono ?_
            rw [HSC.out]
            rintro e wq ⟨ul, rfl, ol, hb⟩
            simp only at ol
            have HO := Lib.hid ol
            obtain ⟨Q0, f0, Q1, f1, rfl⟩ := ol.reads.form
            have hs2 := hb.size
            replace a0 := cell_keep hb a0
            replace a1 := cell_keep hb a1
            replace c0 := cell_keep hb c0
            replace c1 := cell_keep hb c1
            replace x0 := cell_keep hb x0
            replace x1 := cell_keep hb x1
            replace HP := Lib.hid (sz_keep HP.out hb)
            replace HZb := Lib.hid (blk_keep HZb.out hb)
            have j0 := block_cell HZb.out 0
            have jf0 := block_free HZb.out 0
            have j1 := block_cell HZb.out 1
            have jf1 := block_free HZb.out 1
            simp at j0 j1
            clear ol hb HMS
            go_wp2_with fail
            refine hK.out _ _ ?_ (fun hHeld => ?_)
            · exact ⟨a0, a1, c0, c1, x0, x1⟩
            clear hK K
            try simp only [Act.put, List.getElem_toArray, List.getElem_cons_zero, List.getElem_cons_succ, List.setIfInBounds_toArray, List.set_cons_zero, List.set_cons_succ]
            refine wpAnyH_take (i := 7) (oi := _) (v := ?_) rfl (by kernel_rfl) (by kernel_rfl) (by kernel_rfl) (fun _ _ _ h => h) (Or.inl ⟨by rfl, ?_⟩) (by assumption) ?_
            rotate_left
            · first | (intro w' hSw; (try dsimp only at hSw); go_simp; done) | (intro w' hSw; (try dsimp only at hSw); go_simp; with_reducible rfl)
            try simp only [Act.put, List.getElem_toArray, List.getElem_cons_zero, List.getElem_cons_succ, List.setIfInBounds_toArray, List.set_cons_zero, List.set_cons_succ]
            refine wpAnyH_take (i := 8) (oi := _) (v := ?_) rfl (by kernel_rfl) (by kernel_rfl) (by kernel_rfl) (fun _ _ _ h => h) (Or.inl ⟨by rfl, ?_⟩) (by assumption) ?_
            rotate_left
            · first | (intro w' hSw; (try dsimp only at hSw); go_simp; done) | (intro w' hSw; (try dsimp only at hSw); go_simp; with_reducible rfl)
            try simp only [Act.put, List.getElem_toArray, List.getElem_cons_zero, List.getElem_cons_succ, List.setIfInBounds_toArray, List.set_cons_zero, List.set_cons_succ]
            refine wpAnyH_take (i := 9) (oi := _) (v := ?_) rfl (by kernel_rfl) (by kernel_rfl) (by kernel_rfl) (fun _ _ _ h => h) (Or.inl ⟨by rfl, ?_⟩) (by assumption) ?_
            rotate_left
            · first | (intro w' hSw; (try dsimp only at hSw); go_simp; done) | (intro w' hSw; (try dsimp only at hSw); go_simp; with_reducible rfl)
            try simp only [Act.put, List.getElem_toArray, List.getElem_cons_zero, List.getElem_cons_succ, List.setIfInBounds_toArray, List.set_cons_zero, List.set_cons_succ]
            refine wpAnyH_ready (rs := [11]) (by kernel_rfl) (by simp) ?_
            refine AllReadyH.cons (o := _) rfl (fun K hK => ?_) (AllReadyH.nil)
            go_simp
            go_wp2_with fail
            refine hK.out _ _ ?_ (fun hHeld => ?_)
            · exact ⟨(set_other (by omega) _ _ _).trans ((set_other (by omega) _ _ _).trans a0), (set_other (by omega) _ _ _).trans ((set_other (by omega) _ _ _).trans a1), (set_other (by omega) _ _ _).trans ((set_other (by omega) _ _ _).trans c0), (set_other (by omega) _ _ _).trans ((set_other (by omega) _ _ _).trans c1), (set_other (by omega) _ _ _).trans ((set_other (by omega) _ _ _).trans x0), (set_other (by omega) _ _ _).trans ((set_other (by omega) _ _ _).trans x1)⟩
            clear hK K
            try simp only [Act.put, List.getElem_toArray, List.getElem_cons_zero, List.getElem_cons_succ, List.setIfInBounds_toArray, List.set_cons_zero, List.set_cons_succ]
            refine wpAnyH_take (i := 12) (oi := _) (v := ?_) rfl (by kernel_rfl) (by kernel_rfl) (by kernel_rfl) (fun _ _ _ h => h) (Or.inl ⟨by rfl, ?_⟩) (by assumption) ?_
            rotate_left
            · first | (intro w' hSw; (try dsimp only at hSw); go_simp; done) | (intro w' hSw; (try dsimp only at hSw); go_simp; with_reducible rfl)
            try simp only [Act.put, List.getElem_toArray, List.getElem_cons_zero, List.getElem_cons_succ, List.setIfInBounds_toArray, List.set_cons_zero, List.set_cons_succ]
            refine wpAnyH_done (by kernel_rfl) ?_ _
            go_wp2_with fail
            go_meet
            exact ⟨_, _, _, _, _, rfl, rfl, hzl, block_set (block_set HZb.out 0 (.slice Q0 x.sorts.length f0)) 1 (.slice Q1 x.ops.length f1), (HO.out.same (fun k q1 q2 => ((Below.heap_setCell _ ⟨w8.heap.size, 1, none⟩ _ k (by show k ≠ w8.heap.size; omega)).trans (Below.heap_setCell _ ⟨w8.heap.size, 0, none⟩ _ k (by show k ≠ w8.heap.size; omega))))).base (by omega), (HP.out.setCell (p := ⟨w8.heap.size, 0, none⟩) hzl (.slice Q0 x.sorts.length f0)).setCell (p := ⟨w8.heap.size, 1, none⟩) hzl (.slice Q1 x.ops.length f1)⟩
        case rest =>
          obtain ⟨bQ, Q0, fQ0, Q1, fQ1, rfl, rfl, hle, hblk, hol, hb⟩ := hcut
          obtain ⟨w9, hwn⟩ : ∃ W', W' = wc := ⟨_, rfl⟩
          subst hwn
          clear hk1 hk2 hk3
          have HRDQ := Lib.hid hol.reads
          have HBKQ := Lib.hid hblk

          replace HB := Lib.hid (sz_keep HB.out hb)
          replace a0 := cell_keep hb a0
          replace a1 := cell_keep hb a1
          replace c0 := cell_keep hb c0
          replace c1 := cell_keep hb c1
          replace x0 := cell_keep hb x0
          replace x1 := cell_keep hb x1
          replace Ha := Lib.hid (Ha.out.keep hb)
          replace Hc := Lib.hid (Hc.out.keep hb)
          replace HX := Lib.hid (HX.out.keep hb)
          replace HRDL := Lib.hid (HRDL.out.keep hb)
          replace HBKL := Lib.hid (blk_keep HBKL.out hb)
          clear hb
          clear hle hblk hol
          have l0 := block_cell HBKL.out 0
          have l1 := block_cell HBKL.out 1
          have r0 := block_cell HBKQ.out 0
          have r1 := block_cell HBKQ.out 1
          simp at l0 l1 r0 r1
          go_wp2_with fail
          refine (mapOk_any a c x _ _ _ _ Ha.out Hc.out HX.out).mono ?_
          rw [HOK.out]
          rintro e w10 ⟨rfl, hb⟩
          replace HB := Lib.hid (sz_keep HB.out hb)
          replace x0 := cell_keep hb x0
          replace x1 := cell_keep hb x1
          replace l0 := cell_keep hb l0
          replace l1 := cell_keep hb l1
          replace r0 := cell_keep hb r0
          replace r1 := cell_keep hb r1
          replace HX := Lib.hid (HX.out.keep hb)
          replace HRDL := Lib.hid (HRDL.out.keep hb)
          replace HRDQ := Lib.hid (HRDQ.out.keep hb)
          clear hb
          clear a0 a1 c0 c1
          go_wp2_with fail
          refine (sameMap_yes _ _ x _ HRDL.out HX.out).mono ?_
          rintro e w11 ⟨rfl, hb⟩
          replace HB := Lib.hid (sz_keep HB.out hb)
          replace x0 := cell_keep hb x0
          replace x1 := cell_keep hb x1
          replace r0 := cell_keep hb r0
          replace r1 := cell_keep hb r1
          replace HX := Lib.hid (HX.out.keep hb)
          replace HRDQ := Lib.hid (HRDQ.out.keep hb)
          clear hb
          clear l0 l1
          go_wp2_with fail
          refine (sameMap_yes _ _ x _ HRDQ.out HX.out).mono ?_
          rintro e w12 ⟨rfl, hb⟩
          have HB9 := Lib.hid (sz_keep HB1.out (sz_keep HB.out hb))
          clear hb x0 x1 r0 r1
          go_wp2
          go_ret
          exact ⟨rfl, HB9.out⟩

set_option maxRecDepth 100000 in
theorem lifted_FnMapThen (os : Os) (started : os.Started) (H : Type) (enc : TypeId × Value → H) :
    ReturnsInHanded {} Try.checked os 4 .any (Rows.fnMapThenSpec.pre6 enc Try.prog Try.f4 Rows.fnMapThenRow.domain false) (Rows.fnMapThenSpec.post enc Try.prog Try.f4 false true false false) := by
  refine returnsInHanded_of_change (C := Try.checked) own started (by kernel_rfl) Try.func4
    (ChangeSpec.witness6 (enc := enc) (C := Try.checked) false ⟨#[], #[.slice none 0 0], []⟩ 8 (by kernel_rfl) (by kernel_rfl) (by kernel_rfl) (by kernel_rfl)) ?_
  intro W base args ds gs before hval0 hW hcnd _
  have hval : ∀ (j : Nat) t v, Try.f4.params[j]? = some t → args[j]? = some v → Value.okWide Try.prog W .any base t v := hval0
  have hW' := hW
  obtain ⟨p, q, hA0, hV, rfl, hfz, hnd⟩ := hW
  have hA : DataW.TrodAll enc Try.prog W 0 (fun _ => true) true Try.f4.params.toList args.toList ds p := hA0
  rw [Try.params4] at hA hval
  obtain ⟨v0, vs0, d0, ds0, p0, q0, hargs, rfl, rfl, h0, r0⟩ := trodAll_cons hA
  obtain ⟨rfl, rfl, rfl⟩ := trodAll_nil r0
  obtain rfl : args = #[v0] := by cases args; simp_all
  obtain ⟨rfl, rfl⟩ := trodVars_none hV
  obtain ⟨a0, len0, cap0, rfl⟩ := okWide_slice Try.underlying22 (hval 0 22 v0 rfl rfl)
  have k0 := h0
  have lt0 : ∀ x ∈ p0, x.block < W.heap.size := by obtain ⟨m, hm⟩ := k0; exact DataW.trod_lt m _ _ _ hm
  obtain ⟨bs, w0⟩ : ∃ bs, RBytes W W.heap.size (.slice a0 len0 cap0) bs := by
    obtain ⟨fuel, hf⟩ := h0
    rcases open_ints Try.underlying22 Try.underlying5 (by kernel_rfl) hf with ⟨hcs, _⟩ | ⟨x, l, c, zs, hcs, _, hl, hm, hz, _, hcell, hwz⟩
    · simp [Value.cells] at hcs
      obtain ⟨rfl, rfl, rfl⟩ := hcs
      exact ⟨[], bytes_nil _ _⟩
    · simp [Value.cells] at hcs
      obtain ⟨rfl, rfl, rfl⟩ := hcs
      exact ⟨_, bytes_of hl hm (by simpa using hz) hcell hwz⟩
  clear hA0 hval0
  refine (walk_FnMapThen _ bs W w0).mono fun e W' ⟨he, bel⟩ => ?_
  subst he
  exact ⟨_, rfl, _, _, _, [], _, [], hW', trodAll_mk1 (shut_bool Try.underlying4 _), (trodAll_cons_mk (Below.trod laidOut (by kernel_rfl) (of_decide_eq_true (by kernel_rfl)) k0 bel lt0) trodAll_mk0), rfl, bel.frame _, fun h => by cases h⟩

theorem over_FnMapThen : Rows.fnMapThenRow.holds Try.pinned (OpenSpec.ofChange Rows.fnMapThenSpec) :=
  OpenClaim.holds_of_wide 4 Try.f4 rfl rfl rfl rfl rfl rfl rfl ⟨rfl, rfl, rfl, rfl, rfl⟩ rfl rfl rfl rfl rfl (by kernel_rfl) Try.func4 (by kernel_rfl)
    (of_decide_eq_true (by kernel_rfl)) (by unfold Func.isWrapper; first | (rw [if_pos (by decide +kernel)]; kernel_rfl) | (rw [if_neg (by decide +kernel)]; exact ⟨rfl, rfl⟩))
    (fun os started H enc _ => lifted_FnMapThen os started H enc)

theorem proved_FnMapThen : Rows.FnMapThenSaid := over_FnMapThen
end Go.Proofs.Ytkhabmoidpgapab
