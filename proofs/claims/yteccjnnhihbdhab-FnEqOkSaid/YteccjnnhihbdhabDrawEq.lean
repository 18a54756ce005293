/- The draws of equations: l20EqOf. -/
import Derived.Test.YteccjnnhihbdhabDrawT
import Derived.Test.YteccjnnhihbdhabEqOk
namespace Go.Proofs.Yteccjnnhihbdhab
open Go.RowKit
set_option linter.unusedVariables false
set_option linter.unusedSimpArgs false

def OEqD (w : World) (B : Nat) (v : Value) (e : MEq) : Prop := ∃ a b c, v = .agg #[a, b, c] ∧ OInts w B a e.vars ∧ OInts w B b e.left ∧ OInts w B c e.right
theorem OEqD.keep {w w' : World} {B : Nat} {v : Value} {e : MEq} (h : OEqD w B v e) (hb : Below w.heap.size w w') : OEqD w' B v e := by
  obtain ⟨a, b, c, rfl, h1, h2, h3⟩ := h; exact ⟨a, b, c, rfl, h1.keep hb, h2.keep hb, h3.keep hb⟩
theorem OEqD.base {w : World} {B B' : Nat} {v : Value} {e : MEq} (h : OEqD w B v e) (hB : B' ≤ B) : OEqD w B' v e := by
  obtain ⟨a, b, c, rfl, h1, h2, h3⟩ := h; exact ⟨a, b, c, rfl, h1.base hB, h2.base hB, h3.base hB⟩
theorem OEqD.past {w w' : World} {B g : Nat} {v : Value} {e : MEq} (h : OEqD w B v e) (hg : w.grownBy w' (some g)) (hB : g < B) : OEqD w' B v e := by
  obtain ⟨a, b, c, rfl, h1, h2, h3⟩ := h; exact ⟨a, b, c, rfl, h1.past hg hB, h2.past hg hB, h3.past hg hB⟩
theorem OEqD.reads {w : World} {B : Nat} {v : Value} {e : MEq} (h : OEqD w B v e) : REq w v e := by
  obtain ⟨a, b, c, rfl, h1, h2, h3⟩ := h; exact ⟨a, b, c, rfl, h1.reads, h2.reads, h3.reads⟩
theorem OInts.low {w : World} {B b : Nat} {v x : Value} {xs : List Int} (h : OInts w B v xs) (hb : b < B) (i : Nat) : OInts (w.setCell ⟨b, i, none⟩ x) B v xs := ownsRow_setCell_below h hb _
/-- three cells of a box are written -/
theorem box3_set {w : World} {b : Nat} {x y z a c d : Value} {t : TypeId} (h : w.heap[b]? = some (.cells #[x, y, z] t (0, 0))) :
    (((w.setCell ⟨b, 0, none⟩ a).setCell ⟨b, 1, none⟩ c).setCell ⟨b, 2, none⟩ d).heap[b]? = some (.cells #[a, c, d] t (0, 0)) := block_set (block_set (block_set h 0 a) 1 c) 2 d
theorem keep3 {w : World} {b c i : Nat} {x y z u : Value} (h : w.cell? ⟨c, i, none⟩ = some u) (hne : c ≠ b) : (((w.setCell ⟨b, 0, none⟩ x).setCell ⟨b, 1, none⟩ y).setCell ⟨b, 2, none⟩ z).cell? ⟨c, i, none⟩ = some u :=
  (World.cell?_of_block (((Below.heap_setCell _ ⟨b, 2, none⟩ z c hne).trans (Below.heap_setCell _ ⟨b, 1, none⟩ y c hne)).trans (Below.heap_setCell w ⟨b, 0, none⟩ x c hne))).trans h
theorem gr_box3 {W w : World} {g b : Nat} (h : W.grownBy w (some g)) (hb : W.heap.size ≤ b) (x y z : Value) : W.grownBy (((w.setCell ⟨b, 0, none⟩ x).setCell ⟨b, 1, none⟩ y).setCell ⟨b, 2, none⟩ z) (some g) :=
  gr_setCell (gr_setCell (gr_setCell h (.inr hb) x) (.inr hb) y) (.inr hb) z
def EqSt (W wy : World) (g b q : Nat) (vv lv rv : Value) (e : MEq) : Prop :=
  wy.heap[b]? = some (.cells #[vv, lv, rv] 69 (0, 0)) ∧ W.heap.size ≤ b ∧ TermSt W wy g q ∧ OInts wy W.heap.size vv e.vars ∧ OInts wy W.heap.size lv e.left ∧ OInts wy W.heap.size rv e.right
/-- the terms are drawn and the box stands: its cells are written -/
theorem EqSt.stored {W w : World} {g b q : Nat} {vv lv rv x y z : Value} {e : MEq} (hz : w.heap[b]? = some (.cells #[x, y, z] 69 (0, 0))) (hst : TermSt W w g q) (hb : W.heap.size ≤ b) (hg : g < W.heap.size)
    (h1 : OInts w W.heap.size vv e.vars) (h1n : vv.ownBlock ≠ some b) (h2 : OInts w W.heap.size lv e.left) (h2n : lv.ownBlock ≠ some b) (h3 : OInts w W.heap.size rv e.right) (h3n : rv.ownBlock ≠ some b) :
    EqSt W (((w.setCell ⟨b, 0, none⟩ vv).setCell ⟨b, 1, none⟩ lv).setCell ⟨b, 2, none⟩ rv) g b q vv lv rv e := by
  have hgr : w.grownBy (((w.setCell ⟨b, 0, none⟩ vv).setCell ⟨b, 1, none⟩ lv).setCell ⟨b, 2, none⟩ rv) (some b) :=
    gr_setCell (gr_setCell (gr_setCell (gr_refl w b) (.inl rfl) vv) (.inl rfl) lv) (.inl rfl) rv
  refine ⟨box3_set hz, hb, ⟨((hst.rd.setCell (by omega) vv).setCell (by omega) lv).setCell (by omega) rv, gr_box3 hst.gr hb _ _ _⟩, own_grown h1 hgr (.inr h1n), own_grown h2 hgr (.inr h2n), own_grown h3 hgr (.inr h3n)⟩
def EqPost (g p : Nat) (w : World) (e : Ending) (w' : World) : Prop :=
  ∃ (v : Value) (eq : MEq) (q : Nat), e = .returned v ∧ OEqD w' w.heap.size v eq ∧ SmallE eq ∧ eq.vars.length ≤ 5 ∧ eq.left.length ≤ 7 ∧ eq.right.length ≤ 7 ∧ (∃ a b ad c, v = .agg #[a, b, .slice (some ad) eq.right.length c]) ∧ RRd w' g q ∧ q ≤ p + 500000 ∧ w.grownBy w' (some g)
/-- the result is written -/
theorem eq_done {w W wz : World} {g q : Nat} {vv lv rv : Value} {e : MEq} (hres : wz.heap[w.heap.size + 1]? = some (.cells #[.slice none 0 0, .slice none 0 0, .slice none 0 0] 69 (0, 0))) (ht : TermSt W wz g q) (hW : W.heap.size = w.heap.size + 2) (hgw : w.grownBy W (some g)) (hg : g < w.heap.size)
    (h1 : OInts wz W.heap.size vv e.vars) (h2 : OInts wz W.heap.size lv e.left) (h3 : OInts wz W.heap.size rv e.right) :
    let w9 := ((wz.setCell ⟨w.heap.size + 1, 0, none⟩ vv).setCell ⟨w.heap.size + 1, 1, none⟩ lv).setCell ⟨w.heap.size + 1, 2, none⟩ rv
    w9.heap[w.heap.size + 1]? = some (.cells #[vv, lv, rv] 69 (0, 0)) ∧ OEqD w9 w.heap.size (.agg #[vv, lv, rv]) e ∧ RRd w9 g q ∧ w.grownBy w9 (some g) := by
  intro w9
  have low : ∀ {v : Value} {xs : List Int}, OInts wz W.heap.size v xs → OInts w9 w.heap.size v xs := fun {v xs} ho => OInts.base (((ho.low (by omega) 0).low (by omega) 1).low (by omega) 2) (by omega)
  have hgr := gr_more hgw ht.gr
  refine ⟨box3_set hres, ⟨_, _, _, rfl, low h1, low h2, low h3⟩, ((ht.rd.setCell (by omega) vv).setCell (by omega) lv).setCell (by omega) rv, ?_⟩
  exact gr_setCell (gr_setCell (gr_setCell hgr (.inr (by show w.heap.size ≤ w.heap.size + 1; omega)) vv) (.inr (by show w.heap.size ≤ w.heap.size + 1; omega)) lv) (.inr (by show w.heap.size ≤ w.heap.size + 1; omega)) rv
theorem qb1 : Qb 1 = 900 := by decide
theorem qb2 : Qb 2 = 21636 := by decide
theorem lb1' : Lb 1 = 3 := by decide
theorem lb2' : Lb 2 = 7 := by decide

set_option maxHeartbeats 1600000 in
set_option maxRecDepth 100000 in
theorem eqOf_draw (s : MSig) (hv : validB s = true) (g p : Nat) (sv : Value) (w : World) (h : RRd w g p) (hp : p ≤ 1000000) (hs : OSig w (g + 1) sv s) :
    Calls Try.prog 79 #[.pointer (some ⟨g, 0, none⟩), sv] w (EqPost g p w) := by
  obtain ⟨u0, rfl, hoo⟩ := hs
  obtain ⟨sorts, ops⟩ := s
  simp only at hoo
  obtain ⟨A, c, rfl, -⟩ := hoo.reads.form
  have hgl := h.lt
  have hvs := valid_sorts hv
  simp only at hvs
  obtain ⟨W, hW⟩ : ∃ W : World, W = (w.alloc (.cells #[.int .i64 sorts, .slice A ops.length c] 35)).alloc (.cells #[.slice none 0 0, .slice none 0 0, .slice none 0 0] 69) := ⟨_, rfl⟩
  have hbW : Below w.heap.size w W := by rw [hW]; exact (below_alloc _ _).alloc (by simp) _
  have HGW := Lib.hid (show w.grownBy W (some g) by rw [hW]; exact gr_alloc (gr_alloc (gr_refl w g) _) _)
  have HBOX := Lib.hid (show W.heap[w.heap.size]? = some (.cells #[.int .i64 sorts, .slice A ops.length c] 35 (0, 0)) by rw [hW]; exact (heap_alloc_old _ _ (by simp)).trans (heap_alloc_new w _))
  have HRES := Lib.hid (show W.heap[w.heap.size + 1]? = some (.cells #[.slice none 0 0, .slice none 0 0, .slice none 0 0] 69 (0, 0)) by rw [hW]; exact (congrArg (fun i => ((w.alloc (.cells #[.int .i64 sorts, .slice A ops.length c] 35)).alloc (.cells #[.slice none 0 0, .slice none 0 0, .slice none 0 0] 69)).heap[i]?) (by simp)).trans (heap_alloc_new (w.alloc (.cells #[.int .i64 sorts, .slice A ops.length c] 35)) _))
  have HRW := Lib.hid (h.keep hbW)
  have HZW := Lib.hid (show W.heap.size = w.heap.size + 2 by rw [hW]; simp)
  have hzw : W.heap.size = w.heap.size + 2 := HZW.out
  have HSW := Lib.hid (show OSig W (g + 1) (.agg #[.int .i64 sorts, .slice A ops.length c]) ⟨sorts, ops⟩ from (show OSig w (g + 1) (.agg #[.int .i64 sorts, .slice A ops.length c]) ⟨sorts, ops⟩ from ⟨_, rfl, hoo⟩).keep hbW)
  have hW' := hW.symm
  have HV := Lib.hid hv
  have f0 := block_cell HBOX.out 0
  have f1 := block_cell HBOX.out 1
  simp at f0 f1
  clear hbW h hoo hv hW hvs
  go_enter Try.func79, Try.ntmps79
  go_wp2_with fail
  clear hW'
  refine (drawVars_any g p 0 ⟨sorts, ops⟩ _ W HRW.out (by omega) (by omega) (by omega) HSW.out.reads).mono ?_
  rintro e wv ⟨vv, vars, q0, rfl, hov, hvl, hr, hq0, hg⟩
  have HST0 := Lib.hid (show TermSt W wv g q0 from ⟨hr, hg⟩)
  have HOV0 := Lib.hid hov
  clear hov hr hg f0 f1
  go_wp2_with fail
  go_loopw [5, 6, 7, 8] (fun v5 i t7 t8 wr => ∃ (k q : Nat) (vars : List Int), k ≤ 6 ∧ i = .int .i64 k ∧ q ≤ p + 10 + k * 70000 ∧ TermSt W wr g q ∧ OInts wr W.heap.size v5 vars ∧ vars.length ≤ 5) (fun _ i _ _ _ => 6 - (intOf i).toNat)
  case atStart => exact ⟨0, q0, vars, by omega, rfl, by omega, HST0.out, HOV0.out, hvl⟩
  case round =>
    clear HST0 HOV0 hvl hq0
    obtain ⟨k, q, vars, hk, rfl, hq, hst, hov, hvl⟩ := hrel
    obtain ⟨Av, cv, rfl, -⟩ := own_reads hov
    have HST := Lib.hid hst
    have HOV := Lib.hid hov
    have HQ := Lib.hid hq
    have hq' : q ≤ 1500000 := by omega
    have hwr := hst.gr.size
    have hbx := box_after HBOX.out hst.gr (by omega)
    have g0 := block_cell hbx 0
    have g1 := block_cell hbx 1
    simp at g0 g1
    clear hst hov hbx hq
    by_cases hlt : k < 6
    · have hlt' : (k : Int) < 6 := by omega
      go_upto_region 6 with (go_at_call 86; refine (pick_any g q sorts wr HST.out.rd (by omega)).mono ?_; rintro e w3 ⟨x, rfl, hx, hr, hg⟩; have HG3 := Lib.hid hg; have HST3 := Lib.hid (HST.out.later hr hg); clear hr hg hx g0 g1)
      have hz3 := HST3.out.gr.size
      have HOV3 := Lib.hid (HOV.out.past HG3.out (by omega))
      have HS3 := Lib.hid (HSW.out.past HST3.out.gr (by omega))
      have hbx := box_after HBOX.out HST3.out.gr (by omega)
      have g0 := block_cell hbx 0
      have g1 := block_cell hbx 1
      simp at g0 g1
      clear hbx
      go_cut [8] (fun t8 wy => ∃ (b qB : Nat) (lv rv : Value) (ls rs : List Int), t8 = .pointer (some ⟨b, 0, none⟩) ∧ EqSt W wy g b qB (.slice Av vars.length cv) lv rv ⟨vars, ls, rs⟩ ∧ qB ≤ q + 22537 ∧ Small ls ∧ Small rs ∧ ls.length ≤ 7 ∧ rs.length ≤ 7 ∧ (∃ ad c, rv = .slice (some ad) rs.length c))
      case first =>
        go_wp2_with fail
        have ea := World.new_ne w3 _ g0
        have HST3D := Lib.hid (show TermSt W w3.drew g (q + 1) from ⟨HST3.out.rd, ⟨HST3.out.gr.os, HST3.out.gr.tape, HST3.out.gr.output, HST3.out.gr.size, HST3.out.gr.block⟩⟩)
        have HS3D := Lib.hid (show OSig w3.drew (g + 1) (.agg #[.int .i64 sorts, .slice A ops.length c]) ⟨sorts, ops⟩ from HS3.out)
        have HOV3D := Lib.hid (show OInts w3.drew W.heap.size (.slice Av vars.length cv) vars from HOV3.out)
        go_region_held3 (fun w' => w'.cell? ⟨w.heap.size, 0, none⟩ = some (.int .i64 sorts) ∧ w'.cell? ⟨w.heap.size, 1, none⟩ = some (.slice A ops.length c)) (first | go_keep | exact ⟨j0, j1⟩ | exact ⟨i0, i1⟩ | exact ⟨keep3 i0 (by omega), keep3 i1 (by omega)⟩ | exact ⟨keep3 (cell_keep (below_alloc _ _) i0) (by omega), keep3 (cell_keep (below_alloc _ _) i1) (by omega)⟩)
          (first
            | (go_at_call_of 95 (Value.int .i64 1); refine (dterm_any ⟨sorts, ops⟩ vars HV.out (by omega) 1 (by omega) g qA _ _ _ _ (by first | exact HSTA.out.rd | exact (HSTA.out.below (below_alloc wA (.cells #[.slice none 0 0, .slice none 0 0, .slice none 0 0] 69))).rd) (by have := HSL.out.2.2; rw [qb2] at this; rw [qb1]; omega) (by first | exact HSA.out | exact HSA.out.keep (below_alloc wA (.cells #[.slice none 0 0, .slice none 0 0, .slice none 0 0] 69))) (by first | exact HOVA.out.base (by omega) | exact (HOVA.out.keep (below_alloc wA (.cells #[.slice none 0 0, .slice none 0 0, .slice none 0 0] 69))).base (by omega))).mono ?_; rintro e wB ⟨rv, rs, qB, rfl, ⟨adr, cr, rfl⟩, hor, hlr, hsr, hrB, hqB, hgB⟩; have HGB := Lib.hid (show wA.grownBy wB (some g) from by first | exact hgB | exact gr_box hgB); have HSTB := Lib.hid (HSTA.out.later hrB HGB.out); have HOR := Lib.hid (show OInts wB wA.heap.size (.slice (some adr) rs.length cr) rs from hor.base (by first | exact Nat.le_refl _ | simp)); (try have HORN := Lib.hid (show OInts wB (wA.heap.size + 1) (.slice (some adr) rs.length cr) rs from hor.base (by show wA.heap.size + 1 ≤ (wA.alloc (.cells #[.slice none 0 0, .slice none 0 0, .slice none 0 0] 69)).heap.size; simp))); have HSR := Lib.hid (And.intro hsr (And.intro hlr hqB)); (first | have HZB := Lib.hid (gr_at (k := w3.heap.size) hgB (by omega) HZA.out) | have HZB := Lib.hid (gr_at (k := wA.heap.size) hgB (by omega) (heap_alloc_new wA (.cells #[.slice none 0 0, .slice none 0 0, .slice none 0 0] 69))) | skip); have hzB : wA.heap.size ≤ wB.heap.size := HGB.out.size; have i0 := block_cell (box_after HBOX.out HSTB.out.gr (by omega)) 0; have i1 := block_cell (box_after HBOX.out HSTB.out.gr (by omega)) 1; (try (have z0 := block_cell HZB.out 0; have z1 := block_cell HZB.out 1; have z2 := block_cell HZB.out 2; have zf0 := block_free HZB.out 0; have zf1 := block_free HZB.out 1; have zf2 := block_free HZB.out 2; simp at z0 z1 z2)); clear hor hlr hsr hrB hqB hgB)
            | (go_at_call_of 95 (Value.int .i64 2); refine (dterm_any ⟨sorts, ops⟩ vars HV.out (by omega) 2 (by omega) g (q + 1) _ _ _ _ (by first | exact HST3.out.rd | exact (HST3D.out.below (below_alloc _ _)).rd) (by rw [qb2]; omega) (by first | exact HS3.out | exact HS3D.out.keep (below_alloc _ _)) (by first | exact HOV3.out.base (by omega) | exact (HOV3D.out.keep (below_alloc _ _)).base (by omega))).mono ?_; rintro e wA ⟨lv, ls, qA, rfl, ⟨adl, cl, rfl⟩, hol, hll, hsl, hrA, hqA, hgA⟩; have HGA := Lib.hid (show w3.grownBy wA (some g) from by first | exact gr_drew hgA | exact gr_drew (gr_box hgA)); have HSTA := Lib.hid (HST3.out.later hrA HGA.out); have HOL := Lib.hid (show OInts wA W.heap.size (.slice (some adl) ls.length cl) ls from hol.base (by first | exact hz3 | exact Nat.le_trans hz3 (by show w3.heap.size ≤ (w3.alloc (.cells #[.slice none 0 0, .slice none 0 0, .slice none 0 0] 69)).heap.size; simp))); (try have HOLN := Lib.hid (show OInts wA (w3.heap.size + 1) (.slice (some adl) ls.length cl) ls from hol.base (by show w3.heap.size + 1 ≤ (w3.alloc (.cells #[.slice none 0 0, .slice none 0 0, .slice none 0 0] 69)).heap.size; simp))); have HSL := Lib.hid (And.intro hsl (And.intro hll hqA)); have HOVA := Lib.hid (HOV3.out.past HGA.out (by omega)); have HSA := Lib.hid (HS3.out.past HGA.out (by omega)); (try have HZA := Lib.hid (gr_at (k := w3.heap.size) hgA (by omega) (heap_alloc_new w3.drew (.cells #[.slice none 0 0, .slice none 0 0, .slice none 0 0] 69)))); have hzA : w3.heap.size ≤ wA.heap.size := HGA.out.size; have j0 := block_cell (box_after HBOX.out HSTA.out.gr (by omega)) 0; have j1 := block_cell (box_after HBOX.out HSTA.out.gr (by omega)) 1; clear hol hll hsl hrA hqA hgA))
        all_goals
          have hqB := HSR.out.2.2
          have hqA := HSL.out.2.2
          have hlr := HSR.out.2.1
          have hll := HSL.out.2.1
          rw [qb1] at hqB
          rw [qb2] at hqA
          rw [lb1'] at hlr
          rw [lb2'] at hll
          have HOVB := Lib.hid (HOVA.out.past HGB.out (by omega))
          have HOLB := Lib.hid (HOL.out.past HGB.out (by omega))
          have HORB := Lib.hid (HOR.out.base (B' := W.heap.size) (by omega))
          clear j0 j1 i0 i1 g0 g1 ea
          go_wp2
          go_meet
          case rel => first
            | exact ⟨w3.heap.size, qB, _, _, ls, rs, rfl, EqSt.stored HZB.out HSTB.out hz3 (by omega) HOVB.out (fun e => by have := own_lt HOV3.out _ e; omega) HOLB.out (fun e => by have := own_lt HOLN.out _ e; omega) HORB.out (fun e => by have := own_lt HOR.out _ e; have := (Array.getElem?_eq_some_iff.1 HZA.out).1; omega), by omega, HSL.out.1, HSR.out.1, hll, by omega, ⟨_, _, rfl⟩⟩
            | exact ⟨wA.heap.size, qB, _, _, ls, rs, rfl, EqSt.stored HZB.out HSTB.out (by omega) (by omega) HOVB.out (fun e => by have := own_lt HOV3.out _ e; omega) HOLB.out (fun e => by have := own_lt HOL.out _ e; omega) HORB.out (fun e => by have := own_lt HORN.out _ e; omega), by omega, HSL.out.1, HSR.out.1, hll, by omega, ⟨_, _, rfl⟩⟩
            | exact ⟨wB.heap.size, qB, _, _, ls, rs, rfl, ⟨heap_alloc_new wB _, by omega, HSTB.out.below (below_alloc wB _), HOVB.out.keep (below_alloc wB _), HOLB.out.keep (below_alloc wB _), HORB.out.keep (below_alloc wB _)⟩, by omega, HSL.out.1, HSR.out.1, hll, by omega, ⟨_, _, rfl⟩⟩
      case rest =>
        obtain ⟨b, qB, lv, rv, ls, rs, rfl, hst, hqB, hsl, hsr, hll, hlr, ⟨adr, cr, rfl⟩⟩ := hcut
        obtain ⟨wy, rfl⟩ : ∃ wy : World, wy = wc := ⟨_, rfl⟩
        obtain ⟨hbx, hbW, htm, hov, hol, hor⟩ := hst
        simp only at hov hol hor
        obtain ⟨Al, cl, rfl, -⟩ := own_reads hol
        have HTM := Lib.hid htm
        have HOW := Lib.hid (And.intro hov (And.intro hol hor))
        have HSM := Lib.hid (And.intro hsl hsr)
        have HRE := Lib.hid (show REq wy (.agg #[.slice Av vars.length cv, .slice Al ls.length cl, .slice (some adr) rs.length cr]) ⟨vars, ls, rs⟩ from ⟨_, _, _, rfl, hov.reads, hol.reads, hor.reads⟩)
        have HRS := Lib.hid (HSW.out.past htm.gr (by omega)).reads
        have hbs := box_after HBOX.out htm.gr (by omega)
        clear g0 g1
        have g0 := block_cell hbs 0
        have g1 := block_cell hbs 1
        have e0 := block_cell hbx 0
        have e1 := block_cell hbx 1
        have e2 := block_cell hbx 2
        simp at g0 g1 e0 e1 e2
        clear hbx hbs htm hov hol hor hsl hsr
        cases heq : eqOkB ⟨sorts, ops⟩ ⟨vars, ls, rs⟩ with
        | true =>
          have HEQ := Lib.hid heq
          clear heq
          go_wp2_with fail
          refine (specEqOk_any ⟨sorts, ops⟩ ⟨vars, ls, rs⟩ wy _ _ HRS.out HRE.out).mono ?_
          rw [HEQ.out]
          rintro e wz ⟨rfl, hb⟩
          have HTZ := Lib.hid (HTM.out.below hb)
          have hrz := box_after HRES.out HTZ.out.gr (by omega)
          have HOZ := Lib.hid (And.intro (HOW.out.1.keep hb) (And.intro (HOW.out.2.1.keep hb) (HOW.out.2.2.keep hb)))
          replace e0 := cell_keep hb e0
          replace e1 := cell_keep hb e1
          replace e2 := cell_keep hb e2
          have D := Lib.hid (eq_done (e := ⟨vars, ls, rs⟩) hrz HTZ.out HZW.out HGW.out hgl HOZ.out.1 HOZ.out.2.1 HOZ.out.2.2)
          have r0 := block_cell hrz 0
          have r1 := block_cell hrz 1
          have r2 := block_cell hrz 2
          have rf0 := block_free hrz 0
          have rf1 := block_free hrz 1
          have rf2 := block_free hrz 2
          simp at r0 r1 r2
          clear hb hrz g0 g1
          go_wp2
          obtain ⟨d1, d2, d3, d4⟩ := D.out
          generalize ((wz.setCell ⟨w.heap.size + 1, 0, none⟩ (.slice Av vars.length cv)).setCell ⟨w.heap.size + 1, 1, none⟩ (.slice Al ls.length cl)).setCell ⟨w.heap.size + 1, 2, none⟩ (.slice (some adr) rs.length cr) = w9 at d1 d2 d3 d4 ⊢
          have k0 := block_cell d1 0
          have k1 := block_cell d1 1
          have k2 := block_cell d1 2
          simp at k0 k1 k2
          clear r0 r1 r2 rf0 rf1 rf2 e0 e1 e2
          refine bodyPost_ret (v := .agg #[.slice Av vars.length cv, .slice Al ls.length cl, .slice (some adr) rs.length cr]) (by simp [results, Try.results79, go_sem, k0, k1, k2]) rfl ?_
          exact ⟨_, ⟨vars, ls, rs⟩, qB, rfl, d2, HSM.out, hvl, hll, hlr, ⟨_, _, _, _, rfl⟩, d3, by have := HQ.out; omega, d4⟩
        | false =>
          have HEQ := Lib.hid heq
          clear heq
          go_wp2_with fail
          refine (specEqOk_any ⟨sorts, ops⟩ ⟨vars, ls, rs⟩ wy _ _ HRS.out HRE.out).mono ?_
          rw [HEQ.out]
          rintro e wz ⟨rfl, hb⟩
          have HTZ := Lib.hid (HTM.out.below hb)
          have HRSZ := Lib.hid (HRS.out.keep hb)
          replace g0 := cell_keep hb g0
          replace g1 := cell_keep hb g1
          clear hb e0 e1 e2
          go_wp2_with fail
          refine (drawVars_any g qB 0 ⟨sorts, ops⟩ _ wz HTZ.out.rd (by omega) (by omega) (by omega) HRSZ.out).mono ?_
          rintro e wv ⟨vw, vars', q', rfl, hov, hvl', hr, hq', hg⟩
          have HTV := Lib.hid (HTZ.out.later hr hg)
          have HOX := Lib.hid (hov.base (B' := W.heap.size) HTZ.out.gr.size)
          clear hov hr hg g0 g1
          go_wp2
          go_roundw
          case rel => exact ⟨k + 1, q', vars', by omega, by go_num, by have := HQ.out; omega, HTV.out, HOX.out, hvl'⟩
          case measure => simp [intOf]; omega
    · have hlt' : ¬ (k : Int) < 6 := by omega
      have O1 := (lit1 wr 0 hwr).keep ((below_alloc (wr.alloc (.cells #[.int .i64 0] 3)) (.cells #[.int .i64 100] 3)).trans ((below_alloc _ (.cells #[.int .i64 100] 3)).mono (by simp)))
      have O2 := (lit1 (wr.alloc (.cells #[.int .i64 0] 3)) 100 (B := W.heap.size) (by simp; omega)).keep (below_alloc _ (.cells #[.int .i64 100] 3))
      have O3 := lit1 ((wr.alloc (.cells #[.int .i64 0] 3)).alloc (.cells #[.int .i64 100] 3)) 100 (B := W.heap.size) (by simp; omega)
      simp only [World.size_alloc] at O2 O3
      have hb3 := (below_alloc wr (.cells #[.int .i64 0] 3)).trans (((below_alloc (wr.alloc (.cells #[.int .i64 0] 3)) (.cells #[.int .i64 100] 3)).trans ((below_alloc _ (.cells #[.int .i64 100] 3)).mono (by simp))).mono (by simp))
      have HTZ := Lib.hid (HST.out.below hb3)
      have hrz := box_after HRES.out HTZ.out.gr (by omega)
      generalize hW3 : ((wr.alloc (.cells #[.int .i64 0] 3)).alloc (.cells #[.int .i64 100] 3)).alloc (.cells #[.int .i64 100] 3) = wz at O1 O2 O3 hb3 HTZ hrz
      have D := Lib.hid (eq_done (e := ⟨[0], [100], [100]⟩) hrz HTZ.out HZW.out HGW.out hgl O1 O2 O3)
      have r0 := block_cell hrz 0
      have r1 := block_cell hrz 1
      have r2 := block_cell hrz 2
      have rf0 := block_free hrz 0
      have rf1 := block_free hrz 1
      have rf2 := block_free hrz 2
      simp at r0 r1 r2
      clear hb3 hrz g0 g1 O1 O2 O3
      go_wp2
      clear hW3
      obtain ⟨d1, d2, d3, d4⟩ := D.out
      generalize ((wz.setCell ⟨w.heap.size + 1, 0, none⟩ (.slice (some ⟨wr.heap.size, 0, none⟩) 1 1)).setCell ⟨w.heap.size + 1, 1, none⟩ (.slice (some ⟨wr.heap.size + 1, 0, none⟩) 1 1)).setCell ⟨w.heap.size + 1, 2, none⟩ (.slice (some ⟨wr.heap.size + 1 + 1, 0, none⟩) 1 1) = w9 at d1 d2 d3 d4 ⊢
      have k0 := block_cell d1 0
      have k1 := block_cell d1 1
      have k2 := block_cell d1 2
      simp at k0 k1 k2
      clear r0 r1 r2 rf0 rf1 rf2
      refine bodyPost_ret (v := .agg #[.slice (some ⟨wr.heap.size, 0, none⟩) 1 1, .slice (some ⟨wr.heap.size + 1, 0, none⟩) 1 1, .slice (some ⟨wr.heap.size + 1 + 1, 0, none⟩) 1 1]) (by simp [results, Try.results79, go_sem, k0, k1, k2]) rfl ?_
      exact ⟨_, ⟨[0], [100], [100]⟩, q, rfl, d2, ⟨by intro x hx; simp at hx; subst hx; decide, by intro x hx; simp at hx; subst hx; decide⟩, by simp, by simp, by simp, ⟨_, _, _, _, rfl⟩, d3, by have := HQ.out; omega, d4⟩
end Go.Proofs.Yteccjnnhihbdhab
