/- The draw of a signature and a model (l20Model). · DrawModelOk. · DrawModelBack: two signatures, a map and a model. -/
import Derived.Test.YtbopcghbmbchkabK440410b5
namespace Go.Proofs.Ytbopcghbmbchkab
section
open Go.RowKit
set_option linter.unusedVariables false
set_option linter.unusedSimpArgs false

theorem OModel.past {w w' : World} {B g : Nat} {v : Value} {m : MModel} (h : OModel w B v m) (hg : w.grownBy w' (some g)) (hB : g < B) : OModel w' B v m := by
  obtain ⟨a, b, e, h1, C, hC, h2, h3⟩ := h
  exact ⟨a, b, e, own_past h1 hg hB, C, hC, h2, h3.grown hg (fun k e => by injection e with e; omega)⟩
theorem orows_not {w : World} {B b : Nat} {t : TypeId} {v : Value} {rows : List (List Int)} {cs : Array Value} (h : ORows w B v rows) (hb : w.heap[b]? = some (.cells cs t (0, 0))) (hne : 26 ≠ t) : v.ownBlock ≠ some b := by
  obtain ⟨us, h1, -⟩ := h
  exact own_not h1 hb hne
/-- at the end of l20Model: w3: the world with the local signature's box (block b1); wz: now -/
structure MoBase (w w3 wz : World) (g b1 : Nat) (sorts : Int) (u x y : Value) (rows : List (List Int)) (m : MModel) (q : Nat) : Prop where
  rs : w3.heap[w.heap.size]? = some (.cells #[.int .i64 0, .slice none 0 0] 25 (0, 0))
  rm : w3.heap[w.heap.size + 1]? = some (.cells #[.slice none 0 0, .slice none 0 0] 30 (0, 0))
  ls : w3.heap[b1]? = some (.cells #[.int .i64 sorts, u] 25 (0, 0))
  os : ORows w3 (w.heap.size + 2) u rows
  gw : w.grownBy w3 (some g)
  g3 : w3.grownBy wz (some g)
  gl : g < w.heap.size
  bl : w.heap.size + 1 < b1
  om : OModel wz w3.heap.size (.agg #[x, y]) m
  rd : RRd wz g q
/-- beside it the local model's box (block b2) -/
structure MoAt (w w3 wz : World) (g b1 b2 : Nat) (sorts : Int) (u x y : Value) (rows : List (List Int)) (m : MModel) (q : Nat) : Prop where
  base : MoBase w w3 wz g b1 sorts u x y rows m q
  lm : wz.heap[b2]? = some (.cells #[x, y] 30 (0, 0))
  b2 : w3.heap.size ≤ b2
theorem MoAt.later {w w3 wz w' : World} {g b1 b2 : Nat} {sorts : Int} {u x y : Value} {rows : List (List Int)} {m : MModel} {q q' : Nat} (h : MoAt w w3 wz g b1 b2 sorts u x y rows m q) (hg : wz.grownBy w' (some g)) (hr : RRd w' g q') : MoAt w w3 w' g b1 b2 sorts u x y rows m q' := by
  have h1 := h.base.gl
  have h2 := h.base.gw.size
  have h3 := h.b2
  exact ⟨⟨h.base.rs, h.base.rm, h.base.ls, h.base.os, h.base.gw, gr_trans h.base.g3 hg (fun x e => by injection e with e; exact .inl e.symm), h.base.gl, h.base.bl, h.base.om.past hg (by omega), hr⟩, gr_at hg (by omega) h.lm, h.b2⟩
theorem MoBase.here {w w3 wz : World} {g b1 : Nat} {sorts : Int} {u x y : Value} {rows : List (List Int)} {m : MModel} {q : Nat} (h : MoBase w w3 wz g b1 sorts u x y rows m q) :
    wz.heap[w.heap.size]? = some (.cells #[.int .i64 0, .slice none 0 0] 25 (0, 0)) ∧ wz.heap[w.heap.size + 1]? = some (.cells #[.slice none 0 0, .slice none 0 0] 30 (0, 0)) ∧ wz.heap[b1]? = some (.cells #[.int .i64 sorts, u] 25 (0, 0)) := by
  have h1 := h.gl
  have h2 := h.bl
  exact ⟨gr_at h.g3 (by omega) h.rs, gr_at h.g3 (by omega) h.rm, gr_at h.g3 (by omega) h.ls⟩
/-- a size is changed -/
theorem MoAt.size {w w3 wz : World} {g b1 b2 gx n c k : Nat} {sorts : Int} {u y : Value} {rows : List (List Int)} {m : MModel} {q : Nat} (h : MoAt w w3 wz g b1 b2 sorts u (.slice (some ⟨gx, 0, none⟩) n c) y rows m q) (hn : n = m.sizes.length) (z : Int) :
    MoAt w w3 (wz.setCell ⟨gx, k, none⟩ (.int .i64 z)) g b1 b2 sorts u (.slice (some ⟨gx, 0, none⟩) n c) y rows ⟨m.sizes.set k z, m.tables⟩ q := by
  have h1 := h.base.gl
  have h2 := h.base.gw.size
  obtain ⟨a, b, e, o1, C, hC, ub, o2⟩ := h.base.om
  injection e with e
  simp at e
  obtain ⟨e1, e2⟩ := e
  subst e1 e2
  have hx : w3.heap.size ≤ gx ∧ gx < wz.heap.size := own_lt o1 gx rfl
  have hx2 := ub gx rfl
  have hx3 : gx ≠ b2 := fun e => own_not o1 h.lm (by decide) (by rw [← e]; rfl)
  obtain ⟨p1, p2⟩ := own_set o1 hn k z
  exact ⟨⟨h.base.rs, h.base.rm, h.base.ls, h.base.os, h.base.gw, gr_trans h.base.g3 p2 (fun x e => by injection e with e; omega), h.base.gl, h.base.bl, ⟨_, _, rfl, p1, C, hC, ub, o2.setLow' hx2 k _⟩, h.base.rd.setCell (by omega) _⟩, (Below.heap_setCell _ ⟨gx, k, none⟩ _ b2 (fun e => hx3 e.symm)).trans h.lm, h.b2⟩
/-- a cell of a struct's box is no list's -/
theorem own_poke {w : World} {B b i : Nat} {e t : TypeId} {size n : Nat} {v x : Value} {zs : List Value} {cs : Array Value} (h : w.ownsRow B e size v n zs) (hb : w.heap[b]? = some (.cells cs t (0, 0))) (hne : e ≠ t) : (w.setCell ⟨b, i, none⟩ x).ownsRow B e size v n zs :=
  own_grown h (row := some b) ⟨rfl, rfl, rfl, by simp [World.setCell], fun k _ hk => Below.heap_setCell w ⟨b, i, none⟩ x k (by rintro rfl; exact hk rfl)⟩ (.inr (own_not h hb hne))
theorem ORows.poke {w : World} {B b i : Nat} {t : TypeId} {v x : Value} {rows : List (List Int)} {cs : Array Value} (h : ORows w B v rows) (hb : w.heap[b]? = some (.cells cs t (0, 0))) (hne : 26 ≠ t) (hne2 : 3 ≠ t) : ORows (w.setCell ⟨b, i, none⟩ x) B v rows := by
  obtain ⟨us, h1, h2, h3, h4⟩ := h
  exact ⟨us, own_poke h1 hb hne, h2, fun j x r a c => own_poke (h3 j x r a c) hb hne2, h4⟩
/-- one table more: w9: behind the append -/
theorem MoAt.table {w w3 wz w9 : World} {g b1 b2 C : Nat} {sorts : Int} {u x y v' rv : Value} {rows : List (List Int)} {m : MModel} {q : Nat} {o : Obj} {r : List Int} {t2 : TypeId} (h : MoAt w w3 wz g b1 b2 sorts u x y rows m q) (hC : w3.heap.size ≤ C)
    (hx : OInts wz w3.heap.size x m.sizes) (ub : ∀ k, x.ownBlock = some k → k < C) (hy : ORows wz C y m.tables) (hg : ((wz.alloc o).alloc (.cells #[rv] t2)).grownBy w9 y.ownBlock) (hv : ORows w9 C v' (m.tables ++ [r])) :
    MoAt w w3 (w9.setCell ⟨b2, 1, none⟩ v') g b1 b2 sorts u x v' rows ⟨m.sizes, m.tables ++ [r]⟩ q ∧ w9.heap[b2]? = some (.cells #[x, y] 30 (0, 0)) := by
  have h1 := h.base.gl
  have h2 := h.base.gw.size
  have h3 := h.b2
  have hyl : ∀ k, y.ownBlock = some k → C ≤ k := fun k e => by obtain ⟨us, a, -⟩ := hy; exact (own_lt a k e).1
  have hb2 : Below wz.heap.size wz ((wz.alloc o).alloc (.cells #[rv] t2)) := (below_alloc _ _).alloc (by simp) _
  have hne := orows_not hy h.lm (by decide)
  have hl9 : w9.heap[b2]? = some (.cells #[x, y] 30 (0, 0)) :=
    (hg.block b2 (by have := (Array.getElem?_eq_some_iff.1 h.lm).1; simp; omega) (fun e => hne e.symm)).trans ((hb2.block b2 (Array.getElem?_eq_some_iff.1 h.lm).1).trans h.lm)
  have hx9 : OInts w9 w3.heap.size x m.sizes := by
    refine own_grown (hx.keep hb2) hg ?_
    cases e : x.ownBlock with
    | none => exact .inl rfl
    | some k => right; intro e2; have := ub k e; have := hyl k e2.symm; omega
  refine ⟨⟨⟨h.base.rs, h.base.rm, h.base.ls, h.base.os, h.base.gw, gr_setCell (gr_trans (gr_below h.base.g3 hb2) hg (fun k e => .inr (by have := hyl k e; omega))) (.inr (by show w3.heap.size ≤ b2; omega)) v', h.base.gl, h.base.bl, ⟨_, _, rfl, own_poke hx9 hl9 (by decide), C, hC, ub, hv.poke hl9 (by decide) (by decide)⟩, ((h.base.rd.keep hb2).grown hg (fun k e => by have := hyl k e; omega)).setCell (by omega) _⟩, block_set hl9 1 v', h3⟩, hl9⟩

theorem keep2 {w : World} {b c i : Nat} {x y u : Value} (h : w.cell? ⟨c, i, none⟩ = some u) (hne : c ≠ b) : ((w.setCell ⟨b, 0, none⟩ x).setCell ⟨b, 1, none⟩ y).cell? ⟨c, i, none⟩ = some u :=
  (World.cell?_of_block ((Below.heap_setCell _ ⟨b, 1, none⟩ y c hne).trans (Below.heap_setCell w ⟨b, 0, none⟩ x c hne))).trans h
theorem drew_cell {w : World} {p : Addr} {v : Value} (h : w.cell? p = some v) : w.drew.cell? p = some v := h
theorem OModel.drew {x : World} {b : Nat} {v : Value} {m : MModel} (h : OModel x b v m) : OModel x.drew b v m := h
/-- what l20Model answers -/
def MoPost (g p : Nat) (w : World) (e : Ending) (w' : World) : Prop :=
  ∃ (sv mv : Value) (s : MSig) (m : MModel) (q : Nat), e = .returned (.tuple #[sv, mv]) ∧ OSig w' w.heap.size sv s ∧ (s.ops.length ≤ 5 ∧ 0 ≤ s.sorts ∧ s.sorts ≤ 3) ∧ OModel w' w.heap.size mv m ∧ m.sizes.length ≤ 3 ∧ (∀ z ∈ m.sizes, 1 ≤ z ∧ z ≤ 4) ∧ m.tables.length ≤ 6 ∧ (∀ row ∈ m.tables, 1 ≤ row.length ∧ row.length ≤ 9) ∧ RRd w' g q ∧ q ≤ p + 200 ∧ w.grownBy w' (some g)

end

section
open Go.RowKit
set_option linter.unusedVariables false
set_option linter.unusedSimpArgs false

/-- bounds of a drawn model -/
structure FewMo (s : MSig) (m : MModel) : Prop where
  so : s.ops.length ≤ 5 ∧ 0 ≤ s.sorts ∧ s.sorts ≤ 3
  sl : m.sizes.length ≤ 3
  sz : ∀ z ∈ m.sizes, 1 ≤ z ∧ z ≤ 4
  tl : m.tables.length ≤ 6
  ts : ∀ row ∈ m.tables, 1 ≤ row.length ∧ row.length ≤ 9
def DrawMoPost (w : World) (e : Ending) (w' : World) : Prop :=
  ∃ (sv mv : Value) (s : MSig) (m : MModel), e = .returned (.tuple #[sv, mv]) ∧ OSig w' w.heap.size sv s ∧ OModel w' w.heap.size mv m ∧ FewMo s m ∧ Below w.heap.size w w'
end

section
open Go.RowKit
set_option linter.unusedVariables false
set_option linter.unusedSimpArgs false

theorem gr_undrewb {w w' : World} {r : Option Nat} (h : w.drew.grownBy w' r) : w.grownBy w' r := ⟨h.os, h.tape, h.output, h.size, h.block⟩
theorem gr_cellb {w w' : World} {g b i : Nat} {u : Value} (h : w.grownBy w' (some g)) (hc : w.cell? ⟨b, i, none⟩ = some u) (hne : b ≠ g) : w'.cell? ⟨b, i, none⟩ = some u := h.cell hc (by show some b ≠ some g; intro e; injection e with e; exact hne e)
theorem own_pastb {w w' : World} {B g : Nat} {v : Value} {rows : List (List Int)} (h : ORows w B v rows) (hg : w.grownBy w' (some g)) (hB : g < B) : ORows w' B v rows := h.grown hg (fun k e => by injection e with e; omega)
def FewB (s : MSig) : Prop := s.ops.length ≤ 6 ∧ 0 ≤ s.sorts ∧ s.sorts ≤ 3
def DrawMBackPost (w : World) (e : Ending) (w' : World) : Prop :=
  ∃ (av bv mv ov : Value) (a b : MSig) (m : MMap) (mo : MModel), e = .returned (.tuple #[av, bv, mv, ov]) ∧ OSig w' w.heap.size av a ∧ FewB a ∧ OSig w' w.heap.size bv b ∧ FewB b ∧ OMapD w' w.heap.size mv m ∧ m.sorts.length ≤ 4 ∧ m.ops.length ≤ 7 ∧ OModel w' w.heap.size ov mo ∧ Below w.heap.size w w'

set_option maxHeartbeats 3200000 in
set_option maxRecDepth 100000 in
theorem drawModelBack_any (v : Value) (bs : List Int) (w : World) (h : RBytes w w.heap.size v bs) :
    Calls Try.prog 9 #[v] w (DrawMBackPost w) := by
  obtain ⟨W, hW⟩ : ∃ W : World, W = (((w.alloc (.cells #[.int .i64 0, .slice none 0 0] 25)).alloc (.cells #[.int .i64 0, .slice none 0 0] 25)).alloc (.cells #[.slice none 0 0, .slice none 0 0] 28)).alloc (.cells #[.slice none 0 0, .slice none 0 0] 30) := ⟨_, rfl⟩
  have hb0 : Below w.heap.size w W := by rw [hW]; exact (((below_alloc _ _).alloc (by simp) _).alloc (by simp; omega) _).alloc (by simp; omega) _
  have HB0 := Lib.hid hb0
  have HZ0 := Lib.hid (show W.heap.size = w.heap.size + 4 by rw [hW]; simp)
  have HZR0 := Lib.hid (show W.heap[w.heap.size]? = some (.cells #[.int .i64 0, .slice none 0 0] 25 (0, 0)) by rw [hW]; exact (heap_alloc_old (((w.alloc (.cells #[.int .i64 0, .slice none 0 0] 25)).alloc (.cells #[.int .i64 0, .slice none 0 0] 25)).alloc (.cells #[.slice none 0 0, .slice none 0 0] 28)) _ (by simp <;> omega)).trans ((heap_alloc_old ((w.alloc (.cells #[.int .i64 0, .slice none 0 0] 25)).alloc (.cells #[.int .i64 0, .slice none 0 0] 25)) _ (by simp <;> omega)).trans ((heap_alloc_old (w.alloc (.cells #[.int .i64 0, .slice none 0 0] 25)) _ (by simp)).trans (heap_alloc_new (w) _))))
  have HZR1 := Lib.hid (show W.heap[w.heap.size + 1]? = some (.cells #[.int .i64 0, .slice none 0 0] 25 (0, 0)) by rw [hW]; exact (heap_alloc_old (((w.alloc (.cells #[.int .i64 0, .slice none 0 0] 25)).alloc (.cells #[.int .i64 0, .slice none 0 0] 25)).alloc (.cells #[.slice none 0 0, .slice none 0 0] 28)) _ (by simp <;> omega)).trans ((heap_alloc_old ((w.alloc (.cells #[.int .i64 0, .slice none 0 0] 25)).alloc (.cells #[.int .i64 0, .slice none 0 0] 25)) _ (by simp)).trans ((congrArg (fun i => ((w.alloc (.cells #[.int .i64 0, .slice none 0 0] 25)).alloc (.cells #[.int .i64 0, .slice none 0 0] 25)).heap[i]?) (by simp)).trans (heap_alloc_new (w.alloc (.cells #[.int .i64 0, .slice none 0 0] 25)) _))))
  have HZR2 := Lib.hid (show W.heap[w.heap.size + 2]? = some (.cells #[.slice none 0 0, .slice none 0 0] 28 (0, 0)) by rw [hW]; exact (heap_alloc_old (((w.alloc (.cells #[.int .i64 0, .slice none 0 0] 25)).alloc (.cells #[.int .i64 0, .slice none 0 0] 25)).alloc (.cells #[.slice none 0 0, .slice none 0 0] 28)) _ (by simp)).trans ((congrArg (fun i => (((w.alloc (.cells #[.int .i64 0, .slice none 0 0] 25)).alloc (.cells #[.int .i64 0, .slice none 0 0] 25)).alloc (.cells #[.slice none 0 0, .slice none 0 0] 28)).heap[i]?) (by simp)).trans (heap_alloc_new ((w.alloc (.cells #[.int .i64 0, .slice none 0 0] 25)).alloc (.cells #[.int .i64 0, .slice none 0 0] 25)) _)))
  have HZR3 := Lib.hid (show W.heap[w.heap.size + 3]? = some (.cells #[.slice none 0 0, .slice none 0 0] 30 (0, 0)) by rw [hW]; exact (congrArg (fun i => ((((w.alloc (.cells #[.int .i64 0, .slice none 0 0] 25)).alloc (.cells #[.int .i64 0, .slice none 0 0] 25)).alloc (.cells #[.slice none 0 0, .slice none 0 0] 28)).alloc (.cells #[.slice none 0 0, .slice none 0 0] 30)).heap[i]?) (by simp)).trans (heap_alloc_new (((w.alloc (.cells #[.int .i64 0, .slice none 0 0] 25)).alloc (.cells #[.int .i64 0, .slice none 0 0] 25)).alloc (.cells #[.slice none 0 0, .slice none 0 0] 28)) _))
  have HW := Lib.hid (bytes_alloc h hb0)
  obtain ⟨A, c, rfl, -⟩ := h
  have hW' := hW.symm
  clear hb0 hW
  go_enter Try.func9, Try.ntmps9
  go_wp2_with fail
  clear hW'
  refine (open_any _ bs _ HW.out).mono ?_
  rintro e w1 ⟨rfl, hr1, hb1⟩
  rw [HZ0.out] at hr1
  have HR1 := Lib.hid hr1
  have HB1 := Lib.hid hb1
  rw [HZ0.out]
  have hzW := HZ0.out
  have hz1 := HB1.out.size
  have hlt1 : w.heap.size + 4 < w1.heap.size := HR1.out.lt
  clear hr1 hb1
  go_wp2_with fail
  refine (map20_any (w.heap.size + 4) 0 14 _ HR1.out (by omega) (by omega) (by omega)).mono ?_
  rintro e w2 ⟨av, bv, mv, ⟨as_, ar⟩, ⟨bs_, br⟩, m, q, rfl, ⟨ua, rfl, oa⟩, hfa, ⟨ub, rfl, ob⟩, hfb, ⟨x, y, rfl, o0, o1⟩, hms, hmo, hr2, hq2, hg2⟩
  obtain ⟨us1, hu1, -⟩ := id oa
  obtain ⟨Aa, ca, rfl, -⟩ := own_reads hu1
  obtain ⟨us2, hu2, -⟩ := id ob
  obtain ⟨Ab, cb, rfl, -⟩ := own_reads hu2
  obtain ⟨A0, c0, rfl, -⟩ := own_reads o0
  obtain ⟨A1, c1, rfl, -⟩ := own_reads o1
  simp only at oa ob
  have HFA := Lib.hid (show FewB ⟨as_, ar⟩ from hfa)
  have HFB := Lib.hid (show FewB ⟨bs_, br⟩ from hfb)
  have HMS := Lib.hid (And.intro hms hmo)
  have hz2 : w1.heap.size ≤ w2.heap.size := hg2.size
  have hba : Below w2.heap.size w2 (((w2.alloc (.cells #[.int .i64 as_, .slice Aa ar.length ca] 25)).alloc (.cells #[.int .i64 bs_, .slice Ab br.length cb] 25)).alloc (.cells #[.slice A0 m.sorts.length c0, .slice A1 m.ops.length c1] 28)) := ((below_alloc _ _).alloc (by simp) _).alloc (by simp; omega) _
  have HX0 := Lib.hid (show (((w2.alloc (.cells #[.int .i64 as_, .slice Aa ar.length ca] 25)).alloc (.cells #[.int .i64 bs_, .slice Ab br.length cb] 25)).alloc (.cells #[.slice A0 m.sorts.length c0, .slice A1 m.ops.length c1] 28)).heap[w2.heap.size]? = some (.cells #[.int .i64 as_, .slice Aa ar.length ca] 25 (0, 0)) from (heap_alloc_old ((w2.alloc (.cells #[.int .i64 as_, .slice Aa ar.length ca] 25)).alloc (.cells #[.int .i64 bs_, .slice Ab br.length cb] 25)) _ (by simp; omega)).trans ((heap_alloc_old (w2.alloc (.cells #[.int .i64 as_, .slice Aa ar.length ca] 25)) _ (by simp)).trans (heap_alloc_new w2 _)))
  have HX1 := Lib.hid (show (((w2.alloc (.cells #[.int .i64 as_, .slice Aa ar.length ca] 25)).alloc (.cells #[.int .i64 bs_, .slice Ab br.length cb] 25)).alloc (.cells #[.slice A0 m.sorts.length c0, .slice A1 m.ops.length c1] 28)).heap[w2.heap.size + 1]? = some (.cells #[.int .i64 bs_, .slice Ab br.length cb] 25 (0, 0)) from (heap_alloc_old ((w2.alloc (.cells #[.int .i64 as_, .slice Aa ar.length ca] 25)).alloc (.cells #[.int .i64 bs_, .slice Ab br.length cb] 25)) _ (by simp)).trans ((congrArg (fun i => ((w2.alloc (.cells #[.int .i64 as_, .slice Aa ar.length ca] 25)).alloc (.cells #[.int .i64 bs_, .slice Ab br.length cb] 25)).heap[i]?) (by simp)).trans (heap_alloc_new (w2.alloc (.cells #[.int .i64 as_, .slice Aa ar.length ca] 25)) _)))
  have HX2 := Lib.hid (show (((w2.alloc (.cells #[.int .i64 as_, .slice Aa ar.length ca] 25)).alloc (.cells #[.int .i64 bs_, .slice Ab br.length cb] 25)).alloc (.cells #[.slice A0 m.sorts.length c0, .slice A1 m.ops.length c1] 28)).heap[w2.heap.size + 1 + 1]? = some (.cells #[.slice A0 m.sorts.length c0, .slice A1 m.ops.length c1] 28 (0, 0)) from (congrArg (fun i => (((w2.alloc (.cells #[.int .i64 as_, .slice Aa ar.length ca] 25)).alloc (.cells #[.int .i64 bs_, .slice Ab br.length cb] 25)).alloc (.cells #[.slice A0 m.sorts.length c0, .slice A1 m.ops.length c1] 28)).heap[i]?) (by simp)).trans (heap_alloc_new ((w2.alloc (.cells #[.int .i64 as_, .slice Aa ar.length ca] 25)).alloc (.cells #[.int .i64 bs_, .slice Ab br.length cb] 25)) _))
  have HG3 := Lib.hid (gr_below hg2 hba)
  have HOA := Lib.hid ((oa.keep hba).base (B' := w.heap.size + 5) (by omega))
  have HOB := Lib.hid ((ob.keep hba).base (B' := w.heap.size + 5) (by omega))
  have HOM := Lib.hid (OMapD.base (B' := w.heap.size + 5) (show OMapD _ w1.heap.size (.agg #[.slice A0 m.sorts.length c0, .slice A1 m.ops.length c1]) m from ⟨_, _, rfl, o0.keep hba, o1.keep hba⟩) (by omega))
  have HR3 := Lib.hid (hr2.keep hba)
  clear oa ob o0 o1 hu1 hu2 hr2 hg2 hba hfa hfb hms hmo
  generalize hW3 : (((w2.alloc (.cells #[.int .i64 as_, .slice Aa ar.length ca] 25)).alloc (.cells #[.int .i64 bs_, .slice Ab br.length cb] 25)).alloc (.cells #[.slice A0 m.sorts.length c0, .slice A1 m.ops.length c1] 28)) = w3 at HX0 HX1 HX2 HG3 HOA HOB HOM HR3
  have hz3 : w2.heap.size + 1 + 1 < w3.heap.size := (Array.getElem?_eq_some_iff.1 HX2.out).1
  have p0 := block_cell HX0.out 0
  have p1 := block_cell HX0.out 1
  have p2 := block_cell HX1.out 0
  have p3 := block_cell HX1.out 1
  have p4 := block_cell HX2.out 0
  have p5 := block_cell HX2.out 1
  simp at p0 p1 p2 p3 p4 p5
  have HS := Lib.hid (show RSig w3 (.agg #[.int .i64 bs_, .slice Ab br.length cb]) ⟨bs_, br⟩ from ⟨_, rfl, HOB.out.reads⟩)
  cases hv : validB ⟨bs_, br⟩ with
  | false =>
    have HV := Lib.hid hv
    clear hv
    go_wp2_with fail
    clear hW3
    refine (specSigValid_any _ ⟨bs_, br⟩ _ HS.out).mono ?_
    rw [HV.out]
    rintro e wz ⟨rfl, hb⟩
    replace p0 := cell_keep hb p0
    replace p1 := cell_keep hb p1
    replace p2 := cell_keep hb p2
    replace p3 := cell_keep hb p3
    replace p4 := cell_keep hb p4
    replace p5 := cell_keep hb p5
    have HG4 := Lib.hid (gr_below HG3.out hb)
    replace HOA := Lib.hid (HOA.out.keep hb)
    replace HOB := Lib.hid (HOB.out.keep hb)
    replace HOM := Lib.hid (HOM.out.same (fun k _ hk => hb.block k hk))
    have hzz := hb.size
    have hra := gr_at HG4.out (by omega) ((HB1.out.block _ (by omega)).trans HZR0.out)
    have hrb := gr_at HG4.out (by omega) ((HB1.out.block _ (by omega)).trans HZR1.out)
    have hrf := gr_at HG4.out (by omega) ((HB1.out.block _ (by omega)).trans HZR2.out)
    have hrm := gr_at HG4.out (by omega) ((HB1.out.block _ (by omega)).trans HZR3.out)
    have HBW := Lib.hid ((HB0.out.trans (HB1.out.mono (by omega))).trans (below_of_gr' HG4.out (by omega) (by omega)))
    have r0 := block_cell hra 0
    have rf0 := block_free hra 0
    have r1 := block_cell hra 1
    have rf1 := block_free hra 1
    have r2 := block_cell hrb 0
    have rf2 := block_free hrb 0
    have r3 := block_cell hrb 1
    have rf3 := block_free hrb 1
    have r4 := block_cell hrf 0
    have rf4 := block_free hrf 0
    have r5 := block_cell hrf 1
    have rf5 := block_free hrf 1
    have r6 := block_cell hrm 0
    have rf6 := block_free hrm 0
    have r7 := block_cell hrm 1
    have rf7 := block_free hrm 1
    simp at r0 r1 r2 r3 r4 r5 r6 r7
    clear hb
    go_wp2_with fail
    go_region_held3 (fun w' => w'.cell? ⟨w2.heap.size, 0, none⟩ = some (.int .i64 as_) ∧ w'.cell? ⟨w2.heap.size, 1, none⟩ = some (.slice Aa ar.length ca) ∧ w'.cell? ⟨w2.heap.size + 1, 0, none⟩ = some (.int .i64 bs_) ∧ w'.cell? ⟨w2.heap.size + 1, 1, none⟩ = some (.slice Ab br.length cb) ∧ w'.cell? ⟨w2.heap.size + 1 + 1, 0, none⟩ = some (.slice A0 m.sorts.length c0) ∧ w'.cell? ⟨w2.heap.size + 1 + 1, 1, none⟩ = some (.slice A1 m.ops.length c1)) (first | with_reducible exact ⟨drew_cellm p0, drew_cellm p1, drew_cellm p2, drew_cellm p3, drew_cellm p4, drew_cellm p5⟩ | with_reducible exact ⟨drew_cellm (keep2m p0 (by omega)), drew_cellm (keep2m p1 (by omega)), drew_cellm (keep2m p2 (by omega)), drew_cellm (keep2m p3 (by omega)), drew_cellm (keep2m p4 (by omega)), drew_cellm (keep2m p5 (by omega))⟩ | with_reducible exact ⟨drew_cellm (keep2m (keep2m p0 (by omega)) (by omega)), drew_cellm (keep2m (keep2m p1 (by omega)) (by omega)), drew_cellm (keep2m (keep2m p2 (by omega)) (by omega)), drew_cellm (keep2m (keep2m p3 (by omega)) (by omega)), drew_cellm (keep2m (keep2m p4 (by omega)) (by omega)), drew_cellm (keep2m (keep2m p5 (by omega)) (by omega))⟩ | with_reducible exact ⟨drew_cellm (keep2m (keep2m (keep2m p0 (by omega)) (by omega)) (by omega)), drew_cellm (keep2m (keep2m (keep2m p1 (by omega)) (by omega)) (by omega)), drew_cellm (keep2m (keep2m (keep2m p2 (by omega)) (by omega)) (by omega)), drew_cellm (keep2m (keep2m (keep2m p3 (by omega)) (by omega)) (by omega)), drew_cellm (keep2m (keep2m (keep2m p4 (by omega)) (by omega)) (by omega)), drew_cellm (keep2m (keep2m (keep2m p5 (by omega)) (by omega)) (by omega))⟩ | with_reducible exact ⟨drew_cellm (keep2m (keep2m (keep2m (keep2m p0 (by omega)) (by omega)) (by omega)) (by omega)), drew_cellm (keep2m (keep2m (keep2m (keep2m p1 (by omega)) (by omega)) (by omega)) (by omega)), drew_cellm (keep2m (keep2m (keep2m (keep2m p2 (by omega)) (by omega)) (by omega)) (by omega)), drew_cellm (keep2m (keep2m (keep2m (keep2m p3 (by omega)) (by omega)) (by omega)) (by omega)), drew_cellm (keep2m (keep2m (keep2m (keep2m p4 (by omega)) (by omega)) (by omega)) (by omega)), drew_cellm (keep2m (keep2m (keep2m (keep2m p5 (by omega)) (by omega)) (by omega)) (by omega))⟩) (fail)
    have d0 := ((put2_other (x := (.slice none 0 0)) (y := (.slice none 0 0)) (show w.heap.size ≠ w.heap.size + 3 by omega)).trans ((put2_other (x := (.slice A0 m.sorts.length c0)) (y := (.slice A1 m.ops.length c1)) (show w.heap.size ≠ w.heap.size + 2 by omega)).trans ((put2_other (x := (.int .i64 bs_)) (y := (.slice Ab br.length cb)) (show w.heap.size ≠ w.heap.size + 1 by omega)).trans (put2_at (x := (.int .i64 as_)) (y := (.slice Aa ar.length ca)) hra))))
    have d1 := ((put2_other (x := (.slice none 0 0)) (y := (.slice none 0 0)) (show w.heap.size + 1 ≠ w.heap.size + 3 by omega)).trans ((put2_other (x := (.slice A0 m.sorts.length c0)) (y := (.slice A1 m.ops.length c1)) (show w.heap.size + 1 ≠ w.heap.size + 2 by omega)).trans (put2_at (x := (.int .i64 bs_)) (y := (.slice Ab br.length cb)) ((put2_other (x := (.int .i64 as_)) (y := (.slice Aa ar.length ca)) (show w.heap.size + 1 ≠ w.heap.size by omega)).trans hrb))))
    have d2 := ((put2_other (x := (.slice none 0 0)) (y := (.slice none 0 0)) (show w.heap.size + 2 ≠ w.heap.size + 3 by omega)).trans (put2_at (x := (.slice A0 m.sorts.length c0)) (y := (.slice A1 m.ops.length c1)) ((put2_other (x := (.int .i64 bs_)) (y := (.slice Ab br.length cb)) (show w.heap.size + 2 ≠ w.heap.size + 1 by omega)).trans ((put2_other (x := (.int .i64 as_)) (y := (.slice Aa ar.length ca)) (show w.heap.size + 2 ≠ w.heap.size by omega)).trans hrf))))
    have d3 := (put2_at (x := (.slice none 0 0)) (y := (.slice none 0 0)) ((put2_other (x := (.slice A0 m.sorts.length c0)) (y := (.slice A1 m.ops.length c1)) (show w.heap.size + 3 ≠ w.heap.size + 2 by omega)).trans ((put2_other (x := (.int .i64 bs_)) (y := (.slice Ab br.length cb)) (show w.heap.size + 3 ≠ w.heap.size + 1 by omega)).trans ((put2_other (x := (.int .i64 as_)) (y := (.slice Aa ar.length ca)) (show w.heap.size + 3 ≠ w.heap.size by omega)).trans hrm))))
    have HLOW := Lib.hid (fun (k : Nat) (hk : w.heap.size + 4 ≤ k) => ((put2_other (x := (.slice none 0 0)) (y := (.slice none 0 0)) (show k ≠ w.heap.size + 3 by omega)).trans ((put2_other (x := (.slice A0 m.sorts.length c0)) (y := (.slice A1 m.ops.length c1)) (show k ≠ w.heap.size + 2 by omega)).trans ((put2_other (x := (.int .i64 bs_)) (y := (.slice Ab br.length cb)) (show k ≠ w.heap.size + 1 by omega)).trans (put2_other (wz := wz) (x := (.int .i64 as_)) (y := (.slice Aa ar.length ca)) (show k ≠ w.heap.size by omega))))))
    have HBEL := Lib.hid (put2_bel (b := w.heap.size + 3) (x := (.slice none 0 0)) (y := (.slice none 0 0)) (put2_bel (b := w.heap.size + 2) (x := (.slice A0 m.sorts.length c0)) (y := (.slice A1 m.ops.length c1)) (put2_bel (b := w.heap.size + 1) (x := (.int .i64 bs_)) (y := (.slice Ab br.length cb)) (put2_bel (b := w.heap.size) (x := (.int .i64 as_)) (y := (.slice Aa ar.length ca)) HBW.out (by omega)) (by omega)) (by omega)) (by omega))
    clear r0 rf0 r1 rf1 r2 rf2 r3 rf3 r4 rf4 r5 rf5 r6 rf6 r7 rf7
    generalize (((((((wz.setCell ⟨w.heap.size, 0, none⟩ (.int .i64 as_)).setCell ⟨w.heap.size, 1, none⟩ (.slice Aa ar.length ca)).setCell ⟨w.heap.size + 1, 0, none⟩ (.int .i64 bs_)).setCell ⟨w.heap.size + 1, 1, none⟩ (.slice Ab br.length cb)).setCell ⟨w.heap.size + 2, 0, none⟩ (.slice A0 m.sorts.length c0)).setCell ⟨w.heap.size + 2, 1, none⟩ (.slice A1 m.ops.length c1)).setCell ⟨w.heap.size + 3, 0, none⟩ (.slice none 0 0)).setCell ⟨w.heap.size + 3, 1, none⟩ (.slice none 0 0) = w9 at d0 d1 d2 d3 HLOW HBEL ⊢
    have k0 := drew_cellm (block_cell d0 0)
    have k1 := drew_cellm (block_cell d0 1)
    have k2 := drew_cellm (block_cell d1 0)
    have k3 := drew_cellm (block_cell d1 1)
    have k4 := drew_cellm (block_cell d2 0)
    have k5 := drew_cellm (block_cell d2 1)
    have k6 := drew_cellm (block_cell d3 0)
    have k7 := drew_cellm (block_cell d3 1)
    simp at k0 k1 k2 k3 k4 k5 k6 k7
    go_wp2
    refine bodyPost_ret (v := .tuple #[.agg #[.int .i64 as_, .slice Aa ar.length ca], .agg #[.int .i64 bs_, .slice Ab br.length cb], .agg #[.slice A0 m.sorts.length c0, .slice A1 m.ops.length c1], .agg #[.slice none 0 0, .slice none 0 0]]) (by simp [results, Try.results9, go_sem, k0, k1, k2, k3, k4, k5, k6, k7]) rfl ?_
    exact ⟨_, _, _, _, ⟨as_, ar⟩, ⟨bs_, br⟩, m, ⟨[], []⟩, rfl, OSig.base (B := w.heap.size + 5) ⟨_, rfl, HOA.out.same (fun k h1 h2 => HLOW.out k (by omega))⟩ (by omega), HFA.out, OSig.base (B := w.heap.size + 5) ⟨_, rfl, HOB.out.same (fun k h1 h2 => HLOW.out k (by omega))⟩ (by omega), HFB.out, OMapD.base (B := w.heap.size + 5) (HOM.out.same (fun k h1 h2 => HLOW.out k (by omega))) (by omega), HMS.out.1, HMS.out.2, ⟨_, _, rfl, OInts.nil _ _, _, Nat.le_refl _, (fun k e => by cases e), ORows.nil _ _⟩, map_drew HBEL.out⟩
  | true =>
    have HV := Lib.hid hv
    clear hv
    go_wp2_with fail
    clear hW3
    refine (specSigValid_any _ ⟨bs_, br⟩ _ HS.out).mono ?_
    rw [HV.out]
    rintro e w4 ⟨rfl, hb⟩
    replace p0 := cell_keep hb p0
    replace p1 := cell_keep hb p1
    replace p2 := cell_keep hb p2
    replace p3 := cell_keep hb p3
    replace p4 := cell_keep hb p4
    replace p5 := cell_keep hb p5
    have HG4 := Lib.hid (gr_below HG3.out hb)
    have HRD4 := Lib.hid (HR3.out.keep hb)
    replace HOA := Lib.hid (HOA.out.keep hb)
    replace HOB := Lib.hid (HOB.out.keep hb)
    replace HOM := Lib.hid (HOM.out.same (fun k _ hk => hb.block k hk))
    have hz4 := hb.size
    clear hb
    go_wp2_with fail
    go_region_held3 (fun w' => w'.cell? ⟨w2.heap.size, 0, none⟩ = some (.int .i64 as_) ∧ w'.cell? ⟨w2.heap.size, 1, none⟩ = some (.slice Aa ar.length ca) ∧ w'.cell? ⟨w2.heap.size + 1, 0, none⟩ = some (.int .i64 bs_) ∧ w'.cell? ⟨w2.heap.size + 1, 1, none⟩ = some (.slice Ab br.length cb) ∧ w'.cell? ⟨w2.heap.size + 1 + 1, 0, none⟩ = some (.slice A0 m.sorts.length c0) ∧ w'.cell? ⟨w2.heap.size + 1 + 1, 1, none⟩ = some (.slice A1 m.ops.length c1)) (first | with_reducible exact ⟨drew_cellm p0, drew_cellm p1, drew_cellm p2, drew_cellm p3, drew_cellm p4, drew_cellm p5⟩ | with_reducible exact ⟨q0, q1, q2, q3, q4, q5⟩ | with_reducible exact ⟨keep2m q0 (by omega), keep2m q1 (by omega), keep2m q2 (by omega), keep2m q3 (by omega), keep2m q4 (by omega), keep2m q5 (by omega)⟩ | with_reducible exact ⟨keep2m (keep2m q0 (by omega)) (by omega), keep2m (keep2m q1 (by omega)) (by omega), keep2m (keep2m q2 (by omega)) (by omega), keep2m (keep2m q3 (by omega)) (by omega), keep2m (keep2m q4 (by omega)) (by omega), keep2m (keep2m q5 (by omega)) (by omega)⟩ | with_reducible exact ⟨keep2m (keep2m (keep2m q0 (by omega)) (by omega)) (by omega), keep2m (keep2m (keep2m q1 (by omega)) (by omega)) (by omega), keep2m (keep2m (keep2m q2 (by omega)) (by omega)) (by omega), keep2m (keep2m (keep2m q3 (by omega)) (by omega)) (by omega), keep2m (keep2m (keep2m q4 (by omega)) (by omega)) (by omega), keep2m (keep2m (keep2m q5 (by omega)) (by omega)) (by omega)⟩ | with_reducible exact ⟨keep2m (keep2m (keep2m (keep2m q0 (by omega)) (by omega)) (by omega)) (by omega), keep2m (keep2m (keep2m (keep2m q1 (by omega)) (by omega)) (by omega)) (by omega), keep2m (keep2m (keep2m (keep2m q2 (by omega)) (by omega)) (by omega)) (by omega), keep2m (keep2m (keep2m (keep2m q3 (by omega)) (by omega)) (by omega)) (by omega), keep2m (keep2m (keep2m (keep2m q4 (by omega)) (by omega)) (by omega)) (by omega), keep2m (keep2m (keep2m (keep2m q5 (by omega)) (by omega)) (by omega)) (by omega)⟩)
      (first | (go_at_call 52; refine (modelOf_any ⟨bs_, br⟩ HV.out (w.heap.size + 4) q w4.drew _ (w.heap.size + 5) (show OSig w4 (w.heap.size + 5) (.agg #[.int .i64 bs_, .slice Ab br.length cb]) ⟨bs_, br⟩ from ⟨_, rfl, HOB.out⟩) (by omega) HRD4.out (by omega)).mono ?_; rintro x w5 ⟨ov, mo, q5, rfl, om, -, -, -, -, hr5, hq5, hg5⟩; have hg5 := gr_undrewb hg5; obtain ⟨x0, y0, rfl, o1, C, hC, hub, o2⟩ := om; obtain ⟨M0, dm0, rfl, -⟩ := own_reads o1; obtain ⟨us3, hu3, -⟩ := id o2; obtain ⟨M1, dm1, rfl, -⟩ := own_reads hu3; have HMO := Lib.hid (show OModel w5 w4.heap.size (.agg #[.slice M0 mo.sizes.length dm0, .slice M1 mo.tables.length dm1]) mo from ⟨_, _, rfl, o1, C, hC, hub, o2⟩); have q0 := gr_cellb hg5 p0 (by omega); have q1 := gr_cellb hg5 p1 (by omega); have q2 := gr_cellb hg5 p2 (by omega); have q3 := gr_cellb hg5 p3 (by omega); have q4 := gr_cellb hg5 p4 (by omega); have q5 := gr_cellb hg5 p5 (by omega); have HOA5 := Lib.hid (own_pastb HOA.out hg5 (by omega)); have HOB5 := Lib.hid (own_pastb HOB.out hg5 (by omega)); have HOM5 := Lib.hid (HOM.out.past hg5 (by omega)); have HG5 := Lib.hid (gr_trans HG4.out hg5 (fun x e => by injection e with e; exact .inl e.symm)); have hz5 := hg5.size; have hra := gr_at HG5.out (by omega) ((HB1.out.block _ (by omega)).trans HZR0.out); have hrb := gr_at HG5.out (by omega) ((HB1.out.block _ (by omega)).trans HZR1.out); have hrf := gr_at HG5.out (by omega) ((HB1.out.block _ (by omega)).trans HZR2.out); have hrm := gr_at HG5.out (by omega) ((HB1.out.block _ (by omega)).trans HZR3.out); have HBW := Lib.hid ((HB0.out.trans (HB1.out.mono (by omega))).trans (below_of_gr' HG5.out (by omega) (by omega))); have r0 := block_cell hra 0; have rf0 := block_free hra 0; have r1 := block_cell hra 1; have rf1 := block_free hra 1; have r2 := block_cell hrb 0; have rf2 := block_free hrb 0; have r3 := block_cell hrb 1; have rf3 := block_free hrb 1; have r4 := block_cell hrf 0; have rf4 := block_free hrf 0; have r5 := block_cell hrf 1; have rf5 := block_free hrf 1; have r6 := block_cell hrm 0; have rf6 := block_free hrm 0; have r7 := block_cell hrm 1; have rf7 := block_free hrm 1; simp at r0 r1 r2 r3 r4 r5 r6 r7; clear hr5 hg5 o1 o2 hub hu3 p0 p1 p2 p3 p4 p5))
    have d0 := ((put2_other (x := (.slice M0 mo.sizes.length dm0)) (y := (.slice M1 mo.tables.length dm1)) (show w.heap.size ≠ w.heap.size + 3 by omega)).trans ((put2_other (x := (.slice A0 m.sorts.length c0)) (y := (.slice A1 m.ops.length c1)) (show w.heap.size ≠ w.heap.size + 2 by omega)).trans ((put2_other (x := (.int .i64 bs_)) (y := (.slice Ab br.length cb)) (show w.heap.size ≠ w.heap.size + 1 by omega)).trans (put2_at (x := (.int .i64 as_)) (y := (.slice Aa ar.length ca)) hra))))
    have d1 := ((put2_other (x := (.slice M0 mo.sizes.length dm0)) (y := (.slice M1 mo.tables.length dm1)) (show w.heap.size + 1 ≠ w.heap.size + 3 by omega)).trans ((put2_other (x := (.slice A0 m.sorts.length c0)) (y := (.slice A1 m.ops.length c1)) (show w.heap.size + 1 ≠ w.heap.size + 2 by omega)).trans (put2_at (x := (.int .i64 bs_)) (y := (.slice Ab br.length cb)) ((put2_other (x := (.int .i64 as_)) (y := (.slice Aa ar.length ca)) (show w.heap.size + 1 ≠ w.heap.size by omega)).trans hrb))))
    have d2 := ((put2_other (x := (.slice M0 mo.sizes.length dm0)) (y := (.slice M1 mo.tables.length dm1)) (show w.heap.size + 2 ≠ w.heap.size + 3 by omega)).trans (put2_at (x := (.slice A0 m.sorts.length c0)) (y := (.slice A1 m.ops.length c1)) ((put2_other (x := (.int .i64 bs_)) (y := (.slice Ab br.length cb)) (show w.heap.size + 2 ≠ w.heap.size + 1 by omega)).trans ((put2_other (x := (.int .i64 as_)) (y := (.slice Aa ar.length ca)) (show w.heap.size + 2 ≠ w.heap.size by omega)).trans hrf))))
    have d3 := (put2_at (x := (.slice M0 mo.sizes.length dm0)) (y := (.slice M1 mo.tables.length dm1)) ((put2_other (x := (.slice A0 m.sorts.length c0)) (y := (.slice A1 m.ops.length c1)) (show w.heap.size + 3 ≠ w.heap.size + 2 by omega)).trans ((put2_other (x := (.int .i64 bs_)) (y := (.slice Ab br.length cb)) (show w.heap.size + 3 ≠ w.heap.size + 1 by omega)).trans ((put2_other (x := (.int .i64 as_)) (y := (.slice Aa ar.length ca)) (show w.heap.size + 3 ≠ w.heap.size by omega)).trans hrm))))
    have HLOW := Lib.hid (fun (k : Nat) (hk : w.heap.size + 4 ≤ k) => ((put2_other (x := (.slice M0 mo.sizes.length dm0)) (y := (.slice M1 mo.tables.length dm1)) (show k ≠ w.heap.size + 3 by omega)).trans ((put2_other (x := (.slice A0 m.sorts.length c0)) (y := (.slice A1 m.ops.length c1)) (show k ≠ w.heap.size + 2 by omega)).trans ((put2_other (x := (.int .i64 bs_)) (y := (.slice Ab br.length cb)) (show k ≠ w.heap.size + 1 by omega)).trans (put2_other (wz := w5) (x := (.int .i64 as_)) (y := (.slice Aa ar.length ca)) (show k ≠ w.heap.size by omega))))))
    have HBEL := Lib.hid (put2_bel (b := w.heap.size + 3) (x := (.slice M0 mo.sizes.length dm0)) (y := (.slice M1 mo.tables.length dm1)) (put2_bel (b := w.heap.size + 2) (x := (.slice A0 m.sorts.length c0)) (y := (.slice A1 m.ops.length c1)) (put2_bel (b := w.heap.size + 1) (x := (.int .i64 bs_)) (y := (.slice Ab br.length cb)) (put2_bel (b := w.heap.size) (x := (.int .i64 as_)) (y := (.slice Aa ar.length ca)) HBW.out (by omega)) (by omega)) (by omega)) (by omega))
    clear r0 rf0 r1 rf1 r2 rf2 r3 rf3 r4 rf4 r5 rf5 r6 rf6 r7 rf7
    generalize (((((((w5.setCell ⟨w.heap.size, 0, none⟩ (.int .i64 as_)).setCell ⟨w.heap.size, 1, none⟩ (.slice Aa ar.length ca)).setCell ⟨w.heap.size + 1, 0, none⟩ (.int .i64 bs_)).setCell ⟨w.heap.size + 1, 1, none⟩ (.slice Ab br.length cb)).setCell ⟨w.heap.size + 2, 0, none⟩ (.slice A0 m.sorts.length c0)).setCell ⟨w.heap.size + 2, 1, none⟩ (.slice A1 m.ops.length c1)).setCell ⟨w.heap.size + 3, 0, none⟩ (.slice M0 mo.sizes.length dm0)).setCell ⟨w.heap.size + 3, 1, none⟩ (.slice M1 mo.tables.length dm1) = w9 at d0 d1 d2 d3 HLOW HBEL ⊢
    have k0 := block_cell d0 0
    have k1 := block_cell d0 1
    have k2 := block_cell d1 0
    have k3 := block_cell d1 1
    have k4 := block_cell d2 0
    have k5 := block_cell d2 1
    have k6 := block_cell d3 0
    have k7 := block_cell d3 1
    simp at k0 k1 k2 k3 k4 k5 k6 k7
    go_wp2
    refine bodyPost_ret (v := .tuple #[.agg #[.int .i64 as_, .slice Aa ar.length ca], .agg #[.int .i64 bs_, .slice Ab br.length cb], .agg #[.slice A0 m.sorts.length c0, .slice A1 m.ops.length c1], .agg #[.slice M0 mo.sizes.length dm0, .slice M1 mo.tables.length dm1]]) (by simp [results, Try.results9, go_sem, k0, k1, k2, k3, k4, k5, k6, k7]) rfl ?_
    exact ⟨_, _, _, _, ⟨as_, ar⟩, ⟨bs_, br⟩, m, mo, rfl, OSig.base (B := w.heap.size + 5) ⟨_, rfl, HOA5.out.same (fun k h1 h2 => HLOW.out k (by omega))⟩ (by omega), HFA.out, OSig.base (B := w.heap.size + 5) ⟨_, rfl, HOB5.out.same (fun k h1 h2 => HLOW.out k (by omega))⟩ (by omega), HFB.out, OMapD.base (B := w.heap.size + 5) (HOM5.out.same (fun k h1 h2 => HLOW.out k (by omega))) (by omega), HMS.out.1, HMS.out.2, OModel.base (B := w4.heap.size) (HMO.out.same (fun k h1 h2 => HLOW.out k (by omega))) (by omega), HBEL.out⟩
end
end Go.Proofs.Ytbopcghbmbchkab
