/- What the proofs of the exact laws share: lists of theories and benches that came in. · How a term that was read lies in memory: a letter, or an operation with a slice of terms. No walk. · firstTerm and opWithTerms: a row is read as a term. By induction on a number that bounds the row's length. · firstTerm, by induction; termOf. · The spec's l2End: where a term ends that begins at a place, and its sort. By induction. · TermSort of both packages. · TermsFit of both packages. -/
import Derived.Test.YtmmnamjgpfkababKeb95e910
import Derived.Deep.AppendLies
import Derived.Deep.RegionHeld3
import Derived.Deep.RegionLaw
namespace Go.Proofs.Ytmmnamjgpfkabab
section
open Go.ChangeShapes Go.WideShapes Go.ChangeAt Go.RowKit Go.Deep Go.Joins
set_option linter.unusedVariables false

instance : Inhabited MThy := ⟨⟨⟨0, []⟩, []⟩⟩
set_option maxRecDepth 100000 in
theorem thys_cell {H : Type} {enc : TypeId × Value → H} {W : World} {fuel : Nat} {u : Value} {x : DataW H × List MemPlace} (hf : DataW.trod enc Try.prog W 0 (fun _ => true) true fuel 28 [u] = some x) : ∃ ts, RThys W u ts ∧ SmallTs ts := by
  rcases open_slice Try.underlying28 hf with ⟨hcs, -⟩ | ⟨a, len, cap, m, n, D, Pl, hcs, hb, hl, hm, hmm, -, hx⟩
  · simp at hcs
    subst hcs
    exact ⟨[], RThys.nil _, fun e he => by simp at he⟩
  · simp at hcs
    subst hcs
    have hlm : len ≤ m := by rw [hmm]; split <;> omega
    have each : ∀ i, i < len → ∃ q : MThy, (∃ b o u x, a = ⟨b, o, none⟩ ∧ W.cell? ⟨b, o + i * 3, none⟩ = some (.int .i64 q.over.sorts) ∧ W.cell? ⟨b, o + i * 3 + 1, none⟩ = some u ∧ W.cell? ⟨b, o + i * 3 + 2, none⟩ = some x ∧ RThy W (.agg #[.int .i64 q.over.sorts, u, x]) q) ∧ SmallT q := by
      intro i hi
      obtain ⟨cs', h1, h2⟩ := hx i (by omega)
      rw [cells_Thy] at h1
      obtain ⟨-, hlen, hcell⟩ := World.cells?_some h1
      obtain ⟨y0, y1, n', -, -, g0, g1⟩ := trod_struct2 Try.underlying27 h2
      match cs', hlen with
      | [v0, v1, v2], _ =>
        have c0 := hcell 0 (by omega)
        have c1 := hcell 1 (by omega)
        have c2 := hcell 2 (by omega)
        have hsp0 : a.spot = none := by
          obtain ⟨cs0, k1, -⟩ := hx 0 (by omega)
          rw [cells_Thy] at k1
          obtain ⟨-, hl0, hc0⟩ := World.cells?_some k1
          have c := hc0 0 (by omega)
          rw [List.getElem?_eq_getElem (by omega)] at c
          have := spot_none c
          simpa [Addr.add] using this
        obtain ⟨b, o, sp⟩ := a
        simp only at hsp0
        subst hsp0
        rw [add_add, add_plain] at c0 c1 c2
        have k2 : Try.prog.cellsOf 24 = 2 := by kernel_rfl
        have k1 : Try.prog.cellsOf 25 = 1 := by kernel_rfl
        simp [k1, k2] at g0 g1
        obtain ⟨z0, z1, n'', -, -, f0, f1⟩ := trod_struct2 Try.underlying24 g0
        have k3 : Try.prog.cellsOf 3 = 1 := by kernel_rfl
        have k4 : Try.prog.cellsOf 22 = 1 := by kernel_rfl
        simp [k3, k4] at f0 f1
        obtain ⟨z, e0, -, wa⟩ := DataW.trod_int Try.underlying3 f0
        simp at e0
        subst e0
        obtain ⟨rows, r1, -⟩ := rows_cell (u := v1) (by simpa using f1)
        obtain ⟨es, r2, s2⟩ := eqs_cell (u := v2) (by simpa using g1)
        exact ⟨⟨⟨z, rows⟩, es⟩, ⟨b, o, v1, v2, rfl, by simpa using c0, by simpa [Nat.add_assoc] using c1, by simpa [Nat.add_assoc] using c2, ⟨_, _, rfl, r1, r2⟩⟩, s2⟩
    obtain ⟨q, hq⟩ := choose_lt each
    refine ⟨(List.range len).map q, ⟨some a, cap, by simp, by simpa using hl, hm, fun j e hj => ?_⟩, fun e he => ?_⟩
    · simp only [List.getElem?_map] at hj
      obtain ⟨r, hr', rfl⟩ := Option.map_eq_some_iff.1 hj
      obtain ⟨hjl, hrj⟩ := List.getElem?_eq_some_iff.1 hr'
      simp at hjl hrj
      subst hrj
      obtain ⟨⟨b, o, u, x, rfl, r⟩, -⟩ := hq j hjl
      exact ⟨b, o, u, x, rfl, r⟩
    · obtain ⟨r, hr', rfl⟩ := List.mem_map.1 he
      simp at hr'
      exact (hq r hr').2
set_option maxRecDepth 100000 in
theorem cells_Bench : Try.prog.cellsOf 30 = 4 := by kernel_rfl
set_option maxRecDepth 100000 in
theorem bench_of {H : Type} {enc : TypeId × Value → H} {W : World} {base : Nat} {v : Value} {d : DataW H} {p : List MemPlace} (hv : Value.okWide Try.prog W .any base 30 v)
    (h : DataW.Trod enc Try.prog W 0 (fun _ => true) true 30 v d p) : ∃ t, RBench W v t ∧ SmallB t := by
  obtain ⟨cs, rfl, hsz⟩ := okWide_struct Try.underlying30 hv
  obtain ⟨c0, c1, c2, c3, rfl⟩ := array4 (hsz.trans cells_Bench)
  obtain ⟨fuel, hf⟩ := h
  obtain ⟨y0, y1, n, -, -, h0, h1⟩ := trod_struct2 Try.underlying30 hf
  have k2 : Try.prog.cellsOf 27 = 3 := by kernel_rfl
  have k1 : Try.prog.cellsOf 28 = 1 := by kernel_rfl
  simp [Value.cells, k1, k2] at h0 h1
  obtain ⟨z0, z1, n', -, -, g0, g1⟩ := trod_struct2 Try.underlying27 h0
  have k3 : Try.prog.cellsOf 24 = 2 := by kernel_rfl
  have k4 : Try.prog.cellsOf 25 = 1 := by kernel_rfl
  simp [k3, k4] at g0 g1
  obtain ⟨x0, x1, n'', -, -, f0, f1⟩ := trod_struct2 Try.underlying24 g0
  have k5 : Try.prog.cellsOf 3 = 1 := by kernel_rfl
  have k6 : Try.prog.cellsOf 22 = 1 := by kernel_rfl
  simp [k5, k6] at f0 f1
  obtain ⟨a, e0, -, wa⟩ := DataW.trod_int Try.underlying3 f0
  simp at e0
  subst e0
  obtain ⟨rows, r1, -⟩ := rows_cell f1
  obtain ⟨es, r2, s2⟩ := eqs_cell g1
  obtain ⟨ts, r3, s3⟩ := thys_cell h1
  exact ⟨⟨⟨⟨a, rows⟩, es⟩, ts⟩, ⟨_, _, _, rfl, ⟨_, _, rfl, r1, r2⟩, r3⟩, s2, s3⟩
end

section
open Go.RowKit
set_option linter.unusedVariables false

theorem blk_set' {w : World} {b : Nat} {cs : Array Value} {t : TypeId} (h : w.heap[b]? = some (.cells cs t (0, 0))) (i : Nat) (u : Value) : (w.setCell ⟨b, i, none⟩ u).heap[b]? = some (.cells (cs.setIfInBounds i u) t (0, 0)) := by
  simp [World.setCell, Array.getElem?_modify, h]

-- M: the blocks in which it lies
mutual
def RTerm (w : World) (M : Nat → Prop) : Value → Tm → Prop
  | v, .leaf k of => v = .iface 158 (.agg #[.int .i64 (k : Int), .int .i64 of])
  | v, .node op lv ts => ∃ (A : Option Addr) (c : Nat) (us : List Value), v = .iface 161 (.agg #[.int .i64 (op : Int), .int .i64 lv, .slice A ts.length c]) ∧ ts.length ≤ c ∧ c ≤ maxLen ∧ us.length = ts.length ∧
      (∀ (j : Nat) (u : Value), us[j]? = some u → ∃ b o, A = some ⟨b, o, none⟩ ∧ M b ∧ w.cell? ⟨b, o + j, none⟩ = some u) ∧ RTerms w M us ts
def RTerms (w : World) (M : Nat → Prop) : List Value → List Tm → Prop
  | us, [] => us = []
  | us, t :: ts => ∃ u us', us = u :: us' ∧ RTerm w M u t ∧ RTerms w M us' ts
end

mutual
theorem RTerm.keep {w w' : World} {M M' : Nat → Prop} (hb : ∀ b, M b → b < w.heap.size → M' b ∧ w'.heap[b]? = w.heap[b]?) : ∀ {v : Value} {t : Tm}, RTerm w M v t → RTerm w' M' v t
  | v, .leaf k of, h => by unfold RTerm at h ⊢; exact h
  | v, .node op lv ts, h => by
    unfold RTerm at h ⊢
    obtain ⟨A, c, us, e, h1, h2, h3, h4, h5⟩ := h
    refine ⟨A, c, us, e, h1, h2, h3, fun j u hj => ?_, RTerms.keep hb h5⟩
    obtain ⟨b, o, ea, hm, hc⟩ := h4 j u hj
    obtain ⟨k1, k2⟩ := hb b hm (World.block_lt_of_cell? w ⟨b, o + j, none⟩ hc)
    exact ⟨b, o, ea, k1, by rw [← hc]; exact World.cell?_of_block k2⟩
theorem RTerms.keep {w w' : World} {M M' : Nat → Prop} (hb : ∀ b, M b → b < w.heap.size → M' b ∧ w'.heap[b]? = w.heap[b]?) : ∀ {us : List Value} {ts : List Tm}, RTerms w M us ts → RTerms w' M' us ts
  | us, [], h => by unfold RTerms at h ⊢; exact h
  | us, t :: ts, h => by
    unfold RTerms at h ⊢
    obtain ⟨u, us', e, h1, h2⟩ := h
    exact ⟨u, us', e, RTerm.keep hb h1, RTerms.keep hb h2⟩
end
theorem RTerm.below {w w' : World} {M : Nat → Prop} {v : Value} {t : Tm} (h : RTerm w M v t) (hb : Below w.heap.size w w') : RTerm w' M v t := h.keep fun b hm hl => ⟨hm, hb.block b hl⟩
theorem RTerms.below {w w' : World} {M : Nat → Prop} {us : List Value} {ts : List Tm} (h : RTerms w M us ts) (hb : Below w.heap.size w w') : RTerms w' M us ts := h.keep fun b hm hl => ⟨hm, hb.block b hl⟩
theorem RTerms.length {w : World} {M : Nat → Prop} : ∀ {us : List Value} {ts : List Tm}, RTerms w M us ts → us.length = ts.length
  | us, [], h => by unfold RTerms at h; subst h; rfl
  | us, t :: ts, h => by
    unfold RTerms at h
    obtain ⟨u, us', rfl, h1, h2⟩ := h
    simp [RTerms.length h2]
theorem RTerms.snoc {w : World} {M : Nat → Prop} {u : Value} {t : Tm} (hu : RTerm w M u t) : ∀ {us : List Value} {ts : List Tm}, RTerms w M us ts → RTerms w M (us ++ [u]) (ts ++ [t])
  | us, [], h => by
    unfold RTerms at h
    subst h
    simp only [List.nil_append]
    unfold RTerms
    exact ⟨u, [], rfl, hu, by unfold RTerms; rfl⟩
  | us, x :: ts, h => by
    unfold RTerms at h
    obtain ⟨u', us', rfl, h1, h2⟩ := h
    simp only [List.cons_append]
    unfold RTerms
    exact ⟨u', us' ++ [u], rfl, h1, RTerms.snoc hu h2⟩
theorem RTerms.at_ {w : World} {M : Nat → Prop} : ∀ {us : List Value} {ts : List Tm} {j : Nat}, RTerms w M us ts → (hj : j < ts.length) → ∃ u, us[j]? = some u ∧ RTerm w M u ts[j]
  | us, [], j, h, hj => by simp at hj
  | us, x :: ts, 0, h, hj => by
    unfold RTerms at h
    obtain ⟨u', us', rfl, h1, h2⟩ := h
    exact ⟨u', rfl, h1⟩
  | us, x :: ts, j + 1, h, hj => by
    unfold RTerms at h
    obtain ⟨u', us', rfl, h1, h2⟩ := h
    obtain ⟨u, a, b⟩ := RTerms.at_ (j := j) h2 (by simpa using hj)
    exact ⟨u, by simpa using a, by simpa using b⟩
/-- a term's value: which kind, and what it says of its sort -/
theorem RTerm.form {w : World} {M : Nat → Prop} {v : Value} {t : Tm} (h : RTerm w M v t) :
    (∃ k of : Int, v = .iface 158 (.agg #[.int .i64 k, .int .i64 of]) ∧ t.sort = of) ∨ (∃ (op lv : Int) (A : Option Addr) (n c : Nat), v = .iface 161 (.agg #[.int .i64 op, .int .i64 lv, .slice A n c]) ∧ t.sort = lv) := by
  cases t with
  | leaf k of => unfold RTerm at h; exact .inl ⟨k, of, h, rfl⟩
  | node op lv ts => unfold RTerm at h; obtain ⟨A, c, us, e, -⟩ := h; exact .inr ⟨op, lv, A, ts.length, c, e, rfl⟩

/-- inside opWithTerms: block b: the operation under way; the terms so far -/
structure TakesAt (w wr : World) (b : Nat) (op : Nat) (lv : Int) (tv : Value) (ts : List Tm) : Prop where
  box : wr.heap[b]? = some (.cells #[.int .i64 (op : Int), .int .i64 lv, tv] 161 (0, 0))
  own : ∃ us, wr.ownsRow (b + 1) 136 1 tv ts.length us ∧ RTerms wr (fun x => b < x ∧ some x ≠ tv.ownBlock) us ts
  bel : Below w.heap.size w wr
  ge : w.heap.size ≤ b

theorem TakesAt.start {w wr : World} {b : Nat} {op : Nat} {lv : Int} (h1 : wr.heap[b]? = some (.cells #[.int .i64 (op : Int), .int .i64 lv, .slice none 0 0] 161 (0, 0))) (h2 : Below w.heap.size w wr) (h3 : w.heap.size ≤ b) : TakesAt w wr b op lv (.slice none 0 0) [] :=
  ⟨h1, ⟨[], World.ownsRow_nil _ _ _ _, by unfold RTerms; rfl⟩, h2, h3⟩
theorem TakesAt.below {w wr w2 : World} {b op : Nat} {lv : Int} {tv : Value} {ts : List Tm} (h : TakesAt w wr b op lv tv ts) (hb : Below wr.heap.size wr w2) : TakesAt w w2 b op lv tv ts := by
  obtain ⟨us, h1, h2⟩ := h.own
  exact ⟨(hb.block b (Array.getElem?_eq_some_iff.1 h.box).1).trans h.box, ⟨us, own_keep h1 hb, h2.below hb⟩, h.bel.trans (hb.mono h.bel.size), h.ge⟩
/-- behind 'whole.takes = append(whole.takes, taken)'; w2: behind the call that read the term, w3: behind the box of one cell -/
theorem TakesAt.push {w wr w2 w4 : World} {b op g cap : Nat} {lv : Int} {tv u : Value} {ts : List Tm} {t : Tm} {us : List Value} {o : Obj} (h : TakesAt w wr b op lv tv ts) (hb : Below wr.heap.size wr w2) (ht : RTerm w2 (fun x => wr.heap.size ≤ x) u t)
    (h1 : wr.ownsRow (b + 1) 136 1 tv ts.length us) (h2 : RTerms wr (fun x => b < x ∧ some x ≠ tv.ownBlock) us ts)
    (ho : w4.ownsRow (b + 1) 136 1 (.slice (some ⟨g, 0, none⟩) (ts.length + 1) cap) (ts.length + 1) (us ++ [u])) (hg : (w2.alloc o).grownBy w4 tv.ownBlock) (hlies : tv.ownBlock = some g ∨ g = (w2.alloc o).heap.size) :
    w4.heap[b]? = some (.cells #[.int .i64 (op : Int), .int .i64 lv, tv] 161 (0, 0)) ∧
    TakesAt w (w4.setCell ⟨b, 2, none⟩ (.slice (some ⟨g, 0, none⟩) (ts.length + 1) cap)) b op lv (.slice (some ⟨g, 0, none⟩) (ts.length + 1) cap) (ts ++ [t]) := by
  have hbl := (Array.getElem?_eq_some_iff.1 h.box).1
  have hs2 := hb.size
  have hsa : (w2.alloc o).heap.size = w2.heap.size + 1 := by simp
  have htv : ∀ k, tv.ownBlock = some k → b + 1 ≤ k ∧ k < wr.heap.size := own_lt h1
  have hgb : b < g := by
    rcases hlies with e | e
    · have := htv g e; omega
    · omega
  have at_ : ∀ x, x < w2.heap.size → some x ≠ tv.ownBlock → w4.heap[x]? = w2.heap[x]? := fun x hx hne =>
    (hg.block x (by omega) hne).trans (heap_alloc_old _ _ hx)
  have hbox4 : w4.heap[b]? = some (.cells #[.int .i64 (op : Int), .int .i64 lv, tv] 161 (0, 0)) :=
    (at_ b (by omega) (fun e => by have := htv b e.symm; omega)).trans ((hb.block b hbl).trans h.box)
  refine ⟨hbox4, ?_, ⟨us ++ [u], ?_, ?_⟩, ?_, h.ge⟩
  · exact blk_set' hbox4 2 _
  · rw [List.length_append]
    exact ownsRow_setCell_below ho (by show b < b + 1; omega) _
  · have hset : ∀ x, b < x → (w4.setCell ⟨b, 2, none⟩ (.slice (some ⟨g, 0, none⟩) (ts.length + 1) cap)).heap[x]? = w4.heap[x]? := fun x hx => Below.heap_setCell w4 ⟨b, 2, none⟩ _ x (by show x ≠ b; omega)
    refine RTerms.snoc ?_ ?_
    · refine ht.keep fun x hx hl => ?_
      have hne : some x ≠ tv.ownBlock := fun e => by have := htv x e.symm; omega
      refine ⟨⟨by omega, fun e => ?_⟩, (hset x (by omega)).trans (at_ x hl hne)⟩
      simp only [Value.ownBlock] at e
      injection e with e
      rcases hlies with e' | e'
      · exact hne (by rw [e', e])
      · omega
    · refine h2.keep fun x hx hl => ?_
      refine ⟨⟨hx.1, fun e => ?_⟩, (hset x hx.1).trans ((at_ x (by omega) hx.2).trans (hb.block x hl))⟩
      simp only [Value.ownBlock] at e
      injection e with e
      rcases hlies with e' | e'
      · exact hx.2 (by rw [e', e])
      · omega
  · have hbel2 : Below w.heap.size w (w2.alloc o) := (h.bel.trans (hb.mono h.bel.size)).alloc (by have := h.bel.size; omega) o
    exact (hbel2.grown hg (by have := h.bel.size; omega) (fun k e => by have := htv k e; have := h.ge; omega)).setCell (by show w.heap.size ≤ b; exact h.ge) _
/-- done: the operation with its terms -/
theorem TakesAt.done {w wr : World} {b op : Nat} {lv : Int} {tv : Value} {ts : List Tm} (h : TakesAt w wr b op lv tv ts) : RTerm wr (fun x => w.heap.size ≤ x) (.iface 161 (.agg #[.int .i64 (op : Int), .int .i64 lv, tv])) (.node op lv ts) := by
  obtain ⟨us, h1, h2⟩ := h.own
  obtain ⟨A, c, rfl, a1, a2, a3⟩ := own_reads h1
  unfold RTerm
  refine ⟨A, c, us, rfl, a1, a2, h2.length, fun j u hj => ?_, h2.keep fun x hx _ => ⟨by have := h.ge; omega, rfl⟩⟩
  obtain ⟨b', o, e, hc⟩ := a3 j u hj
  refine ⟨b', o, e, ?_, hc⟩
  have := own_lt h1 b' (by rw [e]; rfl)
  have := h.ge
  omega
theorem at_blk {w : World} {b : Nat} {cs : Array Value} {t : TypeId} (h : w.heap[b]? = some (.cells cs t (0, 0))) (i : Nat) : w.cell? ⟨b, i, none⟩ = cs[i]? := by simp [World.cell?, h]
theorem at_free {w : World} {b : Nat} {cs : Array Value} {t : TypeId} (h : w.heap[b]? = some (.cells cs t (0, 0))) (i : Nat) : w.frozen? ⟨b, i, none⟩ = false := by simp [World.frozen?, h]

/-- wherever rv reads as r, bv reads as b -/
def SufOf (rv bv : Value) (r b : List Int) : Prop := (∃ A c, bv = .slice A b.length c) ∧ ∀ w' : World, RInts w' rv r → RInts w' bv b
theorem SufOf.refl {w : World} {rv : Value} {r : List Int} (h : RInts w rv r) : SufOf rv rv r r := by
  obtain ⟨A, c, e, -⟩ := h.form; exact ⟨⟨A, c, e⟩, fun _ h => h⟩
theorem SufOf.trans {a b c : Value} {x y z : List Int} (h : SufOf a b x y) (k : SufOf b c y z) : SufOf a c x z := ⟨k.1, fun w' hw => k.2 w' (h.2 w' hw)⟩
/-- 'row[1:]' -/
theorem SufOf.tail {b o c : Nat} {n : Int} {rest : List Int} {A : Option Addr} (hA : A = some ⟨b, o + 1, none⟩ ∨ c - 1 = 0) : SufOf (.slice (some ⟨b, o, none⟩) (n :: rest).length c) (.slice A rest.length (c - 1)) (n :: rest) rest := by
  refine ⟨⟨_, _, rfl⟩, fun w' h => ?_⟩
  obtain ⟨A', c', e, h1, h2, h3⟩ := h
  cases e
  simp only [List.length_cons] at h1
  refine ⟨A, c - 1, rfl, by omega, by omega, fun j x hj => ?_⟩
  obtain ⟨b', o', e, hc⟩ := h3 (j + 1) x (by simpa using hj)
  cases e
  have hjl := (List.getElem?_eq_some_iff.1 hj).1
  rcases hA with rfl | h0
  · exact ⟨b, o + 1, rfl, by rw [← hc]; congr 2; omega⟩
  · omega
end

section
open Go.RowKit
set_option linter.unusedVariables false

theorem three_cells (w : World) (a b c : Value) (t : TypeId) : (w.alloc (.cells #[a, b, c] t)).cell? ⟨w.heap.size, 0, none⟩ = some a ∧ (w.alloc (.cells #[a, b, c] t)).cell? ⟨w.heap.size, 1, none⟩ = some b ∧ (w.alloc (.cells #[a, b, c] t)).cell? ⟨w.heap.size, 2, none⟩ = some c := by
  refine ⟨?_, ?_, ?_⟩ <;> (rw [World.cell?_alloc_at _ _ _ _ rfl]; rfl)
theorem m_letterSort (k of : Int) (w : World) : (method 283 158 (.agg #[.int .i64 k, .int .i64 of]) "loop.example/theorymodules/impl.sort").run Try.prog w = .ok (151, .agg #[.int .i64 k, .int .i64 of]) w := by kernel_rfl
theorem m_opSort (op lv : Int) (A : Option Addr) (n c : Nat) (w : World) : (method 283 161 (.agg #[.int .i64 op, .int .i64 lv, .slice A n c]) "loop.example/theorymodules/impl.sort").run Try.prog w = .ok (154, .agg #[.int .i64 op, .int .i64 lv, .slice A n c]) w := by kernel_rfl
theorem letterSort_any (k of : Int) (w : World) :
    Calls Try.prog 151 #[.agg #[.int .i64 k, .int .i64 of]] w fun e w' => e = .returned (.int .i64 of) ∧ Below w.heap.size w w' := by
  have hx := (box_cells w (.int .i64 k) (.int .i64 of) 158).2
  go_enter Try.func151, Try.ntmps151
  go_wp2
  go_ret
  exact ⟨rfl, below_alloc _ _⟩
theorem opSort_any (op lv : Int) (x : Value) (w : World) (hx : ∃ A n c, x = .slice A n c) :
    Calls Try.prog 154 #[.agg #[.int .i64 op, .int .i64 lv, x]] w fun e w' => e = .returned (.int .i64 lv) ∧ Below w.heap.size w w' := by
  obtain ⟨A, n, c, rfl⟩ := hx
  have hx := (three_cells w (.int .i64 op) (.int .i64 lv) (.slice A n c) 161).2.1
  go_enter Try.func154, Try.ntmps154
  go_wp2
  go_ret
  exact ⟨rfl, below_alloc _ _⟩

/-- the method of a term's value that tells its sort -/
theorem RTerm.sorts {w : World} {M : Nat → Prop} {v : Value} {t : Tm} (h : RTerm w M v t) : ∃ (T : TypeId) (x : Value) (fid : FuncId), v = .iface T x ∧ (∀ w' : World, (method 283 T x "loop.example/theorymodules/impl.sort").run Try.prog w' = .ok (fid, x) w') ∧ (∀ w' : World, (callFunc fid #[x]).run Try.prog w' = .ok (.enter fid #[x]) w') ∧
    ∀ w' : World, Calls Try.prog fid #[x] w' fun e w'' => e = .returned (.int .i64 t.sort) ∧ Below w'.heap.size w' w'' := by
  rcases h.form with ⟨k, of, rfl, e⟩ | ⟨op, lv, A, n, c, rfl, e⟩
  · exact ⟨_, _, _, rfl, fun w' => m_letterSort k of w', fun w' => by kernel_rfl, fun w' => by rw [e]; exact letterSort_any k of w'⟩
  · exact ⟨_, _, _, rfl, fun w' => m_opSort op lv A n c w', fun w' => by kernel_rfl, fun w' => by rw [e]; exact opSort_any op lv _ w' ⟨A, n, c, rfl⟩⟩

def ReadPost (rv : Value) (r : List Int) (res : Option (Tm × List Int)) (w : World) (e : Ending) (w' : World) : Prop :=
  (match res with
    | some (tm, b) => ∃ u bv, e = .returned (.tuple #[u, bv, .bool true]) ∧ RTerm w' (fun x => w.heap.size ≤ x) u tm ∧ SufOf rv bv r b
    | none => e = .returned (.tuple #[.nilIface, .slice none 0 0, .bool false])) ∧ Below w.heap.size w w'
def nodeM (s : MSig) (vars : List Int) (f op : Nat) (r : List Int) : Option (Tm × List Int) :=
  match argsM (firstM s vars f) (opRow s op).dropLast r with
  | none => none
  | some (ts, b) => some (.node op ((opRow s op).getLastD (-1)) ts, b)
def FirstAt (s : MSig) (vars : List Int) (f : Nat) : Prop := ∀ (r : List Int) (w : World) (v vv rv : Value), r.length ≤ f → Small r → RSig w v s → RInts w vv vars → RInts w rv r →
  Calls Try.prog 124 #[v, vv, rv] w (ReadPost rv r (firstM s vars f r) w)
theorem args_small {s : MSig} {vars : List Int} {f : Nat} {ss r : List Int} {ts : List Tm} {b : List Int} (h : argsM (firstM s vars f) ss r = some (ts, b)) (hs : Small r) : Small b := by
  obtain ⟨h1, h2⟩ := argsM_sound (firstM_sound f) _ _ _ _ h
  intro x hx
  exact hs x (by rw [h1]; exact List.mem_append_right _ hx)
theorem args_shorter {s : MSig} {vars : List Int} {f : Nat} {ss r : List Int} {ts : List Tm} {b : List Int} (h : argsM (firstM s vars f) ss r = some (ts, b)) : b.length ≤ r.length ∧ ts.length = ss.length := by
  obtain ⟨h1, h2⟩ := argsM_sound (firstM_sound f) _ _ _ _ h
  refine ⟨by rw [h1]; simp, ?_⟩
  clear h h1
  induction ts generalizing ss with
  | nil => unfold wfTs at h2; subst h2; rfl
  | cons t ts ih => unfold wfTs at h2; obtain ⟨x, ss', rfl, -, -, h4⟩ := h2; simp [ih h4]

set_option maxHeartbeats 800000 in
set_option maxRecDepth 100000 in
theorem opWithTerms_any (s : MSig) (vars : List Int) (hv : varsB s vars = true) (f : Nat) (ih : FirstAt s vars f) (op : Nat) (hop : op < s.ops.length) (r : List Int) (w : World) (v vv rv : Value) (hr : r.length ≤ f) (hsm : Small r)
    (h1 : RSig w v s) (h2 : RInts w vv vars) (h3 : RInts w rv r) :
    Calls Try.prog 131 #[v, vv, .int .i64 (op : Int), rv] w (ReadPost rv r (nodeM s vars f op r) w) := by
  obtain ⟨i0, hi0, hz0, hz1, hz2⟩ := info_parts (show (Try.prog.info? 136).map (fun i => (i.zero, i.size, i.bytes)) = some (some .nilIface, 1, 16) by kernel_rfl)
  obtain ⟨u, rfl, hrr⟩ := h1
  obtain ⟨sorts, ops⟩ := s
  simp only at hop
  have hrow := opRow_valid (vars_valid hv).1 (k := op) hop
  rw [opRow_at hop] at hrow
  simp only at hrow
  have hN : nodeM ⟨sorts, ops⟩ vars f op r = (match argsM (firstM ⟨sorts, ops⟩ vars f) ops[op].dropLast r with
    | none => none
    | some (ts, b) => some (.node op (ops[op].getLastD (-1)) ts, b)) := by
    unfold nodeM; rw [opRow_at hop]
  have hn := hrr.len
  obtain ⟨A, c, rfl, -⟩ := hrr.form
  have hb1 := below_alloc w (.cells #[.int .i64 sorts, .slice A ops.length c] 33)
  have hbx := box_cells w (.int .i64 sorts) (.slice A ops.length c) 33
  obtain ⟨b, o, c', u', e, hcell, hri⟩ := (hrr.keep hb1).at_ hop
  cases e
  have hHS := Lib.hid (show RSig (w.alloc (.cells #[.int .i64 sorts, .slice (some ⟨b, o, none⟩) ops.length c] 33)) (.agg #[.int .i64 sorts, .slice (some ⟨b, o, none⟩) ops.length c]) ⟨sorts, ops⟩ from ⟨_, rfl, hrr.keep hb1⟩)
  generalize ops[op] = row at hcell hri hrow hN
  have hr1 := hrow.1
  have hr3 := hrow.2.1
  rw [last_at (by omega)] at hN
  obtain ⟨b', o', c3, rfl, hx⟩ := hri.at_ (k := row.length - 1) (by omega)
  generalize row[row.length - 1]'(by omega) = lv at hx hN
  have HN := Lib.hid hN
  have HRI := Lib.hid hri
  have HB1 := Lib.hid hb1
  have HV2 := Lib.hid (h2.keep hb1)
  have HV3 := Lib.hid (h3.keep hb1)
  obtain ⟨A2, c2, rfl, -⟩ := h2.form
  obtain ⟨A3, c4, rfl, -⟩ := h3.form
  have f0 := hbx.1
  have f1 := hbx.2
  have HIH := Lib.hid ih
  have HSM := Lib.hid hsm
  clear hN hri hb1 h2 h3 hrr hbx hrow ih hv hsm
  obtain ⟨n, hnl⟩ : ∃ n, row.length = n + 1 := ⟨row.length - 1, by omega⟩
  rw [show row.length - 1 = n by omega] at hx
  rw [hnl] at hcell
  have HC3 : Hid (n + 1 ≤ c3) := by obtain ⟨A', c', e, q1, q2⟩ := HRI.out.form; cases e; unfold Hid; omega
  have hb2 := below_alloc (w.alloc (.cells #[.int .i64 sorts, .slice (some ⟨b, o, none⟩) ops.length c] 33)) (.cells #[.int .i64 (op : Int), .int .i64 lv, .slice none 0 0] 161)
  have g0 := cell_keep hb2 f0
  have g1 := cell_keep hb2 f1
  have g2 := cell_keep hb2 hcell
  have HB2 := Lib.hid hb2
  clear hb2
  have hc3 : (n : Int) ≤ (c3 : Int) := by have := HC3.out; omega
  have hc3' : n ≤ c3 := by have := HC3.out; omega
  have hst := TakesAt.start (w := w) (op := op) (lv := lv) (wr := (w.alloc (.cells #[.int .i64 sorts, .slice (some ⟨b, o, none⟩) ops.length c] 33)).alloc (.cells #[.int .i64 (op : Int), .int .i64 lv, .slice none 0 0] 161)) (b := w.heap.size + 1)
    ((congrArg (fun i => ((w.alloc (.cells #[.int .i64 sorts, .slice (some ⟨b, o, none⟩) ops.length c] 33)).alloc (.cells #[.int .i64 (op : Int), .int .i64 lv, .slice none 0 0] 161)).heap[i]?) (by simp)).trans (heap_alloc_new (w.alloc (.cells #[.int .i64 sorts, .slice (some ⟨b, o, none⟩) ops.length c] 33)) _)) (HB1.out.trans (HB2.out.mono (by simp))) (by omega)
  have HST := Lib.hid hst
  have HF := Lib.hid (And.intro f0 (And.intro f1 hcell))
  clear hst
  go_enter Try.func131, Try.ntmps131
  go_wp2
  clear f0 f1 hcell g0 g1 g2 hx
  go_loopw [3, 14, 15, 16, 17, 43] (fun r3 s14 t15 b16 k17 i43 wr => ∃ (k : Nat) (tv : Value) (ts : List Tm) (rk : List Int), k ≤ n ∧ i43 = .int .i64 k ∧ SufOf (.slice A3 r.length c4) r3 r rk ∧ argsM (firstM ⟨sorts, ops⟩ vars f) (row.dropLast.take k) r = some (ts, rk) ∧ TakesAt w wr (w.heap.size + 1) op lv tv ts ∧ Below (w.heap.size + 1) (w.alloc (.cells #[.int .i64 sorts, .slice (some ⟨b, o, none⟩) ops.length c] 33)) wr) (fun _ _ _ _ _ i _ => n - (intOf i).toNat)
  case atStart => exact ⟨0, _, [], r, Nat.zero_le _, rfl, SufOf.refl HV3.out, rfl, HST.out, HB2.out.mono (by simp)⟩
  case round =>
    obtain ⟨k, tv, ts, rk, hk, rfl, hrk, harg, htk, hbw⟩ := hrel
    have hbw' : Below (w.alloc (.cells #[.int .i64 sorts, .slice (some ⟨b, o, none⟩) ops.length c] 33)).heap.size (w.alloc (.cells #[.int .i64 sorts, .slice (some ⟨b, o, none⟩) ops.length c] 33)) wr := by simpa using hbw
    have f0 := cell_keep hbw' HF.out.1
    have f1 := cell_keep hbw' HF.out.2.1
    have HBW := Lib.hid hbw'
    have HARG := Lib.hid harg
    have HTK := Lib.hid htk
    have HSUF := Lib.hid hrk
    have HRK := Lib.hid (hrk.2 _ (HV3.out.keep hbw'))
    obtain ⟨A5, c5, rfl⟩ := hrk.1
    have hkl := (args_shorter harg).2
    rw [List.length_take, List.length_dropLast] at hkl
    have HKL := Lib.hid (show ts.length = k by omega)
    have hwsz := htk.bel.size
    clear hbw hbw' harg htk hrk HST hkl
    by_cases hlt : k < n
    · obtain ⟨b2, o2, c6, e, hx⟩ := (HRI.out.keep HBW.out).at_ (k := k) (by omega)
      cases e
      have hstep := argsM_step (ss := row.dropLast) (by rw [List.length_dropLast]; omega) HARG.out
      rw [List.getElem_dropLast] at hstep
      generalize row[k]'(by omega) = x at hx hstep
      have HSTEP := Lib.hid hstep
      clear hstep
      have hlt' : (k : Int) < (n : Int) := by omega
      go_wp2_with fail
      refine (HIH.out rk _ _ _ _ (Nat.le_trans (args_shorter HARG.out).1 hr) (args_small HARG.out HSM.out) (hHS.out.keep HBW.out) (HV2.out.keep HBW.out) HRK.out).mono ?_
      rintro e w2 ⟨hm, hb⟩
      have HB := Lib.hid hb
      clear hb
      cases hf : firstM ⟨sorts, ops⟩ vars f rk with
      | none =>
        rw [hf] at hm
        simp only at hm
        subst hm
        have HFN := Lib.hid hf
        clear hf
        go_wp2
        refine bodyPost_ret (v := .tuple #[.nilIface, .slice none 0 0, .bool false]) (by simp [results, Try.results131, go_sem]) rfl ?_
        have h := HSTEP.out
        rw [HFN.out] at h
        rw [HN.out, argsM_take_none h]
        exact ⟨rfl, HTK.out.bel.trans (HB.out.mono HTK.out.bel.size)⟩
      | some q =>
        obtain ⟨t, rb⟩ := q
        rw [hf] at hm
        simp only at hm
        obtain ⟨u, bv, rfl, hu, hbv⟩ := hm
        have HFS := Lib.hid hf
        have HU := Lib.hid hu
        have HBV := Lib.hid hbv
        obtain ⟨A6, c7, rfl⟩ := hbv.1
        clear hf hbv
        obtain ⟨T, y, fid, rfl, hms, hcf, hsc⟩ := hu.sorts
        have HSC := Lib.hid hsc
        clear hu hsc
        go_wp2_with fail
        refine (HSC.out _).mono ?_
        rintro e w3 ⟨rfl, hb3⟩
        have HB3 := Lib.hid (HB.out.trans (hb3.mono HB.out.size))
        have HU3 := Lib.hid (HU.out.below hb3)
        have f03 := cell_keep HB3.out f0
        have f13 := cell_keep HB3.out f1
        clear hb3 hms hcf HSC f0 f1 hx
        by_cases hts : t.sort = x
        · subst hts
          have h := HSTEP.out
          rw [HFS.out] at h
          simp only [if_true] at h
          have HNEXT := Lib.hid h
          clear h
          obtain ⟨us, hus, hrt⟩ := HTK.out.own
          obtain ⟨A9, c9, rfl, -⟩ := own_reads hus
          have HOWN := Lib.hid hus
          have HRT := Lib.hid hrt
          have hbox := (HB3.out.block _ (Array.getElem?_eq_some_iff.1 HTK.out.box).1).trans HTK.out.box
          have e2 := at_blk hbox 2
          simp at e2
          have hown3 := (own_keep HOWN.out HB3.out).alloc (.cells #[.iface T y] 136)
          rw [HKL.out] at hown3 e2
          have e3 := at_free hbox 2
          have f3 : (w3.alloc (.cells #[.iface T y] 136)).cell? ⟨w3.heap.size, 0, none⟩ = some (.iface T y) := by
            rw [World.cell?_alloc_at _ _ _ _ rfl]; rfl
          have hsz3 := HB3.out.size
          have hbl2 := (Array.getElem?_eq_some_iff.1 HTK.out.box).1
          clear hus hrt hbox
          go_wp2_with (at_builtin; refine wpList_append_lies _ rfl _ _ 159 rfl (w.heap.size + 1 + 1) 136 i0 .nilIface 1 16 Try.underlying159 hi0 hz0 hz1 hz2 rfl (by decide) _ _ _ rfl hown3 ⟨w3.heap.size, 0, none⟩ 1 1 [.iface T y] rfl rfl ?c1 ?c2 (by decide) ?c3 ?c4 ?c5 _ rfl ?_)
          case c1 => intro j u hj; match j, hj with | 0, hj => simp at hj; subst hj; simp [Addr.add]
          case c2 => intro u hu; simp at hu; subst hu; rfl
          case c3 => rw [maxLen_eq]; omega
          case c4 => omega
          case c5 => simp; omega
          intro g cap w4 hown4 hgrow4 hlies hlt4
          rw [← HKL.out] at hown4 hgrow4 hlies
          obtain ⟨hbox4, hnext⟩ := HTK.out.push HB3.out (HU3.out.keep fun x hx hl => ⟨by have := HB.out.size; omega, rfl⟩) HOWN.out HRT.out hown4 hgrow4 (by simpa using hlies)
          rw [HKL.out] at hbox4
          have hbel4 := Lib.hid (((((HBW.out.mono (show w.heap.size + 1 ≤ _ by simp)).trans (HB3.out.mono (by omega))).alloc (by omega) (.cells #[.iface T y] 136)).grown hgrow4 (by simp; omega) (fun k e => by have := own_lt HOWN.out k e; omega)).setCell (p := ⟨w.heap.size + 1, 2, none⟩) (Nat.le_refl _) (.slice (some ⟨g, 0, none⟩) (ts.length + 1) cap))
          have HNX := Lib.hid hnext
          have e4 := at_blk hbox4 2
          have e5 := at_free hbox4 2
          simp at e4
          clear hbox4 hnext hown4 hgrow4 hlies hown3 f3 e2 e3 f03 f13
          rw [HKL.out] at hbel4 HNX
          go_wp2
          go_roundw
          case rel => exact ⟨k + 1, _, ts ++ [t], rb, by omega, by go_num, HSUF.out.trans HBV.out, HNEXT.out, HNX.out, hbel4.out⟩
          case measure => simp [intOf]; omega
        · have h := HSTEP.out
          rw [HFS.out] at h
          simp only [if_neg hts] at h
          have HNONE := Lib.hid (argsM_take_none h)
          clear h
          generalize t.sort = q at hts ⊢
          go_wp2
          refine bodyPost_ret (v := .tuple #[.nilIface, .slice none 0 0, .bool false]) (by simp [results, Try.results131, go_sem]) rfl ?_
          rw [HN.out, HNONE.out]
          exact ⟨rfl, HTK.out.bel.trans (HB3.out.mono hwsz)⟩
    · have hkn : k = n := by omega
      have h := HARG.out
      rw [take_all (by rw [List.length_dropLast]; omega)] at h
      have HARG2 := Lib.hid h
      have hbox := HTK.out.box
      have e0 := at_blk hbox 0
      have e1 := at_blk hbox 1
      have e2 := at_blk hbox 2
      simp at e0 e1 e2
      clear h hbox
      go_wp2
      refine bodyPost_ret (v := .tuple #[.iface 161 (.agg #[.int .i64 (op : Int), .int .i64 lv, tv]), .slice A5 rk.length c5, .bool true]) (by simp [results, Try.results131, go_sem]) rfl ?_
      rw [HN.out, HARG2.out]
      exact ⟨⟨_, _, rfl, HTK.out.done, HSUF.out⟩, HTK.out.bel⟩
end

section
open Go.RowKit
set_option linter.unusedVariables false

theorem firstM_op {s : MSig} {vars : List Int} {f : Nat} {n : Int} {rest : List Int} (h : 0 ≤ n ∧ n < s.ops.length) : firstM s vars (f + 1) (n :: rest) = nodeM s vars f n.toNat rest := by
  simp only [firstM, nodeM]; rw [if_pos h]; rfl
theorem firstM_bad {s : MSig} {vars : List Int} {f : Nat} {n : Int} {rest : List Int} (h : ¬ (0 ≤ n ∧ n < s.ops.length)) (h2 : ¬ (100 ≤ n ∧ n < 100 + vars.length)) : firstM s vars (f + 1) (n :: rest) = none := by
  simp only [firstM]; rw [if_neg h, if_neg h2]
theorem firstM_letter {s : MSig} {vars : List Int} {f : Nat} {n : Int} {rest : List Int} (h : ¬ (0 ≤ n ∧ n < s.ops.length)) (h2 : 100 ≤ n ∧ n < 100 + vars.length) : firstM s vars (f + 1) (n :: rest) = some (.leaf (n - 100).toNat (vars.getD (n - 100).toNat 0), rest) := by
  simp only [firstM]; rw [if_neg h, if_pos h2]
theorem firstM_nil {s : MSig} {vars : List Int} {f : Nat} : firstM s vars f [] = none := by cases f <;> rfl

theorem tail_addr {c : Nat} {x y : Addr} {A : Option Addr} (h : (if c = 1 then some x else some y) = A) : A = some y ∨ c - 1 = 0 := by
  by_cases hc : c = 1
  · right; omega
  · left; rw [← h, if_neg hc]

set_option maxRecDepth 100000 in
theorem first_empty (s : MSig) (vars : List Int) (f : Nat) (w : World) (v vv rv : Value) (h1 : RSig w v s) (h2 : RInts w vv vars) (h3 : RInts w rv []) :
    Calls Try.prog 124 #[v, vv, rv] w (ReadPost rv [] (firstM s vars f []) w) := by
  obtain ⟨u, rfl, hrr⟩ := h1
  obtain ⟨sorts, ops⟩ := s
  obtain ⟨A, c, rfl, -⟩ := hrr.form
  obtain ⟨A2, c2, rfl, -⟩ := h2.form
  obtain ⟨A3, c4, rfl, -⟩ := h3.form
  rw [firstM_nil]
  have HB := Lib.hid (below_alloc w (.cells #[.int .i64 sorts, .slice A ops.length c] 33))
  clear hrr h2 h3
  go_enter Try.func124, Try.ntmps124
  go_wp2
  refine bodyPost_ret (v := .tuple #[.nilIface, .slice none 0 0, .bool false]) (by simp [results, Try.results124, go_sem]) rfl ?_
  exact ⟨rfl, HB.out⟩

set_option maxHeartbeats 800000 in
set_option maxRecDepth 100000 in
theorem first_step (s : MSig) (vars : List Int) (hv : varsB s vars = true) (f : Nat) (ih : FirstAt s vars f) (n : Int) (rest : List Int) (w : World) (v vv rv : Value) (hr : rest.length ≤ f) (hsm : Small (n :: rest)) (h1 : RSig w v s) (h2 : RInts w vv vars) (h3 : RInts w rv (n :: rest)) :
    Calls Try.prog 124 #[v, vv, rv] w (ReadPost rv (n :: rest) (firstM s vars (f + 1) (n :: rest)) w) := by
  obtain ⟨u, rfl, hrr⟩ := h1
  obtain ⟨sorts, ops⟩ := s
  have hnb : n ≤ 9223372036854775807 := hsm n (List.mem_cons_self ..)
  have HSM := Lib.hid hsm
  clear hsm
  have hops := (valid_sorts (vars_valid hv).1).2.2
  have hvl := (vars_valid hv).2.1
  simp only at hops
  obtain ⟨A, c, rfl, -⟩ := hrr.form
  have hb1 := below_alloc w (.cells #[.int .i64 sorts, .slice A ops.length c] 33)
  have hbx := box_cells w (.int .i64 sorts) (.slice A ops.length c) 33
  have HS := Lib.hid (show RSig (w.alloc (.cells #[.int .i64 sorts, .slice A ops.length c] 33)) (.agg #[.int .i64 sorts, .slice A ops.length c]) ⟨sorts, ops⟩ from ⟨_, rfl, hrr.keep hb1⟩)
  have HV2 := Lib.hid (h2.keep hb1)
  have HV3 := Lib.hid (h3.keep hb1)
  have hlen3 := h3.len
  obtain ⟨b, o, c4, rfl, hx⟩ := (h3.keep hb1).at_ (k := 0) (by simp)
  obtain ⟨A', c4', e, hcl, hcm⟩ := h3.form
  cases e
  simp only [List.length_cons, List.getElem_cons_zero, Nat.add_zero] at hx hcl hlen3
  obtain ⟨A2, c2, rfl, -⟩ := h2.form
  have HB1 := Lib.hid hb1
  have f0 := hbx.1
  have f1 := hbx.2
  have hz : ((rest.length : Int) + 1 == 0) = false := by rw [beq_eq_false_iff_ne]; omega
  simp only [List.length_cons]
  by_cases c0 : n < 0
  · have HN := Lib.hid (firstM_bad (s := ⟨sorts, ops⟩) (vars := vars) (f := f) (rest := rest) (n := n) (by simp only; omega) (by omega))
    clear h2 h3 hrr hb1 hbx
    go_enter Try.func124, Try.ntmps124
    go_wp2
    refine bodyPost_ret (v := .tuple #[.nilIface, .slice none 0 0, .bool false]) (by simp [results, Try.results124, go_sem]) rfl ?_
    rw [HN.out]
    exact ⟨rfl, HB1.out⟩
  clear hb1 hbx hrr h3
  by_cases c1 : n < (ops.length : Int)
  · have HN := Lib.hid (firstM_op (s := ⟨sorts, ops⟩) (vars := vars) (f := f) (rest := rest) (n := n) ⟨by omega, c1⟩)
    clear h2
    obtain ⟨k, rfl⟩ := Int.eq_ofNat_of_zero_le (show 0 ≤ n by omega)
    go_enter Try.func124, Try.ntmps124
    go_wp2_with fail
    have hcc : (1 : Int) ≤ (c4 : Int) := by omega
    go_quiet (fail)
    generalize hA5 : (if c4 = 1 then (some (⟨b, o, none⟩ : Addr)) else some ⟨b, o + 1, none⟩) = A5
    have HSUF := Lib.hid (SufOf.tail (b := b) (o := o) (c := c4) (n := (k : Int)) (rest := rest) (A := A5) (tail_addr hA5))
    clear hA5
    go_wp2_with fail
    have HR5 := Lib.hid (HSUF.out.2 _ HV3.out)
    have hbq := below_drewN (Below.refl (w.alloc (.cells #[.int .i64 sorts, .slice A ops.length c] 33)).heap.size (w.alloc (.cells #[.int .i64 sorts, .slice A ops.length c] 33))) nq
    refine (opWithTerms_any ⟨sorts, ops⟩ vars hv f ih k (by simp only; omega) rest _ _ _ _ hr (fun x hx => HSM.out x (List.mem_cons_of_mem _ hx)) (HS.out.keep hbq) (HV2.out.keep hbq) (HR5.out.keep hbq)).mono ?_
    rintro e w2 ⟨hm, hb⟩
    have HBF := Lib.hid (HB1.out.trans ((below_drewN (Below.refl _ _) nq).trans hb |>.mono (by simp)))
    cases hf : nodeM ⟨sorts, ops⟩ vars f k rest with
    | none =>
      rw [hf] at hm
      simp only at hm
      subst hm
      have HFN := Lib.hid hf
      clear hf hb hbq
      go_wp2
      refine bodyPost_ret (v := .tuple #[.nilIface, .slice none 0 0, .bool false]) (by simp [results, Try.results124, go_sem]) rfl ?_
      rw [HN.out, Int.toNat_natCast, HFN.out]
      exact ⟨rfl, HBF.out⟩
    | some q =>
      obtain ⟨t, rb⟩ := q
      rw [hf] at hm
      simp only at hm
      obtain ⟨u, bv, rfl, hu, hbv⟩ := hm
      have HFS := Lib.hid hf
      have HU := Lib.hid hu
      have HBV := Lib.hid hbv
      obtain ⟨T, y, fid, rfl, -⟩ := hu.sorts
      obtain ⟨A6, c7, rfl⟩ := hbv.1
      clear hf hbv hb hbq hu
      go_wp2
      refine bodyPost_ret (v := .tuple #[.iface T y, .slice A6 rb.length c7, .bool true]) (by simp [results, Try.results124, go_sem]) rfl ?_
      rw [HN.out, Int.toNat_natCast, HFS.out]
      exact ⟨⟨_, _, rfl, HU.out.keep fun x hx _ => ⟨by simp at hx; omega, rfl⟩, HSUF.out.trans HBV.out⟩, HBF.out⟩
  · by_cases c2 : 100 ≤ n ∧ n < 100 + (vars.length : Int)
    · have HN := Lib.hid (firstM_letter (s := ⟨sorts, ops⟩) (vars := vars) (f := f) (rest := rest) (n := n) (by simp only; omega) c2)
      obtain ⟨k, rfl⟩ : ∃ k : Nat, n = 100 + (k : Int) := ⟨(n - 100).toNat, by omega⟩
      obtain ⟨hv2, hv3⟩ := c2
      have hk : k < vars.length := by omega
      obtain ⟨b6, o6, c6, e, hy⟩ := HV2.out.at_ hk
      cases e
      rw [show ((100 : Int) + (k : Int) - 100).toNat = k by omega, getD_at _ hk] at HN
      generalize vars[k] = y at hy HN
      go_enter Try.func124, Try.ntmps124
      go_wp2_with fail
      have hcc : (1 : Int) ≤ (c4 : Int) := by omega
      go_quiet (fail)
      generalize hA5 : (if c4 = 1 then (some (⟨b, o, none⟩ : Addr)) else some ⟨b, o + 1, none⟩) = A5
      have HSUF := Lib.hid (SufOf.tail (b := b) (o := o) (c := c4) (n := 100 + (k : Int)) (rest := rest) (A := A5) (tail_addr hA5))
      clear hA5
      have HBF := Lib.hid (below_drewN HB1.out nq)
      go_wp2
      refine bodyPost_ret (v := .tuple #[.iface 158 (.agg #[.int .i64 (100 + (k : Int) - 100), .int .i64 y]), .slice A5 rest.length (c4 - 1), .bool true]) (by simp [results, Try.results124, go_sem]) rfl ?_
      rw [HN.out]
      exact ⟨⟨_, _, rfl, by unfold RTerm; rw [show (100 : Int) + (k : Int) - 100 = (k : Int) by omega], HSUF.out⟩, HBF.out⟩
    · have HN := Lib.hid (firstM_bad (s := ⟨sorts, ops⟩) (vars := vars) (f := f) (rest := rest) (n := n) (by simp only; omega) c2)
      by_cases c3 : n < 100
      · go_enter Try.func124, Try.ntmps124
        go_wp2_with fail
        have hcc : (1 : Int) ≤ (c4 : Int) := by omega
        go_quiet (fail)
        generalize hA5 : (if c4 = 1 then (some (⟨b, o, none⟩ : Addr)) else some ⟨b, o + 1, none⟩) = A5
        clear hA5
        have HBF := Lib.hid (below_drewN HB1.out nq)
        go_wp2
        refine bodyPost_ret (v := .tuple #[.nilIface, .slice none 0 0, .bool false]) (by simp [results, Try.results124, go_sem]) rfl ?_
        rw [HN.out]
        exact ⟨rfl, HBF.out⟩
      · obtain ⟨k, rfl⟩ : ∃ k : Nat, n = 100 + (k : Int) := ⟨(n - 100).toNat, by omega⟩
        have hk : (vars.length : Int) ≤ 100 + (k : Int) - 100 := by omega
        go_enter Try.func124, Try.ntmps124
        go_wp2_with fail
        have hcc : (1 : Int) ≤ (c4 : Int) := by omega
        go_quiet (fail)
        generalize hA5 : (if c4 = 1 then (some (⟨b, o, none⟩ : Addr)) else some ⟨b, o + 1, none⟩) = A5
        clear hA5
        have HBF := Lib.hid (below_drewN HB1.out nq)
        go_wp2
        refine bodyPost_ret (v := .tuple #[.nilIface, .slice none 0 0, .bool false]) (by simp [results, Try.results124, go_sem]) rfl ?_
        rw [HN.out]
        exact ⟨rfl, HBF.out⟩

theorem first_any (s : MSig) (vars : List Int) (hv : varsB s vars = true) : ∀ f, FirstAt s vars f := by
  intro f
  induction f with
  | zero =>
    intro r w v vv rv hr hsm h1 h2 h3
    obtain rfl := List.eq_nil_of_length_eq_zero (Nat.le_zero.1 hr)
    exact first_empty s vars 0 w v vv rv h1 h2 h3
  | succ f ih =>
    intro r w v vv rv hr hsm h1 h2 h3
    cases r with
    | nil => exact first_empty s vars _ w v vv rv h1 h2 h3
    | cons n rest => exact first_step s vars hv f ih n rest w v vv rv (by simpa using hr) hsm h1 h2 h3

def TermPost (res : Option Tm) (w : World) (e : Ending) (w' : World) : Prop :=
  (match res with
    | some tm => ∃ u, e = .returned (.tuple #[u, .bool true]) ∧ RTerm w' (fun x => w.heap.size ≤ x) u tm
    | none => e = .returned (.tuple #[.nilIface, .bool false])) ∧ Below w.heap.size w w'
theorem termM_no {s : MSig} {vars t : List Int} (h : ¬ (varsB s vars = true ∧ t.length ≤ 30)) : termM s vars t = none := by unfold termM; rw [if_neg h]
theorem termM_yes {s : MSig} {vars t : List Int} (h : varsB s vars = true) (h2 : t.length ≤ 30) : termM s vars t = match firstM s vars 30 t with
    | some (tm, []) => some tm
    | _ => none := by
  unfold termM
  rw [if_pos ⟨h, h2⟩]
  cases firstM s vars 30 t with
  | none => rfl
  | some q => obtain ⟨tm, b⟩ := q; cases b <;> rfl

set_option maxRecDepth 100000 in
theorem termOf_any (s : MSig) (vars t : List Int) (w : World) (v vv tv : Value) (hsm : Small t) (h1 : RSig w v s) (h2 : RInts w vv vars) (h3 : RInts w tv t) :
    Calls Try.prog 112 #[v, vv, tv] w (TermPost (termM s vars t) w) := by
  obtain ⟨u, rfl, hrr⟩ := h1
  obtain ⟨sorts, ops⟩ := s
  obtain ⟨A, c, rfl, -⟩ := hrr.form
  have hb1 := below_alloc w (.cells #[.int .i64 sorts, .slice A ops.length c] 33)
  have hbx := Lib.hid (box_cells w (.int .i64 sorts) (.slice A ops.length c) 33)
  have HS := Lib.hid (show RSig (w.alloc (.cells #[.int .i64 sorts, .slice A ops.length c] 33)) (.agg #[.int .i64 sorts, .slice A ops.length c]) ⟨sorts, ops⟩ from ⟨_, rfl, hrr.keep hb1⟩)
  have HV2 := Lib.hid (h2.keep hb1)
  have HV3 := Lib.hid (h3.keep hb1)
  have hlen := h3.len
  obtain ⟨A2, c2, rfl, -⟩ := h2.form
  obtain ⟨A3, c3, rfl, -⟩ := h3.form
  have HB1 := Lib.hid hb1
  clear hrr h2 h3 hb1
  cases hv : varsB ⟨sorts, ops⟩ vars with
  | false =>
    have HN := Lib.hid (termM_no (s := ⟨sorts, ops⟩) (vars := vars) (t := t) (by rw [hv]; simp))
    have HV := Lib.hid hv
    clear hv
    go_enter Try.func112, Try.ntmps112
    go_wp2_with (go_at_call 111; refine (varsOk_any _ _ ⟨sorts, ops⟩ vars _ HS.out HV2.out).mono ?_; rw [HV.out]; rintro e w1 ⟨rfl, hb⟩)
    refine bodyPost_ret (v := .tuple #[.nilIface, .bool false]) (by simp [results, Try.results112, go_sem]) rfl ?_
    rw [HN.out]
    exact ⟨rfl, HB1.out.trans (hb.mono (by simp))⟩
  | true =>
    by_cases hl : 30 < (t.length : Int)
    · have HN := Lib.hid (termM_no (s := ⟨sorts, ops⟩) (vars := vars) (t := t) (by omega))
      have HV := Lib.hid hv
      clear hv
      go_enter Try.func112, Try.ntmps112
      go_wp2_with (go_at_call 111; refine (varsOk_any _ _ ⟨sorts, ops⟩ vars _ HS.out HV2.out).mono ?_; rw [HV.out]; rintro e w1 ⟨rfl, hb⟩)
      refine bodyPost_ret (v := .tuple #[.nilIface, .bool false]) (by simp [results, Try.results112, go_sem]) rfl ?_
      rw [HN.out]
      exact ⟨rfl, HB1.out.trans (hb.mono (by simp))⟩
    · have HN := Lib.hid (termM_yes hv (t := t) (by omega))
      have HV := Lib.hid hv
      clear hv
      have hl3 : (t.length : Int) ≤ 30 := by omega
      go_enter Try.func112, Try.ntmps112
      go_wp2_with (go_at_call 111; refine (varsOk_any _ _ ⟨sorts, ops⟩ vars _ HS.out HV2.out).mono ?_; rw [HV.out]; rintro e w1 ⟨rfl, hb⟩; have f0 := cell_keep hb hbx.out.1; have f1 := cell_keep hb hbx.out.2; have HB := Lib.hid hb; clear hb)
      refine (first_any ⟨sorts, ops⟩ vars HV.out 30 t _ _ _ _ (by omega) hsm (HS.out.keep HB.out) (HV2.out.keep HB.out) (HV3.out.keep HB.out)).mono ?_
      rintro e w2 ⟨hm, hb2⟩
      have s1 := HB.out.size
      simp at s1
      have HBF := Lib.hid ((HB1.out.trans (HB.out.mono (by simp))).trans (hb2.mono (by omega)))
      clear hb2 f0 f1
      cases hf : firstM ⟨sorts, ops⟩ vars 30 t with
      | none =>
        rw [hf] at hm
        simp only at hm
        subst hm
        have HF := Lib.hid hf
        clear hf
        go_wp2
        refine bodyPost_ret (v := .tuple #[.nilIface, .bool false]) (by simp [results, Try.results112, go_sem]) rfl ?_
        rw [HN.out, HF.out]
        exact ⟨rfl, HBF.out⟩
      | some q =>
        obtain ⟨tm, rb⟩ := q
        rw [hf] at hm
        simp only at hm
        obtain ⟨u, bv, rfl, hu, hbv⟩ := hm
        have HF := Lib.hid hf
        have HU := Lib.hid hu
        obtain ⟨T, y, fid, rfl, -⟩ := hu.sorts
        obtain ⟨A6, c7, rfl⟩ := hbv.1
        clear hf hbv hu
        by_cases hrb : 0 < (rb.length : Int)
        · go_wp2
          refine bodyPost_ret (v := .tuple #[.nilIface, .bool false]) (by simp [results, Try.results112, go_sem]) rfl ?_
          rw [HN.out, HF.out]
          cases rb with
          | nil => simp at hrb
          | cons x rb => exact ⟨rfl, HBF.out⟩
        · go_wp2
          refine bodyPost_ret (v := .tuple #[.iface T y, .bool true]) (by simp [results, Try.results112, go_sem]) rfl ?_
          rw [HN.out, HF.out]
          cases rb with
          | nil => exact ⟨⟨_, rfl, HU.out.keep fun x hx _ => ⟨by omega, rfl⟩⟩, HBF.out⟩
          | cons x rb => simp at hrb; omega
end

section
open Go.RowKit
set_option linter.unusedVariables false

def endV (t : List Int) : Option (Tm × List Int) → Value
  | some (tm, b) => .tuple #[.int .i64 ((t.length - b.length : Nat) : Int), .int .i64 tm.sort]
  | none => .tuple #[.int .i64 (-1), .int .i64 (-1)]
theorem endV_some (t : List Int) (tm : Tm) (b : List Int) : endV t (some (tm, b)) = .tuple #[.int .i64 ((t.length - b.length : Nat) : Int), .int .i64 tm.sort] := rfl
def EndAt (s : MSig) (vars : List Int) (f : Nat) : Prop := ∀ (t : List Int) (k : Nat) (w : World) (v vv tv : Value), (t.drop k).length ≤ f → RSig w v s → RInts w vv vars → RInts w tv t →
  Calls Try.prog 123 #[v, vv, tv, .int .i64 (k : Int)] w fun e w' => e = .returned (endV t (firstM s vars f (t.drop k))) ∧ Below w.heap.size w w'

theorem drop_rest {t x b : List Int} {e : Nat} (h : t.drop e = x ++ b) : b = t.drop (t.length - b.length) ∧ b.length ≤ t.length := by
  obtain ⟨y, rfl⟩ : ∃ y, t = y ++ b := ⟨t.take e ++ x, by rw [List.append_assoc, ← h, List.take_append_drop]⟩
  simp
theorem inB_letter {n : Int} {l : Nat} (q : Int) (hq : q = 100 + (l : Int) - 1) : inB n 100 q = decide (100 ≤ n ∧ n < 100 + (l : Int)) := by
  unfold inB; rw [← Bool.decide_and, decide_eq_decide]; omega
theorem inB_op {n : Int} {l : Nat} (q : Int) (hq : q = (l : Int) - 1) : inB n 0 q = decide (0 ≤ n ∧ n < (l : Int)) := by
  unfold inB; rw [← Bool.decide_and, decide_eq_decide]; omega

set_option maxRecDepth 100000 in
theorem end_past (s : MSig) (vars : List Int) (f : Nat) (t : List Int) (k : Nat) (w : World) (v vv tv : Value) (hk : t.length ≤ k) (h1 : RSig w v s) (h2 : RInts w vv vars) (h3 : RInts w tv t) :
    Calls Try.prog 123 #[v, vv, tv, .int .i64 (k : Int)] w fun e w' => e = .returned (endV t (firstM s vars f (t.drop k))) ∧ Below w.heap.size w w' := by
  obtain ⟨u, rfl, hrr⟩ := h1
  obtain ⟨sorts, ops⟩ := s
  obtain ⟨A, c, rfl, -⟩ := hrr.form
  obtain ⟨A2, c2, rfl, -⟩ := h2.form
  obtain ⟨A3, c4, rfl, -⟩ := h3.form
  rw [List.drop_of_length_le hk, firstM_nil]
  have HB := Lib.hid (below_alloc w (.cells #[.int .i64 sorts, .slice A ops.length c] 33))
  have hk' : (t.length : Int) ≤ (k : Int) := by omega
  clear hrr h2 h3
  go_enter Try.func123, Try.ntmps123
  go_wp2
  refine bodyPost_ret (v := .tuple #[.int .i64 (-1), .int .i64 (-1)]) (by simp [results, Try.results123, go_sem]) rfl ?_
  exact ⟨rfl, HB.out⟩

set_option maxHeartbeats 1600000 in
set_option maxRecDepth 100000 in
theorem end_step (s : MSig) (vars : List Int) (hv : varsB s vars = true) (f : Nat) (ih : EndAt s vars f) (t : List Int) (k : Nat) (w : World) (v vv tv : Value) (hk : k < t.length) (hr : (t.drop (k + 1)).length ≤ f) (h1 : RSig w v s) (h2 : RInts w vv vars) (h3 : RInts w tv t) :
    Calls Try.prog 123 #[v, vv, tv, .int .i64 (k : Int)] w fun e w' => e = .returned (endV t (firstM s vars (f + 1) (t.drop k))) ∧ Below w.heap.size w w' := by
  obtain ⟨u, rfl, hrr⟩ := h1
  obtain ⟨sorts, ops⟩ := s
  have hvs := valid_sorts (vars_valid hv).1
  have hops := hvs.2.2
  have hvl := (vars_valid hv).2.1
  simp only at hops
  obtain ⟨A, c, rfl, -⟩ := hrr.form
  have hb1 := below_alloc w (.cells #[.int .i64 sorts, .slice A ops.length c] 33)
  have hbx := box_cells w (.int .i64 sorts) (.slice A ops.length c) 33
  have HS := Lib.hid (show RSig (w.alloc (.cells #[.int .i64 sorts, .slice A ops.length c] 33)) (.agg #[.int .i64 sorts, .slice A ops.length c]) ⟨sorts, ops⟩ from ⟨_, rfl, hrr.keep hb1⟩)
  have HO := Lib.hid (hrr.keep hb1)
  have HV2 := Lib.hid (h2.keep hb1)
  have HV3 := Lib.hid (h3.keep hb1)
  have hlen3 := h3.len
  obtain ⟨b, o, c4, rfl, hx⟩ := (h3.keep hb1).at_ hk
  obtain ⟨A2, c2, rfl, -⟩ := h2.form
  rw [List.drop_eq_getElem_cons hk]
  generalize t[k] = n at hx ⊢
  have HB1 := Lib.hid hb1
  have f0 := hbx.1
  have f1 := hbx.2
  have hk' : (k : Int) < (t.length : Int) := by omega
  clear h2 h3 hrr hb1 hbx
  by_cases c1 : 100 ≤ n ∧ n < 100 + (vars.length : Int)
  · have HN := Lib.hid (firstM_letter (s := ⟨sorts, ops⟩) (vars := vars) (f := f) (rest := t.drop (k + 1)) (n := n) (by simp only; omega) c1)
    obtain ⟨m, rfl⟩ : ∃ m : Nat, n = 100 + (m : Int) := ⟨(n - 100).toNat, by omega⟩
    have hm : m < vars.length := by omega
    obtain ⟨b6, o6, c6, e, hy⟩ := HV2.out.at_ hm
    cases e
    rw [show ((100 : Int) + (m : Int) - 100).toNat = m by omega, getD_at _ hm] at HN
    generalize vars[m] = y at hy HN
    have HI := Lib.hid (show inB (100 + (m : Int)) 100 (100 + (vars.length : Int) - 1) = true by rw [inB_letter _ rfl]; simp; omega)
    go_enter Try.func123, Try.ntmps123
    go_wp2_with (go_at_call 64; refine (l1In_is _ _ _ _ _ HI.out).mono ?_; rintro e w' ⟨rfl, rfl⟩)
    have hw1 : IntKind.i64.wrap (100 + (m : Int) - 100) = (m : Int) := by rw [IntKind.wrap_i64]; omega
    have hw2 : IntKind.i64.wrap ((k : Int) + 1) = (k : Int) + 1 := by rw [IntKind.wrap_i64]; omega
    have hm0 : (0 : Int) ≤ (m : Int) := by omega
    have hm1 : (m : Int) < (vars.length : Int) := by omega
    have hk0 : (0 : Int) ≤ (k : Int) := by omega
    go_quiet (fail)
    have HBF := Lib.hid (below_drewN HB1.out nq)
    go_wp2
    refine bodyPost_ret (v := .tuple #[.int .i64 ((k : Int) + 1), .int .i64 y]) (by simp [results, Try.results123, go_sem]) rfl ?_
    rw [HN.out]
    refine ⟨?_, HBF.out⟩
    rw [endV_some, show ((t.length - (t.drop (k + 1)).length : Nat) : Int) = (k : Int) + 1 by rw [List.length_drop]; omega]
    rfl
  · have HI := Lib.hid (show inB n 100 (100 + (vars.length : Int) - 1) = false by rw [inB_letter _ rfl]; simpa using c1)
    have hk0 : (0 : Int) ≤ (k : Int) := by omega
    by_cases c2' : 0 ≤ n ∧ n < (ops.length : Int)
    · obtain ⟨op, rfl⟩ := Int.eq_ofNat_of_zero_le c2'.1
      have HJ := Lib.hid (show inB (op : Int) 0 ((ops.length : Int) - 1) = true by rw [inB_op _ rfl]; simpa using c2')
      have hop : op < ops.length := by omega
      have hrow := opRow_valid (vars_valid hv).1 (k := op) hop
      have hN : firstM ⟨sorts, ops⟩ vars (f + 1) ((op : Int) :: t.drop (k + 1)) = (match argsM (firstM ⟨sorts, ops⟩ vars f) ops[op].dropLast (t.drop (k + 1)) with
          | none => none
          | some (ts, b) => some (.node op (ops[op].getLastD (-1)) ts, b)) := by
        rw [firstM_op (s := ⟨sorts, ops⟩) c2']; unfold nodeM; rw [Int.toNat_natCast, opRow_at (s := ⟨sorts, ops⟩) hop]; try rfl
      rw [opRow_at hop] at hrow
      simp only at hrow
      obtain ⟨b2, o2, c6, u', e, hcell, hri⟩ := HO.out.at_ hop
      cases e
      generalize ops[op] = row at hcell hri hrow hN
      have hr1 := hrow.1
      have hr3 := hrow.2.1
      obtain ⟨n, hnl⟩ : ∃ n, row.length = n + 1 := ⟨row.length - 1, by omega⟩
      rw [last_at (by omega)] at hN
      obtain ⟨b', o', c3, rfl, hl⟩ := hri.at_ (k := row.length - 1) (by omega)
      generalize row[row.length - 1]'(by omega) = lv at hl hN
      rw [show row.length - 1 = n by omega] at hl
      rw [hnl] at hcell
      have HPOS := Lib.hid hrow.2.2
      have HN := Lib.hid hN
      have HRI := Lib.hid hri
      have HIH := Lib.hid ih
      have HC := Lib.hid (And.intro f0 (And.intro f1 hl))
      clear hN hri ih hv hrow
      go_enter Try.func123, Try.ntmps123
      go_wp2_with (go_at_call 64; refine (l1In_is _ _ _ _ _ HI.out).mono ?_; rintro e w' ⟨rfl, rfl⟩)
      have hw3 : IntKind.i64.wrap ((ops.length : Int) - 1) = (ops.length : Int) - 1 := by rw [IntKind.wrap_i64]; omega
      go_quiet ((go_at_call 64; exact quiet_left (l1In_is _ _ _ _ _ HJ.out)))
      go_wp2_with fail
      go_quiet (fail)
      go_wp2
      clear f0 f1 hl hcell hx hw3
      go_loopw [11, 12, 13, 14] (fun e11 j12 x13 s14 wr => ∃ (j e : Nat) (ts : List Tm), j ≤ n ∧ j12 = .int .i64 j ∧ e11 = .int .i64 e ∧ e ≤ t.length ∧ argsM (firstM ⟨sorts, ops⟩ vars f) (row.dropLast.take j) (t.drop (k + 1)) = some (ts, t.drop e) ∧ Below (w.alloc (.cells #[.int .i64 sorts, .slice (some ⟨b2, o2, none⟩) ops.length c] 33)).heap.size (w.alloc (.cells #[.int .i64 sorts, .slice (some ⟨b2, o2, none⟩) ops.length c] 33)) wr) (fun _ j _ _ _ => n - (intOf j).toNat)
      case atStart => exact ⟨0, k + 1, [], Nat.zero_le _, rfl, by go_num, by omega, rfl, by first | exact below_drewN (Below.refl _ _) _ | exact below_drewN (below_drewN (Below.refl _ _) _) _⟩
      case round =>
        obtain ⟨j, e, ts, hj, rfl, rfl, he, harg, hbw⟩ := hrel
        have f0 := cell_keep hbw HC.out.1
        have f1 := cell_keep hbw HC.out.2.1
        have f2 := cell_keep hbw HC.out.2.2
        have HBW := Lib.hid hbw
        have HARG := Lib.hid harg
        clear hbw harg
        by_cases hlt : j < n
        · obtain ⟨b7, o7, c8, e', hx⟩ := (HRI.out.keep HBW.out).at_ (k := j) (by omega)
          cases e'
          have hstep := argsM_step (ss := row.dropLast) (by rw [List.length_dropLast]; omega) HARG.out
          rw [List.getElem_dropLast] at hstep
          have hx0 := (HPOS.out _ (List.getElem_mem (show j < row.length by omega))).1
          generalize row[j]'(by omega) = x at hx hstep hx0
          have HSTEP := Lib.hid hstep
          clear hstep
          have hlt' : (j : Int) + 1 < (n : Int) + 1 := by omega
          go_wp2_with fail
          refine (HIH.out t e _ _ _ _ (Nat.le_trans (args_shorter HARG.out).1 hr) (HS.out.keep HBW.out) (HV2.out.keep HBW.out) (HV3.out.keep HBW.out)).mono ?_
          rintro e' w2 ⟨rfl, hb⟩
          have HB := Lib.hid hb
          have f00 := cell_keep hb f0
          have f01 := cell_keep hb f1
          have f02 := cell_keep hb f2
          have hx2 := cell_keep hb hx
          clear hb f0 f1 f2 hx
          cases hf : firstM ⟨sorts, ops⟩ vars f (t.drop e) with
          | none =>
            have HFN := Lib.hid hf
            clear hf
            have hne : (-1 : Int) ≠ x := by omega
            unfold endV
            go_wp2
            refine bodyPost_ret (v := .tuple #[.int .i64 (-1), .int .i64 (-1)]) (by simp [results, Try.results123, go_sem]) rfl ?_
            have h := HSTEP.out
            rw [HFN.out] at h
            rw [HN.out, argsM_take_none h]
            exact ⟨rfl, HB1.out.trans ((HBW.out.trans (HB.out.mono HBW.out.size)).mono HB1.out.size)⟩
          | some q =>
            obtain ⟨tm, rb⟩ := q
            rw [endV_some]
            obtain ⟨hd1, hd2⟩ := drop_rest (firstM_sound _ _ _ _ hf).1
            have HFS := Lib.hid hf
            clear hf
            by_cases hts : tm.sort = x
            · subst hts
              have h := HSTEP.out
              rw [HFS.out] at h
              simp only [if_true] at h
              rw [hd1] at h
              have HNEXT := Lib.hid h
              have HBN := Lib.hid (HBW.out.trans (HB.out.mono HBW.out.size))
              clear h hd1
              have he2 : t.length - rb.length ≤ t.length := by omega
              generalize t.length - rb.length = e2 at HNEXT he2 ⊢
              go_wp2
              go_roundw
              case rel => exact ⟨j + 1, e2, ts ++ [tm], by omega, by go_num, rfl, he2, HNEXT.out, HBN.out⟩
              case measure => simp [intOf]; omega
            · have h := HSTEP.out
              rw [HFS.out] at h
              simp only [if_neg hts] at h
              have HNONE := Lib.hid (argsM_take_none h)
              clear h hd1 hd2
              generalize tm.sort = q at hts ⊢
              go_wp2
              refine bodyPost_ret (v := .tuple #[.int .i64 (-1), .int .i64 (-1)]) (by simp [results, Try.results123, go_sem]) rfl ?_
              rw [HN.out, HNONE.out]
              exact ⟨rfl, HB1.out.trans ((HBW.out.trans (HB.out.mono HBW.out.size)).mono HB1.out.size)⟩
        · have hjn : ¬ (j : Int) + 1 < (n : Int) + 1 := by omega
          have h := HARG.out
          rw [take_all (by rw [List.length_dropLast]; omega)] at h
          have HARG2 := Lib.hid h
          clear h
          go_wp2_with fail
          have hw4 : IntKind.i64.wrap ((n : Int) + 1 - 1) = (n : Int) := by rw [IntKind.wrap_i64]; omega
          go_quiet (fail)
          go_wp2
          refine bodyPost_ret (v := .tuple #[.int .i64 (e : Int), .int .i64 lv]) (by simp [results, Try.results123, go_sem]) rfl ?_
          rw [HN.out, HARG2.out]
          refine ⟨?_, below_drewN (HB1.out.trans (HBW.out.mono HB1.out.size)) _⟩
          simp only
          rw [endV_some, show ((t.length - (t.drop e).length : Nat) : Int) = (e : Int) by rw [List.length_drop]; omega]
          rfl
    · have HN := Lib.hid (firstM_bad (s := ⟨sorts, ops⟩) (vars := vars) (f := f) (rest := t.drop (k + 1)) (n := n) c2' c1)
      have HJ := Lib.hid (show inB n 0 ((ops.length : Int) - 1) = false by rw [inB_op _ rfl]; simpa using c2')
      go_enter Try.func123, Try.ntmps123
      go_wp2_with (go_at_call 64; refine (l1In_is _ _ _ _ _ HI.out).mono ?_; rintro e w' ⟨rfl, rfl⟩)
      have hw3 : IntKind.i64.wrap ((ops.length : Int) - 1) = (ops.length : Int) - 1 := by rw [IntKind.wrap_i64]; omega
      go_quiet ((go_at_call 64; exact quiet_left (l1In_is _ _ _ _ _ HJ.out)))
      have HBF := Lib.hid (below_drewN HB1.out nq)
      go_wp2
      refine bodyPost_ret (v := .tuple #[.int .i64 (-1), .int .i64 (-1)]) (by simp [results, Try.results123, go_sem]) rfl ?_
      rw [HN.out]
      exact ⟨rfl, HBF.out⟩

theorem end_any (s : MSig) (vars : List Int) (hv : varsB s vars = true) : ∀ f, EndAt s vars f := by
  intro f
  induction f with
  | zero =>
    intro t k w v vv tv hr h1 h2 h3
    rw [List.length_drop] at hr
    exact end_past s vars 0 t k w v vv tv (by omega) h1 h2 h3
  | succ f ih =>
    intro t k w v vv tv hr h1 h2 h3
    by_cases hk : k < t.length
    · exact end_step s vars hv f ih t k w v vv tv hk (by rw [List.length_drop] at hr ⊢; omega) h1 h2 h3
    · exact end_past s vars _ t k w v vv tv (by omega) h1 h2 h3
end

section
open Go.RowKit
set_option linter.unusedVariables false

theorem sortM_none {s : MSig} {vars t : List Int} (h : termM s vars t = none) : sortM s vars t = -1 := by unfold sortM; rw [h]
theorem sortM_some {s : MSig} {vars t : List Int} {tm : Tm} (h : termM s vars t = some tm) : sortM s vars t = tm.sort := by unfold sortM; rw [h]

set_option maxRecDepth 100000 in
theorem termSort_any (s : MSig) (vars t : List Int) (w : World) (v vv tv : Value) (hsm : Small t) (h1 : RSig w v s) (h2 : RInts w vv vars) (h3 : RInts w tv t) :
    Calls Try.prog 114 #[v, vv, tv] w fun e w' => e = .returned (.int .i64 (sortM s vars t)) ∧ Below w.heap.size w w' := by
  obtain ⟨u, rfl, hrr⟩ := h1
  obtain ⟨sorts, ops⟩ := s
  obtain ⟨A, c, rfl, -⟩ := hrr.form
  have hb1 := below_alloc w (.cells #[.int .i64 sorts, .slice A ops.length c] 33)
  have hbx := Lib.hid (box_cells w (.int .i64 sorts) (.slice A ops.length c) 33)
  have HS := Lib.hid (show RSig (w.alloc (.cells #[.int .i64 sorts, .slice A ops.length c] 33)) (.agg #[.int .i64 sorts, .slice A ops.length c]) ⟨sorts, ops⟩ from ⟨_, rfl, hrr.keep hb1⟩)
  have HV2 := Lib.hid (h2.keep hb1)
  have HV3 := Lib.hid (h3.keep hb1)
  obtain ⟨A2, c2, rfl, -⟩ := h2.form
  obtain ⟨A3, c3, rfl, -⟩ := h3.form
  have HB1 := Lib.hid hb1
  clear hrr h2 h3 hb1
  go_enter Try.func114, Try.ntmps114
  go_wp2_with fail
  refine (termOf_any ⟨sorts, ops⟩ vars t _ _ _ _ hsm HS.out HV2.out HV3.out).mono ?_
  rintro e w1 ⟨hm, hb⟩
  have HBF := Lib.hid (HB1.out.trans (hb.mono (by simp)))
  cases ht : termM ⟨sorts, ops⟩ vars t with
  | none =>
    rw [ht] at hm
    simp only at hm
    subst hm
    have HR := Lib.hid (sortM_none ht)
    clear ht hb
    go_wp2
    go_ret
    exact ⟨ret_int HR.out.symm, HBF.out⟩
  | some tm =>
    rw [ht] at hm
    simp only at hm
    obtain ⟨u, rfl, hu⟩ := hm
    have HR := Lib.hid (sortM_some ht)
    obtain ⟨T, y, fid, rfl, hms, hcf, hsc⟩ := hu.sorts
    have HSC := Lib.hid hsc
    clear ht hb hu hsc
    go_wp2_with fail
    refine (HSC.out _).mono ?_
    rintro e w3 ⟨rfl, hb3⟩
    have HB3 := Lib.hid hb3
    clear hb3
    go_wp2
    go_ret
    exact ⟨ret_int HR.out.symm, HBF.out.trans (HB3.out.mono HBF.out.size)⟩

set_option maxRecDepth 100000 in
theorem specTermSort_any (s : MSig) (vars t : List Int) (w : World) (v vv tv : Value) (h1 : RSig w v s) (h2 : RInts w vv vars) (h3 : RInts w tv t) :
    Calls Try.prog 104 #[v, vv, tv] w fun e w' => e = .returned (.int .i64 (sortM s vars t)) ∧ Below w.heap.size w w' := by
  obtain ⟨u, rfl, hrr⟩ := h1
  obtain ⟨sorts, ops⟩ := s
  obtain ⟨A, c, rfl, -⟩ := hrr.form
  have hb1 := below_alloc w (.cells #[.int .i64 sorts, .slice A ops.length c] 33)
  have hbx := Lib.hid (box_cells w (.int .i64 sorts) (.slice A ops.length c) 33)
  have HS := Lib.hid (show RSig (w.alloc (.cells #[.int .i64 sorts, .slice A ops.length c] 33)) (.agg #[.int .i64 sorts, .slice A ops.length c]) ⟨sorts, ops⟩ from ⟨_, rfl, hrr.keep hb1⟩)
  have HV2 := Lib.hid (h2.keep hb1)
  have HV3 := Lib.hid (h3.keep hb1)
  have hlen := h3.len
  obtain ⟨A2, c2, rfl, -⟩ := h2.form
  obtain ⟨A3, c3, rfl, -⟩ := h3.form
  have HB1 := Lib.hid hb1
  clear hrr h2 h3 hb1
  cases hv : varsB ⟨sorts, ops⟩ vars with
  | false =>
    have HR := Lib.hid (sortM_none (termM_no (s := ⟨sorts, ops⟩) (vars := vars) (t := t) (by rw [hv]; simp)))
    have HV := Lib.hid hv
    clear hv
    go_enter Try.func104, Try.ntmps104
    go_wp2_with (go_at_call 105; refine (specVarsOk_any _ _ ⟨sorts, ops⟩ vars _ HS.out HV2.out).mono ?_; rw [HV.out]; rintro e w1 ⟨rfl, hb⟩)
    go_ret
    exact ⟨ret_int HR.out.symm, HB1.out.trans (hb.mono (by simp))⟩
  | true =>
    by_cases hl : 30 < (t.length : Int)
    · have HR := Lib.hid (sortM_none (termM_no (s := ⟨sorts, ops⟩) (vars := vars) (t := t) (by omega)))
      have HV := Lib.hid hv
      clear hv
      go_enter Try.func104, Try.ntmps104
      go_wp2_with (go_at_call 105; refine (specVarsOk_any _ _ ⟨sorts, ops⟩ vars _ HS.out HV2.out).mono ?_; rw [HV.out]; rintro e w1 ⟨rfl, hb⟩)
      go_ret
      exact ⟨ret_int HR.out.symm, HB1.out.trans (hb.mono (by simp))⟩
    · have HN := Lib.hid (termM_yes hv (t := t) (by omega))
      have HV := Lib.hid hv
      have HSO : Hid (∀ tm, wfT ⟨sorts, ops⟩ vars tm → 0 ≤ tm.sort) := fun tm h => (sort_ok hv h).1
      clear hv
      have hl3 : (t.length : Int) ≤ 30 := by omega
      go_enter Try.func104, Try.ntmps104
      go_wp2_with (go_at_call 105; refine (specVarsOk_any _ _ ⟨sorts, ops⟩ vars _ HS.out HV2.out).mono ?_; rw [HV.out]; rintro e w1 ⟨rfl, hb⟩; have f0 := cell_keep hb hbx.out.1; have f1 := cell_keep hb hbx.out.2; have HB := Lib.hid hb; clear hb)
      refine (end_any ⟨sorts, ops⟩ vars HV.out 30 t 0 _ _ _ _ (by simp; omega) (HS.out.keep HB.out) (HV2.out.keep HB.out) (HV3.out.keep HB.out)).mono ?_
      rintro e w2 ⟨rfl, hb2⟩
      rw [List.drop_zero]
      have s1 := HB.out.size
      simp at s1
      have HBF := Lib.hid ((HB1.out.trans (HB.out.mono (by simp))).trans (hb2.mono (by omega)))
      clear hb2 f0 f1
      cases hf : firstM ⟨sorts, ops⟩ vars 30 t with
      | none =>
        have HR := Lib.hid (show sortM ⟨sorts, ops⟩ vars t = -1 from sortM_none (by rw [HN.out, hf]))
        clear hf
        have hne : (-1 : Int) ≠ (t.length : Int) := by omega
        unfold endV
        go_wp2
        go_ret
        exact ⟨ret_int HR.out.symm, HBF.out⟩
      | some q =>
        obtain ⟨tm, rb⟩ := q
        rw [endV_some]
        have hs := firstM_sound _ _ _ _ hf
        by_cases hrb : rb = []
        · subst hrb
          have HR := Lib.hid (show sortM ⟨sorts, ops⟩ vars t = tm.sort from sortM_some (by rw [HN.out, hf]))
          have he : ((t.length - ([] : List Int).length : Nat) : Int) = (t.length : Int) := by simp
          rw [he]
          clear hf hs he
          generalize tm.sort = q at HR ⊢
          go_wp2
          go_ret
          exact ⟨ret_int HR.out.symm, HBF.out⟩
        · have HR := Lib.hid (show sortM ⟨sorts, ops⟩ vars t = -1 from sortM_none (by rw [HN.out, hf]; cases rb with | nil => exact absurd rfl hrb | cons x l => rfl))
          have hne : ((t.length - rb.length : Nat) : Int) ≠ (t.length : Int) := by
            have h1 := congrArg List.length hs.1
            have h2 : 0 < rb.length := List.length_pos_iff.2 hrb
            rw [List.length_append] at h1
            omega
          clear hf hs
          generalize ((t.length - rb.length : Nat) : Int) = e2 at hne ⊢
          generalize tm.sort = q
          go_wp2
          go_ret
          exact ⟨ret_int HR.out.symm, HBF.out⟩
end

section
open Go.RowKit
set_option linter.unusedVariables false

def fitP (s : MSig) (vars : List Int) (q : List Int × Int) : Bool := decide (0 ≤ q.2) && decide (sortM s vars q.1 = q.2)
theorem fitsB_eq (s : MSig) (vars : List Int) (terms : List (List Int)) (sorts : List Int) : fitsB s vars terms sorts = (varsB s vars && (decide (terms.length = sorts.length) && (terms.zip sorts).all (fitP s vars))) := rfl
theorem bel_drew {a w : World} {B : Nat} (h : Below B a w) : Below B a w.drew := ⟨h.os, h.tape, h.output, h.size, h.block⟩
theorem bel_undrew {B : Nat} {w w' : World} (h : Below B w.drew w') : Below B w w' := ⟨h.os, h.tape, h.output, h.size, h.block⟩

/-- of two worlds behind one the later one keeps what the earlier one had -/
theorem fit_keep {w w1 w2 : World} (h : Below w.heap.size w w1) (k : Below w1.heap.size w1 w2) : Below w.heap.size w w2 := h.trans (k.mono h.size)

set_option maxHeartbeats 800000 in
set_option maxRecDepth 100000 in
theorem termsFit_any (s : MSig) (vars : List Int) (terms : List (List Int)) (srts : List Int) (w : World) (v vv tv sv : Value) (hsm : ∀ t ∈ terms, Small t) (h1 : RSig w v s) (h2 : RInts w vv vars) (h3 : RRows w tv terms) (h4 : RInts w sv srts) :
    Calls Try.prog 80 #[v, vv, tv, sv] w fun e w' => e = .returned (.bool (fitsB s vars terms srts)) ∧ Below w.heap.size w w' := by
  obtain ⟨u, rfl, hrr⟩ := h1
  obtain ⟨sorts, ops⟩ := s
  obtain ⟨A, c, rfl, -⟩ := hrr.form
  have hb1 := below_alloc w (.cells #[.int .i64 sorts, .slice A ops.length c] 33)
  have hbx := Lib.hid (box_cells w (.int .i64 sorts) (.slice A ops.length c) 33)
  have HS := Lib.hid (show RSig (w.alloc (.cells #[.int .i64 sorts, .slice A ops.length c] 33)) (.agg #[.int .i64 sorts, .slice A ops.length c]) ⟨sorts, ops⟩ from ⟨_, rfl, hrr.keep hb1⟩)
  have HV2 := Lib.hid (h2.keep hb1)
  have HV3 := Lib.hid (h3.keep hb1)
  have HV4 := Lib.hid (h4.keep hb1)
  have hl3 := h3.len
  have hl4 := h4.len
  obtain ⟨A2, c2, rfl, -⟩ := h2.form
  obtain ⟨A3, c3, rfl, -⟩ := h3.form
  obtain ⟨A4, c4, rfl, -⟩ := h4.form
  have HB1 := Lib.hid hb1
  have HSM := Lib.hid hsm
  have HE := Lib.hid (fitsB_eq ⟨sorts, ops⟩ vars terms srts)
  clear hrr h2 h3 h4 hb1 hsm
  cases hv : varsB ⟨sorts, ops⟩ vars with
  | false =>
    have HV := Lib.hid hv
    clear hv
    go_enter Try.func80, Try.ntmps80
    go_wp2_with (go_at_call 111; refine (varsOk_any _ _ ⟨sorts, ops⟩ vars _ HS.out HV2.out).mono ?_; rw [HV.out]; rintro e w1 ⟨rfl, hb⟩)
    go_ret
    exact ⟨ret_bool (by rw [HE.out, HV.out]; rfl), HB1.out.trans (hb.mono (by simp))⟩
  | true =>
    by_cases hll : (terms.length : Int) = (srts.length : Int)
    · have HLL := Lib.hid hll
      have HV := Lib.hid hv
      clear hv
      go_enter Try.func80, Try.ntmps80
      go_wp2_with (go_at_call 111; refine (varsOk_any _ _ ⟨sorts, ops⟩ vars _ HS.out HV2.out).mono ?_; rw [HV.out]; rintro e w1 ⟨rfl, hb⟩; have HB := Lib.hid hb; clear hb)
      go_loopw [9, 10, 11, 12, 26] (fun q9 q10 q11 q12 i wr => ∃ k : Nat, k ≤ terms.length ∧ i = .int .i64 k ∧ ((terms.zip srts).take k).all (fitP ⟨sorts, ops⟩ vars) = true ∧ Below (w.alloc (.cells #[.int .i64 sorts, .slice A ops.length c] 33)).heap.size (w.alloc (.cells #[.int .i64 sorts, .slice A ops.length c] 33)) wr) (fun _ _ _ _ i _ => terms.length - (intOf i).toNat)
      case atStart => exact ⟨0, Nat.zero_le _, rfl, rfl, HB.out⟩
      case round =>
        obtain ⟨k, hk, rfl, hall, hbw⟩ := hrel
        have g0 := cell_keep hbw hbx.out.1
        have g1 := cell_keep hbw hbx.out.2
        have HBW := Lib.hid hbw
        have HALL := Lib.hid hall
        clear hbw hall
        by_cases hlt : k < terms.length
        · have hls : k < srts.length := by have := HLL.out; omega
          have hlt' : (k : Int) < (terms.length : Int) := by omega
          have hls' : (k : Int) < (srts.length : Int) := by omega
          have hz : k < (terms.zip srts).length := by rw [List.length_zip]; omega
          obtain ⟨b3, o3, c3', u3, e, hcell, hri⟩ := (HV3.out.keep HBW.out).at_ hlt
          cases e
          obtain ⟨b4, o4, c4', e, hx⟩ := (HV4.out.keep HBW.out).at_ hls
          cases e
          have HST := Lib.hid (HSM.out _ (List.getElem_mem hlt))
          have HTK := Lib.hid (all_take (p := fitP ⟨sorts, ops⟩ vars) hz)
          have HBAD := Lib.hid (all_bad (p := fitP ⟨sorts, ops⟩ vars) hz)
          rw [List.getElem_zip] at HTK HBAD
          generalize terms[k] = t at hcell hri HST HTK HBAD
          generalize srts[k] = x at hx HTK HBAD
          have HRI := Lib.hid hri
          obtain ⟨A5, c5, rfl, -⟩ := hri.form
          clear hri hz
          go_wp2_with fail
          refine (termOf_any ⟨sorts, ops⟩ vars t _ _ _ _ HST.out (HS.out.keep HBW.out) (HV2.out.keep HBW.out) HRI.out).mono ?_
          rintro e w2 ⟨hm, hb⟩
          have HB2 := Lib.hid hb
          have hx2 := cell_keep hb hx
          clear hb g0 g1 hcell hx
          cases ht : termM ⟨sorts, ops⟩ vars t with
          | none =>
            rw [ht] at hm
            simp only at hm
            subst hm
            have HT := Lib.hid (sortM_none ht)
            clear ht
            go_wp2_with fail
            go_quiet (fail)
            go_wp2
            go_ret
            refine ⟨ret_bool ?_, below_drewN (HB1.out.trans ((fit_keep HBW.out HB2.out).mono (by simp))) _⟩
            rw [HE.out, HBAD.out (by unfold fitP; rw [HT.out]; simp; omega)]; simp
          | some tm =>
            rw [ht] at hm
            simp only at hm
            obtain ⟨u, rfl, hu⟩ := hm
            obtain ⟨T, y, fid, rfl, hms, hcf, hsc⟩ := hu.sorts
            have HT := Lib.hid (sortM_some ht)
            have HTM := Lib.hid (sort_ok HV.out (termM_to ht).2.2.1).1
            have HSC := Lib.hid hsc
            clear ht hu hsc
            go_wp2_with fail
            have ea := World.new_ne w2 _ hx2
            go_region_held3 (fun w' => w'.cell? ⟨b4, o4 + k, none⟩ = some (.int .i64 x)) (first | go_keep)
              (first
                | (with_reducible (show Calls _ _ _ _ _); refine (HSC.out w2.drew).mono ?_; rintro e w3 ⟨rfl, hb3⟩; have HB3 := Lib.hid (bel_undrew hb3); have hx3 := cell_keep HB3.out hx2; clear hb3))
            clear hms hcf HSC ea hx2 hx3
            have HBN := Lib.hid (HBW.out.trans ((HB2.out.trans (HB3.out.mono HB2.out.size)).mono HBW.out.size))
            generalize hq : tm.sort = q at HT HTM ⊢
            clear hq
            by_cases hqx : q = x
            · subst hqx
              go_wp2
              go_roundw
              case rel =>
                refine ⟨k + 1, by omega, by go_num, ?_, ?_⟩
                · rw [HTK.out, HALL.out]; unfold fitP; rw [HT.out]; simp; exact HTM.out
                · exact HBN.out
              case measure => simp [intOf]; omega
            · have hqb : (q != x) = true := by simpa using hqx
              go_wp2
              go_ret
              refine ⟨ret_bool ?_, HB1.out.trans (HBN.out.mono (by simp))⟩
              rw [HE.out, HBAD.out (by unfold fitP; rw [HT.out]; simp [hqx])]; simp
        · have hkn : ¬ (k : Int) < (terms.length : Int) := by omega
          go_wp2
          go_ret
          refine ⟨ret_bool ?_, HB1.out.trans (HBW.out.mono (by simp))⟩
          have h := HALL.out
          rw [take_all (by rw [List.length_zip]; omega)] at h
          rw [HE.out, h, HV.out]; have := HLL.out; simp; omega
    · have HV := Lib.hid hv
      clear hv
      go_enter Try.func80, Try.ntmps80
      go_wp2_with (go_at_call 111; refine (varsOk_any _ _ ⟨sorts, ops⟩ vars _ HS.out HV2.out).mono ?_; rw [HV.out]; rintro e w1 ⟨rfl, hb⟩)
      go_ret
      exact ⟨ret_bool (by rw [HE.out, HV.out]; simp; omega), HB1.out.trans (hb.mono (by simp))⟩

set_option maxHeartbeats 800000 in
set_option maxRecDepth 100000 in
theorem specTermsFit_any (s : MSig) (vars : List Int) (terms : List (List Int)) (srts : List Int) (w : World) (v vv tv sv : Value) (hsm : ∀ t ∈ terms, Small t) (h1 : RSig w v s) (h2 : RInts w vv vars) (h3 : RRows w tv terms) (h4 : RInts w sv srts) :
    Calls Try.prog 72 #[v, vv, tv, sv] w fun e w' => e = .returned (.bool (fitsB s vars terms srts)) ∧ Below w.heap.size w w' := by
  obtain ⟨u, rfl, hrr⟩ := h1
  obtain ⟨sorts, ops⟩ := s
  obtain ⟨A, c, rfl, -⟩ := hrr.form
  have hb1 := below_alloc w (.cells #[.int .i64 sorts, .slice A ops.length c] 33)
  have hbx := Lib.hid (box_cells w (.int .i64 sorts) (.slice A ops.length c) 33)
  have HS := Lib.hid (show RSig (w.alloc (.cells #[.int .i64 sorts, .slice A ops.length c] 33)) (.agg #[.int .i64 sorts, .slice A ops.length c]) ⟨sorts, ops⟩ from ⟨_, rfl, hrr.keep hb1⟩)
  have HV2 := Lib.hid (h2.keep hb1)
  have HV3 := Lib.hid (h3.keep hb1)
  have HV4 := Lib.hid (h4.keep hb1)
  have hl3 := h3.len
  have hl4 := h4.len
  obtain ⟨A2, c2, rfl, -⟩ := h2.form
  obtain ⟨A3, c3, rfl, -⟩ := h3.form
  obtain ⟨A4, c4, rfl, -⟩ := h4.form
  have HB1 := Lib.hid hb1
  have HSM := Lib.hid hsm
  have HE := Lib.hid (fitsB_eq ⟨sorts, ops⟩ vars terms srts)
  clear hrr h2 h3 h4 hb1 hsm
  go_enter Try.func72, Try.ntmps72
  go_wp2
  go_loopw [9] (fun i wr => ∃ k : Nat, k ≤ terms.length ∧ k ≤ srts.length ∧ i = .int .i64 k ∧ ((terms.zip srts).take k).all (fitP ⟨sorts, ops⟩ vars) = true ∧ Below (w.alloc (.cells #[.int .i64 sorts, .slice A ops.length c] 33)).heap.size (w.alloc (.cells #[.int .i64 sorts, .slice A ops.length c] 33)) wr) (fun i _ => terms.length - (intOf i).toNat)
  case atStart => exact ⟨0, Nat.zero_le _, Nat.zero_le _, rfl, rfl, Below.refl _ _⟩
  case round =>
    obtain ⟨k, hk, hk2, rfl, hall, hbw⟩ := hrel
    have g0 := cell_keep hbw hbx.out.1
    have g1 := cell_keep hbw hbx.out.2
    have HBW := Lib.hid hbw
    have HALL := Lib.hid hall
    clear hbw hall
    by_cases hlt : k < terms.length
    · by_cases hls : k < srts.length
      · have hlt' : (k : Int) < (terms.length : Int) := by omega
        have hls' : (k : Int) < (srts.length : Int) := by omega
        have hk0 : (0 : Int) ≤ (k : Int) := by omega
        have hz : k < (terms.zip srts).length := by rw [List.length_zip]; omega
        obtain ⟨b3, o3, c3', u3, e, hcell, hri⟩ := (HV3.out.keep HBW.out).at_ hlt
        cases e
        obtain ⟨b4, o4, c4', e, hx⟩ := (HV4.out.keep HBW.out).at_ hls
        cases e
        have HST := Lib.hid (HSM.out _ (List.getElem_mem hlt))
        have HTK := Lib.hid (all_take (p := fitP ⟨sorts, ops⟩ vars) hz)
        have HBAD := Lib.hid (all_bad (p := fitP ⟨sorts, ops⟩ vars) hz)
        rw [List.getElem_zip] at HTK HBAD
        generalize terms[k] = t at hcell hri HST HTK HBAD
        generalize srts[k] = x at hx HTK HBAD
        have HRI := Lib.hid hri
        obtain ⟨A5, c5, rfl, -⟩ := hri.form
        clear hri hz
        obtain ⟨q, hq⟩ : ∃ q, sortM ⟨sorts, ops⟩ vars t = q := ⟨_, rfl⟩
        have HQ := Lib.hid hq
        clear hq
        by_cases hqx : q = x
        · subst hqx
          have hqb : (q != q) = false := by simp
          by_cases hq0 : q < 0
          · go_wp2_with fail
            have ea := World.new_ne wr _ g0
            have eb := World.new_ne wr _ hcell
            have ec := World.new_ne wr _ hx
            go_region_held3 (fun w' => w'.cell? ⟨w.heap.size, 0, none⟩ = some (.int .i64 sorts) ∧ w'.cell? ⟨w.heap.size, 1, none⟩ = some (.slice A ops.length c) ∧ w'.cell? ⟨b3, o3 + k, none⟩ = some (.slice A5 t.length c5) ∧ w'.cell? ⟨b4, o4 + k, none⟩ = some (.int .i64 q)) (first | go_keep)
              (first
                | (go_at_call 104; refine (specTermSort_any ⟨sorts, ops⟩ vars t wr.drew _ _ _ (HS.out.keep (bel_drew HBW.out)) (HV2.out.keep (bel_drew HBW.out)) HRI.out).mono ?_; rw [HQ.out]; rintro e w2 ⟨rfl, hb2⟩; have HB2 := Lib.hid (bel_undrew hb2); have j0 := cell_keep HB2.out g0; have j1 := cell_keep HB2.out g1; have j2 := cell_keep HB2.out hcell; have j3 := cell_keep HB2.out hx; clear hb2))
            clear g0 g1 hcell hx ea eb ec j0 j1 j2 j3
            have HBN := Lib.hid (fit_keep HBW.out HB2.out)
            go_wp2
            go_ret
            refine ⟨ret_bool ?_, HB1.out.trans (HBN.out.mono (by simp))⟩
            rw [HE.out, HBAD.out (by unfold fitP; simp; omega)]; simp
          · go_wp2_with fail
            have ea := World.new_ne wr _ g0
            have eb := World.new_ne wr _ hcell
            have ec := World.new_ne wr _ hx
            go_region_held3 (fun w' => w'.cell? ⟨w.heap.size, 0, none⟩ = some (.int .i64 sorts) ∧ w'.cell? ⟨w.heap.size, 1, none⟩ = some (.slice A ops.length c) ∧ w'.cell? ⟨b3, o3 + k, none⟩ = some (.slice A5 t.length c5) ∧ w'.cell? ⟨b4, o4 + k, none⟩ = some (.int .i64 q)) (first | go_keep)
              (first
                | (go_at_call 104; refine (specTermSort_any ⟨sorts, ops⟩ vars t wr.drew _ _ _ (HS.out.keep (bel_drew HBW.out)) (HV2.out.keep (bel_drew HBW.out)) HRI.out).mono ?_; rw [HQ.out]; rintro e w2 ⟨rfl, hb2⟩; have HB2 := Lib.hid (bel_undrew hb2); have j0 := cell_keep HB2.out g0; have j1 := cell_keep HB2.out g1; have j2 := cell_keep HB2.out hcell; have j3 := cell_keep HB2.out hx; clear hb2))
            clear g0 g1 hcell hx ea eb ec j0 j1 j2 j3
            have HBN := Lib.hid (fit_keep HBW.out HB2.out)
            go_wp2
            go_roundw
            case rel =>
              refine ⟨k + 1, by omega, by omega, by go_num, ?_, HBN.out⟩
              rw [HTK.out, HALL.out]; unfold fitP; rw [HQ.out]; simp; omega
            case measure => simp [intOf]; omega
        · have hqb : (q != x) = true := by simpa using hqx
          go_wp2_with fail
          have ea := World.new_ne wr _ g0
          have eb := World.new_ne wr _ hcell
          have ec := World.new_ne wr _ hx
          first
            | (go_region_law (first
                | (go_simp; go_at_call 104; refine (specTermSort_any ⟨sorts, ops⟩ vars t wr.drew _ _ _ (HS.out.keep (bel_drew HBW.out)) (HV2.out.keep (bel_drew HBW.out)) HRI.out).mono ?_; rw [HQ.out]; rintro e w2 ⟨rfl, hb2⟩; have HB2 := Lib.hid (bel_undrew hb2); have j0 := cell_keep HB2.out g0; have j1 := cell_keep HB2.out g1; have j2 := cell_keep HB2.out hcell; have j3 := cell_keep HB2.out hx; clear hb2)))
            | fail "stuck"
          all_goals
           clear g0 g1 hcell hx ea eb ec j0 j1 j2 j3
           have HBN := Lib.hid (fit_keep HBW.out HB2.out)
           go_wp2
           go_ret
           refine ⟨ret_bool ?_, HB1.out.trans (HBN.out.mono (by simp))⟩
           rw [HE.out, HBAD.out (by unfold fitP; rw [HQ.out]; simp [hqx])]; simp
      · have hls' : ¬ (k : Int) < (srts.length : Int) := by omega
        have hne : terms.length ≠ srts.length := by omega
        have HNE := Lib.hid hne
        clear hne
        have hneb : ((terms.length : Int) == (srts.length : Int)) = false := by rw [beq_eq_false_iff_ne]; have := HNE.out; omega
        have hlt' : (k : Int) < (terms.length : Int) := by omega
        go_wp2_with fail
        refine (specVarsOk_any _ _ ⟨sorts, ops⟩ vars _ (HS.out.keep HBW.out) (HV2.out.keep HBW.out)).mono ?_
        rintro e w1 ⟨rfl, hb⟩
        have HBF := Lib.hid (HB1.out.trans ((fit_keep HBW.out hb).mono (by simp)))
        have HF : Hid (fitsB ⟨sorts, ops⟩ vars terms srts = false) := by unfold Hid; rw [HE.out, decide_eq_false HNE.out]; simp
        clear hb g0 g1
        cases hv : varsB ⟨sorts, ops⟩ vars with
        | false =>
          clear hv
          go_wp2
          go_ret
          exact ⟨ret_bool HF.out.symm, HBF.out⟩
        | true =>
          clear hv
          go_wp2
          go_ret
          exact ⟨ret_bool HF.out.symm, HBF.out⟩
    · have hlt' : ¬ (k : Int) < (terms.length : Int) := by omega
      go_wp2_with fail
      refine (specVarsOk_any _ _ ⟨sorts, ops⟩ vars _ (HS.out.keep HBW.out) (HV2.out.keep HBW.out)).mono ?_
      rintro e w1 ⟨rfl, hb⟩
      have HBF := Lib.hid (HB1.out.trans ((fit_keep HBW.out hb).mono (by simp)))
      clear hb g0 g1
      cases hv : varsB ⟨sorts, ops⟩ vars with
      | false =>
        have HF : Hid (fitsB ⟨sorts, ops⟩ vars terms srts = false) := by unfold Hid; rw [HE.out, hv]; simp
        clear hv
        go_wp2
        go_ret
        exact ⟨ret_bool HF.out.symm, HBF.out⟩
      | true =>
        have HF : Hid (fitsB ⟨sorts, ops⟩ vars terms srts = decide ((terms.length : Int) = (srts.length : Int))) := by
          unfold Hid
          have h := HALL.out
          rw [HE.out, hv]
          by_cases hll : terms.length = srts.length
          · rw [take_all (by rw [List.length_zip]; omega)] at h
            rw [h, decide_eq_true hll, decide_eq_true (by omega)]; rfl
          · rw [decide_eq_false hll, decide_eq_false (by omega)]; rfl
        clear hv
        go_wp2
        go_ret
        refine ⟨ret_bool ?_, HBF.out⟩
        rw [HF.out]; first | rfl | simp
end
end Go.Proofs.Ytmmnamjgpfkabab
