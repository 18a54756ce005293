/- How a term that was read lies in memory: a letter, or an operation with a slice of terms. No walk. -/
import Derived.Test.YteccjnnhihbdhabTerm
import Derived.Test.YteccjnnhihbdhabOwn
import Derived.Deep.AppendLies
namespace Go.Proofs.Yteccjnnhihbdhab
open Go.RowKit
set_option linter.unusedVariables false

theorem blk_set' {w : World} {b : Nat} {cs : Array Value} {t : TypeId} (h : w.heap[b]? = some (.cells cs t (0, 0))) (i : Nat) (u : Value) : (w.setCell ⟨b, i, none⟩ u).heap[b]? = some (.cells (cs.setIfInBounds i u) t (0, 0)) := by
  simp [World.setCell, Array.getElem?_modify, h]

-- M: the blocks in which it lies
mutual
def RTerm (w : World) (M : Nat → Prop) : Value → Tm → Prop
  | v, .leaf k of => v = .iface 124 (.agg #[.int .i64 (k : Int), .int .i64 of])
  | v, .node op lv ts => ∃ (A : Option Addr) (c : Nat) (us : List Value), v = .iface 128 (.agg #[.int .i64 (op : Int), .int .i64 lv, .slice A ts.length c]) ∧ ts.length ≤ c ∧ c ≤ maxLen ∧ us.length = ts.length ∧
      (∀ (j : Nat) (u : Value), us[j]? = some u → ∃ b o, A = some ⟨b, o, none⟩ ∧ M b ∧ w.cell? ⟨b, o + j, none⟩ = some u) ∧ RTerms w M us ts
def RTerms (w : World) (M : Nat → Prop) : List Value → List Tm → Prop
  | us, [] => us = []
  | us, t :: ts => ∃ u us', us = u :: us' ∧ RTerm w M u t ∧ RTerms w M us' ts
end

mutual
theorem RTerm.keep {w w' : World} {M M' : Nat → Prop} (hb : ∀ b, M b → b < w.heap.size → M' b ∧ w'.heap[b]? = w.heap[b]?) : ∀ {v : Value} {t : Tm}, RTerm w M v t → RTerm w' M' v t
  | v, .leaf k of, h => by unfold RTerm at h ⊢; exact h
  | v, .node op lv ts, h => by
    unfold RTerm at h ⊢
    obtain ⟨A, c, us, e, h1, h2, h3, h4, h5⟩ := h
    refine ⟨A, c, us, e, h1, h2, h3, fun j u hj => ?_, RTerms.keep hb h5⟩
    obtain ⟨b, o, ea, hm, hc⟩ := h4 j u hj
    obtain ⟨k1, k2⟩ := hb b hm (World.block_lt_of_cell? w ⟨b, o + j, none⟩ hc)
    exact ⟨b, o, ea, k1, by rw [← hc]; exact World.cell?_of_block k2⟩
theorem RTerms.keep {w w' : World} {M M' : Nat → Prop} (hb : ∀ b, M b → b < w.heap.size → M' b ∧ w'.heap[b]? = w.heap[b]?) : ∀ {us : List Value} {ts : List Tm}, RTerms w M us ts → RTerms w' M' us ts
  | us, [], h => by unfold RTerms at h ⊢; exact h
  | us, t :: ts, h => by
    unfold RTerms at h ⊢
    obtain ⟨u, us', e, h1, h2⟩ := h
    exact ⟨u, us', e, RTerm.keep hb h1, RTerms.keep hb h2⟩
end
theorem RTerm.below {w w' : World} {M : Nat → Prop} {v : Value} {t : Tm} (h : RTerm w M v t) (hb : Below w.heap.size w w') : RTerm w' M v t := h.keep fun b hm hl => ⟨hm, hb.block b hl⟩
theorem RTerms.below {w w' : World} {M : Nat → Prop} {us : List Value} {ts : List Tm} (h : RTerms w M us ts) (hb : Below w.heap.size w w') : RTerms w' M us ts := h.keep fun b hm hl => ⟨hm, hb.block b hl⟩
theorem RTerms.length {w : World} {M : Nat → Prop} : ∀ {us : List Value} {ts : List Tm}, RTerms w M us ts → us.length = ts.length
  | us, [], h => by unfold RTerms at h; subst h; rfl
  | us, t :: ts, h => by
    unfold RTerms at h
    obtain ⟨u, us', rfl, h1, h2⟩ := h
    simp [RTerms.length h2]
theorem RTerms.snoc {w : World} {M : Nat → Prop} {u : Value} {t : Tm} (hu : RTerm w M u t) : ∀ {us : List Value} {ts : List Tm}, RTerms w M us ts → RTerms w M (us ++ [u]) (ts ++ [t])
  | us, [], h => by
    unfold RTerms at h
    subst h
    simp only [List.nil_append]
    unfold RTerms
    exact ⟨u, [], rfl, hu, by unfold RTerms; rfl⟩
  | us, x :: ts, h => by
    unfold RTerms at h
    obtain ⟨u', us', rfl, h1, h2⟩ := h
    simp only [List.cons_append]
    unfold RTerms
    exact ⟨u', us' ++ [u], rfl, h1, RTerms.snoc hu h2⟩
theorem RTerms.at_ {w : World} {M : Nat → Prop} : ∀ {us : List Value} {ts : List Tm} {j : Nat}, RTerms w M us ts → (hj : j < ts.length) → ∃ u, us[j]? = some u ∧ RTerm w M u ts[j]
  | us, [], j, h, hj => by simp at hj
  | us, x :: ts, 0, h, hj => by
    unfold RTerms at h
    obtain ⟨u', us', rfl, h1, h2⟩ := h
    exact ⟨u', rfl, h1⟩
  | us, x :: ts, j + 1, h, hj => by
    unfold RTerms at h
    obtain ⟨u', us', rfl, h1, h2⟩ := h
    obtain ⟨u, a, b⟩ := RTerms.at_ (j := j) h2 (by simpa using hj)
    exact ⟨u, by simpa using a, by simpa using b⟩
/-- a term's value: which kind, and what it says of its sort -/
theorem RTerm.form {w : World} {M : Nat → Prop} {v : Value} {t : Tm} (h : RTerm w M v t) :
    (∃ k of : Int, v = .iface 124 (.agg #[.int .i64 k, .int .i64 of]) ∧ t.sort = of) ∨ (∃ (op lv : Int) (A : Option Addr) (n c : Nat), v = .iface 128 (.agg #[.int .i64 op, .int .i64 lv, .slice A n c]) ∧ t.sort = lv) := by
  cases t with
  | leaf k of => unfold RTerm at h; exact .inl ⟨k, of, h, rfl⟩
  | node op lv ts => unfold RTerm at h; obtain ⟨A, c, us, e, -⟩ := h; exact .inr ⟨op, lv, A, ts.length, c, e, rfl⟩

/-- inside opWithTerms: block b: the operation under way; the terms so far -/
structure TakesAt (w wr : World) (b : Nat) (op : Nat) (lv : Int) (tv : Value) (ts : List Tm) : Prop where
  box : wr.heap[b]? = some (.cells #[.int .i64 (op : Int), .int .i64 lv, tv] 128 (0, 0))
  own : ∃ us, wr.ownsRow (b + 1) 96 1 tv ts.length us ∧ RTerms wr (fun x => b < x ∧ some x ≠ tv.ownBlock) us ts
  bel : Below w.heap.size w wr
  ge : w.heap.size ≤ b

theorem TakesAt.start {w wr : World} {b : Nat} {op : Nat} {lv : Int} (h1 : wr.heap[b]? = some (.cells #[.int .i64 (op : Int), .int .i64 lv, .slice none 0 0] 128 (0, 0))) (h2 : Below w.heap.size w wr) (h3 : w.heap.size ≤ b) : TakesAt w wr b op lv (.slice none 0 0) [] :=
  ⟨h1, ⟨[], World.ownsRow_nil _ _ _ _, by unfold RTerms; rfl⟩, h2, h3⟩
theorem TakesAt.below {w wr w2 : World} {b op : Nat} {lv : Int} {tv : Value} {ts : List Tm} (h : TakesAt w wr b op lv tv ts) (hb : Below wr.heap.size wr w2) : TakesAt w w2 b op lv tv ts := by
  obtain ⟨us, h1, h2⟩ := h.own
  exact ⟨(hb.block b (Array.getElem?_eq_some_iff.1 h.box).1).trans h.box, ⟨us, own_keep h1 hb, h2.below hb⟩, h.bel.trans (hb.mono h.bel.size), h.ge⟩
/-- behind 'whole.takes = append(whole.takes, taken)'; w2: behind the call that read the term, w3: behind the box of one cell -/
theorem TakesAt.push {w wr w2 w4 : World} {b op g cap : Nat} {lv : Int} {tv u : Value} {ts : List Tm} {t : Tm} {us : List Value} {o : Obj} (h : TakesAt w wr b op lv tv ts) (hb : Below wr.heap.size wr w2) (ht : RTerm w2 (fun x => wr.heap.size ≤ x) u t)
    (h1 : wr.ownsRow (b + 1) 96 1 tv ts.length us) (h2 : RTerms wr (fun x => b < x ∧ some x ≠ tv.ownBlock) us ts)
    (ho : w4.ownsRow (b + 1) 96 1 (.slice (some ⟨g, 0, none⟩) (ts.length + 1) cap) (ts.length + 1) (us ++ [u])) (hg : (w2.alloc o).grownBy w4 tv.ownBlock) (hlies : tv.ownBlock = some g ∨ g = (w2.alloc o).heap.size) :
    w4.heap[b]? = some (.cells #[.int .i64 (op : Int), .int .i64 lv, tv] 128 (0, 0)) ∧
    TakesAt w (w4.setCell ⟨b, 2, none⟩ (.slice (some ⟨g, 0, none⟩) (ts.length + 1) cap)) b op lv (.slice (some ⟨g, 0, none⟩) (ts.length + 1) cap) (ts ++ [t]) := by
  have hbl := (Array.getElem?_eq_some_iff.1 h.box).1
  have hs2 := hb.size
  have hsa : (w2.alloc o).heap.size = w2.heap.size + 1 := by simp
  have htv : ∀ k, tv.ownBlock = some k → b + 1 ≤ k ∧ k < wr.heap.size := own_lt h1
  have hgb : b < g := by
    rcases hlies with e | e
    · have := htv g e; omega
    · omega
  have at_ : ∀ x, x < w2.heap.size → some x ≠ tv.ownBlock → w4.heap[x]? = w2.heap[x]? := fun x hx hne =>
    (hg.block x (by omega) hne).trans (heap_alloc_old _ _ hx)
  have hbox4 : w4.heap[b]? = some (.cells #[.int .i64 (op : Int), .int .i64 lv, tv] 128 (0, 0)) :=
    (at_ b (by omega) (fun e => by have := htv b e.symm; omega)).trans ((hb.block b hbl).trans h.box)
  refine ⟨hbox4, ?_, ⟨us ++ [u], ?_, ?_⟩, ?_, h.ge⟩
  · exact blk_set' hbox4 2 _
  · rw [List.length_append]
    exact ownsRow_setCell_below ho (by show b < b + 1; omega) _
  · have hset : ∀ x, b < x → (w4.setCell ⟨b, 2, none⟩ (.slice (some ⟨g, 0, none⟩) (ts.length + 1) cap)).heap[x]? = w4.heap[x]? := fun x hx => Below.heap_setCell w4 ⟨b, 2, none⟩ _ x (by show x ≠ b; omega)
    refine RTerms.snoc ?_ ?_
    · refine ht.keep fun x hx hl => ?_
      have hne : some x ≠ tv.ownBlock := fun e => by have := htv x e.symm; omega
      refine ⟨⟨by omega, fun e => ?_⟩, (hset x (by omega)).trans (at_ x hl hne)⟩
      simp only [Value.ownBlock] at e
      injection e with e
      rcases hlies with e' | e'
      · exact hne (by rw [e', e])
      · omega
    · refine h2.keep fun x hx hl => ?_
      refine ⟨⟨hx.1, fun e => ?_⟩, (hset x hx.1).trans ((at_ x (by omega) hx.2).trans (hb.block x hl))⟩
      simp only [Value.ownBlock] at e
      injection e with e
      rcases hlies with e' | e'
      · exact hx.2 (by rw [e', e])
      · omega
  · have hbel2 : Below w.heap.size w (w2.alloc o) := (h.bel.trans (hb.mono h.bel.size)).alloc (by have := h.bel.size; omega) o
    exact (hbel2.grown hg (by have := h.bel.size; omega) (fun k e => by have := htv k e; have := h.ge; omega)).setCell (by show w.heap.size ≤ b; exact h.ge) _
/-- done: the operation with its terms -/
theorem TakesAt.done {w wr : World} {b op : Nat} {lv : Int} {tv : Value} {ts : List Tm} (h : TakesAt w wr b op lv tv ts) : RTerm wr (fun x => w.heap.size ≤ x) (.iface 128 (.agg #[.int .i64 (op : Int), .int .i64 lv, tv])) (.node op lv ts) := by
  obtain ⟨us, h1, h2⟩ := h.own
  obtain ⟨A, c, rfl, a1, a2, a3⟩ := own_reads h1
  unfold RTerm
  refine ⟨A, c, us, rfl, a1, a2, h2.length, fun j u hj => ?_, h2.keep fun x hx _ => ⟨by have := h.ge; omega, rfl⟩⟩
  obtain ⟨b', o, e, hc⟩ := a3 j u hj
  refine ⟨b', o, e, ?_, hc⟩
  have := own_lt h1 b' (by rw [e]; rfl)
  have := h.ge
  omega
theorem at_blk {w : World} {b : Nat} {cs : Array Value} {t : TypeId} (h : w.heap[b]? = some (.cells cs t (0, 0))) (i : Nat) : w.cell? ⟨b, i, none⟩ = cs[i]? := by simp [World.cell?, h]
theorem at_free {w : World} {b : Nat} {cs : Array Value} {t : TypeId} (h : w.heap[b]? = some (.cells cs t (0, 0))) (i : Nat) : w.frozen? ⟨b, i, none⟩ = false := by simp [World.frozen?, h]

/-- wherever rv reads as r, bv reads as b -/
def SufOf (rv bv : Value) (r b : List Int) : Prop := (∃ A c, bv = .slice A b.length c) ∧ ∀ w' : World, RInts w' rv r → RInts w' bv b
theorem SufOf.refl {w : World} {rv : Value} {r : List Int} (h : RInts w rv r) : SufOf rv rv r r := by
  obtain ⟨A, c, e, -⟩ := h.form; exact ⟨⟨A, c, e⟩, fun _ h => h⟩
theorem SufOf.trans {a b c : Value} {x y z : List Int} (h : SufOf a b x y) (k : SufOf b c y z) : SufOf a c x z := ⟨k.1, fun w' hw => k.2 w' (h.2 w' hw)⟩
/-- 'row[1:]' -/
theorem SufOf.tail {b o c : Nat} {n : Int} {rest : List Int} {A : Option Addr} (hA : A = some ⟨b, o + 1, none⟩ ∨ c - 1 = 0) : SufOf (.slice (some ⟨b, o, none⟩) (n :: rest).length c) (.slice A rest.length (c - 1)) (n :: rest) rest := by
  refine ⟨⟨_, _, rfl⟩, fun w' h => ?_⟩
  obtain ⟨A', c', e, h1, h2, h3⟩ := h
  cases e
  simp only [List.length_cons] at h1
  refine ⟨A, c - 1, rfl, by omega, by omega, fun j x hj => ?_⟩
  obtain ⟨b', o', e, hc⟩ := h3 (j + 1) x (by simpa using hj)
  cases e
  have hjl := (List.getElem?_eq_some_iff.1 hj).1
  rcases hA with rfl | h0
  · exact ⟨b, o + 1, rfl, by rw [← hc]; congr 2; omega⟩
  · omega
end Go.Proofs.Yteccjnnhihbdhab
