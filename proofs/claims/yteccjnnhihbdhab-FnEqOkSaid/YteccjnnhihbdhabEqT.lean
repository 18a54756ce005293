/- The exact laws' measure, copy and comparison of an equation: szEq, toEq, eqEq. -/
import Derived.Test.YteccjnnhihbdhabTo2
import Derived.Test.YteccjnnhihbdhabEqM
namespace Go.Proofs.Yteccjnnhihbdhab
open Go.RowKit
set_option linter.unusedVariables false

def Apart (a b : Value) : Prop := a.ownBlock = none ∨ a.ownBlock ≠ b.ownBlock
def OEq (w : World) (B : Nat) (v : Value) (e : MEq) : Prop := ∃ a b c, v = .agg #[a, b, c] ∧ OInts w B a e.vars ∧ OInts w B b e.left ∧ OInts w B c e.right ∧ Apart a b ∧ Apart a c ∧ Apart b c
theorem OEq.keep {w w' : World} {B : Nat} {v : Value} {e : MEq} (h : OEq w B v e) (hb : Below w.heap.size w w') : OEq w' B v e := by
  obtain ⟨a, b, c, rfl, h1, h2, h3, h4⟩ := h; exact ⟨a, b, c, rfl, h1.keep hb, h2.keep hb, h3.keep hb, h4⟩
theorem OEq.base {w : World} {B B' : Nat} {v : Value} {e : MEq} (h : OEq w B v e) (hB : B' ≤ B) : OEq w B' v e := by
  obtain ⟨a, b, c, rfl, h1, h2, h3, h4⟩ := h; exact ⟨a, b, c, rfl, h1.base hB, h2.base hB, h3.base hB, h4⟩
theorem OEq.reads {w : World} {B : Nat} {v : Value} {e : MEq} (h : OEq w B v e) : REq w v e := by
  obtain ⟨a, b, c, rfl, h1, h2, h3, h4⟩ := h; exact ⟨a, b, c, rfl, h1.reads, h2.reads, h3.reads⟩
/-- what was made later lies in another block -/
theorem apart_later {w w' : World} {B : Nat} {a b : Value} {xs ys : List Int} (h : OInts w B a xs) (k : OInts w' w.heap.size b ys) : Apart a b := by
  unfold Apart
  cases ha : a.ownBlock with
  | none => exact .inl rfl
  | some x =>
    right
    intro e
    have p := (own_lt h x ha).2
    have q := (own_lt k x e.symm).1
    omega
theorem sz_keep {w w1 w2 : World} (h : Below w.heap.size w w1) (k : Below w1.heap.size w1 w2) : Below w.heap.size w w2 := h.trans (k.mono h.size)

/-- a copy under way: the argument's box (a), the result's (r), and 'out' (cur), the first three new blocks -/
structure Mk (w wr : World) (Ta T : TypeId) (a r cur : Array Value) : Prop where
  ba : wr.heap[w.heap.size]? = some (.cells a Ta (0, 0))
  br : wr.heap[w.heap.size + 1]? = some (.cells r T (0, 0))
  bo : wr.heap[w.heap.size + 2]? = some (.cells cur T (0, 0))
  b : Below w.heap.size w wr
  z : w.heap.size + 3 ≤ wr.heap.size
theorem Mk.start (w : World) (Ta T : TypeId) (a r cur : Array Value) : Mk w (((w.alloc (.cells a Ta)).alloc (.cells r T)).alloc (.cells cur T)) Ta T a r cur := by
  refine ⟨?_, ?_, ?_, ((below_alloc _ _).alloc (by simp) _).alloc (by simp; omega) _, by simp⟩
  · rw [heap_alloc_old _ _ (by simp; omega), heap_alloc_old _ _ (by simp)]
    exact heap_alloc_new w _
  · rw [heap_alloc_old _ _ (by simp)]
    exact (congrArg (fun i => ((w.alloc (.cells a Ta)).alloc (.cells r T)).heap[i]?) (by simp)).trans (heap_alloc_new (w.alloc (.cells a Ta)) _)
  · exact (congrArg (fun i => (((w.alloc (.cells a Ta)).alloc (.cells r T)).alloc (.cells cur T)).heap[i]?) (by simp)).trans (heap_alloc_new ((w.alloc (.cells a Ta)).alloc (.cells r T)) _)
section
variable {w wr w2 : World} {Ta T : TypeId} {a r cur : Array Value}
theorem Mk.below (h : Mk w wr Ta T a r cur) (hb : Below wr.heap.size wr w2) : Mk w w2 Ta T a r cur :=
  ⟨(hb.block _ (by have := h.z; omega)).trans h.ba, (hb.block _ (by have := h.z; omega)).trans h.br, (hb.block _ (by have := h.z; omega)).trans h.bo, h.b.trans (hb.mono (by have := h.z; omega)), Nat.le_trans h.z hb.size⟩
theorem Mk.setO (h : Mk w wr Ta T a r cur) (i : Nat) (u : Value) : Mk w (wr.setCell ⟨w.heap.size + 2, i, none⟩ u) Ta T a r (cur.setIfInBounds i u) :=
  ⟨(Below.heap_setCell wr ⟨w.heap.size + 2, i, none⟩ u w.heap.size (by show w.heap.size ≠ w.heap.size + 2; omega)).trans h.ba, (Below.heap_setCell wr ⟨w.heap.size + 2, i, none⟩ u (w.heap.size + 1) (by show w.heap.size + 1 ≠ w.heap.size + 2; omega)).trans h.br, blk_set h.bo i u,
    h.b.setCell (p := ⟨w.heap.size + 2, i, none⟩) (by show w.heap.size ≤ w.heap.size + 2; omega) u, by have := h.z; simpa [World.setCell] using this⟩
theorem Mk.setR (h : Mk w wr Ta T a r cur) (i : Nat) (u : Value) : Mk w (wr.setCell ⟨w.heap.size + 1, i, none⟩ u) Ta T a (r.setIfInBounds i u) cur :=
  ⟨(Below.heap_setCell wr ⟨w.heap.size + 1, i, none⟩ u w.heap.size (by show w.heap.size ≠ w.heap.size + 1; omega)).trans h.ba, blk_set h.br i u, (Below.heap_setCell wr ⟨w.heap.size + 1, i, none⟩ u (w.heap.size + 2) (by show w.heap.size + 2 ≠ w.heap.size + 1; omega)).trans h.bo,
    h.b.setCell (p := ⟨w.heap.size + 1, i, none⟩) (by show w.heap.size ≤ w.heap.size + 1; omega) u, by have := h.z; simpa [World.setCell] using this⟩
theorem Mk.ca (h : Mk w wr Ta T a r cur) (i : Nat) : wr.cell? ⟨w.heap.size, i, none⟩ = a[i]? := blk_cell h.ba i
theorem Mk.co (h : Mk w wr Ta T a r cur) (i : Nat) : wr.cell? ⟨w.heap.size + 2, i, none⟩ = cur[i]? := blk_cell h.bo i
theorem Mk.fo (h : Mk w wr Ta T a r cur) (i : Nat) : wr.frozen? ⟨w.heap.size + 2, i, none⟩ = false := blk_free h.bo i
theorem Mk.cr (h : Mk w wr Ta T a r cur) (i : Nat) : wr.cell? ⟨w.heap.size + 1, i, none⟩ = r[i]? := blk_cell h.br i
theorem Mk.fr (h : Mk w wr Ta T a r cur) (i : Nat) : wr.frozen? ⟨w.heap.size + 1, i, none⟩ = false := blk_free h.br i
theorem OInts.setLow {B b : Nat} {v : Value} {xs : List Int} (h : OInts wr B v xs) (hb : b < B) (i : Nat) (x : Value) : OInts (wr.setCell ⟨b, i, none⟩ x) B v xs := ownsRow_setCell_below h hb _
end

end Go.Proofs.Yteccjnnhihbdhab
