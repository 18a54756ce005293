/- The exact laws' marks of a result that lies between others: worlds cut off at a size. No walk. -/
import Derived.Test.YteccjnnhihbdhabMark2
namespace Go.Proofs.Yteccjnnhihbdhab
open Go.RowKit
set_option linter.unusedVariables false

def cutTo (w : World) (M : Nat) : World := { w with heap := w.heap.extract 0 M }
theorem cut_size {w : World} {M : Nat} (h : M ≤ w.heap.size) : (cutTo w M).heap.size = M := by
  show (w.heap.extract 0 M).size = M
  rw [Array.size_extract]; omega
theorem cut_block {w : World} {M k : Nat} (hk : k < M) : (cutTo w M).heap[k]? = w.heap[k]? := by
  show (w.heap.extract 0 M)[k]? = w.heap[k]?
  rw [Array.getElem?_extract]
  by_cases h : k < w.heap.size
  · rw [if_pos (by omega)]; congr 1; omega
  · rw [if_neg (by omega), Array.getElem?_eq_none (by omega)]
theorem cut_below {w : World} {M : Nat} (h : M ≤ w.heap.size) : Below (cutTo w M).heap.size (cutTo w M) w := by
  rw [cut_size h]
  exact ⟨rfl, rfl, rfl, by rw [cut_size h]; exact h, fun k hk => (cut_block hk).symm⟩

section
variable {w w' : World} {B B' M : Nat} {v u : Value} {xs : List Int} {rows : List (List Int)} {s : MSig}
theorem own_same {e : TypeId} {size n : Nat} {zs : List Value} (h : w.ownsRow B e size v n zs) (hk : ∀ k, B ≤ k → k < w.heap.size → w'.heap[k]? = w.heap[k]?) : w'.ownsRow B e size v n zs := by
  refine ⟨h.1, ?_⟩
  rcases h.2 with h2 | ⟨g, cap, cur, rfl, hg, hh, r⟩
  · exact .inl h2
  · exact .inr ⟨g, cap, cur, rfl, hg, (hk g hg (Array.getElem?_eq_some_iff.1 hh).1).trans hh, r⟩
theorem OInts.same (h : OInts w B v xs) (hk : ∀ k, B ≤ k → k < w.heap.size → w'.heap[k]? = w.heap[k]?) : OInts w' B v xs := own_same h hk
theorem ORows.same (h : ORows w B v rows) (hk : ∀ k, B ≤ k → k < w.heap.size → w'.heap[k]? = w.heap[k]?) : ORows w' B v rows := by
  obtain ⟨us, h1, h2, h3, h4⟩ := h
  exact ⟨us, own_same h1 hk, h2, fun j u row a b => (h3 j u row a b).same hk, h4⟩
theorem OSig.same (h : OSig w B v s) (hk : ∀ k, B ≤ k → k < w.heap.size → w'.heap[k]? = w.heap[k]?) : OSig w' B v s := by
  obtain ⟨u, e, h⟩ := h; exact ⟨u, e, h.same hk⟩
end
/-- of w's blocks those from A on and below its size lie in w' as they were -/
def Keeps (A : Nat) (w w' : World) : Prop := ∀ k, A ≤ k → k < w.heap.size → w'.heap[k]? = w.heap[k]?
theorem Keeps.refl (A : Nat) (w : World) : Keeps A w w := fun _ _ _ => rfl
theorem Keeps.below {A : Nat} {w w1 w2 : World} (h : Keeps A w w1) (hs : w.heap.size ≤ w1.heap.size) (hb : Below w1.heap.size w1 w2) : Keeps A w w2 := fun k h1 h2 => (hb.block k (by omega)).trans (h k h1 h2)
theorem Keeps.outside {A B M : Nat} {w w1 w2 : World} (h : Keeps A w w1) (ho : Outside B M w1 w2) (hM : M ≤ A) : Keeps A w w2 := fun k h1 h2 => (ho.block k (.inr (by omega))).trans (h k h1 h2)
theorem Keeps.cell {A : Nat} {w w' : World} (h : Keeps A w w') {b o : Nat} {u : Value} (hA : A ≤ b) (hc : w.cell? ⟨b, o, none⟩ = some u) : w'.cell? ⟨b, o, none⟩ = some u :=
  (World.cell?_of_block (h b hA (World.block_lt_of_cell? w _ hc))).trans hc
end Go.Proofs.Yteccjnnhihbdhab
