/- The exact laws' measure, copy and comparison of a theory: szTheory, toTheory, eqTheory. -/
import Derived.Test.YteccjnnhihbdhabEqS
import Derived.Test.YteccjnnhihbdhabEq
namespace Go.Proofs.Yteccjnnhihbdhab
open Go.RowKit
set_option linter.unusedVariables false

/-- a theory that a call has made: the rows of its operations lie apart from those of its axioms -/
def OThy (w : World) (B : Nat) (v : Value) (t : MThy) : Prop := ∃ u x, v = .agg #[.int .i64 t.over.sorts, u, x] ∧ ∃ (wc : World) (B0 : Nat), B ≤ B0 ∧ B0 ≤ wc.heap.size ∧ wc.heap.size ≤ w.heap.size ∧ ORows wc B0 u t.over.ops ∧ (∀ k, B0 ≤ k → k < wc.heap.size → w.heap[k]? = wc.heap[k]?) ∧ OEqs w wc.heap.size x t.eqs
theorem orows_same {w w' : World} {B : Nat} {v : Value} {rows : List (List Int)} (h : ORows w B v rows) (hk : ∀ k, B ≤ k → k < w.heap.size → w'.heap[k]? = w.heap[k]?) : ORows w' B v rows := by
  obtain ⟨us, h1, h2, h3, h4⟩ := h
  have same : ∀ {B2 : Nat} {e : TypeId} {size n : Nat} {v : Value} {zs : List Value}, B ≤ B2 → w.ownsRow B2 e size v n zs → w'.ownsRow B2 e size v n zs := fun hB h => by
    refine ⟨h.1, ?_⟩
    rcases h.2 with h2 | ⟨g, cap, cur, rfl, hg, hh, r⟩
    · exact .inl h2
    · exact .inr ⟨g, cap, cur, rfl, hg, (hk g (by omega) (Array.getElem?_eq_some_iff.1 hh).1).trans hh, r⟩
  exact ⟨us, same (Nat.le_refl _) h1, h2, fun j u row a b => same (Nat.le_refl _) (h3 j u row a b), h4⟩
theorem orowsT_same {T : TypeId} {size n : Nat} {w w' : World} {B : Nat} {v : Value} {rows : List (List Int)} (h : ORowsT T size n w B v rows) (hk : ∀ k, B ≤ k → k < w.heap.size → w'.heap[k]? = w.heap[k]?) : ORowsT T size n w' B v rows := by
  obtain ⟨us, h1, h2, h3, h4⟩ := h
  have same : ∀ {B2 : Nat} {e : TypeId} {size n : Nat} {v : Value} {zs : List Value}, B ≤ B2 → w.ownsRow B2 e size v n zs → w'.ownsRow B2 e size v n zs := fun hB h => by
    refine ⟨h.1, ?_⟩
    rcases h.2 with h2 | ⟨g, cap, cur, rfl, hg, hh, r⟩
    · exact .inl h2
    · exact .inr ⟨g, cap, cur, rfl, hg, (hk g (by omega) (Array.getElem?_eq_some_iff.1 hh).1).trans hh, r⟩
  exact ⟨us, same (Nat.le_refl _) h1, h2, fun j u row a b => same (Nat.le_refl _) (h3 j u row a b), h4⟩
section
variable {w w' : World} {B B' : Nat} {v : Value} {t : MThy}
theorem OThy.same (h : OThy w B v t) (hs : w.heap.size ≤ w'.heap.size) (hk : ∀ k, B ≤ k → k < w.heap.size → w'.heap[k]? = w.heap[k]?) : OThy w' B v t := by
  obtain ⟨u, x, rfl, wc, B0, z, a, b, c, d, e⟩ := h
  exact ⟨u, x, rfl, wc, B0, z, a, by omega, c, fun k h1 h2 => (hk k (by omega) (by omega)).trans (d k h1 h2), orowsT_same e fun k h1 h2 => hk k (by omega) h2⟩
theorem OThy.keep (h : OThy w B v t) (hb : Below w.heap.size w w') : OThy w' B v t := h.same hb.size fun k _ hk => hb.block k hk
theorem OThy.base (h : OThy w B v t) (hB : B' ≤ B) : OThy w B' v t := by
  obtain ⟨u, x, rfl, wc, B0, z, r⟩ := h
  exact ⟨u, x, rfl, wc, B0, by omega, r⟩
theorem OThy.rows (h : OThy w B v t) : ∃ u x, v = .agg #[.int .i64 t.over.sorts, u, x] ∧ ORows w B u t.over.ops ∧ OEqs w B x t.eqs := by
  obtain ⟨u, x, rfl, wc, B0, z, a, b, c, d, e⟩ := h
  exact ⟨u, x, rfl, (orows_same c d).base z, e.base (by omega)⟩
theorem OThy.reads (h : OThy w B v t) : RThy w v t := by
  obtain ⟨u, x, rfl, h1, h2⟩ := h.rows
  exact ⟨u, x, rfl, h1.reads, h2.reads⟩
end
def FitsT (t : MThy) : Prop := Fits t.over.ops ∧ FitsEs t.eqs
def sameT (a b : MThy) : Bool := sameS a.over b.over && sameEs a.eqs b.eqs
theorem sameT_self (a : MThy) : sameT a a = true := by unfold sameT; rw [sameS_self, sameEs_self]; rfl

theorem ORows.setLowT {w : World} {B b : Nat} {v : Value} {rows : List (List Int)} (h : ORows w B v rows) (hb : b < B) (i : Nat) (x : Value) : ORows (w.setCell ⟨b, i, none⟩ x) B v rows := h.setLow' hb i x

end Go.Proofs.Yteccjnnhihbdhab
