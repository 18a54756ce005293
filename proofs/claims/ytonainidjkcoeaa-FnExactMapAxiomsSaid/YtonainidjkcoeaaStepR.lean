/- Steps: how they read, measure, copy, comparison, marks. -/
import Derived.Test.YtonainidjkcoeaaThyT
namespace Go.Proofs.Ytonainidjkcoeaa
open Go.RowKit
set_option linter.unusedVariables false

structure MStep where
  ax : Int
  back : Bool
  at_ : Int
  terms : List (List Int)
def RStep (w : World) (v : Value) (p : MStep) : Prop := ∃ u, v = .agg #[.int .i64 p.ax, .bool p.back, .int .i64 p.at_, u] ∧ RRows w u p.terms
def OStep (w : World) (B : Nat) (v : Value) (p : MStep) : Prop := ∃ u, v = .agg #[.int .i64 p.ax, .bool p.back, .int .i64 p.at_, u] ∧ ORows w B u p.terms
def SmallP (p : MStep) : Prop := ∀ r ∈ p.terms, Small r
def FitsP (p : MStep) : Prop := Fits p.terms
def sameP (a b : MStep) : Bool := ((decide (a.ax = b.ax) && decide (a.back = b.back)) && decide (a.at_ = b.at_)) && sameR a.terms b.terms
theorem sameP_self (a : MStep) : sameP a a = true := by unfold sameP sameR; simp
theorem sameP_eq {a b : MStep} : sameP a b = true ↔ a = b := by
  obtain ⟨a1, a2, a3, a4⟩ := a
  obtain ⟨b1, b2, b3, b4⟩ := b
  unfold sameP sameR
  simp [and_assoc]
section
variable {w w' : World} {B B' : Nat} {v : Value} {p : MStep}
theorem RStep.keep (h : RStep w v p) (hb : Below w.heap.size w w') : RStep w' v p := by obtain ⟨u, rfl, h⟩ := h; exact ⟨u, rfl, h.keep hb⟩
theorem RStep.form (h : RStep w v p) : ∃ A c, v = .agg #[.int .i64 p.ax, .bool p.back, .int .i64 p.at_, .slice A p.terms.length c] := by
  obtain ⟨u, rfl, h⟩ := h
  obtain ⟨A, c, rfl, -⟩ := h.form
  exact ⟨_, _, rfl⟩
theorem RStep.of {a b c u : Value} (h : RStep w (.agg #[a, b, c, u]) p) : RRows w u p.terms := by
  obtain ⟨u', e, h⟩ := h
  injection e with e
  simp at e
  rw [e.2.2.2]; exact h
theorem OStep.keep (h : OStep w B v p) (hb : Below w.heap.size w w') : OStep w' B v p := by obtain ⟨u, rfl, h⟩ := h; exact ⟨u, rfl, h.keep hb⟩
theorem OStep.base (h : OStep w B v p) (hB : B' ≤ B) : OStep w B' v p := by obtain ⟨u, rfl, h⟩ := h; exact ⟨u, rfl, h.base hB⟩
theorem OStep.same (h : OStep w B v p) (hk : ∀ k, B ≤ k → k < w.heap.size → w'.heap[k]? = w.heap[k]?) : OStep w' B v p := by obtain ⟨u, rfl, h⟩ := h; exact ⟨u, rfl, orows_same h hk⟩
theorem OStep.reads (h : OStep w B v p) : RStep w v p := by obtain ⟨u, rfl, h⟩ := h; exact ⟨u, rfl, h.reads⟩
end

end Go.Proofs.Ytonainidjkcoeaa
