/- Equations that a call has made, in worlds that keep what lies from a size on. No walk. -/
import Derived.Test.YteccjnnhihbdhabExGen
import Derived.Test.YteccjnnhihbdhabEqT
namespace Go.Proofs.Yteccjnnhihbdhab
open Go.RowKit
set_option linter.unusedVariables false

theorem OEq.same {w w' : World} {B : Nat} {v : Value} {e : MEq} (h : OEq w B v e) (hk : ∀ k, B ≤ k → k < w.heap.size → w'.heap[k]? = w.heap[k]?) : OEq w' B v e := by
  obtain ⟨a, b, c, rfl, h1, h2, h3, h4⟩ := h
  exact ⟨a, b, c, rfl, h1.same hk, h2.same hk, h3.same hk, h4⟩
end Go.Proofs.Yteccjnnhihbdhab
