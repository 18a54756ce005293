/- What the made proofs of the exact laws share (tools/exact.py). No walk. -/
import Derived.Test.YteccjnnhihbdhabExBase
import Derived.Test.YteccjnnhihbdhabCut
namespace Go.Proofs.Yteccjnnhihbdhab
open Go.ChangeShapes Go.WideShapes Go.ChangeAt Go.RowKit
set_option linter.unusedVariables false

theorem ex_keep {w w1 w2 : World} (h : Below w.heap.size w w1) (k : Below w1.heap.size w1 w2) : Below w.heap.size w w2 := h.trans (k.mono h.size)
theorem ex_drew {B : Nat} {a w : World} (h : Below B a w) : Below B a w.drew := ⟨h.os, h.tape, h.output, h.size, h.block⟩
theorem ex_undrew {w w' : World} (h : Below w.drew.heap.size w.drew w') : Below w.heap.size w w' := below_undrew h
theorem sameI_self (xs : List Int) : sameI xs xs = true := by unfold sameI; simp
theorem sameR_self (xs : List (List Int)) : sameR xs xs = true := by unfold sameR; simp
end Go.Proofs.Yteccjnnhihbdhab
