/- TermsFit of both packages. -/
import Derived.Test.YteccjnnhihbdhabSort
import Derived.Deep.RegionHeld3
import Derived.Deep.RegionLaw
namespace Go.Proofs.Yteccjnnhihbdhab
open Go.RowKit
set_option linter.unusedVariables false

def fitP (s : MSig) (vars : List Int) (q : List Int × Int) : Bool := decide (0 ≤ q.2) && decide (sortM s vars q.1 = q.2)
theorem fitsB_eq (s : MSig) (vars : List Int) (terms : List (List Int)) (sorts : List Int) : fitsB s vars terms sorts = (varsB s vars && (decide (terms.length = sorts.length) && (terms.zip sorts).all (fitP s vars))) := rfl
theorem bel_drew {a w : World} {B : Nat} (h : Below B a w) : Below B a w.drew := ⟨h.os, h.tape, h.output, h.size, h.block⟩
theorem bel_undrew {B : Nat} {w w' : World} (h : Below B w.drew w') : Below B w w' := ⟨h.os, h.tape, h.output, h.size, h.block⟩

/-- of two worlds behind one the later one keeps what the earlier one had -/
theorem fit_keep {w w1 w2 : World} (h : Below w.heap.size w w1) (k : Below w1.heap.size w1 w2) : Below w.heap.size w w2 := h.trans (k.mono h.size)

end Go.Proofs.Yteccjnnhihbdhab
