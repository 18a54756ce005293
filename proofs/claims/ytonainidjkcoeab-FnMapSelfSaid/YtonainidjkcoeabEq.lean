/- Equality of rows, of lists of rows, of signatures (the exact laws' own). -/
import Derived.Test.YtonainidjkcoeabPure3
namespace Go.Proofs.Ytonainidjkcoeab
open Go.RowKit
set_option linter.unusedVariables false

def sameS (a b : MSig) : Bool := decide (a.sorts = b.sorts) && sameR a.ops b.ops
theorem sameS_self (a : MSig) : sameS a a = true := by unfold sameS sameR; simp
end Go.Proofs.Ytonainidjkcoeab
