/- The exact laws' measure and copy: szSig, toSig. -/
import Derived.Test.YtonainidjkcoeabEq
import Derived.Test.YtonainidjkcoeabOwn
import Derived.Deep.RegionHeld3
import Derived.Deep.OwnRows
namespace Go.Proofs.Ytonainidjkcoeab
open Go.RowKit
set_option linter.unusedVariables false

/-- rows that are not too many and not too long -/
def Fits (rows : List (List Int)) : Prop := rows.length ≤ 1048576 ∧ ∀ row ∈ rows, row.length ≤ 1048576

end Go.Proofs.Ytonainidjkcoeab
