/- raisedRow, OpTakes of both packages. -/
import Derived.Test.YteccjnnhihbdhabPure3
import Derived.Test.YteccjnnhihbdhabFill
import Derived.Deep.RegionHeld3
import Derived.Deep.OwnRows
import Derived.Deep.AppendLies
namespace Go.Proofs.Yteccjnnhihbdhab
open Go.RowKit
set_option linter.unusedVariables false

def raised (xs : List Int) (d : Int) : List Int := xs.map fun x => wrap64 (x + d)
theorem raised_at {xs : List Int} {d : Int} {k : Nat} (hk : k < xs.length) (h : k < (raised xs d).length) : (raised xs d)[k] = wrap64 (xs[k] + d) := by simp [raised]

end Go.Proofs.Yteccjnnhihbdhab
