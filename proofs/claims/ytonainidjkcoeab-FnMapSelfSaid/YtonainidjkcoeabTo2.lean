/- toSig. -/
import Derived.Test.YtonainidjkcoeabTo
namespace Go.Proofs.Ytonainidjkcoeab
open Go.RowKit
set_option linter.unusedVariables false

end Go.Proofs.Ytonainidjkcoeab
