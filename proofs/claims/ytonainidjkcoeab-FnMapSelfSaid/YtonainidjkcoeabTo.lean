/- The exact laws' copies: toIntS, toIntSS, toSig. -/
import Derived.Test.YtonainidjkcoeabSz
import Derived.Test.YtonainidjkcoeabFill
namespace Go.Proofs.Ytonainidjkcoeab
open Go.RowKit
set_option linter.unusedVariables false

end Go.Proofs.Ytonainidjkcoeab
