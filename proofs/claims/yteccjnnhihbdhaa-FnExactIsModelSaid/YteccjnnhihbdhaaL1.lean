/- l1Same: rows compared (package spec). -/
import Derived.Test.YteccjnnhihbdhaaPure3
namespace Go.Proofs.Yteccjnnhihbdhaa
open Go.RowKit
set_option linter.unusedVariables false

end Go.Proofs.Yteccjnnhihbdhaa
