/- The laws' helper toIntS: copies of what came in. -/
import Derived.Test.YtokdkponmefbaaaLIntD
namespace Go.Proofs.Ytokdkponmefbaaa.LInt
open Go.RowKit Bs
set_option linter.unusedVariables false
end Go.Proofs.Ytokdkponmefbaaa.LInt
