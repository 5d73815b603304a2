/- The laws' helper eqIntS at two slices of the same values. -/
import Derived.Test.YtankaffhapcnaaaDoorLIntD
namespace Go.Proofs.YtankaffhapcnaaaDoor.LInt
open Go.RowKit Bs
set_option linter.unusedVariables false
end Go.Proofs.YtankaffhapcnaaaDoor.LInt
