/- The laws' helpers eqRule, eqRuleS at two values of the same records. -/
import Derived.Test.YtbnkpkneccgfnaaLRuleD
namespace Go.Proofs.Ytbnkpkneccgfnaa.LRule
open Go.RowKit Bs
set_option linter.unusedVariables false
end Go.Proofs.Ytbnkpkneccgfnaa.LRule
