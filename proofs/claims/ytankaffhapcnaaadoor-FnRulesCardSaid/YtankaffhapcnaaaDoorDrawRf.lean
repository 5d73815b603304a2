/- The draw of a rule's id. No condition. -/
import Derived.Test.YtankaffhapcnaaaDoorDrawRd
namespace Go.Proofs.YtankaffhapcnaaaDoor.Draw
open Go.RowKit Cur Bs
set_option linter.unusedVariables false
def RNumOf (w : World) (B m : Nat) (e : Ending) (w' : World) : Prop := ∃ x : Int, e = .returned (.int .i64 x) ∧ Cur w' B m ∧ w.grownBy w' (some B)
end Go.Proofs.YtankaffhapcnaaaDoor.Draw
