/- slices.Clone at slices of String. No condition but the length. -/
import Derived.Test.YtfkppgnffhbfjaaDoorLStringK
namespace Go.Proofs.YtfkppgnffhbfjaaDoor.LString
open Go.RowKit Bs
set_option linter.unusedVariables false
def Cloned (xs : List LString.R) (w : World) (e : Ending) (w' : World) : Prop := ∃ v, e = .returned v ∧ Own LString.rec 9 w' w.heap.size v xs ∧ Below w.heap.size w w'
end Go.Proofs.YtfkppgnffhbfjaaDoor.LString
