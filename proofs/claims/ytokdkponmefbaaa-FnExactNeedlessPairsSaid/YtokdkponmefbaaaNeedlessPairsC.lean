/- NeedlessPairs, model and program: what both answer. -/
import Derived.Test.YtokdkponmefbaaaPrecNS
import Derived.Test.YtokdkponmefbaaaPrecNI
namespace Go.Proofs.Ytokdkponmefbaaa.NeedlessPairsC
open Go.RowKit Bs PrecM
set_option linter.unusedVariables false
def Ans (z0 : LPrecedence.R) (r0 : List LIntA2.R) (r1 : Bool) : Prop := PrecN.Ans z0 r0 r1
theorem same {z0 : LPrecedence.R} {r0 s0 : List LIntA2.R} {r1 s1 : Bool} (h : Ans z0 r0 r1) (h' : Ans z0 s0 s1) : r0 = s0 ∧ r1 = s1 := PrecN.same h h'
theorem len0 {z0 : LPrecedence.R} {r0 : List LIntA2.R} {r1 : Bool} (h : Ans z0 r0 r1) : r0.length ≤ 1048576 := PrecN.len0 h
theorem spec (v0 : Value) (z0 : LPrecedence.R) (w : World) (h0 : LPrecedence.IsS w v0 z0) (f0 : LPrecedence.Fine z0) (l0 : z0.over.length ≤ 1048576) :
    Calls Try.prog 31 #[v0] w (PrecN.Post z0 w) := PrecN.needS v0 z0 w h0
theorem impl (v0 : Value) (z0 : LPrecedence.R) (w : World) (h0 : LPrecedence.IsS w v0 z0) (f0 : LPrecedence.Fine z0) (l0 : z0.over.length ≤ 1048576) :
    Calls Try.prog 30 #[v0] w (PrecN.Post z0 w) := PrecN.needI v0 z0 w h0
end Go.Proofs.Ytokdkponmefbaaa.NeedlessPairsC
