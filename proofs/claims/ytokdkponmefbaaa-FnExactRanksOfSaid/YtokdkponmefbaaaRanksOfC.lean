/- RanksOf, model and program: what both answer. -/
import Derived.Test.YtokdkponmefbaaaPrecKS
import Derived.Test.YtokdkponmefbaaaPrecKI
namespace Go.Proofs.Ytokdkponmefbaaa.RanksOfC
open Go.RowKit Bs PrecM
set_option linter.unusedVariables false
def Ans (z0 : LPrecedence.R) (r0 : List Int) (r1 : Bool) : Prop := PrecK.KAns z0 r0 r1
theorem same {z0 : LPrecedence.R} {r0 s0 : List Int} {r1 s1 : Bool} (h : Ans z0 r0 r1) (h' : Ans z0 s0 s1) : r0 = s0 ∧ r1 = s1 := PrecK.ksame h h'
theorem len0 {z0 : LPrecedence.R} {r0 : List Int} {r1 : Bool} (h : Ans z0 r0 r1) : r0.length ≤ 1048576 := PrecK.klen0 h
theorem spec (v0 : Value) (z0 : LPrecedence.R) (w : World) (h0 : LPrecedence.IsS w v0 z0) (f0 : LPrecedence.Fine z0) (l0 : z0.over.length ≤ 1048576) :
    Calls Try.prog 28 #[v0] w (PrecK.KPost z0 w) := PrecK.ranksS v0 z0 w h0.is
theorem impl (v0 : Value) (z0 : LPrecedence.R) (w : World) (h0 : LPrecedence.IsS w v0 z0) (f0 : LPrecedence.Fine z0) (l0 : z0.over.length ≤ 1048576) :
    Calls Try.prog 27 #[v0] w (PrecK.KPost z0 w) := PrecK.ranksI v0 z0 w h0.is
end Go.Proofs.Ytokdkponmefbaaa.RanksOfC
