/- IsSound, model and program: what both answer. -/
import Derived.Test.YtokdkponmefbaaaPrecS
namespace Go.Proofs.Ytokdkponmefbaaa.IsSoundC
open Go.RowKit Bs PrecM PrecS
set_option linter.unusedVariables false
def Ans (z0 : LPrecedence.R) (r0 r1 : Bool) : Prop := soundA z0 = (r0, r1)
theorem same {z0 : LPrecedence.R} {r0 r1 s0 s1 : Bool} (h : Ans z0 r0 r1) (h' : Ans z0 s0 s1) : r0 = s0 ∧ r1 = s1 := by have := h.symm.trans h'; simpa using this
theorem spec (v0 : Value) (z0 : LPrecedence.R) (w : World) (h0 : LPrecedence.IsS w v0 z0) (f0 : LPrecedence.Fine z0) (l0 : z0.over.length ≤ 1048576) :
    Calls Try.prog 21 #[v0] w fun e w' => ∃ r0 r1, e = .returned (.tuple #[.bool r0, .bool r1]) ∧ Ans z0 r0 r1 ∧ Below w.heap.size w w' := soundS v0 z0 w h0.is
theorem impl (v0 : Value) (z0 : LPrecedence.R) (w : World) (h0 : LPrecedence.IsS w v0 z0) (f0 : LPrecedence.Fine z0) (l0 : z0.over.length ≤ 1048576) :
    Calls Try.prog 20 #[v0] w fun e w' => ∃ r0 r1, e = .returned (.tuple #[.bool r0, .bool r1]) ∧ Ans z0 r0 r1 ∧ Below w.heap.size w w' := soundI v0 z0 w h0.is
end Go.Proofs.Ytokdkponmefbaaa.IsSoundC
