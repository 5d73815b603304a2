/- AddPair, model and program: what both answer. -/
import Derived.Test.YthhlhcojjeglkabPrecAI
namespace Go.Proofs.Ythhlhcojjeglkab.AddPairC
open Go.RowKit Bs PrecA
set_option linter.unusedVariables false
def Ans (z0 : LPrecedence.R) (a1 a2 : Int) (r0 : LPrecedence.R) (r1 : Bool) : Prop := PrecA.Ans z0 a1 a2 r0 r1
theorem same {z0 : LPrecedence.R} {a1 a2 : Int} {r0 s0 : LPrecedence.R} {r1 s1 : Bool} (h : Ans z0 a1 a2 r0 r1) (h' : Ans z0 a1 a2 s0 s1) : r0 = s0 ∧ r1 = s1 := PrecA.same h h'
theorem len0 {z0 : LPrecedence.R} {a1 a2 : Int} {r0 : LPrecedence.R} {r1 : Bool} (h : Ans z0 a1 a2 r0 r1) : r0.over.length ≤ 1048576 := PrecA.len0 h
theorem spec (v0 : Value) (z0 : LPrecedence.R) (a1 a2 : Int) (w : World) (h0 : LPrecedence.IsS w v0 z0) (f0 : LPrecedence.Fine z0) (l0 : z0.over.length ≤ 1048576) :
    Calls Try.prog 14 #[v0, .int .i64 a1, .int .i64 a2] w (Post z0 a1 a2 w) := addS v0 z0 a1 a2 w h0
theorem impl (v0 : Value) (z0 : LPrecedence.R) (a1 a2 : Int) (w : World) (h0 : LPrecedence.IsS w v0 z0) (f0 : LPrecedence.Fine z0) (l0 : z0.over.length ≤ 1048576) :
    Calls Try.prog 15 #[v0, .int .i64 a1, .int .i64 a2] w (Post z0 a1 a2 w) := addI v0 z0 a1 a2 w h0
end Go.Proofs.Ythhlhcojjeglkab.AddPairC
