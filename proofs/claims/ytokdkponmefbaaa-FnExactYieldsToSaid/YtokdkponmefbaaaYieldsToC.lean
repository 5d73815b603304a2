/- YieldsTo, model and program: what both answer. -/
import Derived.Test.YtokdkponmefbaaaPrecF
namespace Go.Proofs.Ytokdkponmefbaaa.YieldsToC
open Go.RowKit Bs PrecM PrecF
set_option linter.unusedVariables false
def Ans (z0 : LPrecedence.R) (a1 : Int) (r0 : List Int) (r1 : Bool) : Prop := yA z0 a1 = (r0, r1)
theorem same {z0 : LPrecedence.R} {a1 : Int} {r0 s0 : List Int} {r1 s1 : Bool} (h : Ans z0 a1 r0 r1) (h' : Ans z0 a1 s0 s1) : r0 = s0 ∧ r1 = s1 := by have := h.symm.trans h'; simpa using this
theorem len0 {z0 : LPrecedence.R} {a1 : Int} {r0 : List Int} {r1 : Bool} (h : Ans z0 a1 r0 r1) : r0.length ≤ 1048576 := y_len h
def Post (z0 : LPrecedence.R) (a1 : Int) (w : World) (e : Ending) (w' : World) : Prop := ∃ v0 r0 r1, e = .returned (.tuple #[v0, .bool r1]) ∧ Ans z0 a1 r0 r1 ∧ Own LInt.rec 3 w' w.heap.size v0 r0 ∧ Below w.heap.size w w'
theorem spec (v0 : Value) (z0 : LPrecedence.R) (a1 : Int) (w : World) (h0 : LPrecedence.IsS w v0 z0) (f0 : LPrecedence.Fine z0) (l0 : z0.over.length ≤ 1048576) :
    Calls Try.prog 39 #[v0, .int .i64 a1] w (Post z0 a1 w) := (yieldsS v0 z0 a1 w h0.is).mono fun e w' ⟨v, r0, r1, he, ha, ho, _, hb⟩ => ⟨v, r0, r1, he, ha, ho, hb⟩
theorem impl (v0 : Value) (z0 : LPrecedence.R) (a1 : Int) (w : World) (h0 : LPrecedence.IsS w v0 z0) (f0 : LPrecedence.Fine z0) (l0 : z0.over.length ≤ 1048576) :
    Calls Try.prog 23 #[v0, .int .i64 a1] w (Post z0 a1 w) := (yieldsI v0 z0 a1 w h0.is).mono fun e w' ⟨v, r0, r1, he, ha, ho, _, hb⟩ => ⟨v, r0, r1, he, ha, ho, hb⟩
end Go.Proofs.Ytokdkponmefbaaa.YieldsToC
