/- IsValidTally: what it answers, on both sides. No condition. -/
import Derived.Test.YtankaffhapcnaaaTalG
import Derived.Test.YtankaffhapcnaaaLTallyZ
namespace Go.Proofs.Ytankaffhapcnaaa.IsValidTallyC
open Go.RowKit Bs Word Tal TalS TalG
set_option linter.unusedVariables false
def Ans (a0 : T) (r0 : Bool) : Prop := good a0 = r0
theorem same {a0 : T} {r0 s0 : Bool} (h1 : Ans a0 r0) (h2 : Ans a0 s0) : r0 = s0 := h1.symm.trans h2
def Post (a0 : T) (w : World) (e : Ending) (w' : World) : Prop := ∃ r0, e = .returned (.bool r0) ∧ Ans a0 r0 ∧ Below w.heap.size w w'
theorem impl (a0 : T) (w : World) (f0 : LTally.Fine a0) : Calls Try.prog 64 #[.agg #[.int .i64 a0.yes, .int .i64 a0.no, .int .i64 a0.abstain]] w (Post a0 w) :=
  (isValid a0 _ rfl w).mono fun e w' ⟨he, hb⟩ => ⟨_, he, rfl, hb⟩
end Go.Proofs.Ytankaffhapcnaaa.IsValidTallyC
