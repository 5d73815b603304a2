/- IsValidMembers, model and program: what both answer. -/
import Derived.Test.YtneecokjhmnagaaDoorMemI
namespace Go.Proofs.YtneecokjhmnagaaDoor.IsValidMembersC
open Go.RowKit Bs Mem MemG
set_option linter.unusedVariables false
def Ans (z0 : List LMember.R) (r0 : Bool) : Prop := r0 = goodB z0
theorem same {z0 : List LMember.R} {r0 s0 : Bool} (h : Ans z0 r0) (h' : Ans z0 s0) : r0 = s0 := h.trans h'.symm
def BPost (z0 : List LMember.R) (w : World) (e : Ending) (w' : World) : Prop := ∃ r0, e = .returned (.bool r0) ∧ Ans z0 r0 ∧ Below w.heap.size w w'
theorem impl (v0 : Value) (z0 : List LMember.R) (w : World) (h0 : IsS LMember.rec w v0 z0) (f0 : ∀ x ∈ z0, LMember.Fine x) (l0 : z0.length ≤ 1048576) :
    Calls Tryd.prog 11 #[v0] w (BPost z0 w) :=
  (MemI.isValidMembers v0 z0 w (IsS.is LMember.rec h0) f0).mono fun e w' ⟨he, hb⟩ => ⟨_, he, rfl, hb⟩
end Go.Proofs.YtneecokjhmnagaaDoor.IsValidMembersC
