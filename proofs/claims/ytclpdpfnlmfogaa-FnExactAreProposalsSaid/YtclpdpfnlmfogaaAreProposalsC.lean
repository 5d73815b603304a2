/- AreProposals: what it answers, on both sides. No condition. -/
import Derived.Test.YtclpdpfnlmfogaaCfG
namespace Go.Proofs.Ytclpdpfnlmfogaa.AreProposalsC
open Go.RowKit Bs Word Am AmA AmG AmF Cf CfG
set_option linter.unusedVariables false
def Ans (z0 : T) (z1 : List P) (r0 : Bool) : Prop := r0 = propsB z0 z1
theorem same {z0 : T} {z1 : List P} {r0 s0 : Bool} (h1 : Ans z0 z1 r0) (h2 : Ans z0 z1 s0) : s0 = r0 := h2.trans h1.symm
def Post (z0 : T) (z1 : List P) (w : World) (e : Ending) (w' : World) : Prop := ∃ r0 : Bool, e = .returned (.bool r0) ∧ Ans z0 z1 r0 ∧ Below w.heap.size w w'
set_option maxRecDepth 100000 in
set_option maxHeartbeats 1600000 in
theorem spec (v0 : Value) (z0 : T) (v1 : Value) (z1 : List P) (w : World) (h0 : IsS LString.rec w v0 z0) (f0 : ∀ x ∈ z0, LString.Fine x) (l0 : z0.length ≤ 1048576) (h1 : LProposalS.IsS w v1 z1) (f1 : ∀ x ∈ z1, LProposalS.Fine x) (l1 : z1.length ≤ 1048576) :
    Calls Try.prog 10 #[v0, v1] w (Post z0 z1 w) := by
  have HC := Lib.hid (CfG.l10Good v0 v1 z0 z1 w (.inr h0) (Bs.NIsS.is h1) f0 f1 l0)
  clear h0 f0 l0 h1 f1 l1
  go_enter Try.func10, Try.ntmps10
  go_wp2_with fail
  refine HC.out.mono ?_
  rintro e w1 ⟨rfl, hb1⟩
  go_wp2_with fail
  go_ret
  exact ⟨_, rfl, rfl, hb1⟩
theorem impl (v0 : Value) (z0 : T) (v1 : Value) (z1 : List P) (w : World) (h0 : IsS LString.rec w v0 z0) (f0 : ∀ x ∈ z0, LString.Fine x) (l0 : z0.length ≤ 1048576) (h1 : LProposalS.IsS w v1 z1) (f1 : ∀ x ∈ z1, LProposalS.Fine x) (l1 : z1.length ≤ 1048576) :
    Calls Try.prog 13 #[v0, v1] w (Post z0 z1 w) := (CfG.areProposals v0 v1 z0 z1 w (.inr h0) (Bs.NIsS.is h1) f0 f1 l0).mono fun e w' h => ⟨_, h.1, rfl, h.2⟩
end Go.Proofs.Ytclpdpfnlmfogaa.AreProposalsC
