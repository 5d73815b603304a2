/- ArePending, model and program: what both answer. No condition but that names are no longer than strings can be. -/
import Derived.Test.YtbaflfbidgolfaaStA
namespace Go.Proofs.Ytbaflfbidgolfaa.ArePendingC
open Go.RowKit Bs Word Sq St StF StL StG StA IntF
set_option linter.unusedVariables false
def Ans (z0 : List LRule.R) (z1 : List LQuestion.R) (r0 : Bool) : Prop := r0 = goodQ z0 z1
theorem same {z0 : List LRule.R} {z1 : List LQuestion.R} {r0 s0 : Bool} (h : Ans z0 z1 r0) (h' : Ans z0 z1 s0) : r0 = s0 := h.trans h'.symm
def APost (z0 : List LRule.R) (z1 : List LQuestion.R) (w : World) (e : Ending) (w' : World) : Prop := ∃ r0, e = .returned (.bool r0) ∧ Ans z0 z1 r0 ∧ Below w.heap.size w w'
set_option maxRecDepth 100000 in
set_option maxHeartbeats 3200000 in
theorem spec (v0 : Value) (z0 : List LRule.R) (v1 : Value) (z1 : List LQuestion.R) (w : World) (h0 : IsS LRule.rec w v0 z0) (f0 : ∀ x ∈ z0, LRule.Fine x) (l0 : z0.length ≤ 1048576) (h1 : IsS LQuestion.rec w v1 z1) (f1 : ∀ x ∈ z1, LQuestion.Fine x) (l1 : z1.length ≤ 1048576) :
    Calls Try.prog 18 #[v0, v1] w (APost z0 z1 w) := by
  have HG := Lib.hid (l7Good v0 v1 z0 z1 w (IsS.is LRule.rec h0) (IsS.is LQuestion.rec h1) f0)
  clear h0 h1 f0 f1
  go_enter Try.func18, Try.ntmps18
  go_wp2_with fail
  refine HG.out.mono ?_
  rintro e w1 ⟨rfl, hb1⟩
  go_wp2_with fail
  go_ret
  exact ⟨_, rfl, rfl, hb1⟩
set_option maxRecDepth 100000 in
set_option maxHeartbeats 3200000 in
theorem impl (v0 : Value) (z0 : List LRule.R) (v1 : Value) (z1 : List LQuestion.R) (w : World) (h0 : IsS LRule.rec w v0 z0) (f0 : ∀ x ∈ z0, LRule.Fine x) (l0 : z0.length ≤ 1048576) (h1 : IsS LQuestion.rec w v1 z1) (f1 : ∀ x ∈ z1, LQuestion.Fine x) (l1 : z1.length ≤ 1048576) :
    Calls Try.prog 21 #[v0, v1] w (APost z0 z1 w)  :=
  (arePending v0 v1 z0 z1 w (IsS.is LRule.rec h0) (IsS.is LQuestion.rec h1) f0).mono fun e w' ⟨he, hb⟩ => ⟨_, he, rfl, hb⟩
end Go.Proofs.Ytbaflfbidgolfaa.ArePendingC
