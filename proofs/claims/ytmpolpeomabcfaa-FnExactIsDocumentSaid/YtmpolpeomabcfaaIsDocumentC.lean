/- IsDocument, model and program: what both answer. -/
import Derived.Test.YtmpolpeomabcfaaDocG
namespace Go.Proofs.Ytmpolpeomabcfaa.IsDocumentC
open Go.RowKit Bs Doc DocG
set_option linter.unusedVariables false
def Ans (z0 : List LSection.R) (r0 : Bool) : Prop := r0 = goodB z0
theorem same {z0 : List LSection.R} {r0 s0 : Bool} (h : Ans z0 r0) (h' : Ans z0 s0) : r0 = s0 := h.trans h'.symm
def BPost (z0 : List LSection.R) (w : World) (e : Ending) (w' : World) : Prop := ∃ r0, e = .returned (.bool r0) ∧ Ans z0 r0 ∧ Below w.heap.size w w'
theorem spec (v0 : Value) (z0 : List LSection.R) (w : World) (h0 : IsS LSection.rec w v0 z0) (f0 : ∀ x ∈ z0, LSection.Fine x) (l0 : z0.length ≤ 1048576) :
    Calls Try.prog 28 #[v0] w (BPost z0 w) := by
  have h1 := IsS.is LSection.rec h0
  have HG := Lib.hid (DocG.l6Good v0 z0 w h1 f0)
  obtain ⟨b, o, c, rfl, _⟩ := h0
  clear h1 f0
  go_enter Try.func28, Try.ntmps28
  go_wp2_with fail
  refine HG.out.mono ?_
  rintro e w1 ⟨rfl, hb1⟩
  go_wp2_with fail
  go_ret
  exact ⟨_, rfl, rfl, hb1⟩
theorem impl (v0 : Value) (z0 : List LSection.R) (w : World) (h0 : IsS LSection.rec w v0 z0) (f0 : ∀ x ∈ z0, LSection.Fine x) (l0 : z0.length ≤ 1048576) :
    Calls Try.prog 17 #[v0] w (BPost z0 w) :=
  (DocG.isDocument v0 z0 w (IsS.is LSection.rec h0) f0).mono fun e w' ⟨he, hb⟩ => ⟨_, he, rfl, hb⟩
end Go.Proofs.Ytmpolpeomabcfaa.IsDocumentC
