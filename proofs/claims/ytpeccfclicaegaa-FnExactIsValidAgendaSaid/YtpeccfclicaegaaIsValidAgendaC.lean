/- IsValidAgenda, model and program: what both answer. -/
import Derived.Test.YtpeccfclicaegaaAgI
namespace Go.Proofs.Ytpeccfclicaegaa.IsValidAgendaC
open Go.RowKit Bs Ag AgG
set_option linter.unusedVariables false
def Ans (z0 : List LAgendaItem.R) (r0 : Bool) : Prop := r0 = goodB z0
theorem same {z0 : List LAgendaItem.R} {r0 s0 : Bool} (h : Ans z0 r0) (h' : Ans z0 s0) : r0 = s0 := h.trans h'.symm
def BPost (z0 : List LAgendaItem.R) (w : World) (e : Ending) (w' : World) : Prop := ∃ r0, e = .returned (.bool r0) ∧ Ans z0 r0 ∧ Below w.heap.size w w'
theorem spec (v0 : Value) (z0 : List LAgendaItem.R) (w : World) (h0 : IsS LAgendaItem.rec w v0 z0) (f0 : ∀ x ∈ z0, LAgendaItem.Fine x) (l0 : z0.length ≤ 1048576) :
    Calls Try.prog 24 #[v0] w (BPost z0 w) := by
  have HG := Lib.hid (AgG.l5Good v0 z0 w (IsS.is LAgendaItem.rec h0) f0)
  obtain ⟨b, o, c, rfl, _⟩ := h0
  clear f0
  go_enter Try.func24, Try.ntmps24
  go_wp2_with fail
  refine HG.out.mono ?_
  rintro e w1 ⟨rfl, hb1⟩
  go_wp2_with fail
  go_ret
  exact ⟨_, rfl, rfl, hb1⟩
theorem impl (v0 : Value) (z0 : List LAgendaItem.R) (w : World) (h0 : IsS LAgendaItem.rec w v0 z0) (f0 : ∀ x ∈ z0, LAgendaItem.Fine x) (l0 : z0.length ≤ 1048576) :
    Calls Try.prog 26 #[v0] w (BPost z0 w) :=
  (AgI.isValidAgenda v0 z0 w (IsS.is LAgendaItem.rec h0) f0).mono fun e w' ⟨he, hb⟩ => ⟨_, he, rfl, hb⟩
end Go.Proofs.Ytpeccfclicaegaa.IsValidAgendaC
