/- IsText: what it answers, on both sides. No condition. -/
import Derived.Test.YtfkppgnffhbfjaaAmA
namespace Go.Proofs.Ytfkppgnffhbfjaa.IsTextC
open Go.RowKit Bs Word Am AmA
set_option linter.unusedVariables false
def Ans (z0 : T) (r0 : Bool) : Prop := r0 = textB z0
theorem same {z0 : T} {r0 s0 : Bool} (h1 : Ans z0 r0) (h2 : Ans z0 s0) : s0 = r0 := h2.trans h1.symm
def Post (z0 : T) (w : World) (e : Ending) (w' : World) : Prop := ∃ r0 : Bool, e = .returned (.bool r0) ∧ Ans z0 r0 ∧ Below w.heap.size w w'
theorem spec (v0 : Value) (z0 : T) (w : World) (h0 : IsS LString.rec w v0 z0) (f0 : ∀ x ∈ z0, LString.Fine x) (l0 : z0.length ≤ 1048576) :
    Calls Try.prog 12 #[v0] w (Post z0 w) := by
  have HC := Lib.hid (l9Text v0 z0 w h0.is f0)
  clear h0 f0
  go_enter Try.func12, Try.ntmps12
  go_wp2_with fail
  refine HC.out.mono ?_
  rintro e _ ⟨rfl, rfl⟩
  go_wp2_with fail
  go_ret
  exact ⟨_, rfl, rfl, Below.refl _ _⟩
theorem impl (v0 : Value) (z0 : T) (w : World) (h0 : IsS LString.rec w v0 z0) (f0 : ∀ x ∈ z0, LString.Fine x) (l0 : z0.length ≤ 1048576) :
    Calls Try.prog 14 #[v0] w (Post z0 w) := (isText v0 z0 w h0.is f0).mono fun e w' h => ⟨_, h.1, rfl, by rw [← h.2]; exact Below.refl _ _⟩
end Go.Proofs.Ytfkppgnffhbfjaa.IsTextC
