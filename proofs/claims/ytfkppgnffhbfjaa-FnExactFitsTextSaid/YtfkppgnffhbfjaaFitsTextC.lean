/- FitsText: what it answers, on both sides. No condition. -/
import Derived.Test.YtfkppgnffhbfjaaAmF
namespace Go.Proofs.Ytfkppgnffhbfjaa.FitsTextC
open Go.RowKit Bs Word Am AmA AmG AmE AmF
set_option linter.unusedVariables false
def Ans (z0 : T) (z1 : M) (r0 r1 : Bool) : Prop := r0 = (textB z0 && (good z1 && fits z0 z1)) ∧ r1 = (textB z0 && good z1)
theorem same {z0 : T} {z1 : M} {r0 r1 s0 s1 : Bool} (h1 : Ans z0 z1 r0 r1) (h2 : Ans z0 z1 s0 s1) : r0 = s0 ∧ r1 = s1 := ⟨h1.1.trans h2.1.symm, h1.2.trans h2.2.symm⟩
def Post (z0 : T) (z1 : M) (w : World) (e : Ending) (w' : World) : Prop := ∃ r0 r1 : Bool, e = .returned (.tuple #[.bool r0, .bool r1]) ∧ Ans z0 z1 r0 r1 ∧ Below w.heap.size w w'
theorem spec (v0 : Value) (z0 : T) (v1 : Value) (z1 : M) (w : World) (h0 : IsS LString.rec w v0 z0) (f0 : ∀ x ∈ z0, LString.Fine x) (l0 : z0.length ≤ 1048576) (h1 : LAmendment.IsQ w v1 z1) (f1 : LAmendment.Fine z1) (l3 : z1.words.length ≤ 1048576) :
    Calls Try.prog 21 #[v0, v1] w (Post z0 z1 w) := (fitsTextS v0 v1 z0 z1 w (.inr h0) (LAmendment.IsQ.is h1) f0 f1 l0).mono fun e w' h => ⟨_, _, h.1, ⟨rfl, rfl⟩, h.2⟩
theorem impl (v0 : Value) (z0 : T) (v1 : Value) (z1 : M) (w : World) (h0 : IsS LString.rec w v0 z0) (f0 : ∀ x ∈ z0, LString.Fine x) (l0 : z0.length ≤ 1048576) (h1 : LAmendment.IsQ w v1 z1) (f1 : LAmendment.Fine z1) (l3 : z1.words.length ≤ 1048576) :
    Calls Try.prog 22 #[v0, v1] w (Post z0 z1 w) := (fitsText v0 v1 z0 z1 w (.inr h0) (LAmendment.IsQ.is h1) f0 f1 l0).mono fun e w' h => ⟨_, _, h.1, ⟨rfl, rfl⟩, h.2⟩
end Go.Proofs.Ytfkppgnffhbfjaa.FitsTextC
