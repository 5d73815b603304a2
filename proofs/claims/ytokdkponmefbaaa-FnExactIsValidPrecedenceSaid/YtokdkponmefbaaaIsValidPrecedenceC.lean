/- IsValidPrecedence, model and program: what both answer. -/
import Derived.Test.YtokdkponmefbaaaPrecG
import Derived.Test.YtokdkponmefbaaaPrecGI
namespace Go.Proofs.Ytokdkponmefbaaa.IsValidPrecedenceC
open Go.RowKit Bs PrecM PrecG
set_option linter.unusedVariables false
def Ans (z0 : LPrecedence.R) (r0 : Bool) : Prop := r0 = goodB z0.kinds z0.over
theorem same {z0 : LPrecedence.R} {r0 s0 : Bool} (h : Ans z0 r0) (h' : Ans z0 s0) : r0 = s0 := h.trans h'.symm
def BPost (z0 : LPrecedence.R) (w : World) (e : Ending) (w' : World) : Prop := ∃ r0, e = .returned (.bool r0) ∧ Ans z0 r0 ∧ Below w.heap.size w w'
set_option maxRecDepth 100000 in
theorem spec (v0 : Value) (z0 : LPrecedence.R) (w : World) (h0 : LPrecedence.IsS w v0 z0) (f0 : LPrecedence.Fine z0) (l0 : z0.over.length ≤ 1048576) :
    Calls Try.prog 50 #[v0] w (BPost z0 w) := by
  obtain ⟨s, rfl, b, o, c, rfl, h⟩ := h0
  have hb := (Below.refl w.heap.size w).alloc (Nat.le_refl _) (.cells #[.int .i64 z0.kinds, .slice (some ⟨b, o, none⟩) z0.over.length c] 26)
  have HG := Lib.hid (PrecG.l4Good _ z0 (w.alloc (.cells #[.int .i64 z0.kinds, .slice (some ⟨b, o, none⟩) z0.over.length c] 26)) ⟨_, rfl, Bs.Is.below _ (Bs.IsS.is _ ⟨b, o, c, rfl, h⟩) hb⟩)
  clear h f0
  go_enter Try.func50, Try.ntmps50
  go_wp2_with fail
  refine HG.out.mono ?_
  rintro e w1 ⟨rfl, hb1⟩
  have hb2 := hb.trans (hb1.mono hb.size)
  go_wp2_with fail
  go_ret
  exact ⟨_, rfl, rfl, hb2⟩
theorem impl (v0 : Value) (z0 : LPrecedence.R) (w : World) (h0 : LPrecedence.IsS w v0 z0) (f0 : LPrecedence.Fine z0) (l0 : z0.over.length ≤ 1048576) :
    Calls Try.prog 22 #[v0] w (BPost z0 w) :=
  (PrecG.isValid v0 z0 w h0.is).mono fun e w' ⟨he, hb⟩ => ⟨_, he, rfl, hb⟩
end Go.Proofs.Ytokdkponmefbaaa.IsValidPrecedenceC
