/- IsValidAmendment: what it answers, on both sides. No condition. -/
import Derived.Test.YtfkppgnffhbfjaaAmG
namespace Go.Proofs.Ytfkppgnffhbfjaa.IsValidAmendmentC
open Go.RowKit Bs Word Am AmA AmG
set_option linter.unusedVariables false
def Ans (z0 : M) (r0 : Bool) : Prop := r0 = good z0
theorem same {z0 : M} {r0 s0 : Bool} (h1 : Ans z0 r0) (h2 : Ans z0 s0) : s0 = r0 := h2.trans h1.symm
def Post (z0 : M) (w : World) (e : Ending) (w' : World) : Prop := ∃ r0 : Bool, e = .returned (.bool r0) ∧ Ans z0 r0 ∧ Below w.heap.size w w'
set_option maxRecDepth 100000 in
set_option maxHeartbeats 1600000 in
theorem spec (v0 : Value) (z0 : M) (w : World) (h0 : LAmendment.IsQ w v0 z0) (f0 : LAmendment.Fine z0) (l3 : z0.words.length ≤ 1048576) :
    Calls Try.prog 17 #[v0] w (Post z0 w) := by
  obtain ⟨r, hr⟩ : ∃ r, r = z0 := ⟨_, rfl⟩
  subst hr
  have HI := Lib.hid (LAmendment.IsQ.is h0)
  replace h0 := HI.out
  obtain ⟨a3, n3, c3, rfl, HN3, hb3, hm3, HIW0⟩ := open_is h0
  clear h0
  obtain ⟨W, hW⟩ : ∃ W : World, W = w.alloc (Obj.cells #[.int .i64 r.kind, .int .i64 r.pos, .int .i64 r.count, .slice a3 n3 c3] 31) := ⟨_, rfl⟩
  have hb : Below w.heap.size w W := by rw [hW]; exact (Below.refl _ _).alloc (Nat.le_refl _) _
  have B0 := Lib.hid (show Bx W w.heap.size 31 #[.int .i64 r.kind, .int .i64 r.pos, .int .i64 r.count, .slice a3 n3 c3] by rw [hW]; exact Bx.new _ _ _)
  have HC := Lib.hid (l9Good _ r W (LAmendment.Is.below HI.out hb) f0)
  have q0 := B0.out.cell 0
  have q1 := B0.out.cell 1
  have q2 := B0.out.cell 2
  have q3 := B0.out.cell 3
  simp only [List.getElem?_toArray, List.getElem?_cons_zero, List.getElem?_cons_succ] at q0 q1 q2 q3
  go_enter Try.func17, Try.ntmps17
  go_wp2_with fail
  rw [← hW]
  clear hW
  refine HC.out.mono ?_
  rintro e w1 ⟨rfl, hb1⟩
  go_wp2_with fail
  go_ret
  exact ⟨_, rfl, rfl, hb.trans (hb1.mono hb.size)⟩
theorem impl (v0 : Value) (z0 : M) (w : World) (h0 : LAmendment.IsQ w v0 z0) (f0 : LAmendment.Fine z0) (l3 : z0.words.length ≤ 1048576) :
    Calls Try.prog 19 #[v0] w (Post z0 w) := (isValid v0 z0 w (LAmendment.IsQ.is h0) f0).mono fun e w' h => ⟨_, h.1, rfl, h.2⟩
end Go.Proofs.Ytfkppgnffhbfjaa.IsValidAmendmentC
