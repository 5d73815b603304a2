/- IsValidFloor: what it answers, on both sides. No condition. -/
import Derived.Test.YtjphhcmhangkkaaFlX
import Derived.Test.YtjphhcmhangkkaaFlV
import Derived.Test.YtjphhcmhangkkaaFlO
namespace Go.Proofs.Ytjphhcmhangkkaa.IsValidFloorC
open Go.RowKit Bs Word Sq IntF Fl FlA FlG FlO FlX
set_option linter.unusedVariables false
def Ans (z0 : F) (r0 : Bool) : Prop := r0 = good z0
theorem same {z0 : F} {r0 s0 : Bool} (h1 : Ans z0 r0) (h2 : Ans z0 s0) : s0 = r0 := h2.trans h1.symm
def Post (z0 : F) (w : World) (e : Ending) (w' : World) : Prop := ∃ r0 : Bool, e = .returned (.bool r0) ∧ Ans z0 r0 ∧ Below w.heap.size w w'
set_option maxRecDepth 100000 in
set_option maxHeartbeats 1600000 in
theorem spec (v0 : Value) (z0 : F) (w : World) (h0 : LFloor.IsQ w v0 z0) (f0 : LFloor.Fine z0) (l3 : z0.waiting.length ≤ 1048576) (l4 : z0.shares.length ≤ 1048576) :
    Calls Try.prog 18 #[v0] w (Post z0 w) := by
  obtain ⟨r, hr⟩ : ∃ r, r = z0 := ⟨_, rfl⟩
  subst hr
  obtain ⟨a3, n3, c3, a4, n4, c4, rfl, HN3, HN4, hb3, hb4, hm3, hm4, HQ3, HQ4, HIQ⟩ := open_isq h0
  clear h0
  have HI := Lib.hid (LFloor.IsQ.is HIQ.out)
  obtain ⟨W, hW⟩ : ∃ W : World, W = w.alloc (Obj.cells #[.int .i64 r.turns, .int .i64 r.seconds, .int .i64 r.speaking, .slice a3 n3 c3, .slice a4 n4 c4] 25) := ⟨_, rfl⟩
  have hb : Below w.heap.size w W := by rw [hW]; exact (Below.refl _ _).alloc (Nat.le_refl _) _
  have B0 := Lib.hid (show Bx W w.heap.size 25 #[.int .i64 r.turns, .int .i64 r.seconds, .int .i64 r.speaking, .slice a3 n3 c3, .slice a4 n4 c4] by rw [hW]; exact Bx.new _ _ _)
  have HIW := Lib.hid (LFloor.Is.below HI.out hb)
  have HC := Lib.hid (FlG.l8Good _ r W HIW.out)
  have q0 := B0.out.cell 0
  have q1 := B0.out.cell 1
  have q2 := B0.out.cell 2
  have q3 := B0.out.cell 3
  have q4 := B0.out.cell 4
  simp only [List.getElem?_toArray, List.getElem?_cons_zero, List.getElem?_cons_succ] at q0 q1 q2 q3 q4
  go_enter Try.func18, Try.ntmps18
  go_wp2_with fail
  rw [← hW]
  refine HC.out.mono ?_
  rintro e w1 ⟨rfl, hb1⟩
  go_wp2_with fail
  go_ret
  exact ⟨_, rfl, rfl, hb.trans (hb1.mono hb.size)⟩
theorem impl (v0 : Value) (z0 : F) (w : World) (h0 : LFloor.IsQ w v0 z0) (f0 : LFloor.Fine z0) (l3 : z0.waiting.length ≤ 1048576) (l4 : z0.shares.length ≤ 1048576) :
    Calls Try.prog 20 #[v0] w (Post z0 w) := (FlV.isValid v0 z0 w (LFloor.IsQ.is h0)).mono fun e w' h => ⟨_, h.1, rfl, h.2⟩
end Go.Proofs.Ytjphhcmhangkkaa.IsValidFloorC
