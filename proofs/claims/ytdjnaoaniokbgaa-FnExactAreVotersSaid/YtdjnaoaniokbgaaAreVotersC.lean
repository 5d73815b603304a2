/- AreVoters: what it answers, on both sides. No condition. -/
import Derived.Test.YtdjnaoaniokbgaaVoH
namespace Go.Proofs.Ytdjnaoaniokbgaa.AreVotersC
open Go.RowKit Bs Word Sq IntF Vo VoA VoN
set_option linter.unusedVariables false
def Ans (r : V) (r0 : Bool) : Prop := r0 = good r
theorem same {r : V} {r0 s0 : Bool} (h1 : Ans r r0) (h2 : Ans r s0) : s0 = r0 := h2.trans h1.symm
def Post (r : V) (w : World) (e : Ending) (w' : World) : Prop := ∃ r0 : Bool, e = .returned (.bool r0) ∧ Ans r r0 ∧ Below w.heap.size w w'
set_option maxRecDepth 100000 in
set_option maxHeartbeats 1600000 in
theorem spec (v0 : Value) (r : V) (w : World) (h0 : LVoters.IsQ w v0 r) (f0 : LVoters.Fine r) (l0 : r.weights.length ≤ 1048576) (l1 : r.proxies.length ≤ 1048576) : Calls Try.prog 44 #[v0] w (Post r w) := by
  have HL := Lib.hid (And.intro l0 l1)
  replace h0 := LVoters.IsQ.is h0
  obtain ⟨a0, n0, c0, a1, n1, c1, rfl, HN0, HN1, hb0, hb1', hm0, hm1, hc0, hc1, HI⟩ := open_is h0
  clear h0
  clear l0 l1 f0
  obtain ⟨W, hW⟩ : ∃ W : World, W = w.alloc (Obj.cells #[.slice a0 n0 c0, .slice a1 n1 c1] 27) := ⟨_, rfl⟩
  have hb : Below w.heap.size w W := by rw [hW]; exact (Below.refl _ _).alloc (Nat.le_refl _) _
  have HZ := Lib.hid (show W.heap.size = w.heap.size + 1 by rw [hW]; simp)
  have B0 := Lib.hid (show Bx W w.heap.size 27 #[.slice a0 n0 c0, .slice a1 n1 c1] by rw [hW]; exact Bx.new _ _ _)
  have HIW := Lib.hid (LVoters.Is.below HI.out hb)
  have q0 := B0.out.cell 0
  have q1 := B0.out.cell 1
  simp only [List.getElem?_toArray, List.getElem?_cons_zero, List.getElem?_cons_succ] at q0 q1
  have HC := Lib.hid (VoG.l12Good _ r W HIW.out HL.out.1 HL.out.2)
  go_enter Try.func44, Try.ntmps44
  go_upto_region 1 with fail
  rw [← hW]
  clear hW
  go_wp2_with fail
  refine HC.out.mono ?_
  rintro e w1 ⟨rfl, hb1⟩
  go_wp2_with fail
  go_ret
  exact ⟨_, rfl, rfl, hb.trans (hb1.mono hb.size)⟩
theorem impl (v0 : Value) (r : V) (w : World) (h0 : LVoters.IsQ w v0 r) (f0 : LVoters.Fine r) (l0 : r.weights.length ≤ 1048576) (l1 : r.proxies.length ≤ 1048576) : Calls Try.prog 19 #[v0] w (Post r w) := (VoI.areVoters v0 r w (LVoters.IsQ.is h0) l0 l1).mono fun e w' h => ⟨_, h.1, rfl, h.2⟩
end Go.Proofs.Ytdjnaoaniokbgaa.AreVotersC
