/- HeldWeights: what it answers, on both sides. No condition. -/
import Derived.Test.YtdjnaoaniokbgaaVoH
namespace Go.Proofs.Ytdjnaoaniokbgaa.HeldWeightsC
open Go.RowKit Bs Word Sq IntF Vo VoA VoN
set_option linter.unusedVariables false
noncomputable def answer (r : V) : List Int × Bool := if good r = true then (held r r.weights.length, true) else ([], false)
def Ans (r : V) (r0 : List Int) (r1 : Bool) : Prop := (r0, r1) = answer r
theorem same {r : V} {r0 s0 : List Int} {r1 s1 : Bool} (h1 : Ans r r0 r1) (h2 : Ans r s0 s1) : r0 = s0 ∧ r1 = s1 := by
  have h := h1.trans h2.symm
  exact ⟨congrArg Prod.fst h, congrArg Prod.snd h⟩
theorem len0 {r : V} {r0 : List Int} {r1 : Bool} (h : Ans r r0 r1) : r0.length ≤ 1048576 := by
  unfold Ans answer at h
  split at h
  · rename_i hg
    have h1 := congrArg Prod.fst h; simp only at h1; subst h1
    rw [held_len]; have := (good_of hg).n; omega
  · have h1 := congrArg Prod.fst h; simp only at h1; subst h1; simp
def Post (r : V) (w : World) (e : Ending) (w' : World) : Prop := ∃ v0 r0 r1, e = .returned (.tuple #[v0, .bool r1]) ∧ Ans r r0 r1 ∧ Own LInt.rec 3 w' w.heap.size v0 r0 ∧ Below w.heap.size w w'
set_option maxRecDepth 100000 in
set_option maxHeartbeats 1600000 in
theorem spec (v0 : Value) (r : V) (w : World) (h0 : LVoters.IsQ w v0 r) (f0 : LVoters.Fine r) (l0 : r.weights.length ≤ 1048576) (l1 : r.proxies.length ≤ 1048576) : Calls Try.prog 17 #[v0] w (Post r w) := by
  have HL := Lib.hid (And.intro l0 l1)
  replace h0 := LVoters.IsQ.is h0
  obtain ⟨a0, n0, c0, a1, n1, c1, rfl, HN0, HN1, hb0, hb1', hm0, hm1, hc0, hc1, HI⟩ := open_is h0
  clear h0
  clear l0 l1 f0
  obtain ⟨W, hW⟩ : ∃ W : World, W = w.alloc (Obj.cells #[.slice a0 n0 c0, .slice a1 n1 c1] 27) := ⟨_, rfl⟩
  have hb : Below w.heap.size w W := by rw [hW]; exact (Below.refl _ _).alloc (Nat.le_refl _) _
  have HZ := Lib.hid (show W.heap.size = w.heap.size + 1 by rw [hW]; simp)
  have B0 := Lib.hid (show Bx W w.heap.size 27 #[.slice a0 n0 c0, .slice a1 n1 c1] by rw [hW]; exact Bx.new _ _ _)
  have HIW := Lib.hid (LVoters.Is.below HI.out hb)
  have q0 := B0.out.cell 0
  have q1 := B0.out.cell 1
  simp only [List.getElem?_toArray, List.getElem?_cons_zero, List.getElem?_cons_succ] at q0 q1
  have HC := Lib.hid (VoG.l12Good _ r W HIW.out HL.out.1 HL.out.2)
  go_enter Try.func17, Try.ntmps17
  go_upto_region 1 with fail
  rw [← hW]
  clear hW
  go_wp2_with fail
  refine HC.out.mono ?_
  rintro e w1 ⟨rfl, hb1⟩
  have B1 := Lib.hid (B0.out.kept hb1)
  have hb2 := hb.trans (hb1.mono hb.size)
  clear q0 q1 hb1
  have q0 := B1.out.cell 0
  have q1 := B1.out.cell 1
  simp only [List.getElem?_toArray, List.getElem?_cons_zero, List.getElem?_cons_succ] at q0 q1
  cases hg : good r with
  | false =>
    have HA := Lib.hid (show Ans r [] false by unfold Ans answer; rw [hg]; rfl)
    have HO := Lib.hid (Own.start (T := LInt.rec) (E := 3) (w := w1) (A := w.heap.size) hb2.size)
    clear hg
    go_wp2_with fail
    go_ret2
    exact ⟨_, _, _, rfl, HA.out, HO.out, hb2.alloc hb2.size _⟩
  | true =>
    have HA := Lib.hid (show Ans r (held r r.weights.length) true by unfold Ans answer; rw [hg]; rfl)
    have HS := Lib.hid (VoH.l12Held _ r w1 (LVoters.Is.below HI.out hb2) HL.out.1 HL.out.2 (good_of hg))
    clear hg
    go_wp2_with fail
    refine HS.out.mono ?_
    rintro e w2 ⟨g, rfl, hgb, ho, hb3⟩
    have HO := Lib.hid (ho.low (show w.heap.size ≤ w1.heap.size + 1 by have := hb2.size; omega))
    clear ho
    go_wp2_with fail
    go_ret2
    exact ⟨_, _, _, rfl, HA.out, HO.out, hb2.trans (hb3.mono hb2.size)⟩
theorem impl (v0 : Value) (r : V) (w : World) (h0 : LVoters.IsQ w v0 r) (f0 : LVoters.Fine r) (l0 : r.weights.length ≤ 1048576) (l1 : r.proxies.length ≤ 1048576) : Calls Try.prog 16 #[v0] w (Post r w) := by
  cases hg : good r with
  | false =>
    refine (VoH.heldNo v0 r w (LVoters.IsQ.is h0) l0 l1 hg).mono ?_
    rintro e w' ⟨g, rfl, hgb, ho, hb⟩
    exact ⟨_, [], false, rfl, by unfold Ans answer; rw [hg]; rfl, ho.low (by omega), hb⟩
  | true =>
    refine (VoH.heldYes v0 r w (LVoters.IsQ.is h0) l0 l1 hg).mono ?_
    rintro e w' ⟨g, rfl, hgb, ho, hb⟩
    exact ⟨_, _, true, rfl, by unfold Ans answer; rw [hg]; rfl, ho.low (by omega), hb⟩
end Go.Proofs.Ytdjnaoaniokbgaa.HeldWeightsC
