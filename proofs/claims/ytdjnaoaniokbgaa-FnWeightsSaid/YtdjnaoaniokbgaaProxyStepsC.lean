/- ProxySteps: what it answers, on both sides. No condition. -/
import Derived.Test.YtdjnaoaniokbgaaVoH
namespace Go.Proofs.Ytdjnaoaniokbgaa.ProxyStepsC
open Go.RowKit Bs Word Sq IntF Vo VoA VoN
set_option linter.unusedVariables false
noncomputable def answer (r : V) (m : Int) : Int × Bool := if (good r && inB m 0 ((r.weights.length : Int) - 1)) = true then (((steps r.proxies m : Nat) : Int), true) else (0, false)
def Ans (r : V) (m : Int) (r0 : Int) (r1 : Bool) : Prop := (r0, r1) = answer r m
theorem same {r : V} {m : Int} {r0 s0 : Int} {r1 s1 : Bool} (h1 : Ans r m r0 r1) (h2 : Ans r m s0 s1) : r0 = s0 ∧ r1 = s1 := by
  have h := h1.trans h2.symm
  exact ⟨congrArg Prod.fst h, congrArg Prod.snd h⟩
def Post (r : V) (m : Int) (w : World) (e : Ending) (w' : World) : Prop := ∃ (r0 : Int) (r1 : Bool), e = .returned (.tuple #[.int .i64 r0, .bool r1]) ∧ Ans r m r0 r1 ∧ Below w.heap.size w w'
set_option maxRecDepth 100000 in
set_option maxHeartbeats 1600000 in
theorem spec (v0 : Value) (r : V) (m : Int) (w : World) (h0 : LVoters.IsQ w v0 r) (f0 : LVoters.Fine r) (l0 : r.weights.length ≤ 1048576) (l1 : r.proxies.length ≤ 1048576) : Calls Try.prog 42 #[v0, .int .i64 m] w (Post r m w) := by
  have HL := Lib.hid (And.intro l0 l1)
  replace h0 := LVoters.IsQ.is h0
  obtain ⟨a0, n0, c0, a1, n1, c1, rfl, HN0, HN1, hb0, hb1', hm0, hm1, hc0, hc1, HI⟩ := open_is h0
  clear h0
  clear l0 l1 f0
  obtain ⟨W, hW⟩ : ∃ W : World, W = w.alloc (Obj.cells #[.slice a0 n0 c0, .slice a1 n1 c1] 27) := ⟨_, rfl⟩
  have hb : Below w.heap.size w W := by rw [hW]; exact (Below.refl _ _).alloc (Nat.le_refl _) _
  have HZ := Lib.hid (show W.heap.size = w.heap.size + 1 by rw [hW]; simp)
  have B0 := Lib.hid (show Bx W w.heap.size 27 #[.slice a0 n0 c0, .slice a1 n1 c1] by rw [hW]; exact Bx.new _ _ _)
  have HIW := Lib.hid (LVoters.Is.below HI.out hb)
  have q0 := B0.out.cell 0
  have q1 := B0.out.cell 1
  simp only [List.getElem?_toArray, List.getElem?_cons_zero, List.getElem?_cons_succ] at q0 q1
  have HC := Lib.hid (VoH.l12Voter _ r m W HIW.out HL.out.1 HL.out.2)
  go_enter Try.func42, Try.ntmps42
  go_upto_region 1 with fail
  rw [← hW]
  clear hW
  go_wp2_with fail
  refine HC.out.mono ?_
  rintro e w1 ⟨rfl, hb1⟩
  have B1 := Lib.hid (B0.out.kept hb1)
  have hb2 := hb.trans (hb1.mono hb.size)
  clear q0 q1 hb1
  have q0 := B1.out.cell 0
  have q1 := B1.out.cell 1
  simp only [List.getElem?_toArray, List.getElem?_cons_zero, List.getElem?_cons_succ] at q0 q1
  cases hg : (good r && inB m 0 ((r.weights.length : Int) - 1)) with
  | false =>
    have HA := Lib.hid (show Ans r m 0 false by unfold Ans answer; rw [hg]; rfl)
    clear hg
    go_wp2_with fail
    go_ret2
    exact ⟨_, _, rfl, HA.out, hb2⟩
  | true =>
    have HA := Lib.hid (show Ans r m (((steps r.proxies m : Nat) : Int)) true by unfold Ans answer; rw [hg]; rfl)
    clear hg
    have HS := Lib.hid (VoA.l12Steps _ r m w1 (LVoters.Is.below HI.out hb2) HL.out.2)
    go_wp2_with fail
    refine HS.out.mono ?_
    rintro e w2 ⟨rfl, hb3⟩
    go_wp2_with fail
    go_ret2
    exact ⟨_, _, rfl, HA.out, hb2.trans (hb3.mono hb2.size)⟩
set_option maxRecDepth 100000 in
set_option maxHeartbeats 1600000 in
theorem impl (v0 : Value) (r : V) (m : Int) (w : World) (h0 : LVoters.IsQ w v0 r) (f0 : LVoters.Fine r) (l0 : r.weights.length ≤ 1048576) (l1 : r.proxies.length ≤ 1048576) : Calls Try.prog 24 #[v0, .int .i64 m] w (Post r m w) := by
  have HL := Lib.hid (And.intro l0 l1)
  replace h0 := LVoters.IsQ.is h0
  obtain ⟨a0, n0, c0, a1, n1, c1, rfl, HN0, HN1, hb0, hb1', hm0, hm1, hc0, hc1, HI⟩ := open_is h0
  clear h0
  clear l0 l1 f0
  obtain ⟨W, hW⟩ : ∃ W : World, W = w.alloc (Obj.cells #[.slice a0 n0 c0, .slice a1 n1 c1] 27) := ⟨_, rfl⟩
  have hb : Below w.heap.size w W := by rw [hW]; exact (Below.refl _ _).alloc (Nat.le_refl _) _
  have HZ := Lib.hid (show W.heap.size = w.heap.size + 1 by rw [hW]; simp)
  have B0 := Lib.hid (show Bx W w.heap.size 27 #[.slice a0 n0 c0, .slice a1 n1 c1] by rw [hW]; exact Bx.new _ _ _)
  have HIW := Lib.hid (LVoters.Is.below HI.out hb)
  have q0 := B0.out.cell 0
  have q1 := B0.out.cell 1
  simp only [List.getElem?_toArray, List.getElem?_cons_zero, List.getElem?_cons_succ] at q0 q1
  have HC := Lib.hid (VoI.areVoters _ r W HIW.out HL.out.1 HL.out.2)
  go_enter Try.func24, Try.ntmps24
  go_upto_region 1 with fail
  rw [← hW]
  clear hW
  go_wp2_with fail
  refine HC.out.mono ?_
  rintro e w1 ⟨rfl, hb1⟩
  have B1 := Lib.hid (B0.out.kept hb1)
  have hb2 := hb.trans (hb1.mono hb.size)
  clear q0 q1 hb1
  have q0 := B1.out.cell 0
  have q1 := B1.out.cell 1
  simp only [List.getElem?_toArray, List.getElem?_cons_zero, List.getElem?_cons_succ] at q0 q1
  cases hg : good r with
  | false =>
    have HA := Lib.hid (show Ans r m 0 false by unfold Ans answer; rw [hg]; rfl)
    clear hg
    go_wp2_with fail
    go_ret2
    exact ⟨_, _, rfl, HA.out, hb2⟩
  | true =>
    have HGP := Lib.hid (good_of hg)
    have HV := Lib.hid (VoV.isVoter _ r m w1 (LVoters.Is.below HI.out hb2))
    go_wp2_with fail
    refine HV.out.mono ?_
    rintro e w2 ⟨rfl, hb3⟩
    have B2 := Lib.hid (B1.out.kept hb3)
    replace hb2 := hb2.trans (hb3.mono hb2.size)
    clear q0 q1 hb3 B1
    have q0 := B2.out.cell 0
    have q1 := B2.out.cell 1
    simp only [List.getElem?_toArray, List.getElem?_cons_zero, List.getElem?_cons_succ] at q0 q1
    cases hv : inB m 0 ((r.weights.length : Int) - 1) with
    | false =>
      have HA := Lib.hid (show Ans r m 0 false by unfold Ans answer; rw [hg, hv]; rfl)
      clear hg hv
      go_wp2_with fail
      go_ret2
      exact ⟨_, _, rfl, HA.out, hb2⟩
    | true =>
      have HA := Lib.hid (show Ans r m (((steps r.proxies m : Nat) : Int)) true by unfold Ans answer; rw [hg, hv]; rfl)
      have hva := inB_yes hv
      have hz0 : 0 ≤ m := by omega
      have hz1 : m < (n0 : Int) := by have := HN0.out; omega
      clear hg hv hva
      have HVN := VoV.voterNodes _ r w2 (LVoters.Is.below HI.out hb2) HL.out.1 HGP.out.p
      rw [HN0.out] at HVN
      have HVN := Lib.hid HVN
      go_wp2_with fail
      refine HVN.out.mono ?_
      rintro e w3 ⟨gn, rfl, hgn, hon, hb4⟩
      have HS := Lib.hid (VoV.holderAndSteps r m w3 _ gn n0 HN0.out HGP.out.p (ends_all HGP.out.e _) hz0 hz1 HL.out.2 (Lib.hid hon))
      have hb5 := hb2.trans (hb4.mono hb2.size)
      clear hon HVN
      go_wp2_with fail
      refine HS.out.mono ?_
      rintro e w4 ⟨rfl, hw4⟩
      subst hw4
      go_wp2_with fail
      go_ret2
      exact ⟨_, _, rfl, HA.out, hb5⟩
end Go.Proofs.Ytdjnaoaniokbgaa.ProxyStepsC
