/- RevokeProxy: what it answers, on both sides. No condition. -/
import Derived.Test.YtdjnaoaniokbgaaVoX
import Derived.Test.YtdjnaoaniokbgaaVoW
import Derived.Test.YtdjnaoaniokbgaaVoH
namespace Go.Proofs.Ytdjnaoaniokbgaa.RevokeProxyC
open Go.RowKit Bs Word Sq IntF Vo VoA VoN VoB VoP VoX
set_option linter.unusedVariables false
noncomputable def answer (r : V) (m : Int) : V × Bool := if (good r && has r.proxies m) = true then (revoked r m, true) else (zeroV, false)
def Ans (r : V) (m : Int) (r0 : V) (r1 : Bool) : Prop := (r0, r1) = answer r m
theorem same {r : V} {m : Int} {r0 s0 : V} {r1 s1 : Bool} (h1 : Ans r m r0 r1) (h2 : Ans r m s0 s1) : r0 = s0 ∧ r1 = s1 := by
  have h := h1.trans h2.symm
  exact ⟨congrArg Prod.fst h, congrArg Prod.snd h⟩
theorem len0 {r : V} {m : Int} {r0 : V} {r1 : Bool} (h : Ans r m r0 r1) : r0.weights.length ≤ 1048576 ∧ r0.proxies.length ≤ 1048576 := by
  unfold Ans answer at h
  split at h
  · rename_i hg
    have h1 := congrArg Prod.fst h; simp only at h1; subst h1
    rw [Bool.and_eq_true] at hg
    have h2 := lens (good_of hg.1)
    have h3 := others_len r.proxies m
    exact ⟨by show r.weights.length ≤ _; omega, by show (others r.proxies m).length ≤ _; omega⟩
  · have h1 := congrArg Prod.fst h; simp only at h1; subst h1; simp [zeroV]
theorem no1 {r : V} {m : Int} (h : good r = false) : Ans r m zeroV false := by unfold Ans answer; rw [h]; rfl
theorem no2 {r : V} {m : Int} (h : has r.proxies m = false) : Ans r m zeroV false := by unfold Ans answer; rw [h, Bool.and_false]; rfl
theorem yes {r : V} {m : Int} (hg : good r = true) (h : has r.proxies m = true) : Ans r m (revoked r m) true := by unfold Ans answer; rw [h, hg]; rfl
def Post (r : V) (m : Int) (w : World) (e : Ending) (w' : World) : Prop := ∃ v0 r0 r1, e = .returned (.tuple #[v0, .bool r1]) ∧ Ans r m r0 r1 ∧ LVoters.Own w' w.heap.size v0 r0 ∧ Below w.heap.size w w'
theorem no3 {r : V} {m : Int} (h : (good r && inB m 0 ((r.weights.length : Int) - 1)) = false) : Ans r m zeroV false := by
  cases hg : good r with
  | false => exact no1 hg
  | true =>
    refine no2 ?_
    cases hh : has r.proxies m with
    | false => rfl
    | true => rw [hg, has_in (good_of hg).p hh] at h; cases h
set_option maxRecDepth 100000 in
set_option maxHeartbeats 1600000 in
theorem spec (v0 : Value) (r : V) (m : Int) (w : World) (h0 : LVoters.IsQ w v0 r) (f0 : LVoters.Fine r) (l0 : r.weights.length ≤ 1048576) (l1 : r.proxies.length ≤ 1048576) : Calls Try.prog 32 #[v0, .int .i64 m] w (Post r m w) := by
  obtain ⟨a0, n0, c0, a1, n1, c1, rfl, HN0, HN1, hb0, hb1', hm0, hm1, HQ0, HQ1, HIQ⟩ := open_isq h0
  clear h0
  have HI := Lib.hid (LVoters.IsQ.is HIQ.out)
  have HL := Lib.hid (And.intro l0 l1)
  clear l0 l1 f0
  obtain ⟨W, hW⟩ : ∃ W : World, W = (w.alloc (Obj.cells #[.slice a0 n0 c0, .slice a1 n1 c1] 27)).alloc (Obj.cells #[.slice none 0 0, .slice none 0 0] 27) := ⟨_, rfl⟩
  have hbW : Below w.heap.size w W := by rw [hW]; exact ((Below.refl _ _).alloc (Nat.le_refl _) _).alloc (by simp) _
  have HZ := Lib.hid (show W.heap.size = w.heap.size + 2 by rw [hW]; simp)
  have B0 := Lib.hid (show Bx W w.heap.size 27 #[.slice a0 n0 c0, .slice a1 n1 c1] by rw [hW]; exact (Bx.new _ _ _).alloc _)
  have BR := Lib.hid (show Bx W (w.heap.size + 1) 27 #[.slice none 0 0, .slice none 0 0] by rw [hW]; have := Bx.new (w.alloc (Obj.cells #[.slice a0 n0 c0, .slice a1 n1 c1] 27)) 27 #[.slice none 0 0, .slice none 0 0]; simpa using this)
  have HC := Lib.hid (VoH.l12Voter _ r m W (LVoters.Is.below HI.out hbW) HL.out.1 HL.out.2)
  have q0 := B0.out.cell 0
  have q1 := B0.out.cell 1
  simp only [List.getElem?_toArray, List.getElem?_cons_zero, List.getElem?_cons_succ] at q0 q1
  go_enter Try.func32, Try.ntmps32
  go_wp2_with fail
  rw [← hW]
  clear hW
  refine HC.out.mono ?_
  rintro e w1 ⟨rfl, hb1⟩
  replace BR := Lib.hid (BR.out.kept hb1)
  replace B0 := Lib.hid (B0.out.kept hb1)
  replace HZ := Lib.hid (show w.heap.size + 2 ≤ w1.heap.size by have := HZ.out; have := hb1.size; omega)
  replace hbW := hbW.trans (hb1.mono hbW.size)
  clear hb1
  clear q0 q1
  have q0 := B0.out.cell 0
  have q1 := B0.out.cell 1
  simp only [List.getElem?_toArray, List.getElem?_cons_zero, List.getElem?_cons_succ] at q0 q1
  cases hg : (good r && inB m 0 ((r.weights.length : Int) - 1)) with
  | false =>
    have HA := Lib.hid (show Ans r m zeroV false from no3 hg)
    clear hg
    have BR5 := BR.out
    have r0 := BR5.cell 0
    have r1 := BR5.cell 1
    simp only [List.getElem?_toArray, List.getElem?_cons_zero, List.getElem?_cons_succ] at r0 r1
    have z0 := BR5.frozen 0
    have z1 := BR5.frozen 1
    have hRF := (Bx.set_ (Bx.set_ BR5 0 (.slice none 0 0)) 1 (.slice none 0 0))
    have c0 := hRF.cell 0
    have c1 := hRF.cell 1
    simp at c0 c1
    clear hRF
    go_wp2_with fail
    refine bodyPost_ret (v := .tuple #[.agg #[.slice none 0 0, .slice none 0 0], .bool false]) (by simp [results, Try.results32, go_sem, c0, c1]) rfl ?_
    exact ⟨_, zeroV, false, rfl, HA.out, LVoters.Own.zero, (Below.setCell (Below.setCell hbW (p := ⟨w.heap.size + 1, 0, none⟩) (by show w.heap.size ≤ w.heap.size + 1; omega) (.slice none 0 0)) (p := ⟨w.heap.size + 1, 1, none⟩) (by show w.heap.size ≤ w.heap.size + 1; omega) (.slice none 0 0))⟩
  | true =>
  rw [Bool.and_eq_true] at hg
  have HGG := Lib.hid hg.1
  have HGP := Lib.hid (good_of hg.1)
  clear hg
  obtain ⟨t, ht⟩ : ∃ t, t = nxt r.proxies m := ⟨_, rfl⟩
  have HN := VoA.l12Next _ r m w1 (LVoters.Is.below HI.out hbW)
  rw [← ht] at HN
  have HN := Lib.hid HN
  have HNH := Lib.hid (show (t < 0) ↔ has r.proxies m = false by rw [ht]; exact nxt_has HGP.out.p m)
  clear ht
  go_wp2_with fail
  refine HN.out.mono ?_
  rintro e w2 ⟨rfl, hb1⟩
  replace BR := Lib.hid (BR.out.kept hb1)
  replace B0 := Lib.hid (B0.out.kept hb1)
  replace HZ := Lib.hid (show w.heap.size + 2 ≤ w2.heap.size by have := HZ.out; have := hb1.size; omega)
  replace hbW := hbW.trans (hb1.mono hbW.size)
  clear hb1
  clear q0 q1 HN
  have q0 := B0.out.cell 0
  have q1 := B0.out.cell 1
  simp only [List.getElem?_toArray, List.getElem?_cons_zero, List.getElem?_cons_succ] at q0 q1
  by_cases hn : t < 0
  · have HA := Lib.hid (show Ans r m zeroV false from no2 (HNH.out.1 hn))
    have BR5 := BR.out
    have r0 := BR5.cell 0
    have r1 := BR5.cell 1
    simp only [List.getElem?_toArray, List.getElem?_cons_zero, List.getElem?_cons_succ] at r0 r1
    have z0 := BR5.frozen 0
    have z1 := BR5.frozen 1
    have hRF := (Bx.set_ (Bx.set_ BR5 0 (.slice none 0 0)) 1 (.slice none 0 0))
    have c0 := hRF.cell 0
    have c1 := hRF.cell 1
    simp at c0 c1
    clear hRF
    go_wp2_with fail
    refine bodyPost_ret (v := .tuple #[.agg #[.slice none 0 0, .slice none 0 0], .bool false]) (by simp [results, Try.results32, go_sem, c0, c1]) rfl ?_
    exact ⟨_, zeroV, false, rfl, HA.out, LVoters.Own.zero, (Below.setCell (Below.setCell hbW (p := ⟨w.heap.size + 1, 0, none⟩) (by show w.heap.size ≤ w.heap.size + 1; omega) (.slice none 0 0)) (p := ⟨w.heap.size + 1, 1, none⟩) (by show w.heap.size ≤ w.heap.size + 1; omega) (.slice none 0 0))⟩
  have HA := Lib.hid (yes HGG.out (show has r.proxies m = true by cases h : has r.proxies m with
    | true => rfl
    | false => exact absurd (HNH.out.2 h) hn))
  have HWP := Lib.hid (VoW.l12Without _ r m w2 (LVoters.IsQ.below HIQ.out hbW) HL.out.1 HL.out.2)
  go_wp2_with fail
  refine HWP.out.mono ?_
  rintro e w3 ⟨v, rfl, hO, hb1⟩
  obtain ⟨u0, u1, rfl, p0, p1, d01⟩ := hO
  obtain ⟨b3, m3, d3, rfl⟩ := own_slice p0
  obtain ⟨b4, m4, d4, rfl⟩ := own_slice p1
  have BR5 := BR.out.kept hb1
  replace hbW := hbW.trans (hb1.mono hbW.size)
  have hz := HZ.out
  clear q0 q1 hb1 HWP
  have r0 := BR5.cell 0
  have r1 := BR5.cell 1
  simp only [List.getElem?_toArray, List.getElem?_cons_zero, List.getElem?_cons_succ] at r0 r1
  have z0 := BR5.frozen 0
  have z1 := BR5.frozen 1
  have hRF := (Bx.set_ (Bx.set_ BR5 0 (.slice b3 m3 d3)) 1 (.slice b4 m4 d4))
  have c0 := hRF.cell 0
  have c1 := hRF.cell 1
  simp at c0 c1
  clear hRF
  go_wp2_with fail
  refine bodyPost_ret (v := .tuple #[.agg #[.slice b3 m3 d3, .slice b4 m4 d4], .bool true]) (by simp [results, Try.results32, go_sem, c0, c1]) rfl ?_
  exact ⟨_, revoked r m, true, rfl, HA.out, ⟨_, _, rfl, ((own_set (own_set p0 (p := ⟨w.heap.size + 1, 0, none⟩) (fun k hk => by have h2 := (p0.lt k hk).1; show k ≠ w.heap.size + 1; omega) (.slice b3 m3 d3)) (p := ⟨w.heap.size + 1, 1, none⟩) (fun k hk => by have h2 := (p0.lt k hk).1; show k ≠ w.heap.size + 1; omega) (.slice b4 m4 d4))).low (by omega), ((own_set (own_set p1 (p := ⟨w.heap.size + 1, 0, none⟩) (fun k hk => by have h2 := (p1.lt k hk).1; show k ≠ w.heap.size + 1; omega) (.slice b3 m3 d3)) (p := ⟨w.heap.size + 1, 1, none⟩) (fun k hk => by have h2 := (p1.lt k hk).1; show k ≠ w.heap.size + 1; omega) (.slice b4 m4 d4))).low (by omega), d01⟩, (Below.setCell (Below.setCell hbW (p := ⟨w.heap.size + 1, 0, none⟩) (by show w.heap.size ≤ w.heap.size + 1; omega) (.slice b3 m3 d3)) (p := ⟨w.heap.size + 1, 1, none⟩) (by show w.heap.size ≤ w.heap.size + 1; omega) (.slice b4 m4 d4))⟩
set_option maxRecDepth 100000 in
set_option maxHeartbeats 1600000 in
theorem impl (v0 : Value) (r : V) (m : Int) (w : World) (h0 : LVoters.IsQ w v0 r) (f0 : LVoters.Fine r) (l0 : r.weights.length ≤ 1048576) (l1 : r.proxies.length ≤ 1048576) : Calls Try.prog 30 #[v0, .int .i64 m] w (Post r m w) := by
  obtain ⟨a0, n0, c0, a1, n1, c1, rfl, HN0, HN1, hb0, hb1', hm0, hm1, HQ0, HQ1, HIQ⟩ := open_isq h0
  clear h0
  have HI := Lib.hid (LVoters.IsQ.is HIQ.out)
  have HL := Lib.hid (And.intro l0 l1)
  clear l0 l1 f0
  obtain ⟨W, hW⟩ : ∃ W : World, W = (w.alloc (Obj.cells #[.slice a0 n0 c0, .slice a1 n1 c1] 27)).alloc (Obj.cells #[.slice none 0 0, .slice none 0 0] 27) := ⟨_, rfl⟩
  have hbW : Below w.heap.size w W := by rw [hW]; exact ((Below.refl _ _).alloc (Nat.le_refl _) _).alloc (by simp) _
  have HZ := Lib.hid (show W.heap.size = w.heap.size + 2 by rw [hW]; simp)
  have B0 := Lib.hid (show Bx W w.heap.size 27 #[.slice a0 n0 c0, .slice a1 n1 c1] by rw [hW]; exact (Bx.new _ _ _).alloc _)
  have BR := Lib.hid (show Bx W (w.heap.size + 1) 27 #[.slice none 0 0, .slice none 0 0] by rw [hW]; have := Bx.new (w.alloc (Obj.cells #[.slice a0 n0 c0, .slice a1 n1 c1] 27)) 27 #[.slice none 0 0, .slice none 0 0]; simpa using this)
  have HC := Lib.hid (VoI.areVoters _ r W (LVoters.Is.below HI.out hbW) HL.out.1 HL.out.2)
  have q0 := B0.out.cell 0
  have q1 := B0.out.cell 1
  simp only [List.getElem?_toArray, List.getElem?_cons_zero, List.getElem?_cons_succ] at q0 q1
  go_enter Try.func30, Try.ntmps30
  go_wp2_with fail
  rw [← hW]
  clear hW
  refine HC.out.mono ?_
  rintro e w1 ⟨rfl, hb1⟩
  replace BR := Lib.hid (BR.out.kept hb1)
  replace B0 := Lib.hid (B0.out.kept hb1)
  replace HZ := Lib.hid (show w.heap.size + 2 ≤ w1.heap.size by have := HZ.out; have := hb1.size; omega)
  replace hbW := hbW.trans (hb1.mono hbW.size)
  clear hb1
  clear q0 q1
  have q0 := B0.out.cell 0
  have q1 := B0.out.cell 1
  simp only [List.getElem?_toArray, List.getElem?_cons_zero, List.getElem?_cons_succ] at q0 q1
  cases hg : good r with
  | false =>
    have HA := Lib.hid (show Ans r m zeroV false from no1 hg)
    clear hg
    have BR5 := BR.out
    have r0 := BR5.cell 0
    have r1 := BR5.cell 1
    simp only [List.getElem?_toArray, List.getElem?_cons_zero, List.getElem?_cons_succ] at r0 r1
    have z0 := BR5.frozen 0
    have z1 := BR5.frozen 1
    have hRF := (Bx.set_ (Bx.set_ BR5 0 (.slice none 0 0)) 1 (.slice none 0 0))
    have c0 := hRF.cell 0
    have c1 := hRF.cell 1
    simp at c0 c1
    clear hRF
    go_wp2_with fail
    refine bodyPost_ret (v := .tuple #[.agg #[.slice none 0 0, .slice none 0 0], .bool false]) (by simp [results, Try.results30, go_sem, c0, c1]) rfl ?_
    exact ⟨_, zeroV, false, rfl, HA.out, LVoters.Own.zero, (Below.setCell (Below.setCell hbW (p := ⟨w.heap.size + 1, 0, none⟩) (by show w.heap.size ≤ w.heap.size + 1; omega) (.slice none 0 0)) (p := ⟨w.heap.size + 1, 1, none⟩) (by show w.heap.size ≤ w.heap.size + 1; omega) (.slice none 0 0))⟩
  | true =>
  have HGP := Lib.hid (good_of hg)
  have HGG := Lib.hid hg
  have HLN := Lib.hid (lens HGP.out)
  have HFP := Lib.hid (VoB.findProxy _ r m w1 (LVoters.Is.below HI.out hbW) HGP.out.p HL.out.2)
  clear hg
  have HPL := Lib.hid (pos_le r.proxies m)
  obtain ⟨k, hk⟩ : ∃ k, k = pos r.proxies m := ⟨_, rfl⟩
  rw [← hk] at HFP HPL
  have HKP := Lib.hid hk
  clear hk
  go_wp2_with fail
  refine HFP.out.mono ?_
  rintro e w2 ⟨rfl, hb1⟩
  replace BR := Lib.hid (BR.out.kept hb1)
  replace B0 := Lib.hid (B0.out.kept hb1)
  replace HZ := Lib.hid (show w.heap.size + 2 ≤ w2.heap.size by have := HZ.out; have := hb1.size; omega)
  replace hbW := hbW.trans (hb1.mono hbW.size)
  clear hb1
  clear q0 q1 HFP
  have q0 := B0.out.cell 0
  have q1 := B0.out.cell 1
  simp only [List.getElem?_toArray, List.getElem?_cons_zero, List.getElem?_cons_succ] at q0 q1
  cases hh : has r.proxies m with
  | false =>
    have HA := Lib.hid (no2 (r := r) hh)
    clear hh
    have BR5 := BR.out
    have r0 := BR5.cell 0
    have r1 := BR5.cell 1
    simp only [List.getElem?_toArray, List.getElem?_cons_zero, List.getElem?_cons_succ] at r0 r1
    have z0 := BR5.frozen 0
    have z1 := BR5.frozen 1
    have hRF := (Bx.set_ (Bx.set_ BR5 0 (.slice none 0 0)) 1 (.slice none 0 0))
    have c0 := hRF.cell 0
    have c1 := hRF.cell 1
    simp at c0 c1
    clear hRF
    go_wp2_with fail
    refine bodyPost_ret (v := .tuple #[.agg #[.slice none 0 0, .slice none 0 0], .bool false]) (by simp [results, Try.results30, go_sem, c0, c1]) rfl ?_
    exact ⟨_, zeroV, false, rfl, HA.out, LVoters.Own.zero, (Below.setCell (Below.setCell hbW (p := ⟨w.heap.size + 1, 0, none⟩) (by show w.heap.size ≤ w.heap.size + 1; omega) (.slice none 0 0)) (p := ⟨w.heap.size + 1, 1, none⟩) (by show w.heap.size ≤ w.heap.size + 1; omega) (.slice none 0 0))⟩
  | true =>
  have HA := Lib.hid (yes HGG.out hh)
  have HKL := Lib.hid (show k < r.proxies.length by rw [HKP.out]; exact has_lt hh)
  have HOE := Lib.hid (show r.proxies.take k ++ [] ++ r.proxies.drop (k + 1) = others r.proxies m by rw [HKP.out]; exact oth_yes HGP.out.p hh)
  clear hh
  have HWP := VoP.withProxies _ r k (k + 1) none 0 0 [] w2 (LVoters.IsQ.below HIQ.out hbW) (.inl ⟨rfl, rfl⟩) HPL.out HKL.out (by have := HLN.out; omega) (by have := HLN.out; omega) (by omega)
  rw [HOE.out, show (((k + 1 : Nat)) : Int) = (k : Int) + 1 by omega] at HWP
  have HWP := Lib.hid HWP
  have e1 : IntKind.i64.wrap ((k : Int) + 1) = (k : Int) + 1 := IntWalk.i64_in _ (by have := HPL.out; have := HLN.out; omega)
  go_wp2_with fail
  refine HWP.out.mono ?_
  rintro e w3 ⟨v, rfl, hO, hb1⟩
  obtain ⟨u0, u1, rfl, p0, p1, d01⟩ := hO
  obtain ⟨b3, m3, d3, rfl⟩ := own_slice p0
  obtain ⟨b4, m4, d4, rfl⟩ := own_slice p1
  have BR5 := BR.out.kept hb1
  replace hbW := hbW.trans (hb1.mono hbW.size)
  have hz := HZ.out
  clear q0 q1 hb1 HWP
  have r0 := BR5.cell 0
  have r1 := BR5.cell 1
  simp only [List.getElem?_toArray, List.getElem?_cons_zero, List.getElem?_cons_succ] at r0 r1
  have z0 := BR5.frozen 0
  have z1 := BR5.frozen 1
  have hRF := (Bx.set_ (Bx.set_ BR5 0 (.slice b3 m3 d3)) 1 (.slice b4 m4 d4))
  have c0 := hRF.cell 0
  have c1 := hRF.cell 1
  simp at c0 c1
  clear hRF
  go_wp2_with fail
  refine bodyPost_ret (v := .tuple #[.agg #[.slice b3 m3 d3, .slice b4 m4 d4], .bool true]) (by simp [results, Try.results30, go_sem, c0, c1]) rfl ?_
  exact ⟨_, revoked r m, true, rfl, HA.out, ⟨_, _, rfl, ((own_set (own_set p0 (p := ⟨w.heap.size + 1, 0, none⟩) (fun k hk => by have h2 := (p0.lt k hk).1; show k ≠ w.heap.size + 1; omega) (.slice b3 m3 d3)) (p := ⟨w.heap.size + 1, 1, none⟩) (fun k hk => by have h2 := (p0.lt k hk).1; show k ≠ w.heap.size + 1; omega) (.slice b4 m4 d4))).low (by omega), ((own_set (own_set p1 (p := ⟨w.heap.size + 1, 0, none⟩) (fun k hk => by have h2 := (p1.lt k hk).1; show k ≠ w.heap.size + 1; omega) (.slice b3 m3 d3)) (p := ⟨w.heap.size + 1, 1, none⟩) (fun k hk => by have h2 := (p1.lt k hk).1; show k ≠ w.heap.size + 1; omega) (.slice b4 m4 d4))).low (by omega), d01⟩, (Below.setCell (Below.setCell hbW (p := ⟨w.heap.size + 1, 0, none⟩) (by show w.heap.size ≤ w.heap.size + 1; omega) (.slice b3 m3 d3)) (p := ⟨w.heap.size + 1, 1, none⟩) (by show w.heap.size ≤ w.heap.size + 1; omega) (.slice b4 m4 d4))⟩
end Go.Proofs.Ytdjnaoaniokbgaa.RevokeProxyC
