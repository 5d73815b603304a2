/- The laws' helpers markVoters, heldVoters: the slices written over, and read again. -/
import Derived.Test.YtdjnaoaniokbgaaLVotersD
import Derived.Test.YtdjnaoaniokbgaaLIntM
import Derived.Test.YtdjnaoaniokbgaaLProxyM
namespace Go.Proofs.Ytdjnaoaniokbgaa.LVoters
open Go.RowKit Bs
set_option linter.unusedVariables false
def mks (m : Nat) (r : R) : R := { r with weights := LInt.marks m r.weights r.weights.length, proxies := LProxy.marks (m + 1 * r.weights.length) r.proxies r.proxies.length }
def Marked (w : World) (A B m : Nat) (v : Value) (r : R) (e : Ending) (w' : World) : Prop :=
  e = .returned (.int .i64 (m + 1 * r.weights.length + 2 * r.proxies.length : Nat)) ∧ OwnB A B v (mks m r) w' ∧ Apart A B w w'
def MarkedN (w : World) (A B N m : Nat) (v : Value) (r : R) (e : Ending) (w' : World) : Prop :=
  e = .returned (.int .i64 (N : Nat)) ∧ OwnB A B v (mks m r) w' ∧ Apart A B w w'
set_option maxRecDepth 100000 in
set_option maxHeartbeats 800000 in
theorem mark (A B m : Nat) (v : Value) (r : R) (w : World) (hm0 : 0 < m) (hm : m + 1 * r.weights.length + 2 * r.proxies.length ≤ 8000000) (hB : B ≤ w.heap.size) (h : OwnB A B v r w) :
    Calls Try.prog 48 #[v, .int .i64 m] w (Marked w A B m v r) := by
  obtain ⟨s0, s1, rfl, h0, h1, d0_1⟩ := OwnB.slices h
  obtain ⟨W0, hW⟩ : ∃ W : World, W = w.alloc (.cells #[s0, s1] 27) := ⟨_, rfl⟩
  have hb : Below w.heap.size w W0 := by rw [hW]; exact (Below.refl _ _).alloc (Nat.le_refl _) _
  have HA := Lib.hid (show Apart A B w W0 from Apart.of_below hb)
  have HS := Lib.hid hb.size
  obtain ⟨A0, B0, hn0, hA0, hB0, ht0, hs0⟩ := own_tight hB h0
  have HT0 := Lib.hid ((Bs.OwnB.loc ht0 (Nat.le_trans hB0 hB)).kept hb)
  have HR0 := Lib.hid (And.intro hA0 (And.intro hn0 hB0))
  obtain ⟨A1, B1, hn1, hA1, hB1, ht1, hs1⟩ := own_tight hB h1
  have HT1 := Lib.hid ((Bs.OwnB.loc ht1 (Nat.le_trans hB1 hB)).kept hb)
  have HR1 := Lib.hid (And.intro hA1 (And.intro hn1 hB1))
  have DD0_1 := Lib.hid d0_1
  have HD0_1 := Lib.hid (tight_apart d0_1 hs0 hs1)
  have BX0 := Lib.hid (show Bs.Loc w.heap.size (w.heap.size + 1) (fun W => Bx W w.heap.size 27 #[s0, s1]) W0 by rw [hW]; exact Bx.loc (Bx.new _ _ _))
  obtain ⟨N1, hN1⟩ : ∃ N : Nat, N = m + 1 * r.weights.length := ⟨_, rfl⟩
  have HN1 := Lib.hid hN1
  obtain ⟨N2, hN2⟩ : ∃ N : Nat, N = m + 1 * r.weights.length + 2 * r.proxies.length := ⟨_, rfl⟩
  have HN2 := Lib.hid hN2
  rw [show Marked w A B m _ r = MarkedN w A B N2 m _ r by unfold Marked MarkedN; rw [← hN2]]
  have hm2 : N2 ≤ 8000000 := by omega
  clear hN1 hN2
  clear h h0 ht0 hs0 hA0 hB0 hn0 h1 ht1 hs1 hA1 hB1 hn1 d0_1
  go_enter Try.func48, Try.ntmps48
  go_wp2_with fail
  rw [← hW]
  clear hW hb
  refine (LInt.markS A0 B0 m s0 r.weights W0 (by omega) (by omega) HT0.out.now).mono ?_
  rintro e W1 ⟨rfl, ho, hap⟩
  rw [← HN1.out]
  have hw1 := hap.size
  replace HT1 := Lib.hid (HT1.out.apart hap HD0_1.out.symm)
  replace HT0 := Lib.hid (Bs.OwnB.loc ho (by have := HR0.out; have := HS.out; omega))
  replace HA := Lib.hid (HA.out.trans (apart_wide hap HR0.out.1 HR0.out.2.1 HR0.out.2.2))
  replace BX0 := Lib.hid (BX0.out.apart hap (.inr (by have := HR0.out; have := HS.out; omega)))
  have q1 := BX0.out.now.cell 1
  simp only [List.getElem?_toArray, List.getElem?_cons_zero, List.getElem?_cons_succ] at q1
  clear ho hap
  go_wp2_with fail
  rw [HN1.out]
  refine (LProxy.markS A1 B1 (m + 1 * r.weights.length) s1 r.proxies W1 (by omega) (by omega) HT1.out.now).mono ?_
  rintro e W2 ⟨rfl, ho, hap⟩
  rw [← HN2.out]
  have hw2 := hap.size
  replace HT0 := Lib.hid (HT0.out.apart hap HD0_1.out)
  replace HT1 := Lib.hid (Bs.OwnB.loc ho (by have := HR1.out; have := HS.out; omega))
  replace HA := Lib.hid (HA.out.trans (apart_wide hap HR1.out.1 HR1.out.2.1 HR1.out.2.2))
  clear ho hap
  go_wp2_with fail
  go_ret
  exact ⟨rfl, ⟨⟨s0, s1, rfl, own_wide HT0.out.now HR0.out.1, own_wide HT1.out.now HR1.out.1, DD0_1.out⟩, bnd_of ⟨(fun k hk => Nat.lt_of_lt_of_le (HT0.out.now.2 k hk) HR0.out.2.2), (fun k hk => Nat.lt_of_lt_of_le (HT1.out.now.2 k hk) HR1.out.2.2)⟩ rfl⟩, HA.out⟩
set_option maxRecDepth 100000 in
set_option maxHeartbeats 800000 in
theorem held (A m : Nat) (v : Value) (r : R) (w : World) (hm0 : 0 < m) (hm : m + 1 * r.weights.length + 2 * r.proxies.length ≤ 8000000) (h : Own w A v (mks m r)) :
    Calls Try.prog 51 #[v, .int .i64 m] w fun e w' => e = .returned (.int .i64 (m + 1 * r.weights.length + 2 * r.proxies.length : Nat)) ∧ Below w.heap.size w w' := by
  obtain ⟨s0, s1, rfl, h0, h1, d0_1⟩ := h
  obtain ⟨W0, hW⟩ : ∃ W : World, W = w.alloc (.cells #[s0, s1] 27) := ⟨_, rfl⟩
  have hb : Below w.heap.size w W0 := by rw [hW]; exact (Below.refl _ _).alloc (Nat.le_refl _) _
  have BX0 := Lib.hid (show Bx W0 w.heap.size 27 #[s0, s1] by rw [hW]; exact Bx.new _ _ _)
  have HO0 := Lib.hid (show Bs.Own LInt.rec 3 W0 A s0 (LInt.marks m r.weights r.weights.length) from Bs.Own.kept h0 hb)
  have HO1 := Lib.hid (show Bs.Own LProxy.rec 70 W0 A s1 (LProxy.marks (m + 1 * r.weights.length) r.proxies r.proxies.length) from Bs.Own.kept h1 hb)
  obtain ⟨N1, hN1⟩ : ∃ N : Nat, N = m + 1 * r.weights.length := ⟨_, rfl⟩
  have HN1 := Lib.hid hN1
  obtain ⟨N2, hN2⟩ : ∃ N : Nat, N = m + 1 * r.weights.length + 2 * r.proxies.length := ⟨_, rfl⟩
  have HN2 := Lib.hid hN2
  clear h0 h1
  have ne1 : ¬ ((N1 : Int) < 0) := by omega
  have ne2 : ¬ ((N2 : Int) < 0) := by omega
  have HMO := Lib.hid hm
  rw [← hN2] at hm ⊢
  clear hN1 hN2
  go_enter Try.func51, Try.ntmps51
  go_wp2_with fail
  rw [← hW]
  clear hW
  refine (LInt.heldS A m s0 r.weights W0 (by omega) (by have := HMO.out; omega) HO0.out).mono ?_
  rintro e W1 ⟨rfl, hb1⟩
  rw [← HN1.out]
  replace hb := hb.trans (hb1.mono hb.size)
  replace HO1 := Lib.hid (HO1.out.kept hb1)
  replace BX0 := Lib.hid (BX0.out.kept hb1)
  have q1 := BX0.out.cell 1
  simp only [List.getElem?_toArray, List.getElem?_cons_zero, List.getElem?_cons_succ] at q1
  clear hb1
  go_wp2_with fail
  rw [HN1.out]
  refine (LProxy.heldS A (m + 1 * r.weights.length) s1 r.proxies W1 (by omega) (by have := HMO.out; omega) HO1.out).mono ?_
  rintro e W2 ⟨rfl, hb1⟩
  rw [← HN2.out]
  replace hb := hb.trans (hb1.mono hb.size)
  clear hb1
  go_wp2_with fail
  go_ret
  exact ⟨rfl, hb⟩
end Go.Proofs.Ytdjnaoaniokbgaa.LVoters
