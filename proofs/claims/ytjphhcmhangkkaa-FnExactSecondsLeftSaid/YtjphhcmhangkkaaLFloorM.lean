/- The laws' helpers markFloor, heldFloor: the slices written over, and read again. -/
import Derived.Test.YtjphhcmhangkkaaLFloorD
import Derived.Test.YtjphhcmhangkkaaLIntM
import Derived.Test.YtjphhcmhangkkaaLShareM
namespace Go.Proofs.Ytjphhcmhangkkaa.LFloor
open Go.RowKit Bs
set_option linter.unusedVariables false
def mks (m : Nat) (r : R) : R := { r with waiting := LInt.marks m r.waiting r.waiting.length, shares := LShare.marks (m + 1 * r.waiting.length) r.shares r.shares.length }
def Marked (w : World) (A B m : Nat) (v : Value) (r : R) (e : Ending) (w' : World) : Prop :=
  e = .returned (.int .i64 (m + 1 * r.waiting.length + 3 * r.shares.length : Nat)) ∧ OwnB A B v (mks m r) w' ∧ Apart A B w w'
def MarkedN (w : World) (A B N m : Nat) (v : Value) (r : R) (e : Ending) (w' : World) : Prop :=
  e = .returned (.int .i64 (N : Nat)) ∧ OwnB A B v (mks m r) w' ∧ Apart A B w w'
set_option maxRecDepth 100000 in
set_option maxHeartbeats 800000 in
theorem mark (A B m : Nat) (v : Value) (r : R) (w : World) (hm0 : 0 < m) (hm : m + 1 * r.waiting.length + 3 * r.shares.length ≤ 8000000) (hB : B ≤ w.heap.size) (h : OwnB A B v r w) :
    Calls Try.prog 15 #[v, .int .i64 m] w (Marked w A B m v r) := by
  obtain ⟨s3, s4, rfl, h3, h4, d3_4⟩ := OwnB.slices h
  obtain ⟨W0, hW⟩ : ∃ W : World, W = w.alloc (.cells #[.int .i64 r.turns, .int .i64 r.seconds, .int .i64 r.speaking, s3, s4] 25) := ⟨_, rfl⟩
  have hb : Below w.heap.size w W0 := by rw [hW]; exact (Below.refl _ _).alloc (Nat.le_refl _) _
  have HA := Lib.hid (show Apart A B w W0 from Apart.of_below hb)
  have HS := Lib.hid hb.size
  obtain ⟨A3, B3, hn3, hA3, hB3, ht3, hs3⟩ := own_tight hB h3
  have HT3 := Lib.hid ((Bs.OwnB.loc ht3 (Nat.le_trans hB3 hB)).kept hb)
  have HR3 := Lib.hid (And.intro hA3 (And.intro hn3 hB3))
  obtain ⟨A4, B4, hn4, hA4, hB4, ht4, hs4⟩ := own_tight hB h4
  have HT4 := Lib.hid ((Bs.OwnB.loc ht4 (Nat.le_trans hB4 hB)).kept hb)
  have HR4 := Lib.hid (And.intro hA4 (And.intro hn4 hB4))
  have DD3_4 := Lib.hid d3_4
  have HD3_4 := Lib.hid (tight_apart d3_4 hs3 hs4)
  have BX0 := Lib.hid (show Bs.Loc w.heap.size (w.heap.size + 1) (fun W => Bx W w.heap.size 25 #[.int .i64 r.turns, .int .i64 r.seconds, .int .i64 r.speaking, s3, s4]) W0 by rw [hW]; exact Bx.loc (Bx.new _ _ _))
  obtain ⟨N1, hN1⟩ : ∃ N : Nat, N = m + 1 * r.waiting.length := ⟨_, rfl⟩
  have HN1 := Lib.hid hN1
  obtain ⟨N2, hN2⟩ : ∃ N : Nat, N = m + 1 * r.waiting.length + 3 * r.shares.length := ⟨_, rfl⟩
  have HN2 := Lib.hid hN2
  rw [show Marked w A B m _ r = MarkedN w A B N2 m _ r by unfold Marked MarkedN; rw [← hN2]]
  have hm2 : N2 ≤ 8000000 := by omega
  clear hN1 hN2
  clear h h3 ht3 hs3 hA3 hB3 hn3 h4 ht4 hs4 hA4 hB4 hn4 d3_4
  go_enter Try.func15, Try.ntmps15
  go_wp2_with fail
  rw [← hW]
  clear hW hb
  refine (LInt.markS A3 B3 m s3 r.waiting W0 (by omega) (by omega) HT3.out.now).mono ?_
  rintro e W1 ⟨rfl, ho, hap⟩
  rw [← HN1.out]
  have hw1 := hap.size
  replace HT4 := Lib.hid (HT4.out.apart hap HD3_4.out.symm)
  replace HT3 := Lib.hid (Bs.OwnB.loc ho (by have := HR3.out; have := HS.out; omega))
  replace HA := Lib.hid (HA.out.trans (apart_wide hap HR3.out.1 HR3.out.2.1 HR3.out.2.2))
  replace BX0 := Lib.hid (BX0.out.apart hap (.inr (by have := HR3.out; have := HS.out; omega)))
  have q4 := BX0.out.now.cell 4
  simp only [List.getElem?_toArray, List.getElem?_cons_zero, List.getElem?_cons_succ] at q4
  clear ho hap
  go_wp2_with fail
  rw [HN1.out]
  refine (LShare.markS A4 B4 (m + 1 * r.waiting.length) s4 r.shares W1 (by omega) (by omega) HT4.out.now).mono ?_
  rintro e W2 ⟨rfl, ho, hap⟩
  rw [← HN2.out]
  have hw2 := hap.size
  replace HT3 := Lib.hid (HT3.out.apart hap HD3_4.out)
  replace HT4 := Lib.hid (Bs.OwnB.loc ho (by have := HR4.out; have := HS.out; omega))
  replace HA := Lib.hid (HA.out.trans (apart_wide hap HR4.out.1 HR4.out.2.1 HR4.out.2.2))
  clear ho hap
  go_wp2_with fail
  go_ret
  exact ⟨rfl, ⟨⟨s3, s4, rfl, own_wide HT3.out.now HR3.out.1, own_wide HT4.out.now HR4.out.1, DD3_4.out⟩, bnd_of (r := mks m r) ⟨(fun k hk => Nat.lt_of_lt_of_le (HT3.out.now.2 k hk) HR3.out.2.2), (fun k hk => Nat.lt_of_lt_of_le (HT4.out.now.2 k hk) HR4.out.2.2)⟩ rfl⟩, HA.out⟩
set_option maxRecDepth 100000 in
set_option maxHeartbeats 800000 in
theorem held (A m : Nat) (v : Value) (r : R) (w : World) (hm0 : 0 < m) (hm : m + 1 * r.waiting.length + 3 * r.shares.length ≤ 8000000) (h : Own w A v (mks m r)) :
    Calls Try.prog 16 #[v, .int .i64 m] w fun e w' => e = .returned (.int .i64 (m + 1 * r.waiting.length + 3 * r.shares.length : Nat)) ∧ Below w.heap.size w w' := by
  obtain ⟨s3, s4, rfl, h3, h4, d3_4⟩ := h
  obtain ⟨W0, hW⟩ : ∃ W : World, W = w.alloc (.cells #[.int .i64 (mks m r).turns, .int .i64 (mks m r).seconds, .int .i64 (mks m r).speaking, s3, s4] 25) := ⟨_, rfl⟩
  have hb : Below w.heap.size w W0 := by rw [hW]; exact (Below.refl _ _).alloc (Nat.le_refl _) _
  have BX0 := Lib.hid (show Bx W0 w.heap.size 25 #[.int .i64 (mks m r).turns, .int .i64 (mks m r).seconds, .int .i64 (mks m r).speaking, s3, s4] by rw [hW]; exact Bx.new _ _ _)
  have HO3 := Lib.hid (show Bs.Own LInt.rec 3 W0 A s3 (LInt.marks m r.waiting r.waiting.length) from Bs.Own.kept h3 hb)
  have HO4 := Lib.hid (show Bs.Own LShare.rec 64 W0 A s4 (LShare.marks (m + 1 * r.waiting.length) r.shares r.shares.length) from Bs.Own.kept h4 hb)
  obtain ⟨N1, hN1⟩ : ∃ N : Nat, N = m + 1 * r.waiting.length := ⟨_, rfl⟩
  have HN1 := Lib.hid hN1
  obtain ⟨N2, hN2⟩ : ∃ N : Nat, N = m + 1 * r.waiting.length + 3 * r.shares.length := ⟨_, rfl⟩
  have HN2 := Lib.hid hN2
  clear h3 h4
  have ne1 : ¬ ((N1 : Int) < 0) := by omega
  have ne2 : ¬ ((N2 : Int) < 0) := by omega
  have HMO := Lib.hid hm
  rw [← hN2] at hm ⊢
  clear hN1 hN2
  go_enter Try.func16, Try.ntmps16
  go_wp2_with fail
  rw [← hW]
  clear hW
  refine (LInt.heldS A m s3 r.waiting W0 (by omega) (by have := HMO.out; omega) HO3.out).mono ?_
  rintro e W1 ⟨rfl, hb1⟩
  rw [← HN1.out]
  replace hb := hb.trans (hb1.mono hb.size)
  replace HO4 := Lib.hid (HO4.out.kept hb1)
  replace BX0 := Lib.hid (BX0.out.kept hb1)
  have q4 := BX0.out.cell 4
  simp only [List.getElem?_toArray, List.getElem?_cons_zero, List.getElem?_cons_succ] at q4
  clear hb1
  go_wp2_with fail
  rw [HN1.out]
  refine (LShare.heldS A (m + 1 * r.waiting.length) s4 r.shares W1 (by omega) (by have := HMO.out; omega) HO4.out).mono ?_
  rintro e W2 ⟨rfl, hb1⟩
  rw [← HN2.out]
  replace hb := hb.trans (hb1.mono hb.size)
  clear hb1
  go_wp2_with fail
  go_ret
  exact ⟨rfl, hb⟩
end Go.Proofs.Ytjphhcmhangkkaa.LFloor
