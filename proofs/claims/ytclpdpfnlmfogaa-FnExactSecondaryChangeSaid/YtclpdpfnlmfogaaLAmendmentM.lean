/- The laws' helpers markAmendment, heldAmendment: the slices written over, and read again. -/
import Derived.Test.YtclpdpfnlmfogaaLAmendmentD
import Derived.Test.YtclpdpfnlmfogaaLStringM
namespace Go.Proofs.Ytclpdpfnlmfogaa.LAmendment
open Go.RowKit Bs
set_option linter.unusedVariables false
def mks (m : Nat) (r : R) : R := { r with words := LString.marks m r.words r.words.length }
def Marked (w : World) (A B m : Nat) (v : Value) (r : R) (e : Ending) (w' : World) : Prop :=
  e = .returned (.int .i64 (m + 1 * r.words.length : Nat)) ∧ OwnB A B v (mks m r) w' ∧ Apart A B w w'
def MarkedN (w : World) (A B N m : Nat) (v : Value) (r : R) (e : Ending) (w' : World) : Prop :=
  e = .returned (.int .i64 (N : Nat)) ∧ OwnB A B v (mks m r) w' ∧ Apart A B w w'
set_option maxRecDepth 100000 in
set_option maxHeartbeats 800000 in
theorem mark (A B m : Nat) (v : Value) (r : R) (w : World) (hm0 : 0 < m) (hm : m + 1 * r.words.length ≤ 8000000) (hB : B ≤ w.heap.size) (h : OwnB A B v r w) :
    Calls Try.prog 23 #[v, .int .i64 m] w (Marked w A B m v r) := by
  obtain ⟨s3, rfl, h3⟩ := OwnB.slices h
  obtain ⟨W0, hW⟩ : ∃ W : World, W = w.alloc (.cells #[.int .i64 r.kind, .int .i64 r.pos, .int .i64 r.count, s3] 38) := ⟨_, rfl⟩
  have hb : Below w.heap.size w W0 := by rw [hW]; exact (Below.refl _ _).alloc (Nat.le_refl _) _
  have HA := Lib.hid (show Apart A B w W0 from Apart.of_below hb)
  have HS := Lib.hid hb.size
  obtain ⟨A3, B3, hn3, hA3, hB3, ht3, hs3⟩ := own_tight hB h3
  have HT3 := Lib.hid ((Bs.OwnB.loc ht3 (Nat.le_trans hB3 hB)).kept hb)
  have HR3 := Lib.hid (And.intro hA3 (And.intro hn3 hB3))
  have BX0 := Lib.hid (show Bs.Loc w.heap.size (w.heap.size + 1) (fun W => Bx W w.heap.size 38 #[.int .i64 r.kind, .int .i64 r.pos, .int .i64 r.count, s3]) W0 by rw [hW]; exact Bx.loc (Bx.new _ _ _))
  obtain ⟨N1, hN1⟩ : ∃ N : Nat, N = m + 1 * r.words.length := ⟨_, rfl⟩
  have HN1 := Lib.hid hN1
  rw [show Marked w A B m _ r = MarkedN w A B N1 m _ r by unfold Marked MarkedN; rw [← hN1]]
  have hm2 : N1 ≤ 8000000 := by omega
  clear hN1
  clear h h3 ht3 hs3 hA3 hB3 hn3
  go_enter Try.func23, Try.ntmps23
  go_wp2_with fail
  rw [← hW]
  clear hW hb
  refine (LString.markS A3 B3 m s3 r.words W0 (by omega) (by omega) HT3.out.now).mono ?_
  rintro e W1 ⟨rfl, ho, hap⟩
  rw [← HN1.out]
  have hw1 := hap.size
  replace HT3 := Lib.hid (Bs.OwnB.loc ho (by have := HR3.out; have := HS.out; omega))
  replace HA := Lib.hid (HA.out.trans (apart_wide hap HR3.out.1 HR3.out.2.1 HR3.out.2.2))
  clear ho hap
  go_wp2_with fail
  go_ret
  exact ⟨rfl, ⟨⟨s3, rfl, own_wide HT3.out.now HR3.out.1⟩, bnd_of (r := mks m r) ((fun k hk => Nat.lt_of_lt_of_le (HT3.out.now.2 k hk) HR3.out.2.2)) rfl⟩, HA.out⟩
set_option maxRecDepth 100000 in
set_option maxHeartbeats 800000 in
theorem held (A m : Nat) (v : Value) (r : R) (w : World) (hm0 : 0 < m) (hm : m + 1 * r.words.length ≤ 8000000) (h : Own w A v (mks m r)) :
    Calls Try.prog 24 #[v, .int .i64 m] w fun e w' => e = .returned (.int .i64 (m + 1 * r.words.length : Nat)) ∧ Below w.heap.size w w' := by
  obtain ⟨s3, rfl, h3⟩ := h
  obtain ⟨W0, hW⟩ : ∃ W : World, W = w.alloc (.cells #[.int .i64 (mks m r).kind, .int .i64 (mks m r).pos, .int .i64 (mks m r).count, s3] 38) := ⟨_, rfl⟩
  have hb : Below w.heap.size w W0 := by rw [hW]; exact (Below.refl _ _).alloc (Nat.le_refl _) _
  have BX0 := Lib.hid (show Bx W0 w.heap.size 38 #[.int .i64 (mks m r).kind, .int .i64 (mks m r).pos, .int .i64 (mks m r).count, s3] by rw [hW]; exact Bx.new _ _ _)
  have HO3 := Lib.hid (show Bs.Own LString.rec 9 W0 A s3 (LString.marks m r.words r.words.length) from Bs.Own.kept h3 hb)
  obtain ⟨N1, hN1⟩ : ∃ N : Nat, N = m + 1 * r.words.length := ⟨_, rfl⟩
  have HN1 := Lib.hid hN1
  clear h3
  have ne1 : ¬ ((N1 : Int) < 0) := by omega
  have HMO := Lib.hid hm
  rw [← hN1] at hm ⊢
  clear hN1
  go_enter Try.func24, Try.ntmps24
  go_wp2_with fail
  rw [← hW]
  clear hW
  refine (LString.heldS A m s3 r.words W0 (by omega) (by have := HMO.out; omega) HO3.out).mono ?_
  rintro e W1 ⟨rfl, hb1⟩
  rw [← HN1.out]
  replace hb := hb.trans (hb1.mono hb.size)
  clear hb1
  go_wp2_with fail
  go_ret
  exact ⟨rfl, hb⟩
end Go.Proofs.Ytclpdpfnlmfogaa.LAmendment
