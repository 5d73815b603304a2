/- The laws' helpers markPrecedence, heldPrecedence: the slice written over, and read again. -/
import Derived.Test.YthhlhcojjeglkabLPrecedenceD
import Derived.Test.YthhlhcojjeglkabLIntA2M
namespace Go.Proofs.Ythhlhcojjeglkab.LPrecedence
open Go.RowKit Bs
set_option linter.unusedVariables false
def mks (m : Nat) (r : R) : R := { r with over := LIntA2.marks m r.over r.over.length }
def Marked (w : World) (A B m : Nat) (v : Value) (r : R) (e : Ending) (w' : World) : Prop :=
  e = .returned (.int .i64 (m + 2 * r.over.length : Nat)) ∧ OwnB A B v (mks m r) w' ∧ Apart A B w w'
set_option maxRecDepth 100000 in
theorem mark (A B m : Nat) (v : Value) (r : R) (w : World) (hm0 : 0 < m) (hm : m + 2 * r.over.length ≤ 8000000) (hB : B ≤ w.heap.size) (h : OwnB A B v r w) :
    Calls Try.prog 11 #[v, .int .i64 m] w (Marked w A B m v r) := by
  obtain ⟨s, rfl, hs⟩ := h.1
  have h2 := OwnB.slice h
  obtain ⟨W, hW⟩ : ∃ W : World, W = w.alloc (.cells #[.int .i64 r.kinds, s] 29) := ⟨_, rfl⟩
  have hb : Below w.heap.size w W := by rw [hW]; exact (Below.refl _ _).alloc (Nat.le_refl _) _
  have HC := Lib.hid (LIntA2.markS A B m s r.over W hm0 hm ((Bs.OwnB.loc h2 hB).kept hb).now)
  have HBn := Lib.hid hb
  clear h hs h2
  go_enter Try.func11, Try.ntmps11
  go_wp2_with fail
  rw [← hW]
  refine HC.out.mono ?_
  rintro e w1 ⟨rfl, ho, hap⟩
  have HO := Lib.hid ho
  have HA := Lib.hid hap
  clear ho hap hb
  go_wp2_with fail
  go_ret
  exact ⟨rfl, ⟨⟨s, rfl, HO.out.1⟩, bnd_of (r := mks m r) HO.out.2 rfl⟩, (Apart.of_below HBn.out).trans HA.out⟩
set_option maxRecDepth 100000 in
theorem held (A m : Nat) (v : Value) (r : R) (w : World) (hm0 : 0 < m) (hm : m + 2 * r.over.length ≤ 8000000) (h : Own w A v (mks m r)) :
    Calls Try.prog 16 #[v, .int .i64 m] w fun e w' => e = .returned (.int .i64 (m + 2 * r.over.length : Nat)) ∧ Below w.heap.size w w' := by
  obtain ⟨s, rfl, hs⟩ := h
  obtain ⟨W, hW⟩ : ∃ W : World, W = w.alloc (.cells #[.int .i64 (mks m r).kinds, s] 29) := ⟨_, rfl⟩
  have hb : Below w.heap.size w W := by rw [hW]; exact (Below.refl _ _).alloc (Nat.le_refl _) _
  have HC := Lib.hid (LIntA2.heldS A m s r.over W hm0 hm (Bs.Own.kept hs hb))
  clear hs
  obtain ⟨N, hN⟩ : ∃ N : Nat, N = m + 2 * r.over.length := ⟨_, rfl⟩
  rw [← hN] at HC hm ⊢
  clear hN
  have hne : ¬ ((N : Int) < 0) := by omega
  go_enter Try.func16, Try.ntmps16
  go_wp2_with fail
  rw [← hW]
  refine HC.out.mono ?_
  rintro e w1 ⟨rfl, hb1⟩
  have hb2 := hb.trans (hb1.mono hb.size)
  go_wp2_with fail
  go_ret
  exact ⟨rfl, hb2⟩
end Go.Proofs.Ythhlhcojjeglkab.LPrecedence
