/- The laws' helper eqPrecedence at two values of the same content. -/
import Derived.Test.YthhlhcojjeglkabLPrecedenceD
import Derived.Test.YthhlhcojjeglkabLIntA2E
namespace Go.Proofs.Ythhlhcojjeglkab.LPrecedence
open Go.RowKit Bs
set_option linter.unusedVariables false
set_option maxRecDepth 100000 in
set_option maxHeartbeats 800000 in
theorem eq (v v' : Value) (r : R) (w : World) (h : Is w v r) (h' : Is w v' r) :
    Calls Try.prog 10 #[v, v'] w fun e w' => e = .returned (.bool true) ∧ Below w.heap.size w w' := by
  obtain ⟨s, rfl, h⟩ := h
  obtain ⟨s', rfl, h'⟩ := h'
  obtain ⟨a, cp, rfl, h⟩ := h
  obtain ⟨a', cp', rfl, h'⟩ := h'
  have h0 : (r.kinds != r.kinds) = false := by simp
  obtain ⟨W, hW⟩ : ∃ W : World, W = (w.alloc (.cells #[.int .i64 r.kinds, .slice a r.over.length cp] 29)).alloc (.cells #[.int .i64 r.kinds, .slice a' r.over.length cp'] 29) := ⟨_, rfl⟩
  have hb : Below w.heap.size w W := by rw [hW]; exact ((Below.refl _ _).alloc (Nat.le_refl _) _).alloc (by simp) _
  have HC := Lib.hid (LIntA2.eqS _ _ r.over W (Bs.Is.below _ ⟨a, cp, rfl, h⟩ hb) (Bs.Is.below _ ⟨a', cp', rfl, h'⟩ hb))
  clear h h'
  go_enter Try.func10, Try.ntmps10
  go_wp2_with fail
  rw [← hW]
  refine HC.out.mono ?_
  rintro e w1 ⟨rfl, hb1⟩
  have hb2 := hb.trans (hb1.mono hb.size)
  go_wp2_with fail
  go_ret
  exact ⟨rfl, hb2⟩
end Go.Proofs.Ythhlhcojjeglkab.LPrecedence
