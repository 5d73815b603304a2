/- The laws' helper eqAmendment at two values of the same content. -/
import Derived.Test.YtclpdpfnlmfogaaDoorJ1
import Derived.Test.YtclpdpfnlmfogaaDoorLStringE
namespace Go.Proofs.YtclpdpfnlmfogaaDoor.LAmendment
open Go.RowKit Bs
set_option linter.unusedVariables false
set_option maxRecDepth 100000 in
set_option maxHeartbeats 1600000 in
theorem eq (v v' : Value) (r : R) (w : World) (h : Is w v r) (h' : Is w v' r) :
    Calls Tryd.prog 108 #[v, v'] w fun e w' => e = .returned (.bool true) ∧ Below w.heap.size w w' := by
  obtain ⟨s3, rfl, h3⟩ := h
  obtain ⟨s3', rfl, h3'⟩ := h'
  obtain ⟨a3, cp3, rfl, h3⟩ := h3
  obtain ⟨a3', cp3', rfl, h3'⟩ := h3'
  have n0 : (r.kind != r.kind) = false := by simp
  have n1 : (r.pos != r.pos) = false := by simp
  have n2 : (r.count != r.count) = false := by simp
  obtain ⟨W0, hW⟩ : ∃ W : World, W = (w.alloc (.cells #[.int .i64 r.kind, .int .i64 r.pos, .int .i64 r.count, .slice a3 r.words.length cp3] 26)).alloc (.cells #[.int .i64 r.kind, .int .i64 r.pos, .int .i64 r.count, .slice a3' r.words.length cp3'] 26) := ⟨_, rfl⟩
  have hb : Below w.heap.size w W0 := by rw [hW]; exact ((Below.refl _ _).alloc (Nat.le_refl _) _).alloc (by simp) _
  have B0 := Lib.hid (show Bx W0 w.heap.size 26 #[.int .i64 r.kind, .int .i64 r.pos, .int .i64 r.count, .slice a3 r.words.length cp3] by rw [hW]; exact (Bx.new w 26 #[.int .i64 r.kind, .int .i64 r.pos, .int .i64 r.count, .slice a3 r.words.length cp3]).alloc _)
  have B1 := Lib.hid (show Bx W0 (w.heap.size + 1) 26 #[.int .i64 r.kind, .int .i64 r.pos, .int .i64 r.count, .slice a3' r.words.length cp3'] by rw [hW]; have := Bx.new (w.alloc (.cells #[.int .i64 r.kind, .int .i64 r.pos, .int .i64 r.count, .slice a3 r.words.length cp3] 26)) 26 #[.int .i64 r.kind, .int .i64 r.pos, .int .i64 r.count, .slice a3' r.words.length cp3']; simpa using this)
  have HI3 := Lib.hid (Bs.Is.below _ ⟨a3, cp3, rfl, h3⟩ hb)
  have HJ3 := Lib.hid (Bs.Is.below _ ⟨a3', cp3', rfl, h3'⟩ hb)
  clear h3 h3'
  go_enter Tryd.func108, Tryd.ntmps108
  go_wp2_with fail
  rw [← hW]
  clear hW
  refine (LString.eqS _ _ r.words W0 HI3.out HJ3.out).mono ?_
  rintro e W1 ⟨rfl, hb1⟩
  replace hb := hb.trans (hb1.mono hb.size)
  clear hb1
  go_wp2_with fail
  go_ret
  exact ⟨rfl, hb⟩
end Go.Proofs.YtclpdpfnlmfogaaDoor.LAmendment
