/- The laws' helper eqProposal at two values of the same content. -/
import Derived.Test.YtclpdpfnlmfogaaDoorJ1
import Derived.Test.YtclpdpfnlmfogaaDoorLAmendmentE
namespace Go.Proofs.YtclpdpfnlmfogaaDoor.LProposal
open Go.RowKit Bs
set_option linter.unusedVariables false
set_option maxRecDepth 100000 in
set_option maxHeartbeats 1600000 in
theorem eq (v v' : Value) (r : R) (w : World) (h : Is w v r) (h' : Is w v' r) :
    Calls Tryd.prog 86 #[v, v'] w fun e w' => e = .returned (.bool true) ∧ Below w.heap.size w w' := by
  obtain ⟨s4, rfl, h4⟩ := h
  obtain ⟨s4', rfl, h4'⟩ := h'
  obtain ⟨a4, cp4, rfl, h4⟩ := h4
  obtain ⟨a4', cp4', rfl, h4'⟩ := h4'
  have n0 : (r.id != r.id) = false := by simp
  have n1 : (r.weight != r.weight) = false := by simp
  obtain ⟨W0, hW⟩ : ∃ W : World, W = (w.alloc (.cells #[.int .i64 r.id, .int .i64 r.kind, .int .i64 r.pos, .int .i64 r.count, .slice a4 r.words.length cp4, .int .i64 r.weight] 42)).alloc (.cells #[.int .i64 r.id, .int .i64 r.kind, .int .i64 r.pos, .int .i64 r.count, .slice a4' r.words.length cp4', .int .i64 r.weight] 42) := ⟨_, rfl⟩
  have hb : Below w.heap.size w W0 := by rw [hW]; exact ((Below.refl _ _).alloc (Nat.le_refl _) _).alloc (by simp) _
  have B0 := Lib.hid (show Bx W0 w.heap.size 42 #[.int .i64 r.id, .int .i64 r.kind, .int .i64 r.pos, .int .i64 r.count, .slice a4 r.words.length cp4, .int .i64 r.weight] by rw [hW]; exact (Bx.new w 42 #[.int .i64 r.id, .int .i64 r.kind, .int .i64 r.pos, .int .i64 r.count, .slice a4 r.words.length cp4, .int .i64 r.weight]).alloc _)
  have B1 := Lib.hid (show Bx W0 (w.heap.size + 1) 42 #[.int .i64 r.id, .int .i64 r.kind, .int .i64 r.pos, .int .i64 r.count, .slice a4' r.words.length cp4', .int .i64 r.weight] by rw [hW]; have := Bx.new (w.alloc (.cells #[.int .i64 r.id, .int .i64 r.kind, .int .i64 r.pos, .int .i64 r.count, .slice a4 r.words.length cp4, .int .i64 r.weight] 42)) 42 #[.int .i64 r.id, .int .i64 r.kind, .int .i64 r.pos, .int .i64 r.count, .slice a4' r.words.length cp4', .int .i64 r.weight]; simpa using this)
  have HQ := Lib.hid (fun w2 (hb2 : Below w.heap.size w w2) => LAmendment.eq _ _ (ch r) w2 (is_ch (r := r) (Bs.Is.below _ ⟨a4, cp4, rfl, h4⟩ hb2)) (is_ch (r := r) (Bs.Is.below _ ⟨a4', cp4', rfl, h4'⟩ hb2)))
  clear h4 h4'
  go_enter Tryd.func86, Tryd.ntmps86
  go_wp2_with fail
  rw [← hW]
  clear hW
  refine (HQ.out _ hb).mono ?_
  rintro e W1 ⟨rfl, hb1⟩
  replace B0 := Lib.hid (B0.out.kept hb1)
  replace B1 := Lib.hid (B1.out.kept hb1)
  have x5 := B0.out.cell 5
  have y5 := B1.out.cell 5
  simp only [List.getElem?_toArray, List.getElem?_cons_zero, List.getElem?_cons_succ] at x5 y5
  have hb2 := hb.trans (hb1.mono hb.size)
  go_wp2_with fail
  go_ret
  exact ⟨rfl, hb2⟩
end Go.Proofs.YtclpdpfnlmfogaaDoor.LProposal
