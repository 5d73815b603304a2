/- The laws' helper eqFloor at two values of the same content. -/
import Derived.Test.YtjphhcmhangkkaaLFloorD
import Derived.Test.YtjphhcmhangkkaaLIntE
import Derived.Test.YtjphhcmhangkkaaLShareE
namespace Go.Proofs.Ytjphhcmhangkkaa.LFloor
open Go.RowKit Bs
set_option linter.unusedVariables false
set_option maxRecDepth 100000 in
set_option maxHeartbeats 1600000 in
theorem eq (v v' : Value) (r : R) (w : World) (h : Is w v r) (h' : Is w v' r) :
    Calls Try.prog 14 #[v, v'] w fun e w' => e = .returned (.bool true) ∧ Below w.heap.size w w' := by
  obtain ⟨s3, s4, rfl, h3, h4⟩ := h
  obtain ⟨s3', s4', rfl, h3', h4'⟩ := h'
  obtain ⟨a3, cp3, rfl, h3⟩ := h3
  obtain ⟨a3', cp3', rfl, h3'⟩ := h3'
  obtain ⟨a4, cp4, rfl, h4⟩ := h4
  obtain ⟨a4', cp4', rfl, h4'⟩ := h4'
  have n0 : (r.turns != r.turns) = false := by simp
  have n1 : (r.seconds != r.seconds) = false := by simp
  have n2 : (r.speaking != r.speaking) = false := by simp
  obtain ⟨W0, hW⟩ : ∃ W : World, W = (w.alloc (.cells #[.int .i64 r.turns, .int .i64 r.seconds, .int .i64 r.speaking, .slice a3 r.waiting.length cp3, .slice a4 r.shares.length cp4] 25)).alloc (.cells #[.int .i64 r.turns, .int .i64 r.seconds, .int .i64 r.speaking, .slice a3' r.waiting.length cp3', .slice a4' r.shares.length cp4'] 25) := ⟨_, rfl⟩
  have hb : Below w.heap.size w W0 := by rw [hW]; exact ((Below.refl _ _).alloc (Nat.le_refl _) _).alloc (by simp) _
  have B0 := Lib.hid (show Bx W0 w.heap.size 25 #[.int .i64 r.turns, .int .i64 r.seconds, .int .i64 r.speaking, .slice a3 r.waiting.length cp3, .slice a4 r.shares.length cp4] by rw [hW]; exact (Bx.new w 25 #[.int .i64 r.turns, .int .i64 r.seconds, .int .i64 r.speaking, .slice a3 r.waiting.length cp3, .slice a4 r.shares.length cp4]).alloc _)
  have B1 := Lib.hid (show Bx W0 (w.heap.size + 1) 25 #[.int .i64 r.turns, .int .i64 r.seconds, .int .i64 r.speaking, .slice a3' r.waiting.length cp3', .slice a4' r.shares.length cp4'] by rw [hW]; have := Bx.new (w.alloc (.cells #[.int .i64 r.turns, .int .i64 r.seconds, .int .i64 r.speaking, .slice a3 r.waiting.length cp3, .slice a4 r.shares.length cp4] 25)) 25 #[.int .i64 r.turns, .int .i64 r.seconds, .int .i64 r.speaking, .slice a3' r.waiting.length cp3', .slice a4' r.shares.length cp4']; simpa using this)
  have HI3 := Lib.hid (Bs.Is.below _ ⟨a3, cp3, rfl, h3⟩ hb)
  have HJ3 := Lib.hid (Bs.Is.below _ ⟨a3', cp3', rfl, h3'⟩ hb)
  have HI4 := Lib.hid (Bs.Is.below _ ⟨a4, cp4, rfl, h4⟩ hb)
  have HJ4 := Lib.hid (Bs.Is.below _ ⟨a4', cp4', rfl, h4'⟩ hb)
  clear h3 h3' h4 h4'
  go_enter Try.func14, Try.ntmps14
  go_wp2_with fail
  rw [← hW]
  clear hW
  refine (LInt.eqS _ _ r.waiting W0 HI3.out HJ3.out).mono ?_
  rintro e W1 ⟨rfl, hb1⟩
  replace hb := hb.trans (hb1.mono hb.size)
  replace B0 := Lib.hid (B0.out.kept hb1)
  replace B1 := Lib.hid (B1.out.kept hb1)
  replace HI4 := Lib.hid (Bs.Is.below _ HI4.out hb1)
  replace HJ4 := Lib.hid (Bs.Is.below _ HJ4.out hb1)
  have p4 := B0.out.cell 4
  have q4 := B1.out.cell 4
  simp only [List.getElem?_toArray, List.getElem?_cons_zero, List.getElem?_cons_succ] at p4 q4
  clear hb1
  go_wp2_with fail
  refine (LShare.eqS _ _ r.shares W1 HI4.out HJ4.out).mono ?_
  rintro e W2 ⟨rfl, hb1⟩
  replace hb := hb.trans (hb1.mono hb.size)
  clear hb1
  go_wp2_with fail
  go_ret
  exact ⟨rfl, hb⟩
end Go.Proofs.Ytjphhcmhangkkaa.LFloor
