/- The laws' helper eqVoters at two values of the same content. -/
import Derived.Test.YtdjnaoaniokbgaaLVotersD
import Derived.Test.YtdjnaoaniokbgaaLIntE
import Derived.Test.YtdjnaoaniokbgaaLProxyE
namespace Go.Proofs.Ytdjnaoaniokbgaa.LVoters
open Go.RowKit Bs
set_option linter.unusedVariables false
set_option maxRecDepth 100000 in
set_option maxHeartbeats 1600000 in
theorem eq (v v' : Value) (r : R) (w : World) (h : Is w v r) (h' : Is w v' r) :
    Calls Try.prog 46 #[v, v'] w fun e w' => e = .returned (.bool true) ∧ Below w.heap.size w w' := by
  obtain ⟨s0, s1, rfl, h0, h1⟩ := h
  obtain ⟨s0', s1', rfl, h0', h1'⟩ := h'
  obtain ⟨a0, cp0, rfl, h0⟩ := h0
  obtain ⟨a0', cp0', rfl, h0'⟩ := h0'
  obtain ⟨a1, cp1, rfl, h1⟩ := h1
  obtain ⟨a1', cp1', rfl, h1'⟩ := h1'
  obtain ⟨W0, hW⟩ : ∃ W : World, W = (w.alloc (.cells #[.slice a0 r.weights.length cp0, .slice a1 r.proxies.length cp1] 27)).alloc (.cells #[.slice a0' r.weights.length cp0', .slice a1' r.proxies.length cp1'] 27) := ⟨_, rfl⟩
  have hb : Below w.heap.size w W0 := by rw [hW]; exact ((Below.refl _ _).alloc (Nat.le_refl _) _).alloc (by simp) _
  have B0 := Lib.hid (show Bx W0 w.heap.size 27 #[.slice a0 r.weights.length cp0, .slice a1 r.proxies.length cp1] by rw [hW]; exact (Bx.new w 27 #[.slice a0 r.weights.length cp0, .slice a1 r.proxies.length cp1]).alloc _)
  have B1 := Lib.hid (show Bx W0 (w.heap.size + 1) 27 #[.slice a0' r.weights.length cp0', .slice a1' r.proxies.length cp1'] by rw [hW]; have := Bx.new (w.alloc (.cells #[.slice a0 r.weights.length cp0, .slice a1 r.proxies.length cp1] 27)) 27 #[.slice a0' r.weights.length cp0', .slice a1' r.proxies.length cp1']; simpa using this)
  have HI0 := Lib.hid (Bs.Is.below _ ⟨a0, cp0, rfl, h0⟩ hb)
  have HJ0 := Lib.hid (Bs.Is.below _ ⟨a0', cp0', rfl, h0'⟩ hb)
  have HI1 := Lib.hid (Bs.Is.below _ ⟨a1, cp1, rfl, h1⟩ hb)
  have HJ1 := Lib.hid (Bs.Is.below _ ⟨a1', cp1', rfl, h1'⟩ hb)
  clear h0 h0' h1 h1'
  go_enter Try.func46, Try.ntmps46
  go_wp2_with fail
  rw [← hW]
  clear hW
  refine (LInt.eqS _ _ r.weights W0 HI0.out HJ0.out).mono ?_
  rintro e W1 ⟨rfl, hb1⟩
  replace hb := hb.trans (hb1.mono hb.size)
  replace B0 := Lib.hid (B0.out.kept hb1)
  replace B1 := Lib.hid (B1.out.kept hb1)
  replace HI1 := Lib.hid (Bs.Is.below _ HI1.out hb1)
  replace HJ1 := Lib.hid (Bs.Is.below _ HJ1.out hb1)
  have p1 := B0.out.cell 1
  have q1 := B1.out.cell 1
  simp only [List.getElem?_toArray, List.getElem?_cons_zero, List.getElem?_cons_succ] at p1 q1
  clear hb1
  go_wp2_with fail
  refine (LProxy.eqS _ _ r.proxies W1 HI1.out HJ1.out).mono ?_
  rintro e W2 ⟨rfl, hb1⟩
  replace hb := hb.trans (hb1.mono hb.size)
  clear hb1
  go_wp2_with fail
  go_ret
  exact ⟨rfl, hb⟩
end Go.Proofs.Ytdjnaoaniokbgaa.LVoters
