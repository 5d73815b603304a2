/- The laws' helper szVoters. -/
import Derived.Test.YtdjnaoaniokbgaaLVotersD
import Derived.Test.YtdjnaoaniokbgaaJ1
namespace Go.Proofs.Ytdjnaoaniokbgaa.LVoters
open Go.RowKit Bs
set_option linter.unusedVariables false
def Fine (r : R) : Prop := (∀ x ∈ r.weights, LInt.Fine x) ∧ (∀ x ∈ r.proxies, LProxy.Fine x)
def wt (r : R) : Nat := (r.weights.length + LInt.tot r.weights) + (r.proxies.length + LProxy.tot r.proxies)
def Left (t : Nat) (l : Int) (w : World) (e : Ending) (w' : World) : Prop := Below w.heap.size w w' ∧ ∃ x : Int, e = .returned (.int .i64 x) ∧ ((x < 0 ∧ l < t) ∨ (x = l - t ∧ (t : Int) ≤ l))
set_option maxRecDepth 100000 in
set_option maxHeartbeats 800000 in
theorem sz (v : Value) (r : R) (l : Int) (w : World) (h0 : 0 ≤ l) (hl : l ≤ 1048576) (h : Is w v r) (hf : Fine r) :
    Calls Try.prog 43 #[v, .int .i64 l] w (Left (wt r) l w) := by
  obtain ⟨s0, s1, rfl, h0, h1⟩ := h
  obtain ⟨a0, cp0, rfl, h0⟩ := h0
  obtain ⟨a1, cp1, rfl, h1⟩ := h1
  obtain ⟨W0, hW⟩ : ∃ W : World, W = w.alloc (.cells #[.slice a0 r.weights.length cp0, .slice a1 r.proxies.length cp1] 51) := ⟨_, rfl⟩
  have hb0 : Below w.heap.size w W0 := by rw [hW]; exact (Below.refl _ _).alloc (Nat.le_refl _) _
  have BX0 := Lib.hid (show Bx W0 w.heap.size 51 #[.slice a0 r.weights.length cp0, .slice a1 r.proxies.length cp1] by rw [hW]; exact Bx.new _ _ _)
  have HI0 := Lib.hid (Bs.Is.below _ ⟨a0, cp0, rfl, h0⟩ hb0)
  have HI1 := Lib.hid (Bs.Is.below _ ⟨a1, cp1, rfl, h1⟩ hb0)
  clear h0 h1
  have HF := Lib.hid hf
  clear hf
  have HWT := Lib.hid (show wt r = (r.weights.length + LInt.tot r.weights) + (r.proxies.length + LProxy.tot r.proxies) from rfl)
  obtain ⟨t0, ht0⟩ : ∃ t, t = r.weights.length + LInt.tot r.weights := ⟨_, rfl⟩
  have HT0 := Lib.hid ht0.symm
  obtain ⟨t1, ht1⟩ : ∃ t, t = r.proxies.length + LProxy.tot r.proxies := ⟨_, rfl⟩
  have HT1 := Lib.hid ht1.symm
  rw [show Left (wt r) l w = Left (t0 + t1) l w by rw [HWT.out, ← ht0, ← ht1]]
  clear HWT
  have hbT := hb0
  clear ht0 ht1
  go_enter Try.func43, Try.ntmps43
  go_wp2_with fail
  rw [← hW]
  clear hW hb0
  refine (LInt.szS _ r.weights _ W0 (by omega) (by omega) HI0.out HF.out.1).mono ?_
  rintro e W1 ⟨hb1, x, rfl, hx⟩
  rw [HT0.out] at hx
  have hz1 := hb1.size
  rcases hx with ⟨hx0, hxl⟩ | ⟨rfl, hxl⟩
  · have hb2 := hbT.trans (hb1.mono hbT.size)
    have HX := Lib.hid hxl
    clear hxl
    go_wp2_with fail
    go_ret
    exact ⟨hb2, -1, rfl, .inl ⟨by omega, by have := HX.out; omega⟩⟩
  replace hbT := hbT.trans (hb1.mono hbT.size)
  replace HI1 := Lib.hid (Bs.Is.below _ HI1.out hb1)
  replace BX0 := Lib.hid (BX0.out.kept hb1)
  have q1 := BX0.out.cell 1
  simp only [List.getElem?_toArray, List.getElem?_cons_zero, List.getElem?_cons_succ] at q1
  clear hb1
  go_wp2_with fail
  refine (LProxy.szS _ r.proxies _ W1 (by omega) (by omega) HI1.out HF.out.2).mono ?_
  rintro e W2 ⟨hb1, x, rfl, hx⟩
  rw [HT1.out] at hx
  have hz2 := hb1.size
  rcases hx with ⟨hx0, hxl⟩ | ⟨rfl, hxl⟩
  · have hb2 := hbT.trans (hb1.mono hbT.size)
    have HX := Lib.hid hxl
    clear hxl
    go_wp2_with fail
    go_ret
    exact ⟨hb2, -1, rfl, .inl ⟨by omega, by have := HX.out; omega⟩⟩
  replace hbT := hbT.trans (hb1.mono hbT.size)
  clear hb1
  go_wp2_with fail
  go_ret
  exact ⟨hbT, _, rfl, .inr ⟨by omega, by omega⟩⟩
end Go.Proofs.Ytdjnaoaniokbgaa.LVoters
