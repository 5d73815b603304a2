/- The laws' helper szFloor. -/
import Derived.Test.YtjphhcmhangkkaaLFloorD
import Derived.Test.YtjphhcmhangkkaaLIntZs
import Derived.Test.YtjphhcmhangkkaaLShareZ
namespace Go.Proofs.Ytjphhcmhangkkaa.LFloor
open Go.RowKit Bs
set_option linter.unusedVariables false
def Fine (r : R) : Prop := (∀ x ∈ r.waiting, LInt.Fine x) ∧ (∀ x ∈ r.shares, LShare.Fine x)
def wt (r : R) : Nat := (r.waiting.length + LInt.tot r.waiting) + (r.shares.length + LShare.tot r.shares)
def Left (t : Nat) (l : Int) (w : World) (e : Ending) (w' : World) : Prop := Below w.heap.size w w' ∧ ∃ x : Int, e = .returned (.int .i64 x) ∧ ((x < 0 ∧ l < t) ∨ (x = l - t ∧ (t : Int) ≤ l))
set_option maxRecDepth 100000 in
set_option maxHeartbeats 800000 in
theorem sz (v : Value) (r : R) (l : Int) (w : World) (h0 : 0 ≤ l) (hl : l ≤ 1048576) (h : Is w v r) (hf : Fine r) :
    Calls Try.prog 17 #[v, .int .i64 l] w (Left (wt r) l w) := by
  obtain ⟨s3, s4, rfl, h3, h4⟩ := h
  obtain ⟨a3, cp3, rfl, h3⟩ := h3
  obtain ⟨a4, cp4, rfl, h4⟩ := h4
  obtain ⟨W0, hW⟩ : ∃ W : World, W = w.alloc (.cells #[.int .i64 r.turns, .int .i64 r.seconds, .int .i64 r.speaking, .slice a3 r.waiting.length cp3, .slice a4 r.shares.length cp4] 33) := ⟨_, rfl⟩
  have hb0 : Below w.heap.size w W0 := by rw [hW]; exact (Below.refl _ _).alloc (Nat.le_refl _) _
  have BX0 := Lib.hid (show Bx W0 w.heap.size 33 #[.int .i64 r.turns, .int .i64 r.seconds, .int .i64 r.speaking, .slice a3 r.waiting.length cp3, .slice a4 r.shares.length cp4] by rw [hW]; exact Bx.new _ _ _)
  have HI3 := Lib.hid (Bs.Is.below _ ⟨a3, cp3, rfl, h3⟩ hb0)
  have HI4 := Lib.hid (Bs.Is.below _ ⟨a4, cp4, rfl, h4⟩ hb0)
  clear h3 h4
  have HF := Lib.hid hf
  clear hf
  have HWT := Lib.hid (show wt r = (r.waiting.length + LInt.tot r.waiting) + (r.shares.length + LShare.tot r.shares) from rfl)
  obtain ⟨t3, ht3⟩ : ∃ t, t = r.waiting.length + LInt.tot r.waiting := ⟨_, rfl⟩
  have HT3 := Lib.hid ht3.symm
  obtain ⟨t4, ht4⟩ : ∃ t, t = r.shares.length + LShare.tot r.shares := ⟨_, rfl⟩
  have HT4 := Lib.hid ht4.symm
  rw [show Left (wt r) l w = Left (t3 + t4) l w by rw [HWT.out, ← ht3, ← ht4]]
  clear HWT
  have hbT := hb0
  clear ht3 ht4
  go_enter Try.func17, Try.ntmps17
  go_wp2_with fail
  rw [← hW]
  clear hW hb0
  refine (LInt.szS _ r.waiting _ W0 (by omega) (by omega) HI3.out HF.out.1).mono ?_
  rintro e W1 ⟨hb1, x, rfl, hx⟩
  rw [HT3.out] at hx
  have hz1 := hb1.size
  rcases hx with ⟨hx0, hxl⟩ | ⟨rfl, hxl⟩
  · have hb2 := hbT.trans (hb1.mono hbT.size)
    have HX := Lib.hid hxl
    clear hxl
    go_wp2_with fail
    go_ret
    exact ⟨hb2, -1, rfl, .inl ⟨by omega, by have := HX.out; omega⟩⟩
  replace hbT := hbT.trans (hb1.mono hbT.size)
  replace HI4 := Lib.hid (Bs.Is.below _ HI4.out hb1)
  replace BX0 := Lib.hid (BX0.out.kept hb1)
  have q4 := BX0.out.cell 4
  simp only [List.getElem?_toArray, List.getElem?_cons_zero, List.getElem?_cons_succ] at q4
  clear hb1
  go_wp2_with fail
  refine (LShare.szS _ r.shares _ W1 (by omega) (by omega) HI4.out HF.out.2).mono ?_
  rintro e W2 ⟨hb1, x, rfl, hx⟩
  rw [HT4.out] at hx
  have hz2 := hb1.size
  rcases hx with ⟨hx0, hxl⟩ | ⟨rfl, hxl⟩
  · have hb2 := hbT.trans (hb1.mono hbT.size)
    have HX := Lib.hid hxl
    clear hxl
    go_wp2_with fail
    go_ret
    exact ⟨hb2, -1, rfl, .inl ⟨by omega, by have := HX.out; omega⟩⟩
  replace hbT := hbT.trans (hb1.mono hbT.size)
  clear hb1
  go_wp2_with fail
  go_ret
  exact ⟨hbT, _, rfl, .inr ⟨by omega, by omega⟩⟩
end Go.Proofs.Ytjphhcmhangkkaa.LFloor
