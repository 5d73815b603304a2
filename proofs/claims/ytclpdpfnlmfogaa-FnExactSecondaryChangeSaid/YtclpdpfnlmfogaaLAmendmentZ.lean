/- The laws' helper szAmendment. -/
import Derived.Test.YtclpdpfnlmfogaaLAmendmentD
import Derived.Test.YtclpdpfnlmfogaaLStringZs
namespace Go.Proofs.Ytclpdpfnlmfogaa.LAmendment
open Go.RowKit Bs
set_option linter.unusedVariables false
def Fine (r : R) : Prop := (∀ x ∈ r.words, LString.Fine x)
def wt (r : R) : Nat := (r.words.length + LString.tot r.words)
def Left (t : Nat) (l : Int) (w : World) (e : Ending) (w' : World) : Prop := Below w.heap.size w w' ∧ ∃ x : Int, e = .returned (.int .i64 x) ∧ ((x < 0 ∧ l < t) ∨ (x = l - t ∧ (t : Int) ≤ l))
set_option maxRecDepth 100000 in
set_option maxHeartbeats 800000 in
theorem sz (v : Value) (r : R) (l : Int) (w : World) (h0 : 0 ≤ l) (hl : l ≤ 1048576) (h : Is w v r) (hf : Fine r) :
    Calls Try.prog 16 #[v, .int .i64 l] w (Left (wt r) l w) := by
  obtain ⟨s3, rfl, h3⟩ := h
  obtain ⟨a3, cp3, rfl, h3⟩ := h3
  obtain ⟨W0, hW⟩ : ∃ W : World, W = w.alloc (.cells #[.int .i64 r.kind, .int .i64 r.pos, .int .i64 r.count, .slice a3 r.words.length cp3] 34) := ⟨_, rfl⟩
  have hb0 : Below w.heap.size w W0 := by rw [hW]; exact (Below.refl _ _).alloc (Nat.le_refl _) _
  have BX0 := Lib.hid (show Bx W0 w.heap.size 34 #[.int .i64 r.kind, .int .i64 r.pos, .int .i64 r.count, .slice a3 r.words.length cp3] by rw [hW]; exact Bx.new _ _ _)
  have HI3 := Lib.hid (Bs.Is.below _ ⟨a3, cp3, rfl, h3⟩ hb0)
  clear h3
  have HF := Lib.hid hf
  clear hf
  have HWT := Lib.hid (show wt r = (r.words.length + LString.tot r.words) from rfl)
  obtain ⟨t3, ht3⟩ : ∃ t, t = r.words.length + LString.tot r.words := ⟨_, rfl⟩
  have HT3 := Lib.hid ht3.symm
  rw [show Left (wt r) l w = Left (t3) l w by rw [HWT.out, ← ht3]]
  clear HWT
  have hbT := hb0
  clear ht3
  go_enter Try.func16, Try.ntmps16
  go_wp2_with fail
  rw [← hW]
  clear hW hb0
  refine (LString.szS _ r.words _ W0 (by omega) (by omega) HI3.out HF.out).mono ?_
  rintro e W1 ⟨hb1, x, rfl, hx⟩
  rw [HT3.out] at hx
  have hz1 := hb1.size
  rcases hx with ⟨hx0, hxl⟩ | ⟨rfl, hxl⟩
  · have hb2 := hbT.trans (hb1.mono hbT.size)
    have HX := Lib.hid hxl
    clear hxl
    go_wp2_with fail
    go_ret
    exact ⟨hb2, -1, rfl, .inl ⟨by omega, by have := HX.out; omega⟩⟩
  replace hbT := hbT.trans (hb1.mono hbT.size)
  clear hb1
  go_wp2_with fail
  go_ret
  exact ⟨hbT, _, rfl, .inr ⟨by omega, by omega⟩⟩
end Go.Proofs.Ytclpdpfnlmfogaa.LAmendment
