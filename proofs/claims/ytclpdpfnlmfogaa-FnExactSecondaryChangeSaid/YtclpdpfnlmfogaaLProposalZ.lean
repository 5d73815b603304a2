/- The laws' helper szProposal. -/
import Derived.Test.YtclpdpfnlmfogaaLProposalD
import Derived.Test.YtclpdpfnlmfogaaLAmendmentZ
import Derived.Test.YtclpdpfnlmfogaaBx
namespace Go.Proofs.Ytclpdpfnlmfogaa.LProposal
open Go.RowKit Bs
set_option linter.unusedVariables false
abbrev ch (r : R) : LAmendment.R := ⟨r.kind, r.pos, r.count, r.words⟩
def Fine (r : R) : Prop := (∀ x ∈ r.words, LString.Fine x)
def wt (r : R) : Nat := (r.words.length + LString.tot r.words)
theorem is_ch {w : World} {s : Value} {r : R} (h : Bs.Is LString.rec w s r.words) : LAmendment.Is w (.agg #[.int .i64 r.kind, .int .i64 r.pos, .int .i64 r.count, s]) (ch r) := ⟨_, rfl, h⟩
def Left (t : Nat) (l : Int) (w : World) (e : Ending) (w' : World) : Prop := Below w.heap.size w w' ∧ ∃ x : Int, e = .returned (.int .i64 x) ∧ ((x < 0 ∧ l < t) ∨ (x = l - t ∧ (t : Int) ≤ l))
set_option maxRecDepth 100000 in
set_option maxHeartbeats 1600000 in
theorem sz (v : Value) (r : R) (l : Int) (w : World) (h0 : 0 ≤ l) (hl : l ≤ 1048576) (h : Is w v r) (hf : Fine r) :
    Calls Try.prog 34 #[v, .int .i64 l] w (Left (wt r) l w) := by
  obtain ⟨s4, rfl, h4⟩ := h
  obtain ⟨a4, cp4, rfl, h4⟩ := h4
  obtain ⟨W0, hW⟩ : ∃ W : World, W = w.alloc (.cells #[.int .i64 r.id, .int .i64 r.kind, .int .i64 r.pos, .int .i64 r.count, .slice a4 r.words.length cp4, .int .i64 r.weight] 53) := ⟨_, rfl⟩
  have hb0 : Below w.heap.size w W0 := by rw [hW]; exact (Below.refl _ _).alloc (Nat.le_refl _) _
  have BX0 := Lib.hid (show Bx W0 w.heap.size 53 #[.int .i64 r.id, .int .i64 r.kind, .int .i64 r.pos, .int .i64 r.count, .slice a4 r.words.length cp4, .int .i64 r.weight] by rw [hW]; exact Bx.new _ _ _)
  have HI4 := Lib.hid (is_ch (r := r) (Bs.Is.below _ ⟨a4, cp4, rfl, h4⟩ hb0))
  clear h4
  have HF := Lib.hid (show LAmendment.Fine (ch r) from hf)
  clear hf
  obtain ⟨t3, ht3⟩ : ∃ t, t = LAmendment.wt (ch r) := ⟨_, rfl⟩
  have HT3 := Lib.hid ht3.symm
  rw [show Left (wt r) l w = Left t3 l w by rw [ht3]; rfl]
  have hbT := hb0
  clear ht3
  go_enter Try.func34, Try.ntmps34
  go_wp2_with fail
  rw [← hW]
  clear hW hb0
  refine (LAmendment.sz _ (ch r) _ W0 (by omega) (by omega) HI4.out HF.out).mono ?_
  rintro e W1 ⟨hb1, x, rfl, hx⟩
  rw [HT3.out] at hx
  have hz1 := hb1.size
  rcases hx with ⟨hx0, hxl⟩ | ⟨rfl, hxl⟩
  · have hb2 := hbT.trans (hb1.mono hbT.size)
    have HX := Lib.hid hxl
    clear hxl
    go_wp2_with fail
    go_ret
    exact ⟨hb2, -1, rfl, .inl ⟨by omega, by have := HX.out; omega⟩⟩
  replace hbT := hbT.trans (hb1.mono hbT.size)
  clear hb1
  go_wp2_with fail
  go_ret
  exact ⟨hbT, _, rfl, .inr ⟨by omega, by omega⟩⟩
end Go.Proofs.Ytclpdpfnlmfogaa.LProposal
