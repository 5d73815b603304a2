/- The laws' helper szAmendmentS. No condition. -/
import Derived.Test.YtclpdpfnlmfogaaDoorLAmendmentSD
import Derived.Test.YtclpdpfnlmfogaaDoorJ1
namespace Go.Proofs.YtclpdpfnlmfogaaDoor.LAmendmentS
open Go Go.RowKit Bs
set_option linter.unusedVariables false
abbrev Fine (r : R) : Prop := LAmendment.Fine r
def tot (xs : List R) : Nat := (xs.map LAmendment.wt).sum
theorem tot_next (xs : List R) (k : Nat) (h : k < xs.length) : tot (xs.take (k + 1)) = tot (xs.take k) + LAmendment.wt xs[k] := by
  rw [List.take_succ_eq_append_getElem h]; unfold tot; rw [List.map_append, List.sum_append]; simp
theorem tot_take_le (xs : List R) (k : Nat) : tot (xs.take k) ≤ tot xs := by
  have := congrArg tot (List.take_append_drop k xs)
  have e : ∀ a b : List R, tot (a ++ b) = tot a + tot b := fun a b => by simp [tot]
  rw [e] at this
  omega
theorem mem_le (xs : List R) (x : R) (h : x ∈ xs) : LAmendment.wt x ≤ tot xs := by
  induction xs with
  | nil => cases h
  | cons y ys ih =>
    simp only [tot, List.map_cons, List.sum_cons] at ih ⊢
    rcases List.mem_cons.1 h with rfl | h
    · omega
    · have := ih h; omega
/-- no struct's slice is longer than the weight -/
theorem len_le {xs : List R} {x : R} (h : x ∈ xs) : x.words.length ≤ tot xs := by
  have := mem_le xs x h
  have e : LAmendment.wt x = x.words.length + LString.tot x.words := rfl
  omega
/-- what the marks count -/
def cnt (xs : List R) : Nat := (xs.map (fun r => 3 + r.words.length)).sum
theorem cnt_le : ∀ xs : List R, cnt xs ≤ 3 * xs.length + tot xs
  | [] => Nat.zero_le _
  | x :: xs => by
    have ih := cnt_le xs
    have e : LAmendment.wt x = x.words.length + LString.tot x.words := rfl
    simp only [cnt, tot, List.map_cons, List.sum_cons, List.length_cons] at ih ⊢
    omega
theorem cnt_next (xs : List R) (k : Nat) (h : k < xs.length) : cnt (xs.take (k + 1)) = cnt (xs.take k) + (3 + xs[k].words.length) := by
  rw [List.take_succ_eq_append_getElem h]; unfold cnt; rw [List.map_append, List.sum_append]; simp
theorem cnt_take_le (xs : List R) (k : Nat) : cnt (xs.take k) ≤ cnt xs := by
  have := congrArg cnt (List.take_append_drop k xs)
  have e : ∀ a b : List R, cnt (a ++ b) = cnt a + cnt b := fun a b => by simp [cnt]
  rw [e] at this
  omega
def Left (t : Nat) (l : Int) (w : World) (e : Ending) (w' : World) : Prop := Below w.heap.size w w' ∧ ∃ x : Int, e = .returned (.int .i64 x) ∧ ((x < 0 ∧ l < t) ∨ (x = l - t ∧ (t : Int) ≤ l))
end Go.Proofs.YtclpdpfnlmfogaaDoor.LAmendmentS
