/- Rules in memory: what a law's helpers szRule, toRule, eqRule and those of their slices do with them. No condition but the sizes that the law itself tests. -/
import Derived.Test.YtbnkpkneccgfnaaRule
import Derived.Deep.Fields
namespace Go.Proofs.Ytbnkpkneccgfnaa.Help
open Go.RowKit Rule
set_option linter.unusedVariables false

def tot (xs : List R) : Nat := (xs.map fun r => r.name.size).sum
theorem tot_next (xs : List R) (k : Nat) (h : k < xs.length) : tot (xs.take (k + 1)) = tot (xs.take k) + (xs[k]).name.size := by
  rw [List.take_succ_eq_append_getElem h]; unfold tot; rw [List.map_append, List.sum_append]; simp
theorem tot_take_le (xs : List R) (k : Nat) : tot (xs.take k) ≤ tot xs := by
  have := congrArg tot (List.take_append_drop k xs)
  have e : ∀ a b : List R, tot (a ++ b) = tot a + tot b := fun a b => by simp [tot]
  rw [e] at this
  omega
theorem mem_le (xs : List R) (x : R) (h : x ∈ xs) : x.name.size ≤ tot xs := by
  induction xs with
  | nil => cases h
  | cons y ys ih =>
    simp only [tot, List.map_cons, List.sum_cons] at ih ⊢
    rcases List.mem_cons.1 h with rfl | h
    · omega
    · have := ih h; omega
def Small (n : Nat) (xs : List R) : Prop := n + tot xs ≤ 1048576
def SZ (n : Nat) (xs : List R) (w : World) (e : Ending) (w' : World) : Prop := Below w.heap.size w w' ∧ ∃ r : Int, e = .returned (.int .i64 r) ∧ ((r < 0 ∧ ¬ Small n xs) ∨ (0 ≤ r ∧ r = 1048576 - n - tot xs ∧ Small n xs))

end Go.Proofs.Ytbnkpkneccgfnaa.Help
