/- slices.Grow at the nil slice, slices.Concat, at slices of rules. No condition but that all together are at most 1048576. -/
import Derived.Test.YtankaffhapcnaaaDoorJ1
import Derived.Test.YtankaffhapcnaaaDoorHelpS
import Derived.Lib.AppendZerosOnto
namespace Go.Proofs.YtankaffhapcnaaaDoor.Concat
open Go.RowKit Bs
set_option linter.unusedVariables false
set_option maxRecDepth 100000
/-- some slices, one behind the other -/
def sum (xss : List (List LRule.R)) (k : Nat) : Nat := ((xss.take k).map List.length).sum
theorem sum_next (xss : List (List LRule.R)) (k : Nat) (h : k < xss.length) : sum xss (k + 1) = sum xss k + (xss[k]).length := by
  unfold sum; rw [List.take_succ_eq_append_getElem h, List.map_append, List.sum_append]; simp
theorem sum_le (xss : List (List LRule.R)) (k : Nat) : sum xss k ≤ xss.flatten.length := by
  have h : (xss.take k).flatten.length + (xss.drop k).flatten.length = xss.flatten.length := by
    rw [← List.length_append, ← List.flatten_append, List.take_append_drop]
  unfold sum
  rw [← List.length_flatten]
  omega
theorem sum_all (xss : List (List LRule.R)) (k : Nat) (h : xss.length ≤ k) : sum xss k = xss.flatten.length := by
  unfold sum; rw [List.take_of_length_le h, List.length_flatten]
theorem flat_next (xss : List (List LRule.R)) (k : Nat) (h : k < xss.length) : (xss.take (k + 1)).flatten = (xss.take k).flatten ++ xss[k] := by
  rw [List.take_succ_eq_append_getElem h, List.flatten_append]; simp
theorem flat_len2 (xss : List (List LRule.R)) (k : Nat) : (xss.take k).flatten.length = sum xss k := by unfold sum; rw [List.length_flatten]
end Go.Proofs.YtankaffhapcnaaaDoor.Concat
