/- Splitting at the first occurrence; no program. -/
import Derived.Test.YtgemnjimgjnlhaaGreatDoorSplitMath
namespace Go.Proofs.YtgemnjimgjnlhaaGreatDoor.SplitMath
open Go

theorem fold_prefix (c : UInt8) : ∀ (l : List UInt8) (d : List (List UInt8)) (cur : List UInt8), l.foldl (splStep c) (d, cur) = (d ++ (l.foldl (splStep c) ([], cur)).1, (l.foldl (splStep c) ([], cur)).2) := by
  intro l
  induction l with
  | nil => intro d cur; simp
  | cons b l ih =>
    intro d cur
    rw [List.foldl_cons, List.foldl_cons]
    by_cases hb : b = c
    · have e1 : splStep c (d, cur) b = (d ++ [cur], []) := by unfold splStep; rw [if_pos hb]
      have e2 : splStep c ([], cur) b = ([cur], []) := by unfold splStep; rw [if_pos hb]; rfl
      rw [e1, e2, ih (d ++ [cur]) [], ih [cur] []]
      simp
    · have e1 : splStep c (d, cur) b = (d, cur ++ [b]) := by unfold splStep; rw [if_neg hb]
      have e2 : splStep c ([], cur) b = ([], cur ++ [b]) := by unfold splStep; rw [if_neg hb]
      rw [e1, e2, ih d (cur ++ [b])]
theorem fold_none (c : UInt8) : ∀ (l cur : List UInt8), (∀ b ∈ l, b ≠ c) → l.foldl (splStep c) ([], cur) = ([], cur ++ l) := by
  intro l
  induction l with
  | nil => intro cur _; simp
  | cons b l ih =>
    intro cur h
    rw [List.foldl_cons]
    have e : splStep c ([], cur) b = ([], cur ++ [b]) := by unfold splStep; rw [if_neg (h b (by simp))]
    rw [e, ih _ (fun d hd => h d (by simp [hd]))]
    simp
theorem splitOf_none (l : List UInt8) (c : UInt8) (h : ∀ b ∈ l, b ≠ c) : splitOf l c = [l] := by
  unfold splitOf spl
  rw [fold_none c l [] h]
  simp
theorem splitOf_cut (a b : List UInt8) (c : UInt8) (h : ∀ x ∈ a, x ≠ c) : splitOf (a ++ c :: b) c = a :: splitOf b c := by
  unfold splitOf spl
  rw [List.foldl_append, fold_none c a [] h, List.foldl_cons]
  have e : splStep c ([], [] ++ a) c = ([a], []) := by unfold splStep; rw [if_pos rfl]; simp
  rw [e, fold_prefix c b [a] []]
  simp
theorem splitOf_at (l : List UInt8) (c : UInt8) (i : Nat) (hi : i < l.length) (h : ∀ x ∈ l.take i, x ≠ c) (hc : l[i] = c) : splitOf l c = l.take i :: splitOf (l.drop (i + 1)) c := by
  have e : l = l.take i ++ c :: l.drop (i + 1) := by
    rw [← hc, List.getElem_cons_drop, List.take_append_drop]
  conv => lhs; rw [e]
  exact splitOf_cut _ _ _ h
theorem splitOf_length (l : List UInt8) (c : UInt8) : (splitOf l c).length ≤ l.length + 1 := by
  have := spl_count c l
  unfold splitOf
  simp
  exact this
end Go.Proofs.YtgemnjimgjnlhaaGreatDoor.SplitMath
