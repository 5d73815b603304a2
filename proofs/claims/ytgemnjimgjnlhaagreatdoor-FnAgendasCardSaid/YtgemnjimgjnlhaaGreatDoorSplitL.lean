/- Lines: a text of lines is split into them, and none else; lists that are read line by line. Mathematics, no program. -/
import Derived.Test.YtgemnjimgjnlhaaGreatDoorSplitCut
namespace Go.Proofs.YtgemnjimgjnlhaaGreatDoor.SplitL
open Go SplitMath
set_option linter.unusedVariables false

/-- lines with an end each -/
def ended (c : UInt8) (ls : List (List UInt8)) : List UInt8 := ls.flatMap (fun l => l ++ [c])
theorem ended_cons (c : UInt8) (l : List UInt8) (ls : List (List UInt8)) : ended c (l :: ls) = l ++ c :: ended c ls := by unfold ended; simp
theorem ended_append (c : UInt8) (ls ms : List (List UInt8)) : ended c (ls ++ ms) = ended c ls ++ ended c ms := by unfold ended; simp
theorem ended_snoc (c : UInt8) (ls : List (List UInt8)) (l : List UInt8) : ended c (ls ++ [l]) = ended c ls ++ (l ++ [c]) := by rw [ended_append]; unfold ended; simp
theorem split_ended (c : UInt8) : ∀ ls : List (List UInt8), (∀ y ∈ ls, ∀ b ∈ y, b ≠ c) → splitOf (ended c ls) c = ls ++ [[]]
  | [], _ => splitOf_none [] c (fun b hb => by cases hb)
  | l :: ls, h => by
    rw [ended_cons, splitOf_cut l _ c (h l (by simp)), split_ended c ls (fun y hy => h y (by simp [hy]))]
    rfl
theorem spl_whole (c : UInt8) (l : List UInt8) : l = ended c (spl l c).1 ++ (spl l c).2 := by
  suffices h : ∀ r : List UInt8, r.reverse = ended c (spl r.reverse c).1 ++ (spl r.reverse c).2 by
    have := h l.reverse
    rwa [List.reverse_reverse] at this
  intro r
  induction r with
  | nil => rfl
  | cons b r ih =>
    rw [List.reverse_cons]
    by_cases hb : b = c
    · subst hb
      rw [spl_hit]
      rw [ended_snoc, List.append_nil, ← List.append_assoc]
      rw [← ih]
    · rw [spl_miss _ _ _ hb]
      simp only
      rw [← List.append_assoc, ← ih]
theorem unsplit {c : UInt8} {s : List UInt8} {ls : List (List UInt8)} (h : splitOf s c = ls ++ [[]]) : s = ended c ls := by
  unfold splitOf at h
  have h2 := List.append_inj' h rfl
  have e := spl_whole c s
  rw [h2.1, List.cons.inj h2.2 |>.1, List.append_nil] at e
  exact e
theorem spl_cnt (c : UInt8) (l : List UInt8) : (spl l c).1.length = l.count c := by
  suffices h : ∀ r : List UInt8, (spl r.reverse c).1.length = r.reverse.count c by
    have := h l.reverse
    rwa [List.reverse_reverse] at this
  intro r
  induction r with
  | nil => rfl
  | cons b r ih =>
    rw [List.reverse_cons]
    by_cases hb : b = c
    · subst hb
      rw [spl_hit, List.count_append]
      simp [ih]
    · rw [spl_miss _ _ _ hb, List.count_append]
      simp [ih, hb]
theorem split_count (l : List UInt8) (c : UInt8) : (splitOf l c).length = l.count c + 1 := by
  unfold splitOf
  rw [List.length_append, spl_cnt]
  rfl
theorem split_two {l a b : List UInt8} {c : UInt8} (h : splitOf l c = [a, b]) : l = a ++ c :: b := by
  unfold splitOf at h
  have e := spl_whole c l
  have h2 := List.append_inj' (show (spl l c).1 ++ [(spl l c).2] = [a] ++ [b] from h) rfl
  rw [h2.1, List.cons.inj h2.2 |>.1] at e
  rw [e]; unfold ended; simp
section
variable {α β : Type} (P : α → β → Prop)
/-- read line by line -/
def Reads (ls : List α) (xs : List β) : Prop := ls.length = xs.length ∧ ∀ (i : Nat) (l : α) (r : β), ls[i]? = some l → xs[i]? = some r → P l r
variable {P}
theorem reads_nil : Reads P [] [] := ⟨rfl, fun i l r h => by simp at h⟩
theorem reads_snoc {ls : List α} {xs : List β} {l : α} {r : β} (h : Reads P ls xs) (hp : P l r) : Reads P (ls ++ [l]) (xs ++ [r]) := by
  refine ⟨by simp [h.1], fun i l' r' hl hr => ?_⟩
  rcases Nat.lt_trichotomy i ls.length with hi | hi | hi
  · rw [List.getElem?_append_left hi] at hl
    rw [List.getElem?_append_left (by rw [← h.1]; exact hi)] at hr
    exact h.2 i l' r' hl hr
  · rw [List.getElem?_append_right (by omega), hi, Nat.sub_self] at hl
    rw [List.getElem?_append_right (by rw [← h.1]; omega), ← h.1, hi, Nat.sub_self] at hr
    simp only [List.getElem?_cons_zero, Option.some.injEq] at hl hr
    rw [← hl, ← hr]; exact hp
  · rw [List.getElem?_eq_none (by simp; omega)] at hl; cases hl
theorem reads_uniq (hP : ∀ l r r', P l r → P l r' → r = r') {ls : List α} {xs ys : List β} (h : Reads P ls xs) (h' : Reads P ls ys) : xs = ys := by
  apply List.ext_getElem?
  intro i
  rcases Nat.lt_or_ge i ls.length with hi | hi
  · have hx : i < xs.length := by rw [← h.1]; exact hi
    have hy : i < ys.length := by rw [← h'.1]; exact hi
    rw [List.getElem?_eq_getElem hx, List.getElem?_eq_getElem hy]
    exact congrArg some (hP _ _ _ (h.2 i _ _ (List.getElem?_eq_getElem hi) (List.getElem?_eq_getElem hx)) (h'.2 i _ _ (List.getElem?_eq_getElem hi) (List.getElem?_eq_getElem hy)))
  · rw [List.getElem?_eq_none (by rw [← h.1]; exact hi), List.getElem?_eq_none (by rw [← h'.1]; exact hi)]
theorem reads_at {ls : List α} {xs : List β} {i : Nat} {l : α} (h : Reads P ls xs) (hl : ls[i]? = some l) : ∃ r, xs[i]? = some r ∧ P l r := by
  have hi : i < xs.length := by rw [← h.1]; exact (List.getElem?_eq_some_iff.1 hl).1
  exact ⟨_, List.getElem?_eq_getElem hi, h.2 i l _ hl (List.getElem?_eq_getElem hi)⟩
theorem reads_take {ls : List α} {xs : List β} (h : Reads P ls xs) (k : Nat) : Reads P (ls.take k) (xs.take k) := by
  refine ⟨by rw [List.length_take, List.length_take, h.1], fun i l r hl hr => ?_⟩
  rw [List.getElem?_take] at hl hr
  split at hl
  · rename_i hi; rw [if_pos hi] at hr; exact h.2 i l r hl hr
  · cases hl
end
end Go.Proofs.YtgemnjimgjnlhaaGreatDoor.SplitL
