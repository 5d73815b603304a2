/- Conflicts among the proposals of a list: sets of indices as bits, pairs, free ones: the mathematics. No condition. -/
import Derived.Test.YtclpdpfnlmfogaaDoorJ1
namespace Go.Proofs.YtclpdpfnlmfogaaDoor.CfM
open Go.RowKit Bs Word Am Cf
set_option linter.unusedVariables false
/-- whether the proposals i and j conflict -/
def cf (l : List P) (i j : Nat) : Bool := match l[i]?, l[j]? with
  | some a, some b => confB (ch a) (ch b)
  | _, _ => false
theorem cf_at {l : List P} {i j : Nat} {a b : P} (hi : l[i]? = some a) (hj : l[j]? = some b) : cf l i j = confB (ch a) (ch b) := by unfold cf; rw [hi, hj]
theorem cf_symm {l : List P} (h : ∀ x ∈ l, good (ch x) = true) (i j : Nat) : cf l i j = cf l j i := by
  unfold cf
  cases hi : l[i]? with
  | none => cases l[j]? <;> rfl
  | some a =>
    cases hj : l[j]? with
    | none => rfl
    | some b => exact conf_symm (h a (List.mem_of_getElem? hi)) (h b (List.mem_of_getElem? hj))
def idAt (l : List P) (i : Nat) : Int := ((l[i]?).map (·.id)).getD 0
theorem id_at {l : List P} {i : Nat} {a : P} (h : l[i]? = some a) : idAt l i = a.id := by unfold idAt; rw [h]; rfl
/-- a set of indices below n as a number -/
def mask (f : Nat → Bool) : Nat → Nat
  | 0 => 0
  | n + 1 => mask f n ||| (if f n = true then 1 <<< n else 0)
theorem mask_lt (f : Nat → Bool) : ∀ n, mask f n < 2 ^ n
  | 0 => by simp [mask]
  | n + 1 => by
    unfold mask
    have h := mask_lt f n
    refine Nat.or_lt_two_pow (by rw [Nat.pow_succ]; omega) ?_
    split
    · rw [Nat.shiftLeft_eq, Nat.one_mul, Nat.pow_succ]
      have := Nat.two_pow_pos n
      omega
    · exact Nat.two_pow_pos _
theorem mask_bit (f : Nat → Bool) : ∀ n j, (mask f n).testBit j = (decide (j < n) && f j)
  | 0, j => by simp [mask]
  | n + 1, j => by
    unfold mask
    rw [Nat.testBit_or, mask_bit f n j]
    by_cases hf : f n = true
    · rw [if_pos hf, Nat.shiftLeft_eq, Nat.one_mul, Nat.testBit_two_pow]
      by_cases e : n = j
      · subst e; simp [hf]
      · have : decide (j < n + 1) = decide (j < n) := decide_eq_decide.2 (by omega)
        rw [this, decide_eq_false e, Bool.or_false]
    · rw [if_neg hf]
      by_cases e : n = j
      · subst e; simp [hf]
      · have : decide (j < n + 1) = decide (j < n) := decide_eq_decide.2 (by omega)
        rw [this]; simp
theorem mask_step {f : Nat → Bool} {n : Nat} (h : f n = true) : mask f (n + 1) = mask f n ||| 1 <<< n := by
  show mask f n ||| (if f n = true then 1 <<< n else 0) = _; rw [if_pos h]
theorem mask_skip {f : Nat → Bool} {n : Nat} (h : f n = false) : mask f (n + 1) = mask f n := by
  show mask f n ||| (if f n = true then 1 <<< n else 0) = _; rw [h]; simp
/-- the program's set of rivals -/
def rivB (l : List P) (i j : Nat) : Bool := cf l i j && decide (i ≠ j)
def riv (l : List P) (i : Nat) : Nat := mask (rivB l i) l.length
theorem riv_lt {l : List P} (h : l.length ≤ 8) (i : Nat) : riv l i < 256 := Nat.lt_of_lt_of_le (mask_lt _ _) (show 2 ^ l.length ≤ 2 ^ 8 from Nat.pow_le_pow_right (by decide) h)
theorem mask_small (f : Nat → Bool) {n : Nat} (h : n ≤ 8) : mask f n < 256 := Nat.lt_of_lt_of_le (mask_lt _ _) (show 2 ^ n ≤ 2 ^ 8 from Nat.pow_le_pow_right (by decide) h)
theorem riv_bit (l : List P) (i j : Nat) : (riv l i).testBit j = rivB l i j := by
  unfold riv
  rw [mask_bit]
  by_cases h : j < l.length
  · rw [decide_eq_true h, Bool.true_and]
  · rw [decide_eq_false h, Bool.false_and]
    unfold rivB cf
    rw [List.getElem?_eq_none (Nat.le_of_not_lt h)]
    cases l[i]? <;> rfl
def rivs (l : List P) : List Nat := (List.range l.length).map (riv l)
theorem rivs_len (l : List P) : (rivs l).length = l.length := by simp [rivs]
theorem rivs_at {l : List P} {i : Nat} (h : i < l.length) : (rivs l)[i]? = some (riv l i) := by simp [rivs, List.getElem?_range h]
/-- no rivals, no bit -/
theorem riv_zero (l : List P) (i : Nat) : riv l i = 0 ↔ ∀ j, j < l.length → rivB l i j = false := by
  constructor
  · intro h j hj
    rw [← riv_bit, h]; simp
  · intro h
    apply Nat.eq_of_testBit_eq
    intro j
    rw [riv_bit, Nat.zero_testBit]
    by_cases hj : j < l.length
    · exact h j hj
    · unfold rivB cf
      rw [List.getElem?_eq_none (Nat.le_of_not_lt hj)]
      cases l[i]? <;> rfl
/-- which proposals conflict with no other one -/
def freeTo (l : List P) (i k : Nat) : Bool := (List.range k).all fun j => i == j || !cf l i j
theorem freeTo_zero (l : List P) (i : Nat) : freeTo l i 0 = true := rfl
theorem freeTo_next (l : List P) (i k : Nat) : freeTo l i (k + 1) = (freeTo l i k && (i == k || !cf l i k)) := by
  unfold freeTo; rw [List.range_succ, List.all_append]; simp
def freeAt (l : List P) (i : Nat) : Bool := freeTo l i l.length
theorem free_riv (l : List P) (i : Nat) : freeAt l i = decide (riv l i = 0) := by
  rw [Bool.eq_iff_iff, decide_eq_true_eq, riv_zero]
  unfold freeAt freeTo
  rw [List.all_eq_true]
  constructor
  · intro h j hj
    have := h j (List.mem_range.2 hj)
    unfold rivB
    by_cases e : i = j
    · subst e; simp
    · have e2 : (i == j) = false := by simp [e]
      rw [e2, Bool.false_or] at this
      rw [show cf l i j = false by simpa using this]; rfl
  · intro h j hj
    have := h j (List.mem_range.1 hj)
    unfold rivB at this
    by_cases e : i = j
    · subst e; simp
    · rw [decide_eq_true e, Bool.and_true] at this
      rw [this]; simp
def freeIds (l : List P) (k : Nat) : List Int := ((List.range k).filter (freeAt l)).map (idAt l)
def free (l : List P) : List Int := freeIds l l.length
theorem freeIds_zero (l : List P) : freeIds l 0 = [] := rfl
theorem freeIds_yes {l : List P} {k : Nat} {a : P} (ha : l[k]? = some a) (h : freeAt l k = true) : freeIds l (k + 1) = freeIds l k ++ [a.id] := by
  unfold freeIds; rw [List.range_succ, List.filter_append, List.map_append]; simp [h, id_at ha]
theorem freeIds_no {l : List P} {k : Nat} (h : freeAt l k = false) : freeIds l (k + 1) = freeIds l k := by
  unfold freeIds; rw [List.range_succ, List.filter_append, List.map_append]; simp [h]
theorem freeIds_len (l : List P) (k : Nat) : (freeIds l k).length ≤ k := by
  unfold freeIds; rw [List.length_map]
  have := List.length_filter_le (freeAt l) (List.range k)
  rwa [List.length_range] at this
/-- the indices in a set, ascending -/
def bitsL (x n : Nat) : List Nat := (List.range n).filter x.testBit
theorem bits_lt {x n j : Nat} (h : j ∈ bitsL x n) : j < n := List.mem_range.1 (List.mem_filter.1 h).1
theorem bits_len (x n : Nat) : (bitsL x n).length ≤ n := by
  have := List.length_filter_le x.testBit (List.range n)
  rwa [List.length_range] at this
end Go.Proofs.YtclpdpfnlmfogaaDoor.CfM
