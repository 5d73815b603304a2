/- A line read: what was joined is split, marks are found. Mathematics alone. -/
import Derived.Test.YtgemnjimgjnlhaaGreatDoorJ1
import Derived.Test.YtgemnjimgjnlhaaGreatDoorSplitCut
import Derived.Test.YtgemnjimgjnlhaaGreatDoorNumMath
import Derived.Lib.Join
import Derived.Lib.IndexMore
import Derived.Lib.IndexLaws
namespace Go.Proofs.YtgemnjimgjnlhaaGreatDoor.PCut
open Go SplitMath NumMath
set_option linter.unusedVariables false
theorem split_join (c : UInt8) : ∀ (r : List (List UInt8)) (x : List UInt8), (∀ y ∈ x :: r, ∀ b ∈ y, b ≠ c) → splitOf (x ++ Lib.joinTail [c] r) c = x :: r
  | [], x, h => by
    have e : x ++ Lib.joinTail [c] [] = x := by simp [Lib.joinTail]
    rw [e]
    exact splitOf_none x c (h x (by simp))
  | y :: r, x, h => by
    have e : x ++ Lib.joinTail [c] (y :: r) = x ++ c :: (y ++ Lib.joinTail [c] r) := by simp [Lib.joinTail]
    rw [e, splitOf_cut x _ c (h x (by simp)), split_join c r y (fun z hz => h z (by simp only [List.mem_cons] at hz ⊢; exact .inr hz))]

theorem itoa_digits (n : Int) (h : 0 ≤ n) : ∀ b ∈ Lib.itoa n, isD b = true := by
  have e : Lib.itoa n = Lib.decDigits n.toNat := by unfold Lib.itoa; rw [if_neg (by omega)]
  rw [e]
  exact dd_all _
theorem digit_ne {b c : UInt8} (h : isD b = true) (hc : isD c = false) : b ≠ c := by rintro rfl; rw [h] at hc; cases hc
theorem word_ne {s : ByteArray} (h : Word.isWordB s = true) (c : UInt8) (hc : Word.az c = false) : ∀ b ∈ s.data.toList, b ≠ c := by
  unfold Word.isWordB at h
  simp only [Bool.and_eq_true] at h
  have h2 := h.2
  unfold Word.allAz at h2
  rw [List.all_eq_true] at h2
  intro b hb
  have := h2 b hb
  rintro rfl
  rw [this] at hc; cases hc
theorem cut_of {x y sep : List UInt8} (h : ∀ j, j < x.length → Lib.occAt (x ++ (sep ++ y)) sep j = false) : Lib.cut (x ++ (sep ++ y)) sep = (x, y, true) := by
  have hi : Lib.index (x ++ (sep ++ y)) sep = x.length := Lib.index_first (by simp) (by simp [Lib.occAt]) h
  unfold Lib.cut
  rw [hi, if_pos (by omega)]
  have e1 : ((x.length : Int)).toNat = x.length := by omega
  rw [e1]
  simp [List.drop_append]
theorem cut_at {x y t : List UInt8} {c : UInt8} (h : ∀ b ∈ x, b ≠ c) : Lib.cut (x ++ ((c :: t) ++ y)) (c :: t) = (x, y, true) := cut_of fun j hj => by
  cases ho : Lib.occAt (x ++ ((c :: t) ++ y)) (c :: t) j with
  | false => rfl
  | true =>
    have h1 := Lib.occAt_head rfl ho
    rw [List.getElem?_append_left hj] at h1
    exact absurd rfl (h c (List.mem_of_getElem? h1))
theorem cut_none {x t : List UInt8} {c : UInt8} (h : ∀ b ∈ x, b ≠ c) : Lib.cut x (c :: t) = (x, [], false) := by
  have hi : Lib.index x (c :: t) = -1 := Lib.index_none fun j hj => by
    cases ho : Lib.occAt x (c :: t) j with
    | false => rfl
    | true => exact absurd rfl (h c (List.mem_of_getElem? (Lib.occAt_head rfl ho)))
  unfold Lib.cut
  rw [hi, if_neg (by decide)]
theorem itoa_ne (n : Int) (h : 0 ≤ n) : Lib.itoa n ≠ [] := by
  have e : Lib.itoa n = Lib.decDigits n.toNat := by unfold Lib.itoa; rw [if_neg (by omega)]
  rw [e]
  intro e2
  have := dd_len_pos n.toNat
  rw [e2] at this
  exact absurd this (by decide)
theorem itoa_len (k : Nat) (n : Int) (h0 : 0 ≤ n) (hk : 1 ≤ k) (h1 : n.toNat < 10 ^ k) : (Lib.itoa n).length ≤ k := by
  have e : Lib.itoa n = Lib.decDigits n.toNat := by unfold Lib.itoa; rw [if_neg (by omega)]
  rw [e, Lib.decDigits_length]
  exact nDigits_le k _ hk h1
end Go.Proofs.YtgemnjimgjnlhaaGreatDoor.PCut
