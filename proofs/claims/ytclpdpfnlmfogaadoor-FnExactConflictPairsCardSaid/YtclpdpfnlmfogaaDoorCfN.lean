/- The lowest bit of a set of indices and the others: the mathematics. No condition. -/
import Derived.Test.YtclpdpfnlmfogaaDoorCfM
import Derived.Lib.TrailingZeros
namespace Go.Proofs.YtclpdpfnlmfogaaDoor.CfN
open Go.RowKit Bs Word Am Cf CfM
set_option linter.unusedVariables false
/-- without its lowest bit -/
def rest (x : Nat) : Nat := x &&& (x - 1)
theorem low_form {x : Nat} (h0 : x ≠ 0) (h : x < 18446744073709551616) : ∃ m, x = 2 ^ (Lib.ctz 64 x + 1) * m + 2 ^ Lib.ctz 64 x := by
  obtain ⟨m, e, _⟩ := Lib.ctzFrom_spec 64 x (by omega) h
  refine ⟨m, ?_⟩
  have hc : Lib.ctz 64 x = Lib.ctzFrom 64 x := by unfold Lib.ctz; rw [if_neg h0]
  rw [hc]
  generalize Lib.ctzFrom 64 x = c at e
  rw [e, Nat.pow_succ, Nat.mul_add, Nat.mul_one, Nat.mul_assoc]
theorem low_bit {x : Nat} (h0 : x ≠ 0) (h : x < 18446744073709551616) (j : Nat) : (j < Lib.ctz 64 x → x.testBit j = false) ∧ (j = Lib.ctz 64 x → x.testBit j = true) ∧ (rest x).testBit j = (decide (Lib.ctz 64 x < j) && x.testBit j) := by
  obtain ⟨m, e⟩ := low_form h0 h
  generalize Lib.ctz 64 x = c at *
  have hp := Nat.two_pow_pos c
  have hp2 : 2 ^ c < 2 ^ (c + 1) := by rw [Nat.pow_succ]; omega
  have e2 : x - 1 = 2 ^ (c + 1) * m + (2 ^ c - 1) := by omega
  have b1 : x.testBit j = if j < c + 1 then decide (c = j) else m.testBit (j - (c + 1)) := by
    rw [e, Nat.testBit_two_pow_mul_add m hp2 j, Nat.testBit_two_pow]
  have b2 : (x - 1).testBit j = if j < c + 1 then decide (j < c) else m.testBit (j - (c + 1)) := by
    rw [e2, Nat.testBit_two_pow_mul_add m (show 2 ^ c - 1 < 2 ^ (c + 1) by omega) j, Nat.testBit_two_pow_sub_one]
  refine ⟨fun hj => ?_, fun hj => ?_, ?_⟩
  · rw [b1, if_pos (by omega)]; exact decide_eq_false (by omega)
  · rw [b1, if_pos (by omega)]; exact decide_eq_true hj.symm
  · unfold rest
    rw [Nat.testBit_and, b2, b1]
    by_cases hj : j < c + 1
    · rw [if_pos hj, if_pos hj, decide_eq_false (show ¬ c < j by omega), Bool.false_and]
      by_cases hc : c = j
      · rw [decide_eq_false (show ¬ j < c by omega), Bool.and_false]
      · rw [decide_eq_false hc, Bool.false_and]
    · rw [if_neg hj, if_neg hj, decide_eq_true (show c < j by omega)]; simp
theorem rest_le (x : Nat) : rest x ≤ x := Nat.and_le_left
theorem rest_lt {x : Nat} (h0 : x ≠ 0) (h : x < 18446744073709551616) : rest x < x := by
  have h1 := (low_bit h0 h (Lib.ctz 64 x)).2.1 rfl
  have h2 := (low_bit h0 h (Lib.ctz 64 x)).2.2
  rw [decide_eq_false (Nat.lt_irrefl _), Bool.false_and] at h2
  have h3 := rest_le x
  rcases Nat.lt_or_ge (rest x) x with h4 | h4
  · exact h4
  · have : rest x = x := by omega
    rw [this, h1] at h2
    cases h2
theorem low_lt {x n : Nat} (h0 : x ≠ 0) (h : x < 18446744073709551616) (hn : x < 2 ^ n) : Lib.ctz 64 x < n := by
  obtain ⟨m, e⟩ := low_form h0 h
  have h1 : 2 ^ Lib.ctz 64 x ≤ x := by omega
  have h2 : 2 ^ Lib.ctz 64 x < 2 ^ n := by omega
  exact (Nat.pow_lt_pow_iff_right (by decide)).1 h2
theorem bits_cons {x n : Nat} (h0 : x ≠ 0) (h : x < 18446744073709551616) (hn : x < 2 ^ n) : bitsL x n = Lib.ctz 64 x :: bitsL (rest x) n := by
  have hc := low_lt h0 h hn
  have hb := low_bit h0 h
  generalize Lib.ctz 64 x = c at *
  unfold bitsL
  have hs : List.range n = List.range' 0 c ++ c :: List.range' (c + 1) (n - (c + 1)) := by
    rw [List.range_eq_range', ← List.range'_succ, show n = c + (n - (c + 1) + 1) by omega, ← List.range'_append_1, Nat.zero_add]
    congr 2
    omega
  rw [hs, List.filter_append, List.filter_append, List.filter_cons, List.filter_cons]
  have e1 : (List.range' 0 c).filter x.testBit = [] := List.filter_eq_nil_iff.2 fun j hj => by
    have := List.mem_range'_1.1 hj
    rw [(hb j).1 (by omega)]; simp
  have e2 : (List.range' 0 c).filter (rest x).testBit = [] := List.filter_eq_nil_iff.2 fun j hj => by
    have := List.mem_range'_1.1 hj
    rw [(hb j).2.2, decide_eq_false (by omega)]; simp
  have e3 : (List.range' (c + 1) (n - (c + 1))).filter (rest x).testBit = (List.range' (c + 1) (n - (c + 1))).filter x.testBit := List.filter_congr fun j hj => by
    have := List.mem_range'_1.1 hj
    rw [(hb j).2.2, decide_eq_true (by omega), Bool.true_and]
  rw [e1, e2, e3, (hb c).2.1 rfl, (hb c).2.2, decide_eq_false (Nat.lt_irrefl _)]
  simp
theorem bits_zero (n : Nat) : bitsL 0 n = [] := List.filter_eq_nil_iff.2 fun j _ => by simp
def ints (js : List Nat) : List Int := js.map fun (j : Nat) => (j : Int)
theorem ints_len (js : List Nat) : (ints js).length = js.length := by simp [ints]
theorem ints_at {js : List Nat} {m k : Nat} (h : js[m]? = some k) : (ints js)[m]? = some (k : Int) := by simp [ints, h]
theorem ints_snoc (js : List Nat) (j : Nat) : ints (js ++ [j]) = ints js ++ [(j : Int)] := by simp [ints]
end Go.Proofs.YtclpdpfnlmfogaaDoor.CfN
