/- Plain facts on decimal numerals; no program. -/
import Derived.Lib.ItoaNum
import Derived.Lib.ItoaLen
import Derived.Lib.AtoiAll
import Derived.Lib.AtoiTie
namespace Go.Proofs.YtgemnjimgjnlhaaGreatDoor.NumMath
open Go

/-- a digit -/
def isD (c : UInt8) : Bool := decide (48 ≤ c.toNat ∧ c.toNat ≤ 57)
/-- the number that a row of digits spells -/
def val (l : List UInt8) : Nat := l.foldl (fun n c => 10 * n + (c.toNat - 48)) 0
theorem val_snoc (l : List UInt8) (c : UInt8) : val (l ++ [c]) = 10 * val l + (c.toNat - 48) := by unfold val; rw [List.foldl_append]; rfl
theorem fold_lt : ∀ (l : List UInt8) (a : Nat), (∀ c ∈ l, isD c = true) → l.foldl (fun n c => 10 * n + (c.toNat - 48)) a < (a + 1) * 10 ^ l.length := by
  intro l
  induction l with
  | nil => intro a _; simp
  | cons c l ih =>
    intro a h
    have h2 := h c (by simp)
    simp only [isD, decide_eq_true_eq] at h2
    have h1 := ih (10 * a + (c.toNat - 48)) (fun d hd => h d (by simp [hd]))
    rw [List.foldl_cons, List.length_cons, Nat.pow_succ]
    refine Nat.lt_of_lt_of_le h1 ?_
    have : (10 * a + (c.toNat - 48) + 1) * 10 ^ l.length ≤ (10 * (a + 1)) * 10 ^ l.length := Nat.mul_le_mul_right _ (by omega)
    refine Nat.le_trans this (Nat.le_of_eq ?_)
    rw [Nat.mul_comm 10 (a + 1), Nat.mul_assoc, Nat.mul_comm 10]
theorem val_lt (l : List UInt8) (h : ∀ c ∈ l, isD c = true) : val l < 10 ^ l.length := by
  have := fold_lt l 0 h
  simpa [val] using this
theorem digit_ofNat (d : Nat) (h : d < 10) : (UInt8.ofNat (48 + d)).toNat = 48 + d := by
  rw [UInt8.toNat_ofNat']; omega
theorem dd_rec (u : Nat) (h : ¬ u < 10) : Lib.decDigits u = Lib.decDigits (u / 10) ++ [UInt8.ofNat (48 + u % 10)] := by
  rw [Lib.decDigits, dif_neg h]
theorem dd_all (u : Nat) : ∀ c ∈ Lib.decDigits u, isD c = true := by
  induction u using Nat.strongRecOn with
  | _ u ih =>
    by_cases h : u < 10
    · rw [Lib.decDigits_one h]
      intro c hc
      simp only [List.mem_singleton] at hc
      subst hc
      simp only [isD, decide_eq_true_eq, digit_ofNat u h]
      omega
    · rw [dd_rec u h]
      intro c hc
      rcases List.mem_append.1 hc with hc | hc
      · exact ih (u / 10) (by omega) c hc
      · simp only [List.mem_singleton] at hc
        subst hc
        simp only [isD, decide_eq_true_eq, digit_ofNat (u % 10) (by omega)]
        omega
theorem dd_val (u : Nat) : val (Lib.decDigits u) = u := by
  induction u using Nat.strongRecOn with
  | _ u ih =>
    by_cases h : u < 10
    · rw [Lib.decDigits_one h]
      simp only [val, List.foldl_cons, List.foldl_nil, digit_ofNat u h]
      omega
    · rw [dd_rec u h, val_snoc, ih (u / 10) (by omega), digit_ofNat (u % 10) (by omega)]
      omega
theorem dd_len_pos (u : Nat) : 1 ≤ (Lib.decDigits u).length := by rw [Lib.decDigits_length]; exact Lib.nDigits_pos u
theorem nDigits_le : ∀ (k u : Nat), 1 ≤ k → u < 10 ^ k → Lib.nDigits u ≤ k := by
  intro k
  induction k with
  | zero => intro u h; omega
  | succ k ih =>
    intro u _ hu
    by_cases h : u < 10
    · rw [Lib.nDigits_small h]; omega
    · rw [Lib.nDigits_big h]
      have : u / 10 < 10 ^ k := by rw [Nat.pow_succ] at hu; omega
      by_cases hk : 1 ≤ k
      · have := ih (u / 10) hk this; omega
      · have : k = 0 := by omega
        subst this
        simp at hu
        omega
theorem dd_len6 (u : Nat) (h : u ≤ 999999) : (Lib.decDigits u).length ≤ 6 := by
  rw [Lib.decDigits_length]; exact nDigits_le 6 u (by omega) (by omega)
theorem decFrom_dd : ∀ (l : List UInt8) (acc : Nat), (∀ c ∈ l, isD c = true) → Lib.decFrom acc l = some (l.foldl (fun n c => 10 * n + (c.toNat - 48)) acc) := by
  intro l
  induction l with
  | nil => intro acc _; rfl
  | cons c l ih =>
    intro acc h
    have h1 := h c (by simp)
    simp only [isD, decide_eq_true_eq] at h1
    simp only [Lib.decFrom, Lib.digitVal, if_pos h1, List.foldl_cons]
    rw [ih _ (fun d hd => h d (by simp [hd]))]
    rw [Nat.mul_comm acc 10]
theorem decNat_dd (u : Nat) : Lib.decNat (Lib.decDigits u) = some u := by
  unfold Lib.decNat
  have := dd_len_pos u
  rw [if_neg (by rw [List.isEmpty_iff]; intro e; rw [e] at this; simp at this)]
  rw [decFrom_dd _ _ (dd_all u)]
  exact congrArg some (dd_val u)
theorem dd_head (u : Nat) : ∃ c r, Lib.decDigits u = c :: r ∧ isD c = true := by
  have h := dd_len_pos u
  cases e : Lib.decDigits u with
  | nil => rw [e] at h; simp at h
  | cons c r => exact ⟨c, r, rfl, dd_all u c (by rw [e]; simp)⟩
theorem atoi_itoa (v : Int) : Lib.atoi (Lib.itoa v) = some v := by
  by_cases h : v < 0
  · unfold Lib.itoa
    rw [if_pos h]
    simp only [Lib.atoi, beq_self_eq_true, if_true, decNat_dd, Option.map_some]
    congr 1
    omega
  · unfold Lib.itoa
    rw [if_neg h]
    obtain ⟨c, r, e, hc⟩ := dd_head v.toNat
    have hd := decNat_dd v.toNat
    rw [e] at hd ⊢
    simp only [isD, decide_eq_true_eq] at hc
    have n45 : (c == 45) = false := by rw [beq_eq_false_iff_ne]; rintro rfl; revert hc; decide
    have n43 : (c == 43) = false := by rw [beq_eq_false_iff_ne]; rintro rfl; revert hc; decide
    simp only [Lib.atoi, n45, n43, hd]
    show some ((v.toNat : Nat) : Int) = _
    congr 1
    omega

/-- The string is the numeral of v, which lies within the bounds. -/
def Numeral (l : List UInt8) (v : Int) : Prop := -999999 ≤ v ∧ v ≤ 999999 ∧ Lib.itoa v = l
theorem itoa_len7 (v : Int) (h0 : -999999 ≤ v) (h1 : v ≤ 999999) : (Lib.itoa v).length ≤ 7 := by
  unfold Lib.itoa
  split
  · rw [List.length_cons]; have := dd_len6 v.natAbs (by omega); omega
  · have := dd_len6 v.toNat (by omega); omega
theorem Numeral.atoi {l : List UInt8} {v : Int} (h : Numeral l v) : Lib.atoiAll l = .ok v := by
  obtain ⟨h0, h1, rfl⟩ := h
  rw [Lib.atoiAll_short _ (by have := itoa_len7 v h0 h1; omega), atoi_itoa]
  rfl
theorem Numeral.uniq {l : List UInt8} {v v' : Int} (h : Numeral l v) (h' : Numeral l v') : v = v' := by
  have := h.atoi.symm.trans h'.atoi
  injection this

/-- what stands behind the sign -/
def neg (l : List UInt8) : Bool := decide (1 < l.length) && (l.head? == some 45)
def strip (l : List UInt8) : List UInt8 := if neg l = true then l.tail else l
def signed (l : List UInt8) (n : Nat) : Int := if neg l = true then -(n : Int) else n
theorem good_strip {l : List UInt8} {v : Int} (h : Numeral l v) : strip l = Lib.decDigits v.natAbs ∧ signed l v.natAbs = v ∧ v.natAbs ≤ 999999 := by
  obtain ⟨h0, h1, rfl⟩ := h
  refine ⟨?_, ?_, by omega⟩
  · by_cases hv : v < 0
    · have e : Lib.itoa v = 45 :: Lib.decDigits v.natAbs := by unfold Lib.itoa; rw [if_pos hv]
      have hl := dd_len_pos v.natAbs
      have hn : neg (45 :: Lib.decDigits v.natAbs) = true := by
        unfold neg
        rw [List.length_cons, decide_eq_true (by omega)]
        rfl
      rw [e]; unfold strip; rw [if_pos hn]; rfl
    · have e : Lib.itoa v = Lib.decDigits v.natAbs := by
        unfold Lib.itoa; rw [if_neg hv]
        have : v.toNat = v.natAbs := by omega
        rw [this]
      have hn : ¬ neg (Lib.decDigits v.natAbs) = true := by
        obtain ⟨c, r, e, hc⟩ := dd_head v.natAbs
        unfold neg
        rw [e]
        intro hh
        simp only [isD, decide_eq_true_eq] at hc
        simp at hh
        rw [hh.2] at hc
        revert hc; decide
      rw [e]; unfold strip; rw [if_neg hn]
  · by_cases hv : v < 0
    · have e : Lib.itoa v = 45 :: Lib.decDigits v.natAbs := by unfold Lib.itoa; rw [if_pos hv]
      have hl := dd_len_pos v.natAbs
      have hn : neg (45 :: Lib.decDigits v.natAbs) = true := by
        unfold neg
        rw [List.length_cons, decide_eq_true (by omega)]
        rfl
      rw [e]; unfold signed; rw [if_pos hn]; omega
    · have e : Lib.itoa v = Lib.decDigits v.natAbs := by
        unfold Lib.itoa; rw [if_neg hv]
        have : v.toNat = v.natAbs := by omega
        rw [this]
      have hn : ¬ neg (Lib.decDigits v.natAbs) = true := by
        obtain ⟨c, r, e, hc⟩ := dd_head v.natAbs
        unfold neg
        rw [e]
        intro hh
        simp only [isD, decide_eq_true_eq] at hc
        simp at hh
        rw [hh.2] at hc
        revert hc; decide
      rw [e]; unfold signed; rw [if_neg hn]; omega

/-- Closing lemmas of the model's loop. -/
theorem bad_len {l : List UInt8} (h : (strip l).length < 1 ∨ 6 < (strip l).length) : ∀ v, ¬ Numeral l v := by
  intro v hg
  obtain ⟨e, _, hb⟩ := good_strip hg
  rw [e] at h
  have h1 := dd_len_pos v.natAbs
  have h2 := dd_len6 v.natAbs hb
  omega
theorem bad_digit {l : List UInt8} {c : UInt8} (hc : c ∈ strip l) (h : ¬ isD c = true) : ∀ v, ¬ Numeral l v := by
  intro v hg
  obtain ⟨e, _, _⟩ := good_strip hg
  rw [e] at hc
  exact h (dd_all _ c hc)
theorem bad_end {l : List UInt8} (h : Lib.itoa (signed l (val (strip l))) ≠ l) : ∀ v, ¬ Numeral l v := by
  intro v hg
  obtain ⟨e, es, _⟩ := good_strip hg
  rw [e, dd_val, es] at h
  exact h hg.2.2
theorem good_end {l : List UInt8} (hl : (strip l).length ≤ 6) (hd : ∀ c ∈ strip l, isD c = true) (h : Lib.itoa (signed l (val (strip l))) = l) : Numeral l (signed l (val (strip l))) := by
  have h1 := val_lt _ hd
  have h2 : val (strip l) < 10 ^ 6 := Nat.lt_of_lt_of_le h1 (Nat.pow_le_pow_right (by omega) hl)
  refine ⟨?_, ?_, h⟩ <;> (unfold signed; split <;> omega)
end Go.Proofs.YtgemnjimgjnlhaaGreatDoor.NumMath
