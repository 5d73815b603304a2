/- FnTallies: what the law compares. Plain mathematics. -/
import Derived.Test.YtkdiedmbikkbiaaDoorTallyTextC
import Derived.Test.YtkdiedmbikkbiaaDoorParseTallyC
import Derived.Test.YtkdiedmbikkbiaaDoorYesShareC
import Derived.Test.YtkdiedmbikkbiaaDoorAddTalliesC
namespace Go.Proofs.YtkdiedmbikkbiaaDoor.TalW
open Go Go.RowKit Tal TalT
set_option linter.unusedVariables false
theorem text_short {t : T} {s : ByteArray} {ok : Bool} (h : TAns t s ok) : s.size ≤ 31 := by
  cases hg : good t with
  | true => obtain ⟨rfl, _⟩ := tsame h (tyes hg); exact line_size hg
  | false => obtain ⟨rfl, _⟩ := tsame h (tno hg); exact Nat.zero_le _
/-- the text of a valid tally is read back -/
theorem back {t p : T} {s : ByteArray} {fine : Bool} (h : TAns t s true) (g : Ans s p fine) : fine = true ∧ p = t := by
  cases hg : good t with
  | true =>
    obtain ⟨rfl, _⟩ := tsame h (tyes hg)
    obtain ⟨h1, h2⟩ := same g (yes_of hg rfl)
    exact ⟨h2, h1⟩
  | false => have := (tsame h (tno hg)).2; cases this
/-- a text that is read is its tally's -/
theorem forth {p : T} {u v : ByteArray} {told : Bool} (h : Ans u p true) (g : TAns p v told) : told = true ∧ v = u := by
  rcases h with ⟨_, h2, h3⟩ | ⟨⟨h1, _⟩, _⟩
  · obtain ⟨h4, h5⟩ := tsame g (tyes h2)
    exact ⟨h5, by rw [h4, h3]⟩
  · cases h1
theorem share_mul {t : T} {a b : Int} (h : YesShareC.Ans t a b true) : (0 ≤ t.yes ∧ t.yes ≤ 1000) ∧ (0 ≤ t.no ∧ t.no ≤ 1000) ∧ (0 ≤ a ∧ a ≤ 1000) ∧ (0 ≤ b ∧ b ≤ 2000) ∧ a * (t.yes + t.no) = b * t.yes ∧ a * (t.yes + t.no) ≤ 4000000 ∧ 0 ≤ a * (t.yes + t.no) := by
  unfold YesShareC.Ans YesShareC.shareT at h
  split at h
  · rename_i hg
    obtain ⟨h1, h2, _⟩ := good_parts hg.1
    have hs0 := hg.2
    obtain ⟨y, hy⟩ := Int.eq_ofNat_of_zero_le h1.1
    obtain ⟨s, hs⟩ := Int.eq_ofNat_of_zero_le (show 0 ≤ t.yes + t.no by omega)
    rw [hs, hy] at h
    simp only [Int.toNat_natCast, Prod.mk.injEq, and_true] at h
    obtain ⟨rfl, rfl⟩ := h
    rw [hs, hy]
    have hsp : 0 < s := by omega
    obtain ⟨d1, e1⟩ := Nat.gcd_dvd_left y s
    obtain ⟨d2, e2⟩ := Nat.gcd_dvd_right y s
    have hg0 : 0 < Nat.gcd y s := Nat.gcd_pos_of_pos_right _ hsp
    generalize Nat.gcd y s = g at *
    have q1 : (y : Int).tdiv (g : Int) = (d1 : Int) := by
      rw [Int.tdiv_eq_ediv_of_nonneg (by omega), e1]
      exact_mod_cast Nat.mul_div_cancel_left d1 hg0
    have q2 : (s : Int).tdiv (g : Int) = (d2 : Int) := by
      rw [Int.tdiv_eq_ediv_of_nonneg (by omega), e2]
      exact_mod_cast Nat.mul_div_cancel_left d2 hg0
    rw [q1, q2]
    have b1 : d1 ≤ y := by rw [e1]; exact Nat.le_mul_of_pos_left _ hg0
    have b2 : d2 ≤ s := by rw [e2]; exact Nat.le_mul_of_pos_left _ hg0
    have hy1 : y ≤ 1000 := by omega
    have hs1 : s ≤ 2000 := by omega
    have em : d1 * s = d2 * y := by
      rw [e1, e2]
      rw [Nat.mul_left_comm, Nat.mul_left_comm d2 g d1, Nat.mul_comm d1 d2]
    have hm : d1 * s ≤ 1000 * 2000 := Nat.mul_le_mul (by omega) hs1
    have em2 : (d1 : Int) * (s : Int) = (d2 : Int) * (y : Int) := by exact_mod_cast em
    have hm4 : d1 * s ≤ 2000000 := by omega
    have hm2 : (d1 : Int) * (s : Int) ≤ 2000000 := by rw [← Int.natCast_mul]; omega
    have hm3 : 0 ≤ (d1 : Int) * (s : Int) := Int.mul_nonneg (by omega) (by omega)
    refine ⟨by omega, h2, by omega, by omega, em2, by omega, hm3⟩
  · simp at h
theorem add_comm' (a b : T) : addA a b = addA b a := by
  have e : sum a b = sum b a := by unfold sum; rw [Int.add_comm a.yes, Int.add_comm a.no, Int.add_comm a.abstain]
  unfold addA
  rw [e]
  by_cases h : good b = true ∧ good a = true ∧ good (sum b a) = true
  · rw [if_pos h, if_pos ⟨h.2.1, h.1, h.2.2⟩]
  · rw [if_neg h, if_neg (fun k => h ⟨k.2.1, k.1, k.2.2⟩)]
end Go.Proofs.YtkdiedmbikkbiaaDoor.TalW
