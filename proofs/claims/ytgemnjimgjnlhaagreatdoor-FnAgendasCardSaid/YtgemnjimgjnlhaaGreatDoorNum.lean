/- The numerals: spec.l1In, spec.l1Num, spec.FormatInt. -/
import Derived.Test.YtgemnjimgjnlhaaGreatDoorRows
import Derived.WalkKit
import Derived.WalkSpells
import Derived.WalkLawsBesides
import Derived.Lib.Hide
import Derived.Lib.ItoaNum
import Derived.Lib.ItoaLen
import Derived.IntWalk
import Derived.Deep.QuietTactic
import Derived.BigQuiet
namespace Go.Proofs.YtgemnjimgjnlhaaGreatDoor.Num
open Go.RowKit

theorem itoa_lt10 (n : Int) (h0 : 0 ≤ n) (h1 : n < 10) : Lib.itoa n = [UInt8.ofNat (48 + n.toNat)] := by
  unfold Lib.itoa; rw [if_neg (by omega)]; rw [Lib.decDigits_one (by omega)]
theorem itoa_ge10 (n : Int) (h0 : 10 ≤ n) : Lib.itoa n = Lib.itoa (n / 10) ++ [UInt8.ofNat (48 + n.toNat % 10)] := by
  unfold Lib.itoa; rw [if_neg (by omega), if_neg (by omega), Lib.decDigits, dif_neg (by omega)]
  have : n.toNat / 10 = (n / 10).toNat := by omega
  rw [this]
theorem itoa_neg (n : Int) (h0 : n < 0) : Lib.itoa n = 45 :: Lib.itoa (-n) := by
  unfold Lib.itoa; rw [if_pos h0, if_neg (by omega)]
  have : n.natAbs = (-n).toNat := by omega
  rw [this]

theorem piece (n : Int) (h0 : 0 ≤ n) (h1 : n < 10) : (ByteArray.mk #[48, 49, 50, 51, 52, 53, 54, 55, 56, 57]).extract n.toNat (n + 1).toNat = ⟨(Lib.itoa n).toArray⟩ := by
  rw [itoa_lt10 n h0 h1]
  obtain ⟨m, rfl⟩ := Int.eq_ofNat_of_zero_le h0
  have hm : m < 10 := by omega
  have e : ∀ m : Fin 10, (ByteArray.mk #[48, 49, 50, 51, 52, 53, 54, 55, 56, 57]).extract m.val (m.val + 1) = ⟨([UInt8.ofNat (48 + m.val)] : List UInt8).toArray⟩ := by decide +kernel
  exact e ⟨m, hm⟩

set_option maxHeartbeats 400000 in
theorem num_nonneg (k : Nat) : ∀ (n : Int) (w : World), n ≤ k → 0 ≤ n → n ≤ 9223372036854775807 →
    Calls Tryz.prog 98 #[.int .i64 n] w fun e w' => e = .returned (.string ⟨(Lib.itoa n).toArray⟩) ∧ ∃ m, w' = w.drewN m := by
  induction k with
  | zero =>
    intro n w hk h0 h1
    obtain rfl : n = 0 := by omega
    go_enter Tryz.func98, Tryz.ntmps98
    go_wp2_with fail
    go_ret
    exact ⟨by rw [itoa_lt10 0 (by omega) (by omega)]; rfl, 0, rfl⟩
  | succ k ih =>
    intro n w hk h0 h1
    by_cases hn : n < 10
    · go_enter Tryz.func98, Tryz.ntmps98
      go_wp2_with fail
      go_ret
      exact ⟨congrArg (fun b => Ending.returned (.string b)) (piece n h0 hn), 0, rfl⟩
    · have hq : n.tdiv 10 = n / 10 := Int.tdiv_eq_ediv_of_nonneg (by omega)
      have hr : n.tmod 10 = n % 10 := Int.tmod_eq_emod_of_nonneg (by omega)
      have hw1 : IntKind.i64.wrap (n / 10) = n / 10 := IntWalk.i64_in _ (by omega)
      have hw2 : IntKind.i64.wrap (n % 10) = n % 10 := IntWalk.i64_in _ (by omega)
      have hw3 : IntKind.i64.wrap (n % 10 + 1) = n % 10 + 1 := IntWalk.i64_in _ (by omega)
      have b0 : 0 ≤ n % 10 := by omega
      have b1 : n % 10 < 10 := by omega
      have b2 : n % 10 + 1 ≤ 10 := by omega
      have b3 : 0 ≤ n % 10 + 1 := by omega
      have b4 : n % 10 ≤ n % 10 + 1 := by omega
      have hp : n / 10 ≤ k ∧ 0 ≤ n / 10 ∧ n / 10 ≤ 9223372036854775807 := by omega
      have hlen : ¬ 9223372036854775807 < (Lib.itoa (n / 10)).length + ((n % 10 + 1).toNat - (n % 10).toNat) := by
        have h1 := Lib.itoa_length_le (n / 10) (by omega) (by omega)
        omega
      have H := Lib.hid (show (ByteArray.mk (Lib.itoa (n / 10)).toArray ++ (ByteArray.mk #[48, 49, 50, 51, 52, 53, 54, 55, 56, 57]).extract (n % 10).toNat (n % 10 + 1).toNat) = ⟨(Lib.itoa n).toArray⟩ by
        rw [piece (n % 10) b0 b1, itoa_ge10 n (by omega), itoa_lt10 (n % 10) b0 b1]
        have e : (n % 10).toNat = n.toNat % 10 := by omega
        rw [e, ByteArray.mk_append_mk])
      go_enter Tryz.func98, Tryz.ntmps98
      go_wp2_with fail
      go_quiet ((go_at_call 98; refine Calls.quiet_of (ih _ _ hp.1 hp.2.1 hp.2.2)))
      clear hq hr hw1 hw2 hw3
      go_wp2_with fail
      go_ret
      exact ⟨congrArg (fun b => Ending.returned (.string b)) H.out, _, rfl⟩

set_option maxHeartbeats 400000 in
theorem l1Num (n : Int) (w : World) (h0 : -9223372036854775807 ≤ n) (h1 : n ≤ 9223372036854775807) :
    Calls Tryz.prog 98 #[.int .i64 n] w fun e w' => e = .returned (.string ⟨(Lib.itoa n).toArray⟩) ∧ ∃ m, w' = w.drewN m := by
  by_cases hn : 0 ≤ n
  · exact num_nonneg n.toNat n w (by omega) hn h1
  · have hadd : ∀ w : World, (Op.stringOp .add ⟨#[45]⟩ ⟨(Lib.itoa (-n)).toArray⟩).run Tryz.prog w = .ok (.string ⟨(Lib.itoa n).toArray⟩) w := fun w => by
      rw [run_string_add_sum _ _ _ (by
        have h1 := Lib.itoa_length_le (-n) (by omega) (by omega)
        show (#[45] : Array UInt8).size + (Lib.itoa (-n)).toArray.size ≤ _
        simp
        omega)]
      rw [itoa_neg n (by omega), ByteArray.mk_append_mk]
      simp
    have hw : 0 ≤ -n ∧ -n ≤ 9223372036854775807 := by omega
    have hp : -n ≤ ((-n).toNat : Nat) := by omega
    go_enter Tryz.func98, Tryz.ntmps98
    go_wp2_with fail
    refine (num_nonneg (-n).toNat (-n) _ hp hw.1 hw.2).mono ?_
    rintro e w' ⟨rfl, m, rfl⟩
    go_wp2_with fail
    go_ret
    exact ⟨rfl, m, rfl⟩

set_option maxHeartbeats 400000 in
theorem l1In (x a b : Int) (w : World) :
    Calls Tryz.prog 97 #[.int .i64 x, .int .i64 a, .int .i64 b] w fun e w' => e = .returned (.bool (decide (a ≤ x ∧ x ≤ b))) ∧ w = w' := by
  by_cases h1 : a ≤ x
  · by_cases h2 : x ≤ b
    · rw [decide_eq_true (And.intro h1 h2)]
      go_enter Tryz.func97, Tryz.ntmps97
      go_wp2
      go_ret
      exact ⟨rfl, rfl⟩
    · rw [decide_eq_false (fun h : a ≤ x ∧ x ≤ b => h2 h.2)]
      go_enter Tryz.func97, Tryz.ntmps97
      go_wp2
      go_ret
      exact ⟨rfl, rfl⟩
  · rw [decide_eq_false (fun h : a ≤ x ∧ x ≤ b => h1 h.1)]
    go_enter Tryz.func97, Tryz.ntmps97
    go_wp2
    go_ret
    exact ⟨rfl, rfl⟩
end Go.Proofs.YtgemnjimgjnlhaaGreatDoor.Num
