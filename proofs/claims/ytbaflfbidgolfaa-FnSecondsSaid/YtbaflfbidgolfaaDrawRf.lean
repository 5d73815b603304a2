/- The draw of a rule's id. No condition. -/
import Derived.Test.YtbaflfbidgolfaaDrawRd
namespace Go.Proofs.Ytbaflfbidgolfaa.Draw
open Go.RowKit Cur Bs
set_option linter.unusedVariables false
def RNumOf (w : World) (B m : Nat) (e : Ending) (w' : World) : Prop := ∃ x : Int, e = .returned (.int .i64 x) ∧ Cur w' B m ∧ w.grownBy w' (some B)
set_option maxRecDepth 100000 in
set_option maxHeartbeats 1600000 in
theorem ruleOf (B m A : Nat) (v : Value) (z : List LRule.R) (w : World) (h : Cur w B m) (hm : m < 700000) (hv : Own LRule.rec 63 w A v z) (hA : B < A) (hl : z.length ≤ 16) : Calls Try.prog 98 #[.pointer (some ⟨B, 0, none⟩), v] w (RNumOf w B (m + 10)) := by
  have HC := Lib.hid h
  have HV := Lib.hid hv
  obtain ⟨l, hll⟩ : ∃ l, l = z.length := ⟨_, rfl⟩
  have HLn := Lib.hid hll.symm
  have hsh : ∃ a cp, v = .slice a l cp ∧ (0 < l → ∃ g, a = some ⟨g, 0, none⟩ ∧ g ≠ B) ∧ l ≤ cp ∧ cp ≤ maxLen := by
    rcases hv.shape with ⟨rfl, hz⟩ | ⟨g, cap, rfl, hg1, hg2, hcap, hcm⟩
    · exact ⟨none, 0, by rw [hll, hz]; rfl, fun h0 => by rw [hll, hz] at h0; simp at h0, by rw [hll, hz]; simp, Nat.zero_le _⟩
    · exact ⟨_, cap, by rw [hll], fun _ => ⟨g, rfl, by omega⟩, by omega, hcm⟩
  obtain ⟨a, cp, rfl, hag, hcp, hcm⟩ := hsh
  unfold maxLen at hcm
  have hl16 : l ≤ 16 := by omega
  clear h hv hll hl
  by_cases h0 : l = 0
  · subst h0
    clear hag
    have hz2 : ((0 : Int) == 0) = true := rfl
    go_enter Try.func98, Try.ntmps98
    go_wp2_with fail
    refine (pick B m 22 _ HC.out (by omega) (by omega) (by omega)).mono ?_
    rintro e w1 ⟨x, rfl, _, _, hc1, hg1⟩
    have HC1 := Lib.hid hc1
    clear hc1
    go_wp2_with fail
    go_ret
    exact ⟨x, rfl, HC1.out.mono (by omega), hg1⟩
  · obtain ⟨g, rfl, hgB⟩ := hag (by omega)
    have hz2 : ((l : Int) == 0) = false := by rw [beq_eq_false_iff_ne]; omega
    have hz3 : (l == 0) = false := by rw [beq_eq_false_iff_ne]; omega
    clear hag
    go_enter Try.func98, Try.ntmps98
    go_wp2_with fail
    refine (one B m 8 _ HC.out (by omega) (by omega) (by omega)).mono ?_
    rintro e w1 ⟨b, rfl, hc1, hg1⟩
    have HV1 := Lib.hid (own_grown HV.out hg1 hA)
    have HC1 := Lib.hid hc1
    clear hc1 HC HV
    cases b with
    | true =>
      go_wp2_with fail
      refine (pick B _ 22 _ HC1.out (by omega) (by omega) (by omega)).mono ?_
      rintro e w2 ⟨x, rfl, _, _, hc2, hg2⟩
      have HC2 := Lib.hid hc2
      have hgg := grown_trans hg1 hg2
      clear hc2
      go_wp2_with fail
      go_ret
      exact ⟨x, rfl, HC2.out.mono (by omega), hgg⟩
    | false =>
      go_wp2_with fail
      refine (pick B _ l _ HC1.out (by omega) (by omega) (by omega)).mono ?_
      rintro e w2 ⟨r, rfl, r0, r1, hc2, hg2⟩
      obtain ⟨r, rfl⟩ := Int.eq_ofNat_of_zero_le r0
      have HV2 := Lib.hid (own_grown HV1.out hg2 hA)
      have HC2 := Lib.hid hc2
      have hgg := grown_trans hg1 hg2
      have hx : r < z.length := by have := HLn.out; omega
      obtain ⟨q0, q1, q2, q3, q4, q5, q6⟩ := LRule.cells (HV2.out.at_ r _ (List.getElem?_eq_getElem hx))
      simp only [LRule.rec_n] at q0 q1 q2 q3 q4 q5 q6
      have r2 : (r : Int) < (l : Int) := by omega
      clear hc2 HV1 HC1 hg1 hg2
      generalize z[r] = X at *
      go_wp2_with fail
      go_ret
      exact ⟨_, rfl, HC2.out.mono (by omega), hgg⟩
end Go.Proofs.Ytbaflfbidgolfaa.Draw
