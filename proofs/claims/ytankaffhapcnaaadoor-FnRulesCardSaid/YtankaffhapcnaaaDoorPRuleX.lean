/- The model's search of a need's word. No condition but that the word is no longer than a string can be. -/
import Derived.Test.YtankaffhapcnaaaDoorPRuleW
namespace Go.Proofs.YtankaffhapcnaaaDoor.PRuleX
open Go.RowKit Bs PRule PRuleW
set_option linter.unusedVariables false
theorem needOf_no {l : List UInt8} (h1 : l ≠ wNeed 1) (h2 : l ≠ wNeed 2) (h3 : l ≠ wNeed 3) : needOf l 0 = 0 := by unfold needOf; rw [if_neg h3, if_neg h2, if_neg h1]
set_option maxRecDepth 100000 in
set_option maxHeartbeats 4000000 in
theorem l2Index (b : Nat) (s : ByteArray) (w : World) (h : Bx w b 9 Line.needCells) (hs : s.size ≤ maxLen) :
    Calls Tryd.prog 52 #[.slice (some ⟨b, 0, none⟩) 4 4, .string s] w fun e w' => e = .returned (.int .i64 (needOf s.data.toList 0)) ∧ w = w' := by
  unfold maxLen at hs
  have HE := Lib.hid (eq_list s)
  have c1 : w.cell? ⟨b, 1, none⟩ = some (.string ⟨#[109, 97, 106, 111, 114, 105, 116, 121]⟩) := (h.cell 1).trans rfl
  have c2 : w.cell? ⟨b, 2, none⟩ = some (.string ⟨#[116, 119, 111, 45, 116, 104, 105, 114, 100, 115]⟩) := (h.cell 2).trans rfl
  have c3 : w.cell? ⟨b, 3, none⟩ = some (.string ⟨#[97, 108, 108]⟩) := (h.cell 3).trans rfl
  clear h
  go_enter Tryd.func52, Tryd.ntmps52
  go_wp2_with fail
  go_loop [5] (fun i => (i = .int .i64 1) ∨ (i = .int .i64 2 ∧ Hid (s.data.toList ≠ wNeed 1)) ∨ (i = .int .i64 3 ∧ Hid (s.data.toList ≠ wNeed 1) ∧ Hid (s.data.toList ≠ wNeed 2)) ∨ (i = .int .i64 4 ∧ Hid (s.data.toList ≠ wNeed 1) ∧ Hid (s.data.toList ≠ wNeed 2) ∧ Hid (s.data.toList ≠ wNeed 3))) (fun i => 4 - (intOf i).toNat)
  case atStart => exact .inl rfl
  case round =>
    rcases hrel with rfl | ⟨rfl, h1⟩ | ⟨rfl, h1, h2⟩ | ⟨rfl, h1, h2, h3⟩
    · by_cases e1 : s.data.toList = wNeed 1
      · have q0 : (s.toList == [109, 97, 106, 111, 114, 105, 116, 121]) = true := by rw [HE.out]; exact decide_eq_true e1
        have q1 : ([109, 97, 106, 111, 114, 105, 116, 121] == s.toList) = true := by rw [beq_iff_eq] at q0 ⊢; exact q0.symm
        have q2 : (s.toList != [109, 97, 106, 111, 114, 105, 116, 121]) = false := by simp only [bne, q0]; rfl
        have HA := Lib.hid (show needOf s.data.toList 0 = 1 by rw [e1]; rfl)
        clear e1
        go_wp2_with fail
        go_ret
        exact ⟨by rw [HA.out]; rfl, rfl⟩
      · have q0 : (s.toList == [109, 97, 106, 111, 114, 105, 116, 121]) = false := by rw [HE.out]; exact decide_eq_false e1
        have q1 : ([109, 97, 106, 111, 114, 105, 116, 121] == s.toList) = false := by rw [beq_eq_false_iff_ne] at q0 ⊢; exact fun e => q0 e.symm
        have HNX := Lib.hid e1
        clear e1
        go_wp2_with fail
        go_round
        case rel => exact .inr (.inl ⟨by first | rfl | go_num, HNX⟩)
        case measure => first | (simp [intOf]; done) | (simp [intOf]; omega) | decide
    · by_cases e1 : s.data.toList = wNeed 2
      · have q0 : (s.toList == [116, 119, 111, 45, 116, 104, 105, 114, 100, 115]) = true := by rw [HE.out]; exact decide_eq_true e1
        have q1 : ([116, 119, 111, 45, 116, 104, 105, 114, 100, 115] == s.toList) = true := by rw [beq_iff_eq] at q0 ⊢; exact q0.symm
        have q2 : (s.toList != [116, 119, 111, 45, 116, 104, 105, 114, 100, 115]) = false := by simp only [bne, q0]; rfl
        have HA := Lib.hid (show needOf s.data.toList 0 = 2 by rw [e1]; rfl)
        clear e1
        go_wp2_with fail
        go_ret
        exact ⟨by rw [HA.out]; rfl, rfl⟩
      · have q0 : (s.toList == [116, 119, 111, 45, 116, 104, 105, 114, 100, 115]) = false := by rw [HE.out]; exact decide_eq_false e1
        have q1 : ([116, 119, 111, 45, 116, 104, 105, 114, 100, 115] == s.toList) = false := by rw [beq_eq_false_iff_ne] at q0 ⊢; exact fun e => q0 e.symm
        have HNX := Lib.hid e1
        clear e1
        go_wp2_with fail
        go_round
        case rel => exact .inr (.inr (.inl ⟨by first | rfl | go_num, h1, HNX⟩))
        case measure => first | (simp [intOf]; done) | (simp [intOf]; omega) | decide
    · by_cases e1 : s.data.toList = wNeed 3
      · have q0 : (s.toList == [97, 108, 108]) = true := by rw [HE.out]; exact decide_eq_true e1
        have q1 : ([97, 108, 108] == s.toList) = true := by rw [beq_iff_eq] at q0 ⊢; exact q0.symm
        have q2 : (s.toList != [97, 108, 108]) = false := by simp only [bne, q0]; rfl
        have HA := Lib.hid (show needOf s.data.toList 0 = 3 by rw [e1]; rfl)
        clear e1
        go_wp2_with fail
        go_ret
        exact ⟨by rw [HA.out]; rfl, rfl⟩
      · have q0 : (s.toList == [97, 108, 108]) = false := by rw [HE.out]; exact decide_eq_false e1
        have q1 : ([97, 108, 108] == s.toList) = false := by rw [beq_eq_false_iff_ne] at q0 ⊢; exact fun e => q0 e.symm
        have HNX := Lib.hid e1
        clear e1
        go_wp2_with fail
        go_round
        case rel => exact .inr (.inr (.inr ⟨by first | rfl | go_num, h1, h2, HNX⟩))
        case measure => first | (simp [intOf]; done) | (simp [intOf]; omega) | decide
    · have HA := Lib.hid (needOf_no h1.out h2.out h3.out)
      go_wp2_with fail
      go_ret
      exact ⟨by rw [HA.out]; rfl, rfl⟩
end Go.Proofs.YtankaffhapcnaaaDoor.PRuleX
