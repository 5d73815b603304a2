/- Which rules are valid: the model's and the program's tests of one rule. No condition but that a name is no longer than a string can be. -/
import Derived.Test.YtbaflfbidgolfaaRule
import Derived.WalkLawsBesides
namespace Go.Proofs.Ytbaflfbidgolfaa.Valid
open Go.RowKit Rule
set_option linter.unusedVariables false

theorem in_yes (x a b : Int) (w : World) (h1 : a ≤ x) (h2 : x ≤ b) :
    Calls Try.prog 108 #[.int .i64 x, .int .i64 a, .int .i64 b] w fun e w' => e = .returned (.bool true) ∧ w = w' := by
  go_enter Try.func108, Try.ntmps108
  go_wp2
  go_ret
  exact ⟨rfl, rfl⟩
theorem in_no (x a b : Int) (w : World) (h : ¬ (a ≤ x ∧ x ≤ b)) :
    Calls Try.prog 108 #[.int .i64 x, .int .i64 a, .int .i64 b] w fun e w' => e = .returned (.bool false) ∧ w = w' := by
  by_cases h1 : a ≤ x
  · have h2 : ¬ x ≤ b := by omega
    go_enter Try.func108, Try.ntmps108
    go_wp2
    go_ret
    exact ⟨rfl, rfl⟩
  · go_enter Try.func108, Try.ntmps108
    go_wp2
    go_ret
    exact ⟨rfl, rfl⟩

set_option maxHeartbeats 400000 in
theorem l2Word (s : ByteArray) (w : World) (hs : s.size ≤ maxLen) :
    Calls Try.prog 135 #[.string s] w fun e w' => e = .returned (.bool (isWordB s)) ∧ w = w' := by
  unfold maxLen at hs
  go_enter Try.func135, Try.ntmps135
  go_wp2_with fail
  go_loop [3] (fun i => ∃ k : Nat, k ≤ s.size ∧ i = .int .i64 k ∧ Hid (allAz (s.data.toList.take k) = true)) (fun i => s.size - (intOf i).toNat)
  case atStart => exact ⟨0, Nat.zero_le _, rfl, rfl⟩
  case round =>
    obtain ⟨k, hk, rfl, HA⟩ := hrel
    by_cases hlt : k < s.size
    · by_cases h1 : 97 ≤ s[k].toNat
      · by_cases h2 : s[k].toNat ≤ 122
        · have HN := Lib.hid (az_next s k hlt HA.out (by simp [az, h1, h2]))
          go_wp2_with fail
          go_round
          case rel => exact ⟨k + 1, by omega, by go_num, HN⟩
          case measure => simp [intOf]; omega
        · have HN := Lib.hid (word_no (az_bad s k hlt (by simp [az, h2])))
          go_wp2_with fail
          go_ret
          exact ⟨ret_bool HN.out.symm, rfl⟩
      · have HN := Lib.hid (word_no (az_bad s k hlt (by simp [az, h1])))
        go_wp2_with fail
        go_ret
        exact ⟨ret_bool HN.out.symm, rfl⟩
    · have HN := Lib.hid (az_all s k (by omega) HA.out)
      by_cases hl : 1 ≤ s.size ∧ s.size ≤ 10
      · obtain ⟨g1, g2⟩ := hl
        have HW := Lib.hid (word_yes g1 g2 HN.out)
        go_wp2_with fail
        refine (in_yes _ _ _ _ (by omega) (by omega)).mono ?_
        rintro e w' ⟨rfl, rfl⟩
        go_wp2_with fail
        go_ret
        exact ⟨ret_bool HW.out.symm, rfl⟩
      · have HW := Lib.hid (word_len hl)
        have HL := Lib.hid hl
        clear hl
        go_wp2_with fail
        refine (in_no _ _ _ _ (by have := HL.out; omega)).mono ?_
        rintro e w' ⟨rfl, rfl⟩
        go_wp2_with fail
        go_ret
        exact ⟨ret_bool HW.out.symm, rfl⟩

set_option maxHeartbeats 400000 in
theorem isWord (s : ByteArray) (w : World) (hs : s.size ≤ maxLen) :
    Calls Try.prog 122 #[.string s] w fun e w' => e = .returned (.bool (isWordB s)) ∧ w = w' := by
  unfold maxLen at hs
  by_cases hl : 1 ≤ s.size ∧ s.size ≤ 10
  · obtain ⟨g1, g2⟩ := hl
    have g0 : ((s.size : Int) == 0) = false := by rw [beq_eq_false_iff_ne]; omega
    go_enter Try.func122, Try.ntmps122
    go_wp2_with fail
    go_loop [14] (fun i => ∃ k : Nat, k ≤ s.size ∧ i = .int .i64 k ∧ Hid (allAz (s.data.toList.take k) = true)) (fun i => s.size - (intOf i).toNat)
    case atStart => exact ⟨0, Nat.zero_le _, rfl, rfl⟩
    case round =>
      obtain ⟨k, hk, rfl, HA⟩ := hrel
      by_cases hlt : k < s.size
      · by_cases h1 : 97 ≤ s[k].toNat
        · by_cases h2 : s[k].toNat ≤ 122
          · have HN := Lib.hid (az_next s k hlt HA.out (by simp [az, h1, h2]))
            go_wp2_with fail
            go_round
            case rel => exact ⟨k + 1, by omega, by go_num, HN⟩
            case measure => simp [intOf]; omega
          · have HN := Lib.hid (word_no (az_bad s k hlt (by simp [az, h2])))
            go_wp2_with fail
            go_ret
            exact ⟨ret_bool HN.out.symm, rfl⟩
        · have HN := Lib.hid (word_no (az_bad s k hlt (by simp [az, h1])))
          go_wp2_with fail
          go_ret
          exact ⟨ret_bool HN.out.symm, rfl⟩
      · have HN := Lib.hid (az_all s k (by omega) HA.out)
        have HW := Lib.hid (word_yes g1 g2 HN.out)
        go_wp2_with fail
        go_ret
        exact ⟨ret_bool HW.out.symm, rfl⟩
  · have HW := Lib.hid (word_len hl)
    by_cases hz : s.size = 0
    · have g0 : ((s.size : Int) == 0) = true := by rw [beq_iff_eq]; omega
      clear hl hz
      go_enter Try.func122, Try.ntmps122
      go_wp2_with fail
      go_ret
      exact ⟨ret_bool HW.out.symm, rfl⟩
    · have g0 : ((s.size : Int) == 0) = false := by rw [beq_eq_false_iff_ne]; omega
      have g1 : 10 < s.size := by omega
      clear hl hz
      go_enter Try.func122, Try.ntmps122
      go_wp2_with fail
      go_ret
      exact ⟨ret_bool HW.out.symm, rfl⟩

def needS (n : Int) : ByteArray := if n = 1 then ⟨#[109, 97, 106, 111, 114, 105, 116, 121]⟩ else if n = 2 then ⟨#[116, 119, 111, 45, 116, 104, 105, 114, 100, 115]⟩ else if n = 3 then ⟨#[97, 108, 108]⟩ else ⟨#[]⟩
theorem ret_str {a b : ByteArray} (h : a = b) : Ending.returned (.string a) = .returned (.string b) := by rw [h]
set_option maxHeartbeats 400000 in
theorem needWord (n : Int) (w : World) :
    Calls Try.prog 123 #[.int .i64 n] w fun e w' => e = .returned (.string (needS n)) ∧ w = w' := by
  by_cases h1 : n = 1
  · subst h1
    go_enter Try.func123, Try.ntmps123
    go_wp2_with fail
    go_ret
    exact ⟨ret_str rfl, rfl⟩
  · by_cases h2 : n = 2
    · subst h2
      go_enter Try.func123, Try.ntmps123
      go_wp2_with fail
      go_ret
      exact ⟨ret_str rfl, rfl⟩
    · by_cases h3 : n = 3
      · subst h3
        go_enter Try.func123, Try.ntmps123
        go_wp2_with fail
        go_ret
        exact ⟨ret_str rfl, rfl⟩
      · have H := Lib.hid (show needS n = ⟨#[]⟩ by unfold needS; rw [if_neg h1, if_neg h2, if_neg h3])
        have g1 : (n == 1) = false := by simpa using h1
        have g2 : (n == 2) = false := by simpa using h2
        have g3 : (n == 3) = false := by simpa using h3
        clear h1 h2 h3
        go_enter Try.func123, Try.ntmps123
        go_wp2_with fail
        go_ret
        exact ⟨ret_str H.out.symm, rfl⟩
theorem need_empty (n : Int) (h : ¬ (1 ≤ n ∧ n ≤ 3)) : needS n = ⟨#[]⟩ := by
  unfold needS; rw [if_neg (by omega), if_neg (by omega), if_neg (by omega)]
theorem need_full (n : Int) (h : 1 ≤ n ∧ n ≤ 3) : (needS n).toList.isEmpty = false := by
  have : n = 1 ∨ n = 2 ∨ n = 3 := by omega
  rw [ByteArray.toList_eq]
  rcases this with rfl | rfl | rfl <;> rfl
theorem ok_mk {r : R} (h1 : 1 ≤ r.id ∧ r.id ≤ 20) (h2 : isWordB r.name = true) (h3 : 0 ≤ r.rank ∧ r.rank ≤ 9) (h4 : 1 ≤ r.need ∧ r.need ≤ 3) : okB r = true := decide_eq_true ⟨h1, h2, h3, h4⟩
theorem ok_no {r : R} (h : ¬ OkR r) : okB r = false := decide_eq_false h

set_option maxHeartbeats 400000 in
theorem l2Single (r : R) (w : World) (hs : r.name.size ≤ maxLen) :
    Calls Try.prog 119 #[.agg #[.int .i64 r.id, .string r.name, .int .i64 r.rank, .bool r.sec, .bool r.deb, .bool r.am, .int .i64 r.need]] w fun e w' => e = .returned (.bool (okB r)) ∧ Below w.heap.size w w' := by
  have HS := Lib.hid hs
  clear hs
  by_cases h1 : 1 ≤ r.id ∧ r.id ≤ 20
  · obtain ⟨a1, a2⟩ := h1
    by_cases h2 : isWordB r.name = true
    · have H2 := Lib.hid h2
      by_cases h3 : 0 ≤ r.rank ∧ r.rank ≤ 9
      · obtain ⟨b1, b2⟩ := h3
        by_cases h4 : 1 ≤ r.need ∧ r.need ≤ 3
        · obtain ⟨c1, c2⟩ := h4
          have HO := Lib.hid (ok_mk ⟨a1, a2⟩ h2 ⟨b1, b2⟩ ⟨c1, c2⟩)
          clear h2
          go_enter Try.func119, Try.ntmps119
          go_wp2_with fail
          refine (in_yes _ _ _ _ (by omega) (by omega)).mono ?_
          rintro e w' ⟨rfl, rfl⟩
          go_wp2_with fail
          refine (l2Word _ _ HS.out).mono ?_
          rintro e w' ⟨rfl, rfl⟩
          rw [H2.out]
          go_wp2_with fail
          refine (in_yes _ _ _ _ (by omega) (by omega)).mono ?_
          rintro e w' ⟨rfl, rfl⟩
          go_wp2_with fail
          refine (in_yes _ _ _ _ (by omega) (by omega)).mono ?_
          rintro e w' ⟨rfl, rfl⟩
          go_wp2_with fail
          go_ret
          exact ⟨ret_bool HO.out.symm, (Below.refl _ _).alloc (Nat.le_refl _) _⟩
        · have HO := Lib.hid (ok_no (r := r) (fun h => h4 h.2.2.2))
          have H4 := Lib.hid h4
          clear h2 h4
          go_enter Try.func119, Try.ntmps119
          go_wp2_with fail
          refine (in_yes _ _ _ _ (by omega) (by omega)).mono ?_
          rintro e w' ⟨rfl, rfl⟩
          go_wp2_with fail
          refine (l2Word _ _ HS.out).mono ?_
          rintro e w' ⟨rfl, rfl⟩
          rw [H2.out]
          go_wp2_with fail
          refine (in_yes _ _ _ _ (by omega) (by omega)).mono ?_
          rintro e w' ⟨rfl, rfl⟩
          go_wp2_with fail
          refine (in_no _ _ _ _ H4.out).mono ?_
          rintro e w' ⟨rfl, rfl⟩
          go_wp2_with fail
          go_ret
          exact ⟨ret_bool HO.out.symm, (Below.refl _ _).alloc (Nat.le_refl _) _⟩
      · have HO := Lib.hid (ok_no (r := r) (fun h => h3 h.2.2.1))
        have H3 := Lib.hid h3
        clear h2 h3
        go_enter Try.func119, Try.ntmps119
        go_wp2_with fail
        refine (in_yes _ _ _ _ (by omega) (by omega)).mono ?_
        rintro e w' ⟨rfl, rfl⟩
        go_wp2_with fail
        refine (l2Word _ _ HS.out).mono ?_
        rintro e w' ⟨rfl, rfl⟩
        rw [H2.out]
        go_wp2_with fail
        refine (in_no _ _ _ _ H3.out).mono ?_
        rintro e w' ⟨rfl, rfl⟩
        go_wp2_with fail
        go_ret
        exact ⟨ret_bool HO.out.symm, (Below.refl _ _).alloc (Nat.le_refl _) _⟩
    · have HO := Lib.hid (ok_no (r := r) (fun h => h2 h.2.1))
      have H2 := Lib.hid (Bool.eq_false_iff.2 h2)
      clear h2
      go_enter Try.func119, Try.ntmps119
      go_wp2_with fail
      refine (in_yes _ _ _ _ (by omega) (by omega)).mono ?_
      rintro e w' ⟨rfl, rfl⟩
      go_wp2_with fail
      refine (l2Word _ _ HS.out).mono ?_
      rintro e w' ⟨rfl, rfl⟩
      rw [H2.out]
      go_wp2_with fail
      go_ret
      exact ⟨ret_bool HO.out.symm, (Below.refl _ _).alloc (Nat.le_refl _) _⟩
  · have HO := Lib.hid (ok_no (r := r) (fun h => h1 h.1))
    have H1 := Lib.hid h1
    clear h1
    go_enter Try.func119, Try.ntmps119
    go_wp2_with fail
    refine (in_no _ _ _ _ H1.out).mono ?_
    rintro e w' ⟨rfl, rfl⟩
    go_wp2_with fail
    go_ret
    exact ⟨ret_bool HO.out.symm, (Below.refl _ _).alloc (Nat.le_refl _) _⟩

set_option maxHeartbeats 800000 in
theorem implValid (r : R) (w : World) (hs : r.name.size ≤ maxLen) :
    Calls Try.prog 112 #[.agg #[.int .i64 r.id, .string r.name, .int .i64 r.rank, .bool r.sec, .bool r.deb, .bool r.am, .int .i64 r.need]] w fun e w' => e = .returned (.bool (okB r)) ∧ Below w.heap.size w w' := by
  have HS := Lib.hid hs
  clear hs
  by_cases a1 : 1 ≤ r.id
  · by_cases a2 : r.id ≤ 20
    · by_cases h2 : isWordB r.name = true
      · have H2 := Lib.hid h2
        by_cases b1 : 0 ≤ r.rank
        · by_cases b2 : r.rank ≤ 9
          · by_cases h4 : 1 ≤ r.need ∧ r.need ≤ 3
            · have HO := Lib.hid (ok_mk ⟨a1, a2⟩ h2 ⟨b1, b2⟩ h4)
              have hn := need_full r.need h4
              clear h2 h4
              go_enter Try.func112, Try.ntmps112
              go_wp2_with fail
              refine (isWord _ _ HS.out).mono ?_
              rintro e w' ⟨rfl, rfl⟩
              rw [H2.out]
              go_wp2_with fail
              refine (needWord _ _).mono ?_
              rintro e w' ⟨rfl, rfl⟩
              go_wp2_with fail
              go_ret
              exact ⟨ret_bool HO.out.symm, (Below.refl _ _).alloc (Nat.le_refl _) _⟩
            · have HO := Lib.hid (ok_no (r := r) (fun h => h4 h.2.2.2))
              have HN := Lib.hid (need_empty r.need h4)
              clear h2 h4
              go_enter Try.func112, Try.ntmps112
              go_wp2_with fail
              refine (isWord _ _ HS.out).mono ?_
              rintro e w' ⟨rfl, rfl⟩
              rw [H2.out]
              go_wp2_with fail
              refine (needWord _ _).mono ?_
              rintro e w' ⟨rfl, rfl⟩
              rw [HN.out]
              go_wp2_with fail
              go_ret
              exact ⟨ret_bool HO.out.symm, (Below.refl _ _).alloc (Nat.le_refl _) _⟩
          · have HO := Lib.hid (ok_no (r := r) (fun h => b2 h.2.2.1.2))
            clear h2
            go_enter Try.func112, Try.ntmps112
            go_wp2_with fail
            refine (isWord _ _ HS.out).mono ?_
            rintro e w' ⟨rfl, rfl⟩
            rw [H2.out]
            go_wp2_with fail
            go_ret
            exact ⟨ret_bool HO.out.symm, (Below.refl _ _).alloc (Nat.le_refl _) _⟩
        · have HO := Lib.hid (ok_no (r := r) (fun h => b1 h.2.2.1.1))
          clear h2
          go_enter Try.func112, Try.ntmps112
          go_wp2_with fail
          refine (isWord _ _ HS.out).mono ?_
          rintro e w' ⟨rfl, rfl⟩
          rw [H2.out]
          go_wp2_with fail
          go_ret
          exact ⟨ret_bool HO.out.symm, (Below.refl _ _).alloc (Nat.le_refl _) _⟩
      · have HO := Lib.hid (ok_no (r := r) (fun h => h2 h.2.1))
        have H2 := Lib.hid (Bool.eq_false_iff.2 h2)
        clear h2
        go_enter Try.func112, Try.ntmps112
        go_wp2_with fail
        refine (isWord _ _ HS.out).mono ?_
        rintro e w' ⟨rfl, rfl⟩
        rw [H2.out]
        go_wp2_with fail
        go_ret
        exact ⟨ret_bool HO.out.symm, (Below.refl _ _).alloc (Nat.le_refl _) _⟩
    · have HO := Lib.hid (ok_no (r := r) (fun h => a2 h.1.2))
      go_enter Try.func112, Try.ntmps112
      go_wp2_with fail
      go_ret
      exact ⟨ret_bool HO.out.symm, (Below.refl _ _).alloc (Nat.le_refl _) _⟩
  · have HO := Lib.hid (ok_no (r := r) (fun h => a1 h.1.1))
    go_enter Try.func112, Try.ntmps112
    go_wp2_with fail
    go_ret
    exact ⟨ret_bool HO.out.symm, (Below.refl _ _).alloc (Nat.le_refl _) _⟩
end Go.Proofs.Ytbaflfbidgolfaa.Valid
