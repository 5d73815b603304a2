/- ParseInt of the model and of the program. -/
import Derived.Test.YtankaffhapcnaaaDoorFmt
import Derived.Test.YtankaffhapcnaaaDoorJ1
namespace Go.Proofs.YtankaffhapcnaaaDoor.Read
open Go.RowKit NumMath

def PQ (l : List UInt8) (w : World) (e : Ending) (w' : World) : Prop :=
  ((∃ v, Numeral l v ∧ e = .returned (.tuple #[.int .i64 v, .bool true])) ∨ ((∀ v, ¬ Numeral l v) ∧ e = .returned (.tuple #[.int .i64 0, .bool false]))) ∧ Below w.heap.size w w'

theorem take_snoc (s : ByteArray) (k : Nat) (h : k < s.size) : s.data.toList.take (k + 1) = s.data.toList.take k ++ [s[k]] := by
  rw [List.take_succ_eq_append_getElem (by simpa using h)]; rfl
theorem val_step (t : ByteArray) (k : Nat) (h : k < t.size) (h0 : 48 ≤ t[k].toNat) : ((val (t.data.toList.take (k + 1)) : Nat) : Int) = 10 * (val (t.data.toList.take k) : Int) + ((t[k].toNat : Int) - 48) := by
  rw [take_snoc t k h, val_snoc]; omega
theorem val_bd (t : ByteArray) (k : Nat) (ht : t.size ≤ 6) (hk : k ≤ t.size) (hd : ∀ c ∈ t.data.toList.take k, isD c = true) : val (t.data.toList.take k) ≤ 999999 := by
  have h1 := val_lt _ hd
  have h2 : (t.data.toList.take k).length ≤ 6 := by rw [List.length_take]; omega
  have h3 : val (t.data.toList.take k) < 10 ^ 6 := Nat.lt_of_lt_of_le h1 (Nat.pow_le_pow_right (by omega) h2)
  omega
theorem all_snoc (t : ByteArray) (k : Nat) (h : k < t.size) (hd : ∀ c ∈ t.data.toList.take k, isD c = true) (h0 : 48 ≤ t[k].toNat) (h1 : t[k].toNat ≤ 57) : ∀ c ∈ t.data.toList.take (k + 1), isD c = true := by
  rw [take_snoc t k h]
  intro c hc
  rcases List.mem_append.1 hc with hc | hc
  · exact hd c hc
  · simp only [List.mem_singleton] at hc
    subst hc
    simp only [isD, decide_eq_true_eq]
    omega
theorem bad_at (l : List UInt8) (t : ByteArray) (k : Nat) (h : k < t.size) (hT : t.data.toList = strip l) (hb : ¬ (48 ≤ t[k].toNat ∧ t[k].toNat ≤ 57)) : ∀ v, ¬ Numeral l v := by
  refine bad_digit (c := t[k]) ?_ ?_
  · rw [← hT]; exact Array.getElem_mem_toList _
  · simp only [isD, decide_eq_true_eq]; exact hb
theorem PQ.no {l : List UInt8} {w : World} (h : ∀ v, ¬ Numeral l v) {w' : World} (hb : Below w.heap.size w w') : PQ l w (.returned (.tuple #[.int .i64 0, .bool false])) w' := ⟨.inr ⟨h, rfl⟩, hb⟩
theorem PQ.yes {l : List UInt8} {w : World} {v : Int} (h : Numeral l v) {w' : World} (hb : Below w.heap.size w w') : PQ l w (.returned (.tuple #[.int .i64 v, .bool true])) w' := ⟨.inl ⟨v, h, rfl⟩, hb⟩
theorem neg_yes (s : ByteArray) (h1 : 1 < s.size) (h2 : s[0].toNat = 45) : neg s.data.toList = true := by
  unfold neg
  rw [decide_eq_true (by simpa using h1), Bool.true_and, List.head?_eq_getElem?, List.getElem?_eq_getElem (by simp; omega)]
  have e : s[0] = 45 := UInt8.toNat_inj.1 h2
  simp
  exact e
theorem neg_no (s : ByteArray) (h : ¬ ∃ h : 1 < s.size, s[0].toNat = 45) : ¬ neg s.data.toList = true := by
  intro hn
  unfold neg at hn
  rw [Bool.and_eq_true, decide_eq_true_eq] at hn
  obtain ⟨a, b⟩ := hn
  have a' : 1 < s.size := by simpa using a
  refine h ⟨a', ?_⟩
  rw [List.head?_eq_getElem?, List.getElem?_eq_getElem (by simp; omega)] at b
  have b' : s[0] = 45 := by simp at b; exact b
  rw [b']; rfl
theorem cut_list (s : ByteArray) : (s.extract 1 s.size).data.toList = s.data.toList.tail := by
  rw [ByteArray.data_extract]
  simp
  exact List.take_of_length_le (by simp)

set_option maxHeartbeats 400000 in
theorem l1Read (s : ByteArray) (w : World) (hs : s.size ≤ maxLen) :
    Calls Tryd.prog 51 #[.string s] w (PQ s.data.toList w) := by
  unfold maxLen at hs
  by_cases h1 : 1 < s.size
  · by_cases h2 : s[0].toNat = 45
    · have hx : (s.extract 1 s.size).size = s.size - 1 := by simp
      have hN := Lib.hid (neg_yes s h1 h2)
      have hT := Lib.hid (show (s.extract 1 s.size).data.toList = strip s.data.toList by rw [cut_list]; unfold strip; rw [if_pos hN.out])
      have HX := Lib.hid hx
      clear hx
      go_enter Tryd.func51, Tryd.ntmps51
      go_wp2_with fail
      rw [← HX.out]
      have hlt : (s.extract 1 s.size).size < s.size := by rw [HX.out]; omega
      generalize s.extract 1 s.size = t at *
      clear h2
      by_cases hl : 1 ≤ t.size ∧ t.size ≤ 6
      · have hd : decide (1 ≤ (t.size : Int) ∧ (t.size : Int) ≤ 6) = true := decide_eq_true (by omega)
        refine (Num.l1In _ _ _ _).mono ?_
        rintro e w' ⟨rfl, rfl⟩
        rw [hd]
        obtain ⟨hl1, hl2⟩ := hl
        clear hd
        go_wp2_with fail
        go_loop [5, 6] (fun n i => ∃ k : Nat, k ≤ t.size ∧ (∀ c ∈ t.data.toList.take k, isD c = true) ∧ i = .int .i64 k ∧ n = .int .i64 (val (t.data.toList.take k) : Nat)) (fun _ i => t.size - (intOf i).toNat)
        case atStart => exact ⟨0, Nat.zero_le _, by simp, rfl, rfl⟩
        case round =>
          obtain ⟨k, hk, hd, rfl, rfl⟩ := hrel
          have hv := val_bd t k hl2 hk hd
          have HD := Lib.hid hd
          clear hd
          by_cases hlt : k < t.size
          · by_cases h48 : 48 ≤ t[k].toNat
            · by_cases h57 : t[k].toNat ≤ 57
              · have HS := Lib.hid (val_step t k hlt h48)
                have HA := Lib.hid (all_snoc t k hlt HD.out h48 h57)
                go_wp2_with fail
                go_round
                case rel => exact ⟨k + 1, by omega, HA.out, by go_num, by rw [HS.out]⟩
                case measure => simp [intOf]; omega
              · have HB := Lib.hid (bad_at _ t k hlt hT.out (by omega))
                go_wp2_with fail
                go_ret2
                exact PQ.no HB.out (Below.refl _ _)
            · have HB := Lib.hid (bad_at _ t k hlt hT.out (by omega))
              go_wp2_with fail
              go_ret2
              exact PQ.no HB.out (Below.refl _ _)
          · have hkk : t.data.toList.take k = strip s.data.toList := by rw [← hT.out]; exact List.take_of_length_le (by simp; omega)
            rw [hkk] at HD hv ⊢
            have HL := Lib.hid (show (strip s.data.toList).length ≤ 6 by rw [← hT.out]; simpa using hl2)
            clear hkk
            generalize hV : val (strip s.data.toList) = V at *
            have HV := Lib.hid hV
            clear hV
            go_wp2_with fail
            have hw : -9223372036854775807 ≤ -(V : Int) ∧ -(V : Int) ≤ 9223372036854775807 := by omega
            refine (Num.l1Num _ _ hw.1 hw.2).mono ?_
            rintro e w' ⟨rfl, m, rfl⟩
            have hsg : signed s.data.toList V = -(V : Int) := by unfold signed; rw [if_pos hN.out]
            have hb := Fmt.below_drewN w m
            by_cases he : (⟨(Lib.itoa (-(V : Int))).toArray⟩ : ByteArray) = s
            · have hg := Lib.hid (show Numeral s.data.toList (-(V : Int)) by
                have := good_end (l := s.data.toList) HL.out HD.out
                rw [HV.out, hsg] at this
                exact this (by rw [← he]))
              clear hsg
              rw [he]
              clear he
              go_wp2_with fail
              go_ret2
              exact PQ.yes hg.out hb
            · have hg := Lib.hid (show ∀ v, ¬ Numeral s.data.toList v from by
                refine bad_end ?_
                rw [HV.out, hsg]
                intro h
                exact he (by rw [h]))
              have he' : (Lib.itoa (-(V : Int)) == s.toList) = false := by
                rw [ByteArray.toList_eq, beq_eq_false_iff_ne]
                intro h
                exact he (by rw [h])
              clear hsg he
              go_wp2_with fail
              go_ret2
              exact PQ.no hg.out hb
      · have hd : decide (1 ≤ (t.size : Int) ∧ (t.size : Int) ≤ 6) = false := decide_eq_false (by omega)
        have HB := Lib.hid (show ∀ v, ¬ Numeral s.data.toList v from bad_len (by rw [← hT.out, Array.length_toList]; change t.size < 1 ∨ 6 < t.size; omega))
        refine (Num.l1In _ _ _ _).mono ?_
        rintro e w' ⟨rfl, rfl⟩
        rw [hd]
        clear hd hl
        go_wp2_with fail
        go_ret2
        exact PQ.no HB.out (Below.refl _ _)
    · have hN := Lib.hid (neg_no s (fun ⟨_, h⟩ => h2 h))
      have hT := Lib.hid (show s.data.toList = strip s.data.toList by unfold strip; rw [if_neg hN.out])
      have hw2 : ((s[0].toNat : Int) == 45) = false := by rw [beq_eq_false_iff_ne]; omega
      clear h2
      go_enter Tryd.func51, Tryd.ntmps51
      go_wp2_with fail
      by_cases hl : 1 ≤ s.size ∧ s.size ≤ 6
      · have hd : decide (1 ≤ (s.size : Int) ∧ (s.size : Int) ≤ 6) = true := decide_eq_true (by omega)
        refine (Num.l1In _ _ _ _).mono ?_
        rintro e w' ⟨rfl, rfl⟩
        rw [hd]
        obtain ⟨hl1, hl2⟩ := hl
        clear hd
        go_wp2_with fail
        go_loop [5, 6] (fun n i => ∃ k : Nat, k ≤ s.size ∧ (∀ c ∈ s.data.toList.take k, isD c = true) ∧ i = .int .i64 k ∧ n = .int .i64 (val (s.data.toList.take k) : Nat)) (fun _ i => s.size - (intOf i).toNat)
        case atStart => exact ⟨0, Nat.zero_le _, by simp, rfl, rfl⟩
        case round =>
          obtain ⟨k, hk, hd, rfl, rfl⟩ := hrel
          have hv := val_bd s k hl2 hk hd
          have HD := Lib.hid hd
          clear hd
          by_cases hlt : k < s.size
          · by_cases h48 : 48 ≤ s[k].toNat
            · by_cases h57 : s[k].toNat ≤ 57
              · have HS := Lib.hid (val_step s k hlt h48)
                have HA := Lib.hid (all_snoc s k hlt HD.out h48 h57)
                go_wp2_with fail
                go_round
                case rel => exact ⟨k + 1, by omega, HA.out, by go_num, by rw [HS.out]⟩
                case measure => simp [intOf]; omega
              · have HB := Lib.hid (bad_at _ s k hlt hT.out (by omega))
                go_wp2_with fail
                go_ret2
                exact PQ.no HB.out (Below.refl _ _)
            · have HB := Lib.hid (bad_at _ s k hlt hT.out (by omega))
              go_wp2_with fail
              go_ret2
              exact PQ.no HB.out (Below.refl _ _)
          · have hkk : s.data.toList.take k = strip s.data.toList := by rw [← hT.out]; exact List.take_of_length_le (by simp; omega)
            rw [hkk] at HD hv ⊢
            have HL := Lib.hid (show (strip s.data.toList).length ≤ 6 by rw [← hT.out]; simpa using hl2)
            clear hkk
            generalize hV : val (strip s.data.toList) = V at *
            have HV := Lib.hid hV
            clear hV
            go_wp2_with fail
            have hw : -9223372036854775807 ≤ (V : Int) ∧ (V : Int) ≤ 9223372036854775807 := by omega
            refine (Num.l1Num _ _ hw.1 hw.2).mono ?_
            rintro e w' ⟨rfl, m, rfl⟩
            have hsg : signed s.data.toList V = (V : Int) := by unfold signed; rw [if_neg hN.out]
            have hb := Fmt.below_drewN w m
            by_cases he : (⟨(Lib.itoa (V : Int)).toArray⟩ : ByteArray) = s
            · have hg := Lib.hid (show Numeral s.data.toList (V : Int) by
                have := good_end (l := s.data.toList) HL.out HD.out
                rw [HV.out, hsg] at this
                exact this (by rw [← he]))
              clear hsg
              rw [he]
              clear he
              go_wp2_with fail
              go_ret2
              exact PQ.yes hg.out hb
            · have hg := Lib.hid (show ∀ v, ¬ Numeral s.data.toList v from by
                refine bad_end ?_
                rw [HV.out, hsg]
                intro h
                exact he (by rw [h]))
              have he' : (Lib.itoa (V : Int) == s.toList) = false := by
                rw [ByteArray.toList_eq, beq_eq_false_iff_ne]
                intro h
                exact he (by rw [h])
              clear hsg he
              go_wp2_with fail
              go_ret2
              exact PQ.no hg.out hb
      · have hd : decide (1 ≤ (s.size : Int) ∧ (s.size : Int) ≤ 6) = false := decide_eq_false (by omega)
        have HB := Lib.hid (show ∀ v, ¬ Numeral s.data.toList v from bad_len (by rw [← hT.out, Array.length_toList]; change s.size < 1 ∨ 6 < s.size; omega))
        refine (Num.l1In _ _ _ _).mono ?_
        rintro e w' ⟨rfl, rfl⟩
        rw [hd]
        clear hd hl
        go_wp2_with fail
        go_ret2
        exact PQ.no HB.out (Below.refl _ _)
  · have hN := Lib.hid (neg_no s (fun ⟨h, _⟩ => h1 h))
    have hT := Lib.hid (show s.data.toList = strip s.data.toList by unfold strip; rw [if_neg hN.out])
    go_enter Tryd.func51, Tryd.ntmps51
    go_wp2_with fail
    by_cases hl : 1 ≤ s.size ∧ s.size ≤ 6
    · have hd : decide (1 ≤ (s.size : Int) ∧ (s.size : Int) ≤ 6) = true := decide_eq_true (by omega)
      refine (Num.l1In _ _ _ _).mono ?_
      rintro e w' ⟨rfl, rfl⟩
      rw [hd]
      obtain ⟨hl1, hl2⟩ := hl
      clear hd
      go_wp2_with fail
      go_loop [5, 6] (fun n i => ∃ k : Nat, k ≤ s.size ∧ (∀ c ∈ s.data.toList.take k, isD c = true) ∧ i = .int .i64 k ∧ n = .int .i64 (val (s.data.toList.take k) : Nat)) (fun _ i => s.size - (intOf i).toNat)
      case atStart => exact ⟨0, Nat.zero_le _, by simp, rfl, rfl⟩
      case round =>
        obtain ⟨k, hk, hd, rfl, rfl⟩ := hrel
        have hv := val_bd s k hl2 hk hd
        have HD := Lib.hid hd
        clear hd
        by_cases hlt : k < s.size
        · by_cases h48 : 48 ≤ s[k].toNat
          · by_cases h57 : s[k].toNat ≤ 57
            · have HS := Lib.hid (val_step s k hlt h48)
              have HA := Lib.hid (all_snoc s k hlt HD.out h48 h57)
              go_wp2_with fail
              go_round
              case rel => exact ⟨k + 1, by omega, HA.out, by go_num, by rw [HS.out]⟩
              case measure => simp [intOf]; omega
            · have HB := Lib.hid (bad_at _ s k hlt hT.out (by omega))
              go_wp2_with fail
              go_ret2
              exact PQ.no HB.out (Below.refl _ _)
          · have HB := Lib.hid (bad_at _ s k hlt hT.out (by omega))
            go_wp2_with fail
            go_ret2
            exact PQ.no HB.out (Below.refl _ _)
        · have hkk : s.data.toList.take k = strip s.data.toList := by rw [← hT.out]; exact List.take_of_length_le (by simp; omega)
          rw [hkk] at HD hv ⊢
          have HL := Lib.hid (show (strip s.data.toList).length ≤ 6 by rw [← hT.out]; simpa using hl2)
          clear hkk
          generalize hV : val (strip s.data.toList) = V at *
          have HV := Lib.hid hV
          clear hV
          go_wp2_with fail
          have hw : -9223372036854775807 ≤ (V : Int) ∧ (V : Int) ≤ 9223372036854775807 := by omega
          refine (Num.l1Num _ _ hw.1 hw.2).mono ?_
          rintro e w' ⟨rfl, m, rfl⟩
          have hsg : signed s.data.toList V = (V : Int) := by unfold signed; rw [if_neg hN.out]
          have hb := Fmt.below_drewN w m
          by_cases he : (⟨(Lib.itoa (V : Int)).toArray⟩ : ByteArray) = s
          · have hg := Lib.hid (show Numeral s.data.toList (V : Int) by
              have := good_end (l := s.data.toList) HL.out HD.out
              rw [HV.out, hsg] at this
              exact this (by rw [← he]))
            clear hsg
            rw [he]
            clear he
            go_wp2_with fail
            go_ret2
            exact PQ.yes hg.out hb
          · have hg := Lib.hid (show ∀ v, ¬ Numeral s.data.toList v from by
              refine bad_end ?_
              rw [HV.out, hsg]
              intro h
              exact he (by rw [h]))
            have he' : (Lib.itoa (V : Int) == s.toList) = false := by
              rw [ByteArray.toList_eq, beq_eq_false_iff_ne]
              intro h
              exact he (by rw [h])
            clear hsg he
            go_wp2_with fail
            go_ret2
            exact PQ.no hg.out hb
    · have hd : decide (1 ≤ (s.size : Int) ∧ (s.size : Int) ≤ 6) = false := decide_eq_false (by omega)
      have HB := Lib.hid (show ∀ v, ¬ Numeral s.data.toList v from bad_len (by rw [← hT.out, Array.length_toList]; change s.size < 1 ∨ 6 < s.size; omega))
      refine (Num.l1In _ _ _ _).mono ?_
      rintro e w' ⟨rfl, rfl⟩
      rw [hd]
      clear hd hl
      go_wp2_with fail
      go_ret2
      exact PQ.no HB.out (Below.refl _ _)

end Go.Proofs.YtankaffhapcnaaaDoor.Read
