/- Words of an amendment: the tests of the model and of the program. No condition. -/
import Derived.Test.YtclpdpfnlmfogaaAm
import Derived.Test.YtclpdpfnlmfogaaJ1
namespace Go.Proofs.Ytclpdpfnlmfogaa.AmA
open Go.RowKit Bs Word Am
set_option linter.unusedVariables false
set_option maxRecDepth 100000 in
set_option maxHeartbeats 1600000 in
theorem l9Words (v : Value) (l : T) (m : Nat) (w : World) (h0 : Is LString.rec w v l) (f0 : ∀ x ∈ l, LString.Fine x) (hm : m ≤ 1000) :
    Calls Try.prog 55 #[v, .int .i64 m] w fun e w' => e = .returned (.bool (wordsB l m)) ∧ w = w' := by
  obtain ⟨a, cp, rfl, h0⟩ := h0
  have hc := h0.at_ LString.rec
  obtain ⟨n, hn⟩ : ∃ n, n = l.length := ⟨_, rfl⟩
  have hnb : n ≤ cp := by have := h0.1; omega
  have h2 := h0.2.1
  unfold maxLen at h2
  have HN := Lib.hid hn.symm
  have HF := Lib.hid f0
  rw [← hn]
  have hle : n ≤ l.length := by omega
  clear hn h0 f0
  have HNl := Lib.hid (fun h : ¬ n ≤ m => words_long (l := l) (m := m) (by have := HN.out; omega))
  go_enter Try.func55, Try.ntmps55
  go_wp2_with fail
  go_loop [5] (fun i => ∃ k : Nat, k ≤ n ∧ k ≤ m + 1 ∧ i = .int .i64 k ∧ Hid (Upto l k)) (fun i => n - (intOf i).toNat)
  case atStart => exact ⟨0, Nat.zero_le _, Nat.zero_le _, rfl, Lib.hid (upto_zero l)⟩
  case round =>
    obtain ⟨k, hk, hkm, rfl, HU⟩ := hrel
    by_cases hlt : k < n
    · by_cases hm2 : k ≤ m
      · have hx : k < l.length := by omega
        obtain ⟨b, o, rfl, hbl, hcell⟩ := hc.out k l[k] (List.getElem?_eq_getElem hx)
        have q0 := LString.cells hcell
        simp only [LString.rec_n, Nat.mul_one] at q0
        have HX := Lib.hid (List.getElem?_eq_getElem hx)
        have HW := Lib.hid (Word.l2Word l[k] w (HF.out _ (List.getElem_mem hx)))
        clear hcell
        generalize l[k] = X at *
        have k0 : 0 ≤ (k : Int) := by omega
        have k1 : (k : Int) < (n : Int) := by omega
        go_wp2_with fail
        refine HW.out.mono ?_
        rintro e _ ⟨rfl, rfl⟩
        cases hw : isWordB X with
        | true =>
          have HU2 := Lib.hid (upto_next HU.out HX.out hw)
          go_wp2_with fail
          go_round
          case rel => exact ⟨k + 1, by omega, by omega, by go_num, HU2⟩
          case measure => simp [intOf]; omega
        | false =>
          have HB := Lib.hid (words_bad (m := m) HX.out hw)
          go_wp2_with fail
          go_ret
          exact ⟨ret_bool HB.out.symm, rfl⟩
      · have HB := Lib.hid (HNl.out (by omega))
        have c1 : ¬ n ≤ m := by omega
        go_wp2_with fail
        go_ret
        exact ⟨ret_bool (by rw [HB.out]), rfl⟩
    · have HB := Lib.hid (fun h : n ≤ m => upto_all (m := m) HU.out (by have := HN.out; omega) (by have := HN.out; omega))
      have HD := Lib.hid (show wordsB l m = decide (n ≤ m) by
        by_cases h : n ≤ m
        · rw [HB.out h, decide_eq_true h]
        · rw [HNl.out h, decide_eq_false h])
      go_wp2_with fail
      go_ret
      exact ⟨ret_bool (by rw [HD.out]), rfl⟩
theorem l9Text (v : Value) (l : T) (w : World) (h0 : Is LString.rec w v l) (f0 : ∀ x ∈ l, LString.Fine x) :
    Calls Try.prog 51 #[v] w fun e w' => e = .returned (.bool (textB l)) ∧ w = w' := by
  have HC := Lib.hid (l9Words v l 20 w h0 f0 (by decide))
  clear h0 f0
  go_enter Try.func51, Try.ntmps51
  go_wp2_with fail
  refine HC.out.mono ?_
  rintro e _ ⟨rfl, rfl⟩
  go_wp2_with fail
  go_ret
  exact ⟨rfl, rfl⟩
def rangeB (l : T) (lo hi : Nat) : Bool := decide (lo ≤ l.length) && wordsB l hi
theorem range_long {l : T} {lo hi : Nat} (h : ¬ (lo ≤ l.length ∧ l.length ≤ hi)) : rangeB l lo hi = false := by
  unfold rangeB
  by_cases h1 : lo ≤ l.length
  · rw [words_long (fun h2 => h ⟨h1, h2⟩)]; simp
  · rw [decide_eq_false h1]; rfl
theorem range_in {l : T} {lo hi : Nat} (h : lo ≤ l.length) : rangeB l lo hi = wordsB l hi := by unfold rangeB; rw [decide_eq_true h]; rfl
set_option maxRecDepth 100000 in
set_option maxHeartbeats 1600000 in
theorem areWords (v : Value) (l : T) (lo hi : Nat) (w : World) (h0 : Is LString.rec w v l) (f0 : ∀ x ∈ l, LString.Fine x) (hlo : lo ≤ 1000) (hm : hi ≤ 1000) :
    Calls Try.prog 53 #[v, .int .i64 lo, .int .i64 hi] w fun e w' => e = .returned (.bool (rangeB l lo hi)) ∧ w = w' := by
  obtain ⟨a, cp, rfl, h0⟩ := h0
  have hc := h0.at_ LString.rec
  obtain ⟨n, hn⟩ : ∃ n, n = l.length := ⟨_, rfl⟩
  have hnb : n ≤ cp := by have := h0.1; omega
  have h2 := h0.2.1
  unfold maxLen at h2
  have HN := Lib.hid hn.symm
  have HF := Lib.hid f0
  rw [← hn]
  have hle : n ≤ l.length := by omega
  clear hn h0 f0
  by_cases c1 : n < lo
  · have HB := Lib.hid (range_long (l := l) (lo := lo) (hi := hi) (by have := HN.out; omega))
    go_enter Try.func53, Try.ntmps53
    go_wp2_with fail
    go_ret
    exact ⟨ret_bool HB.out.symm, rfl⟩
  by_cases c2 : hi < n
  · have HB := Lib.hid (range_long (l := l) (lo := lo) (hi := hi) (by have := HN.out; omega))
    go_enter Try.func53, Try.ntmps53
    go_wp2_with fail
    go_ret
    exact ⟨ret_bool HB.out.symm, rfl⟩
  have HR := Lib.hid (range_in (l := l) (lo := lo) (hi := hi) (by have := HN.out; omega))
  go_enter Try.func53, Try.ntmps53
  go_wp2_with fail
  go_loop [21] (fun i => ∃ k : Nat, k ≤ n ∧ i = .int .i64 k ∧ Hid (Upto l k)) (fun i => n - (intOf i).toNat)
  case atStart => exact ⟨0, Nat.zero_le _, rfl, Lib.hid (upto_zero l)⟩
  case round =>
    obtain ⟨k, hk, rfl, HU⟩ := hrel
    by_cases hlt : k < n
    · have hx : k < l.length := by omega
      obtain ⟨b, o, rfl, hbl, hcell⟩ := hc.out k l[k] (List.getElem?_eq_getElem hx)
      have q0 := LString.cells hcell
      simp only [LString.rec_n, Nat.mul_one] at q0
      have HX := Lib.hid (List.getElem?_eq_getElem hx)
      have HW := Lib.hid (Word.isWord l[k] w (HF.out _ (List.getElem_mem hx)))
      clear hcell
      generalize l[k] = X at *
      have k0 : 0 ≤ (k : Int) := by omega
      have k1 : (k : Int) < (n : Int) := by omega
      go_wp2_with fail
      refine HW.out.mono ?_
      rintro e _ ⟨rfl, rfl⟩
      cases hw : isWordB X with
      | true =>
        have HU2 := Lib.hid (upto_next HU.out HX.out hw)
        go_wp2_with fail
        go_round
        case rel => exact ⟨k + 1, by omega, by go_num, HU2⟩
        case measure => simp [intOf]; omega
      | false =>
        have HB := Lib.hid (words_bad (m := hi) HX.out hw)
        go_wp2_with fail
        go_ret
        exact ⟨ret_bool (HR.out.trans HB.out).symm, rfl⟩
    · have HB := Lib.hid (upto_all (m := hi) HU.out (by have := HN.out; omega) (by have := HN.out; omega))
      go_wp2_with fail
      go_ret
      exact ⟨ret_bool (HR.out.trans HB.out).symm, rfl⟩
theorem isText (v : Value) (l : T) (w : World) (h0 : Is LString.rec w v l) (f0 : ∀ x ∈ l, LString.Fine x) :
    Calls Try.prog 37 #[v] w fun e w' => e = .returned (.bool (textB l)) ∧ w = w' := by
  have HC := Lib.hid (areWords v l 0 20 w h0 f0 (by decide) (by decide))
  have HR := Lib.hid (show rangeB l 0 20 = textB l from range_in (Nat.zero_le _))
  clear h0 f0
  go_enter Try.func37, Try.ntmps37
  go_wp2_with fail
  refine HC.out.mono ?_
  rintro e _ ⟨rfl, rfl⟩
  go_wp2_with fail
  go_ret
  exact ⟨ret_bool HR.out, rfl⟩
theorem isPhrase (v : Value) (l : T) (w : World) (h0 : Is LString.rec w v l) (f0 : ∀ x ∈ l, LString.Fine x) :
    Calls Try.prog 60 #[v] w fun e w' => e = .returned (.bool (rangeB l 1 5)) ∧ w = w' := by
  have HC := Lib.hid (areWords v l 1 5 w h0 f0 (by decide) (by decide))
  clear h0 f0
  go_enter Try.func60, Try.ntmps60
  go_wp2_with fail
  refine HC.out.mono ?_
  rintro e _ ⟨rfl, rfl⟩
  go_wp2_with fail
  go_ret
  exact ⟨rfl, rfl⟩
end Go.Proofs.Ytclpdpfnlmfogaa.AmA
