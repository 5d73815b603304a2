/- JoinStrings of the model and of the program, over a slice of strings that lies in memory. -/
import Derived.Test.YtlenpaeaaobhhaaStands
import Derived.Test.YtlenpaeaaobhhaaStrs
import Derived.Test.YtlenpaeaaobhhaaShelf
import Derived.Test.YtlenpaeaaobhhaaJoinMath
import Derived.WalkSmall
import Derived.Deep.QuietTactic
import Derived.BigQuiet
namespace Go.Proofs.Ytlenpaeaaobhhaa.Join
open Go.RowKit JoinMath Strs

/-- the bytes of the elements -/
def L (xs : List ByteArray) : List (List UInt8) := xs.map (·.data.toList)
def jn (xs : List ByteArray) (c : UInt8) : ByteArray := ⟨(Lib.join (L xs) [c]).toArray⟩
theorem L_len (xs : List ByteArray) : (L xs).length = xs.length := by simp [L]
theorem take_snoc (xs : List ByteArray) (k : Nat) (h : k < xs.length) : L (xs.take (k + 1)) = L (xs.take k) ++ [xs[k].data.toList] := by
  rw [List.take_succ_eq_append_getElem h]; unfold L; rw [List.map_append]; rfl
theorem L_take (xs : List ByteArray) (k : Nat) : L (xs.take k) = (L xs).take k := by simp [L]
theorem jn_zero (xs : List ByteArray) (c : UInt8) (h : 0 < xs.length) : jn (xs.take 1) c = xs[0] := by
  unfold jn
  rw [take_snoc xs 0 h]
  show (⟨(Lib.join [xs[0].data.toList] [c]).toArray⟩ : ByteArray) = _
  rw [Lib.join_one]
theorem jn_succ (xs : List ByteArray) (c : UInt8) (k : Nat) (h0 : 0 < k) (h : k < xs.length) : jn (xs.take k) c ++ ⟨#[c]⟩ ++ xs[k] = jn (xs.take (k + 1)) c := by
  unfold jn
  have hne : L (xs.take k) ≠ [] := by
    intro e
    have := congrArg List.length e
    rw [L_len, List.length_take] at this
    have h2 : ([] : List (List UInt8)).length = 0 := rfl
    omega
  rw [take_snoc xs k h, join_snoc _ _ _ hne]
  apply ByteArray.ext
  simp
theorem jn_size (xs : List ByteArray) (c : UInt8) : (jn xs c).size = (Lib.join (L xs) [c]).length := by
  show (Lib.join (L xs) [c]).toArray.size = _
  simp

def PJ (xs : List ByteArray) (c : UInt8) (w : World) (e : Ending) (w' : World) : Prop :=
  ((Fit (L xs) c ∧ e = .returned (.tuple #[.string (jn xs c), .bool true])) ∨ (¬ Fit (L xs) c ∧ e = .returned (.tuple #[.string ⟨#[]⟩, .bool false]))) ∧ Below w.heap.size w w'
theorem PJ.no {xs : List ByteArray} {c : UInt8} {w w' : World} (h : ¬ Fit (L xs) c) (hb : Below w.heap.size w w') : PJ xs c w (.returned (.tuple #[.string ⟨#[]⟩, .bool false])) w' := ⟨.inr ⟨h, rfl⟩, hb⟩
theorem PJ.yes {xs : List ByteArray} {c : UInt8} {w w' : World} (h : Fit (L xs) c) (hb : Below w.heap.size w w') : PJ xs c w (.returned (.tuple #[.string (jn xs c), .bool true])) w' := ⟨.inl ⟨h, rfl⟩, hb⟩

theorem has_next (xs : List ByteArray) (c : UInt8) (k : Nat) (h : k < xs.length) (hh : ∀ x ∈ xs.take k, Seal.has x.data.toList c = false) (hx : Seal.has (xs[k]).data.toList c = false) : ∀ x ∈ xs.take (k + 1), Seal.has x.data.toList c = false := by
  rw [List.take_succ_eq_append_getElem h]
  intro x hm
  rcases List.mem_append.1 hm with hm | hm
  · exact hh x hm
  · simp only [List.mem_singleton] at hm
    subst hm
    exact hx
theorem bad_has (xs : List ByteArray) (c : UInt8) (k : Nat) (h : k < xs.length) (hx : Seal.has (xs[k]).data.toList c = true) : ¬ Fit (L xs) c :=
  not_fit_has (x := (xs[k]).data.toList) (List.mem_map_of_mem (f := fun x : ByteArray => x.data.toList) (List.getElem_mem h)) hx
theorem bad_long (xs : List ByteArray) (c : UInt8) (k : Nat) (h0 : 0 < k) (h : k ≤ xs.length) (hl : 4000 < (jn (xs.take k) c).size) : ¬ Fit (L xs) c := by
  rw [jn_size, L_take] at hl
  exact not_fit_join (k := k) (by rw [List.length_take, L_len]; omega) hl
theorem all_fit (xs : List ByteArray) (c : UInt8) (hp : 0 < xs.length) (hl : (jn xs c).size ≤ 4000) (hh : ∀ x ∈ xs, Seal.has x.data.toList c = false) : Fit (L xs) c := by
  refine ⟨?_, ?_, by rw [jn_size] at hl; exact hl⟩
  · intro e
    have := congrArg List.length e
    rw [L_len] at this
    have h2 : ([] : List (List UInt8)).length = 0 := rfl
    omega
  · intro x hx
    obtain ⟨y, hy, rfl⟩ := List.mem_map.1 hx
    exact hh y hy
theorem stands_q (s : ByteArray) (c : UInt8) (w : World) (hs : s.size ≤ maxLen) {r : Bool} (hr : Seal.has s.data.toList c = r) :
    Calls Try.prog 32 #[.string s, .int .u8 c.toNat] w fun e w' => e = .returned (.bool r) ∧ w' = w :=
  (Seal.l1Stands s c w hs).mono fun _ _ ⟨he, hw⟩ => ⟨by rw [he, hr], hw.symm⟩

set_option maxHeartbeats 400000 in
theorem spec_full (b o n cp : Nat) (xs : List ByteArray) (c : UInt8) (w : World) (hn : Hid (xs.length = n)) (hpos : 0 < n) (hcp : n ≤ cp) (hcm : cp ≤ maxLen) (hsm : Hid (∀ x ∈ xs, x.size ≤ 1048576)) (hbl : b < w.heap.size)
    (hc : Hid (∀ j x, xs[j]? = some x → w.cell? ⟨b, o + j, none⟩ = some (.string x))) :
    Calls Try.prog 13 #[.slice (some ⟨b, o, none⟩) n cp, .string ⟨#[c]⟩] w (PJ xs c w) := by
  unfold maxLen at hcm
  have hn0 : ((n : Int) == 0) = false := by rw [beq_eq_false_iff_ne]; omega
  have hg : ∀ h : 0 < (⟨#[c]⟩ : ByteArray).size, (⟨#[c]⟩ : ByteArray)[0] = c := fun _ => rfl
  go_enter Try.func13, Try.ntmps13
  go_wp2_with fail
  go_loopw [6, 7] (fun v i wr => ∃ k : Nat, k ≤ n ∧ Below w.heap.size w wr ∧ i = .int .i64 k ∧ v = .string (jn (xs.take k) c) ∧ (jn (xs.take k) c).size ≤ 4000 ∧ Hid (∀ x ∈ xs.take k, Seal.has x.data.toList c = false)) (fun _ i _ => n - (intOf i).toNat)
  case atStart => exact ⟨0, Nat.zero_le _, Below.refl _ _, rfl, rfl, Nat.zero_le _, by intro x hx; simp at hx⟩
  case round =>
    obtain ⟨k, hk, hb, rfl, rfl, hl, HH⟩ := hrel
    by_cases hlt : k < n
    · have hx : k < xs.length := by rw [hn.out]; exact hlt
      have hcell : wr.cell? ⟨b, o + k, none⟩ = some (.string xs[k]) := by
        rw [hb.cell (p := ⟨b, o + k, none⟩) hbl]; exact hc.out k xs[k] (List.getElem?_eq_getElem hx)
      have hxs := hsm.out xs[k] (List.getElem_mem hx)
      cases hs : Seal.has (xs[k]).data.toList c with
      | true =>
        have HB := Lib.hid (bad_has xs c k hx hs)
        have HS := Lib.hid hs
        clear hs
        generalize xs[k] = X at *
        go_wp2_with fail
        go_quiet ((go_at_call 32; exact Calls.quiet_of_same (stands_q X c _ (by unfold maxLen; omega) HS.out)))
        go_wp2_with fail
        go_ret2
        exact PJ.no HB.out (hb.trans ⟨rfl, rfl, rfl, Nat.le_refl _, fun _ _ => rfl⟩)
      | false =>
        have HS := Lib.hid hs
        have HN := Lib.hid (has_next xs c k hx HH.out hs)
        clear hs
        by_cases h0 : 0 < k
        · have HE := Lib.hid (jn_succ xs c k h0 hx)
          have HB := Lib.hid (bad_long xs c (k + 1) (by omega) hx)
          have hsz : (jn (xs.take (k + 1)) c).size = (jn (xs.take k) c).size + 1 + (xs[k]).size := by rw [← HE.out]; simp; rfl
          have HZ := Lib.hid hsz
          clear hsz
          generalize xs[k] = X at *
          by_cases hbig : 4000 < (jn (xs.take k) c).size + 1 + X.size
          · go_wp2_with fail
            go_quiet ((go_at_call 32; exact Calls.quiet_of_same (stands_q X c _ (by unfold maxLen; omega) HS.out)))
            have hb2 : Below w.heap.size w (wr.drewN nq) := hb.trans ⟨rfl, rfl, rfl, Nat.le_refl _, fun _ _ => rfl⟩
            go_wp2_with fail
            go_ret2
            exact PJ.no (HB.out (by rw [HZ.out]; omega)) hb2
          · go_wp2_with fail
            go_quiet ((go_at_call 32; exact Calls.quiet_of_same (stands_q X c _ (by unfold maxLen; omega) HS.out)))
            have hb2 : Below w.heap.size w (wr.drewN nq) := hb.trans ⟨rfl, rfl, rfl, Nat.le_refl _, fun _ _ => rfl⟩
            go_wp2_with fail
            go_roundw
            case rel => exact ⟨k + 1, by omega, hb2, by go_num, by rw [HE.out], by rw [HZ.out]; omega, HN.out⟩
            case measure => simp [intOf]; omega
        · obtain rfl : k = 0 := by omega
          have HE := Lib.hid (jn_zero xs c hx)
          have hcell0 : wr.cell? ⟨b, o, none⟩ = some (.string xs[0]) := hcell
          have HB := Lib.hid (bad_long xs c 1 (by omega) hx)
          have HZ := Lib.hid (show jn [] c = ⟨#[]⟩ from rfl)
          have hz : (jn [] c).size ≤ 0 := Nat.le_refl _
          generalize xs[0] = X at *
          by_cases hbig : 4000 < X.size
          · go_wp2_with fail
            go_quiet ((go_at_call 32; exact Calls.quiet_of_same (stands_q X c _ (by unfold maxLen; omega) HS.out)))
            have hb2 : Below w.heap.size w (wr.drewN nq) := hb.trans ⟨rfl, rfl, rfl, Nat.le_refl _, fun _ _ => rfl⟩
            go_wp2_with fail
            go_ret2
            exact PJ.no (HB.out (by rw [HE.out]; omega)) hb2
          · go_wp2_with fail
            go_quiet ((go_at_call 32; exact Calls.quiet_of_same (stands_q X c _ (by unfold maxLen; omega) HS.out)))
            have hb2 : Below w.heap.size w (wr.drewN nq) := hb.trans ⟨rfl, rfl, rfl, Nat.le_refl _, fun _ _ => rfl⟩
            go_wp2_with fail
            go_roundw
            case rel => exact ⟨1, by omega, hb2, rfl, by rw [HE.out, HZ.out]; exact congrArg Value.string (ByteArray.ext (by simp)), by rw [HE.out]; omega, HN.out⟩
            case measure => simp [intOf]; omega
    · have hkn : xs.take k = xs := List.take_of_length_le (by rw [hn.out]; omega)
      rw [hkn] at hl HH ⊢
      have HF := Lib.hid (all_fit xs c (by rw [hn.out]; exact hpos) hl HH.out)
      clear hkn
      go_wp2_with fail
      go_ret2
      exact PJ.yes HF.out hb

set_option maxHeartbeats 400000 in
/-- a separator that is not one byte, or no element -/
theorem spec_none (a : Option Addr) (n cp : Nat) (sep : ByteArray) (w : World) (h : sep.size ≠ 1 ∨ n = 0) :
    Calls Try.prog 13 #[.slice a n cp, .string sep] w fun e w' => e = .returned (.tuple #[.string ⟨#[]⟩, .bool false]) ∧ w = w' := by
  by_cases h1 : sep.size = 1
  · obtain rfl : n = 0 := by rcases h with h | h; exact absurd h1 h; exact h
    have H1 := Lib.hid h1
    have h2 : ((sep.size : Int) != 1) = false := by rw [h1]; rfl
    clear h h1
    go_enter Try.func13, Try.ntmps13
    go_wp2_with fail
    go_ret2
    exact ⟨rfl, rfl⟩
  · have h2 : ((sep.size : Int) == 1) = false := by rw [beq_eq_false_iff_ne]; omega
    clear h h1
    go_enter Try.func13, Try.ntmps13
    go_wp2_with fail
    go_ret2
    exact ⟨rfl, rfl⟩
set_option maxHeartbeats 400000 in
theorem impl_none (a : Option Addr) (n cp : Nat) (sep : ByteArray) (w : World) (h : sep.size ≠ 1 ∨ n = 0) :
    Calls Try.prog 12 #[.slice a n cp, .string sep] w fun e w' => e = .returned (.tuple #[.string ⟨#[]⟩, .bool false]) ∧ w = w' := by
  by_cases h1 : n = 0
  · subst h1
    clear h
    go_enter Try.func12, Try.ntmps12
    go_wp2_with fail
    go_ret2
    exact ⟨rfl, rfl⟩
  · have h2 : ((n : Int) == 0) = false := by rw [beq_eq_false_iff_ne]; omega
    have h3 : ((sep.size : Int) == 1) = false := by rcases h with h | h; rw [beq_eq_false_iff_ne]; omega; exact absurd h h1
    clear h h1
    go_enter Try.func12, Try.ntmps12
    go_wp2_with fail
    go_ret2
    exact ⟨rfl, rfl⟩

/-- the lengths together -/
theorem tot_next (xs : List ByteArray) (k : Nat) (h : k < xs.length) : tot (L (xs.take (k + 1))) = tot (L (xs.take k)) + (xs[k]).size := by
  rw [take_snoc xs k h, tot_snoc, Seal.len_data]
theorem bad_tot (xs : List ByteArray) (c : UInt8) (k : Nat) (hl : 4001 < xs.length + tot (L (xs.take k))) : ¬ Fit (L xs) c :=
  not_fit_long (k := k) (by rw [← L_take, L_len]; omega)
theorem tot_fit (xs : List ByteArray) (c : UInt8) (hp : 0 < xs.length) (hl : xs.length + tot (L xs) ≤ 4001) (hh : ∀ x ∈ xs, Seal.has x.data.toList c = false) : Fit (L xs) c := by
  have hne : L xs ≠ [] := by
    intro e
    have := congrArg List.length e
    rw [L_len] at this
    have h2 : ([] : List (List UInt8)).length = 0 := rfl
    omega
  have := join_len (L xs) [c] rfl hne
  rw [L_len] at this
  exact all_fit xs c hp (by rw [jn_size]; omega) hh

set_option maxHeartbeats 400000 in
theorem impl_full (b o n cp : Nat) (xs : List ByteArray) (c : UInt8) (w : World) (hn : Hid (xs.length = n)) (hpos : 0 < n) (hcp : n ≤ cp) (hn2 : n ≤ 1048576) (hsm : Hid (∀ x ∈ xs, x.size ≤ 1048576)) (hbl : b < w.heap.size)
    (hc : Hid (∀ j x, xs[j]? = some x → w.cell? ⟨b, o + j, none⟩ = some (.string x))) :
    Calls Try.prog 12 #[.slice (some ⟨b, o, none⟩) n cp, .string ⟨#[c]⟩] w (PJ xs c w) := by
  have hn0 : ((n : Int) == 0) = false := by rw [beq_eq_false_iff_ne]; omega
  go_enter Try.func12, Try.ntmps12
  go_wp2_with fail
  go_loop [6, 22] (fun v i => ∃ k T : Nat, k ≤ n ∧ i = .int .i64 k ∧ v = .int .i64 ((n : Int) - 1 + T) ∧ Hid (T = tot (L (xs.take k))) ∧ (k = 0 ∧ T = 0 ∨ n + T ≤ 4001) ∧ Hid (∀ x ∈ xs.take k, Seal.has x.data.toList c = false)) (fun _ i => n - (intOf i).toNat)
  case atStart => exact ⟨0, 0, Nat.zero_le _, rfl, by simp, rfl, .inl ⟨rfl, rfl⟩, by intro x hx; simp at hx⟩
  case round =>
    obtain ⟨k, T, hk, rfl, rfl, HT, hor, HH⟩ := hrel
    have hT : T ≤ 4001 := by omega
    by_cases hlt : k < n
    · have hx : k < xs.length := by rw [hn.out]; exact hlt
      have hcell := hc.out k xs[k] (List.getElem?_eq_getElem hx)
      have hxs := hsm.out xs[k] (List.getElem_mem hx)
      have HTN := Lib.hid (tot_next xs k hx)
      by_cases hbig : 4001 < n + (T + (xs[k]).size)
      · have HB := Lib.hid (bad_tot xs c (k + 1) (by rw [HTN.out, ← HT.out, hn.out]; exact hbig))
        generalize xs[k] = X at *
        clear hor
        go_wp2_with fail
        go_ret2
        exact PJ.no HB.out (Below.refl _ _)
      · cases hs : Seal.has (xs[k]).data.toList c with
        | true =>
          have HB := Lib.hid (bad_has xs c k hx hs)
          have HS := Lib.hid ((Seal.has_index _ _).trans hs)
          clear hs
          generalize xs[k] = X at *
          clear hor
          go_wp2_with fail
          refine (Try.strings_Contains_one X c _).mono ?_
          rintro e w' ⟨rfl, rfl⟩
          rw [HS.out]
          go_wp2_with fail
          go_ret2
          exact PJ.no HB.out (Below.refl _ _)
        | false =>
          have HN := Lib.hid (has_next xs c k hx HH.out hs)
          have HS := Lib.hid ((Seal.has_index _ _).trans hs)
          clear hs
          generalize xs[k] = X at *
          clear hor
          go_wp2_with fail
          refine (Try.strings_Contains_one X c _).mono ?_
          rintro e w' ⟨rfl, rfl⟩
          rw [HS.out]
          go_wp2_with fail
          go_round
          case rel => exact ⟨k + 1, T + X.size, by omega, by go_num, by go_num, by show _ = _; rw [HTN.out, ← HT.out], .inr (by omega), HN.out⟩
          case measure => simp [intOf]; omega
    · have hkn : xs.take k = xs := List.take_of_length_le (by rw [hn.out]; omega)
      rw [hkn] at HH HT
      have HF := Lib.hid (tot_fit xs c (by rw [hn.out]; exact hpos) (by rw [← HT.out, hn.out]; omega) HH.out)
      have HJ := Lib.hid (show (Lib.join (xs.map (·.data.toList)) [c]).length ≤ 140737488355328 by have := HF.out.2.2; unfold L at this; omega)
      clear hkn hor
      have hn' := hn.out
      subst hn'
      go_wp2_with fail
      refine (Try.strings_Join b o cp xs ⟨#[c]⟩ _ hc.out hbl (by omega) hcp HJ.out).mono ?_
      rintro e w1 ⟨rfl, hb⟩
      go_wp2_with fail
      go_ret2
      exact PJ.yes HF.out hb
end Go.Proofs.Ytlenpaeaaobhhaa.Join
