/- AppendChecksum of the model and of the program, for every string. -/
import Derived.Test.YtlenpaeaaobhhaaDoorSeal
namespace Go.Proofs.YtlenpaeaaobhhaaDoor.Seal
open Go.RowKit Sums

/-- the strings that have a checksummed form -/
def Fine (s : ByteArray) : Prop := has s.data.toList 35 = false ∧ (sealOf s.data.toList).length ≤ 4000
theorem Fine.size {s : ByteArray} (h : Fine s) : s.size ≤ 4000 := by
  have h2 := h.2
  rw [seal_length] at h2
  have : s.data.toList.length = s.size := Array.length_toList
  omega
theorem len_data (s : ByteArray) : s.data.toList.length = s.size := Array.length_toList

set_option maxHeartbeats 400000 in
theorem spec_yes (s : ByteArray) (w : World) (h : Fine s) :
    Calls Tryd.prog 17 #[.string s] w fun e w' => e = .returned (.tuple #[.string ⟨(sealOf s.data.toList).toArray⟩, .bool true]) ∧ Below w.heap.size w w' := by
  have hs := h.size
  have HH := Lib.hid h.1
  have hl := h.2
  clear h
  go_enter Tryd.func17, Tryd.ntmps17
  go_wp2_with fail
  refine (l1Stands s 35 _ (by unfold maxLen; omega)).mono ?_
  rintro e w' ⟨rfl, rfl⟩
  rw [HH.out]
  go_wp2_with fail
  refine (l1Seal s _ hs).mono ?_
  rintro e w' ⟨rfl, k, rfl⟩
  go_wp2_with fail
  refine (l1Seal s _ hs).mono ?_
  rintro e w' ⟨rfl, k2, rfl⟩
  have hb := Fmt.below_drewN w (k + k2)
  go_wp2_with fail
  go_ret2
  exact ⟨rfl, hb⟩

set_option maxHeartbeats 400000 in
theorem spec_no (s : ByteArray) (w : World) (hs : s.size ≤ maxLen) (h : ¬ Fine s) :
    Calls Tryd.prog 17 #[.string s] w fun e w' => e = .returned (.tuple #[.string ⟨#[]⟩, .bool false]) ∧ Below w.heap.size w w' := by
  by_cases h1 : 4000 < s.size
  · clear h hs
    go_enter Tryd.func17, Tryd.ntmps17
    go_wp2_with fail
    go_ret2
    exact ⟨rfl, Below.refl _ _⟩
  · have h1' : s.size ≤ 4000 := by omega
    clear h1
    cases hh : has s.data.toList 35 with
    | true =>
      have HH := Lib.hid hh
      clear hh h
      go_enter Tryd.func17, Tryd.ntmps17
      go_wp2_with fail
      refine (l1Stands s 35 _ hs).mono ?_
      rintro e w' ⟨rfl, rfl⟩
      rw [HH.out]
      clear hs
      go_wp2_with fail
      go_ret2
      exact ⟨rfl, Below.refl _ _⟩
    | false =>
      have HH := Lib.hid hh
      have hl : 4000 < (sealOf s.data.toList).length := by
        rcases Nat.lt_or_ge 4000 (sealOf s.data.toList).length with h' | h'
        · exact h'
        · exact absurd ⟨hh, h'⟩ h
      have hl2 : (sealOf s.data.toList).length ≤ 4100 := by
        rw [seal_length, len_data]
        have := itoa_cs_length s.data.toList
        omega
      clear hh h
      go_enter Tryd.func17, Tryd.ntmps17
      go_wp2_with fail
      refine (l1Stands s 35 _ hs).mono ?_
      rintro e w' ⟨rfl, rfl⟩
      rw [HH.out]
      clear hs
      go_wp2_with fail
      refine (l1Seal s _ h1').mono ?_
      rintro e w' ⟨rfl, k, rfl⟩
      have hb := Fmt.below_drewN w k
      go_wp2_with fail
      go_ret2
      exact ⟨rfl, hb⟩

theorem has_index (l : List UInt8) (c : UInt8) : decide (0 ≤ Lib.indexByte l c) = has l c := (Lib.contains_iff_indexByte l c).symm

set_option maxHeartbeats 400000 in
theorem impl_yes (s : ByteArray) (w : World) (h : Fine s) (vp : Laid.Pow w) :
    Calls Tryd.prog 16 #[.string s] w fun e w' => e = .returned (.tuple #[.string ⟨(sealOf s.data.toList).toArray⟩, .bool true]) ∧ Below w.heap.size w w' := by
  have hs := h.size
  have HH := Lib.hid ((has_index s.data.toList 35).trans h.1)
  have hl := h.2
  rw [seal_length, len_data] at hl
  have VP := Lib.hid vp
  have HE := Lib.hid (seal_eq s)
  obtain ⟨b0, b1⟩ := cs_bd s.data.toList
  clear h vp
  go_enter Tryd.func16, Tryd.ntmps16
  go_wp2_with fail
  refine (Sums.implChecksum_yes s _ (by unfold maxLen; omega) hs).mono ?_
  rintro e w' ⟨rfl, rfl⟩
  go_wp2_with fail
  refine (Tryd.strings_Contains_one s 35 _).mono ?_
  rintro e w' ⟨rfl, rfl⟩
  rw [HH.out]
  go_wp2_with fail
  refine (Fmt.impl_yes _ _ (by omega) (by omega) VP.out).mono ?_
  rintro e w1 ⟨rfl, hb⟩
  go_wp2_with fail
  go_ret2
  exact ⟨congrArg (fun b => Ending.returned (.tuple #[.string b, .bool true])) HE.out, hb⟩

set_option maxHeartbeats 400000 in
theorem impl_no (s : ByteArray) (w : World) (hs : s.size ≤ maxLen) (h : ¬ Fine s) (vp : Laid.Pow w) :
    Calls Tryd.prog 16 #[.string s] w fun e w' => e = .returned (.tuple #[.string ⟨#[]⟩, .bool false]) ∧ Below w.heap.size w w' := by
  have VP := Lib.hid vp
  clear vp
  by_cases h1 : 4000 < s.size
  · clear h
    go_enter Tryd.func16, Tryd.ntmps16
    go_wp2_with fail
    refine (Sums.implChecksum_no s _ hs h1).mono ?_
    rintro e w' ⟨rfl, rfl⟩
    clear hs
    go_wp2_with fail
    go_ret2
    exact ⟨rfl, Below.refl _ _⟩
  · have h1' : s.size ≤ 4000 := by omega
    clear h1
    cases hh : has s.data.toList 35 with
    | true =>
      have HH := Lib.hid ((has_index s.data.toList 35).trans hh)
      clear hh h
      go_enter Tryd.func16, Tryd.ntmps16
      go_wp2_with fail
      refine (Sums.implChecksum_yes s _ hs h1').mono ?_
      rintro e w' ⟨rfl, rfl⟩
      clear hs
      go_wp2_with fail
      refine (Tryd.strings_Contains_one s 35 _).mono ?_
      rintro e w' ⟨rfl, rfl⟩
      rw [HH.out]
      go_wp2_with fail
      go_ret2
      exact ⟨rfl, Below.refl _ _⟩
    | false =>
      have HH := Lib.hid ((has_index s.data.toList 35).trans hh)
      have hl : 4000 < (sealOf s.data.toList).length := by
        rcases Nat.lt_or_ge 4000 (sealOf s.data.toList).length with h' | h'
        · exact h'
        · exact absurd ⟨hh, h'⟩ h
      rw [seal_length, len_data] at hl
      have hi := itoa_cs_length s.data.toList
      obtain ⟨b0, b1⟩ := cs_bd s.data.toList
      clear hh h
      go_enter Tryd.func16, Tryd.ntmps16
      go_wp2_with fail
      refine (Sums.implChecksum_yes s _ hs h1').mono ?_
      rintro e w' ⟨rfl, rfl⟩
      clear hs
      go_wp2_with fail
      refine (Tryd.strings_Contains_one s 35 _).mono ?_
      rintro e w' ⟨rfl, rfl⟩
      rw [HH.out]
      go_wp2_with fail
      refine (Fmt.impl_yes _ _ (by omega) (by omega) VP.out).mono ?_
      rintro e w1 ⟨rfl, hb⟩
      go_wp2_with fail
      go_ret2
      exact ⟨rfl, hb⟩
end Go.Proofs.YtlenpaeaaobhhaaDoor.Seal
