/- AppendChecksum of the model and of the program: the string, the mark and the numeral of its checksum. -/
import Derived.Test.YtlenpaeaaobhhaaDoorFmt
import Derived.Test.YtlenpaeaaobhhaaDoorSum
import Derived.Lib.IndexAny
namespace Go.Proofs.YtlenpaeaaobhhaaDoor.Seal
open Go.RowKit Sums

theorem ret_bool {a b : Bool} (h : a = b) : Ending.returned (.bool a) = .returned (.bool b) := by rw [h]
/-- whether a byte stands in a string -/
def has (l : List UInt8) (c : UInt8) : Bool := l.contains c
def sealOf (l : List UInt8) : List UInt8 := l ++ 35 :: Lib.itoa (cs l)
theorem seal_length (l : List UInt8) : (sealOf l).length = l.length + 1 + (Lib.itoa (cs l)).length := by unfold sealOf; simp; omega
theorem itoa_cs_length (l : List UInt8) : (Lib.itoa (cs l)).length ≤ 21 := by
  have := cs_bd l
  exact Lib.itoa_length_le _ (by omega) (by omega)
theorem seal_eq (s : ByteArray) : s ++ (⟨#[35]⟩ : ByteArray) ++ (⟨(Lib.itoa (cs s.data.toList)).toArray⟩ : ByteArray) = ⟨(sealOf s.data.toList).toArray⟩ := by
  apply ByteArray.ext
  simp [sealOf]

set_option maxHeartbeats 400000 in
theorem l1Stands (s : ByteArray) (c : UInt8) (w : World) (hs : s.size ≤ maxLen) :
    Calls Tryd.prog 33 #[.string s, .int .u8 c.toNat] w fun e w' => e = .returned (.bool (has s.data.toList c)) ∧ w = w' := by
  unfold maxLen at hs
  go_enter Tryd.func33, Tryd.ntmps33
  go_wp2_with fail
  go_loop [5] (fun i => ∃ k : Nat, k ≤ s.size ∧ i = .int .i64 k ∧ (s.data.toList.take k).contains c = false) (fun i => s.size - (intOf i).toNat)
  case atStart => exact ⟨0, Nat.zero_le _, rfl, rfl⟩
  case round =>
    obtain ⟨k, hk, rfl, hc⟩ := hrel
    have HC := Lib.hid hc
    clear hc
    by_cases hlt : k < s.size
    · by_cases he : s[k] = c
      · have hb : ((s[k].toNat : Int) == (c.toNat : Int)) = true := by rw [he]; simp
        have HM := Lib.hid (show has s.data.toList c = true by
          unfold has
          rw [← he, List.contains_iff_mem]; exact Array.getElem_mem_toList _)
        clear he
        go_wp2_with fail
        go_ret
        exact ⟨ret_bool HM.out.symm, rfl⟩
      · have hb : ((s[k].toNat : Int) == (c.toNat : Int)) = false := by
          rw [beq_eq_false_iff_ne]
          intro h
          exact he (UInt8.toNat_inj.1 (by omega))
        have HS := Lib.hid (show (s.data.toList.take (k + 1)).contains c = false by
          rw [take_snoc s k hlt, List.contains_eq_any_beq, List.any_append, ← List.contains_eq_any_beq, HC.out]
          simp
          exact fun h => he h.symm)
        clear he
        go_wp2_with fail
        go_round
        case rel => exact ⟨k + 1, by omega, by go_num, HS.out⟩
        case measure => simp [intOf]; omega
    · have HM := Lib.hid (show has s.data.toList c = false by
        unfold has
        have := HC.out
        rw [List.take_of_length_le (by simp; omega)] at this
        exact this)
      go_wp2_with fail
      go_ret
      exact ⟨ret_bool HM.out.symm, rfl⟩

set_option maxHeartbeats 400000 in
theorem l1Seal (s : ByteArray) (w : World) (hs : s.size ≤ 4000) :
    Calls Tryd.prog 34 #[.string s] w fun e w' => e = .returned (.string ⟨(sealOf s.data.toList).toArray⟩) ∧ ∃ k, w' = w.drewN k := by
  have hb := cs_bd s.data.toList
  have hi := itoa_cs_length s.data.toList
  have HE := Lib.hid (seal_eq s)
  obtain ⟨b0, b1⟩ := hb
  go_enter Tryd.func34, Tryd.ntmps34
  go_wp2_with fail
  refine (Sums.l1Sum s _ (by unfold maxLen; omega)).mono ?_
  rintro e w' ⟨rfl, rfl⟩
  go_wp2_with fail
  refine (Num.l1Num _ _ (by omega) (by omega)).mono ?_
  rintro e w' ⟨rfl, k, rfl⟩
  go_wp2_with fail
  go_ret
  exact ⟨congrArg (fun b => Ending.returned (.string b)) HE.out, k, rfl⟩
end Go.Proofs.YtlenpaeaaobhhaaDoor.Seal
