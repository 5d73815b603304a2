/- strings.Cut at a separator of one byte. No condition but that a string is no longer than a string can be. -/
import Derived.Test.YtmpolpeomabcfaaDoorShelf
import Derived.WalkKit
import Derived.WalkSpells
import Derived.WalkSmall
import Derived.Lib.Hide
import Derived.Lib.IndexLaws
import Derived.IntWalk
import Derived.Deep.QuietTactic
import Derived.BigQuiet
namespace Go.Proofs.YtmpolpeomabcfaaDoor.Cut1
open Go.RowKit
set_option linter.unusedVariables false
/-- a text is cut at its first separator -/
def Parts (s : ByteArray) (c : UInt8) (a b : ByteArray) (ok : Bool) : Prop :=
  (ok = true ∧ s.data.toList = a.data.toList ++ c :: b.data.toList ∧ ∀ x ∈ a.data.toList, x ≠ c) ∨ (ok = false ∧ (a = s ∧ b = ⟨#[]⟩) ∧ ∀ x ∈ s.data.toList, x ≠ c)
def CPost (s : ByteArray) (c : UInt8) (w : World) (e : Ending) (w' : World) : Prop :=
  ∃ a b ok, e = .returned (.tuple #[.string a, .string b, .bool ok]) ∧ Parts s c a b ok ∧ Below w.heap.size w w'
theorem parts_yes {s : ByteArray} {c : UInt8} {o : Nat} (h : Lib.indexByte s.data.toList c = o) : o < s.size ∧ Parts s c (s.extract 0 o) (s.extract (o + 1) s.size) true := by
  have h2 := Lib.indexByte_some h
  have ho : o < s.data.toList.length := (List.getElem?_eq_some_iff.1 h2.1).1
  have ho2 : o < s.size := by rwa [Array.length_toList] at ho
  refine ⟨ho2, .inl ⟨rfl, ?_, ?_⟩⟩
  · have e1 : (s.extract 0 o).data.toList = s.data.toList.take o := by simp
    have e2 : (s.extract (o + 1) s.size).data.toList = s.data.toList.drop (o + 1) := by
      simp
      rw [List.take_of_length_le]
      rw [List.length_drop, Array.length_toList]; exact Nat.le_refl _
    rw [e1, e2]
    have h3 := (List.getElem?_eq_some_iff.1 h2.1).2
    rw [← h3, List.getElem_cons_drop, List.take_append_drop]
  · have e1 : (s.extract 0 o).data.toList = s.data.toList.take o := by simp
    rw [e1]
    intro x hx
    obtain ⟨k, hk, rfl⟩ := List.mem_iff_getElem.1 hx
    rw [List.length_take] at hk
    rw [List.getElem_take]
    intro e
    exact h2.2 k (by omega) (by rw [List.getElem?_eq_getElem (by omega), e])
theorem parts_no {s : ByteArray} {c : UInt8} (h : Lib.indexByte s.data.toList c = -1) : Parts s c s ⟨#[]⟩ false :=
  .inr ⟨rfl, ⟨rfl, rfl⟩, fun x hx e => by
    obtain ⟨k, hk, rfl⟩ := List.mem_iff_getElem.1 hx
    exact Lib.indexByte_none h k (by rw [List.getElem?_eq_getElem hk, e])⟩
set_option maxRecDepth 100000 in
theorem lite (s : ByteArray) (c : UInt8) (w : World) (hs : s.size ≤ maxLen) :
    Calls Tryd.prog 65 #[.string s, .string ⟨#[c]⟩] w (CPost s c w) := by
  unfold maxLen at hs
  have HX := Lib.hid (Tryd.stringslite_Index_one s c w)
  rcases Int.lt_or_le (Lib.indexByte s.data.toList c) 0 with h0 | h0
  · have hm : Lib.indexByte s.data.toList c = -1 := by have := Lib.indexByte_ge s.data.toList c; omega
    have HP := Lib.hid (parts_no hm)
    rw [hm] at HX
    clear hm h0
    go_enter Tryd.func65, Tryd.ntmps65
    go_wp2_with fail
    refine HX.out.mono ?_
    rintro e w1 ⟨rfl, rfl⟩
    go_wp2_with fail
    go_ret3
    exact ⟨_, _, _, rfl, HP.out, Below.refl _ _⟩
  · obtain ⟨o, ho⟩ := Int.eq_ofNat_of_zero_le h0
    obtain ⟨hlt, hp⟩ := parts_yes ho
    have HP := Lib.hid hp
    rw [ho] at HX
    have o0 : 0 ≤ (o : Int) := by omega
    have o1 : (o : Int) ≤ (s.size : Int) := by omega
    have o2 : IntKind.i64.wrap ((o : Int) + 1) = (o : Int) + 1 := IntWalk.i64_in _ (by omega)
    have o3 : 0 ≤ (o : Int) + 1 := by omega
    have o4 : (o : Int) + 1 ≤ (s.size : Int) := by omega
    have o5 : ((o : Int) + 1).toNat = o + 1 := by omega
    clear ho h0 hp
    go_enter Tryd.func65, Tryd.ntmps65
    go_wp2_with fail
    refine HX.out.mono ?_
    rintro e w1 ⟨rfl, rfl⟩
    go_wp2_with fail
    go_quiet (fail)
    go_wp2_with fail
    go_ret3
    exact ⟨_, _, _, rfl, HP.out, ⟨rfl, rfl, rfl, Nat.le_refl _, fun _ _ => rfl⟩⟩
theorem cut (s : ByteArray) (c : UInt8) (w : World) (hs : s.size ≤ maxLen) :
    Calls Tryd.prog 60 #[.string s, .string ⟨#[c]⟩] w (CPost s c w) := by
  have HX := Lib.hid (lite s c w hs)
  unfold CPost at HX
  go_enter Tryd.func60, Tryd.ntmps60
  go_wp2_with fail
  refine HX.out.mono ?_
  rintro e w1 ⟨a, b, ok, rfl, hp, hb⟩
  have HP := Lib.hid hp
  clear hp
  go_wp2_with fail
  go_ret3
  exact ⟨_, _, _, rfl, HP.out, hb⟩
end Go.Proofs.YtmpolpeomabcfaaDoor.Cut1
