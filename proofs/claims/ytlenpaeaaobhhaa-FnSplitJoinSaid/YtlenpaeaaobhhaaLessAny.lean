/- LessString of the program and of the model; laws.vBig. -/
import Derived.Test.YtlenpaeaaobhhaaRows
import Derived.WalkKit
import Derived.WalkSpells
import Derived.WalkLawsBesides
namespace Go.Proofs.Ytlenpaeaaobhhaa.LessAny
open Go.RowKit

def lt (a b : ByteArray) : Bool := Op.bytesLess a.toList b.toList
theorem less_asym : ∀ (x y : List UInt8), Op.bytesLess x y = true → Op.bytesLess y x = false := by
  intro x
  induction x with
  | nil => intro y _; cases y <;> simp [Op.bytesLess]
  | cons a x ih =>
    intro y h
    cases y with
    | nil => simp [Op.bytesLess] at h
    | cons b y =>
      simp only [Op.bytesLess] at h ⊢
      by_cases h1 : a < b
      · have h2 : ¬ b < a := by rw [UInt8.lt_iff_toNat_lt] at h1 ⊢; omega
        have h3 : ¬ b = a := by rintro rfl; rw [UInt8.lt_iff_toNat_lt] at h1; omega
        simp [h2, h3]
      · simp [h1] at h
        obtain ⟨rfl, h⟩ := h
        have h2 : ¬ a < a := by rw [UInt8.lt_iff_toNat_lt]; omega
        simp [h2, ih y h]
theorem impl_less (a b : ByteArray) (w : World) : Calls Try.prog 15 #[.string a, .string b] w fun e w' => e = .returned (.bool (lt a b)) ∧ w = w' := by
  go_enter Try.func15, Try.ntmps15
  go_wp2_with fail
  go_ret
  exact ⟨rfl, rfl⟩
theorem spec_less (a b : ByteArray) (w : World) : Calls Try.prog 16 #[.string a, .string b] w fun e w' => e = .returned (.bool (lt a b)) ∧ w = w' := by
  go_enter Try.func16, Try.ntmps16
  go_wp2_with fail
  go_ret
  exact ⟨rfl, rfl⟩
theorem vBig (a : Option Addr) (len cap : Nat) (w : World) (r : Bool) (hr : decide ((65536 : Int) < (len : Int)) = r) : Calls Try.prog 8 #[.slice a len cap] w fun e w' => e = .returned (.bool r) ∧ w = w' := by
  subst hr
  go_enter Try.func8, Try.ntmps8
  go_wp2_with fail
  go_ret
  exact ⟨rfl, rfl⟩
end Go.Proofs.Ytlenpaeaaobhhaa.LessAny
