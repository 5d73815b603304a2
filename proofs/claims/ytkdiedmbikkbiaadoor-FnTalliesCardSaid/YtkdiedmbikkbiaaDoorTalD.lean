/- The greatest common divisor, on both sides. No condition but that the numbers are small. -/
import Derived.Test.YtkdiedmbikkbiaaDoorTalG
import Derived.BigQuiet
namespace Go.Proofs.YtkdiedmbikkbiaaDoor.TalD
open Go.RowKit Bs Word Tal TalS TalG
set_option linter.unusedVariables false
set_option maxRecDepth 100000 in
set_option maxHeartbeats 1600000 in
theorem l11Common (a b : Nat) (ha : a ≤ 5000) (hb : b ≤ 5000) (w : World) : Calls Tryd.prog 34 #[.int .i64 a, .int .i64 b] w fun e w' => e = .returned (.int .i64 (Nat.gcd a b : Nat)) ∧ Below w.heap.size w w' := by
  obtain ⟨G, hG⟩ : ∃ G, G = Nat.gcd a b := ⟨_, rfl⟩
  rw [← hG]
  have HG := Lib.hid hG.symm
  clear hG
  go_enter Tryd.func34, Tryd.ntmps34
  go_wp2_with fail
  go_loopw [0, 1, 5] (fun p q _r wr => ∃ x y : Nat, p = .int .i64 x ∧ q = .int .i64 y ∧ x ≤ 5000 ∧ y ≤ 5000 ∧ Hid (Nat.gcd x y = G) ∧ Below w.heap.size w wr) (fun _ q _ _ => (intOf q).toNat)
  case atStart => exact ⟨a, b, rfl, rfl, ha, hb, HG, Below.refl _ _⟩
  case round =>
    obtain ⟨x, y, rfl, rfl, hx, hy, HR, hbr⟩ := hrel
    have x0 : 0 ≤ (x : Int) := by omega
    have y0 : 0 ≤ (y : Int) := by omega
    by_cases hz : y = 0
    · have HG2 := Lib.hid (show x = G by rw [← HR.out, hz, Nat.gcd_zero_right])
      subst hz
      go_wp2_with fail
      go_ret
      exact ⟨by rw [HG2.out]; rfl, hbr⟩
    · have y1 : 0 < (y : Int) := by omega
      have y1n : 0 < y := by omega
      have d : ((y : Int) == 0) = false := by simpa using hz
      have d2 : ((y : Int) != 0) = true := by simpa using hz
      have hr : (x : Int).tmod (y : Int) = ((x % y : Nat) : Int) := by rw [Int.tmod_eq_emod_of_nonneg x0]; rfl
      have hml := Nat.mod_lt x y1n
      have hwr : IntKind.i64.wrap ((x % y : Nat) : Int) = ((x % y : Nat) : Int) := IntWalk.i64_in _ (by omega)
      have HR2 := Lib.hid (show Nat.gcd y (x % y) = G by rw [← HR.out, Nat.gcd_comm, ← Nat.gcd_rec, Nat.gcd_comm])
      go_wp2_with fail
      go_roundw
      case rel => exact ⟨y, x % y, rfl, rfl, hy, by omega, HR2, hbr⟩
      case measure => simp [intOf]; omega
set_option maxRecDepth 100000 in
set_option maxHeartbeats 1600000 in
theorem greatest (a b : Nat) (ha : a ≤ 5000) (hb : b ≤ 5000) (w : World) : Calls Tryd.prog 33 #[.int .i64 a, .int .i64 b] w fun e w' => e = .returned (.int .i64 (Nat.gcd a b : Nat)) ∧ Below w.heap.size w w' := by
  obtain ⟨G, hG⟩ : ∃ G, G = Nat.gcd a b := ⟨_, rfl⟩
  rw [← hG]
  have HG := Lib.hid hG.symm
  clear hG
  go_enter Tryd.func33, Tryd.ntmps33
  go_wp2_with fail
  go_loopw [0, 1] (fun p q wr => ∃ x y : Nat, p = .int .i64 x ∧ q = .int .i64 y ∧ x ≤ 5000 ∧ y ≤ 5000 ∧ Hid (Nat.gcd x y = G) ∧ Below w.heap.size w wr) (fun _ q _ => (intOf q).toNat)
  case atStart => exact ⟨a, b, rfl, rfl, ha, hb, HG, Below.refl _ _⟩
  case round =>
    obtain ⟨x, y, rfl, rfl, hx, hy, HR, hbr⟩ := hrel
    have x0 : 0 ≤ (x : Int) := by omega
    have y0 : 0 ≤ (y : Int) := by omega
    by_cases hz : y = 0
    · have HG2 := Lib.hid (show x = G by rw [← HR.out, hz, Nat.gcd_zero_right])
      subst hz
      go_wp2_with fail
      go_ret
      exact ⟨by rw [HG2.out]; rfl, hbr⟩
    · have y1 : 0 < (y : Int) := by omega
      have y1n : 0 < y := by omega
      have d : ((y : Int) == 0) = false := by simpa using hz
      have d2 : ((y : Int) != 0) = true := by simpa using hz
      have hr : (x : Int).tmod (y : Int) = ((x % y : Nat) : Int) := by rw [Int.tmod_eq_emod_of_nonneg x0]; rfl
      have hml := Nat.mod_lt x y1n
      have hwr : IntKind.i64.wrap ((x % y : Nat) : Int) = ((x % y : Nat) : Int) := IntWalk.i64_in _ (by omega)
      have HR2 := Lib.hid (show Nat.gcd y (x % y) = G by rw [← HR.out, Nat.gcd_comm, ← Nat.gcd_rec, Nat.gcd_comm])
      go_wp2_with fail
      go_quiet (fail)
      have hbr2 : Below w.heap.size w (wr.drewN nq) := hbr.trans ⟨rfl, rfl, rfl, Nat.le_refl _, fun _ _ => rfl⟩
      go_wp2_with fail
      go_roundw
      case rel => exact ⟨y, x % y, rfl, rfl, hy, by omega, HR2, hbr2⟩
      case measure => simp [intOf]; omega
end Go.Proofs.YtkdiedmbikkbiaaDoor.TalD
