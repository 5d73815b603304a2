/- The comparison that orders items of an agenda by their Time; cmp.Compare of ints. No condition. -/
import Derived.Test.YtcjknefpnopkcaaLAgendaItemZ
import Derived.BigQuiet
namespace Go.Proofs.Ytcjknefpnopkcaa.LAgendaItemCmpOrder
open Go.RowKit Bs
set_option linter.unusedVariables false
def cmpI (a b : Int) : Int := if a < b then -1 else if b < a then 1 else 0
def cf (X Y : LAgendaItem.R) : Int := cmpI X.time Y.time
theorem isNaN (a : Int) (w : World) : Calls Try.prog 118 #[.int .i64 a] w fun e w' => e = .returned (.bool false) ∧ w = w' := by
  have h : (a != a) = false := by simp
  go_enter Try.func118, Try.ntmps118
  go_wp2_with fail
  go_ret
  exact ⟨by simp [go_sem], rfl⟩
theorem compare (a b : Int) (w : World) : Calls Try.prog 93 #[.int .i64 a, .int .i64 b] w fun e w' => e = .returned (.int .i64 (cmpI a b)) ∧ w = w' := by
  by_cases h1 : a < b
  · have HC := Lib.hid (show cmpI a b = -1 by unfold cmpI; rw [if_pos h1])
    go_enter Try.func93, Try.ntmps93
    go_wp2_with fail
    refine (isNaN _ _).mono ?_
    rintro e _ ⟨rfl, rfl⟩
    go_wp2_with fail
    refine (isNaN _ _).mono ?_
    rintro e _ ⟨rfl, rfl⟩
    go_wp2_with fail
    go_ret
    exact ⟨by rw [HC.out]; rfl, rfl⟩
  · by_cases h2 : b < a
    · have HC := Lib.hid (show cmpI a b = 1 by unfold cmpI; rw [if_neg h1, if_pos h2])
      go_enter Try.func93, Try.ntmps93
      go_wp2_with fail
      refine (isNaN _ _).mono ?_
      rintro e _ ⟨rfl, rfl⟩
      go_wp2_with fail
      refine (isNaN _ _).mono ?_
      rintro e _ ⟨rfl, rfl⟩
      go_wp2_with fail
      go_ret
      exact ⟨by rw [HC.out]; rfl, rfl⟩
    · have HC := Lib.hid (show cmpI a b = 0 by unfold cmpI; rw [if_neg h1, if_neg h2])
      go_enter Try.func93, Try.ntmps93
      go_wp2_with fail
      refine (isNaN _ _).mono ?_
      rintro e _ ⟨rfl, rfl⟩
      go_wp2_with fail
      refine (isNaN _ _).mono ?_
      rintro e _ ⟨rfl, rfl⟩
      go_wp2_with fail
      go_ret
      exact ⟨by rw [HC.out]; rfl, rfl⟩
theorem closure (X Y : LAgendaItem.R) (w : World) :
    Calls Try.prog 92 #[.agg #[.int .i64 X.id, .string X.title, .int .i64 X.mins, .int .i64 X.time], .agg #[.int .i64 Y.id, .string Y.title, .int .i64 Y.mins, .int .i64 Y.time]] w fun e w' => e = .returned (.int .i64 (cf X Y)) ∧ Below w.heap.size w w' := by
  have hb := fun o o2 => ((Below.refl w.heap.size w).alloc (Nat.le_refl _) o).alloc (by simp) o2
  have HC := Lib.hid (fun W => compare X.time Y.time W)
  go_enter Try.func92, Try.ntmps92
  go_wp2_with fail
  refine (HC.out _).mono ?_
  rintro e _ ⟨rfl, rfl⟩
  go_wp2_with fail
  go_ret
  exact ⟨rfl, hb _ _⟩
end Go.Proofs.Ytcjknefpnopkcaa.LAgendaItemCmpOrder
