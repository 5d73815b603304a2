/- The laws' helpers eqTally, eqTallyS at two values of the same records. -/
import Derived.Test.YtkdiedmbikkbiaaDoorLTallyD
namespace Go.Proofs.YtkdiedmbikkbiaaDoor.LTally
open Go.RowKit Bs
set_option linter.unusedVariables false
set_option maxHeartbeats 800000 in
theorem eq (r : R) (w : World) :
    Calls Tryd.prog 20 #[.agg #[.int .i64 r.yes, .int .i64 r.no, .int .i64 r.abstain], .agg #[.int .i64 r.yes, .int .i64 r.no, .int .i64 r.abstain]] w fun e w' => e = .returned (.bool true) ∧ Below w.heap.size w w' := by
  have h0 : (r.yes != r.yes) = false := by simp
  have h1 : (r.no != r.no) = false := by simp
  have h2 : (r.abstain != r.abstain) = false := by simp
  go_enter Tryd.func20, Tryd.ntmps20
  go_wp2_with fail
  go_ret
  exact ⟨rfl, ((Below.refl _ _).alloc (Nat.le_refl _) _).alloc (by simp) _⟩
end Go.Proofs.YtkdiedmbikkbiaaDoor.LTally
