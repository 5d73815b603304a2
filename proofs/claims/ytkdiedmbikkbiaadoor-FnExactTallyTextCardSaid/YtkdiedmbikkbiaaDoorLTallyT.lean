/- The laws' helpers toTally, toTallyS: copies of what came in. -/
import Derived.Test.YtkdiedmbikkbiaaDoorLTallyD
namespace Go.Proofs.YtkdiedmbikkbiaaDoor.LTally
open Go.RowKit Bs
set_option linter.unusedVariables false
set_option maxHeartbeats 400000 in
theorem to (r : R) (w : World) :
    Calls Tryd.prog 19 #[.agg #[.int .i64 r.yes, .int .i64 r.no, .int .i64 r.abstain]] w fun e w' => e = .returned (.agg #[.int .i64 r.yes, .int .i64 r.no, .int .i64 r.abstain]) ∧ Below w.heap.size w w' := by
  go_enter Tryd.func19, Tryd.ntmps19
  go_wp2_with fail
  refine bodyPost_ret (v := .agg #[.int .i64 r.yes, .int .i64 r.no, .int .i64 r.abstain]) (by simp [results, Tryd.results19, go_sem]) rfl ⟨rfl, ?_⟩
  exact (((Below.refl _ _).alloc (Nat.le_refl _) _).alloc (by simp) _).alloc (by simp; omega) _
end Go.Proofs.YtkdiedmbikkbiaaDoor.LTally
