/- FnExactFormatInt: the law's walk, for every int. -/
import Derived.Test.YtlenpaeaaobhhaaDoorFmt
import Derived.Test.YtlenpaeaaobhhaaDoorFrame
namespace Go.Proofs.YtlenpaeaaobhhaaDoor.fnExactFormatInt
open Go.RowKit
set_option linter.unusedVariables false
set_option maxHeartbeats 400000 in
theorem walk (a0 : Int) (w : World) (sh : w.ShapedOpen Tryd.prog) (vp : Laid.Pow w) (w0 : (Lit.int .i64 a0).wf = true) :
    Calls Tryd.prog 4 #[.int .i64 a0] w fun e w' => e = .returned (.bool true) ∧ Below w.heap.size w w' := by
  clear sh
  have vp' := Lib.hid vp
  clear vp w0
  by_cases h : -999999 ≤ a0 ∧ a0 ≤ 999999
  · obtain ⟨h0, h1⟩ := h
    go_enter Tryd.func4, Tryd.ntmps4
    go_wp2_with fail
    refine (Fmt.spec_yes a0 _ h0 h1).mono ?_
    rintro e w' ⟨rfl, k, rfl⟩
    have hb := Fmt.below_drewN w k
    go_wp2_with fail
    refine (Fmt.impl_yes a0 _ h0 h1 (vp'.out.below hb)).mono ?_
    rintro e w' ⟨rfl, hb2⟩
    go_wp2_with fail
    go_ret
    exact ⟨rfl, hb.trans hb2⟩
  · have h' := Lib.hid h
    clear h
    go_enter Tryd.func4, Tryd.ntmps4
    go_wp2_with fail
    refine (Fmt.spec_no a0 _ h'.out).mono ?_
    rintro e w' ⟨rfl, rfl⟩
    go_wp2_with fail
    refine (Fmt.impl_no a0 _ h'.out).mono ?_
    rintro e w' ⟨rfl, rfl⟩
    go_wp2_with fail
    go_ret
    exact ⟨rfl, Below.refl _ _⟩
end Go.Proofs.YtlenpaeaaobhhaaDoor.fnExactFormatInt
