/- FnExactParseInt: the law's walk, for every string. -/
import Derived.Test.YtlenpaeaaobhhaaDoorReadImpl
import Derived.Test.YtlenpaeaaobhhaaDoorFrame
namespace Go.Proofs.YtlenpaeaaobhhaaDoor.fnExactParseInt
open Go.RowKit NumMath
set_option linter.unusedVariables false
set_option maxHeartbeats 400000 in
theorem walk (a0 : ByteArray) (w : World) (sh : w.ShapedOpen Tryd.prog) (vp : Laid.Pow w) (vr : Laid.Err "strconv.ErrRange" w) (vs : Laid.Err "strconv.ErrSyntax" w) (w0 : a0.size ≤ maxLen) :
    Calls Tryd.prog 5 #[.string a0] w fun e w' => e = .returned (.bool true) ∧ Below w.heap.size w w' := by
  clear sh
  have VP := Lib.hid vp
  have VR := Lib.hid vr
  have VS := Lib.hid vs
  clear vp vr vs
  by_cases hbig : 1048576 < a0.size
  · clear w0
    go_enter Tryd.func5, Tryd.ntmps5
    go_wp2_with fail
    go_ret
    exact ⟨rfl, Below.refl _ _⟩
  · have hsm : a0.size ≤ 1048576 := by omega
    clear hbig
    by_cases h : ∃ v, Numeral a0.data.toList v
    · obtain ⟨v, hv⟩ := h
      have HV := Lib.hid hv
      clear hv
      go_enter Tryd.func5, Tryd.ntmps5
      go_wp2_with fail
      refine (Read.spec_yes a0 v _ w0 HV.out).mono ?_
      rintro e w1 ⟨rfl, hb1⟩
      go_wp2_with fail
      refine (Read.impl_yes a0 v _ HV.out (VP.out.below hb1)).mono ?_
      rintro e w2 ⟨rfl, hb2⟩
      go_wp2_with fail
      go_ret
      exact ⟨rfl, hb1.trans (hb2.mono hb1.size)⟩
    · have HV := Lib.hid (show ∀ v, ¬ Numeral a0.data.toList v from fun v hv => h ⟨v, hv⟩)
      clear h
      go_enter Tryd.func5, Tryd.ntmps5
      go_wp2_with fail
      refine (Read.spec_no a0 _ w0 HV.out).mono ?_
      rintro e w1 ⟨rfl, hb1⟩
      go_wp2_with fail
      refine (Read.impl_no a0 _ (by omega) HV.out (VP.out.below hb1) (VR.out.below hb1) (VS.out.below hb1)).mono ?_
      rintro e w2 ⟨rfl, hb2⟩
      go_wp2_with fail
      go_ret
      exact ⟨rfl, hb1.trans (hb2.mono hb1.size)⟩
end Go.Proofs.YtlenpaeaaobhhaaDoor.fnExactParseInt
