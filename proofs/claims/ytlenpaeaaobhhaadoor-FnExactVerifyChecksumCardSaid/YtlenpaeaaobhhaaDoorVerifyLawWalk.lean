/- FnExactVerifyChecksum: the law's walk, for every string. -/
import Derived.Test.YtlenpaeaaobhhaaDoorVerify
import Derived.Test.YtlenpaeaaobhhaaDoorFrame
namespace Go.Proofs.YtlenpaeaaobhhaaDoor.fnExactVerifyChecksum
open Go.RowKit
set_option linter.unusedVariables false
set_option maxHeartbeats 400000 in
theorem walk (a0 : ByteArray) (w : World) (sh : w.ShapedOpen Tryd.prog) (vp : Laid.Pow w) (w0 : a0.size ≤ maxLen) :
    Calls Tryd.prog 7 #[.string a0] w fun e w' => e = .returned (.bool true) ∧ Below w.heap.size w w' := by
  have VM := Lib.hid (Verify.maxL_of sh)
  have VP := Lib.hid vp
  clear vp sh
  by_cases hbig : 1048576 < a0.size
  · clear w0
    go_enter Tryd.func7, Tryd.ntmps7
    go_wp2_with fail
    go_ret
    exact ⟨rfl, Below.refl _ _⟩
  · have hsm : a0.size ≤ 1048576 := by omega
    clear hbig w0
    by_cases h : Verify.Ver a0
    · have HV := Lib.hid h
      clear h
      go_enter Tryd.func7, Tryd.ntmps7
      go_wp2_with fail
      refine (Verify.spec_yes a0 _ HV.out).mono ?_
      rintro e w1 ⟨rfl, hb1⟩
      go_wp2_with fail
      refine (Verify.impl_yes a0 _ HV.out (VP.out.below hb1) (VM.out.below hb1)).mono ?_
      rintro e w2 ⟨rfl, hb2⟩
      have hb3 := hb1.trans (hb2.mono hb1.size)
      go_wp2_with fail
      go_ret
      exact ⟨rfl, hb3⟩
    · have HV := Lib.hid h
      clear h
      by_cases h4 : 4000 < a0.size
      · go_enter Tryd.func7, Tryd.ntmps7
        go_wp2_with fail
        refine (Verify.spec_big a0 _ h4).mono ?_
        rintro e w1 ⟨rfl, rfl⟩
        go_wp2_with fail
        refine (Verify.impl_no a0 _ hsm HV.out VP.out VM.out).mono ?_
        rintro e w2 ⟨rfl, hb2⟩
        go_wp2_with fail
        go_ret
        exact ⟨rfl, hb2⟩
      · have h4' : a0.size ≤ 4000 := by omega
        clear h4
        go_enter Tryd.func7, Tryd.ntmps7
        go_wp2_with fail
        refine (Verify.spec_no a0 _ h4' HV.out).mono ?_
        rintro e w1 ⟨rfl, hb1⟩
        go_wp2_with fail
        refine (Verify.impl_no a0 _ hsm HV.out (VP.out.below hb1) (VM.out.below hb1)).mono ?_
        rintro e w2 ⟨rfl, hb2⟩
        have hb3 := hb1.trans (hb2.mono hb1.size)
        go_wp2_with fail
        go_ret
        exact ⟨rfl, hb3⟩
end Go.Proofs.YtlenpaeaaobhhaaDoor.fnExactVerifyChecksum
