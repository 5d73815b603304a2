/- FnExactAppendChecksum: the law's walk, for every string. -/
import Derived.Test.YtlenpaeaaobhhaaDoorAppend
import Derived.Test.YtlenpaeaaobhhaaDoorFrame
namespace Go.Proofs.YtlenpaeaaobhhaaDoor.fnExactAppendChecksum
open Go.RowKit
set_option linter.unusedVariables false
set_option maxHeartbeats 400000 in
theorem walk (a0 : ByteArray) (w : World) (sh : w.ShapedOpen Tryd.prog) (vp : Laid.Pow w) (w0 : a0.size ≤ maxLen) :
    Calls Tryd.prog 6 #[.string a0] w fun e w' => e = .returned (.bool true) ∧ Below w.heap.size w w' := by
  clear sh
  have VP := Lib.hid vp
  clear vp
  by_cases hbig : 1048576 < a0.size
  · clear w0
    go_enter Tryd.func6, Tryd.ntmps6
    go_wp2_with fail
    go_ret
    exact ⟨rfl, Below.refl _ _⟩
  · have hsm : a0.size ≤ 1048576 := by omega
    clear hbig
    by_cases h : Seal.Fine a0
    · have HV := Lib.hid h
      clear h
      go_enter Tryd.func6, Tryd.ntmps6
      go_wp2_with fail
      refine (Seal.spec_yes a0 _ HV.out).mono ?_
      rintro e w1 ⟨rfl, hb1⟩
      go_wp2_with fail
      refine (Seal.impl_yes a0 _ HV.out (VP.out.below hb1)).mono ?_
      rintro e w2 ⟨rfl, hb2⟩
      go_wp2_with fail
      go_ret
      exact ⟨rfl, hb1.trans (hb2.mono hb1.size)⟩
    · have HV := Lib.hid h
      clear h
      go_enter Tryd.func6, Tryd.ntmps6
      go_wp2_with fail
      refine (Seal.spec_no a0 _ w0 HV.out).mono ?_
      rintro e w1 ⟨rfl, hb1⟩
      go_wp2_with fail
      refine (Seal.impl_no a0 _ w0 HV.out (VP.out.below hb1)).mono ?_
      rintro e w2 ⟨rfl, hb2⟩
      go_wp2_with fail
      go_ret
      exact ⟨rfl, hb1.trans (hb2.mono hb1.size)⟩
end Go.Proofs.YtlenpaeaaobhhaaDoor.fnExactAppendChecksum
