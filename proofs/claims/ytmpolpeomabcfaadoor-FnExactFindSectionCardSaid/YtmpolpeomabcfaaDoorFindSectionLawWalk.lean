/- FnExactFindSection: the law's walk, for every slice, every string. -/
import Derived.Test.YtmpolpeomabcfaaDoorFindSectionC
import Derived.Test.YtmpolpeomabcfaaDoorLSectionE
import Derived.Test.YtmpolpeomabcfaaDoorLSectionO
import Derived.Test.YtmpolpeomabcfaaDoorLSectionT
import Derived.Test.YtmpolpeomabcfaaDoorLSectionZ
import Derived.Test.YtmpolpeomabcfaaDoorLaid
namespace Go.Proofs.YtmpolpeomabcfaaDoor.fnExactFindSection
open Go.RowKit Bs
set_option linter.unusedVariables false
set_option maxRecDepth 100000 in
set_option maxHeartbeats 1600000 in
theorem walk (a0 : Option Addr) (len0 cap0 : Nat) (z0 : List LSection.R) (a1 : ByteArray) (w : World) (sh : w.ShapedOpen Tryd.prog) (vp : Laid.Pow w) (w0 : LSection.IsIn w a0 len0 cap0 z0) (w1 : a1.size ≤ maxLen) :
    Calls Tryd.prog 5 #[.slice a0 len0 cap0, .string a1] w fun e w' => e = .returned (.bool true) ∧ Below w.heap.size w w' := by
  have HA0 := Lib.hid (LSection.IsIn.is w0).loc
  have HF0 := Lib.hid (show ∀ x ∈ z0, LSection.Fine x from fun x hx => LSection.fine_of (w0.2.2 x hx))
  have HL0 := Lib.hid w0.1
  unfold maxLen at w1
  clear sh w0 vp
  by_cases hbig1 : 1048576 < a1.size
  · go_enter Tryd.func5, Tryd.ntmps5
    go_wp2_with fail
    go_ret
    exact ⟨rfl, (Below.refl _ _)⟩
  have hs1 : a1.size ≤ 1048576 := by omega
  clear w1
  go_enter Tryd.func5, Tryd.ntmps5
  go_wp2_with fail
  refine (LSection.szS _ z0 _ _ (by omega) (by omega) HA0.out.now HF0.out).mono ?_
  rintro e w1_ ⟨hb1, x, rfl, ⟨hx0, hxl⟩ | ⟨rfl, hxl⟩⟩
  · clear hxl
    go_wp2_with fail
    go_ret
    exact ⟨rfl, hb1⟩
  have hbud0 := hxl
  clear hxl
  replace HA0 := Lib.hid (HA0.out.kept hb1)
  have HZ1 := Lib.hid hb1.size
  have hb := hb1
  clear hb1
  go_wp2_with fail
  refine (LSection.toS _ z0 _ HA0.out.now (by omega)).mono ?_
  rintro e w2_ ⟨u2, rfl, hnn2, ho, hb1⟩
  replace hnn2 := Lib.hid hnn2
  have HC2 := Lib.hid ho.loc
  clear ho
  replace HA0 := Lib.hid (HA0.out.kept hb1)
  have HZ2 := Lib.hid hb1.size
  replace hb := hb.trans (hb1.mono hb.size)
  clear hb1
  go_wp2_with fail
  refine (FindSectionC.spec _ z0 a1 _ (HC2.out.now.1.isS hnn2.out) HF0.out (by omega) hs1).mono ?_
  rintro e w3_ ⟨r0_3, r1_3, rfl, hans, hb1⟩
  have HS := Lib.hid hans
  clear hans
  replace HA0 := Lib.hid (HA0.out.kept hb1)
  replace HC2 := Lib.hid (HC2.out.kept hb1)
  have HZ3 := Lib.hid hb1.size
  replace hb := hb.trans (hb1.mono hb.size)
  clear hb1
  clear HC2
  have hne0 : (r0_3 != r0_3) = false := by simp
  have hne1 : (r1_3 != r1_3) = false := by simp
  go_wp2_with fail
  refine (LSection.toS _ z0 _ HA0.out.now (by omega)).mono ?_
  rintro e w4_ ⟨u4, rfl, hnn4, ho, hb1⟩
  replace hnn4 := Lib.hid hnn4
  have HC4 := Lib.hid ho.loc
  clear ho
  replace HA0 := Lib.hid (HA0.out.kept hb1)
  have HZ4 := Lib.hid hb1.size
  replace hb := hb.trans (hb1.mono hb.size)
  clear hb1
  go_wp2_with fail
  refine (FindSectionC.impl _ z0 a1 _ (HC4.out.now.1.isS hnn4.out) HF0.out (by omega) hs1).mono ?_
  rintro e w5_ ⟨r0_5, r1_5, rfl, hans, hb1⟩
  obtain ⟨rfl, rfl⟩ := FindSectionC.same HS.out hans
  clear hans
  replace HA0 := Lib.hid (HA0.out.kept hb1)
  replace HC4 := Lib.hid (HC4.out.kept hb1)
  have HZ5 := Lib.hid hb1.size
  replace hb := hb.trans (hb1.mono hb.size)
  clear hb1
  go_wp2_with fail
  refine (LSection.toS _ z0 _ HA0.out.now (by omega)).mono ?_
  rintro e w6_ ⟨u6, rfl, hnn6, ho, hb1⟩
  replace hnn6 := Lib.hid hnn6
  have HC6 := Lib.hid ho.loc
  clear ho
  replace HA0 := Lib.hid (HA0.out.kept hb1)
  replace HC4 := Lib.hid (HC4.out.kept hb1)
  have HZ6 := Lib.hid hb1.size
  replace hb := hb.trans (hb1.mono hb.size)
  clear hb1
  go_wp2_with fail
  refine (LSection.eqS _ _ z0 _ HC4.out.now.1.is HC6.out.now.1.is).mono ?_
  rintro e w7_ ⟨rfl, hb1⟩
  replace HA0 := Lib.hid (HA0.out.kept hb1)
  replace HC4 := Lib.hid (HC4.out.kept hb1)
  replace HC6 := Lib.hid (HC6.out.kept hb1)
  have HZ7 := Lib.hid hb1.size
  replace hb := hb.trans (hb1.mono hb.size)
  clear hb1
  go_wp2_with fail
  clear HC6
  go_ret
  exact ⟨rfl, hb⟩
end Go.Proofs.YtmpolpeomabcfaaDoor.fnExactFindSection
