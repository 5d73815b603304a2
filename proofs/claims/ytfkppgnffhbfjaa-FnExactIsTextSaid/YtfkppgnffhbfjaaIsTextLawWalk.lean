/- FnExactIsText: the law's walk, for every slice. -/
import Derived.Test.YtfkppgnffhbfjaaIsTextC
import Derived.Test.YtfkppgnffhbfjaaLStringE
import Derived.Test.YtfkppgnffhbfjaaLStringO
import Derived.Test.YtfkppgnffhbfjaaLStringT
import Derived.Test.YtfkppgnffhbfjaaLStringZ
import Derived.Test.YtfkppgnffhbfjaaLStringZs
namespace Go.Proofs.Ytfkppgnffhbfjaa.fnExactIsText
open Go.RowKit Bs
set_option linter.unusedVariables false
set_option maxRecDepth 100000 in
set_option maxHeartbeats 1600000 in
theorem walk (a0 : Option Addr) (len0 cap0 : Nat) (z0 : List ByteArray) (w : World) (sh : w.ShapedOpen Try.prog) (w0 : LString.IsIn w a0 len0 cap0 z0) :
    Calls Try.prog 3 #[.slice a0 len0 cap0] w fun e w' => e = .returned (.bool true) ∧ Below w.heap.size w w' := by
  have HA0 := Lib.hid (LString.IsIn.is w0).loc
  have HF0 := Lib.hid (show ∀ x ∈ z0, LString.Fine x from fun x hx => LString.fine_of (w0.2.2 x hx))
  have HL0 := Lib.hid w0.1
  clear sh w0
  go_enter Try.func3, Try.ntmps3
  go_wp2_with fail
  refine (LString.szS _ z0 _ _ (by omega) (by omega) HA0.out.now HF0.out).mono ?_
  rintro e w1_ ⟨hb1, x, rfl, ⟨hx0, hxl⟩ | ⟨rfl, hxl⟩⟩
  · clear hxl
    go_wp2_with fail
    go_ret
    exact ⟨rfl, hb1⟩
  have hbud0 := hxl
  clear hxl
  replace HA0 := Lib.hid (HA0.out.kept hb1)
  have HZ1 := Lib.hid hb1.size
  have hb := hb1
  clear hb1
  go_wp2_with fail
  refine (LString.toS _ z0 _ HA0.out.now (by omega)).mono ?_
  rintro e w2_ ⟨u2, rfl, hnn2, ho, hb1⟩
  replace hnn2 := Lib.hid hnn2
  have HC2 := Lib.hid ho.loc
  clear ho
  replace HA0 := Lib.hid (HA0.out.kept hb1)
  have HZ2 := Lib.hid hb1.size
  replace hb := hb.trans (hb1.mono hb.size)
  clear hb1
  go_wp2_with fail
  refine (IsTextC.spec _ z0 _ (HC2.out.now.1.isS hnn2.out) HF0.out (by omega)).mono ?_
  rintro e w3_ ⟨r0_3, rfl, hans, hb1⟩
  have HS := Lib.hid hans
  clear hans
  replace HA0 := Lib.hid (HA0.out.kept hb1)
  replace HC2 := Lib.hid (HC2.out.kept hb1)
  have HZ3 := Lib.hid hb1.size
  replace hb := hb.trans (hb1.mono hb.size)
  clear hb1
  clear HC2
  have hne0 : (r0_3 != r0_3) = false := by simp
  go_wp2_with fail
  refine (LString.toS _ z0 _ HA0.out.now (by omega)).mono ?_
  rintro e w4_ ⟨u4, rfl, hnn4, ho, hb1⟩
  replace hnn4 := Lib.hid hnn4
  have HC4 := Lib.hid ho.loc
  clear ho
  replace HA0 := Lib.hid (HA0.out.kept hb1)
  have HZ4 := Lib.hid hb1.size
  replace hb := hb.trans (hb1.mono hb.size)
  clear hb1
  go_wp2_with fail
  refine (IsTextC.impl _ z0 _ (HC4.out.now.1.isS hnn4.out) HF0.out (by omega)).mono ?_
  rintro e w5_ ⟨r0_5, rfl, hans, hb1⟩
  obtain rfl := IsTextC.same HS.out hans
  clear hans
  replace HA0 := Lib.hid (HA0.out.kept hb1)
  replace HC4 := Lib.hid (HC4.out.kept hb1)
  have HZ5 := Lib.hid hb1.size
  replace hb := hb.trans (hb1.mono hb.size)
  clear hb1
  go_wp2_with fail
  refine (LString.toS _ z0 _ HA0.out.now (by omega)).mono ?_
  rintro e w6_ ⟨u6, rfl, hnn6, ho, hb1⟩
  replace hnn6 := Lib.hid hnn6
  have HC6 := Lib.hid ho.loc
  clear ho
  replace HA0 := Lib.hid (HA0.out.kept hb1)
  replace HC4 := Lib.hid (HC4.out.kept hb1)
  have HZ6 := Lib.hid hb1.size
  replace hb := hb.trans (hb1.mono hb.size)
  clear hb1
  go_wp2_with fail
  refine (LString.eqS _ _ z0 _ HC4.out.now.1.is HC6.out.now.1.is).mono ?_
  rintro e w7_ ⟨rfl, hb1⟩
  replace HA0 := Lib.hid (HA0.out.kept hb1)
  replace HC4 := Lib.hid (HC4.out.kept hb1)
  replace HC6 := Lib.hid (HC6.out.kept hb1)
  have HZ7 := Lib.hid hb1.size
  replace hb := hb.trans (hb1.mono hb.size)
  clear hb1
  go_wp2_with fail
  clear HC6
  go_ret
  exact ⟨rfl, hb⟩
end Go.Proofs.Ytfkppgnffhbfjaa.fnExactIsText
