/- FnExactPresidingMember: the law's walk, for every slice, every slice. -/
import Derived.Test.YtbnkpkneccgfnaaLIntE
import Derived.Test.YtbnkpkneccgfnaaLIntO
import Derived.Test.YtbnkpkneccgfnaaLIntT
import Derived.Test.YtbnkpkneccgfnaaLIntZ
import Derived.Test.YtbnkpkneccgfnaaLMemberE
import Derived.Test.YtbnkpkneccgfnaaLMemberO
import Derived.Test.YtbnkpkneccgfnaaLMemberT
import Derived.Test.YtbnkpkneccgfnaaLMemberZ
import Derived.Test.YtbnkpkneccgfnaaPresidingMemberC
namespace Go.Proofs.Ytbnkpkneccgfnaa.fnExactPresidingMember
open Go.RowKit Bs
set_option linter.unusedVariables false
set_option maxRecDepth 100000 in
set_option maxHeartbeats 1600000 in
theorem walk (a0 : Option Addr) (len0 cap0 : Nat) (z0 : List LMember.R) (a1 : Option Addr) (len1 cap1 : Nat) (z1 : List Int) (w : World) (sh : w.ShapedOpen Try.prog) (w0 : LMember.IsIn w a0 len0 cap0 z0) (w1 : LInt.IsIn w a1 len1 cap1 z1) :
    Calls Try.prog 10 #[.slice a0 len0 cap0, .slice a1 len1 cap1] w fun e w' => e = .returned (.bool true) ∧ Below w.heap.size w w' := by
  have HA0 := Lib.hid (LMember.IsIn.is w0).loc
  have HF0 := Lib.hid (show ∀ x ∈ z0, LMember.Fine x from fun x hx => LMember.fine_of (w0.2.2 x hx))
  have HL0 := Lib.hid w0.1
  have HA1 := Lib.hid (LInt.IsIn.is w1).loc
  have HF1 := Lib.hid (show ∀ x ∈ z1, LInt.Fine x from fun x hx => LInt.fine_of (w1.2.2 x hx))
  have HL1 := Lib.hid w1.1
  clear sh w0 w1
  by_cases hbig1 : 1048576 < len1
  · go_enter Try.func10, Try.ntmps10
    go_wp2_with fail
    go_ret
    exact ⟨rfl, (Below.refl _ _)⟩
  have hzl1 : z1.length ≤ 1048576 := by have := HL1.out; omega
  go_enter Try.func10, Try.ntmps10
  go_wp2_with fail
  refine (LMember.szS _ z0 _ _ (by omega) (by omega) HA0.out.now HF0.out).mono ?_
  rintro e w1_ ⟨hb1, x, rfl, ⟨hx0, hxl⟩ | ⟨rfl, hxl⟩⟩
  · clear hxl
    go_wp2_with fail
    go_ret
    exact ⟨rfl, hb1⟩
  have hbud0 := hxl
  clear hxl
  replace HA0 := Lib.hid (HA0.out.kept hb1)
  replace HA1 := Lib.hid (HA1.out.kept hb1)
  have HZ1 := Lib.hid hb1.size
  have hb := hb1
  clear hb1
  go_wp2_with fail
  refine (LMember.toS _ z0 _ HA0.out.now (by omega)).mono ?_
  rintro e w2_ ⟨u2, rfl, hnn2, ho, hb1⟩
  replace hnn2 := Lib.hid hnn2
  have HC2 := Lib.hid ho.loc
  clear ho
  replace HA0 := Lib.hid (HA0.out.kept hb1)
  replace HA1 := Lib.hid (HA1.out.kept hb1)
  have HZ2 := Lib.hid hb1.size
  replace hb := hb.trans (hb1.mono hb.size)
  clear hb1
  go_wp2_with fail
  refine (LInt.toS _ z1 _ HA1.out.now (by omega)).mono ?_
  rintro e w3_ ⟨u3, rfl, hnn3, ho, hb1⟩
  replace hnn3 := Lib.hid hnn3
  have HC3 := Lib.hid ho.loc
  clear ho
  replace HA0 := Lib.hid (HA0.out.kept hb1)
  replace HA1 := Lib.hid (HA1.out.kept hb1)
  replace HC2 := Lib.hid (HC2.out.kept hb1)
  have HZ3 := Lib.hid hb1.size
  replace hb := hb.trans (hb1.mono hb.size)
  clear hb1
  go_wp2_with fail
  refine (PresidingMemberC.spec _ z0 _ z1 _ (HC2.out.now.1.isS hnn2.out) HF0.out (by omega) (HC3.out.now.1.isS hnn3.out) HF1.out (by omega)).mono ?_
  rintro e w4_ ⟨r0_4, r1_4, rfl, hans, hb1⟩
  have HS := Lib.hid hans
  clear hans
  replace HA0 := Lib.hid (HA0.out.kept hb1)
  replace HA1 := Lib.hid (HA1.out.kept hb1)
  replace HC2 := Lib.hid (HC2.out.kept hb1)
  replace HC3 := Lib.hid (HC3.out.kept hb1)
  have HZ4 := Lib.hid hb1.size
  replace hb := hb.trans (hb1.mono hb.size)
  clear hb1
  clear HC2
  clear HC3
  have hne0 : (r0_4 != r0_4) = false := by simp
  have hne1 : (r1_4 != r1_4) = false := by simp
  go_wp2_with fail
  refine (LMember.toS _ z0 _ HA0.out.now (by omega)).mono ?_
  rintro e w5_ ⟨u5, rfl, hnn5, ho, hb1⟩
  replace hnn5 := Lib.hid hnn5
  have HC5 := Lib.hid ho.loc
  clear ho
  replace HA0 := Lib.hid (HA0.out.kept hb1)
  replace HA1 := Lib.hid (HA1.out.kept hb1)
  have HZ5 := Lib.hid hb1.size
  replace hb := hb.trans (hb1.mono hb.size)
  clear hb1
  go_wp2_with fail
  refine (LInt.toS _ z1 _ HA1.out.now (by omega)).mono ?_
  rintro e w6_ ⟨u6, rfl, hnn6, ho, hb1⟩
  replace hnn6 := Lib.hid hnn6
  have HC6 := Lib.hid ho.loc
  clear ho
  replace HA0 := Lib.hid (HA0.out.kept hb1)
  replace HA1 := Lib.hid (HA1.out.kept hb1)
  replace HC5 := Lib.hid (HC5.out.kept hb1)
  have HZ6 := Lib.hid hb1.size
  replace hb := hb.trans (hb1.mono hb.size)
  clear hb1
  go_wp2_with fail
  refine (PresidingMemberC.impl _ z0 _ z1 _ (HC5.out.now.1.isS hnn5.out) HF0.out (by omega) (HC6.out.now.1.isS hnn6.out) HF1.out (by omega)).mono ?_
  rintro e w7_ ⟨r0_7, r1_7, rfl, hans, hb1⟩
  obtain ⟨rfl, rfl⟩ := PresidingMemberC.same HS.out hans
  clear hans
  replace HA0 := Lib.hid (HA0.out.kept hb1)
  replace HA1 := Lib.hid (HA1.out.kept hb1)
  replace HC5 := Lib.hid (HC5.out.kept hb1)
  replace HC6 := Lib.hid (HC6.out.kept hb1)
  have HZ7 := Lib.hid hb1.size
  replace hb := hb.trans (hb1.mono hb.size)
  clear hb1
  go_wp2_with fail
  refine (LMember.toS _ z0 _ HA0.out.now (by omega)).mono ?_
  rintro e w8_ ⟨u8, rfl, hnn8, ho, hb1⟩
  replace hnn8 := Lib.hid hnn8
  have HC8 := Lib.hid ho.loc
  clear ho
  replace HA0 := Lib.hid (HA0.out.kept hb1)
  replace HA1 := Lib.hid (HA1.out.kept hb1)
  replace HC5 := Lib.hid (HC5.out.kept hb1)
  replace HC6 := Lib.hid (HC6.out.kept hb1)
  have HZ8 := Lib.hid hb1.size
  replace hb := hb.trans (hb1.mono hb.size)
  clear hb1
  go_wp2_with fail
  refine (LMember.eqS _ _ z0 _ HC5.out.now.1.is HC8.out.now.1.is).mono ?_
  rintro e w9_ ⟨rfl, hb1⟩
  replace HA0 := Lib.hid (HA0.out.kept hb1)
  replace HA1 := Lib.hid (HA1.out.kept hb1)
  replace HC5 := Lib.hid (HC5.out.kept hb1)
  replace HC6 := Lib.hid (HC6.out.kept hb1)
  replace HC8 := Lib.hid (HC8.out.kept hb1)
  have HZ9 := Lib.hid hb1.size
  replace hb := hb.trans (hb1.mono hb.size)
  clear hb1
  go_wp2_with fail
  clear HC8
  refine (LInt.toS _ z1 _ HA1.out.now (by omega)).mono ?_
  rintro e w10_ ⟨u10, rfl, hnn10, ho, hb1⟩
  replace hnn10 := Lib.hid hnn10
  have HC10 := Lib.hid ho.loc
  clear ho
  replace HA0 := Lib.hid (HA0.out.kept hb1)
  replace HA1 := Lib.hid (HA1.out.kept hb1)
  replace HC5 := Lib.hid (HC5.out.kept hb1)
  replace HC6 := Lib.hid (HC6.out.kept hb1)
  have HZ10 := Lib.hid hb1.size
  replace hb := hb.trans (hb1.mono hb.size)
  clear hb1
  go_wp2_with fail
  refine (LInt.eqS _ _ z1 _ HC6.out.now.1.is HC10.out.now.1.is).mono ?_
  rintro e w11_ ⟨rfl, hb1⟩
  replace HA0 := Lib.hid (HA0.out.kept hb1)
  replace HA1 := Lib.hid (HA1.out.kept hb1)
  replace HC5 := Lib.hid (HC5.out.kept hb1)
  replace HC6 := Lib.hid (HC6.out.kept hb1)
  replace HC10 := Lib.hid (HC10.out.kept hb1)
  have HZ11 := Lib.hid hb1.size
  replace hb := hb.trans (hb1.mono hb.size)
  clear hb1
  go_wp2_with fail
  clear HC10
  go_ret
  exact ⟨rfl, hb⟩
end Go.Proofs.Ytbnkpkneccgfnaa.fnExactPresidingMember
