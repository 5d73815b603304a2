/- FnExactAreProposals: the law's walk, for every slice, every slice. -/
import Derived.Test.YtclpdpfnlmfogaaAreProposalsC
import Derived.Test.YtclpdpfnlmfogaaLProposalSE
import Derived.Test.YtclpdpfnlmfogaaLProposalSO
import Derived.Test.YtclpdpfnlmfogaaLProposalST
import Derived.Test.YtclpdpfnlmfogaaLProposalSZ
import Derived.Test.YtclpdpfnlmfogaaLStringE
import Derived.Test.YtclpdpfnlmfogaaLStringO
import Derived.Test.YtclpdpfnlmfogaaLStringT
import Derived.Test.YtclpdpfnlmfogaaLStringZ
import Derived.Test.YtclpdpfnlmfogaaLStringZs
namespace Go.Proofs.Ytclpdpfnlmfogaa.fnExactAreProposals
open Go.RowKit Bs
set_option linter.unusedVariables false
set_option maxRecDepth 100000 in
set_option maxHeartbeats 12800000 in
theorem walk (a0 : Option Addr) (len0 cap0 : Nat) (z0 : List ByteArray) (a1 : Option Addr) (len1 cap1 : Nat) (z1 : List LProposal.R) (w : World) (sh : w.ShapedOpen Try.prog) (w0 : LString.IsIn w a0 len0 cap0 z0) (w1 : LProposalS.IsIn w a1 len1 cap1 z1) :
    Calls Try.prog 3 #[.slice a0 len0 cap0, .slice a1 len1 cap1] w fun e w' => e = .returned (.bool true) ∧ Below w.heap.size w w' := by
  have HA0 := Lib.hid (LString.IsIn.is w0).loc
  have HF0 := Lib.hid (show ∀ x ∈ z0, LString.Fine x from fun x hx => LString.fine_of (w0.2.2 x hx))
  have HL0 := Lib.hid w0.1
  have HA1 := Lib.hid (Bs.NIs.loc (LProposalS.IsIn.is w1))
  have HF1 := Lib.hid w1.2.2
  have HL1 := Lib.hid w1.1
  clear sh w0 w1
  go_enter Try.func3, Try.ntmps3
  go_wp2_with fail
  refine (LString.szS _ z0 _ _ (by omega) (by omega) HA0.out.now HF0.out).mono ?_
  rintro e w1_ ⟨hb1, x, rfl, ⟨hx0, hxl⟩ | ⟨rfl, hxl⟩⟩
  · clear hxl
    go_wp2_with fail
    go_ret
    exact ⟨rfl, hb1⟩
  have hbud0 := hxl
  clear hxl
  replace HA0 := Lib.hid (HA0.out.kept hb1)
  replace HA1 := Lib.hid (HA1.out.kept hb1)
  have HZ1 := Lib.hid hb1.size
  have hb := hb1
  clear hb1
  go_wp2_with fail
  refine (LProposalS.szS _ z1 _ _ (by omega) (by omega) HA1.out.now HF1.out).mono ?_
  rintro e w2_ ⟨hb1, x, rfl, ⟨hx0, hxl⟩ | ⟨rfl, hxl⟩⟩
  · clear hxl
    go_wp2_with fail
    go_ret
    exact ⟨rfl, hb.trans (hb1.mono hb.size)⟩
  have hbud1 := hxl
  clear hxl
  have HNS1 := Lib.hid (show ∀ x ∈ z1, x.words.length ≤ 1048576 from fun x hx => by have := LProposalS.len_le hx; omega)
  have hct1 := LProposalS.cnt_le z1
  replace HA0 := Lib.hid (HA0.out.kept hb1)
  replace HA1 := Lib.hid (HA1.out.kept hb1)
  have HZ2 := Lib.hid hb1.size
  replace hb := hb.trans (hb1.mono hb.size)
  clear hb1
  go_wp2_with fail
  refine (LString.toS _ z0 _ HA0.out.now (by omega)).mono ?_
  rintro e w3_ ⟨u3, rfl, hnn3, ho, hb1⟩
  replace hnn3 := Lib.hid hnn3
  have HC3 := Lib.hid ho.loc
  clear ho
  replace HA0 := Lib.hid (HA0.out.kept hb1)
  replace HA1 := Lib.hid (HA1.out.kept hb1)
  have HZ3 := Lib.hid hb1.size
  replace hb := hb.trans (hb1.mono hb.size)
  clear hb1
  go_wp2_with fail
  refine (LProposalS.toS _ z1 _ HA1.out.now (by omega) HNS1.out).mono ?_
  rintro e w4_ ⟨u4, rfl, hnn4, ho, hb1⟩
  replace hnn4 := Lib.hid hnn4
  have HC4 := Lib.hid ho.loc
  clear ho
  replace HA0 := Lib.hid (HA0.out.kept hb1)
  replace HA1 := Lib.hid (HA1.out.kept hb1)
  replace HC3 := Lib.hid (HC3.out.kept hb1)
  have HZ4 := Lib.hid hb1.size
  replace hb := hb.trans (hb1.mono hb.size)
  clear hb1
  go_wp2_with fail
  refine (AreProposalsC.spec _ z0 _ z1 _ (HC3.out.now.1.isS hnn3.out) HF0.out (by omega) (HC4.out.now.own.isS hnn4.out) HF1.out (by omega)).mono ?_
  rintro e w5_ ⟨r0_5, rfl, hans, hb1⟩
  have HS := Lib.hid hans
  clear hans
  replace HA0 := Lib.hid (HA0.out.kept hb1)
  replace HA1 := Lib.hid (HA1.out.kept hb1)
  replace HC3 := Lib.hid (HC3.out.kept hb1)
  replace HC4 := Lib.hid (HC4.out.kept hb1)
  have HZ5 := Lib.hid hb1.size
  replace hb := hb.trans (hb1.mono hb.size)
  clear hb1
  clear HC3
  clear HC4
  have hne0 : (r0_5 != r0_5) = false := by simp
  go_wp2_with fail
  refine (LString.toS _ z0 _ HA0.out.now (by omega)).mono ?_
  rintro e w6_ ⟨u6, rfl, hnn6, ho, hb1⟩
  replace hnn6 := Lib.hid hnn6
  have HC6 := Lib.hid ho.loc
  clear ho
  replace HA0 := Lib.hid (HA0.out.kept hb1)
  replace HA1 := Lib.hid (HA1.out.kept hb1)
  have HZ6 := Lib.hid hb1.size
  replace hb := hb.trans (hb1.mono hb.size)
  clear hb1
  go_wp2_with fail
  refine (LProposalS.toS _ z1 _ HA1.out.now (by omega) HNS1.out).mono ?_
  rintro e w7_ ⟨u7, rfl, hnn7, ho, hb1⟩
  replace hnn7 := Lib.hid hnn7
  have HC7 := Lib.hid ho.loc
  clear ho
  replace HA0 := Lib.hid (HA0.out.kept hb1)
  replace HA1 := Lib.hid (HA1.out.kept hb1)
  replace HC6 := Lib.hid (HC6.out.kept hb1)
  have HZ7 := Lib.hid hb1.size
  replace hb := hb.trans (hb1.mono hb.size)
  clear hb1
  go_wp2_with fail
  refine (AreProposalsC.impl _ z0 _ z1 _ (HC6.out.now.1.isS hnn6.out) HF0.out (by omega) (HC7.out.now.own.isS hnn7.out) HF1.out (by omega)).mono ?_
  rintro e w8_ ⟨r0_8, rfl, hans, hb1⟩
  obtain rfl := AreProposalsC.same HS.out hans
  clear hans
  replace HA0 := Lib.hid (HA0.out.kept hb1)
  replace HA1 := Lib.hid (HA1.out.kept hb1)
  replace HC6 := Lib.hid (HC6.out.kept hb1)
  replace HC7 := Lib.hid (HC7.out.kept hb1)
  have HZ8 := Lib.hid hb1.size
  replace hb := hb.trans (hb1.mono hb.size)
  clear hb1
  go_wp2_with fail
  refine (LString.toS _ z0 _ HA0.out.now (by omega)).mono ?_
  rintro e w9_ ⟨u9, rfl, hnn9, ho, hb1⟩
  replace hnn9 := Lib.hid hnn9
  have HC9 := Lib.hid ho.loc
  clear ho
  replace HA0 := Lib.hid (HA0.out.kept hb1)
  replace HA1 := Lib.hid (HA1.out.kept hb1)
  replace HC6 := Lib.hid (HC6.out.kept hb1)
  replace HC7 := Lib.hid (HC7.out.kept hb1)
  have HZ9 := Lib.hid hb1.size
  replace hb := hb.trans (hb1.mono hb.size)
  clear hb1
  go_wp2_with fail
  refine (LString.eqS _ _ z0 _ HC6.out.now.1.is HC9.out.now.1.is).mono ?_
  rintro e w10_ ⟨rfl, hb1⟩
  replace HA0 := Lib.hid (HA0.out.kept hb1)
  replace HA1 := Lib.hid (HA1.out.kept hb1)
  replace HC6 := Lib.hid (HC6.out.kept hb1)
  replace HC7 := Lib.hid (HC7.out.kept hb1)
  replace HC9 := Lib.hid (HC9.out.kept hb1)
  have HZ10 := Lib.hid hb1.size
  replace hb := hb.trans (hb1.mono hb.size)
  clear hb1
  go_wp2_with fail
  clear HC9
  refine (LProposalS.toS _ z1 _ HA1.out.now (by omega) HNS1.out).mono ?_
  rintro e w11_ ⟨u11, rfl, hnn11, ho, hb1⟩
  replace hnn11 := Lib.hid hnn11
  have HC11 := Lib.hid ho.loc
  clear ho
  replace HA0 := Lib.hid (HA0.out.kept hb1)
  replace HA1 := Lib.hid (HA1.out.kept hb1)
  replace HC6 := Lib.hid (HC6.out.kept hb1)
  replace HC7 := Lib.hid (HC7.out.kept hb1)
  have HZ11 := Lib.hid hb1.size
  replace hb := hb.trans (hb1.mono hb.size)
  clear hb1
  go_wp2_with fail
  refine (LProposalS.eqS _ _ z1 _ HC7.out.now.own.is HC11.out.now.own.is).mono ?_
  rintro e w12_ ⟨rfl, hb1⟩
  replace HA0 := Lib.hid (HA0.out.kept hb1)
  replace HA1 := Lib.hid (HA1.out.kept hb1)
  replace HC6 := Lib.hid (HC6.out.kept hb1)
  replace HC7 := Lib.hid (HC7.out.kept hb1)
  replace HC11 := Lib.hid (HC11.out.kept hb1)
  have HZ12 := Lib.hid hb1.size
  replace hb := hb.trans (hb1.mono hb.size)
  clear hb1
  go_wp2_with fail
  clear HC11
  go_ret
  exact ⟨rfl, hb⟩
end Go.Proofs.Ytclpdpfnlmfogaa.fnExactAreProposals
