/- FnExactApplyTogether: the law's walk, for every slice, every slice. -/
import Derived.Test.YtclpdpfnlmfogaaDoorApplyTogetherC
import Derived.Test.YtclpdpfnlmfogaaDoorLProposalSE
import Derived.Test.YtclpdpfnlmfogaaDoorLProposalSM
import Derived.Test.YtclpdpfnlmfogaaDoorLProposalSO
import Derived.Test.YtclpdpfnlmfogaaDoorLProposalST
import Derived.Test.YtclpdpfnlmfogaaDoorLProposalSZ
import Derived.Test.YtclpdpfnlmfogaaDoorLStringE
import Derived.Test.YtclpdpfnlmfogaaDoorLStringM
import Derived.Test.YtclpdpfnlmfogaaDoorLStringO
import Derived.Test.YtclpdpfnlmfogaaDoorLStringT
import Derived.Test.YtclpdpfnlmfogaaDoorJ1
namespace Go.Proofs.YtclpdpfnlmfogaaDoor.fnExactApplyTogether
open Go.RowKit Bs
set_option linter.unusedVariables false
set_option maxRecDepth 100000 in
set_option maxHeartbeats 12800000 in
theorem walk (a0 : Option Addr) (len0 cap0 : Nat) (z0 : List ByteArray) (a1 : Option Addr) (len1 cap1 : Nat) (z1 : List LProposal.R) (w : World) (sh : w.ShapedOpen Tryd.prog) (vt : Laid.T64 w) (w0 : LString.IsIn w a0 len0 cap0 z0) (w1 : LProposalS.IsIn w a1 len1 cap1 z1) :
    Calls Tryd.prog 6 #[.slice a0 len0 cap0, .slice a1 len1 cap1] w fun e w' => e = .returned (.bool true) ∧ Below w.heap.size w w' := by
  have HA0 := Lib.hid (LString.IsIn.is w0).loc
  have HF0 := Lib.hid (show ∀ x ∈ z0, LString.Fine x from fun x hx => LString.fine_of (w0.2.2 x hx))
  have HL0 := Lib.hid w0.1
  have HA1 := Lib.hid (Bs.NIs.loc (LProposalS.IsIn.is w1))
  have HF1 := Lib.hid w1.2.2
  have HL1 := Lib.hid w1.1
  have HVT := Lib.hid vt
  clear sh w0 w1 vt
  go_enter Tryd.func6, Tryd.ntmps6
  go_wp2_with fail
  refine (LString.szS _ z0 _ _ (by omega) (by omega) HA0.out.now HF0.out).mono ?_
  rintro e w1_ ⟨hb1, x, rfl, ⟨hx0, hxl⟩ | ⟨rfl, hxl⟩⟩
  · clear hxl
    go_wp2_with fail
    go_ret
    exact ⟨rfl, hb1⟩
  have hbud0 := hxl
  clear hxl
  replace HA0 := Lib.hid (HA0.out.kept hb1)
  replace HA1 := Lib.hid (HA1.out.kept hb1)
  have HZ1 := Lib.hid hb1.size
  have hb := hb1
  clear hb1
  go_wp2_with fail
  refine (LProposalS.szS _ z1 _ _ (by omega) (by omega) HA1.out.now HF1.out).mono ?_
  rintro e w2_ ⟨hb1, x, rfl, ⟨hx0, hxl⟩ | ⟨rfl, hxl⟩⟩
  · clear hxl
    go_wp2_with fail
    go_ret
    exact ⟨rfl, hb.trans (hb1.mono hb.size)⟩
  have hbud1 := hxl
  clear hxl
  have HNS1 := Lib.hid (show ∀ x ∈ z1, x.words.length ≤ 1048576 from fun x hx => by have := LProposalS.len_le hx; omega)
  have hct1 := LProposalS.cnt_le z1
  replace HA0 := Lib.hid (HA0.out.kept hb1)
  replace HA1 := Lib.hid (HA1.out.kept hb1)
  have HZ2 := Lib.hid hb1.size
  replace hb := hb.trans (hb1.mono hb.size)
  clear hb1
  go_wp2_with fail
  refine (LString.toS _ z0 _ HA0.out.now (by omega)).mono ?_
  rintro e w3_ ⟨u3, rfl, hnn3, ho, hb1⟩
  replace hnn3 := Lib.hid hnn3
  have HC3 := Lib.hid ho.loc
  clear ho
  replace HA0 := Lib.hid (HA0.out.kept hb1)
  replace HA1 := Lib.hid (HA1.out.kept hb1)
  have HZ3 := Lib.hid hb1.size
  replace hb := hb.trans (hb1.mono hb.size)
  clear hb1
  go_wp2_with fail
  refine (LProposalS.toS _ z1 _ HA1.out.now (by omega) HNS1.out).mono ?_
  rintro e w4_ ⟨u4, rfl, hnn4, ho, hb1⟩
  replace hnn4 := Lib.hid hnn4
  have HC4 := Lib.hid ho.loc
  clear ho
  replace HA0 := Lib.hid (HA0.out.kept hb1)
  replace HA1 := Lib.hid (HA1.out.kept hb1)
  replace HC3 := Lib.hid (HC3.out.kept hb1)
  have HZ4 := Lib.hid hb1.size
  replace hb := hb.trans (hb1.mono hb.size)
  clear hb1
  go_wp2_with fail
  refine (ApplyTogetherC.spec _ z0 _ z1 _ (HC3.out.now.1.isS hnn3.out) HF0.out (by omega) (HC4.out.now.own.isS hnn4.out) HF1.out (by omega)).mono ?_
  rintro e w5_ ⟨v0_5, r0_5, r1_5, rfl, hans, ho0, hb1⟩
  have HS := Lib.hid hans
  have hlen0 := ApplyTogetherC.len0 hans
  clear hans
  have HR0_5 := Lib.hid ho0.loc
  clear ho0
  replace HA0 := Lib.hid (HA0.out.kept hb1)
  replace HA1 := Lib.hid (HA1.out.kept hb1)
  replace HC3 := Lib.hid (HC3.out.kept hb1)
  replace HC4 := Lib.hid (HC4.out.kept hb1)
  have HZ5 := Lib.hid hb1.size
  replace hb := hb.trans (hb1.mono hb.size)
  clear hb1
  clear HC3
  clear HC4
  have hne1 : (r1_5 != r1_5) = false := by simp
  go_wp2_with fail
  refine (LString.toS _ z0 _ HA0.out.now (by omega)).mono ?_
  rintro e w6_ ⟨u6, rfl, hnn6, ho, hb1⟩
  replace hnn6 := Lib.hid hnn6
  have HC6 := Lib.hid ho.loc
  clear ho
  replace HA0 := Lib.hid (HA0.out.kept hb1)
  replace HA1 := Lib.hid (HA1.out.kept hb1)
  replace HR0_5 := Lib.hid (HR0_5.out.kept hb1)
  have HZ6 := Lib.hid hb1.size
  replace hb := hb.trans (hb1.mono hb.size)
  clear hb1
  go_wp2_with fail
  refine (LProposalS.toS _ z1 _ HA1.out.now (by omega) HNS1.out).mono ?_
  rintro e w7_ ⟨u7, rfl, hnn7, ho, hb1⟩
  replace hnn7 := Lib.hid hnn7
  have HC7 := Lib.hid ho.loc
  clear ho
  replace HA0 := Lib.hid (HA0.out.kept hb1)
  replace HA1 := Lib.hid (HA1.out.kept hb1)
  replace HR0_5 := Lib.hid (HR0_5.out.kept hb1)
  replace HC6 := Lib.hid (HC6.out.kept hb1)
  have HZ7 := Lib.hid hb1.size
  replace hb := hb.trans (hb1.mono hb.size)
  clear hb1
  go_wp2_with fail
  refine (ApplyTogetherC.impl _ z0 _ z1 _ (HC6.out.now.1.isS hnn6.out) HF0.out (by omega) (HC7.out.now.own.isS hnn7.out) HF1.out (by omega) (Laid.T64.below HVT.out hb)).mono ?_
  rintro e w8_ ⟨v0_8, r0_8, r1_8, rfl, hans, ho0, hb1⟩
  obtain ⟨rfl, rfl⟩ := ApplyTogetherC.same HS.out hans
  clear hans
  have HR0_8 := Lib.hid ho0.loc
  clear ho0
  replace HA0 := Lib.hid (HA0.out.kept hb1)
  replace HA1 := Lib.hid (HA1.out.kept hb1)
  replace HR0_5 := Lib.hid (HR0_5.out.kept hb1)
  replace HC6 := Lib.hid (HC6.out.kept hb1)
  replace HC7 := Lib.hid (HC7.out.kept hb1)
  have HZ8 := Lib.hid hb1.size
  replace hb := hb.trans (hb1.mono hb.size)
  clear hb1
  go_wp2_with fail
  refine (LString.eqS _ _ r0_5 _ HR0_8.out.now.1.is HR0_5.out.now.1.is).mono ?_
  rintro e w9_ ⟨rfl, hb1⟩
  replace HA0 := Lib.hid (HA0.out.kept hb1)
  replace HA1 := Lib.hid (HA1.out.kept hb1)
  replace HR0_5 := Lib.hid (HR0_5.out.kept hb1)
  replace HC6 := Lib.hid (HC6.out.kept hb1)
  replace HC7 := Lib.hid (HC7.out.kept hb1)
  replace HR0_8 := Lib.hid (HR0_8.out.kept hb1)
  have HZ9 := Lib.hid hb1.size
  replace hb := hb.trans (hb1.mono hb.size)
  clear hb1
  go_wp2_with fail
  refine (LString.toS _ z0 _ HA0.out.now (by omega)).mono ?_
  rintro e w10_ ⟨u10, rfl, hnn10, ho, hb1⟩
  replace hnn10 := Lib.hid hnn10
  have HC10 := Lib.hid ho.loc
  clear ho
  replace HA0 := Lib.hid (HA0.out.kept hb1)
  replace HA1 := Lib.hid (HA1.out.kept hb1)
  replace HR0_5 := Lib.hid (HR0_5.out.kept hb1)
  replace HC6 := Lib.hid (HC6.out.kept hb1)
  replace HC7 := Lib.hid (HC7.out.kept hb1)
  replace HR0_8 := Lib.hid (HR0_8.out.kept hb1)
  have HZ10 := Lib.hid hb1.size
  replace hb := hb.trans (hb1.mono hb.size)
  clear hb1
  go_wp2_with fail
  refine (LString.eqS _ _ z0 _ HC6.out.now.1.is HC10.out.now.1.is).mono ?_
  rintro e w11_ ⟨rfl, hb1⟩
  replace HA0 := Lib.hid (HA0.out.kept hb1)
  replace HA1 := Lib.hid (HA1.out.kept hb1)
  replace HR0_5 := Lib.hid (HR0_5.out.kept hb1)
  replace HC6 := Lib.hid (HC6.out.kept hb1)
  replace HC7 := Lib.hid (HC7.out.kept hb1)
  replace HR0_8 := Lib.hid (HR0_8.out.kept hb1)
  replace HC10 := Lib.hid (HC10.out.kept hb1)
  have HZ11 := Lib.hid hb1.size
  replace hb := hb.trans (hb1.mono hb.size)
  clear hb1
  go_wp2_with fail
  clear HC10
  refine (LProposalS.toS _ z1 _ HA1.out.now (by omega) HNS1.out).mono ?_
  rintro e w12_ ⟨u12, rfl, hnn12, ho, hb1⟩
  replace hnn12 := Lib.hid hnn12
  have HC12 := Lib.hid ho.loc
  clear ho
  replace HA0 := Lib.hid (HA0.out.kept hb1)
  replace HA1 := Lib.hid (HA1.out.kept hb1)
  replace HR0_5 := Lib.hid (HR0_5.out.kept hb1)
  replace HC6 := Lib.hid (HC6.out.kept hb1)
  replace HC7 := Lib.hid (HC7.out.kept hb1)
  replace HR0_8 := Lib.hid (HR0_8.out.kept hb1)
  have HZ12 := Lib.hid hb1.size
  replace hb := hb.trans (hb1.mono hb.size)
  clear hb1
  go_wp2_with fail
  refine (LProposalS.eqS _ _ z1 _ HC7.out.now.own.is HC12.out.now.own.is).mono ?_
  rintro e w13_ ⟨rfl, hb1⟩
  replace HA0 := Lib.hid (HA0.out.kept hb1)
  replace HA1 := Lib.hid (HA1.out.kept hb1)
  replace HR0_5 := Lib.hid (HR0_5.out.kept hb1)
  replace HC6 := Lib.hid (HC6.out.kept hb1)
  replace HC7 := Lib.hid (HC7.out.kept hb1)
  replace HR0_8 := Lib.hid (HR0_8.out.kept hb1)
  replace HC12 := Lib.hid (HC12.out.kept hb1)
  have HZ13 := Lib.hid hb1.size
  replace hb := hb.trans (hb1.mono hb.size)
  clear hb1
  go_wp2_with fail
  clear HC12
  refine (LString.markS _ _ 1 _ z0 _ (by omega) (by omega) HC6.out.now).mono ?_
  rintro e w14_ ⟨he, ho, hap⟩
  obtain ⟨Nk14, hNk⟩ : ∃ N : Nat, N = (1 + 1 * z0.length) := ⟨_, rfl⟩
  rw [← hNk] at he
  have HNk14 := Lib.hid hNk
  subst he
  clear hNk
  replace HA0 := Lib.hid (HA0.out.apart hap (by have := HZ1.out; have := HZ2.out; have := HZ3.out; have := HZ4.out; have := HZ5.out; have := HZ6.out; have := HZ7.out; have := HZ8.out; have := HZ9.out; have := HZ10.out; have := HZ11.out; have := HZ12.out; have := HZ13.out; omega))
  replace HA1 := Lib.hid (HA1.out.apart hap (by have := HZ1.out; have := HZ2.out; have := HZ3.out; have := HZ4.out; have := HZ5.out; have := HZ6.out; have := HZ7.out; have := HZ8.out; have := HZ9.out; have := HZ10.out; have := HZ11.out; have := HZ12.out; have := HZ13.out; omega))
  replace HR0_5 := Lib.hid (HR0_5.out.apart hap (by have := HZ1.out; have := HZ2.out; have := HZ3.out; have := HZ4.out; have := HZ5.out; have := HZ6.out; have := HZ7.out; have := HZ8.out; have := HZ9.out; have := HZ10.out; have := HZ11.out; have := HZ12.out; have := HZ13.out; omega))
  replace HC7 := Lib.hid (HC7.out.apart hap (by have := HZ1.out; have := HZ2.out; have := HZ3.out; have := HZ4.out; have := HZ5.out; have := HZ6.out; have := HZ7.out; have := HZ8.out; have := HZ9.out; have := HZ10.out; have := HZ11.out; have := HZ12.out; have := HZ13.out; omega))
  replace HR0_8 := Lib.hid (HR0_8.out.apart hap (by have := HZ1.out; have := HZ2.out; have := HZ3.out; have := HZ4.out; have := HZ5.out; have := HZ6.out; have := HZ7.out; have := HZ8.out; have := HZ9.out; have := HZ10.out; have := HZ11.out; have := HZ12.out; have := HZ13.out; omega))
  have hlow := hap.below (B' := w.heap.size) (by have := hb.size; have := HZ1.out; have := HZ2.out; have := HZ3.out; have := HZ4.out; have := HZ5.out; have := HZ6.out; have := HZ7.out; have := HZ8.out; have := HZ9.out; have := HZ10.out; have := HZ11.out; have := HZ12.out; have := HZ13.out; omega) hb.size
  replace HC6 := Lib.hid (ho.loc (by have := hap.size; have := HZ1.out; have := HZ2.out; have := HZ3.out; have := HZ4.out; have := HZ5.out; have := HZ6.out; have := HZ7.out; have := HZ8.out; have := HZ9.out; have := HZ10.out; have := HZ11.out; have := HZ12.out; have := HZ13.out; omega))
  have HZ14 := Lib.hid hap.size
  replace hb := hb.trans hlow
  clear ho hap hlow
  go_wp2_with fail
  refine (LProposalS.markS _ _ Nk14 _ z1 _ (by have := HNk14.out; omega) (by have := HNk14.out; omega) HC7.out.le HC7.out.now).mono ?_
  rintro e w15_ ⟨he, ho, hap⟩
  obtain ⟨Nk15, hNk⟩ : ∃ N : Nat, N = (Nk14 + LProposalS.cnt z1) := ⟨_, rfl⟩
  rw [← hNk] at he
  have HNk15 := Lib.hid hNk
  subst he
  clear hNk
  replace HA0 := Lib.hid (HA0.out.apart hap (by have := HZ1.out; have := HZ2.out; have := HZ3.out; have := HZ4.out; have := HZ5.out; have := HZ6.out; have := HZ7.out; have := HZ8.out; have := HZ9.out; have := HZ10.out; have := HZ11.out; have := HZ12.out; have := HZ13.out; have := HZ14.out; omega))
  replace HA1 := Lib.hid (HA1.out.apart hap (by have := HZ1.out; have := HZ2.out; have := HZ3.out; have := HZ4.out; have := HZ5.out; have := HZ6.out; have := HZ7.out; have := HZ8.out; have := HZ9.out; have := HZ10.out; have := HZ11.out; have := HZ12.out; have := HZ13.out; have := HZ14.out; omega))
  replace HR0_5 := Lib.hid (HR0_5.out.apart hap (by have := HZ1.out; have := HZ2.out; have := HZ3.out; have := HZ4.out; have := HZ5.out; have := HZ6.out; have := HZ7.out; have := HZ8.out; have := HZ9.out; have := HZ10.out; have := HZ11.out; have := HZ12.out; have := HZ13.out; have := HZ14.out; omega))
  replace HC6 := Lib.hid (HC6.out.apart hap (by have := HZ1.out; have := HZ2.out; have := HZ3.out; have := HZ4.out; have := HZ5.out; have := HZ6.out; have := HZ7.out; have := HZ8.out; have := HZ9.out; have := HZ10.out; have := HZ11.out; have := HZ12.out; have := HZ13.out; have := HZ14.out; omega))
  replace HR0_8 := Lib.hid (HR0_8.out.apart hap (by have := HZ1.out; have := HZ2.out; have := HZ3.out; have := HZ4.out; have := HZ5.out; have := HZ6.out; have := HZ7.out; have := HZ8.out; have := HZ9.out; have := HZ10.out; have := HZ11.out; have := HZ12.out; have := HZ13.out; have := HZ14.out; omega))
  have hlow := hap.below (B' := w.heap.size) (by have := hb.size; have := HZ1.out; have := HZ2.out; have := HZ3.out; have := HZ4.out; have := HZ5.out; have := HZ6.out; have := HZ7.out; have := HZ8.out; have := HZ9.out; have := HZ10.out; have := HZ11.out; have := HZ12.out; have := HZ13.out; have := HZ14.out; omega) hb.size
  replace HC7 := Lib.hid (ho.loc (by have := hap.size; have := HZ1.out; have := HZ2.out; have := HZ3.out; have := HZ4.out; have := HZ5.out; have := HZ6.out; have := HZ7.out; have := HZ8.out; have := HZ9.out; have := HZ10.out; have := HZ11.out; have := HZ12.out; have := HZ13.out; have := HZ14.out; omega))
  have HZ15 := Lib.hid hap.size
  replace hb := hb.trans hlow
  clear ho hap hlow
  go_wp2_with fail
  refine (LString.eqS _ _ r0_5 _ HR0_8.out.now.1.is HR0_5.out.now.1.is).mono ?_
  rintro e w16_ ⟨rfl, hb1⟩
  replace HA0 := Lib.hid (HA0.out.kept hb1)
  replace HA1 := Lib.hid (HA1.out.kept hb1)
  replace HR0_5 := Lib.hid (HR0_5.out.kept hb1)
  replace HC6 := Lib.hid (HC6.out.kept hb1)
  replace HC7 := Lib.hid (HC7.out.kept hb1)
  replace HR0_8 := Lib.hid (HR0_8.out.kept hb1)
  have HZ16 := Lib.hid hb1.size
  replace hb := hb.trans (hb1.mono hb.size)
  clear hb1
  go_wp2_with fail
  refine (LString.markS _ _ 1 _ r0_5 _ (by have := HNk14.out; have := HNk15.out; omega) (by have := HNk14.out; have := HNk15.out; omega) HR0_8.out.now).mono ?_
  rintro e w17_ ⟨rfl, ho, hap⟩
  replace HA0 := Lib.hid (HA0.out.apart hap (by have := HZ1.out; have := HZ2.out; have := HZ3.out; have := HZ4.out; have := HZ5.out; have := HZ6.out; have := HZ7.out; have := HZ8.out; have := HZ9.out; have := HZ10.out; have := HZ11.out; have := HZ12.out; have := HZ13.out; have := HZ14.out; have := HZ15.out; have := HZ16.out; omega))
  replace HA1 := Lib.hid (HA1.out.apart hap (by have := HZ1.out; have := HZ2.out; have := HZ3.out; have := HZ4.out; have := HZ5.out; have := HZ6.out; have := HZ7.out; have := HZ8.out; have := HZ9.out; have := HZ10.out; have := HZ11.out; have := HZ12.out; have := HZ13.out; have := HZ14.out; have := HZ15.out; have := HZ16.out; omega))
  replace HR0_5 := Lib.hid (HR0_5.out.apart hap (by have := HZ1.out; have := HZ2.out; have := HZ3.out; have := HZ4.out; have := HZ5.out; have := HZ6.out; have := HZ7.out; have := HZ8.out; have := HZ9.out; have := HZ10.out; have := HZ11.out; have := HZ12.out; have := HZ13.out; have := HZ14.out; have := HZ15.out; have := HZ16.out; omega))
  replace HC6 := Lib.hid (HC6.out.apart hap (by have := HZ1.out; have := HZ2.out; have := HZ3.out; have := HZ4.out; have := HZ5.out; have := HZ6.out; have := HZ7.out; have := HZ8.out; have := HZ9.out; have := HZ10.out; have := HZ11.out; have := HZ12.out; have := HZ13.out; have := HZ14.out; have := HZ15.out; have := HZ16.out; omega))
  replace HC7 := Lib.hid (HC7.out.apart hap (by have := HZ1.out; have := HZ2.out; have := HZ3.out; have := HZ4.out; have := HZ5.out; have := HZ6.out; have := HZ7.out; have := HZ8.out; have := HZ9.out; have := HZ10.out; have := HZ11.out; have := HZ12.out; have := HZ13.out; have := HZ14.out; have := HZ15.out; have := HZ16.out; omega))
  have hlow := hap.below (B' := w.heap.size) (by have := hb.size; have := HZ1.out; have := HZ2.out; have := HZ3.out; have := HZ4.out; have := HZ5.out; have := HZ6.out; have := HZ7.out; have := HZ8.out; have := HZ9.out; have := HZ10.out; have := HZ11.out; have := HZ12.out; have := HZ13.out; have := HZ14.out; have := HZ15.out; have := HZ16.out; omega) hb.size
  replace HR0_8 := Lib.hid (ho.loc (by have := hap.size; have := HZ1.out; have := HZ2.out; have := HZ3.out; have := HZ4.out; have := HZ5.out; have := HZ6.out; have := HZ7.out; have := HZ8.out; have := HZ9.out; have := HZ10.out; have := HZ11.out; have := HZ12.out; have := HZ13.out; have := HZ14.out; have := HZ15.out; have := HZ16.out; omega))
  have HZ17 := Lib.hid hap.size
  replace hb := hb.trans hlow
  clear ho hap hlow
  go_wp2_with fail
  refine (LString.heldS _ 1 _ r0_5 _ (by omega) (by omega) HR0_8.out.now.1).mono ?_
  rintro e w18_ ⟨rfl, hb1⟩
  replace HA0 := Lib.hid (HA0.out.kept hb1)
  replace HA1 := Lib.hid (HA1.out.kept hb1)
  replace HR0_5 := Lib.hid (HR0_5.out.kept hb1)
  replace HC6 := Lib.hid (HC6.out.kept hb1)
  replace HC7 := Lib.hid (HC7.out.kept hb1)
  replace HR0_8 := Lib.hid (HR0_8.out.kept hb1)
  have HZ18 := Lib.hid hb1.size
  replace hb := hb.trans (hb1.mono hb.size)
  clear hb1
  go_wp2_with fail
  refine (LString.toS _ z0 _ HA0.out.now (by omega)).mono ?_
  rintro e w19_ ⟨u19, rfl, hnn19, ho, hb1⟩
  replace hnn19 := Lib.hid hnn19
  have HC19 := Lib.hid ho.loc
  clear ho
  replace HA0 := Lib.hid (HA0.out.kept hb1)
  replace HA1 := Lib.hid (HA1.out.kept hb1)
  replace HR0_5 := Lib.hid (HR0_5.out.kept hb1)
  replace HC6 := Lib.hid (HC6.out.kept hb1)
  replace HC7 := Lib.hid (HC7.out.kept hb1)
  replace HR0_8 := Lib.hid (HR0_8.out.kept hb1)
  have HZ19 := Lib.hid hb1.size
  replace hb := hb.trans (hb1.mono hb.size)
  clear hb1
  go_wp2_with fail
  refine (LProposalS.toS _ z1 _ HA1.out.now (by omega) HNS1.out).mono ?_
  rintro e w20_ ⟨u20, rfl, hnn20, ho, hb1⟩
  replace hnn20 := Lib.hid hnn20
  have HC20 := Lib.hid ho.loc
  clear ho
  replace HA0 := Lib.hid (HA0.out.kept hb1)
  replace HA1 := Lib.hid (HA1.out.kept hb1)
  replace HR0_5 := Lib.hid (HR0_5.out.kept hb1)
  replace HC6 := Lib.hid (HC6.out.kept hb1)
  replace HC7 := Lib.hid (HC7.out.kept hb1)
  replace HR0_8 := Lib.hid (HR0_8.out.kept hb1)
  replace HC19 := Lib.hid (HC19.out.kept hb1)
  have HZ20 := Lib.hid hb1.size
  replace hb := hb.trans (hb1.mono hb.size)
  clear hb1
  go_wp2_with fail
  refine (ApplyTogetherC.impl _ z0 _ z1 _ (HC19.out.now.1.isS hnn19.out) HF0.out (by omega) (HC20.out.now.own.isS hnn20.out) HF1.out (by omega) (Laid.T64.below HVT.out hb)).mono ?_
  rintro e w21_ ⟨v0_21, r0_21, r1_21, rfl, hans, ho0, hb1⟩
  obtain ⟨rfl, rfl⟩ := ApplyTogetherC.same HS.out hans
  clear hans
  have HR0_21 := Lib.hid ho0.loc
  clear ho0
  replace HA0 := Lib.hid (HA0.out.kept hb1)
  replace HA1 := Lib.hid (HA1.out.kept hb1)
  replace HR0_5 := Lib.hid (HR0_5.out.kept hb1)
  replace HC6 := Lib.hid (HC6.out.kept hb1)
  replace HC7 := Lib.hid (HC7.out.kept hb1)
  replace HR0_8 := Lib.hid (HR0_8.out.kept hb1)
  replace HC19 := Lib.hid (HC19.out.kept hb1)
  replace HC20 := Lib.hid (HC20.out.kept hb1)
  have HZ21 := Lib.hid hb1.size
  replace hb := hb.trans (hb1.mono hb.size)
  clear hb1
  clear HC19
  clear HC20
  go_wp2_with fail
  refine (LString.eqS _ _ r0_5 _ HR0_21.out.now.1.is HR0_5.out.now.1.is).mono ?_
  rintro e w22_ ⟨rfl, hb1⟩
  replace HA0 := Lib.hid (HA0.out.kept hb1)
  replace HA1 := Lib.hid (HA1.out.kept hb1)
  replace HR0_5 := Lib.hid (HR0_5.out.kept hb1)
  replace HC6 := Lib.hid (HC6.out.kept hb1)
  replace HC7 := Lib.hid (HC7.out.kept hb1)
  replace HR0_8 := Lib.hid (HR0_8.out.kept hb1)
  replace HR0_21 := Lib.hid (HR0_21.out.kept hb1)
  have HZ22 := Lib.hid hb1.size
  replace hb := hb.trans (hb1.mono hb.size)
  clear hb1
  go_wp2_with fail
  refine (LString.heldS _ 1 _ r0_5 _ (by omega) (by omega) HR0_8.out.now.1).mono ?_
  rintro e w23_ ⟨rfl, hb1⟩
  replace HA0 := Lib.hid (HA0.out.kept hb1)
  replace HA1 := Lib.hid (HA1.out.kept hb1)
  replace HR0_5 := Lib.hid (HR0_5.out.kept hb1)
  replace HC6 := Lib.hid (HC6.out.kept hb1)
  replace HC7 := Lib.hid (HC7.out.kept hb1)
  replace HR0_8 := Lib.hid (HR0_8.out.kept hb1)
  replace HR0_21 := Lib.hid (HR0_21.out.kept hb1)
  have HZ23 := Lib.hid hb1.size
  replace hb := hb.trans (hb1.mono hb.size)
  clear hb1
  go_wp2_with fail
  go_ret
  exact ⟨rfl, hb⟩
end Go.Proofs.YtclpdpfnlmfogaaDoor.fnExactApplyTogether
