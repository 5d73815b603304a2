/- FnExactChangeRank: the law's walk, for every slice, every number, every number. -/
import Derived.Test.YtbaflfbidgolfaaChangeC
import Derived.Test.YtbaflfbidgolfaaLRuleE
import Derived.Test.YtbaflfbidgolfaaLRuleM
import Derived.Test.YtbaflfbidgolfaaLRuleO
import Derived.Test.YtbaflfbidgolfaaLRuleT
import Derived.Test.YtbaflfbidgolfaaLRuleZ
namespace Go.Proofs.Ytbaflfbidgolfaa.fnExactChangeRank
open Go.RowKit Bs
set_option linter.unusedVariables false
set_option maxRecDepth 100000 in
set_option maxHeartbeats 1600000 in
theorem walk (a0 : Option Addr) (len0 cap0 : Nat) (z0 : List LRule.R) (a1 : Int) (a2 : Int) (w : World) (sh : w.ShapedOpen Try.prog) (w0 : LRule.IsIn w a0 len0 cap0 z0) (w1 : (Lit.int .i64 a1).wf = true) (w2 : (Lit.int .i64 a2).wf = true) :
    Calls Try.prog 14 #[.slice a0 len0 cap0, .int .i64 a1, .int .i64 a2] w fun e w' => e = .returned (.bool true) ∧ Below w.heap.size w w' := by
  have HA0 := Lib.hid (LRule.IsIn.is w0).loc
  have HF0 := Lib.hid (show ∀ x ∈ z0, LRule.Fine x from fun x hx => LRule.fine_of (w0.2.2 x hx))
  have HL0 := Lib.hid w0.1
  have HW1 := Lib.hid w1
  have HW2 := Lib.hid w2
  clear sh w0 w1 w2
  go_enter Try.func14, Try.ntmps14
  go_wp2_with fail
  refine (LRule.szS _ z0 _ _ (by omega) (by omega) HA0.out.now HF0.out).mono ?_
  rintro e w1_ ⟨hb1, x, rfl, ⟨hx0, hxl⟩ | ⟨rfl, hxl⟩⟩
  · clear hxl
    go_wp2_with fail
    go_ret
    exact ⟨rfl, hb1⟩
  have hbud0 := hxl
  clear hxl
  replace HA0 := Lib.hid (HA0.out.kept hb1)
  have HZ1 := Lib.hid hb1.size
  have hb := hb1
  clear hb1
  go_wp2_with fail
  refine (LRule.toS _ z0 _ HA0.out.now (by omega)).mono ?_
  rintro e w2_ ⟨u2, rfl, hnn2, ho, hb1⟩
  replace hnn2 := Lib.hid hnn2
  have HC2 := Lib.hid ho.loc
  clear ho
  replace HA0 := Lib.hid (HA0.out.kept hb1)
  have HZ2 := Lib.hid hb1.size
  replace hb := hb.trans (hb1.mono hb.size)
  clear hb1
  go_wp2_with fail
  refine (ChangeC.spec _ z0 a1 a2 _ (HC2.out.now.1.isS hnn2.out) HF0.out (by omega)).mono ?_
  rintro e w3_ ⟨v0_3, r0_3, r1_3, rfl, hans, ho0, hb1⟩
  have HS := Lib.hid hans
  have hlen0 := ChangeC.len0 hans
  clear hans
  have HR0_3 := Lib.hid ho0.loc
  clear ho0
  replace HA0 := Lib.hid (HA0.out.kept hb1)
  replace HC2 := Lib.hid (HC2.out.kept hb1)
  have HZ3 := Lib.hid hb1.size
  replace hb := hb.trans (hb1.mono hb.size)
  clear hb1
  clear HC2
  have hne1 : (r1_3 != r1_3) = false := by simp
  go_wp2_with fail
  refine (LRule.toS _ z0 _ HA0.out.now (by omega)).mono ?_
  rintro e w4_ ⟨u4, rfl, hnn4, ho, hb1⟩
  replace hnn4 := Lib.hid hnn4
  have HC4 := Lib.hid ho.loc
  clear ho
  replace HA0 := Lib.hid (HA0.out.kept hb1)
  replace HR0_3 := Lib.hid (HR0_3.out.kept hb1)
  have HZ4 := Lib.hid hb1.size
  replace hb := hb.trans (hb1.mono hb.size)
  clear hb1
  go_wp2_with fail
  refine (ChangeC.impl _ z0 a1 a2 _ (HC4.out.now.1.isS hnn4.out) HF0.out (by omega)).mono ?_
  rintro e w5_ ⟨v0_5, r0_5, r1_5, rfl, hans, ho0, hb1⟩
  obtain ⟨rfl, rfl⟩ := ChangeC.same HS.out hans
  clear hans
  have HR0_5 := Lib.hid ho0.loc
  clear ho0
  replace HA0 := Lib.hid (HA0.out.kept hb1)
  replace HR0_3 := Lib.hid (HR0_3.out.kept hb1)
  replace HC4 := Lib.hid (HC4.out.kept hb1)
  have HZ5 := Lib.hid hb1.size
  replace hb := hb.trans (hb1.mono hb.size)
  clear hb1
  go_wp2_with fail
  refine (LRule.eqS _ _ r0_3 _ HR0_5.out.now.1.is HR0_3.out.now.1.is).mono ?_
  rintro e w6_ ⟨rfl, hb1⟩
  replace HA0 := Lib.hid (HA0.out.kept hb1)
  replace HR0_3 := Lib.hid (HR0_3.out.kept hb1)
  replace HC4 := Lib.hid (HC4.out.kept hb1)
  replace HR0_5 := Lib.hid (HR0_5.out.kept hb1)
  have HZ6 := Lib.hid hb1.size
  replace hb := hb.trans (hb1.mono hb.size)
  clear hb1
  go_wp2_with fail
  refine (LRule.toS _ z0 _ HA0.out.now (by omega)).mono ?_
  rintro e w7_ ⟨u7, rfl, hnn7, ho, hb1⟩
  replace hnn7 := Lib.hid hnn7
  have HC7 := Lib.hid ho.loc
  clear ho
  replace HA0 := Lib.hid (HA0.out.kept hb1)
  replace HR0_3 := Lib.hid (HR0_3.out.kept hb1)
  replace HC4 := Lib.hid (HC4.out.kept hb1)
  replace HR0_5 := Lib.hid (HR0_5.out.kept hb1)
  have HZ7 := Lib.hid hb1.size
  replace hb := hb.trans (hb1.mono hb.size)
  clear hb1
  go_wp2_with fail
  refine (LRule.eqS _ _ z0 _ HC4.out.now.1.is HC7.out.now.1.is).mono ?_
  rintro e w8_ ⟨rfl, hb1⟩
  replace HA0 := Lib.hid (HA0.out.kept hb1)
  replace HR0_3 := Lib.hid (HR0_3.out.kept hb1)
  replace HC4 := Lib.hid (HC4.out.kept hb1)
  replace HR0_5 := Lib.hid (HR0_5.out.kept hb1)
  replace HC7 := Lib.hid (HC7.out.kept hb1)
  have HZ8 := Lib.hid hb1.size
  replace hb := hb.trans (hb1.mono hb.size)
  clear hb1
  go_wp2_with fail
  clear HC7
  refine (LRule.markS _ _ 1 _ z0 _ (by omega) (by omega) HC4.out.now).mono ?_
  rintro e w9_ ⟨rfl, ho, hap⟩
  replace HA0 := Lib.hid (HA0.out.apart hap (by have := HZ1.out; have := HZ2.out; have := HZ3.out; have := HZ4.out; have := HZ5.out; have := HZ6.out; have := HZ7.out; have := HZ8.out; omega))
  replace HR0_3 := Lib.hid (HR0_3.out.apart hap (by have := HZ1.out; have := HZ2.out; have := HZ3.out; have := HZ4.out; have := HZ5.out; have := HZ6.out; have := HZ7.out; have := HZ8.out; omega))
  replace HR0_5 := Lib.hid (HR0_5.out.apart hap (by have := HZ1.out; have := HZ2.out; have := HZ3.out; have := HZ4.out; have := HZ5.out; have := HZ6.out; have := HZ7.out; have := HZ8.out; omega))
  have hlow := hap.below (B' := w.heap.size) (by have := hb.size; have := HZ1.out; have := HZ2.out; have := HZ3.out; have := HZ4.out; have := HZ5.out; have := HZ6.out; have := HZ7.out; have := HZ8.out; omega) hb.size
  replace HC4 := Lib.hid (ho.loc (by have := hap.size; have := HZ1.out; have := HZ2.out; have := HZ3.out; have := HZ4.out; have := HZ5.out; have := HZ6.out; have := HZ7.out; have := HZ8.out; omega))
  have HZ9 := Lib.hid hap.size
  replace hb := hb.trans hlow
  clear ho hap hlow
  go_wp2_with fail
  refine (LRule.eqS _ _ r0_3 _ HR0_5.out.now.1.is HR0_3.out.now.1.is).mono ?_
  rintro e w10_ ⟨rfl, hb1⟩
  replace HA0 := Lib.hid (HA0.out.kept hb1)
  replace HR0_3 := Lib.hid (HR0_3.out.kept hb1)
  replace HC4 := Lib.hid (HC4.out.kept hb1)
  replace HR0_5 := Lib.hid (HR0_5.out.kept hb1)
  have HZ10 := Lib.hid hb1.size
  replace hb := hb.trans (hb1.mono hb.size)
  clear hb1
  go_wp2_with fail
  refine (LRule.markS _ _ 1 _ r0_3 _ (by omega) (by omega) HR0_5.out.now).mono ?_
  rintro e w11_ ⟨rfl, ho, hap⟩
  replace HA0 := Lib.hid (HA0.out.apart hap (by have := HZ1.out; have := HZ2.out; have := HZ3.out; have := HZ4.out; have := HZ5.out; have := HZ6.out; have := HZ7.out; have := HZ8.out; have := HZ9.out; have := HZ10.out; omega))
  replace HR0_3 := Lib.hid (HR0_3.out.apart hap (by have := HZ1.out; have := HZ2.out; have := HZ3.out; have := HZ4.out; have := HZ5.out; have := HZ6.out; have := HZ7.out; have := HZ8.out; have := HZ9.out; have := HZ10.out; omega))
  replace HC4 := Lib.hid (HC4.out.apart hap (by have := HZ1.out; have := HZ2.out; have := HZ3.out; have := HZ4.out; have := HZ5.out; have := HZ6.out; have := HZ7.out; have := HZ8.out; have := HZ9.out; have := HZ10.out; omega))
  have hlow := hap.below (B' := w.heap.size) (by have := hb.size; have := HZ1.out; have := HZ2.out; have := HZ3.out; have := HZ4.out; have := HZ5.out; have := HZ6.out; have := HZ7.out; have := HZ8.out; have := HZ9.out; have := HZ10.out; omega) hb.size
  replace HR0_5 := Lib.hid (ho.loc (by have := hap.size; have := HZ1.out; have := HZ2.out; have := HZ3.out; have := HZ4.out; have := HZ5.out; have := HZ6.out; have := HZ7.out; have := HZ8.out; have := HZ9.out; have := HZ10.out; omega))
  have HZ11 := Lib.hid hap.size
  replace hb := hb.trans hlow
  clear ho hap hlow
  go_wp2_with fail
  refine (LRule.heldS _ 1 _ r0_3 _ (by omega) (by omega) HR0_5.out.now.1).mono ?_
  rintro e w12_ ⟨rfl, hb1⟩
  replace HA0 := Lib.hid (HA0.out.kept hb1)
  replace HR0_3 := Lib.hid (HR0_3.out.kept hb1)
  replace HC4 := Lib.hid (HC4.out.kept hb1)
  replace HR0_5 := Lib.hid (HR0_5.out.kept hb1)
  have HZ12 := Lib.hid hb1.size
  replace hb := hb.trans (hb1.mono hb.size)
  clear hb1
  go_wp2_with fail
  refine (LRule.toS _ z0 _ HA0.out.now (by omega)).mono ?_
  rintro e w13_ ⟨u13, rfl, hnn13, ho, hb1⟩
  replace hnn13 := Lib.hid hnn13
  have HC13 := Lib.hid ho.loc
  clear ho
  replace HA0 := Lib.hid (HA0.out.kept hb1)
  replace HR0_3 := Lib.hid (HR0_3.out.kept hb1)
  replace HC4 := Lib.hid (HC4.out.kept hb1)
  replace HR0_5 := Lib.hid (HR0_5.out.kept hb1)
  have HZ13 := Lib.hid hb1.size
  replace hb := hb.trans (hb1.mono hb.size)
  clear hb1
  go_wp2_with fail
  refine (ChangeC.impl _ z0 a1 a2 _ (HC13.out.now.1.isS hnn13.out) HF0.out (by omega)).mono ?_
  rintro e w14_ ⟨v0_14, r0_14, r1_14, rfl, hans, ho0, hb1⟩
  obtain ⟨rfl, rfl⟩ := ChangeC.same HS.out hans
  clear hans
  have HR0_14 := Lib.hid ho0.loc
  clear ho0
  replace HA0 := Lib.hid (HA0.out.kept hb1)
  replace HR0_3 := Lib.hid (HR0_3.out.kept hb1)
  replace HC4 := Lib.hid (HC4.out.kept hb1)
  replace HR0_5 := Lib.hid (HR0_5.out.kept hb1)
  replace HC13 := Lib.hid (HC13.out.kept hb1)
  have HZ14 := Lib.hid hb1.size
  replace hb := hb.trans (hb1.mono hb.size)
  clear hb1
  clear HC13
  go_wp2_with fail
  refine (LRule.eqS _ _ r0_3 _ HR0_14.out.now.1.is HR0_3.out.now.1.is).mono ?_
  rintro e w15_ ⟨rfl, hb1⟩
  replace HA0 := Lib.hid (HA0.out.kept hb1)
  replace HR0_3 := Lib.hid (HR0_3.out.kept hb1)
  replace HC4 := Lib.hid (HC4.out.kept hb1)
  replace HR0_5 := Lib.hid (HR0_5.out.kept hb1)
  replace HR0_14 := Lib.hid (HR0_14.out.kept hb1)
  have HZ15 := Lib.hid hb1.size
  replace hb := hb.trans (hb1.mono hb.size)
  clear hb1
  go_wp2_with fail
  refine (LRule.heldS _ 1 _ r0_3 _ (by omega) (by omega) HR0_5.out.now.1).mono ?_
  rintro e w16_ ⟨rfl, hb1⟩
  replace HA0 := Lib.hid (HA0.out.kept hb1)
  replace HR0_3 := Lib.hid (HR0_3.out.kept hb1)
  replace HC4 := Lib.hid (HC4.out.kept hb1)
  replace HR0_5 := Lib.hid (HR0_5.out.kept hb1)
  replace HR0_14 := Lib.hid (HR0_14.out.kept hb1)
  have HZ16 := Lib.hid hb1.size
  replace hb := hb.trans (hb1.mono hb.size)
  clear hb1
  go_wp2_with fail
  go_ret
  exact ⟨rfl, hb⟩
end Go.Proofs.Ytbaflfbidgolfaa.fnExactChangeRank
