/- FnExactDisposeQuestion: the law's walk, for every slice, every slice. -/
import Derived.Test.YtbaflfbidgolfaaBx
import Derived.Test.YtbaflfbidgolfaaDisposeQuestionC
import Derived.Test.YtbaflfbidgolfaaLQuestionD
import Derived.Test.YtbaflfbidgolfaaLQuestionE
import Derived.Test.YtbaflfbidgolfaaLQuestionM
import Derived.Test.YtbaflfbidgolfaaLQuestionO
import Derived.Test.YtbaflfbidgolfaaLQuestionT
import Derived.Test.YtbaflfbidgolfaaLQuestionZ
import Derived.Test.YtbaflfbidgolfaaLRuleE
import Derived.Test.YtbaflfbidgolfaaLRuleM
import Derived.Test.YtbaflfbidgolfaaLRuleO
import Derived.Test.YtbaflfbidgolfaaLRuleT
import Derived.Test.YtbaflfbidgolfaaLRuleZ
namespace Go.Proofs.Ytbaflfbidgolfaa.fnExactDisposeQuestion
open Go.RowKit Bs
set_option linter.unusedVariables false
set_option maxRecDepth 100000 in
set_option maxHeartbeats 1600000 in
theorem walk (a0 : Option Addr) (len0 cap0 : Nat) (z0 : List LRule.R) (a1 : Option Addr) (len1 cap1 : Nat) (z1 : List LQuestion.R) (w : World) (sh : w.ShapedOpen Try.prog) (w0 : LRule.IsIn w a0 len0 cap0 z0) (w1 : LQuestion.IsIn w a1 len1 cap1 z1) :
    Calls Try.prog 7 #[.slice a0 len0 cap0, .slice a1 len1 cap1] w fun e w' => e = .returned (.bool true) ∧ Below w.heap.size w w' := by
  have HA0 := Lib.hid (LRule.IsIn.is w0).loc
  have HF0 := Lib.hid (show ∀ x ∈ z0, LRule.Fine x from fun x hx => LRule.fine_of (w0.2.2 x hx))
  have HL0 := Lib.hid w0.1
  have HA1 := Lib.hid (LQuestion.IsIn.is w1).loc
  have HF1 := Lib.hid (show ∀ x ∈ z1, LQuestion.Fine x from fun x hx => LQuestion.fine_of (w1.2.2 x hx))
  have HL1 := Lib.hid w1.1
  clear sh w0 w1
  go_enter Try.func7, Try.ntmps7
  go_wp2_with fail
  refine (LRule.szS _ z0 _ _ (by omega) (by omega) HA0.out.now HF0.out).mono ?_
  rintro e w1_ ⟨hb1, x, rfl, ⟨hx0, hxl⟩ | ⟨rfl, hxl⟩⟩
  · clear hxl
    go_wp2_with fail
    go_ret
    exact ⟨rfl, hb1⟩
  have hbud0 := hxl
  clear hxl
  replace HA0 := Lib.hid (HA0.out.kept hb1)
  replace HA1 := Lib.hid (HA1.out.kept hb1)
  have HZ1 := Lib.hid hb1.size
  have hb := hb1
  clear hb1
  go_wp2_with fail
  refine (LQuestion.szS _ z1 _ _ (by omega) (by omega) HA1.out.now HF1.out).mono ?_
  rintro e w2_ ⟨hb1, x, rfl, ⟨hx0, hxl⟩ | ⟨rfl, hxl⟩⟩
  · clear hxl
    go_wp2_with fail
    go_ret
    exact ⟨rfl, hb.trans (hb1.mono hb.size)⟩
  have hbud1 := hxl
  clear hxl
  replace HA0 := Lib.hid (HA0.out.kept hb1)
  replace HA1 := Lib.hid (HA1.out.kept hb1)
  have HZ2 := Lib.hid hb1.size
  replace hb := hb.trans (hb1.mono hb.size)
  clear hb1
  go_wp2_with fail
  refine (LRule.toS _ z0 _ HA0.out.now (by omega)).mono ?_
  rintro e w3_ ⟨u3, rfl, hnn3, ho, hb1⟩
  replace hnn3 := Lib.hid hnn3
  have HC3 := Lib.hid ho.loc
  clear ho
  replace HA0 := Lib.hid (HA0.out.kept hb1)
  replace HA1 := Lib.hid (HA1.out.kept hb1)
  have HZ3 := Lib.hid hb1.size
  replace hb := hb.trans (hb1.mono hb.size)
  clear hb1
  go_wp2_with fail
  refine (LQuestion.toS _ z1 _ HA1.out.now (by omega)).mono ?_
  rintro e w4_ ⟨u4, rfl, hnn4, ho, hb1⟩
  replace hnn4 := Lib.hid hnn4
  have HC4 := Lib.hid ho.loc
  clear ho
  replace HA0 := Lib.hid (HA0.out.kept hb1)
  replace HA1 := Lib.hid (HA1.out.kept hb1)
  replace HC3 := Lib.hid (HC3.out.kept hb1)
  have HZ4 := Lib.hid hb1.size
  replace hb := hb.trans (hb1.mono hb.size)
  clear hb1
  go_wp2_with fail
  refine (DisposeQuestionC.spec _ z0 _ z1 _ (HC3.out.now.1.isS hnn3.out) HF0.out (by omega) (HC4.out.now.1.isS hnn4.out) HF1.out (by omega)).mono ?_
  rintro e w5_ ⟨v0_5, r0_5, r1_5, r2_5, rfl, hans, ho0, hb1⟩
  have HS := Lib.hid hans
  have hlen0 := DisposeQuestionC.len0 hans
  clear hans
  have HR0_5 := Lib.hid ho0.loc
  clear ho0
  replace HA0 := Lib.hid (HA0.out.kept hb1)
  replace HA1 := Lib.hid (HA1.out.kept hb1)
  replace HC3 := Lib.hid (HC3.out.kept hb1)
  replace HC4 := Lib.hid (HC4.out.kept hb1)
  have HZ5 := Lib.hid hb1.size
  replace hb := hb.trans (hb1.mono hb.size)
  clear hb1
  clear HC3
  clear HC4
  have hne2 : (r2_5 != r2_5) = false := by simp
  have hbx := (Below.refl w5_.heap.size w5_).alloc (Nat.le_refl _) (Obj.cells #[.int .i64 r1_5.rule, .int .i64 r1_5.mover, .bool r1_5.sec] 47)
  replace HA0 := Lib.hid (HA0.out.kept hbx)
  replace HA1 := Lib.hid (HA1.out.kept hbx)
  replace HR0_5 := Lib.hid (HR0_5.out.kept hbx)
  have HXw1 := Lib.hid (Bx.loc (Bx.new w5_ 47 #[.int .i64 r1_5.rule, .int .i64 r1_5.mover, .bool r1_5.sec]))
  have HZ6 := Lib.hid (show w5_.heap.size + 1 ≤ (w5_.alloc (Obj.cells #[.int .i64 r1_5.rule, .int .i64 r1_5.mover, .bool r1_5.sec] 47)).heap.size by simp)
  replace hb := hb.trans (hbx.mono hb.size)
  clear hbx
  have qw1_0 := HXw1.out.now.cell 0
  have qw1_1 := HXw1.out.now.cell 1
  have qw1_2 := HXw1.out.now.cell 2
  simp only [List.getElem?_toArray, List.getElem?_cons_zero, List.getElem?_cons_succ] at qw1_0 qw1_1 qw1_2
  go_wp2_with fail
  generalize w5_.alloc (Obj.cells #[.int .i64 r1_5.rule, .int .i64 r1_5.mover, .bool r1_5.sec] 47) = w6_ at *
  refine (LRule.toS _ z0 _ HA0.out.now (by omega)).mono ?_
  rintro e w7_ ⟨u7, rfl, hnn7, ho, hb1⟩
  replace hnn7 := Lib.hid hnn7
  have HC7 := Lib.hid ho.loc
  clear ho
  replace HA0 := Lib.hid (HA0.out.kept hb1)
  replace HA1 := Lib.hid (HA1.out.kept hb1)
  replace HR0_5 := Lib.hid (HR0_5.out.kept hb1)
  replace HXw1 := Lib.hid (HXw1.out.kept hb1)
  clear qw1_0 qw1_1 qw1_2
  have qw1_0 := HXw1.out.now.cell 0
  have qw1_1 := HXw1.out.now.cell 1
  have qw1_2 := HXw1.out.now.cell 2
  simp only [List.getElem?_toArray, List.getElem?_cons_zero, List.getElem?_cons_succ] at qw1_0 qw1_1 qw1_2
  have HZ7 := Lib.hid hb1.size
  replace hb := hb.trans (hb1.mono hb.size)
  clear hb1
  go_wp2_with fail
  refine (LQuestion.toS _ z1 _ HA1.out.now (by omega)).mono ?_
  rintro e w8_ ⟨u8, rfl, hnn8, ho, hb1⟩
  replace hnn8 := Lib.hid hnn8
  have HC8 := Lib.hid ho.loc
  clear ho
  replace HA0 := Lib.hid (HA0.out.kept hb1)
  replace HA1 := Lib.hid (HA1.out.kept hb1)
  replace HR0_5 := Lib.hid (HR0_5.out.kept hb1)
  replace HXw1 := Lib.hid (HXw1.out.kept hb1)
  replace HC7 := Lib.hid (HC7.out.kept hb1)
  clear qw1_0 qw1_1 qw1_2
  have qw1_0 := HXw1.out.now.cell 0
  have qw1_1 := HXw1.out.now.cell 1
  have qw1_2 := HXw1.out.now.cell 2
  simp only [List.getElem?_toArray, List.getElem?_cons_zero, List.getElem?_cons_succ] at qw1_0 qw1_1 qw1_2
  have HZ8 := Lib.hid hb1.size
  replace hb := hb.trans (hb1.mono hb.size)
  clear hb1
  go_wp2_with fail
  refine (DisposeQuestionC.impl _ z0 _ z1 _ (HC7.out.now.1.isS hnn7.out) HF0.out (by omega) (HC8.out.now.1.isS hnn8.out) HF1.out (by omega)).mono ?_
  rintro e w9_ ⟨v0_9, r0_9, r1_9, r2_9, rfl, hans, ho0, hb1⟩
  obtain ⟨rfl, rfl, rfl⟩ := DisposeQuestionC.same HS.out hans
  clear hans
  have HR0_9 := Lib.hid ho0.loc
  clear ho0
  replace HA0 := Lib.hid (HA0.out.kept hb1)
  replace HA1 := Lib.hid (HA1.out.kept hb1)
  replace HR0_5 := Lib.hid (HR0_5.out.kept hb1)
  replace HXw1 := Lib.hid (HXw1.out.kept hb1)
  replace HC7 := Lib.hid (HC7.out.kept hb1)
  replace HC8 := Lib.hid (HC8.out.kept hb1)
  clear qw1_0 qw1_1 qw1_2
  have qw1_0 := HXw1.out.now.cell 0
  have qw1_1 := HXw1.out.now.cell 1
  have qw1_2 := HXw1.out.now.cell 2
  simp only [List.getElem?_toArray, List.getElem?_cons_zero, List.getElem?_cons_succ] at qw1_0 qw1_1 qw1_2
  have HZ9 := Lib.hid hb1.size
  replace hb := hb.trans (hb1.mono hb.size)
  clear hb1
  have ow1_0 := qw1_0
  have ow1_1 := qw1_1
  have ow1_2 := qw1_2
  have olw1 := HXw1.out.le
  have hbx := (Below.refl w9_.heap.size w9_).alloc (Nat.le_refl _) (Obj.cells #[.int .i64 r1_5.rule, .int .i64 r1_5.mover, .bool r1_5.sec] 47)
  replace HA0 := Lib.hid (HA0.out.kept hbx)
  replace HA1 := Lib.hid (HA1.out.kept hbx)
  replace HR0_5 := Lib.hid (HR0_5.out.kept hbx)
  replace HXw1 := Lib.hid (HXw1.out.kept hbx)
  replace HC7 := Lib.hid (HC7.out.kept hbx)
  replace HC8 := Lib.hid (HC8.out.kept hbx)
  replace HR0_9 := Lib.hid (HR0_9.out.kept hbx)
  have HXg1 := Lib.hid (Bx.loc (Bx.new w9_ 47 #[.int .i64 r1_5.rule, .int .i64 r1_5.mover, .bool r1_5.sec]))
  have HZ10 := Lib.hid (show w9_.heap.size + 1 ≤ (w9_.alloc (Obj.cells #[.int .i64 r1_5.rule, .int .i64 r1_5.mover, .bool r1_5.sec] 47)).heap.size by simp)
  replace hb := hb.trans (hbx.mono hb.size)
  clear hbx
  clear qw1_0 qw1_1 qw1_2
  have qw1_0 := HXw1.out.now.cell 0
  have qw1_1 := HXw1.out.now.cell 1
  have qw1_2 := HXw1.out.now.cell 2
  simp only [List.getElem?_toArray, List.getElem?_cons_zero, List.getElem?_cons_succ] at qw1_0 qw1_1 qw1_2
  have qg1_0 := HXg1.out.now.cell 0
  have qg1_1 := HXg1.out.now.cell 1
  have qg1_2 := HXg1.out.now.cell 2
  simp only [List.getElem?_toArray, List.getElem?_cons_zero, List.getElem?_cons_succ] at qg1_0 qg1_1 qg1_2
  go_wp2_with fail
  clear ow1_0 ow1_1 ow1_2 olw1
  generalize w9_.alloc (Obj.cells #[.int .i64 r1_5.rule, .int .i64 r1_5.mover, .bool r1_5.sec] 47) = w10_ at *
  refine (LQuestion.eqS _ _ r0_5 _ HR0_9.out.now.1.is HR0_5.out.now.1.is).mono ?_
  rintro e w11_ ⟨rfl, hb1⟩
  replace HA0 := Lib.hid (HA0.out.kept hb1)
  replace HA1 := Lib.hid (HA1.out.kept hb1)
  replace HR0_5 := Lib.hid (HR0_5.out.kept hb1)
  replace HXw1 := Lib.hid (HXw1.out.kept hb1)
  replace HC7 := Lib.hid (HC7.out.kept hb1)
  replace HC8 := Lib.hid (HC8.out.kept hb1)
  replace HR0_9 := Lib.hid (HR0_9.out.kept hb1)
  replace HXg1 := Lib.hid (HXg1.out.kept hb1)
  clear qw1_0 qw1_1 qw1_2
  have qw1_0 := HXw1.out.now.cell 0
  have qw1_1 := HXw1.out.now.cell 1
  have qw1_2 := HXw1.out.now.cell 2
  simp only [List.getElem?_toArray, List.getElem?_cons_zero, List.getElem?_cons_succ] at qw1_0 qw1_1 qw1_2
  clear qg1_0 qg1_1 qg1_2
  have qg1_0 := HXg1.out.now.cell 0
  have qg1_1 := HXg1.out.now.cell 1
  have qg1_2 := HXg1.out.now.cell 2
  simp only [List.getElem?_toArray, List.getElem?_cons_zero, List.getElem?_cons_succ] at qg1_0 qg1_1 qg1_2
  have HZ11 := Lib.hid hb1.size
  replace hb := hb.trans (hb1.mono hb.size)
  clear hb1
  go_wp2_with fail
  refine (LQuestion.eq r1_5 _).mono ?_
  rintro e w12_ ⟨rfl, hb1⟩
  replace HA0 := Lib.hid (HA0.out.kept hb1)
  replace HA1 := Lib.hid (HA1.out.kept hb1)
  replace HR0_5 := Lib.hid (HR0_5.out.kept hb1)
  replace HXw1 := Lib.hid (HXw1.out.kept hb1)
  replace HC7 := Lib.hid (HC7.out.kept hb1)
  replace HC8 := Lib.hid (HC8.out.kept hb1)
  replace HR0_9 := Lib.hid (HR0_9.out.kept hb1)
  replace HXg1 := Lib.hid (HXg1.out.kept hb1)
  clear qw1_0 qw1_1 qw1_2
  have qw1_0 := HXw1.out.now.cell 0
  have qw1_1 := HXw1.out.now.cell 1
  have qw1_2 := HXw1.out.now.cell 2
  simp only [List.getElem?_toArray, List.getElem?_cons_zero, List.getElem?_cons_succ] at qw1_0 qw1_1 qw1_2
  clear qg1_0 qg1_1 qg1_2
  have qg1_0 := HXg1.out.now.cell 0
  have qg1_1 := HXg1.out.now.cell 1
  have qg1_2 := HXg1.out.now.cell 2
  simp only [List.getElem?_toArray, List.getElem?_cons_zero, List.getElem?_cons_succ] at qg1_0 qg1_1 qg1_2
  have HZ12 := Lib.hid hb1.size
  replace hb := hb.trans (hb1.mono hb.size)
  clear hb1
  go_wp2_with fail
  refine (LRule.toS _ z0 _ HA0.out.now (by omega)).mono ?_
  rintro e w13_ ⟨u13, rfl, hnn13, ho, hb1⟩
  replace hnn13 := Lib.hid hnn13
  have HC13 := Lib.hid ho.loc
  clear ho
  replace HA0 := Lib.hid (HA0.out.kept hb1)
  replace HA1 := Lib.hid (HA1.out.kept hb1)
  replace HR0_5 := Lib.hid (HR0_5.out.kept hb1)
  replace HXw1 := Lib.hid (HXw1.out.kept hb1)
  replace HC7 := Lib.hid (HC7.out.kept hb1)
  replace HC8 := Lib.hid (HC8.out.kept hb1)
  replace HR0_9 := Lib.hid (HR0_9.out.kept hb1)
  replace HXg1 := Lib.hid (HXg1.out.kept hb1)
  clear qw1_0 qw1_1 qw1_2
  have qw1_0 := HXw1.out.now.cell 0
  have qw1_1 := HXw1.out.now.cell 1
  have qw1_2 := HXw1.out.now.cell 2
  simp only [List.getElem?_toArray, List.getElem?_cons_zero, List.getElem?_cons_succ] at qw1_0 qw1_1 qw1_2
  clear qg1_0 qg1_1 qg1_2
  have qg1_0 := HXg1.out.now.cell 0
  have qg1_1 := HXg1.out.now.cell 1
  have qg1_2 := HXg1.out.now.cell 2
  simp only [List.getElem?_toArray, List.getElem?_cons_zero, List.getElem?_cons_succ] at qg1_0 qg1_1 qg1_2
  have HZ13 := Lib.hid hb1.size
  replace hb := hb.trans (hb1.mono hb.size)
  clear hb1
  go_wp2_with fail
  refine (LRule.eqS _ _ z0 _ HC7.out.now.1.is HC13.out.now.1.is).mono ?_
  rintro e w14_ ⟨rfl, hb1⟩
  replace HA0 := Lib.hid (HA0.out.kept hb1)
  replace HA1 := Lib.hid (HA1.out.kept hb1)
  replace HR0_5 := Lib.hid (HR0_5.out.kept hb1)
  replace HXw1 := Lib.hid (HXw1.out.kept hb1)
  replace HC7 := Lib.hid (HC7.out.kept hb1)
  replace HC8 := Lib.hid (HC8.out.kept hb1)
  replace HR0_9 := Lib.hid (HR0_9.out.kept hb1)
  replace HXg1 := Lib.hid (HXg1.out.kept hb1)
  replace HC13 := Lib.hid (HC13.out.kept hb1)
  clear qw1_0 qw1_1 qw1_2
  have qw1_0 := HXw1.out.now.cell 0
  have qw1_1 := HXw1.out.now.cell 1
  have qw1_2 := HXw1.out.now.cell 2
  simp only [List.getElem?_toArray, List.getElem?_cons_zero, List.getElem?_cons_succ] at qw1_0 qw1_1 qw1_2
  clear qg1_0 qg1_1 qg1_2
  have qg1_0 := HXg1.out.now.cell 0
  have qg1_1 := HXg1.out.now.cell 1
  have qg1_2 := HXg1.out.now.cell 2
  simp only [List.getElem?_toArray, List.getElem?_cons_zero, List.getElem?_cons_succ] at qg1_0 qg1_1 qg1_2
  have HZ14 := Lib.hid hb1.size
  replace hb := hb.trans (hb1.mono hb.size)
  clear hb1
  go_wp2_with fail
  clear HC13
  refine (LQuestion.toS _ z1 _ HA1.out.now (by omega)).mono ?_
  rintro e w15_ ⟨u15, rfl, hnn15, ho, hb1⟩
  replace hnn15 := Lib.hid hnn15
  have HC15 := Lib.hid ho.loc
  clear ho
  replace HA0 := Lib.hid (HA0.out.kept hb1)
  replace HA1 := Lib.hid (HA1.out.kept hb1)
  replace HR0_5 := Lib.hid (HR0_5.out.kept hb1)
  replace HXw1 := Lib.hid (HXw1.out.kept hb1)
  replace HC7 := Lib.hid (HC7.out.kept hb1)
  replace HC8 := Lib.hid (HC8.out.kept hb1)
  replace HR0_9 := Lib.hid (HR0_9.out.kept hb1)
  replace HXg1 := Lib.hid (HXg1.out.kept hb1)
  clear qw1_0 qw1_1 qw1_2
  have qw1_0 := HXw1.out.now.cell 0
  have qw1_1 := HXw1.out.now.cell 1
  have qw1_2 := HXw1.out.now.cell 2
  simp only [List.getElem?_toArray, List.getElem?_cons_zero, List.getElem?_cons_succ] at qw1_0 qw1_1 qw1_2
  clear qg1_0 qg1_1 qg1_2
  have qg1_0 := HXg1.out.now.cell 0
  have qg1_1 := HXg1.out.now.cell 1
  have qg1_2 := HXg1.out.now.cell 2
  simp only [List.getElem?_toArray, List.getElem?_cons_zero, List.getElem?_cons_succ] at qg1_0 qg1_1 qg1_2
  have HZ15 := Lib.hid hb1.size
  replace hb := hb.trans (hb1.mono hb.size)
  clear hb1
  go_wp2_with fail
  refine (LQuestion.eqS _ _ z1 _ HC8.out.now.1.is HC15.out.now.1.is).mono ?_
  rintro e w16_ ⟨rfl, hb1⟩
  replace HA0 := Lib.hid (HA0.out.kept hb1)
  replace HA1 := Lib.hid (HA1.out.kept hb1)
  replace HR0_5 := Lib.hid (HR0_5.out.kept hb1)
  replace HXw1 := Lib.hid (HXw1.out.kept hb1)
  replace HC7 := Lib.hid (HC7.out.kept hb1)
  replace HC8 := Lib.hid (HC8.out.kept hb1)
  replace HR0_9 := Lib.hid (HR0_9.out.kept hb1)
  replace HXg1 := Lib.hid (HXg1.out.kept hb1)
  replace HC15 := Lib.hid (HC15.out.kept hb1)
  clear qw1_0 qw1_1 qw1_2
  have qw1_0 := HXw1.out.now.cell 0
  have qw1_1 := HXw1.out.now.cell 1
  have qw1_2 := HXw1.out.now.cell 2
  simp only [List.getElem?_toArray, List.getElem?_cons_zero, List.getElem?_cons_succ] at qw1_0 qw1_1 qw1_2
  clear qg1_0 qg1_1 qg1_2
  have qg1_0 := HXg1.out.now.cell 0
  have qg1_1 := HXg1.out.now.cell 1
  have qg1_2 := HXg1.out.now.cell 2
  simp only [List.getElem?_toArray, List.getElem?_cons_zero, List.getElem?_cons_succ] at qg1_0 qg1_1 qg1_2
  have HZ16 := Lib.hid hb1.size
  replace hb := hb.trans (hb1.mono hb.size)
  clear hb1
  go_wp2_with fail
  clear HC15
  refine (LRule.markS _ _ 1 _ z0 _ (by omega) (by omega) HC7.out.now).mono ?_
  rintro e w17_ ⟨rfl, ho, hap⟩
  replace HA0 := Lib.hid (HA0.out.apart hap (by have := HZ1.out; have := HZ2.out; have := HZ3.out; have := HZ4.out; have := HZ5.out; have := HZ6.out; have := HZ7.out; have := HZ8.out; have := HZ9.out; have := HZ10.out; have := HZ11.out; have := HZ12.out; have := HZ13.out; have := HZ14.out; have := HZ15.out; have := HZ16.out; omega))
  replace HA1 := Lib.hid (HA1.out.apart hap (by have := HZ1.out; have := HZ2.out; have := HZ3.out; have := HZ4.out; have := HZ5.out; have := HZ6.out; have := HZ7.out; have := HZ8.out; have := HZ9.out; have := HZ10.out; have := HZ11.out; have := HZ12.out; have := HZ13.out; have := HZ14.out; have := HZ15.out; have := HZ16.out; omega))
  replace HR0_5 := Lib.hid (HR0_5.out.apart hap (by have := HZ1.out; have := HZ2.out; have := HZ3.out; have := HZ4.out; have := HZ5.out; have := HZ6.out; have := HZ7.out; have := HZ8.out; have := HZ9.out; have := HZ10.out; have := HZ11.out; have := HZ12.out; have := HZ13.out; have := HZ14.out; have := HZ15.out; have := HZ16.out; omega))
  replace HXw1 := Lib.hid (HXw1.out.apart hap (by have := HZ1.out; have := HZ2.out; have := HZ3.out; have := HZ4.out; have := HZ5.out; have := HZ6.out; have := HZ7.out; have := HZ8.out; have := HZ9.out; have := HZ10.out; have := HZ11.out; have := HZ12.out; have := HZ13.out; have := HZ14.out; have := HZ15.out; have := HZ16.out; omega))
  replace HC8 := Lib.hid (HC8.out.apart hap (by have := HZ1.out; have := HZ2.out; have := HZ3.out; have := HZ4.out; have := HZ5.out; have := HZ6.out; have := HZ7.out; have := HZ8.out; have := HZ9.out; have := HZ10.out; have := HZ11.out; have := HZ12.out; have := HZ13.out; have := HZ14.out; have := HZ15.out; have := HZ16.out; omega))
  replace HR0_9 := Lib.hid (HR0_9.out.apart hap (by have := HZ1.out; have := HZ2.out; have := HZ3.out; have := HZ4.out; have := HZ5.out; have := HZ6.out; have := HZ7.out; have := HZ8.out; have := HZ9.out; have := HZ10.out; have := HZ11.out; have := HZ12.out; have := HZ13.out; have := HZ14.out; have := HZ15.out; have := HZ16.out; omega))
  replace HXg1 := Lib.hid (HXg1.out.apart hap (by have := HZ1.out; have := HZ2.out; have := HZ3.out; have := HZ4.out; have := HZ5.out; have := HZ6.out; have := HZ7.out; have := HZ8.out; have := HZ9.out; have := HZ10.out; have := HZ11.out; have := HZ12.out; have := HZ13.out; have := HZ14.out; have := HZ15.out; have := HZ16.out; omega))
  have hlow := hap.below (B' := w.heap.size) (by have := hb.size; have := HZ1.out; have := HZ2.out; have := HZ3.out; have := HZ4.out; have := HZ5.out; have := HZ6.out; have := HZ7.out; have := HZ8.out; have := HZ9.out; have := HZ10.out; have := HZ11.out; have := HZ12.out; have := HZ13.out; have := HZ14.out; have := HZ15.out; have := HZ16.out; omega) hb.size
  replace HC7 := Lib.hid (ho.loc (by have := hap.size; have := HZ1.out; have := HZ2.out; have := HZ3.out; have := HZ4.out; have := HZ5.out; have := HZ6.out; have := HZ7.out; have := HZ8.out; have := HZ9.out; have := HZ10.out; have := HZ11.out; have := HZ12.out; have := HZ13.out; have := HZ14.out; have := HZ15.out; have := HZ16.out; omega))
  have HZ17 := Lib.hid hap.size
  replace hb := hb.trans hlow
  clear ho hap hlow
  clear qw1_0 qw1_1 qw1_2
  have qw1_0 := HXw1.out.now.cell 0
  have qw1_1 := HXw1.out.now.cell 1
  have qw1_2 := HXw1.out.now.cell 2
  simp only [List.getElem?_toArray, List.getElem?_cons_zero, List.getElem?_cons_succ] at qw1_0 qw1_1 qw1_2
  clear qg1_0 qg1_1 qg1_2
  have qg1_0 := HXg1.out.now.cell 0
  have qg1_1 := HXg1.out.now.cell 1
  have qg1_2 := HXg1.out.now.cell 2
  simp only [List.getElem?_toArray, List.getElem?_cons_zero, List.getElem?_cons_succ] at qg1_0 qg1_1 qg1_2
  go_wp2_with fail
  refine (LQuestion.markS _ _ (1 + 7 * z0.length) _ z1 _ (by omega) (by omega) HC8.out.now).mono ?_
  rintro e w18_ ⟨rfl, ho, hap⟩
  replace HA0 := Lib.hid (HA0.out.apart hap (by have := HZ1.out; have := HZ2.out; have := HZ3.out; have := HZ4.out; have := HZ5.out; have := HZ6.out; have := HZ7.out; have := HZ8.out; have := HZ9.out; have := HZ10.out; have := HZ11.out; have := HZ12.out; have := HZ13.out; have := HZ14.out; have := HZ15.out; have := HZ16.out; have := HZ17.out; omega))
  replace HA1 := Lib.hid (HA1.out.apart hap (by have := HZ1.out; have := HZ2.out; have := HZ3.out; have := HZ4.out; have := HZ5.out; have := HZ6.out; have := HZ7.out; have := HZ8.out; have := HZ9.out; have := HZ10.out; have := HZ11.out; have := HZ12.out; have := HZ13.out; have := HZ14.out; have := HZ15.out; have := HZ16.out; have := HZ17.out; omega))
  replace HR0_5 := Lib.hid (HR0_5.out.apart hap (by have := HZ1.out; have := HZ2.out; have := HZ3.out; have := HZ4.out; have := HZ5.out; have := HZ6.out; have := HZ7.out; have := HZ8.out; have := HZ9.out; have := HZ10.out; have := HZ11.out; have := HZ12.out; have := HZ13.out; have := HZ14.out; have := HZ15.out; have := HZ16.out; have := HZ17.out; omega))
  replace HXw1 := Lib.hid (HXw1.out.apart hap (by have := HZ1.out; have := HZ2.out; have := HZ3.out; have := HZ4.out; have := HZ5.out; have := HZ6.out; have := HZ7.out; have := HZ8.out; have := HZ9.out; have := HZ10.out; have := HZ11.out; have := HZ12.out; have := HZ13.out; have := HZ14.out; have := HZ15.out; have := HZ16.out; have := HZ17.out; omega))
  replace HC7 := Lib.hid (HC7.out.apart hap (by have := HZ1.out; have := HZ2.out; have := HZ3.out; have := HZ4.out; have := HZ5.out; have := HZ6.out; have := HZ7.out; have := HZ8.out; have := HZ9.out; have := HZ10.out; have := HZ11.out; have := HZ12.out; have := HZ13.out; have := HZ14.out; have := HZ15.out; have := HZ16.out; have := HZ17.out; omega))
  replace HR0_9 := Lib.hid (HR0_9.out.apart hap (by have := HZ1.out; have := HZ2.out; have := HZ3.out; have := HZ4.out; have := HZ5.out; have := HZ6.out; have := HZ7.out; have := HZ8.out; have := HZ9.out; have := HZ10.out; have := HZ11.out; have := HZ12.out; have := HZ13.out; have := HZ14.out; have := HZ15.out; have := HZ16.out; have := HZ17.out; omega))
  replace HXg1 := Lib.hid (HXg1.out.apart hap (by have := HZ1.out; have := HZ2.out; have := HZ3.out; have := HZ4.out; have := HZ5.out; have := HZ6.out; have := HZ7.out; have := HZ8.out; have := HZ9.out; have := HZ10.out; have := HZ11.out; have := HZ12.out; have := HZ13.out; have := HZ14.out; have := HZ15.out; have := HZ16.out; have := HZ17.out; omega))
  have hlow := hap.below (B' := w.heap.size) (by have := hb.size; have := HZ1.out; have := HZ2.out; have := HZ3.out; have := HZ4.out; have := HZ5.out; have := HZ6.out; have := HZ7.out; have := HZ8.out; have := HZ9.out; have := HZ10.out; have := HZ11.out; have := HZ12.out; have := HZ13.out; have := HZ14.out; have := HZ15.out; have := HZ16.out; have := HZ17.out; omega) hb.size
  replace HC8 := Lib.hid (ho.loc (by have := hap.size; have := HZ1.out; have := HZ2.out; have := HZ3.out; have := HZ4.out; have := HZ5.out; have := HZ6.out; have := HZ7.out; have := HZ8.out; have := HZ9.out; have := HZ10.out; have := HZ11.out; have := HZ12.out; have := HZ13.out; have := HZ14.out; have := HZ15.out; have := HZ16.out; have := HZ17.out; omega))
  have HZ18 := Lib.hid hap.size
  replace hb := hb.trans hlow
  clear ho hap hlow
  clear qw1_0 qw1_1 qw1_2
  have qw1_0 := HXw1.out.now.cell 0
  have qw1_1 := HXw1.out.now.cell 1
  have qw1_2 := HXw1.out.now.cell 2
  simp only [List.getElem?_toArray, List.getElem?_cons_zero, List.getElem?_cons_succ] at qw1_0 qw1_1 qw1_2
  clear qg1_0 qg1_1 qg1_2
  have qg1_0 := HXg1.out.now.cell 0
  have qg1_1 := HXg1.out.now.cell 1
  have qg1_2 := HXg1.out.now.cell 2
  simp only [List.getElem?_toArray, List.getElem?_cons_zero, List.getElem?_cons_succ] at qg1_0 qg1_1 qg1_2
  go_wp2_with fail
  refine (LQuestion.eqS _ _ r0_5 _ HR0_9.out.now.1.is HR0_5.out.now.1.is).mono ?_
  rintro e w19_ ⟨rfl, hb1⟩
  replace HA0 := Lib.hid (HA0.out.kept hb1)
  replace HA1 := Lib.hid (HA1.out.kept hb1)
  replace HR0_5 := Lib.hid (HR0_5.out.kept hb1)
  replace HXw1 := Lib.hid (HXw1.out.kept hb1)
  replace HC7 := Lib.hid (HC7.out.kept hb1)
  replace HC8 := Lib.hid (HC8.out.kept hb1)
  replace HR0_9 := Lib.hid (HR0_9.out.kept hb1)
  replace HXg1 := Lib.hid (HXg1.out.kept hb1)
  clear qw1_0 qw1_1 qw1_2
  have qw1_0 := HXw1.out.now.cell 0
  have qw1_1 := HXw1.out.now.cell 1
  have qw1_2 := HXw1.out.now.cell 2
  simp only [List.getElem?_toArray, List.getElem?_cons_zero, List.getElem?_cons_succ] at qw1_0 qw1_1 qw1_2
  clear qg1_0 qg1_1 qg1_2
  have qg1_0 := HXg1.out.now.cell 0
  have qg1_1 := HXg1.out.now.cell 1
  have qg1_2 := HXg1.out.now.cell 2
  simp only [List.getElem?_toArray, List.getElem?_cons_zero, List.getElem?_cons_succ] at qg1_0 qg1_1 qg1_2
  have HZ19 := Lib.hid hb1.size
  replace hb := hb.trans (hb1.mono hb.size)
  clear hb1
  go_wp2_with fail
  refine (LQuestion.eq r1_5 _).mono ?_
  rintro e w20_ ⟨rfl, hb1⟩
  replace HA0 := Lib.hid (HA0.out.kept hb1)
  replace HA1 := Lib.hid (HA1.out.kept hb1)
  replace HR0_5 := Lib.hid (HR0_5.out.kept hb1)
  replace HXw1 := Lib.hid (HXw1.out.kept hb1)
  replace HC7 := Lib.hid (HC7.out.kept hb1)
  replace HC8 := Lib.hid (HC8.out.kept hb1)
  replace HR0_9 := Lib.hid (HR0_9.out.kept hb1)
  replace HXg1 := Lib.hid (HXg1.out.kept hb1)
  clear qw1_0 qw1_1 qw1_2
  have qw1_0 := HXw1.out.now.cell 0
  have qw1_1 := HXw1.out.now.cell 1
  have qw1_2 := HXw1.out.now.cell 2
  simp only [List.getElem?_toArray, List.getElem?_cons_zero, List.getElem?_cons_succ] at qw1_0 qw1_1 qw1_2
  clear qg1_0 qg1_1 qg1_2
  have qg1_0 := HXg1.out.now.cell 0
  have qg1_1 := HXg1.out.now.cell 1
  have qg1_2 := HXg1.out.now.cell 2
  simp only [List.getElem?_toArray, List.getElem?_cons_zero, List.getElem?_cons_succ] at qg1_0 qg1_1 qg1_2
  have HZ20 := Lib.hid hb1.size
  replace hb := hb.trans (hb1.mono hb.size)
  clear hb1
  go_wp2_with fail
  refine (LQuestion.markS _ _ 1 _ r0_5 _ (by omega) (by omega) HR0_9.out.now).mono ?_
  rintro e w21_ ⟨rfl, ho, hap⟩
  replace HA0 := Lib.hid (HA0.out.apart hap (by have := HZ1.out; have := HZ2.out; have := HZ3.out; have := HZ4.out; have := HZ5.out; have := HZ6.out; have := HZ7.out; have := HZ8.out; have := HZ9.out; have := HZ10.out; have := HZ11.out; have := HZ12.out; have := HZ13.out; have := HZ14.out; have := HZ15.out; have := HZ16.out; have := HZ17.out; have := HZ18.out; have := HZ19.out; have := HZ20.out; omega))
  replace HA1 := Lib.hid (HA1.out.apart hap (by have := HZ1.out; have := HZ2.out; have := HZ3.out; have := HZ4.out; have := HZ5.out; have := HZ6.out; have := HZ7.out; have := HZ8.out; have := HZ9.out; have := HZ10.out; have := HZ11.out; have := HZ12.out; have := HZ13.out; have := HZ14.out; have := HZ15.out; have := HZ16.out; have := HZ17.out; have := HZ18.out; have := HZ19.out; have := HZ20.out; omega))
  replace HR0_5 := Lib.hid (HR0_5.out.apart hap (by have := HZ1.out; have := HZ2.out; have := HZ3.out; have := HZ4.out; have := HZ5.out; have := HZ6.out; have := HZ7.out; have := HZ8.out; have := HZ9.out; have := HZ10.out; have := HZ11.out; have := HZ12.out; have := HZ13.out; have := HZ14.out; have := HZ15.out; have := HZ16.out; have := HZ17.out; have := HZ18.out; have := HZ19.out; have := HZ20.out; omega))
  replace HXw1 := Lib.hid (HXw1.out.apart hap (by have := HZ1.out; have := HZ2.out; have := HZ3.out; have := HZ4.out; have := HZ5.out; have := HZ6.out; have := HZ7.out; have := HZ8.out; have := HZ9.out; have := HZ10.out; have := HZ11.out; have := HZ12.out; have := HZ13.out; have := HZ14.out; have := HZ15.out; have := HZ16.out; have := HZ17.out; have := HZ18.out; have := HZ19.out; have := HZ20.out; omega))
  replace HC7 := Lib.hid (HC7.out.apart hap (by have := HZ1.out; have := HZ2.out; have := HZ3.out; have := HZ4.out; have := HZ5.out; have := HZ6.out; have := HZ7.out; have := HZ8.out; have := HZ9.out; have := HZ10.out; have := HZ11.out; have := HZ12.out; have := HZ13.out; have := HZ14.out; have := HZ15.out; have := HZ16.out; have := HZ17.out; have := HZ18.out; have := HZ19.out; have := HZ20.out; omega))
  replace HC8 := Lib.hid (HC8.out.apart hap (by have := HZ1.out; have := HZ2.out; have := HZ3.out; have := HZ4.out; have := HZ5.out; have := HZ6.out; have := HZ7.out; have := HZ8.out; have := HZ9.out; have := HZ10.out; have := HZ11.out; have := HZ12.out; have := HZ13.out; have := HZ14.out; have := HZ15.out; have := HZ16.out; have := HZ17.out; have := HZ18.out; have := HZ19.out; have := HZ20.out; omega))
  replace HXg1 := Lib.hid (HXg1.out.apart hap (by have := HZ1.out; have := HZ2.out; have := HZ3.out; have := HZ4.out; have := HZ5.out; have := HZ6.out; have := HZ7.out; have := HZ8.out; have := HZ9.out; have := HZ10.out; have := HZ11.out; have := HZ12.out; have := HZ13.out; have := HZ14.out; have := HZ15.out; have := HZ16.out; have := HZ17.out; have := HZ18.out; have := HZ19.out; have := HZ20.out; omega))
  have hlow := hap.below (B' := w.heap.size) (by have := hb.size; have := HZ1.out; have := HZ2.out; have := HZ3.out; have := HZ4.out; have := HZ5.out; have := HZ6.out; have := HZ7.out; have := HZ8.out; have := HZ9.out; have := HZ10.out; have := HZ11.out; have := HZ12.out; have := HZ13.out; have := HZ14.out; have := HZ15.out; have := HZ16.out; have := HZ17.out; have := HZ18.out; have := HZ19.out; have := HZ20.out; omega) hb.size
  replace HR0_9 := Lib.hid (ho.loc (by have := hap.size; have := HZ1.out; have := HZ2.out; have := HZ3.out; have := HZ4.out; have := HZ5.out; have := HZ6.out; have := HZ7.out; have := HZ8.out; have := HZ9.out; have := HZ10.out; have := HZ11.out; have := HZ12.out; have := HZ13.out; have := HZ14.out; have := HZ15.out; have := HZ16.out; have := HZ17.out; have := HZ18.out; have := HZ19.out; have := HZ20.out; omega))
  have HZ21 := Lib.hid hap.size
  replace hb := hb.trans hlow
  clear ho hap hlow
  clear qw1_0 qw1_1 qw1_2
  have qw1_0 := HXw1.out.now.cell 0
  have qw1_1 := HXw1.out.now.cell 1
  have qw1_2 := HXw1.out.now.cell 2
  simp only [List.getElem?_toArray, List.getElem?_cons_zero, List.getElem?_cons_succ] at qw1_0 qw1_1 qw1_2
  clear qg1_0 qg1_1 qg1_2
  have qg1_0 := HXg1.out.now.cell 0
  have qg1_1 := HXg1.out.now.cell 1
  have qg1_2 := HXg1.out.now.cell 2
  simp only [List.getElem?_toArray, List.getElem?_cons_zero, List.getElem?_cons_succ] at qg1_0 qg1_1 qg1_2
  go_wp2_with fail
  refine (LQuestion.heldS _ 1 _ r0_5 _ (by omega) (by omega) HR0_9.out.now.1).mono ?_
  rintro e w22_ ⟨rfl, hb1⟩
  replace HA0 := Lib.hid (HA0.out.kept hb1)
  replace HA1 := Lib.hid (HA1.out.kept hb1)
  replace HR0_5 := Lib.hid (HR0_5.out.kept hb1)
  replace HXw1 := Lib.hid (HXw1.out.kept hb1)
  replace HC7 := Lib.hid (HC7.out.kept hb1)
  replace HC8 := Lib.hid (HC8.out.kept hb1)
  replace HR0_9 := Lib.hid (HR0_9.out.kept hb1)
  replace HXg1 := Lib.hid (HXg1.out.kept hb1)
  clear qw1_0 qw1_1 qw1_2
  have qw1_0 := HXw1.out.now.cell 0
  have qw1_1 := HXw1.out.now.cell 1
  have qw1_2 := HXw1.out.now.cell 2
  simp only [List.getElem?_toArray, List.getElem?_cons_zero, List.getElem?_cons_succ] at qw1_0 qw1_1 qw1_2
  clear qg1_0 qg1_1 qg1_2
  have qg1_0 := HXg1.out.now.cell 0
  have qg1_1 := HXg1.out.now.cell 1
  have qg1_2 := HXg1.out.now.cell 2
  simp only [List.getElem?_toArray, List.getElem?_cons_zero, List.getElem?_cons_succ] at qg1_0 qg1_1 qg1_2
  have HZ22 := Lib.hid hb1.size
  replace hb := hb.trans (hb1.mono hb.size)
  clear hb1
  go_wp2_with fail
  refine (LRule.toS _ z0 _ HA0.out.now (by omega)).mono ?_
  rintro e w23_ ⟨u23, rfl, hnn23, ho, hb1⟩
  replace hnn23 := Lib.hid hnn23
  have HC23 := Lib.hid ho.loc
  clear ho
  replace HA0 := Lib.hid (HA0.out.kept hb1)
  replace HA1 := Lib.hid (HA1.out.kept hb1)
  replace HR0_5 := Lib.hid (HR0_5.out.kept hb1)
  replace HXw1 := Lib.hid (HXw1.out.kept hb1)
  replace HC7 := Lib.hid (HC7.out.kept hb1)
  replace HC8 := Lib.hid (HC8.out.kept hb1)
  replace HR0_9 := Lib.hid (HR0_9.out.kept hb1)
  replace HXg1 := Lib.hid (HXg1.out.kept hb1)
  clear qw1_0 qw1_1 qw1_2
  have qw1_0 := HXw1.out.now.cell 0
  have qw1_1 := HXw1.out.now.cell 1
  have qw1_2 := HXw1.out.now.cell 2
  simp only [List.getElem?_toArray, List.getElem?_cons_zero, List.getElem?_cons_succ] at qw1_0 qw1_1 qw1_2
  clear qg1_0 qg1_1 qg1_2
  have qg1_0 := HXg1.out.now.cell 0
  have qg1_1 := HXg1.out.now.cell 1
  have qg1_2 := HXg1.out.now.cell 2
  simp only [List.getElem?_toArray, List.getElem?_cons_zero, List.getElem?_cons_succ] at qg1_0 qg1_1 qg1_2
  have HZ23 := Lib.hid hb1.size
  replace hb := hb.trans (hb1.mono hb.size)
  clear hb1
  go_wp2_with fail
  refine (LQuestion.toS _ z1 _ HA1.out.now (by omega)).mono ?_
  rintro e w24_ ⟨u24, rfl, hnn24, ho, hb1⟩
  replace hnn24 := Lib.hid hnn24
  have HC24 := Lib.hid ho.loc
  clear ho
  replace HA0 := Lib.hid (HA0.out.kept hb1)
  replace HA1 := Lib.hid (HA1.out.kept hb1)
  replace HR0_5 := Lib.hid (HR0_5.out.kept hb1)
  replace HXw1 := Lib.hid (HXw1.out.kept hb1)
  replace HC7 := Lib.hid (HC7.out.kept hb1)
  replace HC8 := Lib.hid (HC8.out.kept hb1)
  replace HR0_9 := Lib.hid (HR0_9.out.kept hb1)
  replace HXg1 := Lib.hid (HXg1.out.kept hb1)
  replace HC23 := Lib.hid (HC23.out.kept hb1)
  clear qw1_0 qw1_1 qw1_2
  have qw1_0 := HXw1.out.now.cell 0
  have qw1_1 := HXw1.out.now.cell 1
  have qw1_2 := HXw1.out.now.cell 2
  simp only [List.getElem?_toArray, List.getElem?_cons_zero, List.getElem?_cons_succ] at qw1_0 qw1_1 qw1_2
  clear qg1_0 qg1_1 qg1_2
  have qg1_0 := HXg1.out.now.cell 0
  have qg1_1 := HXg1.out.now.cell 1
  have qg1_2 := HXg1.out.now.cell 2
  simp only [List.getElem?_toArray, List.getElem?_cons_zero, List.getElem?_cons_succ] at qg1_0 qg1_1 qg1_2
  have HZ24 := Lib.hid hb1.size
  replace hb := hb.trans (hb1.mono hb.size)
  clear hb1
  go_wp2_with fail
  refine (DisposeQuestionC.impl _ z0 _ z1 _ (HC23.out.now.1.isS hnn23.out) HF0.out (by omega) (HC24.out.now.1.isS hnn24.out) HF1.out (by omega)).mono ?_
  rintro e w25_ ⟨v0_25, r0_25, r1_25, r2_25, rfl, hans, ho0, hb1⟩
  obtain ⟨rfl, rfl, rfl⟩ := DisposeQuestionC.same HS.out hans
  clear hans
  have HR0_25 := Lib.hid ho0.loc
  clear ho0
  replace HA0 := Lib.hid (HA0.out.kept hb1)
  replace HA1 := Lib.hid (HA1.out.kept hb1)
  replace HR0_5 := Lib.hid (HR0_5.out.kept hb1)
  replace HXw1 := Lib.hid (HXw1.out.kept hb1)
  replace HC7 := Lib.hid (HC7.out.kept hb1)
  replace HC8 := Lib.hid (HC8.out.kept hb1)
  replace HR0_9 := Lib.hid (HR0_9.out.kept hb1)
  replace HXg1 := Lib.hid (HXg1.out.kept hb1)
  replace HC23 := Lib.hid (HC23.out.kept hb1)
  replace HC24 := Lib.hid (HC24.out.kept hb1)
  clear qw1_0 qw1_1 qw1_2
  have qw1_0 := HXw1.out.now.cell 0
  have qw1_1 := HXw1.out.now.cell 1
  have qw1_2 := HXw1.out.now.cell 2
  simp only [List.getElem?_toArray, List.getElem?_cons_zero, List.getElem?_cons_succ] at qw1_0 qw1_1 qw1_2
  clear qg1_0 qg1_1 qg1_2
  have qg1_0 := HXg1.out.now.cell 0
  have qg1_1 := HXg1.out.now.cell 1
  have qg1_2 := HXg1.out.now.cell 2
  simp only [List.getElem?_toArray, List.getElem?_cons_zero, List.getElem?_cons_succ] at qg1_0 qg1_1 qg1_2
  have HZ25 := Lib.hid hb1.size
  replace hb := hb.trans (hb1.mono hb.size)
  clear hb1
  clear HC23
  clear HC24
  have ow1_0 := qw1_0
  have ow1_1 := qw1_1
  have ow1_2 := qw1_2
  have olw1 := HXw1.out.le
  have og1_0 := qg1_0
  have og1_1 := qg1_1
  have og1_2 := qg1_2
  have olg1 := HXg1.out.le
  have hbx := (Below.refl w25_.heap.size w25_).alloc (Nat.le_refl _) (Obj.cells #[.int .i64 r1_5.rule, .int .i64 r1_5.mover, .bool r1_5.sec] 47)
  replace HA0 := Lib.hid (HA0.out.kept hbx)
  replace HA1 := Lib.hid (HA1.out.kept hbx)
  replace HR0_5 := Lib.hid (HR0_5.out.kept hbx)
  replace HXw1 := Lib.hid (HXw1.out.kept hbx)
  replace HC7 := Lib.hid (HC7.out.kept hbx)
  replace HC8 := Lib.hid (HC8.out.kept hbx)
  replace HR0_9 := Lib.hid (HR0_9.out.kept hbx)
  replace HXg1 := Lib.hid (HXg1.out.kept hbx)
  replace HR0_25 := Lib.hid (HR0_25.out.kept hbx)
  have HXh1 := Lib.hid (Bx.loc (Bx.new w25_ 47 #[.int .i64 r1_5.rule, .int .i64 r1_5.mover, .bool r1_5.sec]))
  have HZ26 := Lib.hid (show w25_.heap.size + 1 ≤ (w25_.alloc (Obj.cells #[.int .i64 r1_5.rule, .int .i64 r1_5.mover, .bool r1_5.sec] 47)).heap.size by simp)
  replace hb := hb.trans (hbx.mono hb.size)
  clear hbx
  clear qw1_0 qw1_1 qw1_2
  have qw1_0 := HXw1.out.now.cell 0
  have qw1_1 := HXw1.out.now.cell 1
  have qw1_2 := HXw1.out.now.cell 2
  simp only [List.getElem?_toArray, List.getElem?_cons_zero, List.getElem?_cons_succ] at qw1_0 qw1_1 qw1_2
  clear qg1_0 qg1_1 qg1_2
  have qg1_0 := HXg1.out.now.cell 0
  have qg1_1 := HXg1.out.now.cell 1
  have qg1_2 := HXg1.out.now.cell 2
  simp only [List.getElem?_toArray, List.getElem?_cons_zero, List.getElem?_cons_succ] at qg1_0 qg1_1 qg1_2
  have qh1_0 := HXh1.out.now.cell 0
  have qh1_1 := HXh1.out.now.cell 1
  have qh1_2 := HXh1.out.now.cell 2
  simp only [List.getElem?_toArray, List.getElem?_cons_zero, List.getElem?_cons_succ] at qh1_0 qh1_1 qh1_2
  go_wp2_with fail
  clear ow1_0 ow1_1 ow1_2 olw1 og1_0 og1_1 og1_2 olg1
  generalize w25_.alloc (Obj.cells #[.int .i64 r1_5.rule, .int .i64 r1_5.mover, .bool r1_5.sec] 47) = w26_ at *
  refine (LQuestion.eqS _ _ r0_5 _ HR0_25.out.now.1.is HR0_5.out.now.1.is).mono ?_
  rintro e w27_ ⟨rfl, hb1⟩
  replace HA0 := Lib.hid (HA0.out.kept hb1)
  replace HA1 := Lib.hid (HA1.out.kept hb1)
  replace HR0_5 := Lib.hid (HR0_5.out.kept hb1)
  replace HXw1 := Lib.hid (HXw1.out.kept hb1)
  replace HC7 := Lib.hid (HC7.out.kept hb1)
  replace HC8 := Lib.hid (HC8.out.kept hb1)
  replace HR0_9 := Lib.hid (HR0_9.out.kept hb1)
  replace HXg1 := Lib.hid (HXg1.out.kept hb1)
  replace HR0_25 := Lib.hid (HR0_25.out.kept hb1)
  replace HXh1 := Lib.hid (HXh1.out.kept hb1)
  clear qw1_0 qw1_1 qw1_2
  have qw1_0 := HXw1.out.now.cell 0
  have qw1_1 := HXw1.out.now.cell 1
  have qw1_2 := HXw1.out.now.cell 2
  simp only [List.getElem?_toArray, List.getElem?_cons_zero, List.getElem?_cons_succ] at qw1_0 qw1_1 qw1_2
  clear qg1_0 qg1_1 qg1_2
  have qg1_0 := HXg1.out.now.cell 0
  have qg1_1 := HXg1.out.now.cell 1
  have qg1_2 := HXg1.out.now.cell 2
  simp only [List.getElem?_toArray, List.getElem?_cons_zero, List.getElem?_cons_succ] at qg1_0 qg1_1 qg1_2
  clear qh1_0 qh1_1 qh1_2
  have qh1_0 := HXh1.out.now.cell 0
  have qh1_1 := HXh1.out.now.cell 1
  have qh1_2 := HXh1.out.now.cell 2
  simp only [List.getElem?_toArray, List.getElem?_cons_zero, List.getElem?_cons_succ] at qh1_0 qh1_1 qh1_2
  have HZ27 := Lib.hid hb1.size
  replace hb := hb.trans (hb1.mono hb.size)
  clear hb1
  go_wp2_with fail
  refine (LQuestion.eq r1_5 _).mono ?_
  rintro e w28_ ⟨rfl, hb1⟩
  replace HA0 := Lib.hid (HA0.out.kept hb1)
  replace HA1 := Lib.hid (HA1.out.kept hb1)
  replace HR0_5 := Lib.hid (HR0_5.out.kept hb1)
  replace HXw1 := Lib.hid (HXw1.out.kept hb1)
  replace HC7 := Lib.hid (HC7.out.kept hb1)
  replace HC8 := Lib.hid (HC8.out.kept hb1)
  replace HR0_9 := Lib.hid (HR0_9.out.kept hb1)
  replace HXg1 := Lib.hid (HXg1.out.kept hb1)
  replace HR0_25 := Lib.hid (HR0_25.out.kept hb1)
  replace HXh1 := Lib.hid (HXh1.out.kept hb1)
  clear qw1_0 qw1_1 qw1_2
  have qw1_0 := HXw1.out.now.cell 0
  have qw1_1 := HXw1.out.now.cell 1
  have qw1_2 := HXw1.out.now.cell 2
  simp only [List.getElem?_toArray, List.getElem?_cons_zero, List.getElem?_cons_succ] at qw1_0 qw1_1 qw1_2
  clear qg1_0 qg1_1 qg1_2
  have qg1_0 := HXg1.out.now.cell 0
  have qg1_1 := HXg1.out.now.cell 1
  have qg1_2 := HXg1.out.now.cell 2
  simp only [List.getElem?_toArray, List.getElem?_cons_zero, List.getElem?_cons_succ] at qg1_0 qg1_1 qg1_2
  clear qh1_0 qh1_1 qh1_2
  have qh1_0 := HXh1.out.now.cell 0
  have qh1_1 := HXh1.out.now.cell 1
  have qh1_2 := HXh1.out.now.cell 2
  simp only [List.getElem?_toArray, List.getElem?_cons_zero, List.getElem?_cons_succ] at qh1_0 qh1_1 qh1_2
  have HZ28 := Lib.hid hb1.size
  replace hb := hb.trans (hb1.mono hb.size)
  clear hb1
  go_wp2_with fail
  refine (LQuestion.heldS _ 1 _ r0_5 _ (by omega) (by omega) HR0_9.out.now.1).mono ?_
  rintro e w29_ ⟨rfl, hb1⟩
  replace HA0 := Lib.hid (HA0.out.kept hb1)
  replace HA1 := Lib.hid (HA1.out.kept hb1)
  replace HR0_5 := Lib.hid (HR0_5.out.kept hb1)
  replace HXw1 := Lib.hid (HXw1.out.kept hb1)
  replace HC7 := Lib.hid (HC7.out.kept hb1)
  replace HC8 := Lib.hid (HC8.out.kept hb1)
  replace HR0_9 := Lib.hid (HR0_9.out.kept hb1)
  replace HXg1 := Lib.hid (HXg1.out.kept hb1)
  replace HR0_25 := Lib.hid (HR0_25.out.kept hb1)
  replace HXh1 := Lib.hid (HXh1.out.kept hb1)
  clear qw1_0 qw1_1 qw1_2
  have qw1_0 := HXw1.out.now.cell 0
  have qw1_1 := HXw1.out.now.cell 1
  have qw1_2 := HXw1.out.now.cell 2
  simp only [List.getElem?_toArray, List.getElem?_cons_zero, List.getElem?_cons_succ] at qw1_0 qw1_1 qw1_2
  clear qg1_0 qg1_1 qg1_2
  have qg1_0 := HXg1.out.now.cell 0
  have qg1_1 := HXg1.out.now.cell 1
  have qg1_2 := HXg1.out.now.cell 2
  simp only [List.getElem?_toArray, List.getElem?_cons_zero, List.getElem?_cons_succ] at qg1_0 qg1_1 qg1_2
  clear qh1_0 qh1_1 qh1_2
  have qh1_0 := HXh1.out.now.cell 0
  have qh1_1 := HXh1.out.now.cell 1
  have qh1_2 := HXh1.out.now.cell 2
  simp only [List.getElem?_toArray, List.getElem?_cons_zero, List.getElem?_cons_succ] at qh1_0 qh1_1 qh1_2
  have HZ29 := Lib.hid hb1.size
  replace hb := hb.trans (hb1.mono hb.size)
  clear hb1
  go_wp2_with fail
  go_ret
  exact ⟨rfl, hb⟩
end Go.Proofs.Ytbaflfbidgolfaa.fnExactDisposeQuestion
