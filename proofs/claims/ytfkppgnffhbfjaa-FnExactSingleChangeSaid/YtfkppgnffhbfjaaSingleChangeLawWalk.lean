/- FnExactSingleChange: the law's walk, for every slice, every slice. -/
import Derived.Test.YtfkppgnffhbfjaaLAmendmentE
import Derived.Test.YtfkppgnffhbfjaaLAmendmentM
import Derived.Test.YtfkppgnffhbfjaaLStringE
import Derived.Test.YtfkppgnffhbfjaaLStringM
import Derived.Test.YtfkppgnffhbfjaaLStringO
import Derived.Test.YtfkppgnffhbfjaaLStringT
import Derived.Test.YtfkppgnffhbfjaaLStringZ
import Derived.Test.YtfkppgnffhbfjaaLStringZs
import Derived.Test.YtfkppgnffhbfjaaSingleChangeC
namespace Go.Proofs.Ytfkppgnffhbfjaa.fnExactSingleChange
open Go.RowKit Bs
set_option linter.unusedVariables false
set_option maxRecDepth 100000 in
set_option maxHeartbeats 12800000 in
theorem walk (a0 : Option Addr) (len0 cap0 : Nat) (z0 : List ByteArray) (a1 : Option Addr) (len1 cap1 : Nat) (z1 : List ByteArray) (w : World) (sh : w.ShapedOpen Try.prog) (w0 : LString.IsIn w a0 len0 cap0 z0) (w1 : LString.IsIn w a1 len1 cap1 z1) :
    Calls Try.prog 10 #[.slice a0 len0 cap0, .slice a1 len1 cap1] w fun e w' => e = .returned (.bool true) ∧ Below w.heap.size w w' := by
  have HA0 := Lib.hid (LString.IsIn.is w0).loc
  have HF0 := Lib.hid (show ∀ x ∈ z0, LString.Fine x from fun x hx => LString.fine_of (w0.2.2 x hx))
  have HL0 := Lib.hid w0.1
  have HA1 := Lib.hid (LString.IsIn.is w1).loc
  have HF1 := Lib.hid (show ∀ x ∈ z1, LString.Fine x from fun x hx => LString.fine_of (w1.2.2 x hx))
  have HL1 := Lib.hid w1.1
  clear sh w0 w1
  go_enter Try.func10, Try.ntmps10
  go_wp2_with fail
  refine (LString.szS _ z0 _ _ (by omega) (by omega) HA0.out.now HF0.out).mono ?_
  rintro e w1_ ⟨hb1, x, rfl, ⟨hx0, hxl⟩ | ⟨rfl, hxl⟩⟩
  · clear hxl
    go_wp2_with fail
    go_ret
    exact ⟨rfl, hb1⟩
  have hbud0 := hxl
  clear hxl
  replace HA0 := Lib.hid (HA0.out.kept hb1)
  replace HA1 := Lib.hid (HA1.out.kept hb1)
  have HZ1 := Lib.hid hb1.size
  have hb := hb1
  clear hb1
  go_wp2_with fail
  refine (LString.szS _ z1 _ _ (by omega) (by omega) HA1.out.now HF1.out).mono ?_
  rintro e w2_ ⟨hb1, x, rfl, ⟨hx0, hxl⟩ | ⟨rfl, hxl⟩⟩
  · clear hxl
    go_wp2_with fail
    go_ret
    exact ⟨rfl, hb.trans (hb1.mono hb.size)⟩
  have hbud1 := hxl
  clear hxl
  replace HA0 := Lib.hid (HA0.out.kept hb1)
  replace HA1 := Lib.hid (HA1.out.kept hb1)
  have HZ2 := Lib.hid hb1.size
  replace hb := hb.trans (hb1.mono hb.size)
  clear hb1
  go_wp2_with fail
  refine (LString.toS _ z0 _ HA0.out.now (by omega)).mono ?_
  rintro e w3_ ⟨u3, rfl, hnn3, ho, hb1⟩
  replace hnn3 := Lib.hid hnn3
  have HC3 := Lib.hid ho.loc
  clear ho
  replace HA0 := Lib.hid (HA0.out.kept hb1)
  replace HA1 := Lib.hid (HA1.out.kept hb1)
  have HZ3 := Lib.hid hb1.size
  replace hb := hb.trans (hb1.mono hb.size)
  clear hb1
  go_wp2_with fail
  refine (LString.toS _ z1 _ HA1.out.now (by omega)).mono ?_
  rintro e w4_ ⟨u4, rfl, hnn4, ho, hb1⟩
  replace hnn4 := Lib.hid hnn4
  have HC4 := Lib.hid ho.loc
  clear ho
  replace HA0 := Lib.hid (HA0.out.kept hb1)
  replace HA1 := Lib.hid (HA1.out.kept hb1)
  replace HC3 := Lib.hid (HC3.out.kept hb1)
  have HZ4 := Lib.hid hb1.size
  replace hb := hb.trans (hb1.mono hb.size)
  clear hb1
  go_wp2_with fail
  refine (SingleChangeC.spec _ z0 _ z1 _ (HC3.out.now.1.isS hnn3.out) HF0.out (by omega) (HC4.out.now.1.isS hnn4.out) HF1.out (by omega)).mono ?_
  rintro e w5_ ⟨v0_5, r0_5, r1_5, rfl, hans, ho0, hb1⟩
  have HS := Lib.hid hans
  have hlen0_3 := SingleChangeC.len0 hans
  clear hans
  obtain ⟨fa0_5_3, fn0_5_3, fc0_5_3, rfl⟩ := ho0.form
  have HR0_5 := Lib.hid ho0.loc
  clear ho0
  replace HA0 := Lib.hid (HA0.out.kept hb1)
  replace HA1 := Lib.hid (HA1.out.kept hb1)
  replace HC3 := Lib.hid (HC3.out.kept hb1)
  replace HC4 := Lib.hid (HC4.out.kept hb1)
  have HZ5 := Lib.hid hb1.size
  replace hb := hb.trans (hb1.mono hb.size)
  clear hb1
  clear HC3
  clear HC4
  have hne1 : (r1_5 != r1_5) = false := by simp
  have hbx := (Below.refl w5_.heap.size w5_).alloc (Nat.le_refl _) (Obj.cells #[.int .i64 r0_5.kind, .int .i64 r0_5.pos, .int .i64 r0_5.count, .slice fa0_5_3 fn0_5_3 fc0_5_3] 31)
  replace HA0 := Lib.hid (HA0.out.kept hbx)
  replace HA1 := Lib.hid (HA1.out.kept hbx)
  replace HR0_5 := Lib.hid (HR0_5.out.kept hbx)
  have HXw0 := Lib.hid (Bx.loc (Bx.new w5_ 31 #[.int .i64 r0_5.kind, .int .i64 r0_5.pos, .int .i64 r0_5.count, .slice fa0_5_3 fn0_5_3 fc0_5_3]))
  have HZ6 := Lib.hid (show w5_.heap.size + 1 ≤ (w5_.alloc (Obj.cells #[.int .i64 r0_5.kind, .int .i64 r0_5.pos, .int .i64 r0_5.count, .slice fa0_5_3 fn0_5_3 fc0_5_3] 31)).heap.size by simp)
  replace hb := hb.trans (hbx.mono hb.size)
  clear hbx
  have qw0_0 := HXw0.out.now.cell 0
  have qw0_1 := HXw0.out.now.cell 1
  have qw0_2 := HXw0.out.now.cell 2
  have qw0_3 := HXw0.out.now.cell 3
  simp only [List.getElem?_toArray, List.getElem?_cons_zero, List.getElem?_cons_succ] at qw0_0 qw0_1 qw0_2 qw0_3
  go_wp2_with fail
  generalize w5_.alloc (Obj.cells #[.int .i64 r0_5.kind, .int .i64 r0_5.pos, .int .i64 r0_5.count, .slice fa0_5_3 fn0_5_3 fc0_5_3] 31) = w6_ at *
  refine (LString.toS _ z0 _ HA0.out.now (by omega)).mono ?_
  rintro e w7_ ⟨u7, rfl, hnn7, ho, hb1⟩
  replace hnn7 := Lib.hid hnn7
  have HC7 := Lib.hid ho.loc
  clear ho
  replace HA0 := Lib.hid (HA0.out.kept hb1)
  replace HA1 := Lib.hid (HA1.out.kept hb1)
  replace HR0_5 := Lib.hid (HR0_5.out.kept hb1)
  replace HXw0 := Lib.hid (HXw0.out.kept hb1)
  clear qw0_0 qw0_1 qw0_2 qw0_3
  have qw0_0 := HXw0.out.now.cell 0
  have qw0_1 := HXw0.out.now.cell 1
  have qw0_2 := HXw0.out.now.cell 2
  have qw0_3 := HXw0.out.now.cell 3
  simp only [List.getElem?_toArray, List.getElem?_cons_zero, List.getElem?_cons_succ] at qw0_0 qw0_1 qw0_2 qw0_3
  have HZ7 := Lib.hid hb1.size
  replace hb := hb.trans (hb1.mono hb.size)
  clear hb1
  go_wp2_with fail
  refine (LString.toS _ z1 _ HA1.out.now (by omega)).mono ?_
  rintro e w8_ ⟨u8, rfl, hnn8, ho, hb1⟩
  replace hnn8 := Lib.hid hnn8
  have HC8 := Lib.hid ho.loc
  clear ho
  replace HA0 := Lib.hid (HA0.out.kept hb1)
  replace HA1 := Lib.hid (HA1.out.kept hb1)
  replace HR0_5 := Lib.hid (HR0_5.out.kept hb1)
  replace HXw0 := Lib.hid (HXw0.out.kept hb1)
  replace HC7 := Lib.hid (HC7.out.kept hb1)
  clear qw0_0 qw0_1 qw0_2 qw0_3
  have qw0_0 := HXw0.out.now.cell 0
  have qw0_1 := HXw0.out.now.cell 1
  have qw0_2 := HXw0.out.now.cell 2
  have qw0_3 := HXw0.out.now.cell 3
  simp only [List.getElem?_toArray, List.getElem?_cons_zero, List.getElem?_cons_succ] at qw0_0 qw0_1 qw0_2 qw0_3
  have HZ8 := Lib.hid hb1.size
  replace hb := hb.trans (hb1.mono hb.size)
  clear hb1
  go_wp2_with fail
  refine (SingleChangeC.impl _ z0 _ z1 _ (HC7.out.now.1.isS hnn7.out) HF0.out (by omega) (HC8.out.now.1.isS hnn8.out) HF1.out (by omega)).mono ?_
  rintro e w9_ ⟨v0_9, r0_9, r1_9, rfl, hans, ho0, hb1⟩
  obtain ⟨rfl, rfl⟩ := SingleChangeC.same HS.out hans
  clear hans
  obtain ⟨fa0_9_3, fn0_9_3, fc0_9_3, rfl⟩ := ho0.form
  have HR0_9 := Lib.hid ho0.loc
  clear ho0
  replace HA0 := Lib.hid (HA0.out.kept hb1)
  replace HA1 := Lib.hid (HA1.out.kept hb1)
  replace HR0_5 := Lib.hid (HR0_5.out.kept hb1)
  replace HXw0 := Lib.hid (HXw0.out.kept hb1)
  replace HC7 := Lib.hid (HC7.out.kept hb1)
  replace HC8 := Lib.hid (HC8.out.kept hb1)
  clear qw0_0 qw0_1 qw0_2 qw0_3
  have qw0_0 := HXw0.out.now.cell 0
  have qw0_1 := HXw0.out.now.cell 1
  have qw0_2 := HXw0.out.now.cell 2
  have qw0_3 := HXw0.out.now.cell 3
  simp only [List.getElem?_toArray, List.getElem?_cons_zero, List.getElem?_cons_succ] at qw0_0 qw0_1 qw0_2 qw0_3
  have HZ9 := Lib.hid hb1.size
  replace hb := hb.trans (hb1.mono hb.size)
  clear hb1
  have ow0_0 := qw0_0
  have ow0_1 := qw0_1
  have ow0_2 := qw0_2
  have ow0_3 := qw0_3
  have olw0 := HXw0.out.le
  have hbx := (Below.refl w9_.heap.size w9_).alloc (Nat.le_refl _) (Obj.cells #[.int .i64 r0_5.kind, .int .i64 r0_5.pos, .int .i64 r0_5.count, .slice fa0_9_3 fn0_9_3 fc0_9_3] 31)
  replace HA0 := Lib.hid (HA0.out.kept hbx)
  replace HA1 := Lib.hid (HA1.out.kept hbx)
  replace HR0_5 := Lib.hid (HR0_5.out.kept hbx)
  replace HXw0 := Lib.hid (HXw0.out.kept hbx)
  replace HC7 := Lib.hid (HC7.out.kept hbx)
  replace HC8 := Lib.hid (HC8.out.kept hbx)
  replace HR0_9 := Lib.hid (HR0_9.out.kept hbx)
  have HXg0 := Lib.hid (Bx.loc (Bx.new w9_ 31 #[.int .i64 r0_5.kind, .int .i64 r0_5.pos, .int .i64 r0_5.count, .slice fa0_9_3 fn0_9_3 fc0_9_3]))
  have HZ10 := Lib.hid (show w9_.heap.size + 1 ≤ (w9_.alloc (Obj.cells #[.int .i64 r0_5.kind, .int .i64 r0_5.pos, .int .i64 r0_5.count, .slice fa0_9_3 fn0_9_3 fc0_9_3] 31)).heap.size by simp)
  replace hb := hb.trans (hbx.mono hb.size)
  clear hbx
  clear qw0_0 qw0_1 qw0_2 qw0_3
  have qw0_0 := HXw0.out.now.cell 0
  have qw0_1 := HXw0.out.now.cell 1
  have qw0_2 := HXw0.out.now.cell 2
  have qw0_3 := HXw0.out.now.cell 3
  simp only [List.getElem?_toArray, List.getElem?_cons_zero, List.getElem?_cons_succ] at qw0_0 qw0_1 qw0_2 qw0_3
  have qg0_0 := HXg0.out.now.cell 0
  have qg0_1 := HXg0.out.now.cell 1
  have qg0_2 := HXg0.out.now.cell 2
  have qg0_3 := HXg0.out.now.cell 3
  simp only [List.getElem?_toArray, List.getElem?_cons_zero, List.getElem?_cons_succ] at qg0_0 qg0_1 qg0_2 qg0_3
  go_wp2_with fail
  clear ow0_0 ow0_1 ow0_2 ow0_3 olw0
  generalize w9_.alloc (Obj.cells #[.int .i64 r0_5.kind, .int .i64 r0_5.pos, .int .i64 r0_5.count, .slice fa0_9_3 fn0_9_3 fc0_9_3] 31) = w10_ at *
  refine (LAmendment.eq _ _ r0_5 _ HR0_9.out.now.1.is HR0_5.out.now.1.is).mono ?_
  rintro e w11_ ⟨rfl, hb1⟩
  replace HA0 := Lib.hid (HA0.out.kept hb1)
  replace HA1 := Lib.hid (HA1.out.kept hb1)
  replace HR0_5 := Lib.hid (HR0_5.out.kept hb1)
  replace HXw0 := Lib.hid (HXw0.out.kept hb1)
  replace HC7 := Lib.hid (HC7.out.kept hb1)
  replace HC8 := Lib.hid (HC8.out.kept hb1)
  replace HR0_9 := Lib.hid (HR0_9.out.kept hb1)
  replace HXg0 := Lib.hid (HXg0.out.kept hb1)
  clear qw0_0 qw0_1 qw0_2 qw0_3
  have qw0_0 := HXw0.out.now.cell 0
  have qw0_1 := HXw0.out.now.cell 1
  have qw0_2 := HXw0.out.now.cell 2
  have qw0_3 := HXw0.out.now.cell 3
  simp only [List.getElem?_toArray, List.getElem?_cons_zero, List.getElem?_cons_succ] at qw0_0 qw0_1 qw0_2 qw0_3
  clear qg0_0 qg0_1 qg0_2 qg0_3
  have qg0_0 := HXg0.out.now.cell 0
  have qg0_1 := HXg0.out.now.cell 1
  have qg0_2 := HXg0.out.now.cell 2
  have qg0_3 := HXg0.out.now.cell 3
  simp only [List.getElem?_toArray, List.getElem?_cons_zero, List.getElem?_cons_succ] at qg0_0 qg0_1 qg0_2 qg0_3
  have HZ11 := Lib.hid hb1.size
  replace hb := hb.trans (hb1.mono hb.size)
  clear hb1
  go_wp2_with fail
  refine (LString.toS _ z0 _ HA0.out.now (by omega)).mono ?_
  rintro e w12_ ⟨u12, rfl, hnn12, ho, hb1⟩
  replace hnn12 := Lib.hid hnn12
  have HC12 := Lib.hid ho.loc
  clear ho
  replace HA0 := Lib.hid (HA0.out.kept hb1)
  replace HA1 := Lib.hid (HA1.out.kept hb1)
  replace HR0_5 := Lib.hid (HR0_5.out.kept hb1)
  replace HXw0 := Lib.hid (HXw0.out.kept hb1)
  replace HC7 := Lib.hid (HC7.out.kept hb1)
  replace HC8 := Lib.hid (HC8.out.kept hb1)
  replace HR0_9 := Lib.hid (HR0_9.out.kept hb1)
  replace HXg0 := Lib.hid (HXg0.out.kept hb1)
  clear qw0_0 qw0_1 qw0_2 qw0_3
  have qw0_0 := HXw0.out.now.cell 0
  have qw0_1 := HXw0.out.now.cell 1
  have qw0_2 := HXw0.out.now.cell 2
  have qw0_3 := HXw0.out.now.cell 3
  simp only [List.getElem?_toArray, List.getElem?_cons_zero, List.getElem?_cons_succ] at qw0_0 qw0_1 qw0_2 qw0_3
  clear qg0_0 qg0_1 qg0_2 qg0_3
  have qg0_0 := HXg0.out.now.cell 0
  have qg0_1 := HXg0.out.now.cell 1
  have qg0_2 := HXg0.out.now.cell 2
  have qg0_3 := HXg0.out.now.cell 3
  simp only [List.getElem?_toArray, List.getElem?_cons_zero, List.getElem?_cons_succ] at qg0_0 qg0_1 qg0_2 qg0_3
  have HZ12 := Lib.hid hb1.size
  replace hb := hb.trans (hb1.mono hb.size)
  clear hb1
  go_wp2_with fail
  refine (LString.eqS _ _ z0 _ HC7.out.now.1.is HC12.out.now.1.is).mono ?_
  rintro e w13_ ⟨rfl, hb1⟩
  replace HA0 := Lib.hid (HA0.out.kept hb1)
  replace HA1 := Lib.hid (HA1.out.kept hb1)
  replace HR0_5 := Lib.hid (HR0_5.out.kept hb1)
  replace HXw0 := Lib.hid (HXw0.out.kept hb1)
  replace HC7 := Lib.hid (HC7.out.kept hb1)
  replace HC8 := Lib.hid (HC8.out.kept hb1)
  replace HR0_9 := Lib.hid (HR0_9.out.kept hb1)
  replace HXg0 := Lib.hid (HXg0.out.kept hb1)
  replace HC12 := Lib.hid (HC12.out.kept hb1)
  clear qw0_0 qw0_1 qw0_2 qw0_3
  have qw0_0 := HXw0.out.now.cell 0
  have qw0_1 := HXw0.out.now.cell 1
  have qw0_2 := HXw0.out.now.cell 2
  have qw0_3 := HXw0.out.now.cell 3
  simp only [List.getElem?_toArray, List.getElem?_cons_zero, List.getElem?_cons_succ] at qw0_0 qw0_1 qw0_2 qw0_3
  clear qg0_0 qg0_1 qg0_2 qg0_3
  have qg0_0 := HXg0.out.now.cell 0
  have qg0_1 := HXg0.out.now.cell 1
  have qg0_2 := HXg0.out.now.cell 2
  have qg0_3 := HXg0.out.now.cell 3
  simp only [List.getElem?_toArray, List.getElem?_cons_zero, List.getElem?_cons_succ] at qg0_0 qg0_1 qg0_2 qg0_3
  have HZ13 := Lib.hid hb1.size
  replace hb := hb.trans (hb1.mono hb.size)
  clear hb1
  go_wp2_with fail
  clear HC12
  refine (LString.toS _ z1 _ HA1.out.now (by omega)).mono ?_
  rintro e w14_ ⟨u14, rfl, hnn14, ho, hb1⟩
  replace hnn14 := Lib.hid hnn14
  have HC14 := Lib.hid ho.loc
  clear ho
  replace HA0 := Lib.hid (HA0.out.kept hb1)
  replace HA1 := Lib.hid (HA1.out.kept hb1)
  replace HR0_5 := Lib.hid (HR0_5.out.kept hb1)
  replace HXw0 := Lib.hid (HXw0.out.kept hb1)
  replace HC7 := Lib.hid (HC7.out.kept hb1)
  replace HC8 := Lib.hid (HC8.out.kept hb1)
  replace HR0_9 := Lib.hid (HR0_9.out.kept hb1)
  replace HXg0 := Lib.hid (HXg0.out.kept hb1)
  clear qw0_0 qw0_1 qw0_2 qw0_3
  have qw0_0 := HXw0.out.now.cell 0
  have qw0_1 := HXw0.out.now.cell 1
  have qw0_2 := HXw0.out.now.cell 2
  have qw0_3 := HXw0.out.now.cell 3
  simp only [List.getElem?_toArray, List.getElem?_cons_zero, List.getElem?_cons_succ] at qw0_0 qw0_1 qw0_2 qw0_3
  clear qg0_0 qg0_1 qg0_2 qg0_3
  have qg0_0 := HXg0.out.now.cell 0
  have qg0_1 := HXg0.out.now.cell 1
  have qg0_2 := HXg0.out.now.cell 2
  have qg0_3 := HXg0.out.now.cell 3
  simp only [List.getElem?_toArray, List.getElem?_cons_zero, List.getElem?_cons_succ] at qg0_0 qg0_1 qg0_2 qg0_3
  have HZ14 := Lib.hid hb1.size
  replace hb := hb.trans (hb1.mono hb.size)
  clear hb1
  go_wp2_with fail
  refine (LString.eqS _ _ z1 _ HC8.out.now.1.is HC14.out.now.1.is).mono ?_
  rintro e w15_ ⟨rfl, hb1⟩
  replace HA0 := Lib.hid (HA0.out.kept hb1)
  replace HA1 := Lib.hid (HA1.out.kept hb1)
  replace HR0_5 := Lib.hid (HR0_5.out.kept hb1)
  replace HXw0 := Lib.hid (HXw0.out.kept hb1)
  replace HC7 := Lib.hid (HC7.out.kept hb1)
  replace HC8 := Lib.hid (HC8.out.kept hb1)
  replace HR0_9 := Lib.hid (HR0_9.out.kept hb1)
  replace HXg0 := Lib.hid (HXg0.out.kept hb1)
  replace HC14 := Lib.hid (HC14.out.kept hb1)
  clear qw0_0 qw0_1 qw0_2 qw0_3
  have qw0_0 := HXw0.out.now.cell 0
  have qw0_1 := HXw0.out.now.cell 1
  have qw0_2 := HXw0.out.now.cell 2
  have qw0_3 := HXw0.out.now.cell 3
  simp only [List.getElem?_toArray, List.getElem?_cons_zero, List.getElem?_cons_succ] at qw0_0 qw0_1 qw0_2 qw0_3
  clear qg0_0 qg0_1 qg0_2 qg0_3
  have qg0_0 := HXg0.out.now.cell 0
  have qg0_1 := HXg0.out.now.cell 1
  have qg0_2 := HXg0.out.now.cell 2
  have qg0_3 := HXg0.out.now.cell 3
  simp only [List.getElem?_toArray, List.getElem?_cons_zero, List.getElem?_cons_succ] at qg0_0 qg0_1 qg0_2 qg0_3
  have HZ15 := Lib.hid hb1.size
  replace hb := hb.trans (hb1.mono hb.size)
  clear hb1
  go_wp2_with fail
  clear HC14
  refine (LString.markS _ _ 1 _ z0 _ (by omega) (by omega) HC7.out.now).mono ?_
  rintro e w16_ ⟨he, ho, hap⟩
  obtain ⟨Nk16, hNk⟩ : ∃ N : Nat, N = (1 + 1 * z0.length) := ⟨_, rfl⟩
  rw [← hNk] at he
  have HNk16 := Lib.hid hNk
  subst he
  clear hNk
  replace HA0 := Lib.hid (HA0.out.apart hap (by have := HZ1.out; have := HZ2.out; have := HZ3.out; have := HZ4.out; have := HZ5.out; have := HZ6.out; have := HZ7.out; have := HZ8.out; have := HZ9.out; have := HZ10.out; have := HZ11.out; have := HZ12.out; have := HZ13.out; have := HZ14.out; have := HZ15.out; omega))
  replace HA1 := Lib.hid (HA1.out.apart hap (by have := HZ1.out; have := HZ2.out; have := HZ3.out; have := HZ4.out; have := HZ5.out; have := HZ6.out; have := HZ7.out; have := HZ8.out; have := HZ9.out; have := HZ10.out; have := HZ11.out; have := HZ12.out; have := HZ13.out; have := HZ14.out; have := HZ15.out; omega))
  replace HR0_5 := Lib.hid (HR0_5.out.apart hap (by have := HZ1.out; have := HZ2.out; have := HZ3.out; have := HZ4.out; have := HZ5.out; have := HZ6.out; have := HZ7.out; have := HZ8.out; have := HZ9.out; have := HZ10.out; have := HZ11.out; have := HZ12.out; have := HZ13.out; have := HZ14.out; have := HZ15.out; omega))
  replace HXw0 := Lib.hid (HXw0.out.apart hap (by have := HZ1.out; have := HZ2.out; have := HZ3.out; have := HZ4.out; have := HZ5.out; have := HZ6.out; have := HZ7.out; have := HZ8.out; have := HZ9.out; have := HZ10.out; have := HZ11.out; have := HZ12.out; have := HZ13.out; have := HZ14.out; have := HZ15.out; omega))
  replace HC8 := Lib.hid (HC8.out.apart hap (by have := HZ1.out; have := HZ2.out; have := HZ3.out; have := HZ4.out; have := HZ5.out; have := HZ6.out; have := HZ7.out; have := HZ8.out; have := HZ9.out; have := HZ10.out; have := HZ11.out; have := HZ12.out; have := HZ13.out; have := HZ14.out; have := HZ15.out; omega))
  replace HR0_9 := Lib.hid (HR0_9.out.apart hap (by have := HZ1.out; have := HZ2.out; have := HZ3.out; have := HZ4.out; have := HZ5.out; have := HZ6.out; have := HZ7.out; have := HZ8.out; have := HZ9.out; have := HZ10.out; have := HZ11.out; have := HZ12.out; have := HZ13.out; have := HZ14.out; have := HZ15.out; omega))
  replace HXg0 := Lib.hid (HXg0.out.apart hap (by have := HZ1.out; have := HZ2.out; have := HZ3.out; have := HZ4.out; have := HZ5.out; have := HZ6.out; have := HZ7.out; have := HZ8.out; have := HZ9.out; have := HZ10.out; have := HZ11.out; have := HZ12.out; have := HZ13.out; have := HZ14.out; have := HZ15.out; omega))
  have hlow := hap.below (B' := w.heap.size) (by have := hb.size; have := HZ1.out; have := HZ2.out; have := HZ3.out; have := HZ4.out; have := HZ5.out; have := HZ6.out; have := HZ7.out; have := HZ8.out; have := HZ9.out; have := HZ10.out; have := HZ11.out; have := HZ12.out; have := HZ13.out; have := HZ14.out; have := HZ15.out; omega) hb.size
  replace HC7 := Lib.hid (ho.loc (by have := hap.size; have := HZ1.out; have := HZ2.out; have := HZ3.out; have := HZ4.out; have := HZ5.out; have := HZ6.out; have := HZ7.out; have := HZ8.out; have := HZ9.out; have := HZ10.out; have := HZ11.out; have := HZ12.out; have := HZ13.out; have := HZ14.out; have := HZ15.out; omega))
  have HZ16 := Lib.hid hap.size
  replace hb := hb.trans hlow
  clear ho hap hlow
  clear qw0_0 qw0_1 qw0_2 qw0_3
  have qw0_0 := HXw0.out.now.cell 0
  have qw0_1 := HXw0.out.now.cell 1
  have qw0_2 := HXw0.out.now.cell 2
  have qw0_3 := HXw0.out.now.cell 3
  simp only [List.getElem?_toArray, List.getElem?_cons_zero, List.getElem?_cons_succ] at qw0_0 qw0_1 qw0_2 qw0_3
  clear qg0_0 qg0_1 qg0_2 qg0_3
  have qg0_0 := HXg0.out.now.cell 0
  have qg0_1 := HXg0.out.now.cell 1
  have qg0_2 := HXg0.out.now.cell 2
  have qg0_3 := HXg0.out.now.cell 3
  simp only [List.getElem?_toArray, List.getElem?_cons_zero, List.getElem?_cons_succ] at qg0_0 qg0_1 qg0_2 qg0_3
  go_wp2_with fail
  refine (LString.markS _ _ Nk16 _ z1 _ (by have := HNk16.out; omega) (by have := HNk16.out; omega) HC8.out.now).mono ?_
  rintro e w17_ ⟨he, ho, hap⟩
  obtain ⟨Nk17, hNk⟩ : ∃ N : Nat, N = (Nk16 + 1 * z1.length) := ⟨_, rfl⟩
  rw [← hNk] at he
  have HNk17 := Lib.hid hNk
  subst he
  clear hNk
  replace HA0 := Lib.hid (HA0.out.apart hap (by have := HZ1.out; have := HZ2.out; have := HZ3.out; have := HZ4.out; have := HZ5.out; have := HZ6.out; have := HZ7.out; have := HZ8.out; have := HZ9.out; have := HZ10.out; have := HZ11.out; have := HZ12.out; have := HZ13.out; have := HZ14.out; have := HZ15.out; have := HZ16.out; omega))
  replace HA1 := Lib.hid (HA1.out.apart hap (by have := HZ1.out; have := HZ2.out; have := HZ3.out; have := HZ4.out; have := HZ5.out; have := HZ6.out; have := HZ7.out; have := HZ8.out; have := HZ9.out; have := HZ10.out; have := HZ11.out; have := HZ12.out; have := HZ13.out; have := HZ14.out; have := HZ15.out; have := HZ16.out; omega))
  replace HR0_5 := Lib.hid (HR0_5.out.apart hap (by have := HZ1.out; have := HZ2.out; have := HZ3.out; have := HZ4.out; have := HZ5.out; have := HZ6.out; have := HZ7.out; have := HZ8.out; have := HZ9.out; have := HZ10.out; have := HZ11.out; have := HZ12.out; have := HZ13.out; have := HZ14.out; have := HZ15.out; have := HZ16.out; omega))
  replace HXw0 := Lib.hid (HXw0.out.apart hap (by have := HZ1.out; have := HZ2.out; have := HZ3.out; have := HZ4.out; have := HZ5.out; have := HZ6.out; have := HZ7.out; have := HZ8.out; have := HZ9.out; have := HZ10.out; have := HZ11.out; have := HZ12.out; have := HZ13.out; have := HZ14.out; have := HZ15.out; have := HZ16.out; omega))
  replace HC7 := Lib.hid (HC7.out.apart hap (by have := HZ1.out; have := HZ2.out; have := HZ3.out; have := HZ4.out; have := HZ5.out; have := HZ6.out; have := HZ7.out; have := HZ8.out; have := HZ9.out; have := HZ10.out; have := HZ11.out; have := HZ12.out; have := HZ13.out; have := HZ14.out; have := HZ15.out; have := HZ16.out; omega))
  replace HR0_9 := Lib.hid (HR0_9.out.apart hap (by have := HZ1.out; have := HZ2.out; have := HZ3.out; have := HZ4.out; have := HZ5.out; have := HZ6.out; have := HZ7.out; have := HZ8.out; have := HZ9.out; have := HZ10.out; have := HZ11.out; have := HZ12.out; have := HZ13.out; have := HZ14.out; have := HZ15.out; have := HZ16.out; omega))
  replace HXg0 := Lib.hid (HXg0.out.apart hap (by have := HZ1.out; have := HZ2.out; have := HZ3.out; have := HZ4.out; have := HZ5.out; have := HZ6.out; have := HZ7.out; have := HZ8.out; have := HZ9.out; have := HZ10.out; have := HZ11.out; have := HZ12.out; have := HZ13.out; have := HZ14.out; have := HZ15.out; have := HZ16.out; omega))
  have hlow := hap.below (B' := w.heap.size) (by have := hb.size; have := HZ1.out; have := HZ2.out; have := HZ3.out; have := HZ4.out; have := HZ5.out; have := HZ6.out; have := HZ7.out; have := HZ8.out; have := HZ9.out; have := HZ10.out; have := HZ11.out; have := HZ12.out; have := HZ13.out; have := HZ14.out; have := HZ15.out; have := HZ16.out; omega) hb.size
  replace HC8 := Lib.hid (ho.loc (by have := hap.size; have := HZ1.out; have := HZ2.out; have := HZ3.out; have := HZ4.out; have := HZ5.out; have := HZ6.out; have := HZ7.out; have := HZ8.out; have := HZ9.out; have := HZ10.out; have := HZ11.out; have := HZ12.out; have := HZ13.out; have := HZ14.out; have := HZ15.out; have := HZ16.out; omega))
  have HZ17 := Lib.hid hap.size
  replace hb := hb.trans hlow
  clear ho hap hlow
  clear qw0_0 qw0_1 qw0_2 qw0_3
  have qw0_0 := HXw0.out.now.cell 0
  have qw0_1 := HXw0.out.now.cell 1
  have qw0_2 := HXw0.out.now.cell 2
  have qw0_3 := HXw0.out.now.cell 3
  simp only [List.getElem?_toArray, List.getElem?_cons_zero, List.getElem?_cons_succ] at qw0_0 qw0_1 qw0_2 qw0_3
  clear qg0_0 qg0_1 qg0_2 qg0_3
  have qg0_0 := HXg0.out.now.cell 0
  have qg0_1 := HXg0.out.now.cell 1
  have qg0_2 := HXg0.out.now.cell 2
  have qg0_3 := HXg0.out.now.cell 3
  simp only [List.getElem?_toArray, List.getElem?_cons_zero, List.getElem?_cons_succ] at qg0_0 qg0_1 qg0_2 qg0_3
  go_wp2_with fail
  refine (LAmendment.eq _ _ r0_5 _ HR0_9.out.now.1.is HR0_5.out.now.1.is).mono ?_
  rintro e w18_ ⟨rfl, hb1⟩
  replace HA0 := Lib.hid (HA0.out.kept hb1)
  replace HA1 := Lib.hid (HA1.out.kept hb1)
  replace HR0_5 := Lib.hid (HR0_5.out.kept hb1)
  replace HXw0 := Lib.hid (HXw0.out.kept hb1)
  replace HC7 := Lib.hid (HC7.out.kept hb1)
  replace HC8 := Lib.hid (HC8.out.kept hb1)
  replace HR0_9 := Lib.hid (HR0_9.out.kept hb1)
  replace HXg0 := Lib.hid (HXg0.out.kept hb1)
  clear qw0_0 qw0_1 qw0_2 qw0_3
  have qw0_0 := HXw0.out.now.cell 0
  have qw0_1 := HXw0.out.now.cell 1
  have qw0_2 := HXw0.out.now.cell 2
  have qw0_3 := HXw0.out.now.cell 3
  simp only [List.getElem?_toArray, List.getElem?_cons_zero, List.getElem?_cons_succ] at qw0_0 qw0_1 qw0_2 qw0_3
  clear qg0_0 qg0_1 qg0_2 qg0_3
  have qg0_0 := HXg0.out.now.cell 0
  have qg0_1 := HXg0.out.now.cell 1
  have qg0_2 := HXg0.out.now.cell 2
  have qg0_3 := HXg0.out.now.cell 3
  simp only [List.getElem?_toArray, List.getElem?_cons_zero, List.getElem?_cons_succ] at qg0_0 qg0_1 qg0_2 qg0_3
  have HZ18 := Lib.hid hb1.size
  replace hb := hb.trans (hb1.mono hb.size)
  clear hb1
  go_wp2_with fail
  refine (LAmendment.mark _ _ 1 _ r0_5 _ (by have := HNk16.out; have := HNk17.out; omega) (by have := HNk16.out; have := HNk17.out; omega) HR0_9.out.le HR0_9.out.now).mono ?_
  rintro e w19_ ⟨rfl, ho, hap⟩
  replace HA0 := Lib.hid (HA0.out.apart hap (by have := HZ1.out; have := HZ2.out; have := HZ3.out; have := HZ4.out; have := HZ5.out; have := HZ6.out; have := HZ7.out; have := HZ8.out; have := HZ9.out; have := HZ10.out; have := HZ11.out; have := HZ12.out; have := HZ13.out; have := HZ14.out; have := HZ15.out; have := HZ16.out; have := HZ17.out; have := HZ18.out; omega))
  replace HA1 := Lib.hid (HA1.out.apart hap (by have := HZ1.out; have := HZ2.out; have := HZ3.out; have := HZ4.out; have := HZ5.out; have := HZ6.out; have := HZ7.out; have := HZ8.out; have := HZ9.out; have := HZ10.out; have := HZ11.out; have := HZ12.out; have := HZ13.out; have := HZ14.out; have := HZ15.out; have := HZ16.out; have := HZ17.out; have := HZ18.out; omega))
  replace HR0_5 := Lib.hid (HR0_5.out.apart hap (by have := HZ1.out; have := HZ2.out; have := HZ3.out; have := HZ4.out; have := HZ5.out; have := HZ6.out; have := HZ7.out; have := HZ8.out; have := HZ9.out; have := HZ10.out; have := HZ11.out; have := HZ12.out; have := HZ13.out; have := HZ14.out; have := HZ15.out; have := HZ16.out; have := HZ17.out; have := HZ18.out; omega))
  replace HXw0 := Lib.hid (HXw0.out.apart hap (by have := HZ1.out; have := HZ2.out; have := HZ3.out; have := HZ4.out; have := HZ5.out; have := HZ6.out; have := HZ7.out; have := HZ8.out; have := HZ9.out; have := HZ10.out; have := HZ11.out; have := HZ12.out; have := HZ13.out; have := HZ14.out; have := HZ15.out; have := HZ16.out; have := HZ17.out; have := HZ18.out; omega))
  replace HC7 := Lib.hid (HC7.out.apart hap (by have := HZ1.out; have := HZ2.out; have := HZ3.out; have := HZ4.out; have := HZ5.out; have := HZ6.out; have := HZ7.out; have := HZ8.out; have := HZ9.out; have := HZ10.out; have := HZ11.out; have := HZ12.out; have := HZ13.out; have := HZ14.out; have := HZ15.out; have := HZ16.out; have := HZ17.out; have := HZ18.out; omega))
  replace HC8 := Lib.hid (HC8.out.apart hap (by have := HZ1.out; have := HZ2.out; have := HZ3.out; have := HZ4.out; have := HZ5.out; have := HZ6.out; have := HZ7.out; have := HZ8.out; have := HZ9.out; have := HZ10.out; have := HZ11.out; have := HZ12.out; have := HZ13.out; have := HZ14.out; have := HZ15.out; have := HZ16.out; have := HZ17.out; have := HZ18.out; omega))
  replace HXg0 := Lib.hid (HXg0.out.apart hap (by have := HZ1.out; have := HZ2.out; have := HZ3.out; have := HZ4.out; have := HZ5.out; have := HZ6.out; have := HZ7.out; have := HZ8.out; have := HZ9.out; have := HZ10.out; have := HZ11.out; have := HZ12.out; have := HZ13.out; have := HZ14.out; have := HZ15.out; have := HZ16.out; have := HZ17.out; have := HZ18.out; omega))
  have hlow := hap.below (B' := w.heap.size) (by have := hb.size; have := HZ1.out; have := HZ2.out; have := HZ3.out; have := HZ4.out; have := HZ5.out; have := HZ6.out; have := HZ7.out; have := HZ8.out; have := HZ9.out; have := HZ10.out; have := HZ11.out; have := HZ12.out; have := HZ13.out; have := HZ14.out; have := HZ15.out; have := HZ16.out; have := HZ17.out; have := HZ18.out; omega) hb.size
  replace HR0_9 := Lib.hid (ho.loc (by have := hap.size; have := HZ1.out; have := HZ2.out; have := HZ3.out; have := HZ4.out; have := HZ5.out; have := HZ6.out; have := HZ7.out; have := HZ8.out; have := HZ9.out; have := HZ10.out; have := HZ11.out; have := HZ12.out; have := HZ13.out; have := HZ14.out; have := HZ15.out; have := HZ16.out; have := HZ17.out; have := HZ18.out; omega))
  have HZ19 := Lib.hid hap.size
  replace hb := hb.trans hlow
  clear ho hap hlow
  clear qw0_0 qw0_1 qw0_2 qw0_3
  have qw0_0 := HXw0.out.now.cell 0
  have qw0_1 := HXw0.out.now.cell 1
  have qw0_2 := HXw0.out.now.cell 2
  have qw0_3 := HXw0.out.now.cell 3
  simp only [List.getElem?_toArray, List.getElem?_cons_zero, List.getElem?_cons_succ] at qw0_0 qw0_1 qw0_2 qw0_3
  clear qg0_0 qg0_1 qg0_2 qg0_3
  have qg0_0 := HXg0.out.now.cell 0
  have qg0_1 := HXg0.out.now.cell 1
  have qg0_2 := HXg0.out.now.cell 2
  have qg0_3 := HXg0.out.now.cell 3
  simp only [List.getElem?_toArray, List.getElem?_cons_zero, List.getElem?_cons_succ] at qg0_0 qg0_1 qg0_2 qg0_3
  go_wp2_with fail
  refine (LAmendment.held _ 1 _ r0_5 _ (by omega) (by omega) HR0_9.out.now.1).mono ?_
  rintro e w20_ ⟨rfl, hb1⟩
  replace HA0 := Lib.hid (HA0.out.kept hb1)
  replace HA1 := Lib.hid (HA1.out.kept hb1)
  replace HR0_5 := Lib.hid (HR0_5.out.kept hb1)
  replace HXw0 := Lib.hid (HXw0.out.kept hb1)
  replace HC7 := Lib.hid (HC7.out.kept hb1)
  replace HC8 := Lib.hid (HC8.out.kept hb1)
  replace HR0_9 := Lib.hid (HR0_9.out.kept hb1)
  replace HXg0 := Lib.hid (HXg0.out.kept hb1)
  clear qw0_0 qw0_1 qw0_2 qw0_3
  have qw0_0 := HXw0.out.now.cell 0
  have qw0_1 := HXw0.out.now.cell 1
  have qw0_2 := HXw0.out.now.cell 2
  have qw0_3 := HXw0.out.now.cell 3
  simp only [List.getElem?_toArray, List.getElem?_cons_zero, List.getElem?_cons_succ] at qw0_0 qw0_1 qw0_2 qw0_3
  clear qg0_0 qg0_1 qg0_2 qg0_3
  have qg0_0 := HXg0.out.now.cell 0
  have qg0_1 := HXg0.out.now.cell 1
  have qg0_2 := HXg0.out.now.cell 2
  have qg0_3 := HXg0.out.now.cell 3
  simp only [List.getElem?_toArray, List.getElem?_cons_zero, List.getElem?_cons_succ] at qg0_0 qg0_1 qg0_2 qg0_3
  have HZ20 := Lib.hid hb1.size
  replace hb := hb.trans (hb1.mono hb.size)
  clear hb1
  go_wp2_with fail
  refine (LString.toS _ z0 _ HA0.out.now (by omega)).mono ?_
  rintro e w21_ ⟨u21, rfl, hnn21, ho, hb1⟩
  replace hnn21 := Lib.hid hnn21
  have HC21 := Lib.hid ho.loc
  clear ho
  replace HA0 := Lib.hid (HA0.out.kept hb1)
  replace HA1 := Lib.hid (HA1.out.kept hb1)
  replace HR0_5 := Lib.hid (HR0_5.out.kept hb1)
  replace HXw0 := Lib.hid (HXw0.out.kept hb1)
  replace HC7 := Lib.hid (HC7.out.kept hb1)
  replace HC8 := Lib.hid (HC8.out.kept hb1)
  replace HR0_9 := Lib.hid (HR0_9.out.kept hb1)
  replace HXg0 := Lib.hid (HXg0.out.kept hb1)
  clear qw0_0 qw0_1 qw0_2 qw0_3
  have qw0_0 := HXw0.out.now.cell 0
  have qw0_1 := HXw0.out.now.cell 1
  have qw0_2 := HXw0.out.now.cell 2
  have qw0_3 := HXw0.out.now.cell 3
  simp only [List.getElem?_toArray, List.getElem?_cons_zero, List.getElem?_cons_succ] at qw0_0 qw0_1 qw0_2 qw0_3
  clear qg0_0 qg0_1 qg0_2 qg0_3
  have qg0_0 := HXg0.out.now.cell 0
  have qg0_1 := HXg0.out.now.cell 1
  have qg0_2 := HXg0.out.now.cell 2
  have qg0_3 := HXg0.out.now.cell 3
  simp only [List.getElem?_toArray, List.getElem?_cons_zero, List.getElem?_cons_succ] at qg0_0 qg0_1 qg0_2 qg0_3
  have HZ21 := Lib.hid hb1.size
  replace hb := hb.trans (hb1.mono hb.size)
  clear hb1
  go_wp2_with fail
  refine (LString.toS _ z1 _ HA1.out.now (by omega)).mono ?_
  rintro e w22_ ⟨u22, rfl, hnn22, ho, hb1⟩
  replace hnn22 := Lib.hid hnn22
  have HC22 := Lib.hid ho.loc
  clear ho
  replace HA0 := Lib.hid (HA0.out.kept hb1)
  replace HA1 := Lib.hid (HA1.out.kept hb1)
  replace HR0_5 := Lib.hid (HR0_5.out.kept hb1)
  replace HXw0 := Lib.hid (HXw0.out.kept hb1)
  replace HC7 := Lib.hid (HC7.out.kept hb1)
  replace HC8 := Lib.hid (HC8.out.kept hb1)
  replace HR0_9 := Lib.hid (HR0_9.out.kept hb1)
  replace HXg0 := Lib.hid (HXg0.out.kept hb1)
  replace HC21 := Lib.hid (HC21.out.kept hb1)
  clear qw0_0 qw0_1 qw0_2 qw0_3
  have qw0_0 := HXw0.out.now.cell 0
  have qw0_1 := HXw0.out.now.cell 1
  have qw0_2 := HXw0.out.now.cell 2
  have qw0_3 := HXw0.out.now.cell 3
  simp only [List.getElem?_toArray, List.getElem?_cons_zero, List.getElem?_cons_succ] at qw0_0 qw0_1 qw0_2 qw0_3
  clear qg0_0 qg0_1 qg0_2 qg0_3
  have qg0_0 := HXg0.out.now.cell 0
  have qg0_1 := HXg0.out.now.cell 1
  have qg0_2 := HXg0.out.now.cell 2
  have qg0_3 := HXg0.out.now.cell 3
  simp only [List.getElem?_toArray, List.getElem?_cons_zero, List.getElem?_cons_succ] at qg0_0 qg0_1 qg0_2 qg0_3
  have HZ22 := Lib.hid hb1.size
  replace hb := hb.trans (hb1.mono hb.size)
  clear hb1
  go_wp2_with fail
  refine (SingleChangeC.impl _ z0 _ z1 _ (HC21.out.now.1.isS hnn21.out) HF0.out (by omega) (HC22.out.now.1.isS hnn22.out) HF1.out (by omega)).mono ?_
  rintro e w23_ ⟨v0_23, r0_23, r1_23, rfl, hans, ho0, hb1⟩
  obtain ⟨rfl, rfl⟩ := SingleChangeC.same HS.out hans
  clear hans
  obtain ⟨fa0_23_3, fn0_23_3, fc0_23_3, rfl⟩ := ho0.form
  have HR0_23 := Lib.hid ho0.loc
  clear ho0
  replace HA0 := Lib.hid (HA0.out.kept hb1)
  replace HA1 := Lib.hid (HA1.out.kept hb1)
  replace HR0_5 := Lib.hid (HR0_5.out.kept hb1)
  replace HXw0 := Lib.hid (HXw0.out.kept hb1)
  replace HC7 := Lib.hid (HC7.out.kept hb1)
  replace HC8 := Lib.hid (HC8.out.kept hb1)
  replace HR0_9 := Lib.hid (HR0_9.out.kept hb1)
  replace HXg0 := Lib.hid (HXg0.out.kept hb1)
  replace HC21 := Lib.hid (HC21.out.kept hb1)
  replace HC22 := Lib.hid (HC22.out.kept hb1)
  clear qw0_0 qw0_1 qw0_2 qw0_3
  have qw0_0 := HXw0.out.now.cell 0
  have qw0_1 := HXw0.out.now.cell 1
  have qw0_2 := HXw0.out.now.cell 2
  have qw0_3 := HXw0.out.now.cell 3
  simp only [List.getElem?_toArray, List.getElem?_cons_zero, List.getElem?_cons_succ] at qw0_0 qw0_1 qw0_2 qw0_3
  clear qg0_0 qg0_1 qg0_2 qg0_3
  have qg0_0 := HXg0.out.now.cell 0
  have qg0_1 := HXg0.out.now.cell 1
  have qg0_2 := HXg0.out.now.cell 2
  have qg0_3 := HXg0.out.now.cell 3
  simp only [List.getElem?_toArray, List.getElem?_cons_zero, List.getElem?_cons_succ] at qg0_0 qg0_1 qg0_2 qg0_3
  have HZ23 := Lib.hid hb1.size
  replace hb := hb.trans (hb1.mono hb.size)
  clear hb1
  clear HC21
  clear HC22
  have ow0_0 := qw0_0
  have ow0_1 := qw0_1
  have ow0_2 := qw0_2
  have ow0_3 := qw0_3
  have olw0 := HXw0.out.le
  have og0_0 := qg0_0
  have og0_1 := qg0_1
  have og0_2 := qg0_2
  have og0_3 := qg0_3
  have olg0 := HXg0.out.le
  have hbx := (Below.refl w23_.heap.size w23_).alloc (Nat.le_refl _) (Obj.cells #[.int .i64 r0_5.kind, .int .i64 r0_5.pos, .int .i64 r0_5.count, .slice fa0_23_3 fn0_23_3 fc0_23_3] 31)
  replace HA0 := Lib.hid (HA0.out.kept hbx)
  replace HA1 := Lib.hid (HA1.out.kept hbx)
  replace HR0_5 := Lib.hid (HR0_5.out.kept hbx)
  replace HXw0 := Lib.hid (HXw0.out.kept hbx)
  replace HC7 := Lib.hid (HC7.out.kept hbx)
  replace HC8 := Lib.hid (HC8.out.kept hbx)
  replace HR0_9 := Lib.hid (HR0_9.out.kept hbx)
  replace HXg0 := Lib.hid (HXg0.out.kept hbx)
  replace HR0_23 := Lib.hid (HR0_23.out.kept hbx)
  have HXh0 := Lib.hid (Bx.loc (Bx.new w23_ 31 #[.int .i64 r0_5.kind, .int .i64 r0_5.pos, .int .i64 r0_5.count, .slice fa0_23_3 fn0_23_3 fc0_23_3]))
  have HZ24 := Lib.hid (show w23_.heap.size + 1 ≤ (w23_.alloc (Obj.cells #[.int .i64 r0_5.kind, .int .i64 r0_5.pos, .int .i64 r0_5.count, .slice fa0_23_3 fn0_23_3 fc0_23_3] 31)).heap.size by simp)
  replace hb := hb.trans (hbx.mono hb.size)
  clear hbx
  clear qw0_0 qw0_1 qw0_2 qw0_3
  have qw0_0 := HXw0.out.now.cell 0
  have qw0_1 := HXw0.out.now.cell 1
  have qw0_2 := HXw0.out.now.cell 2
  have qw0_3 := HXw0.out.now.cell 3
  simp only [List.getElem?_toArray, List.getElem?_cons_zero, List.getElem?_cons_succ] at qw0_0 qw0_1 qw0_2 qw0_3
  clear qg0_0 qg0_1 qg0_2 qg0_3
  have qg0_0 := HXg0.out.now.cell 0
  have qg0_1 := HXg0.out.now.cell 1
  have qg0_2 := HXg0.out.now.cell 2
  have qg0_3 := HXg0.out.now.cell 3
  simp only [List.getElem?_toArray, List.getElem?_cons_zero, List.getElem?_cons_succ] at qg0_0 qg0_1 qg0_2 qg0_3
  have qh0_0 := HXh0.out.now.cell 0
  have qh0_1 := HXh0.out.now.cell 1
  have qh0_2 := HXh0.out.now.cell 2
  have qh0_3 := HXh0.out.now.cell 3
  simp only [List.getElem?_toArray, List.getElem?_cons_zero, List.getElem?_cons_succ] at qh0_0 qh0_1 qh0_2 qh0_3
  go_wp2_with fail
  clear ow0_0 ow0_1 ow0_2 ow0_3 olw0 og0_0 og0_1 og0_2 og0_3 olg0
  generalize w23_.alloc (Obj.cells #[.int .i64 r0_5.kind, .int .i64 r0_5.pos, .int .i64 r0_5.count, .slice fa0_23_3 fn0_23_3 fc0_23_3] 31) = w24_ at *
  refine (LAmendment.eq _ _ r0_5 _ HR0_23.out.now.1.is HR0_5.out.now.1.is).mono ?_
  rintro e w25_ ⟨rfl, hb1⟩
  replace HA0 := Lib.hid (HA0.out.kept hb1)
  replace HA1 := Lib.hid (HA1.out.kept hb1)
  replace HR0_5 := Lib.hid (HR0_5.out.kept hb1)
  replace HXw0 := Lib.hid (HXw0.out.kept hb1)
  replace HC7 := Lib.hid (HC7.out.kept hb1)
  replace HC8 := Lib.hid (HC8.out.kept hb1)
  replace HR0_9 := Lib.hid (HR0_9.out.kept hb1)
  replace HXg0 := Lib.hid (HXg0.out.kept hb1)
  replace HR0_23 := Lib.hid (HR0_23.out.kept hb1)
  replace HXh0 := Lib.hid (HXh0.out.kept hb1)
  clear qw0_0 qw0_1 qw0_2 qw0_3
  have qw0_0 := HXw0.out.now.cell 0
  have qw0_1 := HXw0.out.now.cell 1
  have qw0_2 := HXw0.out.now.cell 2
  have qw0_3 := HXw0.out.now.cell 3
  simp only [List.getElem?_toArray, List.getElem?_cons_zero, List.getElem?_cons_succ] at qw0_0 qw0_1 qw0_2 qw0_3
  clear qg0_0 qg0_1 qg0_2 qg0_3
  have qg0_0 := HXg0.out.now.cell 0
  have qg0_1 := HXg0.out.now.cell 1
  have qg0_2 := HXg0.out.now.cell 2
  have qg0_3 := HXg0.out.now.cell 3
  simp only [List.getElem?_toArray, List.getElem?_cons_zero, List.getElem?_cons_succ] at qg0_0 qg0_1 qg0_2 qg0_3
  clear qh0_0 qh0_1 qh0_2 qh0_3
  have qh0_0 := HXh0.out.now.cell 0
  have qh0_1 := HXh0.out.now.cell 1
  have qh0_2 := HXh0.out.now.cell 2
  have qh0_3 := HXh0.out.now.cell 3
  simp only [List.getElem?_toArray, List.getElem?_cons_zero, List.getElem?_cons_succ] at qh0_0 qh0_1 qh0_2 qh0_3
  have HZ25 := Lib.hid hb1.size
  replace hb := hb.trans (hb1.mono hb.size)
  clear hb1
  go_wp2_with fail
  refine (LAmendment.held _ 1 _ r0_5 _ (by omega) (by omega) HR0_9.out.now.1).mono ?_
  rintro e w26_ ⟨rfl, hb1⟩
  replace HA0 := Lib.hid (HA0.out.kept hb1)
  replace HA1 := Lib.hid (HA1.out.kept hb1)
  replace HR0_5 := Lib.hid (HR0_5.out.kept hb1)
  replace HXw0 := Lib.hid (HXw0.out.kept hb1)
  replace HC7 := Lib.hid (HC7.out.kept hb1)
  replace HC8 := Lib.hid (HC8.out.kept hb1)
  replace HR0_9 := Lib.hid (HR0_9.out.kept hb1)
  replace HXg0 := Lib.hid (HXg0.out.kept hb1)
  replace HR0_23 := Lib.hid (HR0_23.out.kept hb1)
  replace HXh0 := Lib.hid (HXh0.out.kept hb1)
  clear qw0_0 qw0_1 qw0_2 qw0_3
  have qw0_0 := HXw0.out.now.cell 0
  have qw0_1 := HXw0.out.now.cell 1
  have qw0_2 := HXw0.out.now.cell 2
  have qw0_3 := HXw0.out.now.cell 3
  simp only [List.getElem?_toArray, List.getElem?_cons_zero, List.getElem?_cons_succ] at qw0_0 qw0_1 qw0_2 qw0_3
  clear qg0_0 qg0_1 qg0_2 qg0_3
  have qg0_0 := HXg0.out.now.cell 0
  have qg0_1 := HXg0.out.now.cell 1
  have qg0_2 := HXg0.out.now.cell 2
  have qg0_3 := HXg0.out.now.cell 3
  simp only [List.getElem?_toArray, List.getElem?_cons_zero, List.getElem?_cons_succ] at qg0_0 qg0_1 qg0_2 qg0_3
  clear qh0_0 qh0_1 qh0_2 qh0_3
  have qh0_0 := HXh0.out.now.cell 0
  have qh0_1 := HXh0.out.now.cell 1
  have qh0_2 := HXh0.out.now.cell 2
  have qh0_3 := HXh0.out.now.cell 3
  simp only [List.getElem?_toArray, List.getElem?_cons_zero, List.getElem?_cons_succ] at qh0_0 qh0_1 qh0_2 qh0_3
  have HZ26 := Lib.hid hb1.size
  replace hb := hb.trans (hb1.mono hb.size)
  clear hb1
  go_wp2_with fail
  go_ret
  exact ⟨rfl, hb⟩
end Go.Proofs.Ytfkppgnffhbfjaa.fnExactSingleChange
