/- FnExactNewFloor: the law's walk, for every number, every number. -/
import Derived.Test.YtjphhcmhangkkaaLFloorE
import Derived.Test.YtjphhcmhangkkaaLFloorM
import Derived.Test.YtjphhcmhangkkaaNewFloorC
namespace Go.Proofs.Ytjphhcmhangkkaa.fnExactNewFloor
open Go.RowKit Bs
set_option linter.unusedVariables false
set_option maxRecDepth 100000 in
set_option maxHeartbeats 1600000 in
theorem walk (a0 : Int) (a1 : Int) (w : World) (sh : w.ShapedOpen Try.prog) (w0 : (Lit.int .i64 a0).wf = true) (w1 : (Lit.int .i64 a1).wf = true) :
    Calls Try.prog 3 #[.int .i64 a0, .int .i64 a1] w fun e w' => e = .returned (.bool true) ∧ Below w.heap.size w w' := by
  have HW0 := Lib.hid w0
  have HW1 := Lib.hid w1
  clear sh w0 w1
  go_enter Try.func3, Try.ntmps3
  go_wp2_with fail
  refine (NewFloorC.spec a0 a1 _ ).mono ?_
  rintro e w1_ ⟨v0_1, r0_1, r1_1, rfl, hans, ho0, hb1⟩
  have HS := Lib.hid hans
  obtain ⟨hlen0_3, hlen0_4⟩ := NewFloorC.len0 hans
  clear hans
  obtain ⟨fa0_1_3, fn0_1_3, fc0_1_3, fa0_1_4, fn0_1_4, fc0_1_4, rfl⟩ := ho0.form
  have HR0_1 := Lib.hid ho0.loc
  clear ho0
  have HZ1 := Lib.hid hb1.size
  have hb := hb1
  clear hb1
  have hne1 : (r1_1 != r1_1) = false := by simp
  have hbx := (Below.refl w1_.heap.size w1_).alloc (Nat.le_refl _) (Obj.cells #[.int .i64 r0_1.turns, .int .i64 r0_1.seconds, .int .i64 r0_1.speaking, .slice fa0_1_3 fn0_1_3 fc0_1_3, .slice fa0_1_4 fn0_1_4 fc0_1_4] 25)
  replace HR0_1 := Lib.hid (HR0_1.out.kept hbx)
  have HXw0 := Lib.hid (Bx.loc (Bx.new w1_ 25 #[.int .i64 r0_1.turns, .int .i64 r0_1.seconds, .int .i64 r0_1.speaking, .slice fa0_1_3 fn0_1_3 fc0_1_3, .slice fa0_1_4 fn0_1_4 fc0_1_4]))
  have HZ2 := Lib.hid (show w1_.heap.size + 1 ≤ (w1_.alloc (Obj.cells #[.int .i64 r0_1.turns, .int .i64 r0_1.seconds, .int .i64 r0_1.speaking, .slice fa0_1_3 fn0_1_3 fc0_1_3, .slice fa0_1_4 fn0_1_4 fc0_1_4] 25)).heap.size by simp)
  replace hb := hb.trans (hbx.mono hb.size)
  clear hbx
  have qw0_0 := HXw0.out.now.cell 0
  have qw0_1 := HXw0.out.now.cell 1
  have qw0_2 := HXw0.out.now.cell 2
  have qw0_3 := HXw0.out.now.cell 3
  have qw0_4 := HXw0.out.now.cell 4
  simp only [List.getElem?_toArray, List.getElem?_cons_zero, List.getElem?_cons_succ] at qw0_0 qw0_1 qw0_2 qw0_3 qw0_4
  go_wp2_with fail
  generalize w1_.alloc (Obj.cells #[.int .i64 r0_1.turns, .int .i64 r0_1.seconds, .int .i64 r0_1.speaking, .slice fa0_1_3 fn0_1_3 fc0_1_3, .slice fa0_1_4 fn0_1_4 fc0_1_4] 25) = w2_ at *
  refine (NewFloorC.impl a0 a1 _ ).mono ?_
  rintro e w3_ ⟨v0_3, r0_3, r1_3, rfl, hans, ho0, hb1⟩
  obtain ⟨rfl, rfl⟩ := NewFloorC.same HS.out hans
  clear hans
  obtain ⟨fa0_3_3, fn0_3_3, fc0_3_3, fa0_3_4, fn0_3_4, fc0_3_4, rfl⟩ := ho0.form
  have HR0_3 := Lib.hid ho0.loc
  clear ho0
  replace HR0_1 := Lib.hid (HR0_1.out.kept hb1)
  replace HXw0 := Lib.hid (HXw0.out.kept hb1)
  clear qw0_0 qw0_1 qw0_2 qw0_3 qw0_4
  have qw0_0 := HXw0.out.now.cell 0
  have qw0_1 := HXw0.out.now.cell 1
  have qw0_2 := HXw0.out.now.cell 2
  have qw0_3 := HXw0.out.now.cell 3
  have qw0_4 := HXw0.out.now.cell 4
  simp only [List.getElem?_toArray, List.getElem?_cons_zero, List.getElem?_cons_succ] at qw0_0 qw0_1 qw0_2 qw0_3 qw0_4
  have HZ3 := Lib.hid hb1.size
  replace hb := hb.trans (hb1.mono hb.size)
  clear hb1
  have ow0_0 := qw0_0
  have ow0_1 := qw0_1
  have ow0_2 := qw0_2
  have ow0_3 := qw0_3
  have ow0_4 := qw0_4
  have olw0 := HXw0.out.le
  have hbx := (Below.refl w3_.heap.size w3_).alloc (Nat.le_refl _) (Obj.cells #[.int .i64 r0_1.turns, .int .i64 r0_1.seconds, .int .i64 r0_1.speaking, .slice fa0_3_3 fn0_3_3 fc0_3_3, .slice fa0_3_4 fn0_3_4 fc0_3_4] 25)
  replace HR0_1 := Lib.hid (HR0_1.out.kept hbx)
  replace HXw0 := Lib.hid (HXw0.out.kept hbx)
  replace HR0_3 := Lib.hid (HR0_3.out.kept hbx)
  have HXg0 := Lib.hid (Bx.loc (Bx.new w3_ 25 #[.int .i64 r0_1.turns, .int .i64 r0_1.seconds, .int .i64 r0_1.speaking, .slice fa0_3_3 fn0_3_3 fc0_3_3, .slice fa0_3_4 fn0_3_4 fc0_3_4]))
  have HZ4 := Lib.hid (show w3_.heap.size + 1 ≤ (w3_.alloc (Obj.cells #[.int .i64 r0_1.turns, .int .i64 r0_1.seconds, .int .i64 r0_1.speaking, .slice fa0_3_3 fn0_3_3 fc0_3_3, .slice fa0_3_4 fn0_3_4 fc0_3_4] 25)).heap.size by simp)
  replace hb := hb.trans (hbx.mono hb.size)
  clear hbx
  clear qw0_0 qw0_1 qw0_2 qw0_3 qw0_4
  have qw0_0 := HXw0.out.now.cell 0
  have qw0_1 := HXw0.out.now.cell 1
  have qw0_2 := HXw0.out.now.cell 2
  have qw0_3 := HXw0.out.now.cell 3
  have qw0_4 := HXw0.out.now.cell 4
  simp only [List.getElem?_toArray, List.getElem?_cons_zero, List.getElem?_cons_succ] at qw0_0 qw0_1 qw0_2 qw0_3 qw0_4
  have qg0_0 := HXg0.out.now.cell 0
  have qg0_1 := HXg0.out.now.cell 1
  have qg0_2 := HXg0.out.now.cell 2
  have qg0_3 := HXg0.out.now.cell 3
  have qg0_4 := HXg0.out.now.cell 4
  simp only [List.getElem?_toArray, List.getElem?_cons_zero, List.getElem?_cons_succ] at qg0_0 qg0_1 qg0_2 qg0_3 qg0_4
  go_wp2_with fail
  clear ow0_0 ow0_1 ow0_2 ow0_3 ow0_4 olw0
  generalize w3_.alloc (Obj.cells #[.int .i64 r0_1.turns, .int .i64 r0_1.seconds, .int .i64 r0_1.speaking, .slice fa0_3_3 fn0_3_3 fc0_3_3, .slice fa0_3_4 fn0_3_4 fc0_3_4] 25) = w4_ at *
  refine (LFloor.eq _ _ r0_1 _ HR0_3.out.now.1.is HR0_1.out.now.1.is).mono ?_
  rintro e w5_ ⟨rfl, hb1⟩
  replace HR0_1 := Lib.hid (HR0_1.out.kept hb1)
  replace HXw0 := Lib.hid (HXw0.out.kept hb1)
  replace HR0_3 := Lib.hid (HR0_3.out.kept hb1)
  replace HXg0 := Lib.hid (HXg0.out.kept hb1)
  clear qw0_0 qw0_1 qw0_2 qw0_3 qw0_4
  have qw0_0 := HXw0.out.now.cell 0
  have qw0_1 := HXw0.out.now.cell 1
  have qw0_2 := HXw0.out.now.cell 2
  have qw0_3 := HXw0.out.now.cell 3
  have qw0_4 := HXw0.out.now.cell 4
  simp only [List.getElem?_toArray, List.getElem?_cons_zero, List.getElem?_cons_succ] at qw0_0 qw0_1 qw0_2 qw0_3 qw0_4
  clear qg0_0 qg0_1 qg0_2 qg0_3 qg0_4
  have qg0_0 := HXg0.out.now.cell 0
  have qg0_1 := HXg0.out.now.cell 1
  have qg0_2 := HXg0.out.now.cell 2
  have qg0_3 := HXg0.out.now.cell 3
  have qg0_4 := HXg0.out.now.cell 4
  simp only [List.getElem?_toArray, List.getElem?_cons_zero, List.getElem?_cons_succ] at qg0_0 qg0_1 qg0_2 qg0_3 qg0_4
  have HZ5 := Lib.hid hb1.size
  replace hb := hb.trans (hb1.mono hb.size)
  clear hb1
  go_wp2_with fail
  refine (LFloor.mark _ _ 1 _ r0_1 _ (by omega) (by omega) HR0_3.out.le HR0_3.out.now).mono ?_
  rintro e w6_ ⟨rfl, ho, hap⟩
  replace HR0_1 := Lib.hid (HR0_1.out.apart hap (by have := HZ1.out; have := HZ2.out; have := HZ3.out; have := HZ4.out; have := HZ5.out; omega))
  replace HXw0 := Lib.hid (HXw0.out.apart hap (by have := HZ1.out; have := HZ2.out; have := HZ3.out; have := HZ4.out; have := HZ5.out; omega))
  replace HXg0 := Lib.hid (HXg0.out.apart hap (by have := HZ1.out; have := HZ2.out; have := HZ3.out; have := HZ4.out; have := HZ5.out; omega))
  have hlow := hap.below (B' := w.heap.size) (by have := hb.size; have := HZ1.out; have := HZ2.out; have := HZ3.out; have := HZ4.out; have := HZ5.out; omega) hb.size
  replace HR0_3 := Lib.hid (ho.loc (by have := hap.size; have := HZ1.out; have := HZ2.out; have := HZ3.out; have := HZ4.out; have := HZ5.out; omega))
  have HZ6 := Lib.hid hap.size
  replace hb := hb.trans hlow
  clear ho hap hlow
  clear qw0_0 qw0_1 qw0_2 qw0_3 qw0_4
  have qw0_0 := HXw0.out.now.cell 0
  have qw0_1 := HXw0.out.now.cell 1
  have qw0_2 := HXw0.out.now.cell 2
  have qw0_3 := HXw0.out.now.cell 3
  have qw0_4 := HXw0.out.now.cell 4
  simp only [List.getElem?_toArray, List.getElem?_cons_zero, List.getElem?_cons_succ] at qw0_0 qw0_1 qw0_2 qw0_3 qw0_4
  clear qg0_0 qg0_1 qg0_2 qg0_3 qg0_4
  have qg0_0 := HXg0.out.now.cell 0
  have qg0_1 := HXg0.out.now.cell 1
  have qg0_2 := HXg0.out.now.cell 2
  have qg0_3 := HXg0.out.now.cell 3
  have qg0_4 := HXg0.out.now.cell 4
  simp only [List.getElem?_toArray, List.getElem?_cons_zero, List.getElem?_cons_succ] at qg0_0 qg0_1 qg0_2 qg0_3 qg0_4
  go_wp2_with fail
  refine (LFloor.held _ 1 _ r0_1 _ (by omega) (by omega) HR0_3.out.now.1).mono ?_
  rintro e w7_ ⟨rfl, hb1⟩
  replace HR0_1 := Lib.hid (HR0_1.out.kept hb1)
  replace HXw0 := Lib.hid (HXw0.out.kept hb1)
  replace HR0_3 := Lib.hid (HR0_3.out.kept hb1)
  replace HXg0 := Lib.hid (HXg0.out.kept hb1)
  clear qw0_0 qw0_1 qw0_2 qw0_3 qw0_4
  have qw0_0 := HXw0.out.now.cell 0
  have qw0_1 := HXw0.out.now.cell 1
  have qw0_2 := HXw0.out.now.cell 2
  have qw0_3 := HXw0.out.now.cell 3
  have qw0_4 := HXw0.out.now.cell 4
  simp only [List.getElem?_toArray, List.getElem?_cons_zero, List.getElem?_cons_succ] at qw0_0 qw0_1 qw0_2 qw0_3 qw0_4
  clear qg0_0 qg0_1 qg0_2 qg0_3 qg0_4
  have qg0_0 := HXg0.out.now.cell 0
  have qg0_1 := HXg0.out.now.cell 1
  have qg0_2 := HXg0.out.now.cell 2
  have qg0_3 := HXg0.out.now.cell 3
  have qg0_4 := HXg0.out.now.cell 4
  simp only [List.getElem?_toArray, List.getElem?_cons_zero, List.getElem?_cons_succ] at qg0_0 qg0_1 qg0_2 qg0_3 qg0_4
  have HZ7 := Lib.hid hb1.size
  replace hb := hb.trans (hb1.mono hb.size)
  clear hb1
  go_wp2_with fail
  refine (NewFloorC.impl a0 a1 _ ).mono ?_
  rintro e w8_ ⟨v0_8, r0_8, r1_8, rfl, hans, ho0, hb1⟩
  obtain ⟨rfl, rfl⟩ := NewFloorC.same HS.out hans
  clear hans
  obtain ⟨fa0_8_3, fn0_8_3, fc0_8_3, fa0_8_4, fn0_8_4, fc0_8_4, rfl⟩ := ho0.form
  have HR0_8 := Lib.hid ho0.loc
  clear ho0
  replace HR0_1 := Lib.hid (HR0_1.out.kept hb1)
  replace HXw0 := Lib.hid (HXw0.out.kept hb1)
  replace HR0_3 := Lib.hid (HR0_3.out.kept hb1)
  replace HXg0 := Lib.hid (HXg0.out.kept hb1)
  clear qw0_0 qw0_1 qw0_2 qw0_3 qw0_4
  have qw0_0 := HXw0.out.now.cell 0
  have qw0_1 := HXw0.out.now.cell 1
  have qw0_2 := HXw0.out.now.cell 2
  have qw0_3 := HXw0.out.now.cell 3
  have qw0_4 := HXw0.out.now.cell 4
  simp only [List.getElem?_toArray, List.getElem?_cons_zero, List.getElem?_cons_succ] at qw0_0 qw0_1 qw0_2 qw0_3 qw0_4
  clear qg0_0 qg0_1 qg0_2 qg0_3 qg0_4
  have qg0_0 := HXg0.out.now.cell 0
  have qg0_1 := HXg0.out.now.cell 1
  have qg0_2 := HXg0.out.now.cell 2
  have qg0_3 := HXg0.out.now.cell 3
  have qg0_4 := HXg0.out.now.cell 4
  simp only [List.getElem?_toArray, List.getElem?_cons_zero, List.getElem?_cons_succ] at qg0_0 qg0_1 qg0_2 qg0_3 qg0_4
  have HZ8 := Lib.hid hb1.size
  replace hb := hb.trans (hb1.mono hb.size)
  clear hb1
  have ow0_0 := qw0_0
  have ow0_1 := qw0_1
  have ow0_2 := qw0_2
  have ow0_3 := qw0_3
  have ow0_4 := qw0_4
  have olw0 := HXw0.out.le
  have og0_0 := qg0_0
  have og0_1 := qg0_1
  have og0_2 := qg0_2
  have og0_3 := qg0_3
  have og0_4 := qg0_4
  have olg0 := HXg0.out.le
  have hbx := (Below.refl w8_.heap.size w8_).alloc (Nat.le_refl _) (Obj.cells #[.int .i64 r0_1.turns, .int .i64 r0_1.seconds, .int .i64 r0_1.speaking, .slice fa0_8_3 fn0_8_3 fc0_8_3, .slice fa0_8_4 fn0_8_4 fc0_8_4] 25)
  replace HR0_1 := Lib.hid (HR0_1.out.kept hbx)
  replace HXw0 := Lib.hid (HXw0.out.kept hbx)
  replace HR0_3 := Lib.hid (HR0_3.out.kept hbx)
  replace HXg0 := Lib.hid (HXg0.out.kept hbx)
  replace HR0_8 := Lib.hid (HR0_8.out.kept hbx)
  have HXh0 := Lib.hid (Bx.loc (Bx.new w8_ 25 #[.int .i64 r0_1.turns, .int .i64 r0_1.seconds, .int .i64 r0_1.speaking, .slice fa0_8_3 fn0_8_3 fc0_8_3, .slice fa0_8_4 fn0_8_4 fc0_8_4]))
  have HZ9 := Lib.hid (show w8_.heap.size + 1 ≤ (w8_.alloc (Obj.cells #[.int .i64 r0_1.turns, .int .i64 r0_1.seconds, .int .i64 r0_1.speaking, .slice fa0_8_3 fn0_8_3 fc0_8_3, .slice fa0_8_4 fn0_8_4 fc0_8_4] 25)).heap.size by simp)
  replace hb := hb.trans (hbx.mono hb.size)
  clear hbx
  clear qw0_0 qw0_1 qw0_2 qw0_3 qw0_4
  have qw0_0 := HXw0.out.now.cell 0
  have qw0_1 := HXw0.out.now.cell 1
  have qw0_2 := HXw0.out.now.cell 2
  have qw0_3 := HXw0.out.now.cell 3
  have qw0_4 := HXw0.out.now.cell 4
  simp only [List.getElem?_toArray, List.getElem?_cons_zero, List.getElem?_cons_succ] at qw0_0 qw0_1 qw0_2 qw0_3 qw0_4
  clear qg0_0 qg0_1 qg0_2 qg0_3 qg0_4
  have qg0_0 := HXg0.out.now.cell 0
  have qg0_1 := HXg0.out.now.cell 1
  have qg0_2 := HXg0.out.now.cell 2
  have qg0_3 := HXg0.out.now.cell 3
  have qg0_4 := HXg0.out.now.cell 4
  simp only [List.getElem?_toArray, List.getElem?_cons_zero, List.getElem?_cons_succ] at qg0_0 qg0_1 qg0_2 qg0_3 qg0_4
  have qh0_0 := HXh0.out.now.cell 0
  have qh0_1 := HXh0.out.now.cell 1
  have qh0_2 := HXh0.out.now.cell 2
  have qh0_3 := HXh0.out.now.cell 3
  have qh0_4 := HXh0.out.now.cell 4
  simp only [List.getElem?_toArray, List.getElem?_cons_zero, List.getElem?_cons_succ] at qh0_0 qh0_1 qh0_2 qh0_3 qh0_4
  go_wp2_with fail
  clear ow0_0 ow0_1 ow0_2 ow0_3 ow0_4 olw0 og0_0 og0_1 og0_2 og0_3 og0_4 olg0
  generalize w8_.alloc (Obj.cells #[.int .i64 r0_1.turns, .int .i64 r0_1.seconds, .int .i64 r0_1.speaking, .slice fa0_8_3 fn0_8_3 fc0_8_3, .slice fa0_8_4 fn0_8_4 fc0_8_4] 25) = w9_ at *
  refine (LFloor.eq _ _ r0_1 _ HR0_8.out.now.1.is HR0_1.out.now.1.is).mono ?_
  rintro e w10_ ⟨rfl, hb1⟩
  replace HR0_1 := Lib.hid (HR0_1.out.kept hb1)
  replace HXw0 := Lib.hid (HXw0.out.kept hb1)
  replace HR0_3 := Lib.hid (HR0_3.out.kept hb1)
  replace HXg0 := Lib.hid (HXg0.out.kept hb1)
  replace HR0_8 := Lib.hid (HR0_8.out.kept hb1)
  replace HXh0 := Lib.hid (HXh0.out.kept hb1)
  clear qw0_0 qw0_1 qw0_2 qw0_3 qw0_4
  have qw0_0 := HXw0.out.now.cell 0
  have qw0_1 := HXw0.out.now.cell 1
  have qw0_2 := HXw0.out.now.cell 2
  have qw0_3 := HXw0.out.now.cell 3
  have qw0_4 := HXw0.out.now.cell 4
  simp only [List.getElem?_toArray, List.getElem?_cons_zero, List.getElem?_cons_succ] at qw0_0 qw0_1 qw0_2 qw0_3 qw0_4
  clear qg0_0 qg0_1 qg0_2 qg0_3 qg0_4
  have qg0_0 := HXg0.out.now.cell 0
  have qg0_1 := HXg0.out.now.cell 1
  have qg0_2 := HXg0.out.now.cell 2
  have qg0_3 := HXg0.out.now.cell 3
  have qg0_4 := HXg0.out.now.cell 4
  simp only [List.getElem?_toArray, List.getElem?_cons_zero, List.getElem?_cons_succ] at qg0_0 qg0_1 qg0_2 qg0_3 qg0_4
  clear qh0_0 qh0_1 qh0_2 qh0_3 qh0_4
  have qh0_0 := HXh0.out.now.cell 0
  have qh0_1 := HXh0.out.now.cell 1
  have qh0_2 := HXh0.out.now.cell 2
  have qh0_3 := HXh0.out.now.cell 3
  have qh0_4 := HXh0.out.now.cell 4
  simp only [List.getElem?_toArray, List.getElem?_cons_zero, List.getElem?_cons_succ] at qh0_0 qh0_1 qh0_2 qh0_3 qh0_4
  have HZ10 := Lib.hid hb1.size
  replace hb := hb.trans (hb1.mono hb.size)
  clear hb1
  go_wp2_with fail
  refine (LFloor.held _ 1 _ r0_1 _ (by omega) (by omega) HR0_3.out.now.1).mono ?_
  rintro e w11_ ⟨rfl, hb1⟩
  replace HR0_1 := Lib.hid (HR0_1.out.kept hb1)
  replace HXw0 := Lib.hid (HXw0.out.kept hb1)
  replace HR0_3 := Lib.hid (HR0_3.out.kept hb1)
  replace HXg0 := Lib.hid (HXg0.out.kept hb1)
  replace HR0_8 := Lib.hid (HR0_8.out.kept hb1)
  replace HXh0 := Lib.hid (HXh0.out.kept hb1)
  clear qw0_0 qw0_1 qw0_2 qw0_3 qw0_4
  have qw0_0 := HXw0.out.now.cell 0
  have qw0_1 := HXw0.out.now.cell 1
  have qw0_2 := HXw0.out.now.cell 2
  have qw0_3 := HXw0.out.now.cell 3
  have qw0_4 := HXw0.out.now.cell 4
  simp only [List.getElem?_toArray, List.getElem?_cons_zero, List.getElem?_cons_succ] at qw0_0 qw0_1 qw0_2 qw0_3 qw0_4
  clear qg0_0 qg0_1 qg0_2 qg0_3 qg0_4
  have qg0_0 := HXg0.out.now.cell 0
  have qg0_1 := HXg0.out.now.cell 1
  have qg0_2 := HXg0.out.now.cell 2
  have qg0_3 := HXg0.out.now.cell 3
  have qg0_4 := HXg0.out.now.cell 4
  simp only [List.getElem?_toArray, List.getElem?_cons_zero, List.getElem?_cons_succ] at qg0_0 qg0_1 qg0_2 qg0_3 qg0_4
  clear qh0_0 qh0_1 qh0_2 qh0_3 qh0_4
  have qh0_0 := HXh0.out.now.cell 0
  have qh0_1 := HXh0.out.now.cell 1
  have qh0_2 := HXh0.out.now.cell 2
  have qh0_3 := HXh0.out.now.cell 3
  have qh0_4 := HXh0.out.now.cell 4
  simp only [List.getElem?_toArray, List.getElem?_cons_zero, List.getElem?_cons_succ] at qh0_0 qh0_1 qh0_2 qh0_3 qh0_4
  have HZ11 := Lib.hid hb1.size
  replace hb := hb.trans (hb1.mono hb.size)
  clear hb1
  go_wp2_with fail
  go_ret
  exact ⟨rfl, hb⟩
end Go.Proofs.Ytjphhcmhangkkaa.fnExactNewFloor
