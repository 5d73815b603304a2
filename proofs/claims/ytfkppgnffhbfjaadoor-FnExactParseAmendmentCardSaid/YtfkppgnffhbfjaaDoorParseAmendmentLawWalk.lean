/- FnExactParseAmendment: the law's walk, for every string. -/
import Derived.Test.YtfkppgnffhbfjaaDoorLAmendmentE
import Derived.Test.YtfkppgnffhbfjaaDoorLAmendmentM
import Derived.Test.YtfkppgnffhbfjaaDoorLaid
import Derived.Test.YtfkppgnffhbfjaaDoorPAmH
import Derived.Test.YtfkppgnffhbfjaaDoorParseAmendmentC
namespace Go.Proofs.YtfkppgnffhbfjaaDoor.fnExactParseAmendment
open Go.RowKit Bs
set_option linter.unusedVariables false
set_option maxRecDepth 100000 in
set_option maxHeartbeats 12800000 in
theorem walk (a0 : ByteArray) (w : World) (sh : w.ShapedOpen Tryd.prog) (vp : Laid.Pow w) (vr : Laid.Err "strconv.ErrRange" w) (vs : Laid.Err "strconv.ErrSyntax" w) (w0 : a0.size ≤ maxLen) :
    Calls Tryd.prog 4 #[.string a0] w fun e w' => e = .returned (.bool true) ∧ Below w.heap.size w w' := by
  unfold maxLen at w0
  have HVP := Lib.hid vp
  have HVR := Lib.hid vr
  have HVS := Lib.hid vs
  have HVM := Lib.hid (PAmH.Mx.of sh)
  clear sh vp vr vs
  by_cases hbig0 : 1048576 < a0.size
  · go_enter Tryd.func4, Tryd.ntmps4
    go_wp2_with fail
    go_ret
    exact ⟨rfl, (Below.refl _ _)⟩
  have hs0 : a0.size ≤ 1048576 := by omega
  clear w0
  go_enter Tryd.func4, Tryd.ntmps4
  go_wp2_with fail
  refine (ParseAmendmentC.spec a0 _ hs0).mono ?_
  rintro e w1_ ⟨v0_1, r0_1, r1_1, rfl, hans, ho0, hb1⟩
  have HS := Lib.hid hans
  have hlen0_3 := ParseAmendmentC.len0 hans
  clear hans
  obtain ⟨fa0_1_3, fn0_1_3, fc0_1_3, rfl⟩ := ho0.form
  have HR0_1 := Lib.hid ho0.loc
  clear ho0
  have HZ1 := Lib.hid hb1.size
  have hb := hb1
  clear hb1
  have hne1 : (r1_1 != r1_1) = false := by simp
  have hbx := (Below.refl w1_.heap.size w1_).alloc (Nat.le_refl _) (Obj.cells #[.int .i64 r0_1.kind, .int .i64 r0_1.pos, .int .i64 r0_1.count, .slice fa0_1_3 fn0_1_3 fc0_1_3] 28)
  replace HR0_1 := Lib.hid (HR0_1.out.kept hbx)
  have HXw0 := Lib.hid (Bx.loc (Bx.new w1_ 28 #[.int .i64 r0_1.kind, .int .i64 r0_1.pos, .int .i64 r0_1.count, .slice fa0_1_3 fn0_1_3 fc0_1_3]))
  have HZ2 := Lib.hid (show w1_.heap.size + 1 ≤ (w1_.alloc (Obj.cells #[.int .i64 r0_1.kind, .int .i64 r0_1.pos, .int .i64 r0_1.count, .slice fa0_1_3 fn0_1_3 fc0_1_3] 28)).heap.size by simp)
  replace hb := hb.trans (hbx.mono hb.size)
  clear hbx
  have qw0_0 := HXw0.out.now.cell 0
  have qw0_1 := HXw0.out.now.cell 1
  have qw0_2 := HXw0.out.now.cell 2
  have qw0_3 := HXw0.out.now.cell 3
  simp only [List.getElem?_toArray, List.getElem?_cons_zero, List.getElem?_cons_succ] at qw0_0 qw0_1 qw0_2 qw0_3
  go_wp2_with fail
  generalize w1_.alloc (Obj.cells #[.int .i64 r0_1.kind, .int .i64 r0_1.pos, .int .i64 r0_1.count, .slice fa0_1_3 fn0_1_3 fc0_1_3] 28) = w2_ at *
  refine (ParseAmendmentC.impl a0 _ hs0 (Laid.Pow.below HVP.out hb) (Laid.Err.below HVR.out hb) (Laid.Err.below HVS.out hb) (PAmH.Mx.below HVM.out hb)).mono ?_
  rintro e w3_ ⟨v0_3, r0_3, r1_3, rfl, hans, ho0, hb1⟩
  obtain ⟨rfl, rfl⟩ := ParseAmendmentC.same HS.out hans
  clear hans
  obtain ⟨fa0_3_3, fn0_3_3, fc0_3_3, rfl⟩ := ho0.form
  have HR0_3 := Lib.hid ho0.loc
  clear ho0
  replace HR0_1 := Lib.hid (HR0_1.out.kept hb1)
  replace HXw0 := Lib.hid (HXw0.out.kept hb1)
  clear qw0_0 qw0_1 qw0_2 qw0_3
  have qw0_0 := HXw0.out.now.cell 0
  have qw0_1 := HXw0.out.now.cell 1
  have qw0_2 := HXw0.out.now.cell 2
  have qw0_3 := HXw0.out.now.cell 3
  simp only [List.getElem?_toArray, List.getElem?_cons_zero, List.getElem?_cons_succ] at qw0_0 qw0_1 qw0_2 qw0_3
  have HZ3 := Lib.hid hb1.size
  replace hb := hb.trans (hb1.mono hb.size)
  clear hb1
  have ow0_0 := qw0_0
  have ow0_1 := qw0_1
  have ow0_2 := qw0_2
  have ow0_3 := qw0_3
  have olw0 := HXw0.out.le
  have hbx := (Below.refl w3_.heap.size w3_).alloc (Nat.le_refl _) (Obj.cells #[.int .i64 r0_1.kind, .int .i64 r0_1.pos, .int .i64 r0_1.count, .slice fa0_3_3 fn0_3_3 fc0_3_3] 28)
  replace HR0_1 := Lib.hid (HR0_1.out.kept hbx)
  replace HXw0 := Lib.hid (HXw0.out.kept hbx)
  replace HR0_3 := Lib.hid (HR0_3.out.kept hbx)
  have HXg0 := Lib.hid (Bx.loc (Bx.new w3_ 28 #[.int .i64 r0_1.kind, .int .i64 r0_1.pos, .int .i64 r0_1.count, .slice fa0_3_3 fn0_3_3 fc0_3_3]))
  have HZ4 := Lib.hid (show w3_.heap.size + 1 ≤ (w3_.alloc (Obj.cells #[.int .i64 r0_1.kind, .int .i64 r0_1.pos, .int .i64 r0_1.count, .slice fa0_3_3 fn0_3_3 fc0_3_3] 28)).heap.size by simp)
  replace hb := hb.trans (hbx.mono hb.size)
  clear hbx
  clear qw0_0 qw0_1 qw0_2 qw0_3
  have qw0_0 := HXw0.out.now.cell 0
  have qw0_1 := HXw0.out.now.cell 1
  have qw0_2 := HXw0.out.now.cell 2
  have qw0_3 := HXw0.out.now.cell 3
  simp only [List.getElem?_toArray, List.getElem?_cons_zero, List.getElem?_cons_succ] at qw0_0 qw0_1 qw0_2 qw0_3
  have qg0_0 := HXg0.out.now.cell 0
  have qg0_1 := HXg0.out.now.cell 1
  have qg0_2 := HXg0.out.now.cell 2
  have qg0_3 := HXg0.out.now.cell 3
  simp only [List.getElem?_toArray, List.getElem?_cons_zero, List.getElem?_cons_succ] at qg0_0 qg0_1 qg0_2 qg0_3
  go_wp2_with fail
  clear ow0_0 ow0_1 ow0_2 ow0_3 olw0
  generalize w3_.alloc (Obj.cells #[.int .i64 r0_1.kind, .int .i64 r0_1.pos, .int .i64 r0_1.count, .slice fa0_3_3 fn0_3_3 fc0_3_3] 28) = w4_ at *
  refine (LAmendment.eq _ _ r0_1 _ HR0_3.out.now.1.is HR0_1.out.now.1.is).mono ?_
  rintro e w5_ ⟨rfl, hb1⟩
  replace HR0_1 := Lib.hid (HR0_1.out.kept hb1)
  replace HXw0 := Lib.hid (HXw0.out.kept hb1)
  replace HR0_3 := Lib.hid (HR0_3.out.kept hb1)
  replace HXg0 := Lib.hid (HXg0.out.kept hb1)
  clear qw0_0 qw0_1 qw0_2 qw0_3
  have qw0_0 := HXw0.out.now.cell 0
  have qw0_1 := HXw0.out.now.cell 1
  have qw0_2 := HXw0.out.now.cell 2
  have qw0_3 := HXw0.out.now.cell 3
  simp only [List.getElem?_toArray, List.getElem?_cons_zero, List.getElem?_cons_succ] at qw0_0 qw0_1 qw0_2 qw0_3
  clear qg0_0 qg0_1 qg0_2 qg0_3
  have qg0_0 := HXg0.out.now.cell 0
  have qg0_1 := HXg0.out.now.cell 1
  have qg0_2 := HXg0.out.now.cell 2
  have qg0_3 := HXg0.out.now.cell 3
  simp only [List.getElem?_toArray, List.getElem?_cons_zero, List.getElem?_cons_succ] at qg0_0 qg0_1 qg0_2 qg0_3
  have HZ5 := Lib.hid hb1.size
  replace hb := hb.trans (hb1.mono hb.size)
  clear hb1
  go_wp2_with fail
  refine (LAmendment.mark _ _ 1 _ r0_1 _ (by omega) (by omega) HR0_3.out.le HR0_3.out.now).mono ?_
  rintro e w6_ ⟨rfl, ho, hap⟩
  replace HR0_1 := Lib.hid (HR0_1.out.apart hap (by have := HZ1.out; have := HZ2.out; have := HZ3.out; have := HZ4.out; have := HZ5.out; omega))
  replace HXw0 := Lib.hid (HXw0.out.apart hap (by have := HZ1.out; have := HZ2.out; have := HZ3.out; have := HZ4.out; have := HZ5.out; omega))
  replace HXg0 := Lib.hid (HXg0.out.apart hap (by have := HZ1.out; have := HZ2.out; have := HZ3.out; have := HZ4.out; have := HZ5.out; omega))
  have hlow := hap.below (B' := w.heap.size) (by have := hb.size; have := HZ1.out; have := HZ2.out; have := HZ3.out; have := HZ4.out; have := HZ5.out; omega) hb.size
  replace HR0_3 := Lib.hid (ho.loc (by have := hap.size; have := HZ1.out; have := HZ2.out; have := HZ3.out; have := HZ4.out; have := HZ5.out; omega))
  have HZ6 := Lib.hid hap.size
  replace hb := hb.trans hlow
  clear ho hap hlow
  clear qw0_0 qw0_1 qw0_2 qw0_3
  have qw0_0 := HXw0.out.now.cell 0
  have qw0_1 := HXw0.out.now.cell 1
  have qw0_2 := HXw0.out.now.cell 2
  have qw0_3 := HXw0.out.now.cell 3
  simp only [List.getElem?_toArray, List.getElem?_cons_zero, List.getElem?_cons_succ] at qw0_0 qw0_1 qw0_2 qw0_3
  clear qg0_0 qg0_1 qg0_2 qg0_3
  have qg0_0 := HXg0.out.now.cell 0
  have qg0_1 := HXg0.out.now.cell 1
  have qg0_2 := HXg0.out.now.cell 2
  have qg0_3 := HXg0.out.now.cell 3
  simp only [List.getElem?_toArray, List.getElem?_cons_zero, List.getElem?_cons_succ] at qg0_0 qg0_1 qg0_2 qg0_3
  go_wp2_with fail
  refine (LAmendment.held _ 1 _ r0_1 _ (by omega) (by omega) HR0_3.out.now.1).mono ?_
  rintro e w7_ ⟨rfl, hb1⟩
  replace HR0_1 := Lib.hid (HR0_1.out.kept hb1)
  replace HXw0 := Lib.hid (HXw0.out.kept hb1)
  replace HR0_3 := Lib.hid (HR0_3.out.kept hb1)
  replace HXg0 := Lib.hid (HXg0.out.kept hb1)
  clear qw0_0 qw0_1 qw0_2 qw0_3
  have qw0_0 := HXw0.out.now.cell 0
  have qw0_1 := HXw0.out.now.cell 1
  have qw0_2 := HXw0.out.now.cell 2
  have qw0_3 := HXw0.out.now.cell 3
  simp only [List.getElem?_toArray, List.getElem?_cons_zero, List.getElem?_cons_succ] at qw0_0 qw0_1 qw0_2 qw0_3
  clear qg0_0 qg0_1 qg0_2 qg0_3
  have qg0_0 := HXg0.out.now.cell 0
  have qg0_1 := HXg0.out.now.cell 1
  have qg0_2 := HXg0.out.now.cell 2
  have qg0_3 := HXg0.out.now.cell 3
  simp only [List.getElem?_toArray, List.getElem?_cons_zero, List.getElem?_cons_succ] at qg0_0 qg0_1 qg0_2 qg0_3
  have HZ7 := Lib.hid hb1.size
  replace hb := hb.trans (hb1.mono hb.size)
  clear hb1
  go_wp2_with fail
  refine (ParseAmendmentC.impl a0 _ hs0 (Laid.Pow.below HVP.out hb) (Laid.Err.below HVR.out hb) (Laid.Err.below HVS.out hb) (PAmH.Mx.below HVM.out hb)).mono ?_
  rintro e w8_ ⟨v0_8, r0_8, r1_8, rfl, hans, ho0, hb1⟩
  obtain ⟨rfl, rfl⟩ := ParseAmendmentC.same HS.out hans
  clear hans
  obtain ⟨fa0_8_3, fn0_8_3, fc0_8_3, rfl⟩ := ho0.form
  have HR0_8 := Lib.hid ho0.loc
  clear ho0
  replace HR0_1 := Lib.hid (HR0_1.out.kept hb1)
  replace HXw0 := Lib.hid (HXw0.out.kept hb1)
  replace HR0_3 := Lib.hid (HR0_3.out.kept hb1)
  replace HXg0 := Lib.hid (HXg0.out.kept hb1)
  clear qw0_0 qw0_1 qw0_2 qw0_3
  have qw0_0 := HXw0.out.now.cell 0
  have qw0_1 := HXw0.out.now.cell 1
  have qw0_2 := HXw0.out.now.cell 2
  have qw0_3 := HXw0.out.now.cell 3
  simp only [List.getElem?_toArray, List.getElem?_cons_zero, List.getElem?_cons_succ] at qw0_0 qw0_1 qw0_2 qw0_3
  clear qg0_0 qg0_1 qg0_2 qg0_3
  have qg0_0 := HXg0.out.now.cell 0
  have qg0_1 := HXg0.out.now.cell 1
  have qg0_2 := HXg0.out.now.cell 2
  have qg0_3 := HXg0.out.now.cell 3
  simp only [List.getElem?_toArray, List.getElem?_cons_zero, List.getElem?_cons_succ] at qg0_0 qg0_1 qg0_2 qg0_3
  have HZ8 := Lib.hid hb1.size
  replace hb := hb.trans (hb1.mono hb.size)
  clear hb1
  have ow0_0 := qw0_0
  have ow0_1 := qw0_1
  have ow0_2 := qw0_2
  have ow0_3 := qw0_3
  have olw0 := HXw0.out.le
  have og0_0 := qg0_0
  have og0_1 := qg0_1
  have og0_2 := qg0_2
  have og0_3 := qg0_3
  have olg0 := HXg0.out.le
  have hbx := (Below.refl w8_.heap.size w8_).alloc (Nat.le_refl _) (Obj.cells #[.int .i64 r0_1.kind, .int .i64 r0_1.pos, .int .i64 r0_1.count, .slice fa0_8_3 fn0_8_3 fc0_8_3] 28)
  replace HR0_1 := Lib.hid (HR0_1.out.kept hbx)
  replace HXw0 := Lib.hid (HXw0.out.kept hbx)
  replace HR0_3 := Lib.hid (HR0_3.out.kept hbx)
  replace HXg0 := Lib.hid (HXg0.out.kept hbx)
  replace HR0_8 := Lib.hid (HR0_8.out.kept hbx)
  have HXh0 := Lib.hid (Bx.loc (Bx.new w8_ 28 #[.int .i64 r0_1.kind, .int .i64 r0_1.pos, .int .i64 r0_1.count, .slice fa0_8_3 fn0_8_3 fc0_8_3]))
  have HZ9 := Lib.hid (show w8_.heap.size + 1 ≤ (w8_.alloc (Obj.cells #[.int .i64 r0_1.kind, .int .i64 r0_1.pos, .int .i64 r0_1.count, .slice fa0_8_3 fn0_8_3 fc0_8_3] 28)).heap.size by simp)
  replace hb := hb.trans (hbx.mono hb.size)
  clear hbx
  clear qw0_0 qw0_1 qw0_2 qw0_3
  have qw0_0 := HXw0.out.now.cell 0
  have qw0_1 := HXw0.out.now.cell 1
  have qw0_2 := HXw0.out.now.cell 2
  have qw0_3 := HXw0.out.now.cell 3
  simp only [List.getElem?_toArray, List.getElem?_cons_zero, List.getElem?_cons_succ] at qw0_0 qw0_1 qw0_2 qw0_3
  clear qg0_0 qg0_1 qg0_2 qg0_3
  have qg0_0 := HXg0.out.now.cell 0
  have qg0_1 := HXg0.out.now.cell 1
  have qg0_2 := HXg0.out.now.cell 2
  have qg0_3 := HXg0.out.now.cell 3
  simp only [List.getElem?_toArray, List.getElem?_cons_zero, List.getElem?_cons_succ] at qg0_0 qg0_1 qg0_2 qg0_3
  have qh0_0 := HXh0.out.now.cell 0
  have qh0_1 := HXh0.out.now.cell 1
  have qh0_2 := HXh0.out.now.cell 2
  have qh0_3 := HXh0.out.now.cell 3
  simp only [List.getElem?_toArray, List.getElem?_cons_zero, List.getElem?_cons_succ] at qh0_0 qh0_1 qh0_2 qh0_3
  go_wp2_with fail
  clear ow0_0 ow0_1 ow0_2 ow0_3 olw0 og0_0 og0_1 og0_2 og0_3 olg0
  generalize w8_.alloc (Obj.cells #[.int .i64 r0_1.kind, .int .i64 r0_1.pos, .int .i64 r0_1.count, .slice fa0_8_3 fn0_8_3 fc0_8_3] 28) = w9_ at *
  refine (LAmendment.eq _ _ r0_1 _ HR0_8.out.now.1.is HR0_1.out.now.1.is).mono ?_
  rintro e w10_ ⟨rfl, hb1⟩
  replace HR0_1 := Lib.hid (HR0_1.out.kept hb1)
  replace HXw0 := Lib.hid (HXw0.out.kept hb1)
  replace HR0_3 := Lib.hid (HR0_3.out.kept hb1)
  replace HXg0 := Lib.hid (HXg0.out.kept hb1)
  replace HR0_8 := Lib.hid (HR0_8.out.kept hb1)
  replace HXh0 := Lib.hid (HXh0.out.kept hb1)
  clear qw0_0 qw0_1 qw0_2 qw0_3
  have qw0_0 := HXw0.out.now.cell 0
  have qw0_1 := HXw0.out.now.cell 1
  have qw0_2 := HXw0.out.now.cell 2
  have qw0_3 := HXw0.out.now.cell 3
  simp only [List.getElem?_toArray, List.getElem?_cons_zero, List.getElem?_cons_succ] at qw0_0 qw0_1 qw0_2 qw0_3
  clear qg0_0 qg0_1 qg0_2 qg0_3
  have qg0_0 := HXg0.out.now.cell 0
  have qg0_1 := HXg0.out.now.cell 1
  have qg0_2 := HXg0.out.now.cell 2
  have qg0_3 := HXg0.out.now.cell 3
  simp only [List.getElem?_toArray, List.getElem?_cons_zero, List.getElem?_cons_succ] at qg0_0 qg0_1 qg0_2 qg0_3
  clear qh0_0 qh0_1 qh0_2 qh0_3
  have qh0_0 := HXh0.out.now.cell 0
  have qh0_1 := HXh0.out.now.cell 1
  have qh0_2 := HXh0.out.now.cell 2
  have qh0_3 := HXh0.out.now.cell 3
  simp only [List.getElem?_toArray, List.getElem?_cons_zero, List.getElem?_cons_succ] at qh0_0 qh0_1 qh0_2 qh0_3
  have HZ10 := Lib.hid hb1.size
  replace hb := hb.trans (hb1.mono hb.size)
  clear hb1
  go_wp2_with fail
  refine (LAmendment.held _ 1 _ r0_1 _ (by omega) (by omega) HR0_3.out.now.1).mono ?_
  rintro e w11_ ⟨rfl, hb1⟩
  replace HR0_1 := Lib.hid (HR0_1.out.kept hb1)
  replace HXw0 := Lib.hid (HXw0.out.kept hb1)
  replace HR0_3 := Lib.hid (HR0_3.out.kept hb1)
  replace HXg0 := Lib.hid (HXg0.out.kept hb1)
  replace HR0_8 := Lib.hid (HR0_8.out.kept hb1)
  replace HXh0 := Lib.hid (HXh0.out.kept hb1)
  clear qw0_0 qw0_1 qw0_2 qw0_3
  have qw0_0 := HXw0.out.now.cell 0
  have qw0_1 := HXw0.out.now.cell 1
  have qw0_2 := HXw0.out.now.cell 2
  have qw0_3 := HXw0.out.now.cell 3
  simp only [List.getElem?_toArray, List.getElem?_cons_zero, List.getElem?_cons_succ] at qw0_0 qw0_1 qw0_2 qw0_3
  clear qg0_0 qg0_1 qg0_2 qg0_3
  have qg0_0 := HXg0.out.now.cell 0
  have qg0_1 := HXg0.out.now.cell 1
  have qg0_2 := HXg0.out.now.cell 2
  have qg0_3 := HXg0.out.now.cell 3
  simp only [List.getElem?_toArray, List.getElem?_cons_zero, List.getElem?_cons_succ] at qg0_0 qg0_1 qg0_2 qg0_3
  clear qh0_0 qh0_1 qh0_2 qh0_3
  have qh0_0 := HXh0.out.now.cell 0
  have qh0_1 := HXh0.out.now.cell 1
  have qh0_2 := HXh0.out.now.cell 2
  have qh0_3 := HXh0.out.now.cell 3
  simp only [List.getElem?_toArray, List.getElem?_cons_zero, List.getElem?_cons_succ] at qh0_0 qh0_1 qh0_2 qh0_3
  have HZ11 := Lib.hid hb1.size
  replace hb := hb.trans (hb1.mono hb.size)
  clear hb1
  go_wp2_with fail
  go_ret
  exact ⟨rfl, hb⟩
end Go.Proofs.YtfkppgnffhbfjaaDoor.fnExactParseAmendment
