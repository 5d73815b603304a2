/- FnExactParseTally: the law's walk, for every string. -/
import Derived.Test.YtkdiedmbikkbiaaDoorBx
import Derived.Test.YtkdiedmbikkbiaaDoorLTallyD
import Derived.Test.YtkdiedmbikkbiaaDoorLTallyE
import Derived.Test.YtkdiedmbikkbiaaDoorLaid
import Derived.Test.YtkdiedmbikkbiaaDoorParseTallyC
namespace Go.Proofs.YtkdiedmbikkbiaaDoor.fnExactParseTally
open Go.RowKit Bs
set_option linter.unusedVariables false
set_option maxRecDepth 100000 in
set_option maxHeartbeats 12800000 in
theorem walk (a0 : ByteArray) (w : World) (sh : w.ShapedOpen Tryd.prog) (vp : Laid.Pow w) (vr : Laid.Err "strconv.ErrRange" w) (vs : Laid.Err "strconv.ErrSyntax" w) (w0 : a0.size ≤ maxLen) :
    Calls Tryd.prog 5 #[.string a0] w fun e w' => e = .returned (.bool true) ∧ Below w.heap.size w w' := by
  unfold maxLen at w0
  have HVP := Lib.hid vp
  have HVR := Lib.hid vr
  have HVS := Lib.hid vs
  clear sh vp vr vs
  by_cases hbig0 : 1048576 < a0.size
  · go_enter Tryd.func5, Tryd.ntmps5
    go_wp2_with fail
    go_ret
    exact ⟨rfl, (Below.refl _ _)⟩
  have hs0 : a0.size ≤ 1048576 := by omega
  clear w0
  go_enter Tryd.func5, Tryd.ntmps5
  go_wp2_with fail
  refine (ParseTallyC.spec a0 _ hs0).mono ?_
  rintro e w1_ ⟨r0_1, r1_1, rfl, hans, hb1⟩
  have HS := Lib.hid hans
  clear hans
  have HZ1 := Lib.hid hb1.size
  have hb := hb1
  clear hb1
  have hne1 : (r1_1 != r1_1) = false := by simp
  have hbx := (Below.refl w1_.heap.size w1_).alloc (Nat.le_refl _) (Obj.cells #[.int .i64 r0_1.yes, .int .i64 r0_1.no, .int .i64 r0_1.abstain] 25)
  have HXw0 := Lib.hid (Bx.loc (Bx.new w1_ 25 #[.int .i64 r0_1.yes, .int .i64 r0_1.no, .int .i64 r0_1.abstain]))
  have HZ2 := Lib.hid (show w1_.heap.size + 1 ≤ (w1_.alloc (Obj.cells #[.int .i64 r0_1.yes, .int .i64 r0_1.no, .int .i64 r0_1.abstain] 25)).heap.size by simp)
  replace hb := hb.trans (hbx.mono hb.size)
  clear hbx
  have qw0_0 := HXw0.out.now.cell 0
  have qw0_1 := HXw0.out.now.cell 1
  have qw0_2 := HXw0.out.now.cell 2
  simp only [List.getElem?_toArray, List.getElem?_cons_zero, List.getElem?_cons_succ] at qw0_0 qw0_1 qw0_2
  go_wp2_with fail
  generalize w1_.alloc (Obj.cells #[.int .i64 r0_1.yes, .int .i64 r0_1.no, .int .i64 r0_1.abstain] 25) = w2_ at *
  refine (ParseTallyC.impl a0 _ hs0 (Laid.Pow.below HVP.out hb) (Laid.Err.below HVR.out hb) (Laid.Err.below HVS.out hb)).mono ?_
  rintro e w3_ ⟨r0_3, r1_3, rfl, hans, hb1⟩
  obtain ⟨rfl, rfl⟩ := ParseTallyC.same HS.out hans
  clear hans
  replace HXw0 := Lib.hid (HXw0.out.kept hb1)
  clear qw0_0 qw0_1 qw0_2
  have qw0_0 := HXw0.out.now.cell 0
  have qw0_1 := HXw0.out.now.cell 1
  have qw0_2 := HXw0.out.now.cell 2
  simp only [List.getElem?_toArray, List.getElem?_cons_zero, List.getElem?_cons_succ] at qw0_0 qw0_1 qw0_2
  have HZ3 := Lib.hid hb1.size
  replace hb := hb.trans (hb1.mono hb.size)
  clear hb1
  have ow0_0 := qw0_0
  have ow0_1 := qw0_1
  have ow0_2 := qw0_2
  have olw0 := HXw0.out.le
  have hbx := (Below.refl w3_.heap.size w3_).alloc (Nat.le_refl _) (Obj.cells #[.int .i64 r0_1.yes, .int .i64 r0_1.no, .int .i64 r0_1.abstain] 25)
  replace HXw0 := Lib.hid (HXw0.out.kept hbx)
  have HXg0 := Lib.hid (Bx.loc (Bx.new w3_ 25 #[.int .i64 r0_1.yes, .int .i64 r0_1.no, .int .i64 r0_1.abstain]))
  have HZ4 := Lib.hid (show w3_.heap.size + 1 ≤ (w3_.alloc (Obj.cells #[.int .i64 r0_1.yes, .int .i64 r0_1.no, .int .i64 r0_1.abstain] 25)).heap.size by simp)
  replace hb := hb.trans (hbx.mono hb.size)
  clear hbx
  clear qw0_0 qw0_1 qw0_2
  have qw0_0 := HXw0.out.now.cell 0
  have qw0_1 := HXw0.out.now.cell 1
  have qw0_2 := HXw0.out.now.cell 2
  simp only [List.getElem?_toArray, List.getElem?_cons_zero, List.getElem?_cons_succ] at qw0_0 qw0_1 qw0_2
  have qg0_0 := HXg0.out.now.cell 0
  have qg0_1 := HXg0.out.now.cell 1
  have qg0_2 := HXg0.out.now.cell 2
  simp only [List.getElem?_toArray, List.getElem?_cons_zero, List.getElem?_cons_succ] at qg0_0 qg0_1 qg0_2
  go_wp2_with fail
  clear ow0_0 ow0_1 ow0_2 olw0
  generalize w3_.alloc (Obj.cells #[.int .i64 r0_1.yes, .int .i64 r0_1.no, .int .i64 r0_1.abstain] 25) = w4_ at *
  refine (LTally.eq r0_1 _).mono ?_
  rintro e w5_ ⟨rfl, hb1⟩
  replace HXw0 := Lib.hid (HXw0.out.kept hb1)
  replace HXg0 := Lib.hid (HXg0.out.kept hb1)
  clear qw0_0 qw0_1 qw0_2
  have qw0_0 := HXw0.out.now.cell 0
  have qw0_1 := HXw0.out.now.cell 1
  have qw0_2 := HXw0.out.now.cell 2
  simp only [List.getElem?_toArray, List.getElem?_cons_zero, List.getElem?_cons_succ] at qw0_0 qw0_1 qw0_2
  clear qg0_0 qg0_1 qg0_2
  have qg0_0 := HXg0.out.now.cell 0
  have qg0_1 := HXg0.out.now.cell 1
  have qg0_2 := HXg0.out.now.cell 2
  simp only [List.getElem?_toArray, List.getElem?_cons_zero, List.getElem?_cons_succ] at qg0_0 qg0_1 qg0_2
  have HZ5 := Lib.hid hb1.size
  replace hb := hb.trans (hb1.mono hb.size)
  clear hb1
  go_wp2_with fail
  go_ret
  exact ⟨rfl, hb⟩
end Go.Proofs.YtkdiedmbikkbiaaDoor.fnExactParseTally
