/- FnExactTallyText: the law's walk, for every record. -/
import Derived.Test.YtkdiedmbikkbiaaDoorLTallyO
import Derived.Test.YtkdiedmbikkbiaaDoorLTallyT
import Derived.Test.YtkdiedmbikkbiaaDoorLTallyZ
import Derived.Test.YtkdiedmbikkbiaaDoorLaid
import Derived.Test.YtkdiedmbikkbiaaDoorTallyTextC
namespace Go.Proofs.YtkdiedmbikkbiaaDoor.fnExactTallyText
open Go.RowKit Bs
set_option linter.unusedVariables false
set_option maxRecDepth 100000 in
set_option maxHeartbeats 12800000 in
theorem walk (a0 : LTally.R) (w : World) (sh : w.ShapedOpen Tryd.prog) (vp : Laid.Pow w) (w0 : LTally.Fit a0) :
    Calls Tryd.prog 4 #[.agg #[.int .i64 a0.yes, .int .i64 a0.no, .int .i64 a0.abstain]] w fun e w' => e = .returned (.bool true) ∧ Below w.heap.size w w' := by
  have HF0 := Lib.hid (LTally.fine_of w0)
  have HVP := Lib.hid vp
  clear sh w0 vp
  go_enter Tryd.func4, Tryd.ntmps4
  have HX0 := Lib.hid (Bs.boxLoc LTally.rec (LTally.box w a0 37))
  have hb := (Below.refl w.heap.size w).alloc (Nat.le_refl _) (Obj.cells #[.int .i64 a0.yes, .int .i64 a0.no, .int .i64 a0.abstain] 37)
  obtain ⟨q0_0, q0_1, q0_2⟩ := LTally.cells0 HX0.out.now
  go_wp2_with fail
  refine (LTally.to a0 _).mono ?_
  rintro e w1_ ⟨rfl, hb1⟩
  replace HX0 := Lib.hid (HX0.out.kept hb1)
  clear q0_0 q0_1 q0_2
  obtain ⟨q0_0, q0_1, q0_2⟩ := LTally.cells0 HX0.out.now
  have HZ1 := Lib.hid (show w.heap.size + 1 ≤ w1_.heap.size by have := hb1.size; simp at this; omega)
  replace hb := hb.trans (hb1.mono hb.size)
  clear hb1
  go_wp2_with fail
  refine (TallyTextC.spec a0 _ HF0.out).mono ?_
  rintro e w2_ ⟨r0_2, r1_2, rfl, hans, hb1⟩
  have HS := Lib.hid hans
  clear hans
  replace HX0 := Lib.hid (HX0.out.kept hb1)
  clear q0_0 q0_1 q0_2
  obtain ⟨q0_0, q0_1, q0_2⟩ := LTally.cells0 HX0.out.now
  have HZ2 := Lib.hid hb1.size
  replace hb := hb.trans (hb1.mono hb.size)
  clear hb1
  have hne0 : (r0_2.toList != r0_2.toList) = false := by simp
  have hne1 : (r1_2 != r1_2) = false := by simp
  go_wp2_with fail
  refine (LTally.to a0 _).mono ?_
  rintro e w3_ ⟨rfl, hb1⟩
  replace HX0 := Lib.hid (HX0.out.kept hb1)
  clear q0_0 q0_1 q0_2
  obtain ⟨q0_0, q0_1, q0_2⟩ := LTally.cells0 HX0.out.now
  have HZ3 := Lib.hid hb1.size
  replace hb := hb.trans (hb1.mono hb.size)
  clear hb1
  go_wp2_with fail
  refine (TallyTextC.impl a0 _ HF0.out (Laid.Pow.below HVP.out hb)).mono ?_
  rintro e w4_ ⟨r0_4, r1_4, rfl, hans, hb1⟩
  obtain ⟨rfl, rfl⟩ := TallyTextC.same HS.out hans
  clear hans
  replace HX0 := Lib.hid (HX0.out.kept hb1)
  clear q0_0 q0_1 q0_2
  obtain ⟨q0_0, q0_1, q0_2⟩ := LTally.cells0 HX0.out.now
  have HZ4 := Lib.hid hb1.size
  replace hb := hb.trans (hb1.mono hb.size)
  clear hb1
  go_wp2_with fail
  go_ret
  exact ⟨rfl, hb⟩
end Go.Proofs.YtkdiedmbikkbiaaDoor.fnExactTallyText
