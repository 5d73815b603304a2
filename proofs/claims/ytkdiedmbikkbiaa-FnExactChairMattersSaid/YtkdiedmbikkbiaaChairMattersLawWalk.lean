/- FnExactChairMatters: the law's walk, for every number, every record. -/
import Derived.Test.YtkdiedmbikkbiaaChairMattersC
import Derived.Test.YtkdiedmbikkbiaaLTallyO
import Derived.Test.YtkdiedmbikkbiaaLTallyT
import Derived.Test.YtkdiedmbikkbiaaLTallyZ
namespace Go.Proofs.Ytkdiedmbikkbiaa.fnExactChairMatters
open Go.RowKit Bs
set_option linter.unusedVariables false
set_option maxRecDepth 100000 in
set_option maxHeartbeats 12800000 in
theorem walk (a0 : Int) (a1 : LTally.R) (w : World) (sh : w.ShapedOpen Try.prog) (w0 : (Lit.int .i64 a0).wf = true) (w1 : LTally.Fit a1) :
    Calls Try.prog 9 #[.int .i64 a0, .agg #[.int .i64 a1.yes, .int .i64 a1.no, .int .i64 a1.abstain]] w fun e w' => e = .returned (.bool true) ∧ Below w.heap.size w w' := by
  have HF1 := Lib.hid (LTally.fine_of w1)
  have HW0 := Lib.hid w0
  clear sh w0 w1
  go_enter Try.func9, Try.ntmps9
  have HX1 := Lib.hid (Bs.boxLoc LTally.rec (LTally.box w a1 23))
  have hb := (Below.refl w.heap.size w).alloc (Nat.le_refl _) (Obj.cells #[.int .i64 a1.yes, .int .i64 a1.no, .int .i64 a1.abstain] 23)
  obtain ⟨q1_0, q1_1, q1_2⟩ := LTally.cells0 HX1.out.now
  go_wp2_with fail
  refine (LTally.to a1 _).mono ?_
  rintro e w1_ ⟨rfl, hb1⟩
  replace HX1 := Lib.hid (HX1.out.kept hb1)
  clear q1_0 q1_1 q1_2
  obtain ⟨q1_0, q1_1, q1_2⟩ := LTally.cells0 HX1.out.now
  have HZ1 := Lib.hid (show w.heap.size + 1 ≤ w1_.heap.size by have := hb1.size; simp at this; omega)
  replace hb := hb.trans (hb1.mono hb.size)
  clear hb1
  go_wp2_with fail
  refine (ChairMattersC.spec a0 a1 _ HF1.out).mono ?_
  rintro e w2_ ⟨r0_2, r1_2, rfl, hans, hb1⟩
  have HS := Lib.hid hans
  clear hans
  replace HX1 := Lib.hid (HX1.out.kept hb1)
  clear q1_0 q1_1 q1_2
  obtain ⟨q1_0, q1_1, q1_2⟩ := LTally.cells0 HX1.out.now
  have HZ2 := Lib.hid hb1.size
  replace hb := hb.trans (hb1.mono hb.size)
  clear hb1
  have hne0 : (r0_2 != r0_2) = false := by simp
  have hne1 : (r1_2 != r1_2) = false := by simp
  go_wp2_with fail
  refine (LTally.to a1 _).mono ?_
  rintro e w3_ ⟨rfl, hb1⟩
  replace HX1 := Lib.hid (HX1.out.kept hb1)
  clear q1_0 q1_1 q1_2
  obtain ⟨q1_0, q1_1, q1_2⟩ := LTally.cells0 HX1.out.now
  have HZ3 := Lib.hid hb1.size
  replace hb := hb.trans (hb1.mono hb.size)
  clear hb1
  go_wp2_with fail
  refine (ChairMattersC.impl a0 a1 _ HF1.out).mono ?_
  rintro e w4_ ⟨r0_4, r1_4, rfl, hans, hb1⟩
  obtain ⟨rfl, rfl⟩ := ChairMattersC.same HS.out hans
  clear hans
  replace HX1 := Lib.hid (HX1.out.kept hb1)
  clear q1_0 q1_1 q1_2
  obtain ⟨q1_0, q1_1, q1_2⟩ := LTally.cells0 HX1.out.now
  have HZ4 := Lib.hid hb1.size
  replace hb := hb.trans (hb1.mono hb.size)
  clear hb1
  go_wp2_with fail
  go_ret
  exact ⟨rfl, hb⟩
end Go.Proofs.Ytkdiedmbikkbiaa.fnExactChairMatters
