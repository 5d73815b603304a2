/- FnExactYesNeeded: the law's walk, for every number, every number. -/
import Derived.Test.YtkdiedmbikkbiaaYesNeededC
namespace Go.Proofs.Ytkdiedmbikkbiaa.fnExactYesNeeded
open Go.RowKit Bs
set_option linter.unusedVariables false
set_option maxRecDepth 100000 in
set_option maxHeartbeats 12800000 in
theorem walk (a0 : Int) (a1 : Int) (w : World) (sh : w.ShapedOpen Try.prog) (w0 : (Lit.int .i64 a0).wf = true) (w1 : (Lit.int .i64 a1).wf = true) :
    Calls Try.prog 5 #[.int .i64 a0, .int .i64 a1] w fun e w' => e = .returned (.bool true) ∧ Below w.heap.size w w' := by
  have HW0 := Lib.hid w0
  have HW1 := Lib.hid w1
  clear sh w0 w1
  go_enter Try.func5, Try.ntmps5
  go_wp2_with fail
  refine (YesNeededC.spec a0 a1 _ ).mono ?_
  rintro e w1_ ⟨r0_1, r1_1, rfl, hans, hb1⟩
  have HS := Lib.hid hans
  clear hans
  have HZ1 := Lib.hid hb1.size
  have hb := hb1
  clear hb1
  have hne0 : (r0_1 != r0_1) = false := by simp
  have hne1 : (r1_1 != r1_1) = false := by simp
  go_wp2_with fail
  refine (YesNeededC.impl a0 a1 _ ).mono ?_
  rintro e w2_ ⟨r0_2, r1_2, rfl, hans, hb1⟩
  obtain ⟨rfl, rfl⟩ := YesNeededC.same HS.out hans
  clear hans
  have HZ2 := Lib.hid hb1.size
  replace hb := hb.trans (hb1.mono hb.size)
  clear hb1
  go_wp2_with fail
  go_ret
  exact ⟨rfl, hb⟩
end Go.Proofs.Ytkdiedmbikkbiaa.fnExactYesNeeded
