/- FnExactRuleLine: the law's walk, for every record. -/
import Derived.Test.YtmbcjlmapjboaaaDoorLRuleO
import Derived.Test.YtmbcjlmapjboaaaDoorLRuleT
import Derived.Test.YtmbcjlmapjboaaaDoorLRuleZ
import Derived.Test.YtmbcjlmapjboaaaDoorLaid
import Derived.Test.YtmbcjlmapjboaaaDoorLineI
namespace Go.Proofs.YtmbcjlmapjboaaaDoor.fnExactRuleLine
open Go.RowKit Bs
set_option linter.unusedVariables false
set_option maxRecDepth 100000 in
set_option maxHeartbeats 1600000 in
theorem walk (a0 : LRule.R) (w : World) (sh : w.ShapedOpen Tryd.prog) (vp : Laid.Pow w) (w0 : LRule.Fit a0) :
    Calls Tryd.prog 3 #[.agg #[.int .i64 a0.id, .string a0.name, .int .i64 a0.rank, .bool a0.sec, .bool a0.deb, .bool a0.am, .int .i64 a0.need]] w fun e w' => e = .returned (.bool true) ∧ Below w.heap.size w w' := by
  have HF0 := Lib.hid (LRule.fine_of w0)
  clear sh w0 vp
  go_enter Tryd.func3, Tryd.ntmps3
  have HX0 := Lib.hid (Bs.boxLoc LRule.rec (LRule.box w a0 23))
  have hb := (Below.refl w.heap.size w).alloc (Nat.le_refl _) (Obj.cells #[.int .i64 a0.id, .string a0.name, .int .i64 a0.rank, .bool a0.sec, .bool a0.deb, .bool a0.am, .int .i64 a0.need] 23)
  obtain ⟨q0_0, q0_1, q0_2, q0_3, q0_4, q0_5, q0_6⟩ := LRule.cells0 HX0.out.now
  go_wp2_with fail
  refine (LRule.sz a0 _ _ (by omega) (by omega) HF0.out).mono ?_
  rintro e w1_ ⟨hb1, x, rfl, ⟨hx0, hxl⟩ | ⟨rfl, hxl⟩⟩
  · clear hxl
    go_wp2_with fail
    go_ret
    exact ⟨rfl, hb.trans (hb1.mono hb.size)⟩
  have hbud0 := hxl
  clear hxl
  replace HX0 := Lib.hid (HX0.out.kept hb1)
  clear q0_0 q0_1 q0_2 q0_3 q0_4 q0_5 q0_6
  obtain ⟨q0_0, q0_1, q0_2, q0_3, q0_4, q0_5, q0_6⟩ := LRule.cells0 HX0.out.now
  have HZ1 := Lib.hid (show w.heap.size + 1 ≤ w1_.heap.size by have := hb1.size; simp at this; omega)
  replace hb := hb.trans (hb1.mono hb.size)
  clear hb1
  go_wp2_with fail
  refine (LRule.to a0 _).mono ?_
  rintro e w2_ ⟨rfl, hb1⟩
  replace HX0 := Lib.hid (HX0.out.kept hb1)
  clear q0_0 q0_1 q0_2 q0_3 q0_4 q0_5 q0_6
  obtain ⟨q0_0, q0_1, q0_2, q0_3, q0_4, q0_5, q0_6⟩ := LRule.cells0 HX0.out.now
  have HZ2 := Lib.hid hb1.size
  replace hb := hb.trans (hb1.mono hb.size)
  clear hb1
  go_wp2_with fail
  refine (LineI.spec a0 _ HF0.out).mono ?_
  rintro e w3_ ⟨r0_3, r1_3, rfl, hans, hb1⟩
  have HS := Lib.hid hans
  clear hans
  replace HX0 := Lib.hid (HX0.out.kept hb1)
  clear q0_0 q0_1 q0_2 q0_3 q0_4 q0_5 q0_6
  obtain ⟨q0_0, q0_1, q0_2, q0_3, q0_4, q0_5, q0_6⟩ := LRule.cells0 HX0.out.now
  have HZ3 := Lib.hid hb1.size
  replace hb := hb.trans (hb1.mono hb.size)
  clear hb1
  have hne0 : (r0_3.toList != r0_3.toList) = false := by simp
  have hne1 : (r1_3 != r1_3) = false := by simp
  go_wp2_with fail
  refine (LRule.to a0 _).mono ?_
  rintro e w4_ ⟨rfl, hb1⟩
  replace HX0 := Lib.hid (HX0.out.kept hb1)
  clear q0_0 q0_1 q0_2 q0_3 q0_4 q0_5 q0_6
  obtain ⟨q0_0, q0_1, q0_2, q0_3, q0_4, q0_5, q0_6⟩ := LRule.cells0 HX0.out.now
  have HZ4 := Lib.hid hb1.size
  replace hb := hb.trans (hb1.mono hb.size)
  clear hb1
  go_wp2_with fail
  refine (LineI.impl a0 _ HF0.out).mono ?_
  rintro e w5_ ⟨r0_5, r1_5, rfl, hans, hb1⟩
  obtain ⟨rfl, rfl⟩ := LineI.same HS.out hans
  clear hans
  replace HX0 := Lib.hid (HX0.out.kept hb1)
  clear q0_0 q0_1 q0_2 q0_3 q0_4 q0_5 q0_6
  obtain ⟨q0_0, q0_1, q0_2, q0_3, q0_4, q0_5, q0_6⟩ := LRule.cells0 HX0.out.now
  have HZ5 := Lib.hid hb1.size
  replace hb := hb.trans (hb1.mono hb.size)
  clear hb1
  go_wp2_with fail
  go_ret
  exact ⟨rfl, hb⟩
end Go.Proofs.YtmbcjlmapjboaaaDoor.fnExactRuleLine
