/- FnExactParseRule: the law's walk, for every string. -/
import Derived.Test.YthhlhcojjeglkaaDoorPRuleP
import Derived.Test.YthhlhcojjeglkaaDoorLRuleE
import Derived.Test.YthhlhcojjeglkaaDoorFrame
namespace Go.Proofs.YthhlhcojjeglkaaDoor.fnExactParseRule
open Go.RowKit Bs PRule PRuleW
set_option linter.unusedVariables false
set_option maxRecDepth 100000 in
set_option maxHeartbeats 1600000 in
theorem walk (a0 : ByteArray) (w : World) (sh : w.ShapedOpen Tryd.prog) (vp : Laid.Pow w) (vr : Laid.Err "strconv.ErrRange" w) (vs : Laid.Err "strconv.ErrSyntax" w) (w0 : a0.size ≤ maxLen) :
    Calls Tryd.prog 4 #[.string a0] w fun e w' => e = .returned (.bool true) ∧ Below w.heap.size w w' := by
  clear sh
  have VP := Lib.hid vp
  have VR := Lib.hid vr
  have VS := Lib.hid vs
  clear vp vr vs
  unfold maxLen at w0
  by_cases hbig : 1048576 < a0.size
  · go_enter Tryd.func4, Tryd.ntmps4
    go_wp2_with fail
    go_ret
    exact ⟨rfl, Below.refl _ _⟩
  have hsm : a0.size ≤ 1048576 := by omega
  clear hbig
  go_enter Tryd.func4, Tryd.ntmps4
  go_wp2_with fail
  refine (PRuleP.spec a0 _ hsm).mono ?_
  rintro e w1 ⟨X, b, rfl, hans, hb1⟩
  have HX := Lib.hid hans
  have HB1 := Lib.hid (Bx.new w1 45 (rc X))
  have hb2 := hb1.alloc hb1.size (.cells (rc X) 45)
  simp only [rc] at HB1 hb2
  clear hans hb1
  go_wp2_with fail
  refine (PRuleI.impl a0 _ hsm (VP.out.below hb2) (VR.out.below hb2) (VS.out.below hb2)).mono ?_
  rintro e w3 ⟨Y, b', rfl, hans, hb3⟩
  obtain ⟨rfl, rfl⟩ := HX.out.same hans
  have hb4 := hb2.trans (hb3.mono hb2.size)
  have HB3 : Bx w3 w1.heap.size 45 (rc X) := HB1.out.kept hb3
  have HB4 := HB3.alloc (.cells #[.int .i64 X.id, .string X.name, .int .i64 X.rank, .bool X.sec, .bool X.deb, .bool X.am, .int .i64 X.need] 45)
  have hb5 := hb4.alloc hb4.size (.cells #[.int .i64 X.id, .string X.name, .int .i64 X.rank, .bool X.sec, .bool X.deb, .bool X.am, .int .i64 X.need] 45)
  obtain ⟨q0, q1, q2, q3, q4, q5, q6⟩ := put_cells HB4
  have hne : (b != b) = false := by simp
  clear hans hb3 hb4 hb2 HB1 HB3 HB4 HX
  go_wp2_with fail
  refine (LRule.eq X _).mono ?_
  rintro e w6 ⟨rfl, hb6⟩
  have hb7 := hb5.trans (hb6.mono hb5.size)
  clear hb6 hb5 q0 q1 q2 q3 q4 q5 q6
  go_wp2_with fail
  go_ret
  exact ⟨rfl, hb7⟩
end Go.Proofs.YthhlhcojjeglkaaDoor.fnExactParseRule
