/- FnExactRuleByName: the law's walk, for every slice of rules and every name. -/
import Derived.Test.YtmbcjlmapjboaaaByName
import Derived.Test.YtmbcjlmapjboaaaHelpS
import Derived.Test.YtmbcjlmapjboaaaOpenRule
namespace Go.Proofs.Ytmbcjlmapjboaaa.fnExactRuleByName
open Go.RowKit
set_option linter.unusedVariables false
set_option maxHeartbeats 800000 in
theorem walk (a0 : Option Addr) (len0 cap0 : Nat) (z0 : List Rule.R) (a1 : ByteArray) (w : World) (sh : w.ShapedOpen Try.prog) (w0 : OpenRule.IsRules w a0 len0 cap0 z0) (w1 : a1.size ≤ maxLen) :
    Calls Try.prog 7 #[.slice a0 len0 cap0, .string a1] w fun e w' => e = .returned (.bool true) ∧ Below w.heap.size w w' := by
  obtain ⟨hlen, hat, hfit⟩ := w0
  have HL := Lib.hid hlen
  have HA := Lib.hid hat
  have HF := Lib.hid (show ∀ x ∈ z0, x.name.size ≤ maxLen from fun x hx => (hfit x hx).1)
  unfold maxLen at w1
  clear sh hlen hat hfit
  by_cases hbig : 1048576 < a1.size
  · go_enter Try.func7, Try.ntmps7
    go_wp2_with fail
    go_ret
    exact ⟨rfl, Below.refl _ _⟩
  go_enter Try.func7, Try.ntmps7
  go_wp2_with fail
  refine (Help.szRuleS a0 len0 cap0 z0 _ HL.out HA.out HF.out).mono ?_
  rintro e w1 ⟨hb1, r, rfl, ⟨hr, hS⟩ | ⟨hr, _, hS⟩⟩
  · clear hS
    go_wp2_with fail
    go_ret
    exact ⟨rfl, hb1⟩
  · have hlen : len0 ≤ 1048576 := by unfold Help.Small at hS; omega
    clear hS
    have HA1 := Lib.hid (HA.out.below hb1)
    go_wp2_with fail
    refine (HelpS.toRuleS a0 len0 cap0 z0 _ HL.out HA1.out hlen).mono ?_
    rintro e w2 ⟨rfl, hO2, hb2⟩
    have HO2 := Lib.hid hO2
    have hb3 := hb1.trans (hb2.mono hb1.size)
    clear hO2 hb2 HA1
    generalize w1.heap.size = G1 at *
    go_wp2_with fail
    refine (ByName.spec _ len0 len0 z0 a1 _ HL.out HO2.out.rules HF.out).mono ?_
    rintro e w3 ⟨X, b, rfl, hans, hb4⟩
    have HX := Lib.hid hans
    have hb5 := hb3.trans (hb4.mono hb3.size)
    have HBX := Lib.hid (HelpS.Box.new w3 X 26)
    have hb6 := hb5.alloc hb5.size (Obj.cells #[.int .i64 X.id, .string X.name, .int .i64 X.rank, .bool X.sec, .bool X.deb, .bool X.am, .int .i64 X.need] 26)
    have HA3 := Lib.hid (HA.out.below hb6)
    clear hb4 hb5 hans HO2 hb3
    go_wp2_with fail
    refine (HelpS.toRuleS a0 len0 cap0 z0 _ HL.out HA3.out hlen).mono ?_
    rintro e w4 ⟨rfl, hO4, hb7⟩
    have HO4 := Lib.hid hO4
    have HBX2 := Lib.hid (HBX.out.below hb7)
    have hb8 := hb6.trans (hb7.mono hb6.size)
    clear hO4 hb7 HBX hb6 HA3
    generalize w3.heap.size = G3 at *
    generalize (w3.alloc _).heap.size = G4 at *
    go_wp2_with fail
    refine (ByName.impl _ len0 len0 z0 a1 _ HL.out HO4.out.rules HF.out).mono ?_
    rintro e w5 ⟨Y, b', rfl, hans, hb9⟩
    obtain ⟨rfl, rfl⟩ := HX.out.same hans
    have HO5 := Lib.hid ((HO4.out.kept hb9).kept ((Below.refl _ _).alloc (Nat.le_refl _) (Obj.cells #[.int .i64 X.id, .string X.name, .int .i64 X.rank, .bool X.sec, .bool X.deb, .bool X.am, .int .i64 X.need] 26)))
    have HBX3 := Lib.hid (HBX2.out.below hb9)
    have hb10 := hb8.trans (hb9.mono hb8.size)
    have hb11 := hb10.alloc hb10.size (Obj.cells #[.int .i64 X.id, .string X.name, .int .i64 X.rank, .bool X.sec, .bool X.deb, .bool X.am, .int .i64 X.need] 26)
    have hG3 := HBX3.out.1
    obtain ⟨q0, q1, q2, q3, q4, q5, q6⟩ := HBX3.out.2.1.head
    have hne : (b != b) = false := by simp
    clear hb9 hb8 HO4 HBX2 hans hb10 HX
    go_wp2_with fail
    refine (Help.eqRule X _).mono ?_
    rintro e w6 ⟨rfl, hb12⟩
    have hb13 := hb11.trans (hb12.mono hb11.size)
    have HO6 := Lib.hid (HO5.out.kept hb12)
    have HA6 := Lib.hid (HA.out.below hb13)
    clear hb12 HO5 hb11 q0 q1 q2 q3 q4 q5 q6
    go_wp2_with fail
    refine (HelpS.toRuleS a0 len0 cap0 z0 _ HL.out HA6.out hlen).mono ?_
    rintro e w7 ⟨rfl, hO7, hb14⟩
    have HO7 := Lib.hid hO7
    have HO8 := Lib.hid (HO6.out.kept hb14)
    have hb15 := hb13.trans (hb14.mono hb13.size)
    clear hO7 hb14
    go_wp2_with fail
    refine (HelpS.eqRuleS _ _ len0 len0 len0 z0 _ HL.out HO8.out.rules HO7.out.rules).mono ?_
    rintro e w8 ⟨rfl, hb16⟩
    have hb17 := hb15.trans (hb16.mono hb15.size)
    clear hb16
    go_wp2_with fail
    go_ret
    exact ⟨rfl, hb17⟩
end Go.Proofs.Ytmbcjlmapjboaaa.fnExactRuleByName
