/- FnExactIsValidRules: the law's walk, for every slice of rules. -/
import Derived.Test.YtmbcjlmapjboaaaGoodI
import Derived.Test.YtmbcjlmapjboaaaHelpS
import Derived.Test.YtmbcjlmapjboaaaOpenRule
namespace Go.Proofs.Ytmbcjlmapjboaaa.fnExactIsValidRules
open Go.RowKit
set_option linter.unusedVariables false
set_option maxHeartbeats 400000 in
theorem specValid (a : Option Addr) (n cp : Nat) (xs : List Rule.R) (w : World) (hn : xs.length = n) (h : Rule.RulesAt w a cp xs) (hsz : ∀ x ∈ xs, x.name.size ≤ maxLen) :
    Calls Try.prog 31 #[.slice a n cp] w (Gd.GoodPost xs w) := by
  have HC := Lib.hid (Gd.l2Good a n cp xs w hn h hsz)
  clear h hsz hn
  go_enter Try.func31, Try.ntmps31
  go_wp2_with fail
  refine HC.out.mono ?_
  rintro e w1 ⟨rfl, hb⟩
  go_wp2_with fail
  go_ret
  exact ⟨rfl, hb⟩

set_option maxHeartbeats 400000 in
theorem walk (a0 : Option Addr) (len0 cap0 : Nat) (z0 : List Rule.R) (w : World) (sh : w.ShapedOpen Try.prog) (w0 : OpenRule.IsRules w a0 len0 cap0 z0) :
    Calls Try.prog 5 #[.slice a0 len0 cap0] w fun e w' => e = .returned (.bool true) ∧ Below w.heap.size w w' := by
  obtain ⟨hlen, hat, hfit⟩ := w0
  have HL := Lib.hid hlen
  have HA := Lib.hid hat
  have HF := Lib.hid (show ∀ x ∈ z0, x.name.size ≤ maxLen from fun x hx => (hfit x hx).1)
  clear sh hlen hat hfit
  have hne : (Gd.goodB z0 != Gd.goodB z0) = false := by simp
  go_enter Try.func5, Try.ntmps5
  go_wp2_with fail
  refine (Help.szRuleS a0 len0 cap0 z0 _ HL.out HA.out HF.out).mono ?_
  rintro e w1 ⟨hb1, r, rfl, ⟨hr, hS⟩ | ⟨hr, _, hS⟩⟩
  · clear hS
    go_wp2_with fail
    go_ret
    exact ⟨rfl, hb1⟩
  · have hlen : len0 ≤ 1048576 := by unfold Help.Small at hS; omega
    clear hS
    have HA1 := Lib.hid (HA.out.below hb1)
    go_wp2_with fail
    refine (HelpS.toRuleS a0 len0 cap0 z0 _ HL.out HA1.out hlen).mono ?_
    rintro e w2 ⟨rfl, hO2, hb2⟩
    have HO2 := Lib.hid hO2
    have hb3 := hb1.trans (hb2.mono hb1.size)
    clear hO2 hb2
    generalize w1.heap.size = G1 at *
    go_wp2_with fail
    refine (specValid _ len0 len0 z0 _ HL.out HO2.out.rules HF.out).mono ?_
    rintro e w3 ⟨rfl, hb4⟩
    have hb5 := hb3.trans (hb4.mono hb3.size)
    have HA3 := Lib.hid (HA.out.below hb5)
    clear hb4
    go_wp2_with fail
    refine (HelpS.toRuleS a0 len0 cap0 z0 _ HL.out HA3.out hlen).mono ?_
    rintro e w4 ⟨rfl, hO4, hb6⟩
    have HO4 := Lib.hid hO4
    have hb7 := hb5.trans (hb6.mono hb5.size)
    clear hO4 hb6
    generalize w3.heap.size = G3 at *
    go_wp2_with fail
    refine (GoodI.isValidRules _ len0 len0 z0 _ HL.out HO4.out.rules HF.out).mono ?_
    rintro e w5 ⟨rfl, hb8⟩
    have HO5 := Lib.hid (HO4.out.kept hb8)
    have hb9 := hb7.trans (hb8.mono hb7.size)
    have HA5 := Lib.hid (HA.out.below hb9)
    clear hb8
    go_wp2_with fail
    refine (HelpS.toRuleS a0 len0 cap0 z0 _ HL.out HA5.out hlen).mono ?_
    rintro e w6 ⟨rfl, hO6, hb10⟩
    have HO6 := Lib.hid hO6
    have HO7 := Lib.hid (HO5.out.kept hb10)
    have hb11 := hb9.trans (hb10.mono hb9.size)
    clear hO6 hb10
    generalize w5.heap.size = G5 at *
    go_wp2_with fail
    refine (HelpS.eqRuleS _ _ len0 len0 len0 z0 _ HL.out HO7.out.rules HO6.out.rules).mono ?_
    rintro e w7 ⟨rfl, hb12⟩
    have hb13 := hb11.trans (hb12.mono hb11.size)
    clear hb12
    go_wp2_with fail
    go_ret
    exact ⟨rfl, hb13⟩
end Go.Proofs.Ytmbcjlmapjboaaa.fnExactIsValidRules
