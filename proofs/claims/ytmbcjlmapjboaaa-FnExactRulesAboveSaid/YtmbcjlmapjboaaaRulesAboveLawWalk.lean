/- FnExactRulesAbove: the law's walk, for every slice of rules and every rank. -/
import Derived.Test.YtmbcjlmapjboaaaAbove
import Derived.Test.YtmbcjlmapjboaaaMarkR
import Derived.Test.YtmbcjlmapjboaaaOpenRule
namespace Go.Proofs.Ytmbcjlmapjboaaa.fnExactRulesAbove
open Go.RowKit
set_option linter.unusedVariables false
set_option maxRecDepth 100000 in
set_option maxHeartbeats 1600000 in
theorem walk (a0 : Option Addr) (len0 cap0 : Nat) (z0 : List Rule.R) (a1 : Int) (w : World) (sh : w.ShapedOpen Try.prog) (w0 : OpenRule.IsRules w a0 len0 cap0 z0) (w1 : (Lit.int .i64 a1).wf = true) :
    Calls Try.prog 8 #[.slice a0 len0 cap0, .int .i64 a1] w fun e w' => e = .returned (.bool true) ∧ Below w.heap.size w w' := by
  obtain ⟨hlen, hat, hfit⟩ := w0
  have HL := Lib.hid hlen
  have HA := Lib.hid hat
  have HF := Lib.hid (show ∀ x ∈ z0, x.name.size ≤ maxLen from fun x hx => (hfit x hx).1)
  clear sh hlen hat hfit w1
  go_enter Try.func8, Try.ntmps8
  go_wp2_with fail
  refine (Help.szRuleS a0 len0 cap0 z0 _ HL.out HA.out HF.out).mono ?_
  rintro e w1 ⟨hb1, r, rfl, ⟨hr, hS⟩ | ⟨hr, _, hS⟩⟩
  · clear hS
    go_wp2_with fail
    go_ret
    exact ⟨rfl, hb1⟩
  have hlen : len0 ≤ 1048576 := by unfold Help.Small at hS; omega
  clear hS
  have HA1 := Lib.hid (HA.out.below hb1)
  go_wp2_with fail
  refine (HelpS.toRuleS a0 len0 cap0 z0 _ HL.out HA1.out hlen).mono ?_
  rintro e w2 ⟨rfl, hO2, hb2⟩
  have HO2 := Lib.hid hO2
  have hb3 := hb1.trans (hb2.mono hb1.size)
  clear hO2 hb2 HA1 hb1
  go_wp2_with fail
  refine (Above.spec _ len0 len0 z0 a1 _ HL.out HO2.out.rules HF.out).mono ?_
  rintro e w3 ⟨v0, zs, b, rfl, hans, hv3, hb4⟩
  have HX := Lib.hid hans
  have hz80 := hans.len
  have HV3 := Lib.hid hv3
  have hb5 := hb3.trans (hb4.mono hb3.size)
  have HA3 := Lib.hid (HA.out.below hb5)
  clear hb4 hans HO2 hb3 hv3
  go_wp2_with fail
  refine (HelpS.toRuleS a0 len0 cap0 z0 _ HL.out HA3.out hlen).mono ?_
  rintro e w4 ⟨rfl, hO4, hb6⟩
  have HO4 := Lib.hid hO4
  have hlt0 := Lib.hid (show ∀ k, v0.ownBlock = some k → k < w3.heap.size from fun k hk => (HV3.out.lt k hk).2)
  have HV4 := Lib.hid (HV3.out.kept hb6)
  have hb8 := hb5.trans (hb6.mono hb5.size)
  have hg34 : w3.heap.size < w4.heap.size := hO4.lt.2
  have hgw : w.heap.size ≤ w3.heap.size := hb5.size
  clear hO4 hb6 HA3 hb5 HV3
  go_wp2_with fail
  refine (Above.impl _ len0 len0 z0 a1 _ HL.out HO4.out.rules HF.out).mono ?_
  rintro e w5 ⟨v5, zs', b', rfl, hans, hv5, hb9⟩
  obtain ⟨rfl, rfl⟩ := HX.out.same hans
  have HV5 := Lib.hid hv5
  have hlt5 := Lib.hid (show ∀ k, v5.ownBlock = some k → w4.heap.size ≤ k from fun k hk => (hv5.lt k hk).1)
  have HO5 := Lib.hid (HO4.out.kept hb9)
  have HW5 := Lib.hid (HV4.out.kept hb9)
  have hb10 := hb8.trans (hb9.mono hb8.size)
  have hg45 := hb9.size
  have hne : (b != b) = false := by simp
  clear hb9 hb8 HO4 hans hv5 HV4
  go_wp2_with fail
  refine (Ints.eqIntS _ _ v5 v0 zs _ HV5.out HW5.out).mono ?_
  rintro e w6 ⟨rfl, hb11⟩
  have HV6 := Lib.hid (HV5.out.kept hb11)
  have HW6 := Lib.hid (HW5.out.kept hb11)
  have HO6 := Lib.hid (HO5.out.kept hb11)
  have hb12 := hb10.trans (hb11.mono hb10.size)
  have HA6 := Lib.hid (HA.out.below hb12)
  have hg56 := hb11.size
  clear hb11 HO5 HV5 HW5 hb10
  go_wp2_with fail
  refine (HelpS.toRuleS a0 len0 cap0 z0 _ HL.out HA6.out hlen).mono ?_
  rintro e w7 ⟨rfl, hO7, hb14⟩
  have HO7 := Lib.hid hO7
  have HV7 := Lib.hid (HV6.out.kept hb14)
  have HW7 := Lib.hid (HW6.out.kept hb14)
  have HOx := Lib.hid (HO6.out.kept hb14)
  have hb15 := hb12.trans (hb14.mono hb12.size)
  have hg67 := hb14.size
  clear hO7 hb14 HV6 HW6 HO6 HA6 hb12
  go_wp2_with fail
  refine (HelpS.eqRuleS _ _ len0 len0 len0 z0 _ HL.out HOx.out.rules HO7.out.rules).mono ?_
  rintro e w8 ⟨rfl, hb16⟩
  have HV8 := Lib.hid (HV7.out.kept hb16)
  have HW8 := Lib.hid (HW7.out.kept hb16)
  have HO8 := Lib.hid (HOx.out.kept hb16)
  have hb17 := hb15.trans (hb16.mono hb15.size)
  have hg78 := hb16.size
  clear hb16 HV7 HW7 HOx HO7 hb15
  go_wp2_with fail
  refine (MarkR.markRuleS _ _ len0 len0 1 z0 _ (Nat.le_refl _) (by omega) (by omega) HO8.out).mono ?_
  rintro e w9 ⟨rfl, _, ht⟩
  have HV9 := Lib.hid (show Ints.OwnI w9 _ v5 zs from MarkR.own_turned HV8.out ht (fun k hk => by have := hlt5.out k hk; omega))
  have HW9 := Lib.hid (show Ints.OwnI w9 _ v0 zs from MarkR.own_turned HW8.out ht (fun k hk => by have := hlt0.out k hk; omega))
  have hb18 := hb17.trans (ht.below hgw hb17.size)
  have hg89 := ht.size
  clear ht HV8 HW8 HO8 hb17
  go_wp2_with fail
  refine (Ints.eqIntS _ _ v5 v0 zs _ HV9.out HW9.out).mono ?_
  rintro e w10 ⟨rfl, hb19⟩
  have HV10 := Lib.hid (HV9.out.kept hb19)
  have HW10 := Lib.hid (HW9.out.kept hb19)
  have hb20 := hb18.trans (hb19.mono hb18.size)
  have hg90 := hb19.size
  clear hb19 HV9 HW9 hb18
  go_wp2_with fail
  refine (Ints.markIntS _ 1 v5 zs _ (by omega) HV10.out).mono ?_
  rintro e w11 ⟨rfl, hv11, hb21, hz11⟩
  have HV11 := Lib.hid hv11
  have HW11 := Lib.hid (show Ints.OwnI w11 _ v0 zs from MarkR.own_under HW10.out hb21 hz11 (fun k hk => by have := hlt0.out k hk; omega))
  have hb22 := hb20.trans (hb21.mono (by omega))
  clear hv11 hb21 HV10 HW10 hb20
  go_wp2_with fail
  refine (Ints.heldIntS _ 1 v5 zs _ (by omega) HV11.out).mono ?_
  rintro e w12 ⟨rfl, hb23⟩
  have HV12 := Lib.hid (HV11.out.kept hb23)
  have HW12 := Lib.hid (HW11.out.kept hb23)
  have hb24 := hb22.trans (hb23.mono hb22.size)
  have HA12 := Lib.hid (HA.out.below hb24)
  clear hb23 HV11 HW11 hb22
  go_wp2_with fail
  refine (HelpS.toRuleS a0 len0 cap0 z0 _ HL.out HA12.out hlen).mono ?_
  rintro e w13 ⟨rfl, hO13, hb25⟩
  have HO13 := Lib.hid hO13
  have HV13 := Lib.hid (HV12.out.kept hb25)
  have HW13 := Lib.hid (HW12.out.kept hb25)
  have hb26 := hb24.trans (hb25.mono hb24.size)
  clear hb25 hO13 HV12 HW12 HA12 hb24
  go_wp2_with fail
  refine (Above.impl _ len0 len0 z0 a1 _ HL.out HO13.out.rules HF.out).mono ?_
  rintro e w14 ⟨v14, zs', b', rfl, hans, hv14, hb27⟩
  obtain ⟨rfl, rfl⟩ := HX.out.same hans
  have HU14 := Lib.hid hv14
  have HV14 := Lib.hid (HV13.out.kept hb27)
  have HW14 := Lib.hid (HW13.out.kept hb27)
  have hb28 := hb26.trans (hb27.mono hb26.size)
  clear hb27 hans hv14 HV13 HW13 HO13 hb26
  go_wp2_with fail
  refine (Ints.eqIntS _ _ v14 v0 zs _ HU14.out HW14.out).mono ?_
  rintro e w15 ⟨rfl, hb29⟩
  have HV15 := Lib.hid (HV14.out.kept hb29)
  have hb30 := hb28.trans (hb29.mono hb28.size)
  clear hb29 HV14 HW14 HU14 hb28
  go_wp2_with fail
  refine (Ints.heldIntS _ 1 v5 zs _ (by omega) HV15.out).mono ?_
  rintro e w16 ⟨rfl, hb31⟩
  have hb32 := hb30.trans (hb31.mono hb30.size)
  clear hb31 HV15 hb30
  go_wp2_with fail
  go_ret
  exact ⟨rfl, hb32⟩
end Go.Proofs.Ytmbcjlmapjboaaa.fnExactRulesAbove
