/- The draws of the arguments of chapter 7. No condition. -/
import Derived.Test.YtbaflfbidgolfaaDrawQ
namespace Go.Proofs.Ytbaflfbidgolfaa.Draw
open Go.RowKit Cur Bs St StA StG StL
set_option linter.unusedVariables false
theorem qbelow_end {w W0 w' : World} {B : Nat} {a : Option Addr} {len cap : Nat} (hB : w.heap.size = B) (hW : w.alloc (.cells #[.slice a len cap, .int .i64 0, .int .u64 0] 102) = W0) (hg : W0.grownBy w' (some B)) : Below w.heap.size w w' := by
  subst hB hW
  exact below_cur hg
/-- a slice of the call's own whose block is not the cursor's -/
theorem qown_grown {w w' : World} {A B : Nat} {v : Value} {l : List Q} (h : Own LQuestion.rec 47 w A v l) (hb : ∀ k, v.ownBlock = some k → B < k) (hg : w.grownBy w' (some B)) : Own LQuestion.rec 47 w' A v l :=
  h.same fun k hk => hg.block k (h.lt k hk).2 (fun e => by have := hb k hk; have := Option.some.inj e; omega)
def Args2 (w : World) (e : Ending) (w' : World) : Prop := ∃ (v0 : Value) (z0 : List LRule.R) (v1 : Value) (z1 : List Q), e = .returned (.tuple #[v0, v1]) ∧ Own LRule.rec 63 w' w.heap.size v0 z0 ∧ (∃ g, v0.ownBlock = some g) ∧ RShort z0 ∧ z0.length ≤ 16 ∧ Own LQuestion.rec 47 w' w.heap.size v1 z1 ∧ (∃ g, v1.ownBlock = some g) ∧ z1.length ≤ 7 ∧ Below w.heap.size w w'
def Args3 (w : World) (e : Ending) (w' : World) : Prop := ∃ (v0 : Value) (z0 : List LRule.R) (v1 : Value) (z1 : List Q) (x : Int), e = .returned (.tuple #[v0, v1, .int .i64 x]) ∧ Own LRule.rec 63 w' w.heap.size v0 z0 ∧ (∃ g, v0.ownBlock = some g) ∧ RShort z0 ∧ z0.length ≤ 16 ∧ Own LQuestion.rec 47 w' w.heap.size v1 z1 ∧ (∃ g, v1.ownBlock = some g) ∧ z1.length ≤ 7 ∧ Below w.heap.size w w'
def Args4 (w : World) (e : Ending) (w' : World) : Prop := ∃ (v0 : Value) (z0 : List LRule.R) (v1 : Value) (z1 : List Q) (x y : Int), e = .returned (.tuple #[v0, v1, .int .i64 x, .int .i64 y]) ∧ Own LRule.rec 63 w' w.heap.size v0 z0 ∧ (∃ g, v0.ownBlock = some g) ∧ RShort z0 ∧ z0.length ≤ 16 ∧ Own LQuestion.rec 47 w' w.heap.size v1 z1 ∧ (∃ g, v1.ownBlock = some g) ∧ z1.length ≤ 7 ∧ Below w.heap.size w w'
set_option maxRecDepth 100000 in
set_option maxHeartbeats 1600000 in
theorem drawPend (a : Option Addr) (len cap : Nat) (zs : List Int) (w : World) (h : Frame.IsRow .u8 w a len cap zs) (hl : len ≤ 65536) :
    Calls Try.prog 102 #[.slice a len cap] w (Args2 w) := by
  have HC := Lib.hid (cur_new h hl)
  have hz : w.heap.size + 1 ≤ (w.alloc (.cells #[.slice a len cap, .int .i64 0, .int .u64 0] 102)).heap.size := by simp
  clear h
  go_enter Try.func102, Try.ntmps102
  go_wp2_with fail
  generalize hWW : w.alloc (.cells #[.slice a len cap, .int .i64 0, .int .u64 0] 102) = W0 at *
  have HWW := Lib.hid hWW
  generalize hB0 : w.heap.size = B at *
  have HB0 := Lib.hid hB0
  clear hWW hB0
  have hBA := HC.out.lt
  refine (ladder B 0 _ HC.out (by omega)).mono ?_
  rintro e w1 ⟨v, z, rfl, hv, hvn, hsh, hzl, hc1, hg1⟩
  have HVN := Lib.hid hvn
  have HSh := Lib.hid hsh
  have HV1 := Lib.hid hv
  have HG1 := Lib.hid hg1
  have HC1 := Lib.hid hc1
  clear hv hvn hsh hc1 hg1 HC
  go_wp2_with fail
  refine (pending B _ W0.heap.size v z _ HC1.out (by omega) HV1.out HVN.out hBA HSh.out hzl).mono ?_
  rintro e w2 ⟨v2, l, rfl, ho, hon, hll, hc2, hg2⟩
  have HV2 := Lib.hid (own_grown HV1.out hg2 hBA)
  have HON := Lib.hid hon
  have HO2 := Lib.hid (ho.low (show B ≤ w1.heap.size by have := HG1.out.size; omega))
  have HLv := Lib.hid (show Live B 450 W0 w2 from ⟨hc2.mono (by omega), grown_trans HG1.out hg2, hBA⟩)
  have hBo : ∀ k, v2.ownBlock = some k → B < k := fun k hk => by have h1 := (ho.lt k hk).1; have h2 := HG1.out.size; omega
  have HBO := Lib.hid hBo
  clear ho hon hc2 hg2 HV1 HG1 HC1 hBo
  have HVl := Lib.hid (HV2.out.low (show B ≤ W0.heap.size by omega))
  have hbl := qbelow_end HB0.out HWW.out HLv.out.grown
  have hOl := HO2.out
  have hB1 := HB0.out
  go_wp2_with fail
  go_ret2
  rw [← hB1] at hOl HVl
  exact ⟨_, z, _, l, rfl, HVl.out, HVN.out, HSh.out, hzl, hOl, HON.out, hll, hbl⟩
set_option maxRecDepth 100000 in
set_option maxHeartbeats 1600000 in
theorem drawSecondQuestion (a : Option Addr) (len cap : Nat) (zs : List Int) (w : World) (h : Frame.IsRow .u8 w a len cap zs) (hl : len ≤ 65536) :
    Calls Try.prog 58 #[.slice a len cap] w (Args3 w) := by
  have HC := Lib.hid (cur_new h hl)
  have hz : w.heap.size + 1 ≤ (w.alloc (.cells #[.slice a len cap, .int .i64 0, .int .u64 0] 102)).heap.size := by simp
  clear h
  go_enter Try.func58, Try.ntmps58
  go_wp2_with fail
  generalize hWW : w.alloc (.cells #[.slice a len cap, .int .i64 0, .int .u64 0] 102) = W0 at *
  have HWW := Lib.hid hWW
  generalize hB0 : w.heap.size = B at *
  have HB0 := Lib.hid hB0
  clear hWW hB0
  have hBA := HC.out.lt
  refine (ladder B 0 _ HC.out (by omega)).mono ?_
  rintro e w1 ⟨v, z, rfl, hv, hvn, hsh, hzl, hc1, hg1⟩
  have HVN := Lib.hid hvn
  have HSh := Lib.hid hsh
  have HV1 := Lib.hid hv
  have HG1 := Lib.hid hg1
  have HC1 := Lib.hid hc1
  clear hv hvn hsh hc1 hg1 HC
  go_wp2_with fail
  refine (pending B _ W0.heap.size v z _ HC1.out (by omega) HV1.out HVN.out hBA HSh.out hzl).mono ?_
  rintro e w2 ⟨v2, l, rfl, ho, hon, hll, hc2, hg2⟩
  have HV2 := Lib.hid (own_grown HV1.out hg2 hBA)
  have HON := Lib.hid hon
  have HO2 := Lib.hid (ho.low (show B ≤ w1.heap.size by have := HG1.out.size; omega))
  have HLv := Lib.hid (show Live B 450 W0 w2 from ⟨hc2.mono (by omega), grown_trans HG1.out hg2, hBA⟩)
  have hBo : ∀ k, v2.ownBlock = some k → B < k := fun k hk => by have h1 := (ho.lt k hk).1; have h2 := HG1.out.size; omega
  have HBO := Lib.hid hBo
  clear ho hon hc2 hg2 HV1 HG1 HC1 hBo
  go_wp2_with fail
  refine (member B _ _ HLv.out.cur (by omega)).mono ?_
  rintro e w9 ⟨y, rfl, hcm, hgm⟩
  have HV9 := Lib.hid (own_grown HV2.out hgm hBA)
  have HO9 := Lib.hid (qown_grown HO2.out HBO.out hgm)
  have HL9 := Lib.hid (HLv.out.draw hcm hgm)
  clear hcm hgm HV2 HO2 HLv
  have HVl := Lib.hid (HV9.out.low (show B ≤ W0.heap.size by omega))
  have hbl := qbelow_end HB0.out HWW.out HL9.out.grown
  have hOl := HO9.out
  have hB1 := HB0.out
  go_wp2_with fail
  go_ret3
  rw [← hB1] at hOl HVl
  exact ⟨_, z, _, l, y, rfl, HVl.out, HVN.out, HSh.out, hzl, hOl, HON.out, hll, hbl⟩
theorem drawDisposeQuestion (a : Option Addr) (len cap : Nat) (zs : List Int) (w : World) (h : Frame.IsRow .u8 w a len cap zs) (hl : len ≤ 65536) :
    Calls Try.prog 59 #[.slice a len cap] w (Args2 w) := by
  have HX := Lib.hid (drawPend a len cap zs w h hl)
  clear h
  go_enter Try.func59, Try.ntmps59
  go_wp2_with fail
  refine HX.out.mono ?_
  rintro e w1 ⟨v0, z0, v1, z1, rfl, hr⟩
  have HR := Lib.hid hr
  clear hr
  go_wp2_with fail
  go_ret2
  exact ⟨v0, z0, v1, z1, rfl, HR.out⟩
theorem drawDropUnseconded (a : Option Addr) (len cap : Nat) (zs : List Int) (w : World) (h : Frame.IsRow .u8 w a len cap zs) (hl : len ≤ 65536) :
    Calls Try.prog 60 #[.slice a len cap] w (Args2 w) := by
  have HX := Lib.hid (drawPend a len cap zs w h hl)
  clear h
  go_enter Try.func60, Try.ntmps60
  go_wp2_with fail
  refine HX.out.mono ?_
  rintro e w1 ⟨v0, z0, v1, z1, rfl, hr⟩
  have HR := Lib.hid hr
  clear hr
  go_wp2_with fail
  go_ret2
  exact ⟨v0, z0, v1, z1, rfl, HR.out⟩
theorem drawQuestionNames (a : Option Addr) (len cap : Nat) (zs : List Int) (w : World) (h : Frame.IsRow .u8 w a len cap zs) (hl : len ≤ 65536) :
    Calls Try.prog 61 #[.slice a len cap] w (Args2 w) := by
  have HX := Lib.hid (drawPend a len cap zs w h hl)
  clear h
  go_enter Try.func61, Try.ntmps61
  go_wp2_with fail
  refine HX.out.mono ?_
  rintro e w1 ⟨v0, z0, v1, z1, rfl, hr⟩
  have HR := Lib.hid hr
  clear hr
  go_wp2_with fail
  go_ret2
  exact ⟨v0, z0, v1, z1, rfl, HR.out⟩
theorem drawMoversOf (a : Option Addr) (len cap : Nat) (zs : List Int) (w : World) (h : Frame.IsRow .u8 w a len cap zs) (hl : len ≤ 65536) :
    Calls Try.prog 57 #[.slice a len cap] w (Args2 w) := by
  have HX := Lib.hid (drawPend a len cap zs w h hl)
  clear h
  go_enter Try.func57, Try.ntmps57
  go_wp2_with fail
  refine HX.out.mono ?_
  rintro e w1 ⟨v0, z0, v1, z1, rfl, hr⟩
  have HR := Lib.hid hr
  clear hr
  go_wp2_with fail
  go_ret2
  exact ⟨v0, z0, v1, z1, rfl, HR.out⟩
theorem drawWithdrawQuestion (a : Option Addr) (len cap : Nat) (zs : List Int) (w : World) (h : Frame.IsRow .u8 w a len cap zs) (hl : len ≤ 65536) :
    Calls Try.prog 56 #[.slice a len cap] w (Args3 w) := by
  have HX := Lib.hid (drawSecondQuestion a len cap zs w h hl)
  clear h
  go_enter Try.func56, Try.ntmps56
  go_wp2_with fail
  refine HX.out.mono ?_
  rintro e w1 ⟨v0, z0, v1, z1, x, rfl, hr⟩
  have HR := Lib.hid hr
  clear hr
  go_wp2_with fail
  go_ret3
  exact ⟨v0, z0, v1, z1, x, rfl, HR.out⟩
set_option maxRecDepth 100000 in
set_option maxHeartbeats 1600000 in
theorem drawMoveQuestion (a : Option Addr) (len cap : Nat) (zs : List Int) (w : World) (h : Frame.IsRow .u8 w a len cap zs) (hl : len ≤ 65536) :
    Calls Try.prog 51 #[.slice a len cap] w (Args4 w) := by
  have HC := Lib.hid (cur_new h hl)
  have hz : w.heap.size + 1 ≤ (w.alloc (.cells #[.slice a len cap, .int .i64 0, .int .u64 0] 102)).heap.size := by simp
  clear h
  go_enter Try.func51, Try.ntmps51
  go_wp2_with fail
  generalize hWW : w.alloc (.cells #[.slice a len cap, .int .i64 0, .int .u64 0] 102) = W0 at *
  have HWW := Lib.hid hWW
  generalize hB0 : w.heap.size = B at *
  have HB0 := Lib.hid hB0
  clear hWW hB0
  have hBA := HC.out.lt
  refine (ladder B 0 _ HC.out (by omega)).mono ?_
  rintro e w1 ⟨v, z, rfl, hv, hvn, hsh, hzl, hc1, hg1⟩
  have HVN := Lib.hid hvn
  have HSh := Lib.hid hsh
  have HV1 := Lib.hid hv
  have HG1 := Lib.hid hg1
  have HC1 := Lib.hid hc1
  clear hv hvn hsh hc1 hg1 HC
  go_wp2_with fail
  refine (pending B _ W0.heap.size v z _ HC1.out (by omega) HV1.out HVN.out hBA HSh.out hzl).mono ?_
  rintro e w2 ⟨v2, l, rfl, ho, hon, hll, hc2, hg2⟩
  have HV2 := Lib.hid (own_grown HV1.out hg2 hBA)
  have HON := Lib.hid hon
  have HO2 := Lib.hid (ho.low (show B ≤ w1.heap.size by have := HG1.out.size; omega))
  have HLv := Lib.hid (show Live B 450 W0 w2 from ⟨hc2.mono (by omega), grown_trans HG1.out hg2, hBA⟩)
  have hBo : ∀ k, v2.ownBlock = some k → B < k := fun k hk => by have h1 := (ho.lt k hk).1; have h2 := HG1.out.size; omega
  have HBO := Lib.hid hBo
  clear ho hon hc2 hg2 HV1 HG1 HC1 hBo
  go_wp2_with fail
  refine (ruleOf B _ W0.heap.size v z _ HLv.out.cur (by omega) HV2.out hBA hzl).mono ?_
  rintro e w3 ⟨x1, rfl, hc3, hg3⟩
  have HV3 := Lib.hid (own_grown HV2.out hg3 hBA)
  have HO3 := Lib.hid (qown_grown HO2.out HBO.out hg3)
  have HL3 := Lib.hid (HLv.out.draw hc3 hg3)
  clear hc3 hg3 HV2 HO2 HLv
  cases hg : goodQ z l with
  | false =>
    have HG := Lib.hid (good_asS false HV3.out.is HO3.out.is (rshort_fine HSh.out) hg)
    clear hg
    go_wp2_with fail
    refine HG.out.mono ?_
    rintro e w4 ⟨rfl, hb4⟩
    have HV4 := Lib.hid (HV3.out.kept hb4)
    have HO4 := Lib.hid (HO3.out.kept hb4)
    have HL4 := Lib.hid (HL3.out.kept hb4)
    clear hb4 HV3 HO3 HL3 HG
    go_wp2_with fail
    refine (member B _ _ HL4.out.cur (by omega)).mono ?_
    rintro e w9 ⟨y, rfl, hcm, hgm⟩
    have HV9 := Lib.hid (own_grown HV4.out hgm hBA)
    have HO9 := Lib.hid (qown_grown HO4.out HBO.out hgm)
    have HL9 := Lib.hid (HL4.out.draw hcm hgm)
    clear hcm hgm HV4 HO4 HL4
    have HVl := Lib.hid (HV9.out.low (show B ≤ W0.heap.size by omega))
    have hbl := qbelow_end HB0.out HWW.out HL9.out.grown
    have hOl := HO9.out
    have hB1 := HB0.out
    go_wp2_with fail
    refine bodyPost_ret (v := .tuple #[v, v2, .int .i64 x1, .int .i64 y]) (by simp [results, Try.results51, go_sem]) rfl ?_
    rw [← hB1] at hOl HVl
    exact ⟨_, z, _, l, x1, y, rfl, HVl.out, HVN.out, HSh.out, hzl, hOl, HON.out, hll, hbl⟩
  | true =>
    have HG := Lib.hid (good_asS true HV3.out.is HO3.out.is (rshort_fine HSh.out) hg)
    have HT := Lib.hid (topIn_good hg)
    have HL8 := Lib.hid (good_rules hg)
    clear hg
    go_wp2_with fail
    refine HG.out.mono ?_
    rintro e w4 ⟨rfl, hb4⟩
    have HV4 := Lib.hid (HV3.out.kept hb4)
    have HO4 := Lib.hid (HO3.out.kept hb4)
    have HL4 := Lib.hid (HL3.out.kept hb4)
    clear hb4 HV3 HO3 HL3 HG
    go_wp2_with fail
    refine (MayBeMovedC.l7May _ _ z l _ HV4.out.is HO4.out.is HT.out HL8.out).mono ?_
    rintro e w5 ⟨vm, rfl, hmo, hb5⟩
    have HV5 := Lib.hid (HV4.out.kept hb5)
    have HO5 := Lib.hid (HO4.out.kept hb5)
    have HL5 := Lib.hid (HL4.out.kept hb5)
    have HM5 := Lib.hid (hmo.low (show W0.heap.size ≤ w4.heap.size from HL4.out.size))
    have hml : (may z l).length ≤ 8 := Nat.le_trans may_len HL8.out
    clear hmo hb5 HV4 HO4 HL4
    by_cases hz0 : (may z l).length = 0
    · have hvm : ∃ a c, vm = .slice a 0 c := by
        rcases HM5.out.shape with ⟨rfl, _⟩ | ⟨g, c, rfl, _⟩
        · exact ⟨_, _, rfl⟩
        · rw [hz0]; exact ⟨_, _, rfl⟩
      obtain ⟨am, cm, rfl⟩ := hvm
      clear hz0 HM5
      go_wp2_with fail
      refine (member B _ _ HL5.out.cur (by omega)).mono ?_
      rintro e w9 ⟨y, rfl, hcm, hgm⟩
      have HV9 := Lib.hid (own_grown HV5.out hgm hBA)
      have HO9 := Lib.hid (qown_grown HO5.out HBO.out hgm)
      have HL9 := Lib.hid (HL5.out.draw hcm hgm)
      clear hcm hgm HV5 HO5 HL5
      have HVl := Lib.hid (HV9.out.low (show B ≤ W0.heap.size by omega))
      have hbl := qbelow_end HB0.out HWW.out HL9.out.grown
      have hOl := HO9.out
      have hB1 := HB0.out
      go_wp2_with fail
      refine bodyPost_ret (v := .tuple #[v, v2, .int .i64 x1, .int .i64 y]) (by simp [results, Try.results51, go_sem]) rfl ?_
      rw [← hB1] at hOl HVl
      exact ⟨_, z, _, l, x1, y, rfl, HVl.out, HVN.out, HSh.out, hzl, hOl, HON.out, hll, hbl⟩
    · obtain ⟨gm, cm, rfl, hmc, hmm⟩ := iown_some HM5.out (by omega)
      obtain ⟨zs', hzs⟩ : ∃ zs, zs = may z l := ⟨_, rfl⟩
      rw [← hzs] at hml hz0 hmc HM5 ⊢
      obtain ⟨lm, hlm⟩ : ∃ n, n = zs'.length := ⟨_, rfl⟩
      have HZL := Lib.hid hlm.symm
      rw [← hlm] at hml hz0 hmc HM5 ⊢
      unfold maxLen at hmm
      have l3 : (0 : Int) < (lm : Int) := by omega
      have l4 : decide ((0 : Int) < (lm : Int)) = true := decide_eq_true l3
      have l5 : 0 < lm := by omega
      clear hlm hzs hz0
      go_wp2_with fail
      refine (one B _ 2 _ HL5.out.cur (by omega) (by omega) (by omega)).mono ?_
      rintro e w6 ⟨b, rfl, hc6, hg6⟩
      have HV6 := Lib.hid (own_grown HV5.out hg6 hBA)
      have HO6 := Lib.hid (qown_grown HO5.out HBO.out hg6)
      have HM6 := Lib.hid (own_grown HM5.out hg6 hBA)
      have HL6 := Lib.hid (HL5.out.draw hc6 hg6)
      clear hc6 hg6 HV5 HO5 HM5 HL5
      cases b with
      | false =>
        go_wp2_with fail
        refine (member B _ _ HL6.out.cur (by omega)).mono ?_
        rintro e w9 ⟨y, rfl, hcm, hgm⟩
        have HV9 := Lib.hid (own_grown HV6.out hgm hBA)
        have HO9 := Lib.hid (qown_grown HO6.out HBO.out hgm)
        have HL9 := Lib.hid (HL6.out.draw hcm hgm)
        clear hcm hgm HV6 HO6 HL6
        have HVl := Lib.hid (HV9.out.low (show B ≤ W0.heap.size by omega))
        have hbl := qbelow_end HB0.out HWW.out HL9.out.grown
        have hOl := HO9.out
        have hB1 := HB0.out
        go_wp2_with fail
        refine bodyPost_ret (v := .tuple #[v, v2, .int .i64 x1, .int .i64 y]) (by simp [results, Try.results51, go_sem]) rfl ?_
        rw [← hB1] at hOl HVl
        exact ⟨_, z, _, l, x1, y, rfl, HVl.out, HVN.out, HSh.out, hzl, hOl, HON.out, hll, hbl⟩
      | true =>
        go_wp2_with fail
        refine (pick B _ (lm : Int) _ HL6.out.cur (by omega) (by omega) (by omega)).mono ?_
        rintro e w7 ⟨r, rfl, r0, r1, hc7, hg7⟩
        obtain ⟨kk, rfl⟩ := Int.eq_ofNat_of_zero_le r0
        have HV7 := Lib.hid (own_grown HV6.out hg7 hBA)
        have HO7 := Lib.hid (qown_grown HO6.out HBO.out hg7)
        have hM7 := own_grown HM6.out hg7 hBA
        have hq := mcells hM7 HZL.out kk (by omega)
        have HL7 := Lib.hid (HL6.out.draw hc7 hg7)
        have hk1 : (kk : Int) < (lm : Int) := by omega
        generalize hx1 : zs'.getD kk 0 = x1' at *
        clear hc7 hg7 HV6 HO6 HM6 HL6 hx1 hM7
        go_wp2_with fail
        clear hq
        refine (member B _ _ HL7.out.cur (by omega)).mono ?_
        rintro e w9 ⟨y, rfl, hcm, hgm⟩
        have HV9 := Lib.hid (own_grown HV7.out hgm hBA)
        have HO9 := Lib.hid (qown_grown HO7.out HBO.out hgm)
        have HL9 := Lib.hid (HL7.out.draw hcm hgm)
        clear hcm hgm HV7 HO7 HL7
        have HVl := Lib.hid (HV9.out.low (show B ≤ W0.heap.size by omega))
        have hbl := qbelow_end HB0.out HWW.out HL9.out.grown
        have hOl := HO9.out
        have hB1 := HB0.out
        go_wp2_with fail
        refine bodyPost_ret (v := .tuple #[v, v2, .int .i64 x1', .int .i64 y]) (by simp [results, Try.results51, go_sem]) rfl ?_
        rw [← hB1] at hOl HVl
        exact ⟨_, z, _, l, x1', y, rfl, HVl.out, HVN.out, HSh.out, hzl, hOl, HON.out, hll, hbl⟩
end Go.Proofs.Ytbaflfbidgolfaa.Draw
