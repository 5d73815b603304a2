/- The draws of chapter 2's arguments. No condition. -/
import Derived.Test.YtbaflfbidgolfaaDrawRs
import Derived.Test.YtbaflfbidgolfaaDrawRf
import Derived.Test.YtbaflfbidgolfaaHeld
namespace Go.Proofs.Ytbaflfbidgolfaa.Draw
open Go.RowKit Cur Bs
set_option linter.unusedVariables false
theorem rbelow_end {w W0 w' : World} {B : Nat} {a : Option Addr} {len cap : Nat} (hB : w.heap.size = B) (hW : w.alloc (.cells #[.slice a len cap, .int .i64 0, .int .u64 0] 102) = W0) (hg : W0.grownBy w' (some B)) : Below w.heap.size w w' := by
  subst hB hW
  exact below_cur hg
def AboveArgs (w : World) (e : Ending) (w' : World) : Prop := ∃ (v : Value) (z : List LRule.R) (y : Int), e = .returned (.tuple #[v, .int .i64 y]) ∧ Own LRule.rec 63 w' w.heap.size v z ∧ (∃ g, v.ownBlock = some g) ∧ RShort z ∧ z.length ≤ 16 ∧ -2 ≤ y ∧ y ≤ 10 ∧ Below w.heap.size w w'
set_option maxRecDepth 100000 in
set_option maxHeartbeats 1600000 in
theorem drawRulesAbove (a : Option Addr) (len cap : Nat) (zs : List Int) (w : World) (h : Frame.IsRow .u8 w a len cap zs) (hl : len ≤ 65536) :
    Calls Try.prog 70 #[.slice a len cap] w (AboveArgs w) := by
  have HC := Lib.hid (cur_new h hl)
  have hgc := grown_alloc w (.cells #[.slice a len cap, .int .i64 0, .int .u64 0] 102) none
  have hz : w.heap.size + 1 ≤ (w.alloc (.cells #[.slice a len cap, .int .i64 0, .int .u64 0] 102)).heap.size := by simp
  clear h
  go_enter Try.func70, Try.ntmps70
  go_wp2_with fail
  generalize hWW : w.alloc (.cells #[.slice a len cap, .int .i64 0, .int .u64 0] 102) = W0 at *
  have HWW := Lib.hid hWW
  generalize hB0 : w.heap.size = B at *
  have HB0 := Lib.hid hB0
  clear hWW hB0
  refine (rules B 0 _ HC.out (by omega)).mono ?_
  rintro e w1 ⟨v, z, rfl, hv, hvn, hsh, hzl, hc1, hg1⟩
  have HV := Lib.hid hv
  have HVn := Lib.hid hvn
  have HSh := Lib.hid hsh
  have HC1 := Lib.hid hc1
  have HA := Lib.hid (show B < W0.heap.size by omega)
  clear hv hvn hsh hc1 HC
  go_wp2_with fail
  refine (pick B _ 13 _ HC1.out (by omega) (by omega) (by omega)).mono ?_
  rintro e w2 ⟨y, rfl, y0, y1, hc2, hg2⟩
  have HV2 := Lib.hid (own_grown HV.out hg2 HA.out)
  have hgg2 := grown_trans hg1 hg2
  have hw : IntKind.i64.wrap (y - 2) = y - 2 := IntWalk.i64_in _ (by omega)
  clear hc2 hg1 hg2 HV HC1
  go_wp2_with fail
  go_ret2
  exact ⟨v, z, y - 2, by first | rfl | rw [hw], Own.low HV2.out (by have := HB0.out; omega), HVn.out, HSh.out, hzl, by omega, by omega, rbelow_end HB0.out HWW.out hgg2⟩
def ChgArgs (w : World) (e : Ending) (w' : World) : Prop := ∃ (v : Value) (z : List LRule.R) (x y : Int), e = .returned (.tuple #[v, .int .i64 x, .int .i64 y]) ∧ Own LRule.rec 63 w' w.heap.size v z ∧ (∃ g, v.ownBlock = some g) ∧ RShort z ∧ z.length ≤ 16 ∧ Below w.heap.size w w'
set_option maxRecDepth 100000 in
set_option maxHeartbeats 1600000 in
theorem drawChangeRank (a : Option Addr) (len cap : Nat) (zs : List Int) (w : World) (h : Frame.IsRow .u8 w a len cap zs) (hl : len ≤ 65536) :
    Calls Try.prog 73 #[.slice a len cap] w (ChgArgs w) := by
  have HC := Lib.hid (cur_new h hl)
  have hgc := grown_alloc w (.cells #[.slice a len cap, .int .i64 0, .int .u64 0] 102) none
  have hz : w.heap.size + 1 ≤ (w.alloc (.cells #[.slice a len cap, .int .i64 0, .int .u64 0] 102)).heap.size := by simp
  clear h
  go_enter Try.func73, Try.ntmps73
  go_wp2_with fail
  generalize hWW : w.alloc (.cells #[.slice a len cap, .int .i64 0, .int .u64 0] 102) = W0 at *
  have HWW := Lib.hid hWW
  generalize hB0 : w.heap.size = B at *
  have HB0 := Lib.hid hB0
  clear hWW hB0
  refine (rules B 0 _ HC.out (by omega)).mono ?_
  rintro e w1 ⟨v, z, rfl, hv, hvn, hsh, hzl, hc1, hg1⟩
  have HV := Lib.hid hv
  have HVn := Lib.hid hvn
  have HSh := Lib.hid hsh
  have HC1 := Lib.hid hc1
  have HA := Lib.hid (show B < W0.heap.size by omega)
  clear hv hvn hsh hc1 HC
  go_wp2_with fail
  refine (ruleOf B _ _ v z _ HC1.out (by omega) HV.out HA.out hzl).mono ?_
  rintro e w2 ⟨x, rfl, hc2, hg2⟩
  have HV2 := Lib.hid (own_grown HV.out hg2 HA.out)
  have hgg2 := grown_trans hg1 hg2
  have HC2 := Lib.hid hc2
  clear hc2 hg1 hg2 HV HC1
  go_wp2_with fail
  refine (among_lit B _ [0, 5, 9, 10, -1] w2 HC2.out (by omega) (by decide) (by decide)).mono ?_
  rintro e w3 ⟨y, _, rfl, hc3, hg3⟩
  have HV3 := Lib.hid (own_grown HV2.out hg3 HA.out)
  have hgg3 := grown_trans hgg2 hg3
  clear hc3 hgg2 hg3 HV2 HC2
  go_wp2_with fail
  go_ret3
  exact ⟨v, z, x, y, rfl, Own.low HV3.out (by have := HB0.out; omega), HVn.out, HSh.out, hzl, rbelow_end HB0.out HWW.out hgg3⟩
def NameArgs (w : World) (e : Ending) (w' : World) : Prop := ∃ (v : Value) (z : List LRule.R) (y : ByteArray), e = .returned (.tuple #[v, .string y]) ∧ Own LRule.rec 63 w' w.heap.size v z ∧ (∃ g, v.ownBlock = some g) ∧ RShort z ∧ z.length ≤ 16 ∧ y.size ≤ 11 ∧ Below w.heap.size w w'
set_option maxRecDepth 100000 in
set_option maxHeartbeats 3200000 in
theorem drawRuleByName (a : Option Addr) (len cap : Nat) (zs : List Int) (w : World) (h : Frame.IsRow .u8 w a len cap zs) (hl : len ≤ 65536) :
    Calls Try.prog 74 #[.slice a len cap] w (NameArgs w) := by
  have HC := Lib.hid (cur_new h hl)
  have hgc := grown_alloc w (.cells #[.slice a len cap, .int .i64 0, .int .u64 0] 102) none
  have hz : w.heap.size + 1 ≤ (w.alloc (.cells #[.slice a len cap, .int .i64 0, .int .u64 0] 102)).heap.size := by simp
  clear h
  go_enter Try.func74, Try.ntmps74
  go_wp2_with fail
  generalize hWW : w.alloc (.cells #[.slice a len cap, .int .i64 0, .int .u64 0] 102) = W0 at *
  have HWW := Lib.hid hWW
  generalize hB0 : w.heap.size = B at *
  have HB0 := Lib.hid hB0
  clear hWW hB0
  refine (rules B 0 _ HC.out (by omega)).mono ?_
  rintro e w1 ⟨v, z, rfl, hv, hvn, hsh, hzl, hc1, hg1⟩
  have HV := Lib.hid hv
  have HVn := Lib.hid hvn
  have HSh := Lib.hid hsh
  have HC1 := Lib.hid hc1
  have HA := Lib.hid (show B < W0.heap.size by omega)
  clear hv hvn hsh hc1 HC
  obtain ⟨l, hll⟩ : ∃ l, l = z.length := ⟨_, rfl⟩
  have HLn := Lib.hid hll.symm
  have hW := HWW.out
  rcases HV.out.shape with ⟨rfl, hz⟩ | ⟨g, cp, rfl, hgA, hgl, hcap, hcm⟩
  · obtain ⟨g, hg⟩ := HVn.out; cases hg
  unfold maxLen at hcm
  rw [← hll] at HV HVn hcap ⊢
  clear hll hW
  have HV1 := Lib.hid (Own.low HV.out (show w.heap.size ≤ W0.heap.size by have := HB0.out; have := HA.out; omega))
  by_cases h0 : l = 0
  · subst h0
    go_wp2_with fail
    refine (word B _ _ HC1.out (by omega)).mono ?_
    rintro e w2 ⟨x, rfl, hxs, hc2, hg2⟩
    have HV2 := Lib.hid (own_grown HV.out hg2 HA.out)
    have hgg2 := grown_trans hg1 hg2
    clear hc2 hg1 hg2
    go_wp2_with fail
    go_ret2
    exact ⟨_, z, x, rfl, Own.low HV2.out (by have := HB0.out; omega), HVn.out, HSh.out, hzl, by omega, rbelow_end HB0.out HWW.out hgg2⟩
  · have hl0 : (0 : Int) < (l : Int) := by omega
    go_wp2_with fail
    refine (one B _ 2 _ HC1.out (by omega) (by omega) (by omega)).mono ?_
    rintro e w2 ⟨b, rfl, hc2, hg2⟩
    have HV2 := Lib.hid (own_grown HV.out hg2 HA.out)
    have hgg2 := grown_trans hg1 hg2
    have HC2 := Lib.hid hc2
    clear hc2 hg1 hg2 HV HC1
    cases b with
    | true =>
      go_upto_region 4 with fail
      replace HC2 := Lib.hid (show Cur w2.drew B _ from HC2.out.kept (Below.drew (Below.refl _ _)))
      replace HV2 := Lib.hid (show Own LRule.rec 63 w2.drew _ _ z from HV2.out.kept (Below.drew (Below.refl _ _)))
      replace hgg2 := grown_trans hgg2 (show w2.grownBy w2.drew (some B) from grown_drew w2 1 (some B))
      refine wp_region_held_drew (S := (fun _ : World => True)) (by kernel_rfl) trivial (fun hHeld => ?_)
      refine wpAnyH_take (i := 0) (v := ?v1) rfl (by kernel_rfl) (by kernel_rfl) (by kernel_rfl) (fun _ _ _ h => h) (Or.inl ⟨by rfl, ?hy1⟩) (by assumption) ?rest1
      case hy1 => (intro wq hSw; (try dsimp only at hSw); go_split_ands; go_simp; (try with_reducible rfl))
      case rest1 =>
      refine wpAnyH_take (i := 1) (v := ?v2) rfl (by kernel_rfl) (by kernel_rfl) (by kernel_rfl) (fun _ _ _ h => h) (Or.inl ⟨by rfl, ?hy2⟩) (by assumption) ?rest2
      case hy2 => (intro wq hSw; (try dsimp only at hSw); go_split_ands; go_simp; (try with_reducible rfl))
      case rest2 =>
      refine wpAnyH_take (i := 2) (v := ?v3) rfl (by kernel_rfl) (by kernel_rfl) (by kernel_rfl) (fun _ _ _ h => h) (Or.inl ⟨by rfl, ?hy3⟩) (by assumption) ?rest3
      case hy3 => (intro wq hSw; (try dsimp only at hSw); go_split_ands; go_simp; (try with_reducible rfl))
      case rest3 =>
      refine wpAnyH_take (i := 3) (v := ?v4) rfl (by kernel_rfl) (by kernel_rfl) (by kernel_rfl) (fun _ _ _ h => h) (Or.inl ⟨by rfl, ?hy4⟩) (by assumption) ?rest4
      case hy4 => (intro wq hSw; (try dsimp only at hSw); go_split_ands; go_simp; (try with_reducible rfl))
      case rest4 =>
      refine wpAnyH_take (i := 4) (v := ?v5) rfl (by kernel_rfl) (by kernel_rfl) (by kernel_rfl) (fun _ _ _ h => h) (Or.inl ⟨by rfl, ?hy5⟩) (by assumption) ?rest5
      case hy5 => (intro wq hSw; (try dsimp only at hSw); go_split_ands; go_simp; (try with_reducible rfl))
      case rest5 =>
      refine wpAnyH_ready (rs := [5]) (by kernel_rfl) (by simp) ?_
      refine AllReadyH.cons rfl (fun K hK => ?step6) ?more6
      case step6 =>
        go_simp
        go_at_call 100
        refine (pick B _ l _ HC2.out (by omega) (by have := HLn.out; omega) (by have := HLn.out; omega)).mono ?_
        rintro e w3 ⟨r, rfl, r0, r1, hc3, hg3⟩
        obtain ⟨r, rfl⟩ := Int.eq_ofNat_of_zero_le r0
        have HV3 := Lib.hid (own_grown HV2.out hg3 HA.out)
        have hgg3 := grown_trans hgg2 hg3
        have hx : r < z.length := by have := HLn.out; omega
        have hxs : (z[r]).name.size ≤ 11 := HSh.out _ (List.getElem_mem hx)
        obtain ⟨q0, q1, q2, q3, q4, q5, q6⟩ := LRule.cells (HV3.out.at_ r _ (List.getElem?_eq_getElem hx))
        simp only [LRule.rec_n] at q0 q1 q2 q3 q4 q5 q6
        have r2 : (r : Int) < (l : Int) := by omega
        clear hc3 hg3 HV2 HC2 hgg2 q0 q2 q3 q4 q5 q6
        generalize z[r] = X at *
        go_wp2_with fail
        refine hK.out _ _ trivial (fun _ => wpAnyH_into (S' := (fun w' : World => w'.cell? ⟨g, r * 7 + 1, none⟩ = some (.string X.name))) (fun _ _ => trivial) q1 (fun hHeld => ?_))
        clear hK K
        refine wpAnyH_take (i := 6) (v := ?v7) rfl (by kernel_rfl) (by kernel_rfl) (by kernel_rfl) (fun _ _ _ h => h) (Or.inl ⟨by rfl, ?hy7⟩) (by assumption) ?rest7
        case hy7 => (intro wq hSw; (try dsimp only at hSw); go_split_ands; go_simp; (try with_reducible rfl))
        case rest7 =>
        refine wpAnyH_take (i := 7) (v := ?v8) rfl (by kernel_rfl) (by kernel_rfl) (by kernel_rfl) (fun _ _ _ h => h) (Or.inl ⟨by rfl, ?hy8⟩) (by assumption) ?rest8
        case hy8 => (intro wq hSw; (try dsimp only at hSw); go_split_ands; go_simp; (try with_reducible rfl))
        case rest8 =>
        refine wpAnyH_take (i := 8) (v := ?v9) rfl (by kernel_rfl) (by kernel_rfl) (by kernel_rfl) (fun _ _ _ h => h) (Or.inl ⟨by rfl, ?hy9⟩) (by assumption) ?rest9
        case hy9 => (intro wq hSw; (try dsimp only at hSw); go_split_ands; go_simp; (try with_reducible rfl))
        case rest9 =>
        refine wpAnyH_take (i := 9) (v := ?v10) rfl (by kernel_rfl) (by kernel_rfl) (by kernel_rfl) (fun _ _ _ h => h) (Or.inl ⟨by rfl, ?hy10⟩) (by assumption) ?rest10
        case hy10 => (intro wq hSw; (try dsimp only at hSw); go_split_ands; go_simp; (try with_reducible rfl))
        case rest10 =>
        refine wpAnyH_take (i := 10) (v := ?v11) rfl (by kernel_rfl) (by kernel_rfl) (by kernel_rfl) (fun _ _ _ h => h) (Or.inl ⟨by rfl, ?hy11⟩) (by assumption) ?rest11
        case hy11 => (intro wq hSw; (try dsimp only at hSw); go_split_ands; go_simp; (try with_reducible rfl))
        case rest11 =>
        refine wpAnyH_done (by kernel_rfl) ?_ _
        go_wp2_with fail
        go_ret2
        exact ⟨_, z, X.name, rfl, Own.low HV3.out (by have := HB0.out; omega), HVn.out, HSh.out, hzl, hxs, rbelow_end HB0.out HWW.out hgg3⟩
      case more6 => exact AllReadyH.nil
    | false =>
      go_wp2_with fail
      refine (word B _ _ HC2.out (by omega)).mono ?_
      rintro e w3 ⟨x, rfl, hxs, hc3, hg3⟩
      have HV3 := Lib.hid (own_grown HV2.out hg3 HA.out)
      have hgg3 := grown_trans hgg2 hg3
      clear hc3 hgg2 hg3
      go_wp2_with fail
      go_ret2
      exact ⟨_, z, x, rfl, Own.low HV3.out (by have := HB0.out; omega), HVn.out, HSh.out, hzl, by omega, rbelow_end HB0.out HWW.out hgg3⟩
end Go.Proofs.Ytbaflfbidgolfaa.Draw
