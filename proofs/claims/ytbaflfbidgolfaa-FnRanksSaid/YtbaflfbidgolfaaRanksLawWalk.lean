/- FnRanks: the law's walk, for every code. -/
import Derived.Test.YtbaflfbidgolfaaRanM
import Derived.Test.YtbaflfbidgolfaaDrawRa
import Derived.Test.YtbaflfbidgolfaaDrawRo
import Derived.Test.YtbaflfbidgolfaaFrame
namespace Go.Proofs.Ytbaflfbidgolfaa.fnRanks
open Go.RowKit Bs Ins Rule IntF
set_option linter.unusedVariables false
theorem row_kept {k : IntKind} {w w' : World} {a : Option Addr} {len cap : Nat} {zs : List Int} (h : Frame.IsRow k w a len cap zs) (hb : Below w.heap.size w w') : Frame.IsRow k w' a len cap zs := Draw.rrow_kept h hb
theorem bx_below {w w' : World} {G : Nat} {t : TypeId} {cs : Array Value} (h : Draw.Bx w G t cs) (hb : Below w.heap.size w w') : Draw.Bx w' G t cs := (hb.block G h.lt).trans h
set_option maxRecDepth 100000 in
set_option maxHeartbeats 12800000 in
theorem walk (a0 : Option Addr) (len0 cap0 : Nat) (z0 : List Int) (w : World) (sh : w.ShapedOpen Try.prog) (w0 : Frame.IsRow .u8 w a0 len0 cap0 z0) :
    Calls Try.prog 15 #[.slice a0 len0 cap0] w fun e w' => e = .returned (.bool true) ∧ Below w.heap.size w w' := by
  have HW0 := Lib.hid w0
  clear w0 sh
  by_cases hbig : 65536 < len0
  · have hd : decide ((65536 : Int) < len0) = true := decide_eq_true (by omega)
    have HR := Lib.hid (RanV.vBig a0 len0 cap0 w)
    rw [hd] at HR
    clear hd
    go_enter Try.func15, Try.ntmps15
    go_wp2_with fail
    refine HR.out.mono ?_
    rintro e w' ⟨rfl, rfl⟩
    go_wp2_with fail
    go_ret
    exact ⟨rfl, Below.refl _ _⟩
  have hd : decide ((65536 : Int) < len0) = false := decide_eq_false (by omega)
  have hl : len0 ≤ 65536 := by omega
  have HR := Lib.hid (RanV.vBig a0 len0 cap0 w)
  rw [hd] at HR
  clear hd hbig
  go_enter Try.func15, Try.ntmps15
  go_wp2_with fail
  refine HR.out.mono ?_
  rintro e w' ⟨rfl, rfl⟩
  clear HR
  go_wp2_with fail
  refine (Draw.drawAddRule a0 len0 cap0 z0 _ HW0.out hl).mono ?_
  rintro e w1 ⟨v, z, r, rfl, hv, hvn, hsh, hrs, hzl, hb1⟩
  have HX := Lib.hid (Draw.Bx.new w1 63 #[.int .i64 r.id, .string r.name, .int .i64 r.rank, .bool r.sec, .bool r.deb, .bool r.am, .int .i64 r.need])
  have HV := Lib.hid (IsS.below LRule.rec (Own.isS hv hvn) ((Below.refl w1.heap.size w1).alloc (Nat.le_refl _) (.cells #[.int .i64 r.id, .string r.name, .int .i64 r.rank, .bool r.sec, .bool r.deb, .bool r.am, .int .i64 r.need] 63)))
  have HF := Lib.hid (Draw.rshort_fine hsh)
  have HB := Lib.hid (hb1.alloc hb1.size (.cells #[.int .i64 r.id, .string r.name, .int .i64 r.rank, .bool r.sec, .bool r.deb, .bool r.am, .int .i64 r.need] 63))
  have hfr := Draw.rule_fine hrs
  clear hv hvn hsh hb1
  go_wp2_with fail
  generalize w1.alloc (.cells #[.int .i64 r.id, .string r.name, .int .i64 r.rank, .bool r.sec, .bool r.deb, .bool r.am, .int .i64 r.need] 63) = W1 at *
  generalize w1.heap.size = G at *
  refine (AddC.impl v z r _ HV.out HF.out (by omega) hfr).mono ?_
  rintro e w2 ⟨v2, r0, r1, rfl, hA, ho, hb1⟩
  replace HV := Lib.hid (IsS.below LRule.rec HV.out hb1)
  replace HX := Lib.hid (bx_below HX.out hb1)
  replace HB := Lib.hid (HB.out.trans (hb1.mono HB.out.size))
  have HO := Lib.hid (Own.is ho)
  have HA := Lib.hid hA
  clear hA hb1 ho
  have k0 := HX.out.cell 0
  have k1 := HX.out.cell 1
  have k2 := HX.out.cell 2
  have k3 := HX.out.cell 3
  have k4 := HX.out.cell 4
  have k5 := HX.out.cell 5
  have k6 := HX.out.cell 6
  go_wp2_with fail
  clear k0 k1 k2 k3 k4 k5 k6
  refine (AddC.spec v z r _ HV.out HF.out (by omega) hfr).mono ?_
  rintro e w3 ⟨v3, s0, s1, rfl, hA, ho, hb1⟩
  obtain ⟨rfl, rfl⟩ := AddC.same HA.out hA
  replace HV := Lib.hid (IsS.below LRule.rec HV.out hb1)
  replace HX := Lib.hid (bx_below HX.out hb1)
  replace HO := Lib.hid (HO.out.below LRule.rec hb1)
  replace HB := Lib.hid (HB.out.trans (hb1.mono HB.out.size))
  have HO3 := Lib.hid (Own.is ho)
  have e2 : (r1 != r1) = false := by simp
  clear hA hb1 ho
  go_wp2_with fail
  refine (RanV.vRules v2 v3 r0 _ HO.out HO3.out).mono ?_
  rintro e w4 ⟨rfl, hb1⟩
  replace HV := Lib.hid (IsS.below LRule.rec HV.out hb1)
  replace HX := Lib.hid (bx_below HX.out hb1)
  replace HO := Lib.hid (HO.out.below LRule.rec hb1)
  replace HB := Lib.hid (HB.out.trans (hb1.mono HB.out.size))
  clear hb1 HO3 e2
  cases r1 with
  | false =>
    clear HA HV HF HO HX hfr hrs
    go_wp2_with fail
    refine (Draw.drawRulesAbove a0 len0 cap0 z0 _ (row_kept HW0.out HB.out) hl).mono ?_
    rintro e w10 ⟨v, z, y, rfl, hv, hvn, hsh, hzl, y0, y1, hb1⟩
    have HV := Lib.hid (Own.isS hv hvn)
    have HF := Lib.hid (Draw.rshort_fine hsh)
    replace HB := Lib.hid (HB.out.trans (hb1.mono HB.out.size))
    clear hv hvn hsh hb1
    go_wp2_with fail
    refine (RanM.aboveI v z y _ HV.out HF.out).mono ?_
    rintro e w11 ⟨v2, r0, r1, rfl, hA, ho, hb1⟩
    replace HV := Lib.hid (IsS.below LRule.rec HV.out hb1)
    replace HB := Lib.hid (HB.out.trans (hb1.mono HB.out.size))
    have HO := Lib.hid (Own.is ho)
    have HA := Lib.hid hA
    clear hA hb1 ho
    go_wp2_with fail
    refine (RanM.aboveS v z y _ HV.out HF.out).mono ?_
    rintro e w12 ⟨v3, s0, s1, rfl, hA, ho, hb1⟩
    obtain ⟨rfl, rfl⟩ := HA.out.same hA
    replace HV := Lib.hid (IsS.below LRule.rec HV.out hb1)
    replace HO := Lib.hid (HO.out.below LInt.rec hb1)
    replace HB := Lib.hid (HB.out.trans (hb1.mono HB.out.size))
    have HO3 := Lib.hid (Own.is ho)
    have e2 : (r1 != r1) = false := by simp
    clear hA hb1 ho
    go_wp2_with fail
    refine (RanV.vInts v2 v3 r0 _ HO.out HO3.out).mono ?_
    rintro e w13 ⟨rfl, hb1⟩
    replace HV := Lib.hid (IsS.below LRule.rec HV.out hb1)
    replace HO := Lib.hid (HO.out.below LInt.rec hb1)
    replace HB := Lib.hid (HB.out.trans (hb1.mono HB.out.size))
    clear hb1 HO3 e2 HF
    obtain ⟨ax, cx, e5, hrow⟩ := IsS.is LRule.rec HV.out
    subst e5
    have hc := hrow.at_ LRule.rec
    obtain ⟨n, hn⟩ : ∃ n, n = z.length := ⟨_, rfl⟩
    have HN := Lib.hid hn.symm
    have hnb : n ≤ cx := by have := hrow.1; omega
    rw [← hn]
    rw [← hn] at HV
    have hn16 : n ≤ 16 := by omega
    clear hn hrow hzl
    go_wp2_with fail
    go_loopw [19] (fun i wr => ∃ k : Nat, k ≤ n ∧ i = .int .i64 k ∧ Hid (Below w13.heap.size w13 wr)) (fun i _ => n - (intOf i).toNat)
    case atStart => exact ⟨0, Nat.zero_le _, rfl, Lib.hid (Below.refl _ _)⟩
    case round =>
      obtain ⟨k, hk, rfl, HBk⟩ := hrel
      have hb := HBk.out
      by_cases hlt : k < n
      · have k0 : 0 ≤ (k : Int) := by omega
        have k1 : (k : Int) < (n : Int) := by omega
        cases r1 with
        | true =>
          have hx : k < z.length := by have := HN.out; omega
          obtain ⟨b, o, rfl, hbl, hcell0⟩ := hc.out k z[k] (List.getElem?_eq_getElem hx)
          obtain ⟨c0, c1, c2, c3, c4, c5, c6⟩ := LRule.cells (hcell0.below LRule.rec hb hbl)
          simp only [LRule.rec_n] at c0 c1 c2 c3 c4 c5 c6
          have hh := RanM.above_has HA.out (List.getElem?_eq_getElem hx)
          clear hcell0 c1 c3 c4 c5 c6
          generalize z[k] = X at *
          have HHas := Lib.hid (RanV.vHas v2 r0 X.id wr.drew ((HO.out.below LInt.rec hb).below LInt.rec (Below.drew (Below.refl _ _))))
          rw [hh] at HHas
          clear hh
          have hne : (decide (y < X.rank) != decide (y < X.rank)) = false := by simp
          go_upto_region 21 with fail
          refine wp_region_held_drew (S := (fun w' : World => w'.cell? ⟨b, o + k * 7, none⟩ = some (.int .i64 X.id) ∧ w'.cell? ⟨b, o + k * 7 + 2, none⟩ = some (.int .i64 X.rank))) (by kernel_rfl) ⟨c0, c2⟩ (fun hHeld => ?_)
          refine wpAnyH_take (i := 0) (v := ?v1) rfl (by kernel_rfl) (by kernel_rfl) (by kernel_rfl) (fun _ _ _ h => h) (Or.inl ⟨by rfl, ?hy1⟩) (by assumption) ?rest1
          case hy1 => (intro wq hSw; (try dsimp only at hSw); go_split_ands; go_simp; (try with_reducible rfl))
          case rest1 =>
          refine wpAnyH_take (i := 1) (v := ?v2) rfl (by kernel_rfl) (by kernel_rfl) (by kernel_rfl) (fun _ _ _ h => h) (Or.inl ⟨by rfl, ?hy2⟩) (by assumption) ?rest2
          case hy2 => (intro wq hSw; (try dsimp only at hSw); go_split_ands; go_simp; (try with_reducible rfl))
          case rest2 =>
          refine wpAnyH_take (i := 2) (v := ?v3) rfl (by kernel_rfl) (by kernel_rfl) (by kernel_rfl) (fun _ _ _ h => h) (Or.inl ⟨by rfl, ?hy3⟩) (by assumption) ?rest3
          case hy3 => (intro wq hSw; (try dsimp only at hSw); go_split_ands; go_simp; (try with_reducible rfl))
          case rest3 =>
          refine wpAnyH_take (i := 3) (v := ?v4) rfl (by kernel_rfl) (by kernel_rfl) (by kernel_rfl) (fun _ _ _ h => h) (Or.inl ⟨by rfl, ?hy4⟩) (by assumption) ?rest4
          case hy4 => (intro wq hSw; (try dsimp only at hSw); go_split_ands; go_simp; (try with_reducible rfl))
          case rest4 =>
          refine wpAnyH_take (i := 4) (v := ?v5) rfl (by kernel_rfl) (by kernel_rfl) (by kernel_rfl) (fun _ _ _ h => h) (Or.inl ⟨by rfl, ?hy5⟩) (by assumption) ?rest5
          case hy5 => (intro wq hSw; (try dsimp only at hSw); go_split_ands; go_simp; (try with_reducible rfl))
          case rest5 =>
          refine wpAnyH_take (i := 5) (v := ?v6) rfl (by kernel_rfl) (by kernel_rfl) (by kernel_rfl) (fun _ _ _ h => h) (Or.inl ⟨by rfl, ?hy6⟩) (by assumption) ?rest6
          case hy6 => (intro wq hSw; (try dsimp only at hSw); go_split_ands; go_simp; (try with_reducible rfl))
          case rest6 =>
          refine wpAnyH_take (i := 7) (v := ?v7) rfl (by kernel_rfl) (by kernel_rfl) (by kernel_rfl) (fun _ _ _ h => h) (Or.inl ⟨by rfl, ?hy7⟩) (by assumption) ?rest7
          case hy7 => (intro wq hSw; (try dsimp only at hSw); go_split_ands; go_simp; (try with_reducible rfl))
          case rest7 =>
          refine wpAnyH_take (i := 8) (v := ?v8) rfl (by kernel_rfl) (by kernel_rfl) (by kernel_rfl) (fun _ _ _ h => h) (Or.inl ⟨by rfl, ?hy8⟩) (by assumption) ?rest8
          case hy8 => (intro wq hSw; (try dsimp only at hSw); go_split_ands; go_simp; (try with_reducible rfl))
          case rest8 =>
          refine wpAnyH_take (i := 9) (v := ?v9) rfl (by kernel_rfl) (by kernel_rfl) (by kernel_rfl) (fun _ _ _ h => h) (Or.inl ⟨by rfl, ?hy9⟩) (by assumption) ?rest9
          case hy9 => (intro wq hSw; (try dsimp only at hSw); go_split_ands; go_simp; (try with_reducible rfl))
          case rest9 =>
          refine wpAnyH_take (i := 10) (v := ?v10) rfl (by kernel_rfl) (by kernel_rfl) (by kernel_rfl) (fun _ _ _ h => h) (Or.inl ⟨by rfl, ?hy10⟩) (by assumption) ?rest10
          case hy10 => (intro wq hSw; (try dsimp only at hSw); go_split_ands; go_simp; (try with_reducible rfl))
          case rest10 =>
          refine wpAnyH_take (i := 11) (v := ?v11) rfl (by kernel_rfl) (by kernel_rfl) (by kernel_rfl) (fun _ _ _ h => h) (Or.inl ⟨by rfl, ?hy11⟩) (by assumption) ?rest11
          case hy11 => (intro wq hSw; (try dsimp only at hSw); go_split_ands; go_simp; (try with_reducible rfl))
          case rest11 =>
          refine wpAnyH_take (i := 12) (v := ?v12) rfl (by kernel_rfl) (by kernel_rfl) (by kernel_rfl) (fun _ _ _ h => h) (Or.inl ⟨by rfl, ?hy12⟩) (by assumption) ?rest12
          case hy12 => (intro wq hSw; (try dsimp only at hSw); go_split_ands; go_simp; (try with_reducible rfl))
          case rest12 =>
          refine wpAnyH_take (i := 13) (v := ?v13) rfl (by kernel_rfl) (by kernel_rfl) (by kernel_rfl) (fun _ _ _ h => h) (Or.inl ⟨by rfl, ?hy13⟩) (by assumption) ?rest13
          case hy13 => (intro wq hSw; (try dsimp only at hSw); go_split_ands; go_simp; (try with_reducible rfl))
          case rest13 =>
          refine wpAnyH_ready (rs := [6]) (by kernel_rfl) (by simp) ?_
          refine AllReadyH.cons rfl (fun K hK => ?step14) ?more14
          case step14 =>
            go_simp
            go_at_call 54
            refine HHas.out.mono ?_
            rintro e w' ⟨rfl, rfl⟩
            go_wp2_with fail
            refine hK.out _ _ (by first | exact hHeld | exact ⟨c0, c2⟩) (fun hHeld => ?_)
            clear hK K
            refine wpAnyH_take (i := 14) (v := ?v15) rfl (by kernel_rfl) (by kernel_rfl) (by kernel_rfl) (fun _ _ _ h => h) (Or.inl ⟨by rfl, ?hy15⟩) (by assumption) ?rest15
            case hy15 => (intro wq hSw; (try dsimp only at hSw); go_split_ands; go_simp; (try with_reducible rfl))
            case rest15 =>
            refine wpAnyH_done (by kernel_rfl) ?_ _
            clear hHeld c0 c2
            go_wp2_with fail
            go_roundw
            case rel => exact ⟨k + 1, by omega, by go_num, Lib.hid (Below.drew hb)⟩
            case measure => simp [intOf]; omega
          case more14 => exact AllReadyH.nil
        | false =>
          replace HB := Lib.hid (HB.out.trans (hb.mono HB.out.size))
          clear HBk hb HV HO HA HN hc k0
          go_wp2_with fail
          refine (Draw.drawChangeRank a0 len0 cap0 z0 _ (row_kept HW0.out HB.out) hl).mono ?_
          rintro e w20 ⟨v, z, x, y, rfl, hv, hvn, hsh, hzl, hb1⟩
          have HV := Lib.hid (Own.isS hv hvn)
          have HF := Lib.hid (Draw.rshort_fine hsh)
          replace HB := Lib.hid (HB.out.trans (hb1.mono HB.out.size))
          clear hv hvn hsh hb1
          go_wp2_with fail
          refine (ChangeC.impl v z x y _ HV.out HF.out (by omega)).mono ?_
          rintro e w21 ⟨v2, r0, r1, rfl, hA, ho, hb1⟩
          replace HV := Lib.hid (IsS.below LRule.rec HV.out hb1)
          replace HB := Lib.hid (HB.out.trans (hb1.mono HB.out.size))
          have HO := Lib.hid (Own.is ho)
          have HA := Lib.hid hA
          clear hA hb1 ho
          go_wp2_with fail
          refine (ChangeC.spec v z x y _ HV.out HF.out (by omega)).mono ?_
          rintro e w22 ⟨v3, s0, s1, rfl, hA, ho, hb1⟩
          obtain ⟨rfl, rfl⟩ := ChangeC.same HA.out hA
          replace HO := Lib.hid (HO.out.below LRule.rec hb1)
          replace HB := Lib.hid (HB.out.trans (hb1.mono HB.out.size))
          have HO3 := Lib.hid (Own.is ho)
          have e2 : (r1 != r1) = false := by simp
          clear hA hb1 ho HA HV HF hzl
          go_wp2_with fail
          refine (RanV.vRules v2 v3 r0 _ HO.out HO3.out).mono ?_
          rintro e w23 ⟨rfl, hb1⟩
          replace HB := Lib.hid (HB.out.trans (hb1.mono HB.out.size))
          clear hb1 HO HO3 e2
          go_wp2_with fail
          refine (Draw.drawRuleByName a0 len0 cap0 z0 _ (row_kept HW0.out HB.out) hl).mono ?_
          rintro e w30 ⟨v, z, y, rfl, hv, hvn, hsh, hzl, hys, hb1⟩
          have HV := Lib.hid (Own.isS hv hvn)
          have HF := Lib.hid (Draw.rshort_fine hsh)
          replace HB := Lib.hid (HB.out.trans (hb1.mono HB.out.size))
          clear hv hvn hsh hb1
          go_wp2_with fail
          refine (RanM.nameI v z y _ (IsS.is LRule.rec HV.out) HF.out).mono ?_
          rintro e w31 ⟨q, b, rfl, hA, hb1⟩
          have HA := Lib.hid hA
          replace HV := Lib.hid (IsS.below LRule.rec (IsS.below LRule.rec HV.out hb1) ((Below.refl w31.heap.size w31).alloc (Nat.le_refl _) (.cells #[.int .i64 q.id, .string q.name, .int .i64 q.rank, .bool q.sec, .bool q.deb, .bool q.am, .int .i64 q.need] 63)))
          replace HB := Lib.hid ((HB.out.trans (hb1.mono HB.out.size)).alloc (by have h1 := HB.out.size; have h2 := hb1.size; omega) (.cells #[.int .i64 q.id, .string q.name, .int .i64 q.rank, .bool q.sec, .bool q.deb, .bool q.am, .int .i64 q.need] 63))
          have HX := Lib.hid (Draw.Bx.new w31 63 #[.int .i64 q.id, .string q.name, .int .i64 q.rank, .bool q.sec, .bool q.deb, .bool q.am, .int .i64 q.need])
          clear hA hb1
          go_wp2_with fail
          generalize w31.alloc (.cells #[.int .i64 q.id, .string q.name, .int .i64 q.rank, .bool q.sec, .bool q.deb, .bool q.am, .int .i64 q.need] 63) = W31 at *
          generalize w31.heap.size = G at *
          refine (RanM.nameS v z y _ HV.out HF.out).mono ?_
          rintro e w32 ⟨q2, b2, rfl, hA, hb1⟩
          obtain ⟨hq, hbb⟩ := HA.out.same hA
          rw [← hq, ← hbb]
          have HX2 := Lib.hid (bx_below HX.out hb1)
          have k0 := (HX2.out.alloc (.cells #[.int .i64 q.id, .string q.name, .int .i64 q.rank, .bool q.sec, .bool q.deb, .bool q.am, .int .i64 q.need] 63)).cell 0
          have k1 := (HX2.out.alloc (.cells #[.int .i64 q.id, .string q.name, .int .i64 q.rank, .bool q.sec, .bool q.deb, .bool q.am, .int .i64 q.need] 63)).cell 1
          have k2 := (HX2.out.alloc (.cells #[.int .i64 q.id, .string q.name, .int .i64 q.rank, .bool q.sec, .bool q.deb, .bool q.am, .int .i64 q.need] 63)).cell 2
          have k3 := (HX2.out.alloc (.cells #[.int .i64 q.id, .string q.name, .int .i64 q.rank, .bool q.sec, .bool q.deb, .bool q.am, .int .i64 q.need] 63)).cell 3
          have k4 := (HX2.out.alloc (.cells #[.int .i64 q.id, .string q.name, .int .i64 q.rank, .bool q.sec, .bool q.deb, .bool q.am, .int .i64 q.need] 63)).cell 4
          have k5 := (HX2.out.alloc (.cells #[.int .i64 q.id, .string q.name, .int .i64 q.rank, .bool q.sec, .bool q.deb, .bool q.am, .int .i64 q.need] 63)).cell 5
          have k6 := (HX2.out.alloc (.cells #[.int .i64 q.id, .string q.name, .int .i64 q.rank, .bool q.sec, .bool q.deb, .bool q.am, .int .i64 q.need] 63)).cell 6
          have e1 : (b == b) = true := by simp
          replace HB := Lib.hid ((HB.out.trans (hb1.mono HB.out.size)).alloc (by have h1 := HB.out.size; have h2 := hb1.size; omega) (.cells #[.int .i64 q.id, .string q.name, .int .i64 q.rank, .bool q.sec, .bool q.deb, .bool q.am, .int .i64 q.need] 63))
          clear hA hb1 HA HX HX2 HV HF hq hbb
          go_wp2_with fail
          go_ret
          exact ⟨rfl, HB.out⟩
      · replace HB := Lib.hid (HB.out.trans (hb.mono HB.out.size))
        clear HBk hb HV HO HA HN hc
        go_wp2_with fail
        refine (Draw.drawChangeRank a0 len0 cap0 z0 _ (row_kept HW0.out HB.out) hl).mono ?_
        rintro e w20 ⟨v, z, x, y, rfl, hv, hvn, hsh, hzl, hb1⟩
        have HV := Lib.hid (Own.isS hv hvn)
        have HF := Lib.hid (Draw.rshort_fine hsh)
        replace HB := Lib.hid (HB.out.trans (hb1.mono HB.out.size))
        clear hv hvn hsh hb1
        go_wp2_with fail
        refine (ChangeC.impl v z x y _ HV.out HF.out (by omega)).mono ?_
        rintro e w21 ⟨v2, r0, r1, rfl, hA, ho, hb1⟩
        replace HV := Lib.hid (IsS.below LRule.rec HV.out hb1)
        replace HB := Lib.hid (HB.out.trans (hb1.mono HB.out.size))
        have HO := Lib.hid (Own.is ho)
        have HA := Lib.hid hA
        clear hA hb1 ho
        go_wp2_with fail
        refine (ChangeC.spec v z x y _ HV.out HF.out (by omega)).mono ?_
        rintro e w22 ⟨v3, s0, s1, rfl, hA, ho, hb1⟩
        obtain ⟨rfl, rfl⟩ := ChangeC.same HA.out hA
        replace HO := Lib.hid (HO.out.below LRule.rec hb1)
        replace HB := Lib.hid (HB.out.trans (hb1.mono HB.out.size))
        have HO3 := Lib.hid (Own.is ho)
        have e2 : (r1 != r1) = false := by simp
        clear hA hb1 ho HA HV HF hzl
        go_wp2_with fail
        refine (RanV.vRules v2 v3 r0 _ HO.out HO3.out).mono ?_
        rintro e w23 ⟨rfl, hb1⟩
        replace HB := Lib.hid (HB.out.trans (hb1.mono HB.out.size))
        clear hb1 HO HO3 e2
        go_wp2_with fail
        refine (Draw.drawRuleByName a0 len0 cap0 z0 _ (row_kept HW0.out HB.out) hl).mono ?_
        rintro e w30 ⟨v, z, y, rfl, hv, hvn, hsh, hzl, hys, hb1⟩
        have HV := Lib.hid (Own.isS hv hvn)
        have HF := Lib.hid (Draw.rshort_fine hsh)
        replace HB := Lib.hid (HB.out.trans (hb1.mono HB.out.size))
        clear hv hvn hsh hb1
        go_wp2_with fail
        refine (RanM.nameI v z y _ (IsS.is LRule.rec HV.out) HF.out).mono ?_
        rintro e w31 ⟨q, b, rfl, hA, hb1⟩
        have HA := Lib.hid hA
        replace HV := Lib.hid (IsS.below LRule.rec (IsS.below LRule.rec HV.out hb1) ((Below.refl w31.heap.size w31).alloc (Nat.le_refl _) (.cells #[.int .i64 q.id, .string q.name, .int .i64 q.rank, .bool q.sec, .bool q.deb, .bool q.am, .int .i64 q.need] 63)))
        replace HB := Lib.hid ((HB.out.trans (hb1.mono HB.out.size)).alloc (by have h1 := HB.out.size; have h2 := hb1.size; omega) (.cells #[.int .i64 q.id, .string q.name, .int .i64 q.rank, .bool q.sec, .bool q.deb, .bool q.am, .int .i64 q.need] 63))
        have HX := Lib.hid (Draw.Bx.new w31 63 #[.int .i64 q.id, .string q.name, .int .i64 q.rank, .bool q.sec, .bool q.deb, .bool q.am, .int .i64 q.need])
        clear hA hb1
        go_wp2_with fail
        generalize w31.alloc (.cells #[.int .i64 q.id, .string q.name, .int .i64 q.rank, .bool q.sec, .bool q.deb, .bool q.am, .int .i64 q.need] 63) = W31 at *
        generalize w31.heap.size = G at *
        refine (RanM.nameS v z y _ HV.out HF.out).mono ?_
        rintro e w32 ⟨q2, b2, rfl, hA, hb1⟩
        obtain ⟨hq, hbb⟩ := HA.out.same hA
        rw [← hq, ← hbb]
        have HX2 := Lib.hid (bx_below HX.out hb1)
        have k0 := (HX2.out.alloc (.cells #[.int .i64 q.id, .string q.name, .int .i64 q.rank, .bool q.sec, .bool q.deb, .bool q.am, .int .i64 q.need] 63)).cell 0
        have k1 := (HX2.out.alloc (.cells #[.int .i64 q.id, .string q.name, .int .i64 q.rank, .bool q.sec, .bool q.deb, .bool q.am, .int .i64 q.need] 63)).cell 1
        have k2 := (HX2.out.alloc (.cells #[.int .i64 q.id, .string q.name, .int .i64 q.rank, .bool q.sec, .bool q.deb, .bool q.am, .int .i64 q.need] 63)).cell 2
        have k3 := (HX2.out.alloc (.cells #[.int .i64 q.id, .string q.name, .int .i64 q.rank, .bool q.sec, .bool q.deb, .bool q.am, .int .i64 q.need] 63)).cell 3
        have k4 := (HX2.out.alloc (.cells #[.int .i64 q.id, .string q.name, .int .i64 q.rank, .bool q.sec, .bool q.deb, .bool q.am, .int .i64 q.need] 63)).cell 4
        have k5 := (HX2.out.alloc (.cells #[.int .i64 q.id, .string q.name, .int .i64 q.rank, .bool q.sec, .bool q.deb, .bool q.am, .int .i64 q.need] 63)).cell 5
        have k6 := (HX2.out.alloc (.cells #[.int .i64 q.id, .string q.name, .int .i64 q.rank, .bool q.sec, .bool q.deb, .bool q.am, .int .i64 q.need] 63)).cell 6
        have e1 : (b == b) = true := by simp
        replace HB := Lib.hid ((HB.out.trans (hb1.mono HB.out.size)).alloc (by have h1 := HB.out.size; have h2 := hb1.size; omega) (.cells #[.int .i64 q.id, .string q.name, .int .i64 q.rank, .bool q.sec, .bool q.deb, .bool q.am, .int .i64 q.need] 63))
        clear hA hb1 HA HX HX2 HV HF hq hbb
        go_wp2_with fail
        go_ret
        exact ⟨rfl, HB.out⟩
  | true =>
    obtain ⟨hg, rfl⟩ := RanM.add_told HA.out
    have HG := Lib.hid hg
    have HFg := Lib.hid (ins_fine HF.out hfr)
    have hlen : (((ins z r).length : Int) != (z.length : Int) + 1) = false := by rw [ins_len]; simp
    have hw : IntKind.i64.wrap ((z.length : Int) + 1) = (z.length : Int) + 1 := IntWalk.i64_in _ (by omega)
    clear hg HA HF
    obtain ⟨a2, c2, e5, _⟩ := id HO.out
    subst e5
    obtain ⟨b1, o1, c1, e6, _⟩ := id HV.out
    subst e6
    have k1 := HX.out.cell 1
    have HNg := Lib.hid (RanM.nameGot _ z r _ HO.out HFg.out HG.out)
    go_wp2_with fail
    refine HNg.out.mono ?_
    rintro e w5 ⟨rfl, hb1⟩
    clear k1 HNg
    replace HX := Lib.hid ((bx_below HX.out hb1).alloc (.cells #[.int .i64 r.id, .string r.name, .int .i64 r.rank, .bool r.sec, .bool r.deb, .bool r.am, .int .i64 r.need] 63))
    have HY := Lib.hid (Draw.Bx.new w5 63 #[.int .i64 r.id, .string r.name, .int .i64 r.rank, .bool r.sec, .bool r.deb, .bool r.am, .int .i64 r.need])
    replace HO := Lib.hid ((HO.out.below LRule.rec hb1).below LRule.rec ((Below.refl w5.heap.size w5).alloc (Nat.le_refl _) (.cells #[.int .i64 r.id, .string r.name, .int .i64 r.rank, .bool r.sec, .bool r.deb, .bool r.am, .int .i64 r.need] 63)))
    replace HB := Lib.hid ((HB.out.trans (hb1.mono HB.out.size)).alloc (by have h1 := HB.out.size; have h2 := hb1.size; omega) (.cells #[.int .i64 r.id, .string r.name, .int .i64 r.rank, .bool r.sec, .bool r.deb, .bool r.am, .int .i64 r.need] 63))
    have k0 := HX.out.cell 0
    have k2 := HX.out.cell 2
    have HC := Lib.hid (RanM.changeGot _ z r _ HO.out HFg.out HG.out)
    clear hb1 HV
    go_wp2_with fail
    clear k0 k2
    generalize w5.alloc (.cells #[.int .i64 r.id, .string r.name, .int .i64 r.rank, .bool r.sec, .bool r.deb, .bool r.am, .int .i64 r.need] 63) = W5 at *
    generalize w5.heap.size = G2 at *
    refine HC.out.mono ?_
    rintro e w6 ⟨v5, rfl, his, hb1⟩
    replace HX := Lib.hid (bx_below HX.out hb1)
    replace HY := Lib.hid (bx_below HY.out hb1)
    replace HO := Lib.hid (HO.out.below LRule.rec hb1)
    replace HB := Lib.hid (HB.out.trans (hb1.mono HB.out.size))
    have HVR := Lib.hid (RanV.vRules _ _ _ _ his HO.out)
    clear hb1 his HC HG HFg
    have k0 := HX.out.cell 0
    have k1 := HX.out.cell 1
    have k2 := HX.out.cell 2
    have k3 := HX.out.cell 3
    have k4 := HX.out.cell 4
    have k5 := HX.out.cell 5
    have k6 := HX.out.cell 6
    have l0 := HY.out.cell 0
    have l1 := HY.out.cell 1
    have l2 := HY.out.cell 2
    have l3 := HY.out.cell 3
    have l4 := HY.out.cell 4
    have l5 := HY.out.cell 5
    have l6 := HY.out.cell 6
    go_wp2_with fail
    refine HVR.out.mono ?_
    rintro e w7 ⟨rfl, hb1⟩
    replace HB := Lib.hid (HB.out.trans (hb1.mono HB.out.size))
    clear hb1 HVR HX HY HO k0 k1 k2 k3 k4 k5 k6 l0 l1 l2 l3 l4 l5 l6
    go_wp2_with fail
    clear hlen hw hfr hrs hzl
    refine (Draw.drawRulesAbove a0 len0 cap0 z0 _ (row_kept HW0.out HB.out) hl).mono ?_
    rintro e w10 ⟨v, z, y, rfl, hv, hvn, hsh, hzl, y0, y1, hb1⟩
    have HV := Lib.hid (Own.isS hv hvn)
    have HF := Lib.hid (Draw.rshort_fine hsh)
    replace HB := Lib.hid (HB.out.trans (hb1.mono HB.out.size))
    clear hv hvn hsh hb1
    go_wp2_with fail
    refine (RanM.aboveI v z y _ HV.out HF.out).mono ?_
    rintro e w11 ⟨v2, r0, r1, rfl, hA, ho, hb1⟩
    replace HV := Lib.hid (IsS.below LRule.rec HV.out hb1)
    replace HB := Lib.hid (HB.out.trans (hb1.mono HB.out.size))
    have HO := Lib.hid (Own.is ho)
    have HA := Lib.hid hA
    clear hA hb1 ho
    go_wp2_with fail
    refine (RanM.aboveS v z y _ HV.out HF.out).mono ?_
    rintro e w12 ⟨v3, s0, s1, rfl, hA, ho, hb1⟩
    obtain ⟨rfl, rfl⟩ := HA.out.same hA
    replace HV := Lib.hid (IsS.below LRule.rec HV.out hb1)
    replace HO := Lib.hid (HO.out.below LInt.rec hb1)
    replace HB := Lib.hid (HB.out.trans (hb1.mono HB.out.size))
    have HO3 := Lib.hid (Own.is ho)
    have e2 : (r1 != r1) = false := by simp
    clear hA hb1 ho
    go_wp2_with fail
    refine (RanV.vInts v2 v3 r0 _ HO.out HO3.out).mono ?_
    rintro e w13 ⟨rfl, hb1⟩
    replace HV := Lib.hid (IsS.below LRule.rec HV.out hb1)
    replace HO := Lib.hid (HO.out.below LInt.rec hb1)
    replace HB := Lib.hid (HB.out.trans (hb1.mono HB.out.size))
    clear hb1 HO3 e2 HF
    obtain ⟨ax, cx, e5, hrow⟩ := IsS.is LRule.rec HV.out
    subst e5
    have hc := hrow.at_ LRule.rec
    obtain ⟨n, hn⟩ : ∃ n, n = z.length := ⟨_, rfl⟩
    have HN := Lib.hid hn.symm
    have hnb : n ≤ cx := by have := hrow.1; omega
    rw [← hn]
    rw [← hn] at HV
    have hn16 : n ≤ 16 := by omega
    clear hn hrow hzl
    go_wp2_with fail
    go_loopw [19] (fun i wr => ∃ k : Nat, k ≤ n ∧ i = .int .i64 k ∧ Hid (Below w13.heap.size w13 wr)) (fun i _ => n - (intOf i).toNat)
    case atStart => exact ⟨0, Nat.zero_le _, rfl, Lib.hid (Below.refl _ _)⟩
    case round =>
      obtain ⟨k, hk, rfl, HBk⟩ := hrel
      have hb := HBk.out
      by_cases hlt : k < n
      · have k0 : 0 ≤ (k : Int) := by omega
        have k1 : (k : Int) < (n : Int) := by omega
        cases r1 with
        | true =>
          have hx : k < z.length := by have := HN.out; omega
          obtain ⟨b, o, rfl, hbl, hcell0⟩ := hc.out k z[k] (List.getElem?_eq_getElem hx)
          obtain ⟨c0, c1, c2, c3, c4, c5, c6⟩ := LRule.cells (hcell0.below LRule.rec hb hbl)
          simp only [LRule.rec_n] at c0 c1 c2 c3 c4 c5 c6
          have hh := RanM.above_has HA.out (List.getElem?_eq_getElem hx)
          clear hcell0 c1 c3 c4 c5 c6
          generalize z[k] = X at *
          have HHas := Lib.hid (RanV.vHas v2 r0 X.id wr.drew ((HO.out.below LInt.rec hb).below LInt.rec (Below.drew (Below.refl _ _))))
          rw [hh] at HHas
          clear hh
          have hne : (decide (y < X.rank) != decide (y < X.rank)) = false := by simp
          go_upto_region 21 with fail
          refine wp_region_held_drew (S := (fun w' : World => w'.cell? ⟨b, o + k * 7, none⟩ = some (.int .i64 X.id) ∧ w'.cell? ⟨b, o + k * 7 + 2, none⟩ = some (.int .i64 X.rank))) (by kernel_rfl) ⟨c0, c2⟩ (fun hHeld => ?_)
          refine wpAnyH_take (i := 0) (v := ?v16) rfl (by kernel_rfl) (by kernel_rfl) (by kernel_rfl) (fun _ _ _ h => h) (Or.inl ⟨by rfl, ?hy16⟩) (by assumption) ?rest16
          case hy16 => (intro wq hSw; (try dsimp only at hSw); go_split_ands; go_simp; (try with_reducible rfl))
          case rest16 =>
          refine wpAnyH_take (i := 1) (v := ?v17) rfl (by kernel_rfl) (by kernel_rfl) (by kernel_rfl) (fun _ _ _ h => h) (Or.inl ⟨by rfl, ?hy17⟩) (by assumption) ?rest17
          case hy17 => (intro wq hSw; (try dsimp only at hSw); go_split_ands; go_simp; (try with_reducible rfl))
          case rest17 =>
          refine wpAnyH_take (i := 2) (v := ?v18) rfl (by kernel_rfl) (by kernel_rfl) (by kernel_rfl) (fun _ _ _ h => h) (Or.inl ⟨by rfl, ?hy18⟩) (by assumption) ?rest18
          case hy18 => (intro wq hSw; (try dsimp only at hSw); go_split_ands; go_simp; (try with_reducible rfl))
          case rest18 =>
          refine wpAnyH_take (i := 3) (v := ?v19) rfl (by kernel_rfl) (by kernel_rfl) (by kernel_rfl) (fun _ _ _ h => h) (Or.inl ⟨by rfl, ?hy19⟩) (by assumption) ?rest19
          case hy19 => (intro wq hSw; (try dsimp only at hSw); go_split_ands; go_simp; (try with_reducible rfl))
          case rest19 =>
          refine wpAnyH_take (i := 4) (v := ?v20) rfl (by kernel_rfl) (by kernel_rfl) (by kernel_rfl) (fun _ _ _ h => h) (Or.inl ⟨by rfl, ?hy20⟩) (by assumption) ?rest20
          case hy20 => (intro wq hSw; (try dsimp only at hSw); go_split_ands; go_simp; (try with_reducible rfl))
          case rest20 =>
          refine wpAnyH_take (i := 5) (v := ?v21) rfl (by kernel_rfl) (by kernel_rfl) (by kernel_rfl) (fun _ _ _ h => h) (Or.inl ⟨by rfl, ?hy21⟩) (by assumption) ?rest21
          case hy21 => (intro wq hSw; (try dsimp only at hSw); go_split_ands; go_simp; (try with_reducible rfl))
          case rest21 =>
          refine wpAnyH_take (i := 7) (v := ?v22) rfl (by kernel_rfl) (by kernel_rfl) (by kernel_rfl) (fun _ _ _ h => h) (Or.inl ⟨by rfl, ?hy22⟩) (by assumption) ?rest22
          case hy22 => (intro wq hSw; (try dsimp only at hSw); go_split_ands; go_simp; (try with_reducible rfl))
          case rest22 =>
          refine wpAnyH_take (i := 8) (v := ?v23) rfl (by kernel_rfl) (by kernel_rfl) (by kernel_rfl) (fun _ _ _ h => h) (Or.inl ⟨by rfl, ?hy23⟩) (by assumption) ?rest23
          case hy23 => (intro wq hSw; (try dsimp only at hSw); go_split_ands; go_simp; (try with_reducible rfl))
          case rest23 =>
          refine wpAnyH_take (i := 9) (v := ?v24) rfl (by kernel_rfl) (by kernel_rfl) (by kernel_rfl) (fun _ _ _ h => h) (Or.inl ⟨by rfl, ?hy24⟩) (by assumption) ?rest24
          case hy24 => (intro wq hSw; (try dsimp only at hSw); go_split_ands; go_simp; (try with_reducible rfl))
          case rest24 =>
          refine wpAnyH_take (i := 10) (v := ?v25) rfl (by kernel_rfl) (by kernel_rfl) (by kernel_rfl) (fun _ _ _ h => h) (Or.inl ⟨by rfl, ?hy25⟩) (by assumption) ?rest25
          case hy25 => (intro wq hSw; (try dsimp only at hSw); go_split_ands; go_simp; (try with_reducible rfl))
          case rest25 =>
          refine wpAnyH_take (i := 11) (v := ?v26) rfl (by kernel_rfl) (by kernel_rfl) (by kernel_rfl) (fun _ _ _ h => h) (Or.inl ⟨by rfl, ?hy26⟩) (by assumption) ?rest26
          case hy26 => (intro wq hSw; (try dsimp only at hSw); go_split_ands; go_simp; (try with_reducible rfl))
          case rest26 =>
          refine wpAnyH_take (i := 12) (v := ?v27) rfl (by kernel_rfl) (by kernel_rfl) (by kernel_rfl) (fun _ _ _ h => h) (Or.inl ⟨by rfl, ?hy27⟩) (by assumption) ?rest27
          case hy27 => (intro wq hSw; (try dsimp only at hSw); go_split_ands; go_simp; (try with_reducible rfl))
          case rest27 =>
          refine wpAnyH_take (i := 13) (v := ?v28) rfl (by kernel_rfl) (by kernel_rfl) (by kernel_rfl) (fun _ _ _ h => h) (Or.inl ⟨by rfl, ?hy28⟩) (by assumption) ?rest28
          case hy28 => (intro wq hSw; (try dsimp only at hSw); go_split_ands; go_simp; (try with_reducible rfl))
          case rest28 =>
          refine wpAnyH_ready (rs := [6]) (by kernel_rfl) (by simp) ?_
          refine AllReadyH.cons rfl (fun K hK => ?step29) ?more29
          case step29 =>
            go_simp
            go_at_call 54
            refine HHas.out.mono ?_
            rintro e w' ⟨rfl, rfl⟩
            go_wp2_with fail
            refine hK.out _ _ (by first | exact hHeld | exact ⟨c0, c2⟩) (fun hHeld => ?_)
            clear hK K
            refine wpAnyH_take (i := 14) (v := ?v30) rfl (by kernel_rfl) (by kernel_rfl) (by kernel_rfl) (fun _ _ _ h => h) (Or.inl ⟨by rfl, ?hy30⟩) (by assumption) ?rest30
            case hy30 => (intro wq hSw; (try dsimp only at hSw); go_split_ands; go_simp; (try with_reducible rfl))
            case rest30 =>
            refine wpAnyH_done (by kernel_rfl) ?_ _
            clear hHeld c0 c2
            go_wp2_with fail
            go_roundw
            case rel => exact ⟨k + 1, by omega, by go_num, Lib.hid (Below.drew hb)⟩
            case measure => simp [intOf]; omega
          case more29 => exact AllReadyH.nil
        | false =>
          replace HB := Lib.hid (HB.out.trans (hb.mono HB.out.size))
          clear HBk hb HV HO HA HN hc k0
          go_wp2_with fail
          refine (Draw.drawChangeRank a0 len0 cap0 z0 _ (row_kept HW0.out HB.out) hl).mono ?_
          rintro e w20 ⟨v, z, x, y, rfl, hv, hvn, hsh, hzl, hb1⟩
          have HV := Lib.hid (Own.isS hv hvn)
          have HF := Lib.hid (Draw.rshort_fine hsh)
          replace HB := Lib.hid (HB.out.trans (hb1.mono HB.out.size))
          clear hv hvn hsh hb1
          go_wp2_with fail
          refine (ChangeC.impl v z x y _ HV.out HF.out (by omega)).mono ?_
          rintro e w21 ⟨v2, r0, r1, rfl, hA, ho, hb1⟩
          replace HV := Lib.hid (IsS.below LRule.rec HV.out hb1)
          replace HB := Lib.hid (HB.out.trans (hb1.mono HB.out.size))
          have HO := Lib.hid (Own.is ho)
          have HA := Lib.hid hA
          clear hA hb1 ho
          go_wp2_with fail
          refine (ChangeC.spec v z x y _ HV.out HF.out (by omega)).mono ?_
          rintro e w22 ⟨v3, s0, s1, rfl, hA, ho, hb1⟩
          obtain ⟨rfl, rfl⟩ := ChangeC.same HA.out hA
          replace HO := Lib.hid (HO.out.below LRule.rec hb1)
          replace HB := Lib.hid (HB.out.trans (hb1.mono HB.out.size))
          have HO3 := Lib.hid (Own.is ho)
          have e2 : (r1 != r1) = false := by simp
          clear hA hb1 ho HA HV HF hzl
          go_wp2_with fail
          refine (RanV.vRules v2 v3 r0 _ HO.out HO3.out).mono ?_
          rintro e w23 ⟨rfl, hb1⟩
          replace HB := Lib.hid (HB.out.trans (hb1.mono HB.out.size))
          clear hb1 HO HO3 e2
          go_wp2_with fail
          refine (Draw.drawRuleByName a0 len0 cap0 z0 _ (row_kept HW0.out HB.out) hl).mono ?_
          rintro e w30 ⟨v, z, y, rfl, hv, hvn, hsh, hzl, hys, hb1⟩
          have HV := Lib.hid (Own.isS hv hvn)
          have HF := Lib.hid (Draw.rshort_fine hsh)
          replace HB := Lib.hid (HB.out.trans (hb1.mono HB.out.size))
          clear hv hvn hsh hb1
          go_wp2_with fail
          refine (RanM.nameI v z y _ (IsS.is LRule.rec HV.out) HF.out).mono ?_
          rintro e w31 ⟨q, b, rfl, hA, hb1⟩
          have HA := Lib.hid hA
          replace HV := Lib.hid (IsS.below LRule.rec (IsS.below LRule.rec HV.out hb1) ((Below.refl w31.heap.size w31).alloc (Nat.le_refl _) (.cells #[.int .i64 q.id, .string q.name, .int .i64 q.rank, .bool q.sec, .bool q.deb, .bool q.am, .int .i64 q.need] 63)))
          replace HB := Lib.hid ((HB.out.trans (hb1.mono HB.out.size)).alloc (by have h1 := HB.out.size; have h2 := hb1.size; omega) (.cells #[.int .i64 q.id, .string q.name, .int .i64 q.rank, .bool q.sec, .bool q.deb, .bool q.am, .int .i64 q.need] 63))
          have HX := Lib.hid (Draw.Bx.new w31 63 #[.int .i64 q.id, .string q.name, .int .i64 q.rank, .bool q.sec, .bool q.deb, .bool q.am, .int .i64 q.need])
          clear hA hb1
          go_wp2_with fail
          generalize w31.alloc (.cells #[.int .i64 q.id, .string q.name, .int .i64 q.rank, .bool q.sec, .bool q.deb, .bool q.am, .int .i64 q.need] 63) = W31 at *
          generalize w31.heap.size = G at *
          refine (RanM.nameS v z y _ HV.out HF.out).mono ?_
          rintro e w32 ⟨q2, b2, rfl, hA, hb1⟩
          obtain ⟨hq, hbb⟩ := HA.out.same hA
          rw [← hq, ← hbb]
          have HX2 := Lib.hid (bx_below HX.out hb1)
          have k0 := (HX2.out.alloc (.cells #[.int .i64 q.id, .string q.name, .int .i64 q.rank, .bool q.sec, .bool q.deb, .bool q.am, .int .i64 q.need] 63)).cell 0
          have k1 := (HX2.out.alloc (.cells #[.int .i64 q.id, .string q.name, .int .i64 q.rank, .bool q.sec, .bool q.deb, .bool q.am, .int .i64 q.need] 63)).cell 1
          have k2 := (HX2.out.alloc (.cells #[.int .i64 q.id, .string q.name, .int .i64 q.rank, .bool q.sec, .bool q.deb, .bool q.am, .int .i64 q.need] 63)).cell 2
          have k3 := (HX2.out.alloc (.cells #[.int .i64 q.id, .string q.name, .int .i64 q.rank, .bool q.sec, .bool q.deb, .bool q.am, .int .i64 q.need] 63)).cell 3
          have k4 := (HX2.out.alloc (.cells #[.int .i64 q.id, .string q.name, .int .i64 q.rank, .bool q.sec, .bool q.deb, .bool q.am, .int .i64 q.need] 63)).cell 4
          have k5 := (HX2.out.alloc (.cells #[.int .i64 q.id, .string q.name, .int .i64 q.rank, .bool q.sec, .bool q.deb, .bool q.am, .int .i64 q.need] 63)).cell 5
          have k6 := (HX2.out.alloc (.cells #[.int .i64 q.id, .string q.name, .int .i64 q.rank, .bool q.sec, .bool q.deb, .bool q.am, .int .i64 q.need] 63)).cell 6
          have e1 : (b == b) = true := by simp
          replace HB := Lib.hid ((HB.out.trans (hb1.mono HB.out.size)).alloc (by have h1 := HB.out.size; have h2 := hb1.size; omega) (.cells #[.int .i64 q.id, .string q.name, .int .i64 q.rank, .bool q.sec, .bool q.deb, .bool q.am, .int .i64 q.need] 63))
          clear hA hb1 HA HX HX2 HV HF hq hbb
          go_wp2_with fail
          go_ret
          exact ⟨rfl, HB.out⟩
      · replace HB := Lib.hid (HB.out.trans (hb.mono HB.out.size))
        clear HBk hb HV HO HA HN hc
        go_wp2_with fail
        refine (Draw.drawChangeRank a0 len0 cap0 z0 _ (row_kept HW0.out HB.out) hl).mono ?_
        rintro e w20 ⟨v, z, x, y, rfl, hv, hvn, hsh, hzl, hb1⟩
        have HV := Lib.hid (Own.isS hv hvn)
        have HF := Lib.hid (Draw.rshort_fine hsh)
        replace HB := Lib.hid (HB.out.trans (hb1.mono HB.out.size))
        clear hv hvn hsh hb1
        go_wp2_with fail
        refine (ChangeC.impl v z x y _ HV.out HF.out (by omega)).mono ?_
        rintro e w21 ⟨v2, r0, r1, rfl, hA, ho, hb1⟩
        replace HV := Lib.hid (IsS.below LRule.rec HV.out hb1)
        replace HB := Lib.hid (HB.out.trans (hb1.mono HB.out.size))
        have HO := Lib.hid (Own.is ho)
        have HA := Lib.hid hA
        clear hA hb1 ho
        go_wp2_with fail
        refine (ChangeC.spec v z x y _ HV.out HF.out (by omega)).mono ?_
        rintro e w22 ⟨v3, s0, s1, rfl, hA, ho, hb1⟩
        obtain ⟨rfl, rfl⟩ := ChangeC.same HA.out hA
        replace HO := Lib.hid (HO.out.below LRule.rec hb1)
        replace HB := Lib.hid (HB.out.trans (hb1.mono HB.out.size))
        have HO3 := Lib.hid (Own.is ho)
        have e2 : (r1 != r1) = false := by simp
        clear hA hb1 ho HA HV HF hzl
        go_wp2_with fail
        refine (RanV.vRules v2 v3 r0 _ HO.out HO3.out).mono ?_
        rintro e w23 ⟨rfl, hb1⟩
        replace HB := Lib.hid (HB.out.trans (hb1.mono HB.out.size))
        clear hb1 HO HO3 e2
        go_wp2_with fail
        refine (Draw.drawRuleByName a0 len0 cap0 z0 _ (row_kept HW0.out HB.out) hl).mono ?_
        rintro e w30 ⟨v, z, y, rfl, hv, hvn, hsh, hzl, hys, hb1⟩
        have HV := Lib.hid (Own.isS hv hvn)
        have HF := Lib.hid (Draw.rshort_fine hsh)
        replace HB := Lib.hid (HB.out.trans (hb1.mono HB.out.size))
        clear hv hvn hsh hb1
        go_wp2_with fail
        refine (RanM.nameI v z y _ (IsS.is LRule.rec HV.out) HF.out).mono ?_
        rintro e w31 ⟨q, b, rfl, hA, hb1⟩
        have HA := Lib.hid hA
        replace HV := Lib.hid (IsS.below LRule.rec (IsS.below LRule.rec HV.out hb1) ((Below.refl w31.heap.size w31).alloc (Nat.le_refl _) (.cells #[.int .i64 q.id, .string q.name, .int .i64 q.rank, .bool q.sec, .bool q.deb, .bool q.am, .int .i64 q.need] 63)))
        replace HB := Lib.hid ((HB.out.trans (hb1.mono HB.out.size)).alloc (by have h1 := HB.out.size; have h2 := hb1.size; omega) (.cells #[.int .i64 q.id, .string q.name, .int .i64 q.rank, .bool q.sec, .bool q.deb, .bool q.am, .int .i64 q.need] 63))
        have HX := Lib.hid (Draw.Bx.new w31 63 #[.int .i64 q.id, .string q.name, .int .i64 q.rank, .bool q.sec, .bool q.deb, .bool q.am, .int .i64 q.need])
        clear hA hb1
        go_wp2_with fail
        generalize w31.alloc (.cells #[.int .i64 q.id, .string q.name, .int .i64 q.rank, .bool q.sec, .bool q.deb, .bool q.am, .int .i64 q.need] 63) = W31 at *
        generalize w31.heap.size = G at *
        refine (RanM.nameS v z y _ HV.out HF.out).mono ?_
        rintro e w32 ⟨q2, b2, rfl, hA, hb1⟩
        obtain ⟨hq, hbb⟩ := HA.out.same hA
        rw [← hq, ← hbb]
        have HX2 := Lib.hid (bx_below HX.out hb1)
        have k0 := (HX2.out.alloc (.cells #[.int .i64 q.id, .string q.name, .int .i64 q.rank, .bool q.sec, .bool q.deb, .bool q.am, .int .i64 q.need] 63)).cell 0
        have k1 := (HX2.out.alloc (.cells #[.int .i64 q.id, .string q.name, .int .i64 q.rank, .bool q.sec, .bool q.deb, .bool q.am, .int .i64 q.need] 63)).cell 1
        have k2 := (HX2.out.alloc (.cells #[.int .i64 q.id, .string q.name, .int .i64 q.rank, .bool q.sec, .bool q.deb, .bool q.am, .int .i64 q.need] 63)).cell 2
        have k3 := (HX2.out.alloc (.cells #[.int .i64 q.id, .string q.name, .int .i64 q.rank, .bool q.sec, .bool q.deb, .bool q.am, .int .i64 q.need] 63)).cell 3
        have k4 := (HX2.out.alloc (.cells #[.int .i64 q.id, .string q.name, .int .i64 q.rank, .bool q.sec, .bool q.deb, .bool q.am, .int .i64 q.need] 63)).cell 4
        have k5 := (HX2.out.alloc (.cells #[.int .i64 q.id, .string q.name, .int .i64 q.rank, .bool q.sec, .bool q.deb, .bool q.am, .int .i64 q.need] 63)).cell 5
        have k6 := (HX2.out.alloc (.cells #[.int .i64 q.id, .string q.name, .int .i64 q.rank, .bool q.sec, .bool q.deb, .bool q.am, .int .i64 q.need] 63)).cell 6
        have e1 : (b == b) = true := by simp
        replace HB := Lib.hid ((HB.out.trans (hb1.mono HB.out.size)).alloc (by have h1 := HB.out.size; have h2 := hb1.size; omega) (.cells #[.int .i64 q.id, .string q.name, .int .i64 q.rank, .bool q.sec, .bool q.deb, .bool q.am, .int .i64 q.need] 63))
        clear hA hb1 HA HX HX2 HV HF hq hbb
        go_wp2_with fail
        go_ret
        exact ⟨rfl, HB.out⟩
end Go.Proofs.Ytbaflfbidgolfaa.fnRanks
