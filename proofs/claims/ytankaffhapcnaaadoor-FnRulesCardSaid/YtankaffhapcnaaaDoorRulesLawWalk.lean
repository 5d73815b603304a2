/- FnRules: the law's walk, for every code. -/
import Derived.Test.YtankaffhapcnaaaDoorRlW
import Derived.Test.YtankaffhapcnaaaDoorDrawRl
import Derived.Test.YtankaffhapcnaaaDoorRanV
import Derived.Test.YtankaffhapcnaaaDoorJ1
import Derived.Test.YtankaffhapcnaaaDoorBx
import Derived.Deep.DeepCutAuto
namespace Go.Proofs.YtankaffhapcnaaaDoor.fnRules
open Go.RowKit Bs
set_option linter.unusedVariables false
theorem rBig (a : Option Addr) (len cap : Nat) (w : World) : Calls Tryd.prog 4 #[.slice a len cap] w fun e w' => e = .returned (.bool (decide ((65536 : Int) < len))) ∧ w = w' := by
  go_enter Tryd.func4, Tryd.ntmps4
  go_wp2_with fail
  go_ret
  exact ⟨rfl, rfl⟩
set_option maxRecDepth 100000 in
set_option maxHeartbeats 12800000 in
theorem walk (a0 : Option Addr) (len0 cap0 : Nat) (z0 : List Int) (w : World) (sh : w.ShapedOpen Tryd.prog) (vp : Laid.Pow w) (vr : Laid.Err "strconv.ErrRange" w) (vs : Laid.Err "strconv.ErrSyntax" w) (w0 : Frame.IsRow .u8 w a0 len0 cap0 z0) :
    Calls Tryd.prog 3 #[.slice a0 len0 cap0] w fun e w' => e = .returned (.bool true) ∧ Below w.heap.size w w' := by
  have HW0 := Lib.hid w0
  have HVP := Lib.hid vp
  have HVR := Lib.hid vr
  have HVS := Lib.hid vs
  clear w0 sh vp vr vs
  by_cases hbig : 65536 < len0
  · have hd : decide ((65536 : Int) < len0) = true := decide_eq_true (by omega)
    have HR := Lib.hid (rBig a0 len0 cap0 w)
    rw [hd] at HR
    clear hd
    go_enter Tryd.func3, Tryd.ntmps3
    go_wp2_with fail
    refine HR.out.mono ?_
    rintro e w' ⟨rfl, rfl⟩
    go_wp2_with fail
    go_ret
    exact ⟨rfl, Below.refl _ _⟩
  have hd : decide ((65536 : Int) < len0) = false := decide_eq_false (by omega)
  have hl : len0 ≤ 65536 := by omega
  have HR := Lib.hid (rBig a0 len0 cap0 w)
  rw [hd] at HR
  clear hd hbig
  go_enter Tryd.func3, Tryd.ntmps3
  go_wp2_with fail
  refine HR.out.mono ?_
  rintro e w' ⟨rfl, rfl⟩
  clear HR
  have HB := Lib.hid (Below.refl w.heap.size w)
  go_wp2_with fail
  refine (Draw.drawRuleLine a0 len0 cap0 z0 _ (Draw.row_kept HW0.out HB.out) hl).mono ?_
  rintro e w1 ⟨t, rfl, htn, hb⟩
  replace HB := Lib.hid (HB.out.trans (hb.mono HB.out.size))
  clear hb
  have P3 := Lib.hid (Bx.new w1 25 #[.int .i64 t.id, .string t.name, .int .i64 t.rank, .bool t.sec, .bool t.deb, .bool t.am, .int .i64 t.need])
  replace HB := Lib.hid (HB.out.alloc HB.out.size (Obj.cells #[.int .i64 t.id, .string t.name, .int .i64 t.rank, .bool t.sec, .bool t.deb, .bool t.am, .int .i64 t.need] 25))
  go_upto_region 4 with fail
  generalize w1.alloc (Obj.cells #[.int .i64 t.id, .string t.name, .int .i64 t.rank, .bool t.sec, .bool t.deb, .bool t.am, .int .i64 t.need] 25) = w2 at *
  generalize w1.heap.size = gw2 at *
  have P3_0 := P3.out.cell 0
  have P3_1 := P3.out.cell 1
  have P3_2 := P3.out.cell 2
  have P3_3 := P3.out.cell 3
  have P3_4 := P3.out.cell 4
  have P3_5 := P3.out.cell 5
  have P3_6 := P3.out.cell 6
  simp only [List.getElem?_toArray, List.getElem?_cons_zero, List.getElem?_cons_succ] at P3_0 P3_1 P3_2 P3_3 P3_4 P3_5 P3_6
  go_wp2_with fail
  refine (LineI.impl t _ (show t.name.size ≤ maxLen by unfold maxLen; omega)).mono ?_
  rintro e w3 ⟨s, ok, rfl, hA, hb⟩
  clear P3_0 P3_1 P3_2 P3_3 P3_4 P3_5 P3_6
  replace P3 := Lib.hid (P3.out.kept hb)
  replace HB := Lib.hid (HB.out.trans (hb.mono HB.out.size))
  clear hb
  have HT := Lib.hid hA
  obtain ⟨hss, hok⟩ := RlW.line_short hA
  have HOK := Lib.hid hok
  clear hA hok
  go_wp2_with fail
  refine (PRuleI.impl s _ (by omega) (HVP.out.below HB.out) (HVR.out.below HB.out) (HVS.out.below HB.out)).mono ?_
  rintro e w4 ⟨p, fine, rfl, hA, hb⟩
  replace P3 := Lib.hid (P3.out.kept hb)
  replace HB := Lib.hid (HB.out.trans (hb.mono HB.out.size))
  clear hb
  have HP := Lib.hid hA
  clear hA
  have P6 := Lib.hid (Bx.new w4 25 #[.int .i64 p.id, .string p.name, .int .i64 p.rank, .bool p.sec, .bool p.deb, .bool p.am, .int .i64 p.need])
  replace P3 := Lib.hid (P3.out.alloc (Obj.cells #[.int .i64 p.id, .string p.name, .int .i64 p.rank, .bool p.sec, .bool p.deb, .bool p.am, .int .i64 p.need] 25))
  replace HB := Lib.hid (HB.out.alloc HB.out.size (Obj.cells #[.int .i64 p.id, .string p.name, .int .i64 p.rank, .bool p.sec, .bool p.deb, .bool p.am, .int .i64 p.need] 25))
  go_upto_region 6 with fail
  generalize w4.alloc (Obj.cells #[.int .i64 p.id, .string p.name, .int .i64 p.rank, .bool p.sec, .bool p.deb, .bool p.am, .int .i64 p.need] 25) = w5 at *
  generalize w4.heap.size = gw5 at *
  have P3_0 := P3.out.cell 0
  have P3_1 := P3.out.cell 1
  have P3_2 := P3.out.cell 2
  have P3_3 := P3.out.cell 3
  have P3_4 := P3.out.cell 4
  have P3_5 := P3.out.cell 5
  have P3_6 := P3.out.cell 6
  simp only [List.getElem?_toArray, List.getElem?_cons_zero, List.getElem?_cons_succ] at P3_0 P3_1 P3_2 P3_3 P3_4 P3_5 P3_6
  go_wp2_with fail
  refine (LineI.spec t _ (show t.name.size ≤ maxLen by unfold maxLen; omega)).mono ?_
  rintro e w6 ⟨s2, ok2, rfl, hA, hb⟩
  clear P3_0 P3_1 P3_2 P3_3 P3_4 P3_5 P3_6
  replace P3 := Lib.hid (P3.out.kept hb)
  replace P6 := Lib.hid (P6.out.kept hb)
  replace HB := Lib.hid (HB.out.trans (hb.mono HB.out.size))
  clear hb
  obtain ⟨rfl, rfl⟩ := LineI.same HT.out hA
  clear hA
  have P3_0 := P3.out.cell 0
  have P3_1 := P3.out.cell 1
  have P3_2 := P3.out.cell 2
  have P3_3 := P3.out.cell 3
  have P3_4 := P3.out.cell 4
  have P3_5 := P3.out.cell 5
  have P3_6 := P3.out.cell 6
  simp only [List.getElem?_toArray, List.getElem?_cons_zero, List.getElem?_cons_succ] at P3_0 P3_1 P3_2 P3_3 P3_4 P3_5 P3_6
  have P6_0 := P6.out.cell 0
  have P6_1 := P6.out.cell 1
  have P6_2 := P6.out.cell 2
  have P6_3 := P6.out.cell 3
  have P6_4 := P6.out.cell 4
  have P6_5 := P6.out.cell 5
  have P6_6 := P6.out.cell 6
  simp only [List.getElem?_toArray, List.getElem?_cons_zero, List.getElem?_cons_succ] at P6_0 P6_1 P6_2 P6_3 P6_4 P6_5 P6_6
  go_upto_region 7 with fail
  go_cut [73] (fun sq wx => sq = .bool false ∧ Below w6.heap.size w6 wx)
  case first =>
    have hne : (!s.toList == s.toList) = false := by simp
    have HIV := Lib.hid (fun W => LineI.impl_as t ok HOK.out (by unfold maxLen; omega) W)
    have HX3 := Lib.hid (fun (w9 : World) (hb : Below w6.heap.size w6 w9) => P3.out.kept hb)
    have HX6 := Lib.hid (fun (w9 : World) (hb : Below w6.heap.size w6 w9) => P6.out.kept hb)
    cases ok with
    | false =>
      go_wp2_with fail
      refine (HIV.out _).mono ?_
      rintro e w9 ⟨rfl, hb⟩
      go_wp2_with fail
      go_meet
      exact ⟨by first | rfl | simp, hb⟩
    | true =>
      obtain ⟨rfl, rfl⟩ := RlW.line_back HT.out HP.out
      go_wp2_with fail
      refine (HIV.out _).mono ?_
      rintro e w9 ⟨rfl, hb⟩
      clear P3_0 P3_1 P3_2 P3_3 P3_4 P3_5 P3_6 P6_0 P6_1 P6_2 P6_3 P6_4 P6_5 P6_6
      have R3 := Lib.hid (HX3.out _ hb)
      have R6 := Lib.hid (HX6.out _ hb)
      have R3_0 := R3.out.cell 0
      have R3_1 := R3.out.cell 1
      have R3_2 := R3.out.cell 2
      have R3_3 := R3.out.cell 3
      have R3_4 := R3.out.cell 4
      have R3_5 := R3.out.cell 5
      have R3_6 := R3.out.cell 6
      have R6_0 := R6.out.cell 0
      have R6_1 := R6.out.cell 1
      have R6_2 := R6.out.cell 2
      have R6_3 := R6.out.cell 3
      have R6_4 := R6.out.cell 4
      have R6_5 := R6.out.cell 5
      have R6_6 := R6.out.cell 6
      simp only [List.getElem?_toArray, List.getElem?_cons_zero, List.getElem?_cons_succ] at R3_0 R3_1 R3_2 R3_3 R3_4 R3_5 R3_6 R6_0 R6_1 R6_2 R6_3 R6_4 R6_5 R6_6
      have hp0 : (p.id != p.id) = false := by simp

      have hp1b : (!p.name.toList == p.name.toList) = false := by simp
      have hp1c : (p.name.toList == p.name.toList) = true := by simp
      have hp2 : (p.rank != p.rank) = false := by simp
      have hp3 : (p.sec != p.sec) = false := by simp
      have hp4 : (p.deb != p.deb) = false := by simp
      have hp5 : (p.am != p.am) = false := by simp
      have hp6 : (p.need != p.need) = false := by simp
      go_wp2_with fail
      go_meet
      exact ⟨by first | rfl | simp, hb⟩
  case rest =>
  obtain ⟨rfl, hb⟩ := hcut
  replace HB := Lib.hid (HB.out.trans (hb.mono HB.out.size))
  clear hb
  clear P3_0 P3_1 P3_2 P3_3 P3_4 P3_5 P3_6 P6_0 P6_1 P6_2 P6_3 P6_4 P6_5 P6_6
  clear P3 P6
  clear HT HP hss HOK
  go_wp2_with fail
  refine (Draw.drawParseRule a0 len0 cap0 z0 _ (Draw.row_kept HW0.out HB.out) hl).mono ?_
  rintro e w7 ⟨u, rfl, hu, hb⟩
  replace HB := Lib.hid (HB.out.trans (hb.mono HB.out.size))
  clear hb
  go_wp2_with fail
  refine (PRuleI.impl u _ (by omega) (HVP.out.below HB.out) (HVR.out.below HB.out) (HVS.out.below HB.out)).mono ?_
  rintro e w8 ⟨p2, read, rfl, hA, hb⟩
  replace HB := Lib.hid (HB.out.trans (hb.mono HB.out.size))
  clear hb
  have HP := Lib.hid hA
  have hpn := RlW.name_short hA
  clear hA
  have P11 := Lib.hid (Bx.new w8 25 #[.int .i64 p2.id, .string p2.name, .int .i64 p2.rank, .bool p2.sec, .bool p2.deb, .bool p2.am, .int .i64 p2.need])
  replace HB := Lib.hid (HB.out.alloc HB.out.size (Obj.cells #[.int .i64 p2.id, .string p2.name, .int .i64 p2.rank, .bool p2.sec, .bool p2.deb, .bool p2.am, .int .i64 p2.need] 25))
  go_upto_region 11 with fail
  generalize w8.alloc (Obj.cells #[.int .i64 p2.id, .string p2.name, .int .i64 p2.rank, .bool p2.sec, .bool p2.deb, .bool p2.am, .int .i64 p2.need] 25) = w9 at *
  generalize w8.heap.size = gw9 at *
  have P11_0 := P11.out.cell 0
  have P11_1 := P11.out.cell 1
  have P11_2 := P11.out.cell 2
  have P11_3 := P11.out.cell 3
  have P11_4 := P11.out.cell 4
  have P11_5 := P11.out.cell 5
  have P11_6 := P11.out.cell 6
  simp only [List.getElem?_toArray, List.getElem?_cons_zero, List.getElem?_cons_succ] at P11_0 P11_1 P11_2 P11_3 P11_4 P11_5 P11_6
  go_wp2_with fail
  refine (LineI.impl p2 _ (show p2.name.size ≤ maxLen by unfold maxLen; omega)).mono ?_
  rintro e w10 ⟨v, told, rfl, hA, hb⟩
  clear P11_0 P11_1 P11_2 P11_3 P11_4 P11_5 P11_6
  replace P11 := Lib.hid (P11.out.kept hb)
  replace HB := Lib.hid (HB.out.trans (hb.mono HB.out.size))
  clear hb
  have HT := Lib.hid hA
  clear hA
  go_wp2_with fail
  refine (PRuleP.spec u _ (by omega)).mono ?_
  rintro e w11 ⟨p3, read3, rfl, hA, hb⟩
  replace P11 := Lib.hid (P11.out.kept hb)
  replace HB := Lib.hid (HB.out.trans (hb.mono HB.out.size))
  clear hb
  obtain ⟨rfl, rfl⟩ := HP.out.same hA
  clear hA
  have P15 := Lib.hid (Bx.new w11 25 #[.int .i64 p2.id, .string p2.name, .int .i64 p2.rank, .bool p2.sec, .bool p2.deb, .bool p2.am, .int .i64 p2.need])
  replace P11 := Lib.hid (P11.out.alloc (Obj.cells #[.int .i64 p2.id, .string p2.name, .int .i64 p2.rank, .bool p2.sec, .bool p2.deb, .bool p2.am, .int .i64 p2.need] 25))
  replace HB := Lib.hid (HB.out.alloc HB.out.size (Obj.cells #[.int .i64 p2.id, .string p2.name, .int .i64 p2.rank, .bool p2.sec, .bool p2.deb, .bool p2.am, .int .i64 p2.need] 25))
  go_upto_region 13 with fail
  generalize w11.alloc (Obj.cells #[.int .i64 p2.id, .string p2.name, .int .i64 p2.rank, .bool p2.sec, .bool p2.deb, .bool p2.am, .int .i64 p2.need] 25) = w12 at *
  generalize w11.heap.size = gw12 at *
  have P11_0 := P11.out.cell 0
  have P11_1 := P11.out.cell 1
  have P11_2 := P11.out.cell 2
  have P11_3 := P11.out.cell 3
  have P11_4 := P11.out.cell 4
  have P11_5 := P11.out.cell 5
  have P11_6 := P11.out.cell 6
  simp only [List.getElem?_toArray, List.getElem?_cons_zero, List.getElem?_cons_succ] at P11_0 P11_1 P11_2 P11_3 P11_4 P11_5 P11_6
  have P15_0 := P15.out.cell 0
  have P15_1 := P15.out.cell 1
  have P15_2 := P15.out.cell 2
  have P15_3 := P15.out.cell 3
  have P15_4 := P15.out.cell 4
  have P15_5 := P15.out.cell 5
  have P15_6 := P15.out.cell 6
  simp only [List.getElem?_toArray, List.getElem?_cons_zero, List.getElem?_cons_succ] at P15_0 P15_1 P15_2 P15_3 P15_4 P15_5 P15_6
  go_upto_region 13 with fail
  go_cut [110] (fun sq wx => sq = .bool false ∧ w12 = wx)
  case first =>
    have hp0 : (p2.id != p2.id) = false := by simp

    have hp1b : (!p2.name.toList == p2.name.toList) = false := by simp
    have hp1c : (p2.name.toList == p2.name.toList) = true := by simp
    have hp2 : (p2.rank != p2.rank) = false := by simp
    have hp3 : (p2.sec != p2.sec) = false := by simp
    have hp4 : (p2.deb != p2.deb) = false := by simp
    have hp5 : (p2.am != p2.am) = false := by simp
    have hp6 : (p2.need != p2.need) = false := by simp
    cases read with
    | false =>
      go_wp2_with fail
      go_meet
      exact ⟨by first | rfl | simp, rfl⟩
    | true =>
      obtain ⟨rfl, rfl⟩ := RlW.line_forth HP.out HT.out
      have hne : (!v.toList == v.toList) = false := by simp
      go_wp2_with fail
      go_meet
      exact ⟨by first | rfl | simp, rfl⟩
  case rest =>
  obtain ⟨rfl, rfl⟩ := hcut
  clear P11_0 P11_1 P11_2 P11_3 P11_4 P11_5 P11_6 P15_0 P15_1 P15_2 P15_3 P15_4 P15_5 P15_6
  clear P11 P15
  clear HP HT hu hpn
  go_wp2_with fail
  refine (Draw.drawRulesText a0 len0 cap0 z0 _ (Draw.row_kept HW0.out HB.out) hl).mono ?_
  rintro e w13 ⟨vl, z, rfl, hv, hvn, hsh, hzl, hb⟩
  replace HB := Lib.hid (HB.out.trans (hb.mono HB.out.size))
  clear hb
  have HV := Lib.hid (Bs.Own.isS hv hvn)
  have HF := Lib.hid (show ∀ x ∈ z, LRule.Fine x from fun x hx => by have := hsh x hx; show x.name.size ≤ maxLen; unfold maxLen; omega)
  clear hv hvn hsh
  go_wp2_with fail
  refine (Text.impl vl z _ HV.out HF.out (by omega)).mono ?_
  rintro e w14 ⟨s, one, rfl, hA, hb⟩
  replace HV := Lib.hid (IsS.below LRule.rec HV.out hb)
  replace HB := Lib.hid (HB.out.trans (hb.mono HB.out.size))
  clear hb
  have HT := Lib.hid hA
  obtain ⟨hss, hok⟩ := RlW.text_short hA
  have HOK := Lib.hid hok
  clear hA hok
  go_wp2_with fail
  refine (ParseRulesC.impl s _ (by omega) (HVP.out.below HB.out) (HVR.out.below HB.out) (HVS.out.below HB.out)).mono ?_
  rintro e w15 ⟨va, y, two, rfl, hA, ho, hb⟩
  replace HV := Lib.hid (IsS.below LRule.rec HV.out hb)
  replace HB := Lib.hid (HB.out.trans (hb.mono HB.out.size))
  clear hb
  have HP := Lib.hid hA
  have HO := Lib.hid ho
  clear hA ho
  go_wp2_with fail
  refine (Text.spec vl z _ HV.out HF.out (by omega)).mono ?_
  rintro e w16 ⟨s2, one2, rfl, hA, hb⟩
  replace HV := Lib.hid (IsS.below LRule.rec HV.out hb)
  replace HO := Lib.hid (HO.out.kept hb)
  replace HB := Lib.hid (HB.out.trans (hb.mono HB.out.size))
  clear hb
  obtain ⟨rfl, rfl⟩ := Text.same HT.out hA
  clear hA
  go_upto_region 19 with fail
  go_cut [154] (fun sq wx => sq = .bool false ∧ Below w16.heap.size w16 wx)
  case first =>
    have hne : (!s.toList == s.toList) = false := by simp
    have HIV := Lib.hid (show ∀ W, Below w16.heap.size w16 W → Calls Tryd.prog 16 #[vl] W (Gd.GoodPost z W) from fun W hb => by
      obtain ⟨a9, c9, e9, h9⟩ := IsS.is LRule.rec (IsS.below LRule.rec HV.out hb)
      rw [e9]
      exact GoodI.isValidRules a9 _ c9 z W rfl (RuleC.rules h9) HF.out)
    unfold Gd.GoodPost at HIV
    cases one with
    | false =>
      go_wp2_with fail
      refine (HIV.out _ (Below.refl _ _)).mono ?_
      rintro e w9 ⟨rfl, hb⟩
      rw [HOK.out]
      go_wp2_with fail
      go_meet
      exact ⟨by first | rfl | simp, hb⟩
    | true =>
      obtain ⟨rfl, rfl⟩ := RlW.text_back HT.out HP.out
      go_wp2_with fail
      refine (HIV.out _ (Below.refl _ _)).mono ?_
      rintro e w9 ⟨rfl, hb⟩
      rw [HOK.out]
      have HQ := Lib.hid (HO.out.kept hb).is
      have HQ2 := Lib.hid (IsS.is LRule.rec (IsS.below LRule.rec HV.out hb))
      go_wp2_with fail
      refine (RanV.vRules _ _ y _ HQ.out HQ2.out).mono ?_
      rintro e w10 ⟨rfl, hb2⟩
      have hb3 := hb.trans (hb2.mono hb.size)
      clear hb hb2
      go_wp2_with fail
      go_meet
      exact ⟨by first | rfl | simp, hb3⟩
  case rest =>
  obtain ⟨rfl, hb⟩ := hcut
  replace HB := Lib.hid (HB.out.trans (hb.mono HB.out.size))
  clear hb HV HF HT HP HO HOK hss hzl
  go_wp2_with fail
  refine (Draw.drawParseRules a0 len0 cap0 z0 _ (Draw.row_kept HW0.out HB.out) hl).mono ?_
  rintro e w17 ⟨u2, rfl, hu2, hb⟩
  replace HB := Lib.hid (HB.out.trans (hb.mono HB.out.size))
  clear hb
  go_wp2_with fail
  refine (ParseRulesC.impl u2 _ (by omega) (HVP.out.below HB.out) (HVR.out.below HB.out) (HVS.out.below HB.out)).mono ?_
  rintro e w18 ⟨vb, y2, three, rfl, hA, ho, hb⟩
  replace HB := Lib.hid (HB.out.trans (hb.mono HB.out.size))
  clear hb
  have HP := Lib.hid hA
  have HO := Lib.hid ho
  clear hA ho
  go_wp2_with fail
  refine (ParseRulesC.spec u2 _ (by omega)).mono ?_
  rintro e wz ⟨vc, y3, three3, rfl, hA, ho, hb⟩
  obtain ⟨rfl, rfl⟩ := ParseRulesC.same HP.out hA
  have HO2 := Lib.hid (Bs.Own.is ho)
  replace HO := Lib.hid (HO.out.kept hb)
  replace HB := Lib.hid (HB.out.trans (hb.mono HB.out.size))
  clear hA ho hb
  have e1 : (three == three) = true := by simp
  go_wp2_with fail
  refine (RanV.vRules _ _ y2 _ (Bs.Own.is HO.out) HO2.out).mono ?_
  rintro e wz2 ⟨rfl, hb⟩
  replace HB := Lib.hid (HB.out.trans (hb.mono HB.out.size))
  clear hb
  go_wp2_with fail
  go_ret
  exact ⟨by first | rfl | simp, HB.out⟩
end Go.Proofs.YtankaffhapcnaaaDoor.fnRules
