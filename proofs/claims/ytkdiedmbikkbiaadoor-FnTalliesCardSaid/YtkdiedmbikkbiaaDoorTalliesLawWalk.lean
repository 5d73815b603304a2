/- FnTallies: the law's walk, for every code. -/
import Derived.Test.YtkdiedmbikkbiaaDoorTalW
import Derived.Test.YtkdiedmbikkbiaaDoorDrawTal
import Derived.Test.YtkdiedmbikkbiaaDoorFrame
import Derived.Test.YtkdiedmbikkbiaaDoorLaid
import Derived.Deep.DeepCutAuto
namespace Go.Proofs.YtkdiedmbikkbiaaDoor.fnTallies
open Go.RowKit Bs Word Tal TalT
set_option linter.unusedVariables false
theorem row_kept {k : IntKind} {w w' : World} {a : Option Addr} {len cap : Nat} {zs : List Int} (h : Frame.IsRow k w a len cap zs) (hb : Below w.heap.size w w') : Frame.IsRow k w' a len cap zs := DrawTal.row_kept h hb
theorem rBig (a : Option Addr) (len cap : Nat) (w : World) : Calls Tryd.prog 6 #[.slice a len cap] w fun e w' => e = .returned (.bool (decide ((65536 : Int) < len))) ∧ w = w' := by
  go_enter Tryd.func6, Tryd.ntmps6
  go_wp2_with fail
  go_ret
  exact ⟨rfl, rfl⟩
set_option maxRecDepth 100000 in
set_option maxHeartbeats 12800000 in
theorem walk (a0 : Option Addr) (len0 cap0 : Nat) (z0 : List Int) (w : World) (sh : w.ShapedOpen Tryd.prog) (vp : Laid.Pow w) (vr : Laid.Err "strconv.ErrRange" w) (vs : Laid.Err "strconv.ErrSyntax" w) (w0 : Frame.IsRow .u8 w a0 len0 cap0 z0) :
    Calls Tryd.prog 3 #[.slice a0 len0 cap0] w fun e w' => e = .returned (.bool true) ∧ Below w.heap.size w w' := by
  have HW0 := Lib.hid w0
  have HVP := Lib.hid vp
  have HVR := Lib.hid vr
  have HVS := Lib.hid vs
  clear w0 sh vp vr vs
  by_cases hbig : 65536 < len0
  · have hd : decide ((65536 : Int) < len0) = true := decide_eq_true (by omega)
    have HR := Lib.hid (rBig a0 len0 cap0 w)
    rw [hd] at HR
    clear hd
    go_enter Tryd.func3, Tryd.ntmps3
    go_wp2_with fail
    refine HR.out.mono ?_
    rintro e w' ⟨rfl, rfl⟩
    go_wp2_with fail
    go_ret
    exact ⟨rfl, Below.refl _ _⟩
  have hd : decide ((65536 : Int) < len0) = false := decide_eq_false (by omega)
  have hl : len0 ≤ 65536 := by omega
  have HR := Lib.hid (rBig a0 len0 cap0 w)
  rw [hd] at HR
  clear hd hbig
  go_enter Tryd.func3, Tryd.ntmps3
  go_wp2_with fail
  refine HR.out.mono ?_
  rintro e w' ⟨rfl, rfl⟩
  clear HR
  have HB := Lib.hid (Below.refl w.heap.size w)
  go_wp2_with fail
  refine (DrawTal.drawTallyText a0 len0 cap0 z0 _ (row_kept HW0.out HB.out) hl).mono ?_
  rintro e w1 ⟨t, rfl, hb⟩
  replace HB := Lib.hid (HB.out.trans (hb.mono HB.out.size))
  clear hb
  have P3 := Lib.hid (Bx.new w1 25 #[.int .i64 t.yes, .int .i64 t.no, .int .i64 t.abstain])
  replace HB := Lib.hid (HB.out.alloc HB.out.size (Obj.cells #[.int .i64 t.yes, .int .i64 t.no, .int .i64 t.abstain] 25))
  go_upto_region 4 with fail
  generalize w1.alloc (Obj.cells #[.int .i64 t.yes, .int .i64 t.no, .int .i64 t.abstain] 25) = w2 at *
  generalize w1.heap.size = gw2 at *
  have P3_0 := P3.out.cell 0
  have P3_1 := P3.out.cell 1
  have P3_2 := P3.out.cell 2
  simp only [List.getElem?_toArray, List.getElem?_cons_zero, List.getElem?_cons_succ] at P3_0 P3_1 P3_2
  go_wp2_with fail
  refine (TallyTextC.impl t _ trivial (HVP.out.below HB.out)).mono ?_
  rintro e w3 ⟨s, ok, rfl, hA, hb⟩
  clear P3_0 P3_1 P3_2
  replace P3 := Lib.hid (P3.out.kept hb)
  replace HB := Lib.hid (HB.out.trans (hb.mono HB.out.size))
  clear hb
  have HT := Lib.hid hA
  have hss := TalW.text_short hA
  clear hA
  go_wp2_with fail
  refine (ParseTallyC.impl s _ (by omega) (HVP.out.below HB.out) (HVR.out.below HB.out) (HVS.out.below HB.out)).mono ?_
  rintro e w4 ⟨p, fine, rfl, hA, hb⟩
  replace P3 := Lib.hid (P3.out.kept hb)
  replace HB := Lib.hid (HB.out.trans (hb.mono HB.out.size))
  clear hb
  have HP := Lib.hid hA
  clear hA
  have P6 := Lib.hid (Bx.new w4 25 #[.int .i64 p.yes, .int .i64 p.no, .int .i64 p.abstain])
  replace P3 := Lib.hid (P3.out.alloc (Obj.cells #[.int .i64 p.yes, .int .i64 p.no, .int .i64 p.abstain] 25))
  replace HB := Lib.hid (HB.out.alloc HB.out.size (Obj.cells #[.int .i64 p.yes, .int .i64 p.no, .int .i64 p.abstain] 25))
  go_upto_region 6 with fail
  generalize w4.alloc (Obj.cells #[.int .i64 p.yes, .int .i64 p.no, .int .i64 p.abstain] 25) = w5 at *
  generalize w4.heap.size = gw5 at *
  have P3_0 := P3.out.cell 0
  have P3_1 := P3.out.cell 1
  have P3_2 := P3.out.cell 2
  simp only [List.getElem?_toArray, List.getElem?_cons_zero, List.getElem?_cons_succ] at P3_0 P3_1 P3_2
  go_wp2_with fail
  refine (TallyTextC.spec t _ trivial).mono ?_
  rintro e w6 ⟨s2, ok2, rfl, hA, hb⟩
  clear P3_0 P3_1 P3_2
  replace P3 := Lib.hid (P3.out.kept hb)
  replace P6 := Lib.hid (P6.out.kept hb)
  replace HB := Lib.hid (HB.out.trans (hb.mono HB.out.size))
  clear hb
  obtain ⟨rfl, rfl⟩ := TallyTextC.same HT.out hA
  clear hA
  have P3_0 := P3.out.cell 0
  have P3_1 := P3.out.cell 1
  have P3_2 := P3.out.cell 2
  simp only [List.getElem?_toArray, List.getElem?_cons_zero, List.getElem?_cons_succ] at P3_0 P3_1 P3_2
  have P6_0 := P6.out.cell 0
  have P6_1 := P6.out.cell 1
  have P6_2 := P6.out.cell 2
  simp only [List.getElem?_toArray, List.getElem?_cons_zero, List.getElem?_cons_succ] at P6_0 P6_1 P6_2
  go_upto_region 7 with fail
  go_cut [70] (fun sq wx => sq = .bool false ∧ w6 = wx)
  case first =>
    have hne : (!s.toList == s.toList) = false := by simp
    cases ok with
    | false =>
      go_wp2_with fail
      go_meet
      exact ⟨rfl, rfl⟩
    | true =>
      obtain ⟨rfl, rfl⟩ := TalW.back HT.out HP.out
      have hp0 : (p.yes != p.yes) = false := by simp
      have hp1 : (p.no != p.no) = false := by simp
      have hp2 : (p.abstain != p.abstain) = false := by simp
      go_wp2_with fail
      go_meet
      exact ⟨by first | rfl | simp, rfl⟩
  case rest =>
  obtain ⟨rfl, rfl⟩ := hcut
  clear P3_0 P3_1 P3_2 P6_0 P6_1 P6_2
  clear P3 P6
  clear HT HP hss
  go_wp2_with fail
  refine (DrawTal.drawParseTally a0 len0 cap0 z0 _ (row_kept HW0.out HB.out) hl).mono ?_
  rintro e w7 ⟨u, rfl, hu, hb⟩
  replace HB := Lib.hid (HB.out.trans (hb.mono HB.out.size))
  clear hb
  go_wp2_with fail
  refine (ParseTallyC.impl u _ (by omega) (HVP.out.below HB.out) (HVR.out.below HB.out) (HVS.out.below HB.out)).mono ?_
  rintro e w8 ⟨p2, read, rfl, hA, hb⟩
  replace HB := Lib.hid (HB.out.trans (hb.mono HB.out.size))
  clear hb
  have HP := Lib.hid hA
  clear hA
  have P11 := Lib.hid (Bx.new w8 25 #[.int .i64 p2.yes, .int .i64 p2.no, .int .i64 p2.abstain])
  replace HB := Lib.hid (HB.out.alloc HB.out.size (Obj.cells #[.int .i64 p2.yes, .int .i64 p2.no, .int .i64 p2.abstain] 25))
  go_upto_region 11 with fail
  generalize w8.alloc (Obj.cells #[.int .i64 p2.yes, .int .i64 p2.no, .int .i64 p2.abstain] 25) = w9 at *
  generalize w8.heap.size = gw9 at *
  have P11_0 := P11.out.cell 0
  have P11_1 := P11.out.cell 1
  have P11_2 := P11.out.cell 2
  simp only [List.getElem?_toArray, List.getElem?_cons_zero, List.getElem?_cons_succ] at P11_0 P11_1 P11_2
  go_wp2_with fail
  refine (TallyTextC.impl p2 _ trivial (HVP.out.below HB.out)).mono ?_
  rintro e w10 ⟨v, told, rfl, hA, hb⟩
  clear P11_0 P11_1 P11_2
  replace P11 := Lib.hid (P11.out.kept hb)
  replace HB := Lib.hid (HB.out.trans (hb.mono HB.out.size))
  clear hb
  have HT := Lib.hid hA
  clear hA
  go_wp2_with fail
  refine (ParseTallyC.spec u _ (by omega)).mono ?_
  rintro e w11 ⟨p3, read3, rfl, hA, hb⟩
  replace P11 := Lib.hid (P11.out.kept hb)
  replace HB := Lib.hid (HB.out.trans (hb.mono HB.out.size))
  clear hb
  obtain ⟨rfl, rfl⟩ := ParseTallyC.same HP.out hA
  clear hA
  have P15 := Lib.hid (Bx.new w11 25 #[.int .i64 p2.yes, .int .i64 p2.no, .int .i64 p2.abstain])
  replace P11 := Lib.hid (P11.out.alloc (Obj.cells #[.int .i64 p2.yes, .int .i64 p2.no, .int .i64 p2.abstain] 25))
  replace HB := Lib.hid (HB.out.alloc HB.out.size (Obj.cells #[.int .i64 p2.yes, .int .i64 p2.no, .int .i64 p2.abstain] 25))
  go_upto_region 13 with fail
  generalize w11.alloc (Obj.cells #[.int .i64 p2.yes, .int .i64 p2.no, .int .i64 p2.abstain] 25) = w12 at *
  generalize w11.heap.size = gw12 at *
  have P11_0 := P11.out.cell 0
  have P11_1 := P11.out.cell 1
  have P11_2 := P11.out.cell 2
  simp only [List.getElem?_toArray, List.getElem?_cons_zero, List.getElem?_cons_succ] at P11_0 P11_1 P11_2
  have P15_0 := P15.out.cell 0
  have P15_1 := P15.out.cell 1
  have P15_2 := P15.out.cell 2
  simp only [List.getElem?_toArray, List.getElem?_cons_zero, List.getElem?_cons_succ] at P15_0 P15_1 P15_2
  go_upto_region 13 with fail
  go_cut [107] (fun sq wx => sq = .bool false ∧ w12 = wx)
  case first =>
    have hp0 : (p2.yes != p2.yes) = false := by simp
    have hp1 : (p2.no != p2.no) = false := by simp
    have hp2 : (p2.abstain != p2.abstain) = false := by simp
    cases read with
    | false =>
      go_wp2_with fail
      go_meet
      exact ⟨by first | rfl | simp, rfl⟩
    | true =>
      obtain ⟨rfl, rfl⟩ := TalW.forth HP.out HT.out
      have hne : (!v.toList == v.toList) = false := by simp
      go_wp2_with fail
      go_meet
      exact ⟨by first | rfl | simp, rfl⟩
  case rest =>
  obtain ⟨rfl, rfl⟩ := hcut
  clear P11_0 P11_1 P11_2 P15_0 P15_1 P15_2
  clear P11 P15
  clear HP HT hu
  go_wp2_with fail
  refine (DrawTal.drawYesShare a0 len0 cap0 z0 _ (row_kept HW0.out HB.out) hl).mono ?_
  rintro e w13 ⟨q, rfl, hb⟩
  replace HB := Lib.hid (HB.out.trans (hb.mono HB.out.size))
  clear hb
  have P17 := Lib.hid (Bx.new w13 25 #[.int .i64 q.yes, .int .i64 q.no, .int .i64 q.abstain])
  replace HB := Lib.hid (HB.out.alloc HB.out.size (Obj.cells #[.int .i64 q.yes, .int .i64 q.no, .int .i64 q.abstain] 25))
  go_upto_region 16 with fail
  generalize w13.alloc (Obj.cells #[.int .i64 q.yes, .int .i64 q.no, .int .i64 q.abstain] 25) = w14 at *
  generalize w13.heap.size = gw14 at *
  have P17_0 := P17.out.cell 0
  have P17_1 := P17.out.cell 1
  have P17_2 := P17.out.cell 2
  simp only [List.getElem?_toArray, List.getElem?_cons_zero, List.getElem?_cons_succ] at P17_0 P17_1 P17_2
  go_wp2_with fail
  refine (YesShareC.impl q _ trivial).mono ?_
  rintro e w15 ⟨a, b, known, rfl, hA, hb⟩
  clear P17_0 P17_1 P17_2
  replace P17 := Lib.hid (P17.out.kept hb)
  replace HB := Lib.hid (HB.out.trans (hb.mono HB.out.size))
  clear hb
  have HS := Lib.hid hA
  clear hA
  have P17_0 := P17.out.cell 0
  have P17_1 := P17.out.cell 1
  have P17_2 := P17.out.cell 2
  simp only [List.getElem?_toArray, List.getElem?_cons_zero, List.getElem?_cons_succ] at P17_0 P17_1 P17_2
  go_wp2_with fail
  refine (YesShareC.spec q _ trivial).mono ?_
  rintro e w16 ⟨a2, b2, known2, rfl, hA, hb⟩
  clear P17_0 P17_1 P17_2
  replace P17 := Lib.hid (P17.out.kept hb)
  replace HB := Lib.hid (HB.out.trans (hb.mono HB.out.size))
  clear hb
  obtain ⟨rfl, rfl, rfl⟩ := YesShareC.same HS.out hA
  clear hA
  have P17_0 := P17.out.cell 0
  have P17_1 := P17.out.cell 1
  have P17_2 := P17.out.cell 2
  simp only [List.getElem?_toArray, List.getElem?_cons_zero, List.getElem?_cons_succ] at P17_0 P17_1 P17_2
  go_upto_region 18 with fail
  go_cut [151] (fun sq wx => sq = .bool false ∧ w16 = wx)
  case first =>
    have ha : (a != a) = false := by simp
    have hb' : (b != b) = false := by simp
    cases known with
    | false =>
      go_wp2_with fail
      go_meet
      exact ⟨by first | rfl | simp, rfl⟩
    | true =>
      obtain ⟨m1, m2, m3, m4, hmul, hm5, hm6⟩ := TalW.share_mul HS.out
      have v1 : IntKind.i64.wrap (q.yes + q.no) = q.yes + q.no := IntWalk.i64_in _ (by omega)
      have v2 : IntKind.i64.wrap (a * (q.yes + q.no)) = a * (q.yes + q.no) := IntWalk.i64_in _ (by omega)
      have v3 : IntKind.i64.wrap (b * q.yes) = a * (q.yes + q.no) := by rw [hmul] at hm5 hm6 ⊢; exact IntWalk.i64_in _ (by omega)
      have hne : (a * (q.yes + q.no) != a * (q.yes + q.no)) = false := by simp
      clear hmul
      go_wp2_with fail
      go_meet
      exact ⟨by first | rfl | simp, rfl⟩
  case rest =>
  obtain ⟨rfl, rfl⟩ := hcut
  clear P17_0 P17_1 P17_2
  clear P17
  clear HS
  go_wp2_with fail
  refine (DrawTal.drawAddTallies a0 len0 cap0 z0 _ (row_kept HW0.out HB.out) hl).mono ?_
  rintro e w17 ⟨y, z, rfl, hb⟩
  replace HB := Lib.hid (HB.out.trans (hb.mono HB.out.size))
  clear hb
  have HY := Lib.hid ((Bx.new w17 25 #[.int .i64 y.yes, .int .i64 y.no, .int .i64 y.abstain]).alloc (Obj.cells #[.int .i64 z.yes, .int .i64 z.no, .int .i64 z.abstain] 25))
  have HZ := Lib.hid (show Bx ((w17.alloc (Obj.cells #[.int .i64 y.yes, .int .i64 y.no, .int .i64 y.abstain] 25)).alloc (Obj.cells #[.int .i64 z.yes, .int .i64 z.no, .int .i64 z.abstain] 25)) (w17.heap.size + 1) 25 #[.int .i64 z.yes, .int .i64 z.no, .int .i64 z.abstain] by have h := Bx.new (w17.alloc (Obj.cells #[.int .i64 y.yes, .int .i64 y.no, .int .i64 y.abstain] 25)) 25 #[.int .i64 z.yes, .int .i64 z.no, .int .i64 z.abstain]; rwa [World.size_alloc] at h)
  replace HB := Lib.hid ((HB.out.alloc HB.out.size (Obj.cells #[.int .i64 y.yes, .int .i64 y.no, .int .i64 y.abstain] 25)).alloc (by have := HB.out.size; simp; omega) (Obj.cells #[.int .i64 z.yes, .int .i64 z.no, .int .i64 z.abstain] 25))
  go_upto_region 21 with fail
  generalize (w17.alloc (Obj.cells #[.int .i64 y.yes, .int .i64 y.no, .int .i64 y.abstain] 25)).alloc (Obj.cells #[.int .i64 z.yes, .int .i64 z.no, .int .i64 z.abstain] 25) = wA at *
  generalize w17.heap.size = gA at *
  have HY_0 := HY.out.cell 0
  have HY_1 := HY.out.cell 1
  have HY_2 := HY.out.cell 2
  simp only [List.getElem?_toArray, List.getElem?_cons_zero, List.getElem?_cons_succ] at HY_0 HY_1 HY_2
  have HZ_0 := HZ.out.cell 0
  have HZ_1 := HZ.out.cell 1
  have HZ_2 := HZ.out.cell 2
  simp only [List.getElem?_toArray, List.getElem?_cons_zero, List.getElem?_cons_succ] at HZ_0 HZ_1 HZ_2
  go_wp2_with fail
  refine (AddTalliesC.impl y z _ trivial trivial).mono ?_
  rintro e w18 ⟨sm, one, rfl, hA, hb⟩
  clear HY_0 HY_1 HY_2 HZ_0 HZ_1 HZ_2
  replace HY := Lib.hid (HY.out.kept hb)
  replace HZ := Lib.hid (HZ.out.kept hb)
  replace HB := Lib.hid (HB.out.trans (hb.mono HB.out.size))
  clear hb
  have HS := Lib.hid hA
  clear hA
  have P26 := Lib.hid (Bx.new w18 25 #[.int .i64 sm.yes, .int .i64 sm.no, .int .i64 sm.abstain])
  replace HY := Lib.hid (HY.out.alloc (Obj.cells #[.int .i64 sm.yes, .int .i64 sm.no, .int .i64 sm.abstain] 25))
  replace HZ := Lib.hid (HZ.out.alloc (Obj.cells #[.int .i64 sm.yes, .int .i64 sm.no, .int .i64 sm.abstain] 25))
  replace HB := Lib.hid (HB.out.alloc HB.out.size (Obj.cells #[.int .i64 sm.yes, .int .i64 sm.no, .int .i64 sm.abstain] 25))
  go_upto_region 22 with fail
  generalize w18.alloc (Obj.cells #[.int .i64 sm.yes, .int .i64 sm.no, .int .i64 sm.abstain] 25) = w19 at *
  generalize w18.heap.size = gw19 at *
  have HY_0 := HY.out.cell 0
  have HY_1 := HY.out.cell 1
  have HY_2 := HY.out.cell 2
  simp only [List.getElem?_toArray, List.getElem?_cons_zero, List.getElem?_cons_succ] at HY_0 HY_1 HY_2
  have HZ_0 := HZ.out.cell 0
  have HZ_1 := HZ.out.cell 1
  have HZ_2 := HZ.out.cell 2
  simp only [List.getElem?_toArray, List.getElem?_cons_zero, List.getElem?_cons_succ] at HZ_0 HZ_1 HZ_2
  go_wp2_with fail
  refine (AddTalliesC.impl z y _ trivial trivial).mono ?_
  rintro e w20 ⟨sm2, two, rfl, hA, hb⟩
  clear HY_0 HY_1 HY_2 HZ_0 HZ_1 HZ_2
  replace HY := Lib.hid (HY.out.kept hb)
  replace HZ := Lib.hid (HZ.out.kept hb)
  replace P26 := Lib.hid (P26.out.kept hb)
  replace HB := Lib.hid (HB.out.trans (hb.mono HB.out.size))
  clear hb
  obtain ⟨rfl, rfl⟩ := AddTalliesC.same HS.out (show AddTalliesC.Ans y z sm2 two by unfold AddTalliesC.Ans at hA ⊢; rw [TalW.add_comm']; exact hA)
  clear hA
  have P28 := Lib.hid (Bx.new w20 25 #[.int .i64 sm.yes, .int .i64 sm.no, .int .i64 sm.abstain])
  replace HY := Lib.hid (HY.out.alloc (Obj.cells #[.int .i64 sm.yes, .int .i64 sm.no, .int .i64 sm.abstain] 25))
  replace HZ := Lib.hid (HZ.out.alloc (Obj.cells #[.int .i64 sm.yes, .int .i64 sm.no, .int .i64 sm.abstain] 25))
  replace P26 := Lib.hid (P26.out.alloc (Obj.cells #[.int .i64 sm.yes, .int .i64 sm.no, .int .i64 sm.abstain] 25))
  replace HB := Lib.hid (HB.out.alloc HB.out.size (Obj.cells #[.int .i64 sm.yes, .int .i64 sm.no, .int .i64 sm.abstain] 25))
  go_upto_region 23 with fail
  generalize w20.alloc (Obj.cells #[.int .i64 sm.yes, .int .i64 sm.no, .int .i64 sm.abstain] 25) = w21 at *
  generalize w20.heap.size = gw21 at *
  have HY_0 := HY.out.cell 0
  have HY_1 := HY.out.cell 1
  have HY_2 := HY.out.cell 2
  simp only [List.getElem?_toArray, List.getElem?_cons_zero, List.getElem?_cons_succ] at HY_0 HY_1 HY_2
  have HZ_0 := HZ.out.cell 0
  have HZ_1 := HZ.out.cell 1
  have HZ_2 := HZ.out.cell 2
  simp only [List.getElem?_toArray, List.getElem?_cons_zero, List.getElem?_cons_succ] at HZ_0 HZ_1 HZ_2
  go_wp2_with fail
  refine (AddTalliesC.spec y z _ trivial trivial).mono ?_
  rintro e w22 ⟨sm3, three, rfl, hA, hb⟩
  clear HY_0 HY_1 HY_2 HZ_0 HZ_1 HZ_2
  replace HY := Lib.hid (HY.out.kept hb)
  replace HZ := Lib.hid (HZ.out.kept hb)
  replace P26 := Lib.hid (P26.out.kept hb)
  replace P28 := Lib.hid (P28.out.kept hb)
  replace HB := Lib.hid (HB.out.trans (hb.mono HB.out.size))
  clear hb
  obtain ⟨rfl, rfl⟩ := AddTalliesC.same HS.out hA
  clear hA
  have P30 := Lib.hid (Bx.new w22 25 #[.int .i64 sm.yes, .int .i64 sm.no, .int .i64 sm.abstain])
  replace HY := Lib.hid (HY.out.alloc (Obj.cells #[.int .i64 sm.yes, .int .i64 sm.no, .int .i64 sm.abstain] 25))
  replace HZ := Lib.hid (HZ.out.alloc (Obj.cells #[.int .i64 sm.yes, .int .i64 sm.no, .int .i64 sm.abstain] 25))
  replace P26 := Lib.hid (P26.out.alloc (Obj.cells #[.int .i64 sm.yes, .int .i64 sm.no, .int .i64 sm.abstain] 25))
  replace P28 := Lib.hid (P28.out.alloc (Obj.cells #[.int .i64 sm.yes, .int .i64 sm.no, .int .i64 sm.abstain] 25))
  replace HB := Lib.hid (HB.out.alloc HB.out.size (Obj.cells #[.int .i64 sm.yes, .int .i64 sm.no, .int .i64 sm.abstain] 25))
  go_upto_region 24 with fail
  generalize w22.alloc (Obj.cells #[.int .i64 sm.yes, .int .i64 sm.no, .int .i64 sm.abstain] 25) = w23 at *
  generalize w22.heap.size = gw23 at *
  have P26_0 := P26.out.cell 0
  have P26_1 := P26.out.cell 1
  have P26_2 := P26.out.cell 2
  simp only [List.getElem?_toArray, List.getElem?_cons_zero, List.getElem?_cons_succ] at P26_0 P26_1 P26_2
  have P28_0 := P28.out.cell 0
  have P28_1 := P28.out.cell 1
  have P28_2 := P28.out.cell 2
  simp only [List.getElem?_toArray, List.getElem?_cons_zero, List.getElem?_cons_succ] at P28_0 P28_1 P28_2
  have P30_0 := P30.out.cell 0
  have P30_1 := P30.out.cell 1
  have P30_2 := P30.out.cell 2
  simp only [List.getElem?_toArray, List.getElem?_cons_zero, List.getElem?_cons_succ] at P30_0 P30_1 P30_2
  have HBE := Lib.hid HB.out
  have hp0 : (sm.yes == sm.yes) = true := by simp
  have hp1 : (sm.no == sm.no) = true := by simp
  have hp2 : (sm.abstain == sm.abstain) = true := by simp
  have hp3 : (one == one) = true := by simp
  go_wp2_with fail
  go_ret
  exact ⟨by first | rfl | simp, HBE.out⟩
end Go.Proofs.YtkdiedmbikkbiaaDoor.fnTallies
