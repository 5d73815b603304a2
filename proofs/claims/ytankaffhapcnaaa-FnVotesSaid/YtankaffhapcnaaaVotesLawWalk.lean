/- FnVotes: the law's walk, for every code. -/
import Derived.Test.YtankaffhapcnaaaTalV
import Derived.Test.YtankaffhapcnaaaDrawVot
import Derived.Test.YtankaffhapcnaaaFrame
import Derived.Deep.DeepCutAuto
namespace Go.Proofs.Ytankaffhapcnaaa.fnVotes
open Go.RowKit Bs Word Tal
set_option linter.unusedVariables false
theorem row_kept {k : IntKind} {w w' : World} {a : Option Addr} {len cap : Nat} {zs : List Int} (h : Frame.IsRow k w a len cap zs) (hb : Below w.heap.size w w') : Frame.IsRow k w' a len cap zs := DrawTal.row_kept h hb
theorem rBig (a : Option Addr) (len cap : Nat) (w : World) : Calls Try.prog 7 #[.slice a len cap] w fun e w' => e = .returned (.bool (decide ((65536 : Int) < len))) ∧ w = w' := by
  go_enter Try.func7, Try.ntmps7
  go_wp2_with fail
  go_ret
  exact ⟨rfl, rfl⟩
set_option maxRecDepth 100000 in
set_option maxHeartbeats 12800000 in
theorem walk (a0 : Option Addr) (len0 cap0 : Nat) (z0 : List Int) (w : World) (sh : w.ShapedOpen Try.prog) (w0 : Frame.IsRow .u8 w a0 len0 cap0 z0) :
    Calls Try.prog 6 #[.slice a0 len0 cap0] w fun e w' => e = .returned (.bool true) ∧ Below w.heap.size w w' := by
  have HW0 := Lib.hid w0
  clear w0 sh
  by_cases hbig : 65536 < len0
  · have hd : decide ((65536 : Int) < len0) = true := decide_eq_true (by omega)
    have HR := Lib.hid (rBig a0 len0 cap0 w)
    rw [hd] at HR
    clear hd
    go_enter Try.func6, Try.ntmps6
    go_wp2_with fail
    refine HR.out.mono ?_
    rintro e w' ⟨rfl, rfl⟩
    go_wp2_with fail
    go_ret
    exact ⟨rfl, Below.refl _ _⟩
  have hd : decide ((65536 : Int) < len0) = false := decide_eq_false (by omega)
  have hl : len0 ≤ 65536 := by omega
  have HR := Lib.hid (rBig a0 len0 cap0 w)
  rw [hd] at HR
  clear hd hbig
  go_enter Try.func6, Try.ntmps6
  go_wp2_with fail
  refine HR.out.mono ?_
  rintro e w' ⟨rfl, rfl⟩
  clear HR
  have HB := Lib.hid (Below.refl w.heap.size w)
  go_wp2_with fail
  refine (DrawTal.drawYesNeeded a0 len0 cap0 z0 _ (row_kept HW0.out HB.out) hl).mono ?_
  rintro e w1 ⟨k, n, rfl, hb⟩
  replace HB := Lib.hid (HB.out.trans (hb.mono HB.out.size))
  clear hb
  go_wp2_with fail
  refine (YesNeededC.impl k n _).mono ?_
  rintro e w2 ⟨y, ok, rfl, hA, hb⟩
  replace HB := Lib.hid (HB.out.trans (hb.mono HB.out.size))
  clear hb
  have HY := Lib.hid hA
  clear hA
  go_wp2_with fail
  refine (YesNeededC.spec k n _).mono ?_
  rintro e w3 ⟨y2, ok2, rfl, hA, hb⟩
  replace HB := Lib.hid (HB.out.trans (hb.mono HB.out.size))
  clear hb
  obtain ⟨rfl, rfl⟩ := YesNeededC.same HY.out hA
  clear hA
  have e1 : (y != y) = false := by simp
  have e2 : (ok != ok) = false := by simp
  go_upto_region 8 with fail
  clear e1 e2
  go_cut [66] (fun sq wx => sq = .bool (ok && decide (y ≤ 1000)) ∧ w3 = wx)
  case first =>
    cases ok with
    | false =>
      go_wp2_with fail
      go_meet
      exact ⟨by first | rfl | simp, rfl⟩
    | true =>
      go_wp2_with fail
      go_meet
      exact ⟨by first | rfl | simp, rfl⟩
  case rest =>
  obtain ⟨hs66, rfl⟩ := hcut
  obtain ⟨q, hq⟩ : ∃ q, (ok && decide (y ≤ 1000)) = q := ⟨_, rfl⟩
  rw [hq] at hs66
  subst hs66
  have HQ := Lib.hid hq
  clear hq
  go_upto_if 66 with fail
  go_cut [] (fun wx => Below w.heap.size w wx)
  case first =>
    cases q with
    | false =>
      go_wp2_with fail
      go_meet
      exact HB.out
    | true =>
      obtain ⟨rfl, hyd⟩ : ok = true ∧ decide (y ≤ 1000) = true := by have := HQ.out; simpa using this
      have hy : y ≤ 1000 := of_decide_eq_true hyd
      have hy0 : 0 ≤ y := by
        rcases HY.out with ⟨_, _, h⟩ | ⟨_, ⟨_, h, _⟩ | ⟨h, _⟩⟩
        · cases h
        · exact h
        · cases h
      have v1 : IntKind.i64.wrap (y - 1) = y - 1 := IntWalk.i64_in _ (by omega)
      go_wp2_with fail
      refine (IsAdoptedC.impl k ⟨y, n, 0⟩ _ trivial).mono ?_
      rintro e wb ⟨a, one, rfl, hA, hb⟩
      have H1 := Lib.hid hA
      replace HB := Lib.hid (HB.out.trans (hb.mono HB.out.size))
      clear hA hb
      go_wp2_with fail
      refine (IsAdoptedC.impl k ⟨y - 1, n, 0⟩ _ trivial).mono ?_
      rintro e wb2 ⟨b, two, rfl, hA, hb⟩
      have H2 := Lib.hid hA
      replace HB := Lib.hid (HB.out.trans (hb.mono HB.out.size))
      clear hA hb
      go_wp2_with fail
      refine (MostNoC.impl k y _).mono ?_
      rintro e wb3 ⟨most, three, rfl, hA, hb⟩
      replace HB := Lib.hid (HB.out.trans (hb.mono HB.out.size))
      obtain ⟨rfl, rfl, htb, rfl, hnm⟩ := TalV.needed HY.out hy H1.out H2.out hA
      have d1 : ¬ most < n := by omega
      clear hA hb hnm
      cases two with
      | false =>
        clear htb
        go_wp2_with fail
        go_meet
        exact HB.out
      | true =>
        obtain rfl := htb rfl
        clear htb
        go_wp2_with fail
        go_meet
        exact HB.out
  case rest =>
  have HB := Lib.hid hcut
  clear hcut HY
  go_wp2_with fail
  refine (DrawTal.drawMostNo a0 len0 cap0 z0 _ (row_kept HW0.out HB.out) hl).mono ?_
  rintro e w4 ⟨k2, y2, rfl, hb⟩
  replace HB := Lib.hid (HB.out.trans (hb.mono HB.out.size))
  clear hb
  go_wp2_with fail
  refine (MostNoC.impl k2 y2 _).mono ?_
  rintro e w5 ⟨m, told, rfl, hA, hb⟩
  replace HB := Lib.hid (HB.out.trans (hb.mono HB.out.size))
  clear hb
  have HM := Lib.hid hA
  clear hA
  go_wp2_with fail
  refine (MostNoC.spec k2 y2 _).mono ?_
  rintro e w6 ⟨m2, told2, rfl, hA, hb⟩
  replace HB := Lib.hid (HB.out.trans (hb.mono HB.out.size))
  clear hb
  obtain ⟨rfl, rfl⟩ := MostNoC.same HM.out hA
  clear hA HM
  have e1 : (m != m) = false := by simp
  have e2 : (told != told) = false := by simp
  go_upto_region 19 with fail
  clear e1 e2
  go_wp2_with fail
  refine (DrawTal.drawIsAdopted a0 len0 cap0 z0 _ (row_kept HW0.out HB.out) hl).mono ?_
  rintro e w7 ⟨c, t, rfl, hb⟩
  replace HB := Lib.hid (HB.out.trans (hb.mono HB.out.size))
  clear hb
  have P22 := Lib.hid (Bx.new w7 71 #[.int .i64 t.yes, .int .i64 t.no, .int .i64 t.abstain])
  replace HB := Lib.hid (HB.out.alloc HB.out.size (Obj.cells #[.int .i64 t.yes, .int .i64 t.no, .int .i64 t.abstain] 71))
  go_upto_region 20 with fail
  generalize w7.alloc (Obj.cells #[.int .i64 t.yes, .int .i64 t.no, .int .i64 t.abstain] 71) = w8 at *
  generalize w7.heap.size = gw8 at *
  have P22_0 := P22.out.cell 0
  have P22_1 := P22.out.cell 1
  have P22_2 := P22.out.cell 2
  simp only [List.getElem?_toArray, List.getElem?_cons_zero, List.getElem?_cons_succ] at P22_0 P22_1 P22_2
  go_wp2_with fail
  refine (IsAdoptedC.impl c t _ trivial).mono ?_
  rintro e w9 ⟨ad, fine, rfl, hA, hb⟩
  clear P22_0 P22_1 P22_2
  replace P22 := Lib.hid (P22.out.kept hb)
  replace HB := Lib.hid (HB.out.trans (hb.mono HB.out.size))
  clear hb
  have HA := Lib.hid hA
  clear hA
  have P22_0 := P22.out.cell 0
  have P22_1 := P22.out.cell 1
  have P22_2 := P22.out.cell 2
  simp only [List.getElem?_toArray, List.getElem?_cons_zero, List.getElem?_cons_succ] at P22_0 P22_1 P22_2
  go_wp2_with fail
  refine (IsAdoptedC.spec c t _ trivial).mono ?_
  rintro e w10 ⟨ad2, fine2, rfl, hA, hb⟩
  clear P22_0 P22_1 P22_2
  replace P22 := Lib.hid (P22.out.kept hb)
  replace HB := Lib.hid (HB.out.trans (hb.mono HB.out.size))
  clear hb
  obtain ⟨rfl, rfl⟩ := IsAdoptedC.same HA.out hA
  clear hA
  have e1 : (ad != ad) = false := by simp
  have e2 : (fine != fine) = false := by simp
  have P22_0 := P22.out.cell 0
  have P22_1 := P22.out.cell 1
  have P22_2 := P22.out.cell 2
  simp only [List.getElem?_toArray, List.getElem?_cons_zero, List.getElem?_cons_succ] at P22_0 P22_1 P22_2
  go_upto_region 24 with fail
  clear e1 e2
  go_wp2_with fail
  refine (StrictestNeedC.impl t _ trivial).mono ?_
  rintro e w11 ⟨st, known, rfl, hA, hb⟩
  clear P22_0 P22_1 P22_2
  replace P22 := Lib.hid (P22.out.kept hb)
  replace HB := Lib.hid (HB.out.trans (hb.mono HB.out.size))
  clear hb
  have HS := Lib.hid hA
  clear hA
  have P22_0 := P22.out.cell 0
  have P22_1 := P22.out.cell 1
  have P22_2 := P22.out.cell 2
  simp only [List.getElem?_toArray, List.getElem?_cons_zero, List.getElem?_cons_succ] at P22_0 P22_1 P22_2
  go_wp2_with fail
  refine (StrictestNeedC.spec t _ trivial).mono ?_
  rintro e w12 ⟨st2, known2, rfl, hA, hb⟩
  clear P22_0 P22_1 P22_2
  replace P22 := Lib.hid (P22.out.kept hb)
  replace HB := Lib.hid (HB.out.trans (hb.mono HB.out.size))
  clear hb
  obtain ⟨rfl, rfl⟩ := StrictestNeedC.same HS.out hA
  clear hA
  have e1 : (st != st) = false := by simp
  have e2 : (known != known) = false := by simp
  obtain ⟨hkg, hsk⟩ := TalV.strictest HA.out HS.out
  have HSK := Lib.hid hsk
  have HKG := Lib.hid hkg
  clear hkg hsk
  have P22_0 := P22.out.cell 0
  have P22_1 := P22.out.cell 1
  have P22_2 := P22.out.cell 2
  simp only [List.getElem?_toArray, List.getElem?_cons_zero, List.getElem?_cons_succ] at P22_0 P22_1 P22_2
  go_wp2_with fail
  refine (IsValidTallyC.impl t _ trivial).mono ?_
  rintro e w13 ⟨gd, rfl, hA, hb⟩
  clear P22_0 P22_1 P22_2
  replace P22 := Lib.hid (P22.out.kept hb)
  replace HB := Lib.hid (HB.out.trans (hb.mono HB.out.size))
  clear hb
  obtain rfl : known = gd := HKG.out.trans hA
  clear hA HKG
  have P22_0 := P22.out.cell 0
  have P22_1 := P22.out.cell 1
  have P22_2 := P22.out.cell 2
  simp only [List.getElem?_toArray, List.getElem?_cons_zero, List.getElem?_cons_succ] at P22_0 P22_1 P22_2
  go_upto_region 28 with fail
  clear e1 e2
  go_cut [192] (fun sq wx => sq = .bool false ∧ w13 = wx)
  case first =>
    cases fine with
    | false =>
      go_wp2_with fail
      go_meet
      exact ⟨by first | rfl | simp, rfl⟩
    | true =>
      have had := HSK.out rfl
      have e1 : (ad != decide (c ≤ st)) = false := by rw [had]; simp
      have HAD := Lib.hid had
      clear had
      go_wp2_with fail
      go_meet
      exact ⟨by first | rfl | (simp; done) | (simp; exact HAD.out), rfl⟩
  case rest =>
  obtain ⟨rfl, rfl⟩ := hcut
  clear HS HSK
  go_wp2_with fail
  refine (ChairMattersC.impl c t _ trivial).mono ?_
  rintro e w14 ⟨ma, so, rfl, hA, hb⟩
  clear P22_0 P22_1 P22_2
  replace P22 := Lib.hid (P22.out.kept hb)
  replace HB := Lib.hid (HB.out.trans (hb.mono HB.out.size))
  clear hb
  have HC := Lib.hid hA
  clear hA
  have P22_0 := P22.out.cell 0
  have P22_1 := P22.out.cell 1
  have P22_2 := P22.out.cell 2
  simp only [List.getElem?_toArray, List.getElem?_cons_zero, List.getElem?_cons_succ] at P22_0 P22_1 P22_2
  go_wp2_with fail
  refine (ChairMattersC.spec c t _ trivial).mono ?_
  rintro e w15 ⟨ma2, so2, rfl, hA, hb⟩
  clear P22_0 P22_1 P22_2
  replace P22 := Lib.hid (P22.out.kept hb)
  replace HB := Lib.hid (HB.out.trans (hb.mono HB.out.size))
  clear hb
  obtain ⟨rfl, rfl⟩ := ChairMattersC.same HC.out hA
  clear hA
  have e1 : (ma == ma) = true := by simp
  have e2 : (so == so) = true := by simp
  have P22_0 := P22.out.cell 0
  have P22_1 := P22.out.cell 1
  have P22_2 := P22.out.cell 2
  simp only [List.getElem?_toArray, List.getElem?_cons_zero, List.getElem?_cons_succ] at P22_0 P22_1 P22_2
  have HBE := Lib.hid HB.out
  have fin : ∀ b : Bool, b = true → Ending.returned (.bool b) = .returned (.bool true) := fun b h => by rw [h]
  cases ma with
  | false =>
    go_wp2_with fail
    go_ret
    exact ⟨by first | rfl | simp, HBE.out⟩
  | true =>
    cases ad with
    | false =>
      go_wp2_with fail
      go_ret
      exact ⟨by first | rfl | simp, HBE.out⟩
    | true =>
      by_cases hc : c = 1
      · obtain ⟨h1, h2, h3⟩ := TalV.chair HA.out HC.out rfl rfl hc
        have v1 : IntKind.i64.wrap (t.no + 1) = t.no + 1 := IntWalk.i64_in _ (by omega)
        have d1 : (c == 1) = true := by simpa using hc
        have d2 : (t.yes == t.no + 1) = true := by simpa using h1
        have d3 : (c != 1) = false := by simpa using hc
        clear h1 h2 h3 hc
        go_wp2_with fail
        go_ret
        exact ⟨by first | rfl | simp, HBE.out⟩
      · have d1 : (c == 1) = false := by simpa using hc
        have d3 : (c != 1) = true := by simpa using hc
        clear hc
        go_wp2_with fail
        go_ret
        exact ⟨by first | rfl | simp, HBE.out⟩
end Go.Proofs.Ytankaffhapcnaaa.fnVotes
