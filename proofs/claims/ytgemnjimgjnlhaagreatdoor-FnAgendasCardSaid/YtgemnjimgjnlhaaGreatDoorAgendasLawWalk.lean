/- FnAgendas: the law's walk, for every code. -/
import Derived.Test.YtgemnjimgjnlhaaGreatDoorJ1
import Derived.Test.YtgemnjimgjnlhaaGreatDoorDrawAgf
import Derived.Test.YtgemnjimgjnlhaaGreatDoorEndOfMeetingC
import Derived.Test.YtgemnjimgjnlhaaGreatDoorIdleMinutesC
import Derived.Test.YtgemnjimgjnlhaaGreatDoorItemsUntilC
import Derived.Test.YtgemnjimgjnlhaaGreatDoorAgendaTextC
import Derived.Test.YtgemnjimgjnlhaaGreatDoorParseAgendaC
import Derived.Test.YtgemnjimgjnlhaaGreatDoorAppO
namespace Go.Proofs.YtgemnjimgjnlhaaGreatDoor.fnAgendas
open Go.RowKit Bs Word Ag AgT AgP AgW
set_option linter.unusedVariables false
theorem row_kept {k : IntKind} {w w' : World} {a : Option Addr} {len cap : Nat} {zs : List Int} (h : Frame.IsRow k w a len cap zs) (hb : Below w.heap.size w w') : Frame.IsRow k w' a len cap zs := by
  rcases h with h | ⟨x, h1, h2, h3, h4, h5, h6⟩
  · exact .inl h
  · refine .inr ⟨x, h1, h2, h3, h4, fun i hi => ?_, h6⟩
    have hc := h5 i hi
    rw [hb.cell (Cur.cell_lt hc)]
    exact hc
theorem isS_cells {w W : World} {g n c k : Nat} {z : List M} {X : M} (h : IsS LAgendaItem.rec w (.slice (some ⟨g, 0, none⟩) n c) z) (hb : Below w.heap.size w W) (hX : z[k]? = some X) : At LAgendaItem.rec W g (0 + k * LAgendaItem.rec.n) X := by
  obtain ⟨b, o, c', e, hbl, _, _, hc⟩ := h
  simp only [Value.slice.injEq, Option.some.injEq, Addr.mk.injEq] at e
  obtain ⟨⟨rfl, rfl, _⟩, rfl, rfl⟩ := e
  exact (hc k X hX).below LAgendaItem.rec hb hbl
/-- what the four answers are, where they are told -/
theorem told {z : List M} {s : Int} {t0 : List Int} {t1 : Bool} {e0 : Int} {e1 : Bool} {i0 : Int} {i1 : Bool} (hT : ItemTimesC.Ans z s t0 t1) (hE : EndOfMeetingC.Ans z s e0 e1) (hI : IdleMinutesC.Ans z s i0 i1) : e1 = t1 ∧ i1 = t1 ∧ (t1 = true → (goodB z = true ∧ 0 ≤ s ∧ s ≤ 1439) ∧ t0 = begs s z ∧ e0 = fin s z ∧ i0 = fin s z - s - mins z) := by
  unfold ItemTimesC.Ans at hT
  unfold EndOfMeetingC.Ans at hE
  unfold IdleMinutesC.Ans at hI
  cases hg : askB z s with
  | false =>
    rw [ItemTimesC.t_no hg] at hT; rw [EndOfMeetingC.e_no hg] at hE; rw [IdleMinutesC.i_no hg] at hI
    simp only [Prod.mk.injEq] at hT hE hI
    refine ⟨hE.2.symm.trans hT.2, hI.2.symm.trans hT.2, fun h => ?_⟩
    rw [← hT.2] at h; cases h
  | true =>
    rw [ItemTimesC.t_yes hg] at hT; rw [EndOfMeetingC.e_yes hg] at hE; rw [IdleMinutesC.i_yes hg] at hI
    simp only [Prod.mk.injEq] at hT hE hI
    exact ⟨hE.2.symm.trans hT.2, hI.2.symm.trans hT.2, fun _ => ⟨ItemTimesC.ask_parts hg, hT.1.symm, hE.1.symm, hI.1.symm⟩⟩
theorem until_all {z : List M} {s : Int} {u0 : List Int} {u1 : Bool} (h : ItemsUntilC.Ans z s (fin s z) u0 u1) (hg : goodB z = true) (h0 : 0 ≤ s) (h1 : s ≤ 1439) : u1 = true ∧ u0.length = z.length := by
  unfold ItemsUntilC.Ans at h
  have hE := end_small hg h0 h1
  have hs := start_le (s := s) hg z.length (Nat.le_refl _)
  rw [List.take_length] at hs
  have hq : (askB z s && inB (fin s z) s 10000) = true := by
    unfold askB inB
    rw [hg, decide_eq_true ⟨h0, h1⟩, decide_eq_true ⟨hs, by omega⟩]
    rfl
  rw [ItemsUntilC.l_yes hq] at h
  simp only [Prod.mk.injEq] at h
  exact ⟨h.2.symm, by rw [← h.1]; exact pick_all hg⟩
theorem text_ok {z : List M} {s : ByteArray} {b : Bool} (h : AgendaTextC.Ans z s b) : b = goodB z ∧ s.size ≤ 1600 ∧ (b = true → s = AgendaTextC.textM z) := by
  refine ⟨?_, DrawAg.text_short h, ?_⟩
  · rcases h with ⟨g, _, rfl⟩ | ⟨g, _, rfl⟩ <;> rw [g]
  · rintro rfl
    rcases h with ⟨_, h, _⟩ | ⟨_, _, h⟩
    · exact h
    · cases h
theorem below_grown {w W w' : World} (h : Below w.heap.size w W) (hb : Below W.heap.size W w') : Below w.heap.size w w' := h.trans (hb.mono h.size)
set_option maxRecDepth 100000 in
set_option maxHeartbeats 12800000 in
theorem walk (a0 : Option Addr) (len0 cap0 : Nat) (z0 : List Int) (w : World) (sh : w.ShapedOpen Tryz.prog) (vp : Laid.Pow w) (vr : Laid.Err "strconv.ErrRange" w) (vs : Laid.Err "strconv.ErrSyntax" w) (w0 : Frame.IsRow .u8 w a0 len0 cap0 z0) :
    Calls Tryz.prog 4 #[.slice a0 len0 cap0] w fun e w' => e = .returned (.bool true) ∧ Below w.heap.size w w' := by
  have HW0 := Lib.hid w0
  have HVP := Lib.hid vp
  have HVR := Lib.hid vr
  have HVS := Lib.hid vs
  have HVM := Lib.hid (PCutH.Mx.of sh)
  clear w0 sh vp vr vs
  by_cases hbig : 65536 < len0
  · have hd : decide ((65536 : Int) < len0) = true := decide_eq_true (by omega)
    have HR := Lib.hid (AgV.rBig a0 len0 cap0 w)
    rw [hd] at HR
    clear hd
    go_enter Tryz.func4, Tryz.ntmps4
    go_wp2_with fail
    refine HR.out.mono ?_
    rintro e w' ⟨rfl, rfl⟩
    go_wp2_with fail
    go_ret
    exact ⟨rfl, Below.refl _ _⟩
  have hd : decide ((65536 : Int) < len0) = false := decide_eq_false (by omega)
  have hl : len0 ≤ 65536 := by omega
  have HR := Lib.hid (AgV.rBig a0 len0 cap0 w)
  rw [hd] at HR
  clear hd hbig
  go_enter Tryz.func4, Tryz.ntmps4
  go_wp2_with fail
  refine HR.out.mono ?_
  rintro e w' ⟨rfl, rfl⟩
  clear HR
  have HB := Lib.hid (Below.refl w.heap.size w)
  go_wp2_with fail
  refine (DrawAg.drawItemTimes a0 len0 cap0 z0 _ (row_kept HW0.out HB.out) hl).mono ?_
  rintro e w1 ⟨z, g, c, x, rfl, hv, hsh, hzl, hx0, hx1, hb1⟩
  obtain ⟨n, hn⟩ : ∃ n, n = z.length := ⟨_, rfl⟩
  have HN := Lib.hid hn.symm
  have hzb : z.length ≤ 1048576 := by omega
  rw [← hn] at hv hzl ⊢
  have hnl : n ≤ 11 := hzl
  have HV := Lib.hid (Own.isS hv ⟨g, rfl⟩)
  have HF := Lib.hid (DrawAg.short_fine hsh)
  replace HB := Lib.hid (HB.out.trans (hb1.mono HB.out.size))
  clear hv hsh hb1 hn hzl
  go_wp2_with fail
  refine (ItemTimesC.impl _ z x _ HV.out HF.out (by omega)).mono ?_
  rintro e w2 ⟨vt1, t0, t1, rfl, hA, ho, hb1⟩
  replace HV := Lib.hid (IsS.below LAgendaItem.rec HV.out hb1)
  replace HB := Lib.hid (HB.out.trans (hb1.mono HB.out.size))
  clear hb1
  have HAt := Lib.hid hA
  have HOt := Lib.hid ho
  clear hA ho
  go_wp2_with fail
  refine (ItemTimesC.spec _ z x _ HV.out HF.out (by omega)).mono ?_
  rintro e w3 ⟨vt2, q0, q1, rfl, hA, ho, hb1⟩
  replace HV := Lib.hid (IsS.below LAgendaItem.rec HV.out hb1)
  replace HOt := Lib.hid (HOt.out.kept hb1)
  replace HB := Lib.hid (HB.out.trans (hb1.mono HB.out.size))
  clear hb1
  obtain ⟨e5, e6⟩ := ItemTimesC.same HAt.out hA
  subst e5 e6
  have HOt2 := Lib.hid ho.is
  have e2 : (t1 != t1) = false := by simp
  clear hA ho
  go_wp2_with fail
  refine (AgV.rInts vt1 vt2 t0 _ HOt.out.is HOt2.out).mono ?_
  rintro e w4 ⟨rfl, hb1⟩
  replace HV := Lib.hid (IsS.below LAgendaItem.rec HV.out hb1)
  replace HOt := Lib.hid (HOt.out.kept hb1)
  replace HOt2 := Lib.hid (HOt2.out.below LInt.rec hb1)
  replace HB := Lib.hid (HB.out.trans (hb1.mono HB.out.size))
  clear hb1
  clear HOt2
  go_wp2_with fail
  refine (EndOfMeetingC.impl _ z x _ HV.out HF.out (by omega)).mono ?_
  rintro e w5 ⟨r0, r1, rfl, hA, hb1⟩
  replace HV := Lib.hid (IsS.below LAgendaItem.rec HV.out hb1)
  replace HOt := Lib.hid (HOt.out.kept hb1)
  replace HB := Lib.hid (HB.out.trans (hb1.mono HB.out.size))
  clear hb1
  have HAe := Lib.hid hA
  clear hA
  go_wp2_with fail
  refine (IdleMinutesC.impl _ z x _ HV.out HF.out (by omega)).mono ?_
  rintro e w6 ⟨i0, i1, rfl, hA, hb1⟩
  replace HV := Lib.hid (IsS.below LAgendaItem.rec HV.out hb1)
  replace HOt := Lib.hid (HOt.out.kept hb1)
  replace HB := Lib.hid (HB.out.trans (hb1.mono HB.out.size))
  clear hb1
  have HAi := Lib.hid hA
  clear hA
  go_wp2_with fail
  obtain ⟨e5, e6, hTold⟩ := told HAt.out HAe.out HAi.out
  subst e5 e6
  have HTD := Lib.hid hTold
  have e3 : (r0 != r0) = false := by simp
  have e4 : (i0 != i0) = false := by simp
  clear hTold
  refine (EndOfMeetingC.spec _ z x _ HV.out HF.out (by omega)).mono ?_
  rintro e w7 ⟨q0, q1, rfl, hA, hb1⟩
  replace HV := Lib.hid (IsS.below LAgendaItem.rec HV.out hb1)
  replace HOt := Lib.hid (HOt.out.kept hb1)
  replace HB := Lib.hid (HB.out.trans (hb1.mono HB.out.size))
  clear hb1
  obtain ⟨e5, e6⟩ := EndOfMeetingC.same HAe.out hA
  subst e5 e6
  clear hA
  go_wp2_with fail
  refine (IdleMinutesC.spec _ z x _ HV.out HF.out (by omega)).mono ?_
  rintro e w8 ⟨q0, q1, rfl, hA, hb1⟩
  replace HV := Lib.hid (IsS.below LAgendaItem.rec HV.out hb1)
  replace HOt := Lib.hid (HOt.out.kept hb1)
  replace HB := Lib.hid (HB.out.trans (hb1.mono HB.out.size))
  clear hb1
  obtain ⟨e5, e6⟩ := IdleMinutesC.same HAi.out hA
  subst e5 e6
  clear hA
  go_upto_if 111 with fail
  go_cut [] (fun wx => Below w.heap.size w wx)
  case first =>
    cases i1 with
    | false =>
      go_wp2_with fail
      go_meet
      exact HB.out
    | true =>
      obtain ⟨⟨hg, hs0, hs1⟩, ht0, he0, hi0⟩ := HTD.out rfl
      have hip := idle_pos (s := x) hg
      have hes := end_small hg hs0 hs1
      have hms := mins_small hg z.length (Nat.le_refl _)
      rw [List.take_length] at hms
      have HMS := Lib.hid (mins_small hg)
      have hgl := good_len hg
      rw [← hi0] at hip
      rw [← he0] at hes
      have HG := Lib.hid hg
      have HT0 := Lib.hid ht0
      have HE0 := Lib.hid he0
      have HI0 := Lib.hid hi0
      have htl : t0.length = n := by rw [ht0, begs_len]; exact HN.out
      have HTL := Lib.hid htl
      obtain ⟨ta, tn, tc, rfl⟩ := own_slice HOt.out
      have htn := (isq_len HOt.out.isQ).1
      obtain rfl : tn = n := htn.symm.trans htl
      have HI2 := Lib.hid (show i0 + mins z ≤ 4000 by have := HE0.out; have := HI0.out; omega)
      have hi4 : i0 ≤ 4000 := by have := HI2.out; omega
      clear ht0 he0 hi0 hg hms htl htn
      rename_i wq
      go_wp2_with fail
      go_loopw [17, 18] (fun sm i wr => ∃ (k : Nat) (S : Int), k ≤ tn ∧ i = .int .i64 k ∧ sm = .int .i64 S ∧ Hid (S = i0 + mins (z.take k)) ∧ Hid (IsS LAgendaItem.rec wr (.slice (some ⟨g, 0, none⟩) tn c) z) ∧ Hid (Bs.Own LInt.rec 3 wr _ (.slice ta tn tc) t0) ∧ Hid (Below w.heap.size w wr)) (fun _ i _ => tn - (intOf i).toNat)
      case atStart => exact ⟨0, i0, Nat.zero_le _, rfl, rfl, Lib.hid (by rw [List.take_zero]; show i0 = i0 + 0; omega), HV, HOt, HB⟩
      case round =>
        clear HV HOt HB
        obtain ⟨k, S, hk, rfl, rfl, HS, HV, HOt, HB⟩ := hrel
        have hkz : k ≤ z.length := by have := HN.out; omega
        have hmk := HMS.out k hkz
        have hSb : 0 ≤ S ∧ S ≤ 10000 := by have := HS.out; omega
        by_cases hlt : k < tn
        · have hx : k < z.length := by have := HN.out; omega
          have hxt : k < t0.length := by have := HTL.out; omega
          have HX := Lib.hid (List.getElem?_eq_getElem hx)
          have HTk := Lib.hid (List.getElem?_eq_getElem hxt)
          have hbs := beg_start HG.out HX.out (by rw [← HT0.out]; exact HTk.out)
          have hmm := mins_at HG.out HX.out
          have hsn := sum_next (i := i0) HX.out
          obtain ⟨p0, p1, p2, p3⟩ := LAgendaItem.cells (isS_cells HV.out (Below.refl _ _) HX.out)
          have ht := HOt.out
          obtain ⟨gt, ct', e8, _⟩ : ∃ g c, (Value.slice ta tn tc) = .slice (some ⟨g, 0, none⟩) t0.length c ∧ True := by
            rcases ht.shape with ⟨_, h⟩ | ⟨g, c, e, _⟩
            · rw [h] at hxt; simp at hxt
            · exact ⟨g, c, e, trivial⟩
          simp only [Value.slice.injEq] at e8
          obtain ⟨rfl, he9, rfl⟩ := e8
          clear he9
          have pt := LInt.cells (Bs.Own.at_ HOt.out k _ HTk.out)
          simp only [LInt.rec_n, Nat.mul_one] at pt
          simp only [LAgendaItem.rec_n, Nat.zero_add] at p2 p3
          have k0 : 0 ≤ (k : Int) := by omega
          have k1 : (k : Int) < (tn : Int) := by omega
          have t1 : IntKind.i64.wrap (S + z[k].mins) = S + z[k].mins := IntWalk.i64_in _ (by omega)
          have HS2 := Lib.hid (show S + z[k].mins = i0 + mins (z.take (k + 1)) by rw [HS.out]; exact hsn)
          clear p0 p1 ht hsn
          go_upto_region 22 with fail
          go_cut [166] (fun tq wx => tq = .bool false ∧ Below wr.heap.size wr wx)
          case first =>
            clear HS2 t1 HS hSb hmk p2
            rcases Nat.eq_zero_or_pos k with hk0 | hk0
            · generalize z[k] = X at *
              generalize t0[k] = b at *
              have d1 : ¬ b < x := by omega
              have d2 : ¬ b < X.time := by omega
              have d3 : ¬ (0 : Int) < (k : Int) := by omega
              have d3n : ¬ 0 < k := by omega
              clear hk0 HX HTk HV HOt HB HMS HE0 HI0 HT0 HTL HI2
              go_quiet (fail)
              go_wp2_with fail
              go_meet
              exact ⟨rfl, drawn_below _ _⟩
            · obtain ⟨j, hj⟩ : ∃ j, k = j + 1 := ⟨k - 1, by omega⟩
              have hxj : j < z.length := by omega
              have hxtj : j < t0.length := by omega
              have HXj := Lib.hid (List.getElem?_eq_getElem hxj)
              have HTj := Lib.hid (List.getElem?_eq_getElem hxtj)
              have HX1 := Lib.hid (show z[j + 1]? = some z[k] by rw [← hj]; exact HX.out)
              have HTk1 := Lib.hid (show t0[j + 1]? = some t0[k] by rw [← hj]; exact HTk.out)
              have hbn := beg_next HXj.out HX1.out (by rw [← HT0.out]; exact HTj.out) (by rw [← HT0.out]; exact HTk1.out)
              have hmj := mins_at HG.out HXj.out
              have hdb : t0[j] ≤ 4000 := by
                have h := begs_at (s := x) HXj.out
                rw [← HT0.out, HTj.out] at h
                have h2 := (begin_small HG.out hs0 hs1 HXj.out).2
                have h3 := Option.some.inj h
                omega
              have hbj := beg_start HG.out HXj.out (by rw [← HT0.out]; exact HTj.out)
              obtain ⟨r0', r1', r2', r3'⟩ := LAgendaItem.cells (isS_cells HV.out (Below.refl _ _) HXj.out)
              have ptj := LInt.cells (Bs.Own.at_ HOt.out j _ HTj.out)
              simp only [LInt.rec_n, Nat.mul_one] at ptj
              simp only [LAgendaItem.rec_n, Nat.zero_add] at r2'
              clear r0' r1' r3'
              generalize z[k] = X at *
              generalize t0[k] = b at *
              generalize z[j] = Y at *
              generalize t0[j] = d at *
              have d1 : ¬ b < x := by omega
              have d2 : ¬ b < X.time := by omega
              have d3 : (0 : Int) < (k : Int) := by omega
              have d3n : 0 < k := by omega
              have t2 : IntKind.i64.wrap ((k : Int) - 1) = (j : Int) := by rw [IntWalk.i64_in _ (by omega)]; omega
              have t3 : IntKind.i64.wrap (d + Y.mins) = d + Y.mins := IntWalk.i64_in _ (by omega)
              have d4 : ¬ b < d + Y.mins := by omega
              have k2 : (j : Int) < (tn : Int) := by omega
              have k3 : 0 ≤ (j : Int) := by omega
              clear hj hk0 HX HTk HXj HTj HX1 HTk1 HV HOt HB HMS HE0 HI0 HT0 HTL HI2
              go_quiet (fail)
              go_wp2_with fail
              go_meet
              exact ⟨rfl, drawn_below _ _⟩
          case rest =>
          obtain ⟨rfl, hb2⟩ := hcut
          have HB2 := Lib.hid (HB.out.trans (hb2.mono HB.out.size))
          have HO2 := Lib.hid (HOt.out.kept hb2)
          have HV2 := Lib.hid (IsS.below LAgendaItem.rec HV.out hb2)
          clear pt p2 p3 hb2
          go_wp2_with fail
          go_roundw
          case rel => exact ⟨k + 1, _, by omega, by go_num, rfl, HS2, HV2, HO2, HB2⟩
          case measure => simp [intOf]; omega
        · obtain rfl : k = tn := by omega
          have hSe : x + S = r0 := by rw [HS.out, HI0.out, HE0.out, List.take_of_length_le (by have := HN.out; omega)]; omega
          have t1 : IntKind.i64.wrap (x + S) = r0 := by rw [IntWalk.i64_in _ (by omega)]; exact hSe
          have j1 : ¬ (k : Int) < (k : Int) := by omega
          have d1 : ¬ i0 < 0 := by omega
          have d2 : r0 ≤ 10000 := by omega
          go_wp2_with fail
          refine (ItemsUntilC.impl _ z x r0 _ HV.out HF.out (by omega)).mono ?_
          rintro e wu ⟨vu, u0, u1, rfl, hA, ho, hb1⟩
          obtain ⟨rfl, hul⟩ := until_all (by rw [← HE0.out]; exact hA) HG.out hs0 hs1
          obtain ⟨ua, un, uc, rfl⟩ := own_slice ho
          have hun := (isq_len ho.isQ).1
          obtain rfl : un = k := by have := HN.out; omega
          replace HB := Lib.hid (HB.out.trans (hb1.mono HB.out.size))
          have e9 : (r0 != r0) = false := by simp
          have e10 : ((un : Int) != (un : Int)) = false := by simp
          clear hA ho hb1 hun hul
          go_wp2_with fail
          go_meet
          exact HB.out
  case rest =>
  have HB := Lib.hid hcut
  clear hcut HTD HAt HAe HAi HOt HV HF HN hzb hnl hx0 hx1 e2 e3 e4
  go_wp2_with fail
  refine (DrawAg.drawAgendaText a0 len0 cap0 z0 _ (row_kept HW0.out HB.out) hl).mono ?_
  rintro e wo1 ⟨za, ga, ca, rfl, hv, hsh, hzl, hb1⟩
  obtain ⟨na, hn⟩ : ∃ n, n = za.length := ⟨_, rfl⟩
  have HNa := Lib.hid hn.symm
  have hzba : za.length ≤ 1048576 := by omega
  rw [← hn] at hv hzl ⊢
  have hnla : na ≤ 11 := hzl
  have HVa := Lib.hid (Own.isS hv ⟨ga, rfl⟩)
  have HFa := Lib.hid (DrawAg.short_fine hsh)
  replace HB := Lib.hid (HB.out.trans (hb1.mono HB.out.size))
  clear hv hsh hb1 hn hzl
  go_wp2_with fail
  refine (AgendaTextC.impl _ za _ HVa.out HFa.out (by omega) (HVP.out.below HB.out)).mono ?_
  rintro e wo2 ⟨s0, s1, rfl, hA, hb1⟩
  replace HVa := Lib.hid (IsS.below LAgendaItem.rec HVa.out hb1)
  replace HB := Lib.hid (HB.out.trans (hb1.mono HB.out.size))
  clear hb1
  have HAs := Lib.hid hA
  clear hA
  go_wp2_with fail
  refine (AgendaTextC.spec _ za _ HVa.out HFa.out (by omega)).mono ?_
  rintro e wo3 ⟨q0, q1, rfl, hA, hb1⟩
  replace HVa := Lib.hid (IsS.below LAgendaItem.rec HVa.out hb1)
  replace HB := Lib.hid (HB.out.trans (hb1.mono HB.out.size))
  clear hb1
  obtain ⟨e5, e6⟩ := AgendaTextC.same HAs.out hA
  subst e5 e6
  clear hA
  obtain ⟨hs1, hsz, hst⟩ := text_ok HAs.out
  have HST := Lib.hid hst
  have e7 : (s1 != s1) = false := by simp
  have e8 : (s0.toList == s0.toList) = true := by simp
  clear hst
  go_wp2_with fail
  refine (AgI.isValidAgenda _ za _ (IsS.is LAgendaItem.rec HVa.out) HFa.out).mono ?_
  rintro e wo4 ⟨rfl, hb1⟩
  replace HVa := Lib.hid (IsS.below LAgendaItem.rec HVa.out hb1)
  replace HB := Lib.hid (HB.out.trans (hb1.mono HB.out.size))
  clear hb1
  rw [← hs1]
  have HS1 := Lib.hid hs1
  clear hs1
  go_wp2_with fail
  refine (ParseAgendaC.impl s0 _ (by omega) (HVP.out.below HB.out) (HVR.out.below HB.out) (HVS.out.below HB.out) (HVM.out.below HB.out)).mono ?_
  rintro e wo5 ⟨vp1, p0, p1, rfl, hA, ho, hb1⟩
  replace HVa := Lib.hid (IsS.below LAgendaItem.rec HVa.out hb1)
  replace HB := Lib.hid (HB.out.trans (hb1.mono HB.out.size))
  clear hb1
  have HAp := Lib.hid hA
  have HOp := Lib.hid ho
  clear hA ho
  go_upto_region 33 with fail
  go_cut [239] (fun tt wx => tt = .bool false ∧ Below w.heap.size w wx)
  case first =>
    cases s1 with
    | false =>
      go_wp2_with fail
      go_meet
      exact ⟨rfl, HB.out⟩
    | true =>
      obtain ⟨hp0, hp1⟩ := ParseAgendaC.same HAp.out (PAgL.ans_yes HS1.out.symm (HST.out rfl).symm)
      subst hp0 hp1
      go_wp2_with fail
      refine (AgV.rAgendas vp1 _ _ _ HOp.out.is (IsS.is LAgendaItem.rec HVa.out)).mono ?_
      rintro e wy ⟨rfl, hb1⟩
      replace HB := Lib.hid (HB.out.trans (hb1.mono HB.out.size))
      clear hb1
      go_wp2_with fail
      go_meet
      exact ⟨rfl, HB.out⟩
  case rest =>
  obtain ⟨rfl, hb1⟩ := hcut
  have HB := Lib.hid hb1
  clear hb1
  go_wp2_with fail
  refine (DrawAg.drawParseAgenda a0 len0 cap0 z0 _ (row_kept HW0.out HB.out) hl).mono ?_
  rintro e wq1 ⟨t, rfl, hts, hb1⟩
  replace HB := Lib.hid (HB.out.trans (hb1.mono HB.out.size))
  clear hb1
  go_wp2_with fail
  refine (ParseAgendaC.impl t _ (by omega) (HVP.out.below HB.out) (HVR.out.below HB.out) (HVS.out.below HB.out) (HVM.out.below HB.out)).mono ?_
  rintro e wq2 ⟨vg1, g0, g1, rfl, hA, ho, hb1⟩
  replace HB := Lib.hid (HB.out.trans (hb1.mono HB.out.size))
  clear hb1
  have HAg := Lib.hid hA
  have HOg := Lib.hid ho
  clear hA ho
  go_wp2_with fail
  refine (ParseAgendaC.spec t _ (by omega)).mono ?_
  rintro e wq3 ⟨vg2, q0, q1, rfl, hA, ho, hb1⟩
  replace HOg := Lib.hid (HOg.out.kept hb1)
  replace HB := Lib.hid (HB.out.trans (hb1.mono HB.out.size))
  clear hb1
  obtain ⟨e5, e6⟩ := ParseAgendaC.same HAg.out hA
  subst e5 e6
  have HOg2 := Lib.hid ho.is
  have e2 : (g1 == g1) = true := by simp
  clear hA ho
  go_wp2_with fail
  refine (AgV.rAgendas vg1 vg2 g0 _ HOg.out.is HOg2.out).mono ?_
  rintro e wq4 ⟨rfl, hb1⟩
  replace HOg := Lib.hid (HOg.out.kept hb1)
  replace HOg2 := Lib.hid (HOg2.out.below LAgendaItem.rec hb1)
  replace HB := Lib.hid (HB.out.trans (hb1.mono HB.out.size))
  clear hb1
  go_wp2_with fail
  go_ret
  exact ⟨rfl, HB.out⟩
end Go.Proofs.YtgemnjimgjnlhaaGreatDoor.fnAgendas
