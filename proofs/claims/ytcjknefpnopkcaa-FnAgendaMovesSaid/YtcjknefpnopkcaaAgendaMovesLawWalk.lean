/- FnAgendaMoves: the law's walk, for every code. -/
import Derived.Test.YtcjknefpnopkcaaAgV
import Derived.Test.YtcjknefpnopkcaaAgMw
import Derived.Test.YtcjknefpnopkcaaDrawAga
import Derived.Test.YtcjknefpnopkcaaLateItemsC
import Derived.Test.YtcjknefpnopkcaaItemsUntilC
import Derived.Test.YtcjknefpnopkcaaFrame
namespace Go.Proofs.Ytcjknefpnopkcaa.fnAgendaMoves
open Go.RowKit Bs Word Ag AgF Sq MoveItemC AgMw
set_option linter.unusedVariables false
theorem row_kept {k : IntKind} {w w' : World} {a : Option Addr} {len cap : Nat} {zs : List Int} (h : Frame.IsRow k w a len cap zs) (hb : Below w.heap.size w w') : Frame.IsRow k w' a len cap zs := by
  rcases h with h | ⟨x, h1, h2, h3, h4, h5, h6⟩
  · exact .inl h
  · refine .inr ⟨x, h1, h2, h3, h4, fun i hi => ?_, h6⟩
    have hc := h5 i hi
    rw [hb.cell (Cur.cell_lt hc)]
    exact hc
theorem isS_cells {w W : World} {g n c k : Nat} {z : List M} {X : M} (h : IsS LAgendaItem.rec w (.slice (some ⟨g, 0, none⟩) n c) z) (hb : Below w.heap.size w W) (hX : z[k]? = some X) : At LAgendaItem.rec W g (0 + k * LAgendaItem.rec.n) X := by
  obtain ⟨b, o, c', e, hbl, _, _, hc⟩ := h
  simp only [Value.slice.injEq, Option.some.injEq, Addr.mk.injEq] at e
  obtain ⟨⟨rfl, rfl, _⟩, rfl, rfl⟩ := e
  exact (hc k X hX).below LAgendaItem.rec hb hbl
theorem below_grown {w W w' : World} (h : Below w.heap.size w W) (hb : Below W.heap.size W w') : Below w.heap.size w w' := h.trans (hb.mono h.size)
set_option maxRecDepth 100000 in
set_option maxHeartbeats 12800000 in
theorem walk (a0 : Option Addr) (len0 cap0 : Nat) (z0 : List Int) (w : World) (sh : w.ShapedOpen Try.prog) (w0 : Frame.IsRow .u8 w a0 len0 cap0 z0) :
    Calls Try.prog 6 #[.slice a0 len0 cap0] w fun e w' => e = .returned (.bool true) ∧ Below w.heap.size w w' := by
  have HW0 := Lib.hid w0
  clear w0 sh
  by_cases hbig : 65536 < len0
  · have hd : decide ((65536 : Int) < len0) = true := decide_eq_true (by omega)
    have HR := Lib.hid (AgV.rBig a0 len0 cap0 w)
    rw [hd] at HR
    clear hd
    go_enter Try.func6, Try.ntmps6
    go_wp2_with fail
    refine HR.out.mono ?_
    rintro e w' ⟨rfl, rfl⟩
    go_wp2_with fail
    go_ret
    exact ⟨rfl, Below.refl _ _⟩
  have hd : decide ((65536 : Int) < len0) = false := decide_eq_false (by omega)
  have hl : len0 ≤ 65536 := by omega
  have HR := Lib.hid (AgV.rBig a0 len0 cap0 w)
  rw [hd] at HR
  clear hd hbig
  go_enter Try.func6, Try.ntmps6
  go_wp2_with fail
  refine HR.out.mono ?_
  rintro e w' ⟨rfl, rfl⟩
  clear HR
  have HB := Lib.hid (Below.refl w.heap.size w)
  go_wp2_with fail
  refine (DrawAg.drawMoveItem a0 len0 cap0 z0 _ (row_kept HW0.out HB.out) hl).mono ?_
  rintro e w1 ⟨z, g, c, x, y, rfl, hv, hsh, hzl, hy0, hy1, hb1⟩
  obtain ⟨n, hn⟩ : ∃ n, n = z.length := ⟨_, rfl⟩
  have HN := Lib.hid hn.symm
  have hzb : z.length ≤ 1048576 := by omega
  rw [← hn] at hv hzl ⊢
  have hnl : n ≤ 11 := hzl
  have HV := Lib.hid (Own.isS hv ⟨g, rfl⟩)
  have HF := Lib.hid (DrawAg.short_fine hsh)
  replace HB := Lib.hid (HB.out.trans (hb1.mono HB.out.size))
  clear hv hsh hb1 hn hzl
  go_wp2_with fail
  refine (MoveItemC.impl _ z x y _ HV.out HF.out (by omega)).mono ?_
  rintro e w2 ⟨vp1, p0, p1, rfl, hA, ho, hb1⟩
  replace HV := Lib.hid (IsS.below LAgendaItem.rec HV.out hb1)
  replace HB := Lib.hid (HB.out.trans (hb1.mono HB.out.size))
  clear hb1
  have HAp := Lib.hid hA
  have HOp := Lib.hid ho
  clear hA ho
  go_wp2_with fail
  refine (MoveItemC.spec _ z x y _ HV.out HF.out (by omega)).mono ?_
  rintro e w3 ⟨vp2, t0, t1, rfl, hA, ho, hb1⟩
  replace HV := Lib.hid (IsS.below LAgendaItem.rec HV.out hb1)
  replace HOp := Lib.hid (HOp.out.kept hb1)
  replace HB := Lib.hid (HB.out.trans (hb1.mono HB.out.size))
  clear hb1
  obtain ⟨e5, e6⟩ := MoveItemC.same HAp.out hA
  subst e5 e6
  have HOp2 := Lib.hid ho.is
  have e2 : (p1 != p1) = false := by simp
  have e3 : (p1 == p1) = true := by simp
  clear hA ho
  go_wp2_with fail
  refine (AgV.rAgendas vp1 vp2 p0 _ HOp.out.is HOp2.out).mono ?_
  rintro e w4 ⟨rfl, hb1⟩
  replace HV := Lib.hid (IsS.below LAgendaItem.rec HV.out hb1)
  replace HOp := Lib.hid (HOp.out.kept hb1)
  replace HOp2 := Lib.hid (HOp2.out.below LAgendaItem.rec hb1)
  replace HB := Lib.hid (HB.out.trans (hb1.mono HB.out.size))
  clear hb1
  clear HOp2
  clear e2 e3
  go_upto_if 64 with fail
  go_cut [10] (fun s10 wx => Below w.heap.size w wx)
  case first =>
    cases p1 with
    | false =>
      go_wp2_with fail
      go_meet
      exact HB.out
    | true =>
      obtain ⟨t, k, X, rfl, hm⟩ := told HAp.out
      have HM := Lib.hid hm
      have hlen := hm.len
      have hkn : k < n := by have := (List.getElem?_eq_some_iff.1 hm.at_).1; have := HN.out; omega
      have htn : t < n := by have := hm.tl; have := HN.out; omega
      have hti : (t : Int) < (n : Int) := by omega
      have hti0 : (0 : Int) ≤ (t : Int) := by omega
      have HFp := Lib.hid (hm.fine HF.out)
      have hpb : p0.length ≤ 1048576 := by omega
      obtain ⟨gp, cp, e8, _, _, hcp, hcm⟩ := DrawAg.own_somed HOp.out (by have := HN.out; omega)
      rw [hlen, HN.out] at e8 hcp
      subst e8
      have HSp := Lib.hid (HOp.out.isS ⟨gp, rfl⟩)
      clear hlen hm hcm
      go_wp2_with fail
      go_loop [10, 11] (fun u i => ∃ j f : Nat, j ≤ n ∧ i = .int .i64 j ∧ u = .int .i64 f ∧ Hid (f = if k < j then k else 0)) (fun _ i => n - (intOf i).toNat)
      case atStart => exact ⟨0, 0, Nat.zero_le _, rfl, rfl, Lib.hid (by simp)⟩
      case round =>
      obtain ⟨j, f, hj, rfl, rfl, HFj⟩ := hrel
      by_cases hlt : j < n
      · have hx : j < z.length := by have := HN.out; omega
        have HY := List.getElem?_eq_getElem hx
        obtain ⟨q0, q1, q2, q3⟩ := LAgendaItem.cells (isS_cells HV.out (Below.refl _ _) HY)
        simp only [LAgendaItem.rec_n, Nat.zero_add] at q0
        have hon := HM.out.only HY
        clear q1 q2 q3 HY
        generalize z[j] = Y at *
        have k0 : 0 ≤ (j : Int) := by omega
        have k1 : (j : Int) < (n : Int) := by omega
        by_cases hjk : j = k
        · have e9 : (Y.id == x) = true := by rw [hon]; simpa using hjk
          have HJ := Lib.hid hjk
          clear hon hjk
          go_wp2_with fail
          go_round
          case rel => exact ⟨j + 1, j, by omega, by go_num, rfl, Lib.hid (by have := HJ.out; rw [if_pos (by omega)]; exact this)⟩
          case measure => simp [intOf]; omega
        · have e9 : (Y.id == x) = false := by rw [hon]; simpa using hjk
          clear hon
          go_wp2_with fail
          go_round
          case rel => exact ⟨j + 1, f, by omega, by go_num, rfl, Lib.hid (by rw [HFj.out]; split <;> split <;> omega)⟩
          case measure => simp [intOf]; omega
      have hfk : f = k := by rw [HFj.out, if_pos (by omega)]
      subst hfk
      clear HFj
      have k1 : ¬ (j : Int) < (n : Int) := by omega
      go_wp2_with fail
      refine (MoveItemC.impl _ p0 x (f : Int) _ HSp.out HFp.out (by omega)).mono ?_
      rintro e wi1 ⟨vb1, b0, b1, rfl, hA, ho, hb1⟩
      replace HV := Lib.hid (IsS.below LAgendaItem.rec HV.out hb1)
      replace HOp := Lib.hid (HOp.out.kept hb1)
      replace HSp := Lib.hid (IsS.below LAgendaItem.rec HSp.out hb1)
      replace HB := Lib.hid (HB.out.trans (hb1.mono HB.out.size))
      clear hb1
      have e5 := HM.out.back.symm.trans hA
      simp only [Prod.mk.injEq] at e5
      obtain ⟨e5, e6⟩ := e5
      subst e5 e6
      have HOb := Lib.hid ho
      clear hA ho
      obtain ⟨q0, q1, q2, q3⟩ := LAgendaItem.cells (isS_cells HSp.out (Below.refl _ _) HM.out.there)
      simp only [LAgendaItem.rec_n, Nat.zero_add] at q0
      have e9 : (X.id != x) = false := by rw [HM.out.id_]; simp
      clear q1 q2 q3
      go_wp2_with fail
      refine (AgV.rAgendas vb1 _ z _ HOb.out.is (IsS.is LAgendaItem.rec HV.out)).mono ?_
      rintro e wi2 ⟨rfl, hb1⟩
      replace HV := Lib.hid (IsS.below LAgendaItem.rec HV.out hb1)
      replace HOp := Lib.hid (HOp.out.kept hb1)
      replace HSp := Lib.hid (IsS.below LAgendaItem.rec HSp.out hb1)
      replace HOb := Lib.hid (HOb.out.kept hb1)
      replace HB := Lib.hid (HB.out.trans (hb1.mono HB.out.size))
      clear hb1
      go_wp2_with fail
      go_meet
      exact HB.out
  case rest =>
  have HB := Lib.hid hcut
  clear HAp HF hzb hnl HV HOp HN hcut hy0 hy1
  go_wp2_with fail
  refine (DrawAg.drawOrderItems a0 len0 cap0 z0 _ (row_kept HW0.out HB.out) hl).mono ?_
  rintro e wo1 ⟨za, ga, ca, rfl, hv, hsh, hzl, hb1⟩
  obtain ⟨na, hn⟩ : ∃ n, n = za.length := ⟨_, rfl⟩
  have HNa := Lib.hid hn.symm
  have hzba : za.length ≤ 1048576 := by omega
  rw [← hn] at hv hzl ⊢
  have hnla : na ≤ 11 := hzl
  have HVa := Lib.hid (Own.isS hv ⟨ga, rfl⟩)
  have HFa := Lib.hid (DrawAg.short_fine hsh)
  replace HB := Lib.hid (HB.out.trans (hb1.mono HB.out.size))
  clear hv hsh hb1 hn hzl
  go_wp2_with fail
  refine (OrderItemsC.impl _ za _ HVa.out HFa.out (by omega)).mono ?_
  rintro e wo2 ⟨vo1, o0, o1, rfl, hA, ho, hb1⟩
  replace HVa := Lib.hid (IsS.below LAgendaItem.rec HVa.out hb1)
  replace HB := Lib.hid (HB.out.trans (hb1.mono HB.out.size))
  clear hb1
  have HAo := Lib.hid hA
  have HOo := Lib.hid ho
  clear hA ho
  go_wp2_with fail
  refine (OrderItemsC.spec _ za _ HVa.out HFa.out (by omega)).mono ?_
  rintro e wo3 ⟨vo2, t0, t1, rfl, hA, ho, hb1⟩
  replace HVa := Lib.hid (IsS.below LAgendaItem.rec HVa.out hb1)
  replace HOo := Lib.hid (HOo.out.kept hb1)
  replace HB := Lib.hid (HB.out.trans (hb1.mono HB.out.size))
  clear hb1
  obtain ⟨e5, e6⟩ := OrderItemsC.same HAo.out hA
  subst e5 e6
  have HOo2 := Lib.hid ho.is
  have e2 : (o1 != o1) = false := by simp
  have e3 : (o1 == o1) = true := by simp
  clear hA ho
  obtain ⟨m, hm⟩ : ∃ m, m = o0.length := ⟨_, rfl⟩
  have HM := Lib.hid hm.symm
  obtain ⟨ao, co, e8⟩ : ∃ a c, vo1 = .slice a m c := by
    obtain ⟨a, c, e, _⟩ := HOo.out.is
    rw [← hm] at e
    exact ⟨a, c, e⟩
  subst e8
  have hord := ordered HAo.out
  have hml : o1 = true → m = na := fun e => by have := hord.1 e; have := HNa.out; omega
  have HOrd := Lib.hid hord.2
  have hmb : m ≤ 1048576 := by have := OrderItemsC.len0 HAo.out; omega
  clear hm hord
  go_upto_region 21 with fail
  go_cut [133] (fun tt wx => tt = .bool false ∧ Below wo3.heap.size wo3 wx)
  case first =>
    cases o1 with
    | false =>
      clear hml
      go_wp2_with fail
      refine (AgV.rAgendas _ vo2 o0 _ HOo.out.is HOo2.out).mono ?_
      rintro e wy ⟨rfl, hb1⟩
      have HB1 := Lib.hid hb1
      clear hb1
      go_wp2_with fail
      go_meet
      exact ⟨rfl, HB1.out⟩
    | true =>
      have hmn : ((m : Int) != (na : Int)) = false := by rw [hml rfl]; simp
      clear hml
      go_wp2_with fail
      refine (AgV.rAgendas _ vo2 o0 _ HOo.out.is HOo2.out).mono ?_
      rintro e wy ⟨rfl, hb1⟩
      have HB1 := Lib.hid hb1
      clear hb1
      go_wp2_with fail
      go_meet
      exact ⟨rfl, HB1.out⟩
  case rest =>
  obtain ⟨rfl, hb1⟩ := hcut
  replace HVa := Lib.hid (IsS.below LAgendaItem.rec HVa.out hb1)
  replace HOo := Lib.hid (HOo.out.kept hb1)
  replace HOo2 := Lib.hid (HOo2.out.below LAgendaItem.rec hb1)
  replace HB := Lib.hid (HB.out.trans (hb1.mono HB.out.size))
  clear hb1 HOo2 HVa HNa HFa HAo hzba hnla e2 e3 hml
  rename_i wq
  go_wp2_with fail
  go_loopw [19] (fun i wr => ∃ j : Nat, 1 ≤ j ∧ (j ≤ m ∨ j = 1) ∧ i = .int .i64 j ∧ Hid (Own LAgendaItem.rec 61 wr _ (.slice ao m co) o0) ∧ Hid (Below w.heap.size w wr)) (fun i _ => m - (intOf i).toNat)
  case atStart => exact ⟨1, Nat.le_refl _, .inr rfl, rfl, HOo, HB⟩
  case round =>
  clear HOo HB
  obtain ⟨j, hj1, hj2, rfl, HOo, HB⟩ := hrel
  by_cases hlt : j < m
  · have hx : j < o0.length := by have := HM.out; omega
    have hx1 : j - 1 < o0.length := by omega
    have HY := List.getElem?_eq_getElem hx
    have HX := List.getElem?_eq_getElem hx1
    have hle := HOrd.out (j - 1) _ _ HX (by rw [show j - 1 + 1 = j by omega]; exact HY)
    obtain ⟨go, co', e8, _, hgo, _, _⟩ := DrawAg.own_somed HOo.out (by omega)
    rw [HM.out] at e8
    simp only [Value.slice.injEq] at e8
    obtain ⟨rfl, _, rfl⟩ := e8
    obtain ⟨q0, q1, q2, q3⟩ := LAgendaItem.cells (Own.at_ HOo.out j _ HY)
    obtain ⟨r0, r1, r2, r3⟩ := LAgendaItem.cells (Own.at_ HOo.out (j - 1) _ HX)
    simp only [LAgendaItem.rec_n] at q3 r3
    generalize o0[j] = Y at *
    generalize o0[j - 1] = X at *
    have hd : decide (Y.time < X.time) = false := decide_eq_false (by omega)
    have k0 : 0 ≤ (j : Int) := by omega
    have k1 : (j : Int) < (m : Int) := by omega
    have k2 : IntKind.i64.wrap ((j : Int) - 1) = ((j - 1 : Nat) : Int) := by rw [show (j : Int) - 1 = ((j - 1 : Nat) : Int) by omega]; exact IntWalk.i64_in _ (by omega)
    have k3 : ((j - 1 : Nat) : Int) < (m : Int) := by omega
    have k4 : j - 1 < m := by omega
    clear q0 q1 q2 r0 r1 r2 HX HY hle
    go_wp2_with fail
    go_quiet (fail)
    have HB2 := Lib.hid (show Below w.heap.size w (wr.drewN nq) from HB.out.trans ((drawn_below _ _).mono HB.out.size))
    have HO2 := Lib.hid (HOo.out.kept (show Below wr.heap.size wr (wr.drewN nq) from drawn_below _ _))
    go_wp2_with fail
    go_roundw
    case rel => exact ⟨j + 1, by omega, .inl (by omega), by go_num, HO2, HB2⟩
    case measure => simp [intOf]; omega
  have k1 : ¬ (j : Int) < (m : Int) := by omega
  go_wp2_with fail
  clear HOo k1
  refine (DrawAg.drawLateItems a0 len0 cap0 z0 _ (row_kept HW0.out HB.out) hl).mono ?_
  rintro e wo4 ⟨zb, gb, cb, x, rfl, hv, hsh, hzl, hx0, hx1, hb1⟩
  obtain ⟨nb, hn⟩ : ∃ n, n = zb.length := ⟨_, rfl⟩
  have HNb := Lib.hid hn.symm
  have hzbb : zb.length ≤ 1048576 := by omega
  rw [← hn] at hv hzl ⊢
  have hnlb : nb ≤ 11 := hzl
  have HVb := Lib.hid (Own.isS hv ⟨gb, rfl⟩)
  have HFb := Lib.hid (DrawAg.short_fine hsh)
  replace HB := Lib.hid (HB.out.trans (hb1.mono HB.out.size))
  clear hv hsh hb1 hn hzl
  go_wp2_with fail
  refine (LateItemsC.impl _ zb x _ HVb.out HFb.out (by omega)).mono ?_
  rintro e wo5 ⟨vl1, l0, l1, rfl, hA, ho, hb1⟩
  replace HVb := Lib.hid (IsS.below LAgendaItem.rec HVb.out hb1)
  replace HB := Lib.hid (HB.out.trans (hb1.mono HB.out.size))
  clear hb1
  have HAl := Lib.hid hA
  have HOl := Lib.hid ho
  clear hA ho
  go_wp2_with fail
  refine (LateItemsC.spec _ zb x _ HVb.out HFb.out (by omega)).mono ?_
  rintro e wo6 ⟨vl2, t0, t1, rfl, hA, ho, hb1⟩
  replace HVb := Lib.hid (IsS.below LAgendaItem.rec HVb.out hb1)
  replace HOl := Lib.hid (HOl.out.kept hb1)
  replace HB := Lib.hid (HB.out.trans (hb1.mono HB.out.size))
  clear hb1
  obtain ⟨e5, e6⟩ := LateItemsC.same HAl.out hA
  subst e5 e6
  have HOl2 := Lib.hid ho.is
  have e2 : (l1 != l1) = false := by simp
  have e3 : (l1 == l1) = true := by simp
  clear hA ho
  go_wp2_with fail
  refine (AgV.rInts vl1 vl2 l0 _ HOl.out.is HOl2.out).mono ?_
  rintro e wo7 ⟨rfl, hb1⟩
  replace HVb := Lib.hid (IsS.below LAgendaItem.rec HVb.out hb1)
  replace HOl := Lib.hid (HOl.out.kept hb1)
  replace HOl2 := Lib.hid (HOl2.out.below LInt.rec hb1)
  replace HB := Lib.hid (HB.out.trans (hb1.mono HB.out.size))
  clear hb1
  clear HOl2
  clear e2 e3
  clear HAl HOl
  clear HVb
  go_wp2_with fail
  refine (DrawAg.drawItemsUntil a0 len0 cap0 z0 _ (row_kept HW0.out HB.out) hl).mono ?_
  rintro e wo8 ⟨zd, gd, cd, xs, ys, rfl, hv, hsh, hzl, hx2, hx3, hy2, hy3, hb1⟩
  obtain ⟨nd, hn⟩ : ∃ n, n = zd.length := ⟨_, rfl⟩
  have HNd := Lib.hid hn.symm
  have hzbd : zd.length ≤ 1048576 := by omega
  rw [← hn] at hv hzl ⊢
  have hnld : nd ≤ 11 := hzl
  have HVd := Lib.hid (Own.isS hv ⟨gd, rfl⟩)
  have HFd := Lib.hid (DrawAg.short_fine hsh)
  replace HB := Lib.hid (HB.out.trans (hb1.mono HB.out.size))
  clear hv hsh hb1 hn hzl
  go_wp2_with fail
  refine (ItemsUntilC.impl _ zd xs ys _ HVd.out HFd.out (by omega)).mono ?_
  rintro e wo9 ⟨vu1, u0, u1, rfl, hA, ho, hb1⟩
  replace HVd := Lib.hid (IsS.below LAgendaItem.rec HVd.out hb1)
  replace HB := Lib.hid (HB.out.trans (hb1.mono HB.out.size))
  clear hb1
  have HAu := Lib.hid hA
  have HOu := Lib.hid ho
  clear hA ho
  go_wp2_with fail
  refine (ItemsUntilC.spec _ zd xs ys _ HVd.out HFd.out (by omega)).mono ?_
  rintro e wo10 ⟨vu2, t0, t1, rfl, hA, ho, hb1⟩
  replace HVd := Lib.hid (IsS.below LAgendaItem.rec HVd.out hb1)
  replace HOu := Lib.hid (HOu.out.kept hb1)
  replace HB := Lib.hid (HB.out.trans (hb1.mono HB.out.size))
  clear hb1
  obtain ⟨e5, e6⟩ := ItemsUntilC.same HAu.out hA
  subst e5 e6
  have HOu2 := Lib.hid ho.is
  have e2 : (u1 != u1) = false := by simp
  have e3 : (u1 == u1) = true := by simp
  clear hA ho
  go_wp2_with fail
  refine (AgV.rInts vu1 vu2 u0 _ HOu.out.is HOu2.out).mono ?_
  rintro e wo11 ⟨rfl, hb1⟩
  replace HVd := Lib.hid (IsS.below LAgendaItem.rec HVd.out hb1)
  replace HOu := Lib.hid (HOu.out.kept hb1)
  replace HOu2 := Lib.hid (HOu2.out.below LInt.rec hb1)
  replace HB := Lib.hid (HB.out.trans (hb1.mono HB.out.size))
  clear hb1
  clear HOu2
  clear e2 e3
  go_wp2_with fail
  go_ret
  exact ⟨rfl, HB.out⟩
end Go.Proofs.Ytcjknefpnopkcaa.fnAgendaMoves
