/- FnStack: the law's walk, for every code. -/
import Derived.Test.YtbaflfbidgolfaaData
import Derived.Test.YtbaflfbidgolfaaStM
import Derived.Test.YtbaflfbidgolfaaDrawQa
namespace Go.Proofs.Ytbaflfbidgolfaa.fnStack
open Go.RowKit Bs St StA StG StL StM IntF
set_option linter.unusedVariables false
theorem row_kept {k : IntKind} {w w' : World} {a : Option Addr} {len cap : Nat} {zs : List Int} (h : Frame.IsRow k w a len cap zs) (hb : Below w.heap.size w w') : Frame.IsRow k w' a len cap zs := by
  rcases h with h | ⟨x, h1, h2, h3, h4, h5, h6⟩
  · exact .inl h
  · refine .inr ⟨x, h1, h2, h3, h4, fun i hi => ?_, h6⟩
    have hc := h5 i hi
    rw [hb.cell (Cur.cell_lt hc)]
    exact hc
theorem below_grown {w W w' : World} (h : Below w.heap.size w W) (hb : Below W.heap.size W w') : Below w.heap.size w w' := h.trans (hb.mono h.size)
set_option maxRecDepth 100000 in
set_option maxHeartbeats 12800000 in
theorem walk (a0 : Option Addr) (len0 cap0 : Nat) (z0 : List Int) (w : World) (sh : w.ShapedOpen Try.prog) (w0 : Frame.IsRow .u8 w a0 len0 cap0 z0) :
    Calls Try.prog 12 #[.slice a0 len0 cap0] w fun e w' => e = .returned (.bool true) ∧ Below w.heap.size w w' := by
  have HW0 := Lib.hid w0
  clear w0 sh
  by_cases hbig : 65536 < len0
  · have hd : decide ((65536 : Int) < len0) = true := decide_eq_true (by omega)
    have HR := Lib.hid (RanV.vBig a0 len0 cap0 w)
    rw [hd] at HR
    clear hd
    go_enter Try.func12, Try.ntmps12
    go_wp2_with fail
    refine HR.out.mono ?_
    rintro e w' ⟨rfl, rfl⟩
    go_wp2_with fail
    go_ret
    exact ⟨rfl, Below.refl _ _⟩
  have hd : decide ((65536 : Int) < len0) = false := decide_eq_false (by omega)
  have hl : len0 ≤ 65536 := by omega
  have HR := Lib.hid (RanV.vBig a0 len0 cap0 w)
  rw [hd] at HR
  clear hd hbig
  go_enter Try.func12, Try.ntmps12
  go_wp2_with fail
  refine HR.out.mono ?_
  rintro e w' ⟨rfl, rfl⟩
  clear HR
  have HB := Lib.hid (Below.refl w.heap.size w)
  go_wp2_with fail
  refine (Draw.drawMoveQuestion a0 len0 cap0 z0 _ (row_kept HW0.out HB.out) hl).mono ?_
  rintro e w1 ⟨v, z, q, l, x, y, rfl, hv, hvn, hsh, hzl, hq, hqn, hll, hb1⟩
  have HV := Lib.hid (Own.isS hv hvn)
  have HQ := Lib.hid (Own.isS hq hqn)
  have HF := Lib.hid (Draw.rshort_fine hsh)
  replace HB := Lib.hid (HB.out.trans (hb1.mono HB.out.size))
  clear hv hvn hsh hq hqn hb1
  go_wp2_with fail
  refine (MoveQuestionC.impl v z q l x y _ HV.out HF.out (by omega) HQ.out (Draw.qfine l) (by omega)).mono ?_
  rintro e w2 ⟨vp1, p0, p1, rfl, hA, ho, hb1⟩
  replace HV := Lib.hid (IsS.below LRule.rec HV.out hb1)
  replace HQ := Lib.hid (IsS.below LQuestion.rec HQ.out hb1)
  replace HB := Lib.hid (HB.out.trans (hb1.mono HB.out.size))
  clear hb1
  have HAp := Lib.hid hA
  have HOp := Lib.hid ho
  clear hA ho
  go_wp2_with fail
  refine (MoveQuestionC.spec v z q l x y _ HV.out HF.out (by omega) HQ.out (Draw.qfine l) (by omega)).mono ?_
  rintro e w3 ⟨vp2, t0, t1, rfl, hA, ho, hb1⟩
  replace HV := Lib.hid (IsS.below LRule.rec HV.out hb1)
  replace HQ := Lib.hid (IsS.below LQuestion.rec HQ.out hb1)
  replace HOp := Lib.hid (HOp.out.kept hb1)
  replace HB := Lib.hid (HB.out.trans (hb1.mono HB.out.size))
  clear hb1
  obtain ⟨e5, e6⟩ := MoveQuestionC.same HAp.out hA
  subst e5 e6
  have HOp2 := Lib.hid ho.is
  have e2 : (p1 != p1) = false := by simp
  clear hA ho
  go_wp2_with fail
  refine (StV.vQuestions vp1 vp2 p0 _ HOp.out.is HOp2.out).mono ?_
  rintro e w4 ⟨rfl, hb1⟩
  replace HV := Lib.hid (IsS.below LRule.rec HV.out hb1)
  replace HQ := Lib.hid (IsS.below LQuestion.rec HQ.out hb1)
  replace HOp := Lib.hid (HOp.out.kept hb1)
  replace HOp2 := Lib.hid (HOp2.out.below LQuestion.rec hb1)
  replace HB := Lib.hid (HB.out.trans (hb1.mono HB.out.size))
  clear hb1
  clear HOp2
  clear e2
  have HPI := Lib.hid (fun X (hX : Below _ _ X) => arePending v q z l X (IsS.is LRule.rec (IsS.below LRule.rec HV.out hX)) (IsS.is LQuestion.rec (IsS.below LQuestion.rec HQ.out hX)) HF.out)
  obtain ⟨GB, hGB⟩ : ∃ G, G = goodQ z l := ⟨_, rfl⟩
  have HGB := Lib.hid hGB
  have e4 : (GB != GB) = false := by simp
  clear HPI hGB
  go_wp2_with fail
  refine (arePending v q z l _ (IsS.is LRule.rec HV.out) (IsS.is LQuestion.rec HQ.out) HF.out).mono ?_
  rintro e w5 ⟨rfl, hb1⟩
  replace HV := Lib.hid (IsS.below LRule.rec HV.out hb1)
  replace HQ := Lib.hid (IsS.below LQuestion.rec HQ.out hb1)
  replace HOp := Lib.hid (HOp.out.kept hb1)
  replace HB := Lib.hid (HB.out.trans (hb1.mono HB.out.size))
  clear hb1
  rw [← HGB.out]
  go_wp2_with fail
  refine (ArePendingC.spec v z q l _ HV.out HF.out (by omega) HQ.out (Draw.qfine l) (by omega)).mono ?_
  rintro e w6 ⟨g0, rfl, hA, hb1⟩
  replace HV := Lib.hid (IsS.below LRule.rec HV.out hb1)
  replace HQ := Lib.hid (IsS.below LQuestion.rec HQ.out hb1)
  replace HOp := Lib.hid (HOp.out.kept hb1)
  replace HB := Lib.hid (HB.out.trans (hb1.mono HB.out.size))
  clear hb1
  obtain rfl : g0 = GB := by rw [HGB.out]; exact hA
  clear hA
  go_wp2_with fail
  refine (MayBeMovedC.impl v z q l _ HV.out HF.out (by omega) HQ.out (Draw.qfine l) (by omega)).mono ?_
  rintro e w7 ⟨vm1, m0, m1, rfl, hA, ho, hb1⟩
  replace HV := Lib.hid (IsS.below LRule.rec HV.out hb1)
  replace HQ := Lib.hid (IsS.below LQuestion.rec HQ.out hb1)
  replace HOp := Lib.hid (HOp.out.kept hb1)
  replace HB := Lib.hid (HB.out.trans (hb1.mono HB.out.size))
  clear hb1
  have HAm := Lib.hid hA
  have HOm := Lib.hid ho
  clear hA ho
  go_wp2_with fail
  refine (MayBeMovedC.spec v z q l _ HV.out HF.out (by omega) HQ.out (Draw.qfine l) (by omega)).mono ?_
  rintro e w8 ⟨vm2, t0, t1, rfl, hA, ho, hb1⟩
  replace HV := Lib.hid (IsS.below LRule.rec HV.out hb1)
  replace HQ := Lib.hid (IsS.below LQuestion.rec HQ.out hb1)
  replace HOp := Lib.hid (HOp.out.kept hb1)
  replace HOm := Lib.hid (HOm.out.kept hb1)
  replace HB := Lib.hid (HB.out.trans (hb1.mono HB.out.size))
  clear hb1
  obtain ⟨e5, e6⟩ := MayBeMovedC.same HAm.out hA
  subst e5 e6
  have HOm2 := Lib.hid ho.is
  have e2 : (m1 != m1) = false := by simp
  clear hA ho
  go_wp2_with fail
  refine (RanV.vInts vm1 vm2 m0 _ HOm.out.is HOm2.out).mono ?_
  rintro e w9 ⟨rfl, hb1⟩
  replace HV := Lib.hid (IsS.below LRule.rec HV.out hb1)
  replace HQ := Lib.hid (IsS.below LQuestion.rec HQ.out hb1)
  replace HOp := Lib.hid (HOp.out.kept hb1)
  replace HOm := Lib.hid (HOm.out.kept hb1)
  replace HOm2 := Lib.hid (HOm2.out.below LInt.rec hb1)
  replace HB := Lib.hid (HB.out.trans (hb1.mono HB.out.size))
  clear hb1
  clear HOm2
  clear e2 e4
  cases p1 with
  | false =>
    clear HAp HAm HGB HF hzl hll HV HQ HOp HOm
    go_wp2_with fail
    refine (Draw.drawWithdrawQuestion a0 len0 cap0 z0 _ (row_kept HW0.out HB.out) hl).mono ?_
    rintro e wp1 ⟨v2, z2, q2, l2, x2, rfl, hv, hvn, hsh, hzl2, hq, hqn, hll2, hb1⟩
    have HV2 := Lib.hid (Own.isS hv hvn)
    have HQ2 := Lib.hid (Own.isS hq hqn)
    have HF2 := Lib.hid (Draw.rshort_fine hsh)
    replace HB := Lib.hid (HB.out.trans (hb1.mono HB.out.size))
    clear hv hvn hsh hq hqn hb1
    go_wp2_with fail
    refine (WithdrawQuestionC.impl v2 z2 q2 l2 x2 _ HV2.out HF2.out (by omega) HQ2.out (Draw.qfine l2) (by omega)).mono ?_
    rintro e wp2 ⟨vb1, b0, b1, rfl, hA, ho, hb1⟩
    replace HV2 := Lib.hid (IsS.below LRule.rec HV2.out hb1)
    replace HQ2 := Lib.hid (IsS.below LQuestion.rec HQ2.out hb1)
    replace HB := Lib.hid (HB.out.trans (hb1.mono HB.out.size))
    clear hb1
    have HAb := Lib.hid hA
    have HOb := Lib.hid ho
    clear hA ho
    go_wp2_with fail
    refine (WithdrawQuestionC.spec v2 z2 q2 l2 x2 _ HV2.out HF2.out (by omega) HQ2.out (Draw.qfine l2) (by omega)).mono ?_
    rintro e wp3 ⟨vb2, t0, t1, rfl, hA, ho, hb1⟩
    replace HV2 := Lib.hid (IsS.below LRule.rec HV2.out hb1)
    replace HQ2 := Lib.hid (IsS.below LQuestion.rec HQ2.out hb1)
    replace HOb := Lib.hid (HOb.out.kept hb1)
    replace HB := Lib.hid (HB.out.trans (hb1.mono HB.out.size))
    clear hb1
    obtain ⟨e5, e6⟩ := WithdrawQuestionC.same HAb.out hA
    subst e5 e6
    have HOb2 := Lib.hid ho.is
    have e2 : (b1 != b1) = false := by simp
    clear hA ho
    go_wp2_with fail
    refine (StV.vQuestions vb1 vb2 b0 _ HOb.out.is HOb2.out).mono ?_
    rintro e wp4 ⟨rfl, hb1⟩
    replace HV2 := Lib.hid (IsS.below LRule.rec HV2.out hb1)
    replace HQ2 := Lib.hid (IsS.below LQuestion.rec HQ2.out hb1)
    replace HOb := Lib.hid (HOb.out.kept hb1)
    replace HOb2 := Lib.hid (HOb2.out.below LQuestion.rec hb1)
    replace HB := Lib.hid (HB.out.trans (hb1.mono HB.out.size))
    clear hb1
    clear HOb2
    clear HOb HV2 HQ2
    clear e2 HAb HF2 hzl2 hll2
    go_wp2_with fail
    refine (Draw.drawMoversOf a0 len0 cap0 z0 _ (row_kept HW0.out HB.out) hl).mono ?_
    rintro e wp5 ⟨v3, z3, q3, l3, rfl, hv, hvn, hsh, hzl3, hq, hqn, hll3, hb1⟩
    have HV3 := Lib.hid (Own.isS hv hvn)
    have HQ3 := Lib.hid (Own.isS hq hqn)
    have HF3 := Lib.hid (Draw.rshort_fine hsh)
    replace HB := Lib.hid (HB.out.trans (hb1.mono HB.out.size))
    clear hv hvn hsh hq hqn hb1
    go_wp2_with fail
    refine (MoversOfC.impl v3 z3 q3 l3 _ HV3.out HF3.out (by omega) HQ3.out (Draw.qfine l3) (by omega)).mono ?_
    rintro e wp6 ⟨vc1, c0, c1, rfl, hA, ho, hb1⟩
    replace HV3 := Lib.hid (IsS.below LRule.rec HV3.out hb1)
    replace HQ3 := Lib.hid (IsS.below LQuestion.rec HQ3.out hb1)
    replace HB := Lib.hid (HB.out.trans (hb1.mono HB.out.size))
    clear hb1
    have HAc := Lib.hid hA
    have HOc := Lib.hid ho
    clear hA ho
    go_wp2_with fail
    refine (MoversOfC.spec v3 z3 q3 l3 _ HV3.out HF3.out (by omega) HQ3.out (Draw.qfine l3) (by omega)).mono ?_
    rintro e wp7 ⟨vc2, t0, t1, rfl, hA, ho, hb1⟩
    replace HV3 := Lib.hid (IsS.below LRule.rec HV3.out hb1)
    replace HQ3 := Lib.hid (IsS.below LQuestion.rec HQ3.out hb1)
    replace HOc := Lib.hid (HOc.out.kept hb1)
    replace HB := Lib.hid (HB.out.trans (hb1.mono HB.out.size))
    clear hb1
    obtain ⟨e5, e6⟩ := MoversOfC.same HAc.out hA
    subst e5 e6
    have HOc2 := Lib.hid ho.is
    have e2 : (c1 != c1) = false := by simp
    clear hA ho
    go_wp2_with fail
    have e3 : (c1 == c1) = true := by simp
    refine (RanV.vInts vc1 vc2 c0 _ HOc.out.is HOc2.out).mono ?_
    rintro e w99 ⟨rfl, hb1⟩
    replace HB := Lib.hid (HB.out.trans (hb1.mono HB.out.size))
    go_wp2_with fail
    go_ret
    exact ⟨rfl, HB.out⟩
  | true =>
    obtain ⟨_, _, hgl, hhm⟩ := move_yes HAp.out
    obtain ⟨e5, e6⟩ := may_of hgl HAm.out
    subst e5 e6
    have HHm := Lib.hid (show ∀ X, Below _ _ X → Calls Try.prog 54 #[vm1, .int .i64 x] X fun e w' => e = .returned (.bool true) ∧ X = w' from fun X hX => by have h := RanV.vHas vm1 (may z l) x X (HOm.out.is.below LInt.rec hX); rw [hhm] at h; exact h)
    clear hgl hhm
    go_wp2_with fail
    refine (HHm.out _ (Below.refl _ _)).mono ?_
    rintro e _ ⟨rfl, rfl⟩
    clear HHm HAm HGB HOm
    go_upto_if 113 with fail
    go_cut [8] (fun s8 wx => Below w.heap.size w wx)
    case first =>
      obtain ⟨e7, hg0, hgl, hhm⟩ := move_yes HAp.out
      subst e7
      have HG0 := Lib.hid hg0
      have hl6 := good_len hg0
      have hrl : (l ++ [(⟨x, y, false⟩ : Q)]).length = l.length + 1 := by simp
      obtain ⟨n, hn⟩ : ∃ n, n = l.length := ⟨_, rfl⟩
      have HN := Lib.hid hn.symm
      obtain ⟨ga, ca, e8, hcl, hcm⟩ : ∃ g c, vp1 = .slice (some ⟨g, 0, none⟩) (n + 1) c ∧ n + 1 ≤ c ∧ c ≤ maxLen := by
        obtain ⟨g, c, e, _, _, h1, h2⟩ := SecondQuestionC.own_some HOp.out (by omega)
        rw [hrl, ← hn] at e h1
        exact ⟨g, c, e, h1, h2⟩
      subst e8
      have HSa := Lib.hid (HOp.out.isS ⟨ga, rfl⟩)
      have hl6n : n + 1 ≤ 6 := by omega
      clear hg0 hgl hhm hl6 hrl hn
      generalize hM : l ++ [(⟨x, y, false⟩ : Q)] = M at *
      have HM := Lib.hid hM
      have hMl : M.length ≤ 1048576 := by rw [← hM]; simp; have := HN.out; omega
      clear hM
      go_wp2_with fail
      refine (QuestionNamesC.impl v z _ M _ HV.out HF.out (by omega) HSa.out (Draw.qfine M) (by omega)).mono ?_
      rintro e wi1 ⟨vn, n0, n1, rfl, hA, ho, hb1⟩
      replace HV := Lib.hid (IsS.below LRule.rec HV.out hb1)
      replace HQ := Lib.hid (IsS.below LQuestion.rec HQ.out hb1)
      replace HSa := Lib.hid (IsS.below LQuestion.rec HSa.out hb1)
      replace HB := Lib.hid (HB.out.trans (hb1.mono HB.out.size))
      clear hb1
      obtain ⟨e5, e6⟩ := names_of HG0.out hA
      subst e5 e6
      have HOn := Lib.hid ho
      clear hA ho
      go_wp2_with fail
      refine (MoversOfC.impl v z _ M _ HV.out HF.out (by omega) HSa.out (Draw.qfine M) (by omega)).mono ?_
      rintro e wi2 ⟨vo, o0, o1, rfl, hA, ho, hb1⟩
      replace HV := Lib.hid (IsS.below LRule.rec HV.out hb1)
      replace HQ := Lib.hid (IsS.below LQuestion.rec HQ.out hb1)
      replace HSa := Lib.hid (IsS.below LQuestion.rec HSa.out hb1)
      replace HOn := Lib.hid (HOn.out.kept hb1)
      replace HB := Lib.hid (HB.out.trans (hb1.mono HB.out.size))
      clear hb1
      have HMo := Lib.hid (movers_of (x := x) (y := y) (by rw [HM.out]; exact HG0.out) (by rw [HM.out]; exact hA))
      have e6 := HMo.out.1
      subst e6
      have HOo := Lib.hid ho.is
      clear hA ho
      go_wp2_with fail
      refine (WithdrawQuestionC.impl v z _ M y _ HV.out HF.out (by omega) HSa.out (Draw.qfine M) (by omega)).mono ?_
      rintro e wi3 ⟨vw, b0, b1, rfl, hA, ho, hb1⟩
      replace HV := Lib.hid (IsS.below LRule.rec HV.out hb1)
      replace HQ := Lib.hid (IsS.below LQuestion.rec HQ.out hb1)
      replace HSa := Lib.hid (IsS.below LQuestion.rec HSa.out hb1)
      replace HOn := Lib.hid (HOn.out.kept hb1)
      replace HOo := Lib.hid (HOo.out.below LInt.rec hb1)
      replace HB := Lib.hid (HB.out.trans (hb1.mono HB.out.size))
      clear hb1
      obtain ⟨e5, e6⟩ := back_of (l := l) (x := x) (y := y) (by rw [HM.out]; exact HG0.out) (by rw [HM.out]; exact hA)
      have e5 := e5.symm
      subst e5 e6
      have HOw := Lib.hid ho.is
      clear hA ho
      go_wp2_with fail
      refine (good_asI true (IsS.is LRule.rec HV.out) (IsS.is LQuestion.rec HSa.out) HF.out HG0.out).mono ?_
      rintro e wi4 ⟨rfl, hb1⟩
      replace HV := Lib.hid (IsS.below LRule.rec HV.out hb1)
      replace HQ := Lib.hid (IsS.below LQuestion.rec HQ.out hb1)
      replace HSa := Lib.hid (IsS.below LQuestion.rec HSa.out hb1)
      replace HOn := Lib.hid (HOn.out.kept hb1)
      replace HOo := Lib.hid (HOo.out.below LInt.rec hb1)
      replace HOw := Lib.hid (HOw.out.below LQuestion.rec hb1)
      replace HB := Lib.hid (HB.out.trans (hb1.mono HB.out.size))
      clear hb1
      obtain ⟨c0, c1, c2⟩ := StM.top_cells HSa.out HM.out HN.out
      have n1 : IntKind.i64.wrap (((n + 1 : Nat) : Int) - 1) = (n : Int) := by rw [show ((n + 1 : Nat) : Int) - 1 = (n : Int) by omega]; exact IntWalk.i64_in _ (by omega)
      have n1b : IntKind.i64.wrap ((n : Int) + 1 - 1) = (n : Int) := by rw [show (n : Int) + 1 - 1 = (n : Int) by omega]; exact IntWalk.i64_in _ (by omega)
      have n2 : ((n : Int)).toNat = n := by omega
      have n3 : 0 ≤ (n : Int) := by omega
      have n4 : (n : Int) < ((n + 1 : Nat) : Int) := by omega
      have n5 : (n : Int) < (n : Int) + 1 := by omega
      obtain ⟨gn, cn, e9, hncl, hncm⟩ : ∃ g c, vn = .slice (some ⟨g, 0, none⟩) (n + 1) c ∧ n + 1 ≤ c ∧ c ≤ maxLen := StM.names_form HOn.out HM.out HN.out
      subst e9
      have e10 : (((n + 1 : Nat) : Int) != ((n + 1 : Nat) : Int)) = false := by simp
      have HHy := Lib.hid (show Calls Try.prog 54 #[vo, .int .i64 y] _ fun e w' => e = .returned (.bool true) ∧ _ = w' from by have h := RanV.vHas vo o0 y _ HOo.out; rw [HMo.out.2] at h; exact h)
      unfold maxLen at hncm hcm
      go_wp2_with fail
      refine HHy.out.mono ?_
      rintro e _ ⟨rfl, rfl⟩
      clear HHy c0 c1 c2
      go_wp2_with fail
      refine (StV.vQuestions vw q l _ HOw.out (IsS.is LQuestion.rec HQ.out)).mono ?_
      rintro e wi5 ⟨rfl, hb1⟩
      replace HV := Lib.hid (IsS.below LRule.rec HV.out hb1)
      replace HQ := Lib.hid (IsS.below LQuestion.rec HQ.out hb1)
      replace HSa := Lib.hid (IsS.below LQuestion.rec HSa.out hb1)
      replace HOn := Lib.hid (HOn.out.kept hb1)
      replace HOo := Lib.hid (HOo.out.below LInt.rec hb1)
      replace HOw := Lib.hid (HOw.out.below LQuestion.rec hb1)
      replace HB := Lib.hid (HB.out.trans (hb1.mono HB.out.size))
      clear hb1
      clear HOw HOo
      clear e10 n1 n1b n2 n3 n4 n5 HMo
      go_wp2_with fail
      generalize wi5 = wl at *
      have HGz := Lib.hid (good_of HG0.out).1
      go_loopw [22] (fun i wr => ∃ k : Nat, 1 ≤ k ∧ k ≤ n + 1 ∧ i = .int .i64 k ∧ Below wl.heap.size wl wr) (fun i _ => n + 1 - (intOf i).toNat)
      case atStart => exact ⟨1, Nat.le_refl _, by omega, rfl, Below.refl _ _⟩
      case round =>
        obtain ⟨k, hk1, hk, rfl, hb⟩ := hrel
        by_cases hlt : k < n + 1
        · obtain ⟨k, rfl⟩ : ∃ p, k = p + 1 := ⟨k - 1, by omega⟩
          have hxa : k < M.length := by rw [← HM.out]; simp; have := HN.out; omega
          have hxb : k + 1 < M.length := by rw [← HM.out]; simp; have := HN.out; omega
          have HXa := Lib.hid (List.getElem?_eq_getElem hxa)
          have HXb := Lib.hid (List.getElem?_eq_getElem hxb)
          have hrk := rank_lt HG0.out HXa.out HXb.out
          have HRa := Lib.hid (ru_in HG0.out HXa.out)
          have HRb := Lib.hid (ru_in HG0.out HXb.out)
          have HCa := Lib.hid ((LString.cells (HOn.out.at_ k _ (nms_at HXa.out))))
          have HCb := Lib.hid ((LString.cells (HOn.out.at_ (k + 1) _ (nms_at HXb.out))))
          generalize M[k] = Xa at *
          generalize M[k + 1] = Xb at *
          generalize hra : ru z Xa.rule = ra at *
          generalize hrb : ru z Xb.rule = rb at *
          have hgl := (HOn.out.lt gn rfl).2
          have ca := HCa.out
          have cb := HCb.out
          simp only [LString.rec_n, Nat.mul_one] at ca cb
          have ca1 : wr.cell? ⟨gn, k, none⟩ = some (.string ra.name) := by rw [hb.cell (p := ⟨gn, k, none⟩) hgl]; exact ca
          have HCb1 := Lib.hid cb
          clear hra hrb ca cb HCa HCb HXa HXb
          have t1 : IntKind.i64.wrap (((k + 1 : Nat) : Int) - 1) = (k : Int) := by rw [show ((k + 1 : Nat) : Int) - 1 = (k : Int) by omega]; exact IntWalk.i64_in _ (by omega)
          have t1b : IntKind.i64.wrap ((k : Int) + 1 - 1) = (k : Int) := by rw [show (k : Int) + 1 - 1 = (k : Int) by omega]; exact IntWalk.i64_in _ (by omega)
          have t2 : ((k : Int)).toNat = k := by omega
          have t3 : ((k : Int) + 1).toNat = k + 1 := by omega
          have t4 : 0 ≤ (k : Int) := by omega
          have t5 : (k : Int) < ((n + 1 : Nat) : Int) := by omega
          have t6 : (k : Int) < (n : Int) + 1 := by omega
          have t7 : (k : Int) + 1 < (n : Int) + 1 := by omega
          have t8 : 0 ≤ (k : Int) + 1 := by omega
          have t9 : k + 1 < n + 1 := by omega
          have t10 : k < n + 1 := by omega
          have t11 : IntKind.i64.wrap ((k : Int) + 1 + 1) = (k : Int) + 1 + 1 := IntWalk.i64_in _ (by omega)
          go_wp2_with fail
          refine (StM.nameI v z ra.name _ (IsS.is LRule.rec (IsS.below LRule.rec HV.out hb)) HF.out).mono ?_
          rintro e wa ⟨qa, ba, rfl, hA, hb1⟩
          obtain ⟨e5, e6⟩ := name_got HGz.out HRa.out hA
          subst e5 e6
          have hb2 := below_grown hb hb1
          have HXa := Lib.hid (Bs.Bx.new wa 63 #[.int .i64 qa.id, .string qa.name, .int .i64 qa.rank, .bool qa.sec, .bool qa.deb, .bool qa.am, .int .i64 qa.need])
          have hb3 := hb2.alloc hb2.size (Obj.cells #[.int .i64 qa.id, .string qa.name, .int .i64 qa.rank, .bool qa.sec, .bool qa.deb, .bool qa.am, .int .i64 qa.need] 63)
          have cb1 : (wa.alloc (Obj.cells #[.int .i64 qa.id, .string qa.name, .int .i64 qa.rank, .bool qa.sec, .bool qa.deb, .bool qa.am, .int .i64 qa.need] 63)).cell? ⟨gn, k + 1, none⟩ = some (.string rb.name) := by rw [hb3.cell (p := ⟨gn, k + 1, none⟩) hgl]; exact HCb1.out
          clear hA hb1 ca1 hb2
          go_wp2_with fail
          refine (StM.nameI v z rb.name _ (IsS.is LRule.rec (IsS.below LRule.rec HV.out hb3)) HF.out).mono ?_
          rintro e wb ⟨qb, bb, rfl, hA, hb1⟩
          obtain ⟨e5, e6⟩ := name_got HGz.out HRb.out hA
          subst e5 e6
          have hb4 := below_grown hb3 hb1
          have hXa2 := (HXa.out.kept hb1).alloc (Obj.cells #[.int .i64 qb.id, .string qb.name, .int .i64 qb.rank, .bool qb.sec, .bool qb.deb, .bool qb.am, .int .i64 qb.need] 63)
          have x2 := hXa2.cell 2
          simp only [List.getElem?_toArray, List.getElem?_cons_zero, List.getElem?_cons_succ] at x2
          have hb5 := hb4.alloc hb4.size (Obj.cells #[.int .i64 qb.id, .string qb.name, .int .i64 qb.rank, .bool qb.sec, .bool qb.deb, .bool qb.am, .int .i64 qb.need] 63)
          have hd : decide (qb.rank ≤ qa.rank) = false := decide_eq_false (by omega)
          clear hA hb1 cb1 hXa2 hb3 hb4
          go_wp2_with fail
          go_roundw
          case rel => exact ⟨k + 1 + 1, by omega, by omega, by go_num, hb5⟩
          case measure => simp [intOf]; omega
        · obtain rfl : k = n + 1 := by omega
          have hend : ¬ ((n : Int) + 1 < (n : Int) + 1) := by omega
          have HBe := Lib.hid (below_grown HB.out hb)
          go_wp2_with fail
          go_meet
          exact HBe.out
    case rest =>
      have HB := Lib.hid hcut
      clear HAp HF hzl hll HV HQ HOp hcut
      go_wp2_with fail
      refine (Draw.drawWithdrawQuestion a0 len0 cap0 z0 _ (row_kept HW0.out HB.out) hl).mono ?_
      rintro e wr1 ⟨v2, z2, q2, l2, x2, rfl, hv, hvn, hsh, hzl2, hq, hqn, hll2, hb1⟩
      have HV2 := Lib.hid (Own.isS hv hvn)
      have HQ2 := Lib.hid (Own.isS hq hqn)
      have HF2 := Lib.hid (Draw.rshort_fine hsh)
      replace HB := Lib.hid (HB.out.trans (hb1.mono HB.out.size))
      clear hv hvn hsh hq hqn hb1
      go_wp2_with fail
      refine (WithdrawQuestionC.impl v2 z2 q2 l2 x2 _ HV2.out HF2.out (by omega) HQ2.out (Draw.qfine l2) (by omega)).mono ?_
      rintro e wr2 ⟨vb1, b0, b1, rfl, hA, ho, hb1⟩
      replace HV2 := Lib.hid (IsS.below LRule.rec HV2.out hb1)
      replace HQ2 := Lib.hid (IsS.below LQuestion.rec HQ2.out hb1)
      replace HB := Lib.hid (HB.out.trans (hb1.mono HB.out.size))
      clear hb1
      have HAb := Lib.hid hA
      have HOb := Lib.hid ho
      clear hA ho
      go_wp2_with fail
      refine (WithdrawQuestionC.spec v2 z2 q2 l2 x2 _ HV2.out HF2.out (by omega) HQ2.out (Draw.qfine l2) (by omega)).mono ?_
      rintro e wr3 ⟨vb2, t0, t1, rfl, hA, ho, hb1⟩
      replace HV2 := Lib.hid (IsS.below LRule.rec HV2.out hb1)
      replace HQ2 := Lib.hid (IsS.below LQuestion.rec HQ2.out hb1)
      replace HOb := Lib.hid (HOb.out.kept hb1)
      replace HB := Lib.hid (HB.out.trans (hb1.mono HB.out.size))
      clear hb1
      obtain ⟨e5, e6⟩ := WithdrawQuestionC.same HAb.out hA
      subst e5 e6
      have HOb2 := Lib.hid ho.is
      have e2 : (b1 != b1) = false := by simp
      clear hA ho
      go_wp2_with fail
      refine (StV.vQuestions vb1 vb2 b0 _ HOb.out.is HOb2.out).mono ?_
      rintro e wr4 ⟨rfl, hb1⟩
      replace HV2 := Lib.hid (IsS.below LRule.rec HV2.out hb1)
      replace HQ2 := Lib.hid (IsS.below LQuestion.rec HQ2.out hb1)
      replace HOb := Lib.hid (HOb.out.kept hb1)
      replace HOb2 := Lib.hid (HOb2.out.below LQuestion.rec hb1)
      replace HB := Lib.hid (HB.out.trans (hb1.mono HB.out.size))
      clear hb1
      clear HOb2
      clear HOb HV2 HQ2
      clear e2 HAb HF2 hzl2 hll2
      go_wp2_with fail
      refine (Draw.drawMoversOf a0 len0 cap0 z0 _ (row_kept HW0.out HB.out) hl).mono ?_
      rintro e wr5 ⟨v3, z3, q3, l3, rfl, hv, hvn, hsh, hzl3, hq, hqn, hll3, hb1⟩
      have HV3 := Lib.hid (Own.isS hv hvn)
      have HQ3 := Lib.hid (Own.isS hq hqn)
      have HF3 := Lib.hid (Draw.rshort_fine hsh)
      replace HB := Lib.hid (HB.out.trans (hb1.mono HB.out.size))
      clear hv hvn hsh hq hqn hb1
      go_wp2_with fail
      refine (MoversOfC.impl v3 z3 q3 l3 _ HV3.out HF3.out (by omega) HQ3.out (Draw.qfine l3) (by omega)).mono ?_
      rintro e wr6 ⟨vc1, c0, c1, rfl, hA, ho, hb1⟩
      replace HV3 := Lib.hid (IsS.below LRule.rec HV3.out hb1)
      replace HQ3 := Lib.hid (IsS.below LQuestion.rec HQ3.out hb1)
      replace HB := Lib.hid (HB.out.trans (hb1.mono HB.out.size))
      clear hb1
      have HAc := Lib.hid hA
      have HOc := Lib.hid ho
      clear hA ho
      go_wp2_with fail
      refine (MoversOfC.spec v3 z3 q3 l3 _ HV3.out HF3.out (by omega) HQ3.out (Draw.qfine l3) (by omega)).mono ?_
      rintro e wr7 ⟨vc2, t0, t1, rfl, hA, ho, hb1⟩
      replace HV3 := Lib.hid (IsS.below LRule.rec HV3.out hb1)
      replace HQ3 := Lib.hid (IsS.below LQuestion.rec HQ3.out hb1)
      replace HOc := Lib.hid (HOc.out.kept hb1)
      replace HB := Lib.hid (HB.out.trans (hb1.mono HB.out.size))
      clear hb1
      obtain ⟨e5, e6⟩ := MoversOfC.same HAc.out hA
      subst e5 e6
      have HOc2 := Lib.hid ho.is
      have e2 : (c1 != c1) = false := by simp
      clear hA ho
      go_wp2_with fail
      have e3 : (c1 == c1) = true := by simp
      refine (RanV.vInts vc1 vc2 c0 _ HOc.out.is HOc2.out).mono ?_
      rintro e w99 ⟨rfl, hb1⟩
      replace HB := Lib.hid (HB.out.trans (hb1.mono HB.out.size))
      go_wp2_with fail
      go_ret
      exact ⟨rfl, HB.out⟩
end Go.Proofs.Ytbaflfbidgolfaa.fnStack
