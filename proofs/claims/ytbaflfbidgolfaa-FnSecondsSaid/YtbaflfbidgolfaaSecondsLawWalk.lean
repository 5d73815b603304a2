/- FnSeconds: the law's walk, for every code. -/
import Derived.Test.YtbaflfbidgolfaaData
import Derived.Test.YtbaflfbidgolfaaStM
import Derived.Test.YtbaflfbidgolfaaDrawQa
namespace Go.Proofs.Ytbaflfbidgolfaa.fnSeconds
open Go.RowKit Bs St StA StG StL StM IntF
set_option linter.unusedVariables false
theorem row_kept {k : IntKind} {w w' : World} {a : Option Addr} {len cap : Nat} {zs : List Int} (h : Frame.IsRow k w a len cap zs) (hb : Below w.heap.size w w') : Frame.IsRow k w' a len cap zs := by
  rcases h with h | ⟨x, h1, h2, h3, h4, h5, h6⟩
  · exact .inl h
  · refine .inr ⟨x, h1, h2, h3, h4, fun i hi => ?_, h6⟩
    have hc := h5 i hi
    rw [hb.cell (Cur.cell_lt hc)]
    exact hc
theorem below_grown {w W w' : World} (h : Below w.heap.size w W) (hb : Below W.heap.size W w') : Below w.heap.size w w' := h.trans (hb.mono h.size)
theorem SecondQuestionC_own {w : World} {A : Nat} {v : Value} {l : List Q} (h : Own LQuestion.rec 47 w A v l) (hl : 0 < l.length) : ∃ g, v.ownBlock = some g := by
  obtain ⟨g, c, e, _⟩ := SecondQuestionC.own_some h hl
  exact ⟨g, by rw [e]; rfl⟩
set_option maxRecDepth 100000 in
set_option maxHeartbeats 12800000 in
theorem walk (a0 : Option Addr) (len0 cap0 : Nat) (z0 : List Int) (w : World) (sh : w.ShapedOpen Try.prog) (w0 : Frame.IsRow .u8 w a0 len0 cap0 z0) :
    Calls Try.prog 13 #[.slice a0 len0 cap0] w fun e w' => e = .returned (.bool true) ∧ Below w.heap.size w w' := by
  have HW0 := Lib.hid w0
  clear w0 sh
  by_cases hbig : 65536 < len0
  · have hd : decide ((65536 : Int) < len0) = true := decide_eq_true (by omega)
    have HR := Lib.hid (RanV.vBig a0 len0 cap0 w)
    rw [hd] at HR
    clear hd
    go_enter Try.func13, Try.ntmps13
    go_wp2_with fail
    refine HR.out.mono ?_
    rintro e w' ⟨rfl, rfl⟩
    go_wp2_with fail
    go_ret
    exact ⟨rfl, Below.refl _ _⟩
  have hd : decide ((65536 : Int) < len0) = false := decide_eq_false (by omega)
  have hl : len0 ≤ 65536 := by omega
  have HR := Lib.hid (RanV.vBig a0 len0 cap0 w)
  rw [hd] at HR
  clear hd hbig
  go_enter Try.func13, Try.ntmps13
  go_wp2_with fail
  refine HR.out.mono ?_
  rintro e w' ⟨rfl, rfl⟩
  clear HR
  have HB := Lib.hid (Below.refl w.heap.size w)
  go_wp2_with fail
  refine (Draw.drawSecondQuestion a0 len0 cap0 z0 _ (row_kept HW0.out HB.out) hl).mono ?_
  rintro e w1 ⟨v, z, q, l, x, rfl, hv, hvn, hsh, hzl, hq, hqn, hll, hb1⟩
  have HV := Lib.hid (Own.isS hv hvn)
  have HQ := Lib.hid (Own.isS hq hqn)
  have HF := Lib.hid (Draw.rshort_fine hsh)
  replace HB := Lib.hid (HB.out.trans (hb1.mono HB.out.size))
  clear hv hvn hsh hq hqn hb1
  go_wp2_with fail
  refine (SecondQuestionC.impl v z q l x _ HV.out HF.out (by omega) HQ.out (Draw.qfine l) (by omega)).mono ?_
  rintro e w2 ⟨vp1, p0, p1, rfl, hA, ho, hb1⟩
  replace HV := Lib.hid (IsS.below LRule.rec HV.out hb1)
  replace HQ := Lib.hid (IsS.below LQuestion.rec HQ.out hb1)
  replace HB := Lib.hid (HB.out.trans (hb1.mono HB.out.size))
  clear hb1
  have HAp := Lib.hid hA
  have HOp := Lib.hid ho
  clear hA ho
  go_wp2_with fail
  refine (SecondQuestionC.spec v z q l x _ HV.out HF.out (by omega) HQ.out (Draw.qfine l) (by omega)).mono ?_
  rintro e w3 ⟨vp2, t0, t1, rfl, hA, ho, hb1⟩
  replace HV := Lib.hid (IsS.below LRule.rec HV.out hb1)
  replace HQ := Lib.hid (IsS.below LQuestion.rec HQ.out hb1)
  replace HOp := Lib.hid (HOp.out.kept hb1)
  replace HB := Lib.hid (HB.out.trans (hb1.mono HB.out.size))
  clear hb1
  obtain ⟨e5, e6⟩ := SecondQuestionC.same HAp.out hA
  subst e5 e6
  have HOp2 := Lib.hid ho.is
  have e2 : (p1 != p1) = false := by simp
  clear hA ho
  go_wp2_with fail
  refine (StV.vQuestions vp1 vp2 p0 _ HOp.out.is HOp2.out).mono ?_
  rintro e w4 ⟨rfl, hb1⟩
  replace HV := Lib.hid (IsS.below LRule.rec HV.out hb1)
  replace HQ := Lib.hid (IsS.below LQuestion.rec HQ.out hb1)
  replace HOp := Lib.hid (HOp.out.kept hb1)
  replace HOp2 := Lib.hid (HOp2.out.below LQuestion.rec hb1)
  replace HB := Lib.hid (HB.out.trans (hb1.mono HB.out.size))
  clear hb1
  clear HOp2
  clear e2
  cases p1 with
  | false =>
    clear HAp HF hzl hll HV HQ HOp
    go_wp2_with fail
    refine (Draw.drawDisposeQuestion a0 len0 cap0 z0 _ (row_kept HW0.out HB.out) hl).mono ?_
    rintro e wp1 ⟨v2, z2, q2, l2, rfl, hv, hvn, hsh, hzl2, hq, hqn, hll2, hb1⟩
    have HV2 := Lib.hid (Own.isS hv hvn)
    have HQ2 := Lib.hid (Own.isS hq hqn)
    have HF2 := Lib.hid (Draw.rshort_fine hsh)
    replace HB := Lib.hid (HB.out.trans (hb1.mono HB.out.size))
    clear hv hvn hsh hq hqn hb1
    go_wp2_with fail
    refine (DisposeQuestionC.impl v2 z2 q2 l2 _ HV2.out HF2.out (by omega) HQ2.out (Draw.qfine l2) (by omega)).mono ?_
    rintro e wp2 ⟨vf, f0, fq, fk, rfl, hA, ho, hb1⟩
    replace HV2 := Lib.hid (IsS.below LRule.rec HV2.out hb1)
    replace HQ2 := Lib.hid (IsS.below LQuestion.rec HQ2.out hb1)
    replace HB := Lib.hid (HB.out.trans (hb1.mono HB.out.size))
    clear hb1
    have HAf := Lib.hid hA
    have HOf := Lib.hid ho
    clear hA ho
    have hbx := (Below.refl wp2.heap.size wp2).alloc (Nat.le_refl _) (Obj.cells #[.int .i64 fq.rule, .int .i64 fq.mover, .bool fq.sec] 47)
    replace HV2 := Lib.hid (IsS.below LRule.rec HV2.out hbx)
    replace HQ2 := Lib.hid (IsS.below LQuestion.rec HQ2.out hbx)
    replace HOf := Lib.hid (HOf.out.kept hbx)
    replace HB := Lib.hid (HB.out.trans (hbx.mono HB.out.size))
    have HXf := Lib.hid (Bs.Bx.new wp2 47 #[.int .i64 fq.rule, .int .i64 fq.mover, .bool fq.sec])
    clear hbx
    go_wp2_with fail
    refine (DisposeQuestionC.spec v2 z2 q2 l2 _ HV2.out HF2.out (by omega) HQ2.out (Draw.qfine l2) (by omega)).mono ?_
    rintro e wp4 ⟨vg, g0, gq, gk, rfl, hA, ho, hb1⟩
    replace HV2 := Lib.hid (IsS.below LRule.rec HV2.out hb1)
    replace HQ2 := Lib.hid (IsS.below LQuestion.rec HQ2.out hb1)
    replace HOf := Lib.hid (HOf.out.kept hb1)
    replace HXf := Lib.hid (Bs.Bx.kept HXf.out hb1)
    replace HB := Lib.hid (HB.out.trans (hb1.mono HB.out.size))
    clear hb1
    obtain ⟨e5, e6, e7⟩ := DisposeQuestionC.same HAf.out hA
    subst e5 e6 e7
    have HOg := Lib.hid ho.is
    clear hA ho
    have hbx := (Below.refl wp4.heap.size wp4).alloc (Nat.le_refl _) (Obj.cells #[.int .i64 fq.rule, .int .i64 fq.mover, .bool fq.sec] 47)
    replace HV2 := Lib.hid (IsS.below LRule.rec HV2.out hbx)
    replace HQ2 := Lib.hid (IsS.below LQuestion.rec HQ2.out hbx)
    replace HOf := Lib.hid (HOf.out.kept hbx)
    replace HXf := Lib.hid (Bs.Bx.kept HXf.out hbx)
    replace HOg := Lib.hid (HOg.out.below LQuestion.rec hbx)
    replace HB := Lib.hid (HB.out.trans (hbx.mono HB.out.size))
    have HXg := Lib.hid (Bs.Bx.new wp4 47 #[.int .i64 fq.rule, .int .i64 fq.mover, .bool fq.sec])
    clear hbx
    have e2 : (fk != fk) = false := by simp
    have x0 := HXf.out.cell 0
    have x1 := HXf.out.cell 1
    have x2 := HXf.out.cell 2
    have y0 := HXg.out.cell 0
    have y1 := HXg.out.cell 1
    have y2 := HXg.out.cell 2
    simp only [List.getElem?_toArray, List.getElem?_cons_zero, List.getElem?_cons_succ] at x0 x1 x2 y0 y1 y2
    clear HXf HXg
    go_wp2_with fail
    refine (StV.vQuestions vf vg f0 _ HOf.out.is HOg.out).mono ?_
    rintro e wp6 ⟨rfl, hb1⟩
    replace HV2 := Lib.hid (IsS.below LRule.rec HV2.out hb1)
    replace HQ2 := Lib.hid (IsS.below LQuestion.rec HQ2.out hb1)
    replace HOf := Lib.hid (HOf.out.kept hb1)
    replace HOg := Lib.hid (HOg.out.below LQuestion.rec hb1)
    replace HB := Lib.hid (HB.out.trans (hb1.mono HB.out.size))
    clear hb1
    clear HOg
    clear e2 x0 x1 x2 y0 y1 y2
    cases fk with
    | true =>
      have HGr := Lib.hid (rest_good HAf.out)
      go_wp2_with fail
      refine (good_asI true (IsS.is LRule.rec HV2.out) HOf.out.is HF2.out HGr.out).mono ?_
      rintro e wp7 ⟨rfl, hb1⟩
      replace HV2 := Lib.hid (IsS.below LRule.rec HV2.out hb1)
      replace HQ2 := Lib.hid (IsS.below LQuestion.rec HQ2.out hb1)
      replace HOf := Lib.hid (HOf.out.kept hb1)
      replace HB := Lib.hid (HB.out.trans (hb1.mono HB.out.size))
      clear hb1
      clear HOf HV2 HQ2
      clear HAf HF2 hzl2 hll2
      go_wp2_with fail
      refine (Draw.drawDropUnseconded a0 len0 cap0 z0 _ (row_kept HW0.out HB.out) hl).mono ?_
      rintro e wp8 ⟨v3, z3, q3, l3, rfl, hv, hvn, hsh, hzl3, hq, hqn, hll3, hb1⟩
      have HV3 := Lib.hid (Own.isS hv hvn)
      have HQ3 := Lib.hid (Own.isS hq hqn)
      have HF3 := Lib.hid (Draw.rshort_fine hsh)
      replace HB := Lib.hid (HB.out.trans (hb1.mono HB.out.size))
      clear hv hvn hsh hq hqn hb1
      go_wp2_with fail
      refine (DropUnsecondedC.impl v3 z3 q3 l3 _ HV3.out HF3.out (by omega) HQ3.out (Draw.qfine l3) (by omega)).mono ?_
      rintro e wp9 ⟨vh1, h0, h1, rfl, hA, ho, hb1⟩
      replace HV3 := Lib.hid (IsS.below LRule.rec HV3.out hb1)
      replace HQ3 := Lib.hid (IsS.below LQuestion.rec HQ3.out hb1)
      replace HB := Lib.hid (HB.out.trans (hb1.mono HB.out.size))
      clear hb1
      have HAh := Lib.hid hA
      have HOh := Lib.hid ho
      clear hA ho
      go_wp2_with fail
      refine (DropUnsecondedC.spec v3 z3 q3 l3 _ HV3.out HF3.out (by omega) HQ3.out (Draw.qfine l3) (by omega)).mono ?_
      rintro e wp10 ⟨vh2, t0, t1, rfl, hA, ho, hb1⟩
      replace HV3 := Lib.hid (IsS.below LRule.rec HV3.out hb1)
      replace HQ3 := Lib.hid (IsS.below LQuestion.rec HQ3.out hb1)
      replace HOh := Lib.hid (HOh.out.kept hb1)
      replace HB := Lib.hid (HB.out.trans (hb1.mono HB.out.size))
      clear hb1
      obtain ⟨e5, e6⟩ := DropUnsecondedC.same HAh.out hA
      subst e5 e6
      have HOh2 := Lib.hid ho.is
      have e2 : (h1 != h1) = false := by simp
      clear hA ho
      go_wp2_with fail
      refine (StV.vQuestions vh1 vh2 h0 _ HOh.out.is HOh2.out).mono ?_
      rintro e wp11 ⟨rfl, hb1⟩
      replace HV3 := Lib.hid (IsS.below LRule.rec HV3.out hb1)
      replace HQ3 := Lib.hid (IsS.below LQuestion.rec HQ3.out hb1)
      replace HOh := Lib.hid (HOh.out.kept hb1)
      replace HOh2 := Lib.hid (HOh2.out.below LQuestion.rec hb1)
      replace HB := Lib.hid (HB.out.trans (hb1.mono HB.out.size))
      clear hb1
      clear HOh2
      clear HOh HV3 HQ3
      clear e2 HAh HF3 hzl3 hll3
      go_wp2_with fail
      refine (Draw.drawQuestionNames a0 len0 cap0 z0 _ (row_kept HW0.out HB.out) hl).mono ?_
      rintro e wp12 ⟨v4, z4, q4, l4, rfl, hv, hvn, hsh, hzl4, hq, hqn, hll4, hb1⟩
      have HV4 := Lib.hid (Own.isS hv hvn)
      have HQ4 := Lib.hid (Own.isS hq hqn)
      have HF4 := Lib.hid (Draw.rshort_fine hsh)
      replace HB := Lib.hid (HB.out.trans (hb1.mono HB.out.size))
      clear hv hvn hsh hq hqn hb1
      go_wp2_with fail
      refine (QuestionNamesC.impl v4 z4 q4 l4 _ HV4.out HF4.out (by omega) HQ4.out (Draw.qfine l4) (by omega)).mono ?_
      rintro e wp13 ⟨vj1, j0, j1, rfl, hA, ho, hb1⟩
      replace HV4 := Lib.hid (IsS.below LRule.rec HV4.out hb1)
      replace HQ4 := Lib.hid (IsS.below LQuestion.rec HQ4.out hb1)
      replace HB := Lib.hid (HB.out.trans (hb1.mono HB.out.size))
      clear hb1
      have HAj := Lib.hid hA
      have HOj := Lib.hid ho
      clear hA ho
      go_wp2_with fail
      refine (QuestionNamesC.spec v4 z4 q4 l4 _ HV4.out HF4.out (by omega) HQ4.out (Draw.qfine l4) (by omega)).mono ?_
      rintro e wp14 ⟨vj2, t0, t1, rfl, hA, ho, hb1⟩
      replace HV4 := Lib.hid (IsS.below LRule.rec HV4.out hb1)
      replace HQ4 := Lib.hid (IsS.below LQuestion.rec HQ4.out hb1)
      replace HOj := Lib.hid (HOj.out.kept hb1)
      replace HB := Lib.hid (HB.out.trans (hb1.mono HB.out.size))
      clear hb1
      obtain ⟨e5, e6⟩ := QuestionNamesC.same HAj.out hA
      subst e5 e6
      have HOj2 := Lib.hid ho.is
      have e2 : (j1 != j1) = false := by simp
      clear hA ho
      go_wp2_with fail
      have e3 : (j1 == j1) = true := by simp
      refine (StV.vTexts vj1 vj2 j0 _ HOj.out.is HOj2.out).mono ?_
      rintro e w99 ⟨rfl, hb1⟩
      replace HB := Lib.hid (HB.out.trans (hb1.mono HB.out.size))
      go_wp2_with fail
      go_ret
      exact ⟨rfl, HB.out⟩
    | false =>
      clear HOf HV2 HQ2
      clear HAf HF2 hzl2 hll2
      go_wp2_with fail
      refine (Draw.drawDropUnseconded a0 len0 cap0 z0 _ (row_kept HW0.out HB.out) hl).mono ?_
      rintro e ws7 ⟨v3, z3, q3, l3, rfl, hv, hvn, hsh, hzl3, hq, hqn, hll3, hb1⟩
      have HV3 := Lib.hid (Own.isS hv hvn)
      have HQ3 := Lib.hid (Own.isS hq hqn)
      have HF3 := Lib.hid (Draw.rshort_fine hsh)
      replace HB := Lib.hid (HB.out.trans (hb1.mono HB.out.size))
      clear hv hvn hsh hq hqn hb1
      go_wp2_with fail
      refine (DropUnsecondedC.impl v3 z3 q3 l3 _ HV3.out HF3.out (by omega) HQ3.out (Draw.qfine l3) (by omega)).mono ?_
      rintro e ws8 ⟨vh1, h0, h1, rfl, hA, ho, hb1⟩
      replace HV3 := Lib.hid (IsS.below LRule.rec HV3.out hb1)
      replace HQ3 := Lib.hid (IsS.below LQuestion.rec HQ3.out hb1)
      replace HB := Lib.hid (HB.out.trans (hb1.mono HB.out.size))
      clear hb1
      have HAh := Lib.hid hA
      have HOh := Lib.hid ho
      clear hA ho
      go_wp2_with fail
      refine (DropUnsecondedC.spec v3 z3 q3 l3 _ HV3.out HF3.out (by omega) HQ3.out (Draw.qfine l3) (by omega)).mono ?_
      rintro e ws9 ⟨vh2, t0, t1, rfl, hA, ho, hb1⟩
      replace HV3 := Lib.hid (IsS.below LRule.rec HV3.out hb1)
      replace HQ3 := Lib.hid (IsS.below LQuestion.rec HQ3.out hb1)
      replace HOh := Lib.hid (HOh.out.kept hb1)
      replace HB := Lib.hid (HB.out.trans (hb1.mono HB.out.size))
      clear hb1
      obtain ⟨e5, e6⟩ := DropUnsecondedC.same HAh.out hA
      subst e5 e6
      have HOh2 := Lib.hid ho.is
      have e2 : (h1 != h1) = false := by simp
      clear hA ho
      go_wp2_with fail
      refine (StV.vQuestions vh1 vh2 h0 _ HOh.out.is HOh2.out).mono ?_
      rintro e ws10 ⟨rfl, hb1⟩
      replace HV3 := Lib.hid (IsS.below LRule.rec HV3.out hb1)
      replace HQ3 := Lib.hid (IsS.below LQuestion.rec HQ3.out hb1)
      replace HOh := Lib.hid (HOh.out.kept hb1)
      replace HOh2 := Lib.hid (HOh2.out.below LQuestion.rec hb1)
      replace HB := Lib.hid (HB.out.trans (hb1.mono HB.out.size))
      clear hb1
      clear HOh2
      clear HOh HV3 HQ3
      clear e2 HAh HF3 hzl3 hll3
      go_wp2_with fail
      refine (Draw.drawQuestionNames a0 len0 cap0 z0 _ (row_kept HW0.out HB.out) hl).mono ?_
      rintro e ws11 ⟨v4, z4, q4, l4, rfl, hv, hvn, hsh, hzl4, hq, hqn, hll4, hb1⟩
      have HV4 := Lib.hid (Own.isS hv hvn)
      have HQ4 := Lib.hid (Own.isS hq hqn)
      have HF4 := Lib.hid (Draw.rshort_fine hsh)
      replace HB := Lib.hid (HB.out.trans (hb1.mono HB.out.size))
      clear hv hvn hsh hq hqn hb1
      go_wp2_with fail
      refine (QuestionNamesC.impl v4 z4 q4 l4 _ HV4.out HF4.out (by omega) HQ4.out (Draw.qfine l4) (by omega)).mono ?_
      rintro e ws12 ⟨vj1, j0, j1, rfl, hA, ho, hb1⟩
      replace HV4 := Lib.hid (IsS.below LRule.rec HV4.out hb1)
      replace HQ4 := Lib.hid (IsS.below LQuestion.rec HQ4.out hb1)
      replace HB := Lib.hid (HB.out.trans (hb1.mono HB.out.size))
      clear hb1
      have HAj := Lib.hid hA
      have HOj := Lib.hid ho
      clear hA ho
      go_wp2_with fail
      refine (QuestionNamesC.spec v4 z4 q4 l4 _ HV4.out HF4.out (by omega) HQ4.out (Draw.qfine l4) (by omega)).mono ?_
      rintro e ws13 ⟨vj2, t0, t1, rfl, hA, ho, hb1⟩
      replace HV4 := Lib.hid (IsS.below LRule.rec HV4.out hb1)
      replace HQ4 := Lib.hid (IsS.below LQuestion.rec HQ4.out hb1)
      replace HOj := Lib.hid (HOj.out.kept hb1)
      replace HB := Lib.hid (HB.out.trans (hb1.mono HB.out.size))
      clear hb1
      obtain ⟨e5, e6⟩ := QuestionNamesC.same HAj.out hA
      subst e5 e6
      have HOj2 := Lib.hid ho.is
      have e2 : (j1 != j1) = false := by simp
      clear hA ho
      go_wp2_with fail
      have e3 : (j1 == j1) = true := by simp
      refine (StV.vTexts vj1 vj2 j0 _ HOj.out.is HOj2.out).mono ?_
      rintro e w99 ⟨rfl, hb1⟩
      replace HB := Lib.hid (HB.out.trans (hb1.mono HB.out.size))
      go_wp2_with fail
      go_ret
      exact ⟨rfl, HB.out⟩
  | true =>
    go_upto_if 73 with fail
    go_cut [7] (fun s7 wx => Below w.heap.size w wx)
    case first =>
      obtain ⟨p, hS⟩ := second_yes HAp.out
      have HSc := Lib.hid hS
      have hln := sec_len hS
      have hl6 := good_len hS.good
      have HSm := Lib.hid (HOp.out.isS (SecondQuestionC_own HOp.out (by omega)))
      have hpl : p0.length ≤ 1048576 := by omega
      clear hS
      go_wp2_with fail
      refine (DisposeQuestionC.impl v z q l _ HV.out HF.out (by omega) HQ.out (Draw.qfine l) (by omega)).mono ?_
      rintro e wi1 ⟨vaa, aa0, aaq, aak, rfl, hA, ho, hb1⟩
      replace HV := Lib.hid (IsS.below LRule.rec HV.out hb1)
      replace HQ := Lib.hid (IsS.below LQuestion.rec HQ.out hb1)
      replace HSm := Lib.hid (IsS.below LQuestion.rec HSm.out hb1)
      replace HB := Lib.hid (HB.out.trans (hb1.mono HB.out.size))
      clear hb1
      have e5 := StM.early HSc.out hA
      subst e5
      have HOaa := Lib.hid ho
      clear hA ho
      have hbx := (Below.refl wi1.heap.size wi1).alloc (Nat.le_refl _) (Obj.cells #[.int .i64 aaq.rule, .int .i64 aaq.mover, .bool aaq.sec] 47)
      replace HV := Lib.hid (IsS.below LRule.rec HV.out hbx)
      replace HQ := Lib.hid (IsS.below LQuestion.rec HQ.out hbx)
      replace HSm := Lib.hid (IsS.below LQuestion.rec HSm.out hbx)
      replace HOaa := Lib.hid (HOaa.out.kept hbx)
      replace HB := Lib.hid (HB.out.trans (hbx.mono HB.out.size))
      have HXaa := Lib.hid (Bs.Bx.new wi1 47 #[.int .i64 aaq.rule, .int .i64 aaq.mover, .bool aaq.sec])
      clear hbx
      go_wp2_with fail
      refine (DisposeQuestionC.impl v z vp1 p0 _ HV.out HF.out (by omega) HSm.out (Draw.qfine p0) (by omega)).mono ?_
      rintro e wi3 ⟨vbb, bb0, bbq, bbk, rfl, hA, ho, hb1⟩
      replace HV := Lib.hid (IsS.below LRule.rec HV.out hb1)
      replace HQ := Lib.hid (IsS.below LQuestion.rec HQ.out hb1)
      replace HSm := Lib.hid (IsS.below LQuestion.rec HSm.out hb1)
      replace HOaa := Lib.hid (HOaa.out.kept hb1)
      replace HXaa := Lib.hid (Bs.Bx.kept HXaa.out hb1)
      replace HB := Lib.hid (HB.out.trans (hb1.mono HB.out.size))
      clear hb1
      obtain ⟨e5, hbs, e6⟩ := StM.late HSc.out hA
      subst e5 e6
      have HBs := Lib.hid hbs
      clear hbs
      have HObb := Lib.hid ho
      clear hA ho
      have hbx := (Below.refl wi3.heap.size wi3).alloc (Nat.le_refl _) (Obj.cells #[.int .i64 bbq.rule, .int .i64 bbq.mover, .bool bbq.sec] 47)
      replace HV := Lib.hid (IsS.below LRule.rec HV.out hbx)
      replace HQ := Lib.hid (IsS.below LQuestion.rec HQ.out hbx)
      replace HSm := Lib.hid (IsS.below LQuestion.rec HSm.out hbx)
      replace HOaa := Lib.hid (HOaa.out.kept hbx)
      replace HXaa := Lib.hid (Bs.Bx.kept HXaa.out hbx)
      replace HObb := Lib.hid (HObb.out.kept hbx)
      replace HB := Lib.hid (HB.out.trans (hbx.mono HB.out.size))
      have HXbb := Lib.hid (Bs.Bx.new wi3 47 #[.int .i64 bbq.rule, .int .i64 bbq.mover, .bool bbq.sec])
      clear hbx
      go_wp2_with fail
      refine (DropUnsecondedC.impl v z q l _ HV.out HF.out (by omega) HQ.out (Draw.qfine l) (by omega)).mono ?_
      rintro e wi5 ⟨vd, d0, d1, rfl, hA, ho, hb1⟩
      replace HV := Lib.hid (IsS.below LRule.rec HV.out hb1)
      replace HQ := Lib.hid (IsS.below LQuestion.rec HQ.out hb1)
      replace HSm := Lib.hid (IsS.below LQuestion.rec HSm.out hb1)
      replace HOaa := Lib.hid (HOaa.out.kept hb1)
      replace HXaa := Lib.hid (Bs.Bx.kept HXaa.out hb1)
      replace HObb := Lib.hid (HObb.out.kept hb1)
      replace HXbb := Lib.hid (Bs.Bx.kept HXbb.out hb1)
      replace HB := Lib.hid (HB.out.trans (hb1.mono HB.out.size))
      clear hb1
      obtain ⟨e5, e6⟩ := drop_one HSc.out hA
      subst e5 e6
      have HOd := Lib.hid ho.is
      clear hA ho
      go_wp2_with fail
      refine (DropUnsecondedC.impl v z vp1 p0 _ HV.out HF.out (by omega) HSm.out (Draw.qfine p0) (by omega)).mono ?_
      rintro e wi6 ⟨vk, k0, k1, rfl, hA, ho, hb1⟩
      replace HV := Lib.hid (IsS.below LRule.rec HV.out hb1)
      replace HQ := Lib.hid (IsS.below LQuestion.rec HQ.out hb1)
      replace HSm := Lib.hid (IsS.below LQuestion.rec HSm.out hb1)
      replace HOaa := Lib.hid (HOaa.out.kept hb1)
      replace HXaa := Lib.hid (Bs.Bx.kept HXaa.out hb1)
      replace HObb := Lib.hid (HObb.out.kept hb1)
      replace HXbb := Lib.hid (Bs.Bx.kept HXbb.out hb1)
      replace HOd := Lib.hid (HOd.out.below LQuestion.rec hb1)
      replace HB := Lib.hid (HB.out.trans (hb1.mono HB.out.size))
      clear hb1
      obtain ⟨e5, e6⟩ := drop_none HSc.out hA
      have e5 := e5.symm
      subst e5 e6
      have HOk := Lib.hid ho.is
      clear hA ho
      go_wp2_with fail
      refine (SecondQuestionC.impl v z vp1 p0 x _ HV.out HF.out (by omega) HSm.out (Draw.qfine p0) (by omega)).mono ?_
      rintro e wi7 ⟨vs, s0, s1, rfl, hA, ho, hb1⟩
      replace HV := Lib.hid (IsS.below LRule.rec HV.out hb1)
      replace HQ := Lib.hid (IsS.below LQuestion.rec HQ.out hb1)
      replace HSm := Lib.hid (IsS.below LQuestion.rec HSm.out hb1)
      replace HOaa := Lib.hid (HOaa.out.kept hb1)
      replace HXaa := Lib.hid (Bs.Bx.kept HXaa.out hb1)
      replace HObb := Lib.hid (HObb.out.kept hb1)
      replace HXbb := Lib.hid (Bs.Bx.kept HXbb.out hb1)
      replace HOd := Lib.hid (HOd.out.below LQuestion.rec hb1)
      replace HOk := Lib.hid (HOk.out.below LQuestion.rec hb1)
      replace HB := Lib.hid (HB.out.trans (hb1.mono HB.out.size))
      clear hb1
      have e6 := again_no HSc.out hA
      subst e6
      clear hA ho
      have x2 := HXbb.out.cell 2
      simp only [List.getElem?_toArray, List.getElem?_cons_zero, List.getElem?_cons_succ] at x2
      rw [HBs.out] at x2
      obtain ⟨ab, cb, e8⟩ : ∃ a c, vbb = .slice a (l.length - 1) c := by
        obtain ⟨a, c, e, _⟩ := HObb.out.is
        rw [List.length_take, Nat.min_eq_left (by omega)] at e
        exact ⟨a, c, e⟩
      subst e8
      obtain ⟨aq, oq, cq, e9, _⟩ := id HQ.out
      subst e9
      obtain ⟨n, hn⟩ : ∃ n, n = l.length := ⟨_, rfl⟩
      have hn1 : 1 ≤ n := by omega
      have hn7 : n ≤ 7 := by omega
      rw [← hn] at HQ HObb HOd ⊢
      have HNn := Lib.hid hn
      clear hn hln hl6
      have n1 : IntKind.i64.wrap ((n : Int) - 1) = ((n - 1 : Nat) : Int) := by rw [show (n : Int) - 1 = ((n - 1 : Nat) : Int) by omega]; exact IntWalk.i64_in _ (by omega)
      have n2 : (((n - 1 : Nat) : Int) != ((n - 1 : Nat) : Int)) = false := by simp
      have HVd := Lib.hid (fun X hX => StV.vQuestions vd _ _ X (HOd.out.below LQuestion.rec hX) (HObb.out.is.below LQuestion.rec hX))
      have HVk := Lib.hid (fun X hX => StV.vQuestions vk vp1 _ X (HOk.out.below LQuestion.rec hX) (IsS.is LQuestion.rec (IsS.below LQuestion.rec HSm.out hX)))
      go_wp2_with fail
      refine (HVd.out _ (Below.refl _ _)).mono ?_
      rintro e wy ⟨rfl, hb1⟩
      replace HB := Lib.hid (HB.out.trans (hb1.mono HB.out.size))
      have HVk2 := Lib.hid (HVk.out _ hb1)
      clear HVk HVd hb1 x2
      go_wp2_with fail
      refine HVk2.out.mono ?_
      rintro e wz ⟨rfl, hb1⟩
      replace HB := Lib.hid (HB.out.trans (hb1.mono HB.out.size))
      clear HVk2 hb1
      go_wp2_with fail
      clear n1 n2 hn1 hn7
      have hn := HNn.out
      subst hn
      go_meet
      exact HB.out
    case rest =>
    have HB := Lib.hid hcut
    clear HAp HF hzl hll HV HQ HOp hcut
    go_wp2_with fail
    refine (Draw.drawDisposeQuestion a0 len0 cap0 z0 _ (row_kept HW0.out HB.out) hl).mono ?_
    rintro e wr1 ⟨v2, z2, q2, l2, rfl, hv, hvn, hsh, hzl2, hq, hqn, hll2, hb1⟩
    have HV2 := Lib.hid (Own.isS hv hvn)
    have HQ2 := Lib.hid (Own.isS hq hqn)
    have HF2 := Lib.hid (Draw.rshort_fine hsh)
    replace HB := Lib.hid (HB.out.trans (hb1.mono HB.out.size))
    clear hv hvn hsh hq hqn hb1
    go_wp2_with fail
    refine (DisposeQuestionC.impl v2 z2 q2 l2 _ HV2.out HF2.out (by omega) HQ2.out (Draw.qfine l2) (by omega)).mono ?_
    rintro e wr2 ⟨vf, f0, fq, fk, rfl, hA, ho, hb1⟩
    replace HV2 := Lib.hid (IsS.below LRule.rec HV2.out hb1)
    replace HQ2 := Lib.hid (IsS.below LQuestion.rec HQ2.out hb1)
    replace HB := Lib.hid (HB.out.trans (hb1.mono HB.out.size))
    clear hb1
    have HAf := Lib.hid hA
    have HOf := Lib.hid ho
    clear hA ho
    have hbx := (Below.refl wr2.heap.size wr2).alloc (Nat.le_refl _) (Obj.cells #[.int .i64 fq.rule, .int .i64 fq.mover, .bool fq.sec] 47)
    replace HV2 := Lib.hid (IsS.below LRule.rec HV2.out hbx)
    replace HQ2 := Lib.hid (IsS.below LQuestion.rec HQ2.out hbx)
    replace HOf := Lib.hid (HOf.out.kept hbx)
    replace HB := Lib.hid (HB.out.trans (hbx.mono HB.out.size))
    have HXf := Lib.hid (Bs.Bx.new wr2 47 #[.int .i64 fq.rule, .int .i64 fq.mover, .bool fq.sec])
    clear hbx
    go_wp2_with fail
    refine (DisposeQuestionC.spec v2 z2 q2 l2 _ HV2.out HF2.out (by omega) HQ2.out (Draw.qfine l2) (by omega)).mono ?_
    rintro e wr4 ⟨vg, g0, gq, gk, rfl, hA, ho, hb1⟩
    replace HV2 := Lib.hid (IsS.below LRule.rec HV2.out hb1)
    replace HQ2 := Lib.hid (IsS.below LQuestion.rec HQ2.out hb1)
    replace HOf := Lib.hid (HOf.out.kept hb1)
    replace HXf := Lib.hid (Bs.Bx.kept HXf.out hb1)
    replace HB := Lib.hid (HB.out.trans (hb1.mono HB.out.size))
    clear hb1
    obtain ⟨e5, e6, e7⟩ := DisposeQuestionC.same HAf.out hA
    subst e5 e6 e7
    have HOg := Lib.hid ho.is
    clear hA ho
    have hbx := (Below.refl wr4.heap.size wr4).alloc (Nat.le_refl _) (Obj.cells #[.int .i64 fq.rule, .int .i64 fq.mover, .bool fq.sec] 47)
    replace HV2 := Lib.hid (IsS.below LRule.rec HV2.out hbx)
    replace HQ2 := Lib.hid (IsS.below LQuestion.rec HQ2.out hbx)
    replace HOf := Lib.hid (HOf.out.kept hbx)
    replace HXf := Lib.hid (Bs.Bx.kept HXf.out hbx)
    replace HOg := Lib.hid (HOg.out.below LQuestion.rec hbx)
    replace HB := Lib.hid (HB.out.trans (hbx.mono HB.out.size))
    have HXg := Lib.hid (Bs.Bx.new wr4 47 #[.int .i64 fq.rule, .int .i64 fq.mover, .bool fq.sec])
    clear hbx
    have e2 : (fk != fk) = false := by simp
    have x0 := HXf.out.cell 0
    have x1 := HXf.out.cell 1
    have x2 := HXf.out.cell 2
    have y0 := HXg.out.cell 0
    have y1 := HXg.out.cell 1
    have y2 := HXg.out.cell 2
    simp only [List.getElem?_toArray, List.getElem?_cons_zero, List.getElem?_cons_succ] at x0 x1 x2 y0 y1 y2
    clear HXf HXg
    go_wp2_with fail
    refine (StV.vQuestions vf vg f0 _ HOf.out.is HOg.out).mono ?_
    rintro e wr6 ⟨rfl, hb1⟩
    replace HV2 := Lib.hid (IsS.below LRule.rec HV2.out hb1)
    replace HQ2 := Lib.hid (IsS.below LQuestion.rec HQ2.out hb1)
    replace HOf := Lib.hid (HOf.out.kept hb1)
    replace HOg := Lib.hid (HOg.out.below LQuestion.rec hb1)
    replace HB := Lib.hid (HB.out.trans (hb1.mono HB.out.size))
    clear hb1
    clear HOg
    clear e2 x0 x1 x2 y0 y1 y2
    cases fk with
    | true =>
      have HGr := Lib.hid (rest_good HAf.out)
      go_wp2_with fail
      refine (good_asI true (IsS.is LRule.rec HV2.out) HOf.out.is HF2.out HGr.out).mono ?_
      rintro e wr7 ⟨rfl, hb1⟩
      replace HV2 := Lib.hid (IsS.below LRule.rec HV2.out hb1)
      replace HQ2 := Lib.hid (IsS.below LQuestion.rec HQ2.out hb1)
      replace HOf := Lib.hid (HOf.out.kept hb1)
      replace HB := Lib.hid (HB.out.trans (hb1.mono HB.out.size))
      clear hb1
      clear HOf HV2 HQ2
      clear HAf HF2 hzl2 hll2
      go_wp2_with fail
      refine (Draw.drawDropUnseconded a0 len0 cap0 z0 _ (row_kept HW0.out HB.out) hl).mono ?_
      rintro e wr8 ⟨v3, z3, q3, l3, rfl, hv, hvn, hsh, hzl3, hq, hqn, hll3, hb1⟩
      have HV3 := Lib.hid (Own.isS hv hvn)
      have HQ3 := Lib.hid (Own.isS hq hqn)
      have HF3 := Lib.hid (Draw.rshort_fine hsh)
      replace HB := Lib.hid (HB.out.trans (hb1.mono HB.out.size))
      clear hv hvn hsh hq hqn hb1
      go_wp2_with fail
      refine (DropUnsecondedC.impl v3 z3 q3 l3 _ HV3.out HF3.out (by omega) HQ3.out (Draw.qfine l3) (by omega)).mono ?_
      rintro e wr9 ⟨vh1, h0, h1, rfl, hA, ho, hb1⟩
      replace HV3 := Lib.hid (IsS.below LRule.rec HV3.out hb1)
      replace HQ3 := Lib.hid (IsS.below LQuestion.rec HQ3.out hb1)
      replace HB := Lib.hid (HB.out.trans (hb1.mono HB.out.size))
      clear hb1
      have HAh := Lib.hid hA
      have HOh := Lib.hid ho
      clear hA ho
      go_wp2_with fail
      refine (DropUnsecondedC.spec v3 z3 q3 l3 _ HV3.out HF3.out (by omega) HQ3.out (Draw.qfine l3) (by omega)).mono ?_
      rintro e wr10 ⟨vh2, t0, t1, rfl, hA, ho, hb1⟩
      replace HV3 := Lib.hid (IsS.below LRule.rec HV3.out hb1)
      replace HQ3 := Lib.hid (IsS.below LQuestion.rec HQ3.out hb1)
      replace HOh := Lib.hid (HOh.out.kept hb1)
      replace HB := Lib.hid (HB.out.trans (hb1.mono HB.out.size))
      clear hb1
      obtain ⟨e5, e6⟩ := DropUnsecondedC.same HAh.out hA
      subst e5 e6
      have HOh2 := Lib.hid ho.is
      have e2 : (h1 != h1) = false := by simp
      clear hA ho
      go_wp2_with fail
      refine (StV.vQuestions vh1 vh2 h0 _ HOh.out.is HOh2.out).mono ?_
      rintro e wr11 ⟨rfl, hb1⟩
      replace HV3 := Lib.hid (IsS.below LRule.rec HV3.out hb1)
      replace HQ3 := Lib.hid (IsS.below LQuestion.rec HQ3.out hb1)
      replace HOh := Lib.hid (HOh.out.kept hb1)
      replace HOh2 := Lib.hid (HOh2.out.below LQuestion.rec hb1)
      replace HB := Lib.hid (HB.out.trans (hb1.mono HB.out.size))
      clear hb1
      clear HOh2
      clear HOh HV3 HQ3
      clear e2 HAh HF3 hzl3 hll3
      go_wp2_with fail
      refine (Draw.drawQuestionNames a0 len0 cap0 z0 _ (row_kept HW0.out HB.out) hl).mono ?_
      rintro e wr12 ⟨v4, z4, q4, l4, rfl, hv, hvn, hsh, hzl4, hq, hqn, hll4, hb1⟩
      have HV4 := Lib.hid (Own.isS hv hvn)
      have HQ4 := Lib.hid (Own.isS hq hqn)
      have HF4 := Lib.hid (Draw.rshort_fine hsh)
      replace HB := Lib.hid (HB.out.trans (hb1.mono HB.out.size))
      clear hv hvn hsh hq hqn hb1
      go_wp2_with fail
      refine (QuestionNamesC.impl v4 z4 q4 l4 _ HV4.out HF4.out (by omega) HQ4.out (Draw.qfine l4) (by omega)).mono ?_
      rintro e wr13 ⟨vj1, j0, j1, rfl, hA, ho, hb1⟩
      replace HV4 := Lib.hid (IsS.below LRule.rec HV4.out hb1)
      replace HQ4 := Lib.hid (IsS.below LQuestion.rec HQ4.out hb1)
      replace HB := Lib.hid (HB.out.trans (hb1.mono HB.out.size))
      clear hb1
      have HAj := Lib.hid hA
      have HOj := Lib.hid ho
      clear hA ho
      go_wp2_with fail
      refine (QuestionNamesC.spec v4 z4 q4 l4 _ HV4.out HF4.out (by omega) HQ4.out (Draw.qfine l4) (by omega)).mono ?_
      rintro e wr14 ⟨vj2, t0, t1, rfl, hA, ho, hb1⟩
      replace HV4 := Lib.hid (IsS.below LRule.rec HV4.out hb1)
      replace HQ4 := Lib.hid (IsS.below LQuestion.rec HQ4.out hb1)
      replace HOj := Lib.hid (HOj.out.kept hb1)
      replace HB := Lib.hid (HB.out.trans (hb1.mono HB.out.size))
      clear hb1
      obtain ⟨e5, e6⟩ := QuestionNamesC.same HAj.out hA
      subst e5 e6
      have HOj2 := Lib.hid ho.is
      have e2 : (j1 != j1) = false := by simp
      clear hA ho
      go_wp2_with fail
      have e3 : (j1 == j1) = true := by simp
      refine (StV.vTexts vj1 vj2 j0 _ HOj.out.is HOj2.out).mono ?_
      rintro e w99 ⟨rfl, hb1⟩
      replace HB := Lib.hid (HB.out.trans (hb1.mono HB.out.size))
      go_wp2_with fail
      go_ret
      exact ⟨rfl, HB.out⟩
    | false =>
      clear HOf HV2 HQ2
      clear HAf HF2 hzl2 hll2
      go_wp2_with fail
      refine (Draw.drawDropUnseconded a0 len0 cap0 z0 _ (row_kept HW0.out HB.out) hl).mono ?_
      rintro e ws7 ⟨v3, z3, q3, l3, rfl, hv, hvn, hsh, hzl3, hq, hqn, hll3, hb1⟩
      have HV3 := Lib.hid (Own.isS hv hvn)
      have HQ3 := Lib.hid (Own.isS hq hqn)
      have HF3 := Lib.hid (Draw.rshort_fine hsh)
      replace HB := Lib.hid (HB.out.trans (hb1.mono HB.out.size))
      clear hv hvn hsh hq hqn hb1
      go_wp2_with fail
      refine (DropUnsecondedC.impl v3 z3 q3 l3 _ HV3.out HF3.out (by omega) HQ3.out (Draw.qfine l3) (by omega)).mono ?_
      rintro e ws8 ⟨vh1, h0, h1, rfl, hA, ho, hb1⟩
      replace HV3 := Lib.hid (IsS.below LRule.rec HV3.out hb1)
      replace HQ3 := Lib.hid (IsS.below LQuestion.rec HQ3.out hb1)
      replace HB := Lib.hid (HB.out.trans (hb1.mono HB.out.size))
      clear hb1
      have HAh := Lib.hid hA
      have HOh := Lib.hid ho
      clear hA ho
      go_wp2_with fail
      refine (DropUnsecondedC.spec v3 z3 q3 l3 _ HV3.out HF3.out (by omega) HQ3.out (Draw.qfine l3) (by omega)).mono ?_
      rintro e ws9 ⟨vh2, t0, t1, rfl, hA, ho, hb1⟩
      replace HV3 := Lib.hid (IsS.below LRule.rec HV3.out hb1)
      replace HQ3 := Lib.hid (IsS.below LQuestion.rec HQ3.out hb1)
      replace HOh := Lib.hid (HOh.out.kept hb1)
      replace HB := Lib.hid (HB.out.trans (hb1.mono HB.out.size))
      clear hb1
      obtain ⟨e5, e6⟩ := DropUnsecondedC.same HAh.out hA
      subst e5 e6
      have HOh2 := Lib.hid ho.is
      have e2 : (h1 != h1) = false := by simp
      clear hA ho
      go_wp2_with fail
      refine (StV.vQuestions vh1 vh2 h0 _ HOh.out.is HOh2.out).mono ?_
      rintro e ws10 ⟨rfl, hb1⟩
      replace HV3 := Lib.hid (IsS.below LRule.rec HV3.out hb1)
      replace HQ3 := Lib.hid (IsS.below LQuestion.rec HQ3.out hb1)
      replace HOh := Lib.hid (HOh.out.kept hb1)
      replace HOh2 := Lib.hid (HOh2.out.below LQuestion.rec hb1)
      replace HB := Lib.hid (HB.out.trans (hb1.mono HB.out.size))
      clear hb1
      clear HOh2
      clear HOh HV3 HQ3
      clear e2 HAh HF3 hzl3 hll3
      go_wp2_with fail
      refine (Draw.drawQuestionNames a0 len0 cap0 z0 _ (row_kept HW0.out HB.out) hl).mono ?_
      rintro e ws11 ⟨v4, z4, q4, l4, rfl, hv, hvn, hsh, hzl4, hq, hqn, hll4, hb1⟩
      have HV4 := Lib.hid (Own.isS hv hvn)
      have HQ4 := Lib.hid (Own.isS hq hqn)
      have HF4 := Lib.hid (Draw.rshort_fine hsh)
      replace HB := Lib.hid (HB.out.trans (hb1.mono HB.out.size))
      clear hv hvn hsh hq hqn hb1
      go_wp2_with fail
      refine (QuestionNamesC.impl v4 z4 q4 l4 _ HV4.out HF4.out (by omega) HQ4.out (Draw.qfine l4) (by omega)).mono ?_
      rintro e ws12 ⟨vj1, j0, j1, rfl, hA, ho, hb1⟩
      replace HV4 := Lib.hid (IsS.below LRule.rec HV4.out hb1)
      replace HQ4 := Lib.hid (IsS.below LQuestion.rec HQ4.out hb1)
      replace HB := Lib.hid (HB.out.trans (hb1.mono HB.out.size))
      clear hb1
      have HAj := Lib.hid hA
      have HOj := Lib.hid ho
      clear hA ho
      go_wp2_with fail
      refine (QuestionNamesC.spec v4 z4 q4 l4 _ HV4.out HF4.out (by omega) HQ4.out (Draw.qfine l4) (by omega)).mono ?_
      rintro e ws13 ⟨vj2, t0, t1, rfl, hA, ho, hb1⟩
      replace HV4 := Lib.hid (IsS.below LRule.rec HV4.out hb1)
      replace HQ4 := Lib.hid (IsS.below LQuestion.rec HQ4.out hb1)
      replace HOj := Lib.hid (HOj.out.kept hb1)
      replace HB := Lib.hid (HB.out.trans (hb1.mono HB.out.size))
      clear hb1
      obtain ⟨e5, e6⟩ := QuestionNamesC.same HAj.out hA
      subst e5 e6
      have HOj2 := Lib.hid ho.is
      have e2 : (j1 != j1) = false := by simp
      clear hA ho
      go_wp2_with fail
      have e3 : (j1 == j1) = true := by simp
      refine (StV.vTexts vj1 vj2 j0 _ HOj.out.is HOj2.out).mono ?_
      rintro e w99 ⟨rfl, hb1⟩
      replace HB := Lib.hid (HB.out.trans (hb1.mono HB.out.size))
      go_wp2_with fail
      go_ret
      exact ⟨rfl, HB.out⟩
end Go.Proofs.Ytbaflfbidgolfaa.fnSeconds
