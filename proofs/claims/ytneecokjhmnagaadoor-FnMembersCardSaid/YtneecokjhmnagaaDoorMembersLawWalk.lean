/- FnMembers: the law's walk, for every code. -/
import Derived.Test.YtneecokjhmnagaaDoorMbV
import Derived.Test.YtneecokjhmnagaaDoorDrawMt
import Derived.Test.YtneecokjhmnagaaDoorParseMembersC
import Derived.Test.YtneecokjhmnagaaDoorIsValidMembersC
import Derived.Test.YtneecokjhmnagaaDoorJ1
import Derived.BigQuiet
import Derived.Deep.DeepCutAuto
namespace Go.Proofs.YtneecokjhmnagaaDoor.fnMembers
open Go.RowKit Bs Mem
set_option linter.unusedVariables false
theorem row_kept {k : IntKind} {w w' : World} {a : Option Addr} {len cap : Nat} {zs : List Int} (h : Frame.IsRow k w a len cap zs) (hb : Below w.heap.size w w') : Frame.IsRow k w' a len cap zs := by
  rcases h with h | ⟨x, h1, h2, h3, h4, h5, h6⟩
  · exact .inl h
  · refine .inr ⟨x, h1, h2, h3, h4, fun i hi => ?_, h6⟩
    have hc := h5 i hi
    rw [hb.cell (cell_lt hc)]
    exact hc
set_option maxRecDepth 100000 in
set_option maxHeartbeats 6400000 in
theorem walk (a0 : Option Addr) (len0 cap0 : Nat) (z0 : List Int) (w : World) (sh : w.ShapedOpen Tryd.prog) (vp : Laid.Pow w) (vr : Laid.Err "strconv.ErrRange" w) (vs : Laid.Err "strconv.ErrSyntax" w) (w0 : Frame.IsRow .u8 w a0 len0 cap0 z0) :
    Calls Tryd.prog 3 #[.slice a0 len0 cap0] w fun e w' => e = .returned (.bool true) ∧ Below w.heap.size w w' := by
  have HW0 := Lib.hid w0
  have HVP := Lib.hid vp
  have HVR := Lib.hid vr
  have HVS := Lib.hid vs
  clear w0 sh vp vr vs
  by_cases hbig : 65536 < len0
  · have hd : decide ((65536 : Int) < len0) = true := decide_eq_true (by omega)
    have HR := Lib.hid (MbV.rBig a0 len0 cap0 w)
    rw [hd] at HR
    clear hd
    go_enter Tryd.func3, Tryd.ntmps3
    go_wp2_with fail
    refine HR.out.mono ?_
    rintro e w' ⟨rfl, rfl⟩
    go_wp2_with fail
    go_ret
    exact ⟨rfl, Below.refl _ _⟩
  have hd : decide ((65536 : Int) < len0) = false := decide_eq_false (by omega)
  have hl : len0 ≤ 65536 := by omega
  have HR := Lib.hid (MbV.rBig a0 len0 cap0 w)
  rw [hd] at HR
  clear hd hbig
  go_enter Tryd.func3, Tryd.ntmps3
  go_wp2_with fail
  refine HR.out.mono ?_
  rintro e w' ⟨rfl, rfl⟩
  clear HR
  go_wp2_with fail
  refine (Draw.drawAdmitMember a0 len0 cap0 z0 _ HW0.out hl).mono ?_
  rintro e w1 ⟨v, z, s, rfl, hv, hvn, hsh, hzl, hss, hb1⟩
  have HV := Lib.hid (Own.isS hv hvn)
  have HF := Lib.hid (Draw.short_fine hsh)
  have HB := Lib.hid hb1
  clear hv hvn hsh hb1
  go_wp2_with fail
  refine (AdmitMemberC.impl v z s _ HV.out HF.out (by omega) (by omega)).mono ?_
  rintro e w2 ⟨v2, r0, r1, r2, rfl, hA, ho, hb1⟩
  replace HV := Lib.hid (IsS.below LMember.rec HV.out hb1)
  replace HB := Lib.hid (HB.out.trans (hb1.mono HB.out.size))
  have HO := Lib.hid (Own.is ho)
  have HON := Lib.hid (fun hz : 0 < r0.length => Own.isS ho (MbV.own_somed ho hz))
  have HA := Lib.hid hA
  clear hA hb1 ho
  go_wp2_with fail
  refine (AdmitMemberC.spec v z s _ HV.out HF.out (by omega) (by omega)).mono ?_
  rintro e w3 ⟨v3, s0, s1, s2, rfl, hA, ho, hb1⟩
  obtain ⟨rfl, rfl, rfl⟩ := AdmitMemberC.same HA.out hA
  replace HV := Lib.hid (IsS.below LMember.rec HV.out hb1)
  replace HO := Lib.hid (HO.out.below LMember.rec hb1)
  replace HON := Lib.hid (fun hz : 0 < r0.length => IsS.below LMember.rec (HON.out hz) hb1)
  replace HB := Lib.hid (HB.out.trans (hb1.mono HB.out.size))
  have HO3 := Lib.hid (Own.is ho)
  clear hA hb1 ho
  have e1 : (r2 != r2) = false := by simp
  have e2 : (r1 != r1) = false := by simp
  go_wp2_with fail
  refine (MbV.rMembers v2 v3 r0 _ HO.out HO3.out).mono ?_
  rintro e w4 ⟨rfl, hb1⟩
  replace HV := Lib.hid (IsS.below LMember.rec HV.out hb1)
  replace HO := Lib.hid (HO.out.below LMember.rec hb1)
  replace HON := Lib.hid (fun hz : 0 < r0.length => IsS.below LMember.rec (HON.out hz) hb1)
  replace HB := Lib.hid (HB.out.trans (hb1.mono HB.out.size))
  clear hb1 HO3 e1 e2
  go_upto_if 71 with fail
  go_cut [] (fun wx => Hid (Below w.heap.size w wx))
  case first =>
    cases r2 with
    | false =>
      clear HA HV HF HO HON
      go_wp2_with fail
      go_meet
      exact Lib.hid HB.out
    | true =>
      obtain ⟨hg, hpos, hra, hex⟩ := MbV.admitted HA.out
      have HG := Lib.hid hg
      have HEX := Lib.hid hex
      have HFR := Lib.hid (show ∀ x ∈ r0, LMember.Fine x by rw [hra]; exact AdmitMemberC.adm_fine rfl HF.out (by omega))
      have HLR := Lib.hid (show r0.length ≤ 1048576 by have := (good_of hg).1; omega)
      have HOS := Lib.hid (HON.out hpos)
      clear hg hra hex HA HO HON hpos
      go_wp2_with fail
      refine (ExpelMemberC.impl v2 r0 r1 _ HOS.out HFR.out HLR.out).mono ?_
      rintro e w5 ⟨v5, y0, y1, rfl, hE, ho, hb1⟩
      obtain ⟨rfl, rfl⟩ := HEX.out _ _ hE
      replace HV := Lib.hid (IsS.below LMember.rec HV.out hb1)
      replace HOS := Lib.hid (IsS.below LMember.rec HOS.out hb1)
      replace HB := Lib.hid (HB.out.trans (hb1.mono HB.out.size))
      have HO5 := Lib.hid (Own.is ho)
      clear hE ho hb1 HEX
      go_wp2_with fail
      refine (MbV.rMembers v5 v y0 _ HO5.out (IsS.is LMember.rec HV.out)).mono ?_
      rintro e w6 ⟨rfl, hb1⟩
      replace HOS := Lib.hid (IsS.below LMember.rec HOS.out hb1)
      replace HB := Lib.hid (HB.out.trans (hb1.mono HB.out.size))
      clear hb1 HO5 HV
      go_wp2_with fail
      refine (MemI.isValidMembers v2 r0 _ (IsS.is LMember.rec HOS.out) HFR.out).mono ?_
      rintro e w7 ⟨rfl, hb1⟩
      replace HB := Lib.hid (HB.out.trans (hb1.mono HB.out.size))
      have HGr := HG.out
      clear hb1 HOS HFR HLR
      go_wp2_with fail
      go_meet
      exact Lib.hid HB.out
  case rest =>
    as_aux_lemma =>
      clear HA HV HF HO HON HB
      have HB := hcut
      clear hcut
      go_wp2_with fail
      generalize wc = w8 at *
      refine (Draw.drawExpelMember a0 len0 cap0 z0 _ (row_kept HW0.out HB.out) hl).mono ?_
      rintro e w10 ⟨v, z, x, rfl, hv, hvn, hsh, hzl, hb1⟩
      have HV := Lib.hid (Own.isS hv hvn)
      have HF := Lib.hid (Draw.short_fine hsh)
      replace HB := Lib.hid (HB.out.trans (hb1.mono HB.out.size))
      clear hv hvn hsh hb1
      go_wp2_with fail
      refine (ExpelMemberC.impl v z x _ HV.out HF.out (by omega)).mono ?_
      rintro e w11 ⟨v2, r0, r1, rfl, hA, ho, hb1⟩
      replace HV := Lib.hid (IsS.below LMember.rec HV.out hb1)
      replace HB := Lib.hid (HB.out.trans (hb1.mono HB.out.size))
      have HO := Lib.hid (Own.is ho)
      have HA := Lib.hid hA
      clear hA hb1 ho
      go_wp2_with fail
      refine (ExpelMemberC.spec v z x _ HV.out HF.out (by omega)).mono ?_
      rintro e w12 ⟨v3, s0, s1, rfl, hA, ho, hb1⟩
      obtain ⟨rfl, rfl⟩ := ExpelMemberC.same HA.out hA
      replace HV := Lib.hid (IsS.below LMember.rec HV.out hb1)
      replace HO := Lib.hid (HO.out.below LMember.rec hb1)
      replace HB := Lib.hid (HB.out.trans (hb1.mono HB.out.size))
      have HO3 := Lib.hid (Own.is ho)
      clear hA hb1 ho
      go_upto_region 15 with fail
      go_cut [127] (fun sq wx => sq = .bool false ∧ Hid (Below w.heap.size w wx))
      case first =>
        obtain ⟨aO, cO, rfl, _⟩ := HO.out
        obtain ⟨bV, oV, cV, rfl, _⟩ := HV.out
        have e1 : (r1 != r1) = false := by simp
        go_wp2_with fail
        refine (MbV.rMembers _ v3 r0 _ HO.out HO3.out).mono ?_
        rintro e w13 ⟨rfl, hb1⟩
        replace HB := Lib.hid (HB.out.trans (hb1.mono HB.out.size))
        clear hb1 HO3 HO HV HF
        cases r1 with
        | false =>
          clear HA e1
          go_wp2_with fail
          go_meet
          exact ⟨by go_simp, Lib.hid HB.out⟩
        | true =>
          have hlen := MbV.expelled HA.out
          have c1 : IntKind.i64.wrap ((z.length : Int) - 1) = (z.length : Int) - 1 := IntWalk.i64_in _ (by omega)
          have c2 : ((r0.length : Int) != (z.length : Int) - 1) = false := by simp; omega
          clear hlen HA e1
          go_wp2_with fail
          go_meet
          exact ⟨by go_simp, Lib.hid HB.out⟩
      case rest =>
        as_aux_lemma =>
          clear HA HV HF HO HO3 HB
          obtain ⟨rfl, HB⟩ := hcut
          clear hzl
          go_wp2_with fail
          generalize wc = w14 at *
          refine (Draw.drawMembersText a0 len0 cap0 z0 _ (row_kept HW0.out HB.out) hl).mono ?_
          rintro e w15 ⟨v, z, rfl, hv, hvn, hsh, hzl, hb1⟩
          have HV := Lib.hid (Own.isS hv hvn)
          have HF := Lib.hid (Draw.short_fine hsh)
          replace HB := Lib.hid (HB.out.trans (hb1.mono HB.out.size))
          clear hv hvn hsh hb1
          go_wp2_with fail
          refine (MLine.impl v z _ HV.out HF.out (by omega)).mono ?_
          rintro e w16 ⟨r0, r1, rfl, hA, hb1⟩
          replace HV := Lib.hid (IsS.below LMember.rec HV.out hb1)
          replace HB := Lib.hid (HB.out.trans (hb1.mono HB.out.size))
          have HA := Lib.hid hA
          clear hA hb1
          go_wp2_with fail
          refine (MLine.spec v z _ HV.out HF.out (by omega)).mono ?_
          rintro e w17 ⟨s0, s1, rfl, hA, hb1⟩
          obtain ⟨rfl, rfl⟩ := MLine.same HA.out hA
          replace HV := Lib.hid (IsS.below LMember.rec HV.out hb1)
          replace HB := Lib.hid (HB.out.trans (hb1.mono HB.out.size))
          clear hA hb1
          have e0 : (r0.toList != r0.toList) = false := by simp
          have e1 : (r1 != r1) = false := by simp
          have HR1 := Lib.hid (show goodB z = r1 by rcases HA.out with ⟨g, _, h⟩ | ⟨g, _, h⟩ <;> rw [g, h])
          have HSz := Lib.hid (Draw.mtext_short HA.out (z := z))
          go_wp2_with fail
          refine (MemI.isValidMembers v z _ (IsS.is LMember.rec HV.out) HF.out).mono ?_
          rintro e w18 ⟨he, hb1⟩
          rw [HR1.out] at he
          subst he
          replace HV := Lib.hid (IsS.below LMember.rec HV.out hb1)
          replace HB := Lib.hid (HB.out.trans (hb1.mono HB.out.size))
          clear hb1
          go_wp2_with fail
          refine (ParseMembersC.impl r0 _ (by have := HSz.out; omega) (HVP.out.below HB.out) (HVR.out.below HB.out) (HVS.out.below HB.out)).mono ?_
          rintro e w19 ⟨v4, y0, y1, rfl, hP, ho, hb1⟩
          replace HV := Lib.hid (IsS.below LMember.rec HV.out hb1)
          replace HB := Lib.hid (HB.out.trans (hb1.mono HB.out.size))
          have HO := Lib.hid (Own.is ho)
          have HP := Lib.hid hP
          clear hP ho hb1 e0 e1
          go_upto_region 23 with fail
          go_cut [169] (fun sq wx => sq = .bool false ∧ Hid (Below w.heap.size w wx))
          case first =>
            cases r1 with
            | false =>
              clear HA HV HF HO HP HR1
              go_wp2_with fail
              go_meet
              exact ⟨by go_simp, Lib.hid HB.out⟩
            | true =>
              obtain ⟨rfl, rfl⟩ := ParseMembersC.same HP.out (Or.inl ⟨rfl, HR1.out, by
                rcases HA.out with ⟨_, h, _⟩ | ⟨_, _, h⟩
                · exact h.symm
                · exact nomatch h⟩)
              go_wp2_with fail
              refine (MbV.rMembers v4 v _ _ HO.out (IsS.is LMember.rec HV.out)).mono ?_
              rintro e w20 ⟨rfl, hb1⟩
              replace HB := Lib.hid (HB.out.trans (hb1.mono HB.out.size))
              clear hb1 HA HV HF HO HP HR1
              go_wp2_with fail
              go_meet
              exact ⟨by go_simp, Lib.hid HB.out⟩
          case rest =>
            as_aux_lemma =>
              clear HA HV HF HO HP HR1 HSz HB
              obtain ⟨rfl, HB⟩ := hcut
              clear hzl
              go_wp2_with fail
              generalize wc = w21 at *
              refine (Draw.drawParseMembers a0 len0 cap0 z0 _ (row_kept HW0.out HB.out) hl).mono ?_
              rintro e w22 ⟨s, rfl, hss, hb1⟩
              replace HB := Lib.hid (HB.out.trans (hb1.mono HB.out.size))
              clear hb1
              go_wp2_with fail
              refine (ParseMembersC.impl s _ (by omega) (HVP.out.below HB.out) (HVR.out.below HB.out) (HVS.out.below HB.out)).mono ?_
              rintro e w23 ⟨v2, r0, r1, rfl, hA, ho, hb1⟩
              replace HB := Lib.hid (HB.out.trans (hb1.mono HB.out.size))
              have HO := Lib.hid (Own.is ho)
              have HA := Lib.hid hA
              clear hA hb1 ho
              go_wp2_with fail
              refine (ParseMembersC.spec s _ (by omega)).mono ?_
              rintro e w24 ⟨v3, s0, s1, rfl, hA, ho, hb1⟩
              obtain ⟨rfl, rfl⟩ := ParseMembersC.same HA.out hA
              replace HO := Lib.hid (HO.out.below LMember.rec hb1)
              replace HB := Lib.hid (HB.out.trans (hb1.mono HB.out.size))
              have HO3 := Lib.hid (Own.is ho)
              clear hA hb1 ho HA hss
              have e1 : (r1 != r1) = false := by simp
              go_wp2_with fail
              refine (MbV.rMembers v2 v3 r0 _ HO.out HO3.out).mono ?_
              rintro e w25 ⟨rfl, hb1⟩
              replace HB := Lib.hid (HB.out.trans (hb1.mono HB.out.size))
              clear hb1 HO3 e1 HO
              go_wp2_with fail
              refine (Draw.drawNumbersByName a0 len0 cap0 z0 _ (row_kept HW0.out HB.out) hl).mono ?_
              rintro e w26 ⟨v, z, rfl, hv, hvn, hsh, hzl, hb1⟩
              have HV := Lib.hid (Own.isS hv hvn)
              have HF := Lib.hid (Draw.short_fine hsh)
              replace HB := Lib.hid (HB.out.trans (hb1.mono HB.out.size))
              clear hv hvn hsh hb1
              go_wp2_with fail
              refine (NumbersByNameC.impl v z _ HV.out HF.out (by omega)).mono ?_
              rintro e w27 ⟨v4, q0, q1, rfl, hA, ho, hb1⟩
              replace HV := Lib.hid (IsS.below LMember.rec HV.out hb1)
              replace HB := Lib.hid (HB.out.trans (hb1.mono HB.out.size))
              have HO := Lib.hid (Own.is ho)
              have HA := Lib.hid hA
              clear hA hb1 ho
              go_wp2_with fail
              refine (NumbersByNameC.spec v z _ HV.out HF.out (by omega)).mono ?_
              rintro e w28 ⟨v5, t0, t1, rfl, hA, ho, hb1⟩
              obtain ⟨rfl, rfl⟩ := NumbersByNameC.same HA.out hA
              replace HV := Lib.hid (IsS.below LMember.rec HV.out hb1)
              replace HB := Lib.hid (HB.out.trans (hb1.mono HB.out.size))
              replace HO := Lib.hid (HO.out.below LInt.rec hb1)
              have HO3 := Lib.hid (Own.is ho)
              clear hA hb1 ho
              obtain ⟨aO, cO, rfl, _⟩ := HO.out
              obtain ⟨bV, oV, cV, rfl, _⟩ := HV.out
              have e1 : (q1 == q1) = true := by simp
              go_wp2_with fail
              refine (MbV.rInts _ v5 q0 _ HO.out HO3.out).mono ?_
              rintro e w29 ⟨rfl, hb1⟩
              replace HB := Lib.hid (HB.out.trans (hb1.mono HB.out.size))
              clear hb1 HO3 HO HV HF
              cases q1 with
              | false =>
                clear HA e1
                go_wp2_with fail
                go_ret
                exact ⟨by go_simp, HB.out⟩
              | true =>
                have hlen := MbV.told HA.out
                have c2 : ((q0.length : Int) == (z.length : Int)) = true := by rw [hlen]; simp
                clear hlen HA e1
                go_wp2_with fail
                go_ret
                exact ⟨by go_simp, HB.out⟩
end Go.Proofs.YtneecokjhmnagaaDoor.fnMembers
