/- FnOffices: the law's walk, for every code. -/
import Derived.Test.YtbnkpkneccgfnaaOffM
namespace Go.Proofs.Ytbnkpkneccgfnaa.fnOffices
open Go.RowKit Bs Word Mem MemF Sq IntF GiveOfficeC PresidingMemberC OffM
set_option linter.unusedVariables false
theorem row_kept {k : IntKind} {w w' : World} {a : Option Addr} {len cap : Nat} {zs : List Int} (h : Frame.IsRow k w a len cap zs) (hb : Below w.heap.size w w') : Frame.IsRow k w' a len cap zs := by
  rcases h with h | ⟨x, h1, h2, h3, h4, h5, h6⟩
  · exact .inl h
  · refine .inr ⟨x, h1, h2, h3, h4, fun i hi => ?_, h6⟩
    have hc := h5 i hi
    rw [hb.cell (cell_lt hc)]
    exact hc
set_option maxRecDepth 100000 in
set_option maxHeartbeats 6400000 in
theorem walk (a0 : Option Addr) (len0 cap0 : Nat) (z0 : List Int) (w : World) (sh : w.ShapedOpen Try.prog) (w0 : Frame.IsRow .u8 w a0 len0 cap0 z0) :
    Calls Try.prog 4 #[.slice a0 len0 cap0] w fun e w' => e = .returned (.bool true) ∧ Below w.heap.size w w' := by
  have HW0 := Lib.hid w0
  clear w0 sh
  by_cases hbig : 65536 < len0
  · have hd : decide ((65536 : Int) < len0) = true := decide_eq_true (by omega)
    have HR := Lib.hid (rBig a0 len0 cap0 w)
    rw [hd] at HR
    clear hd
    go_enter Try.func4, Try.ntmps4
    go_wp2_with fail
    refine HR.out.mono ?_
    rintro e w' ⟨rfl, rfl⟩
    go_wp2_with fail
    go_ret
    exact ⟨rfl, Below.refl _ _⟩
  have hd : decide ((65536 : Int) < len0) = false := decide_eq_false (by omega)
  have hl : len0 ≤ 65536 := by omega
  have HR := Lib.hid (rBig a0 len0 cap0 w)
  rw [hd] at HR
  clear hd hbig
  go_enter Try.func4, Try.ntmps4
  go_wp2_with fail
  refine HR.out.mono ?_
  rintro e w' ⟨rfl, rfl⟩
  clear HR
  go_wp2_with fail
  refine (Draw.drawGiveOffice a0 len0 cap0 z0 _ HW0.out hl).mono ?_
  rintro e w1 ⟨v, z, x, y, rfl, hv, hvn, hsh, hzl, hb1⟩
  have HV := Lib.hid (Own.isS hv hvn)
  have HF := Lib.hid (Draw.short_fine hsh)
  have HB := Lib.hid hb1
  clear hv hvn hsh hb1
  go_wp2_with fail
  refine (GiveOfficeC.impl v z x y _ HV.out HF.out (by omega)).mono ?_
  rintro e w2 ⟨v2, r0, r1, rfl, hA, ho, hb1⟩
  replace HV := Lib.hid (IsS.below LMember.rec HV.out hb1)
  replace HB := Lib.hid (HB.out.trans (hb1.mono HB.out.size))
  have HO := Lib.hid (Own.is ho)
  have HA := Lib.hid hA
  clear hA hb1 ho
  go_wp2_with fail
  refine (GiveOfficeC.spec v z x y _ HV.out HF.out (by omega)).mono ?_
  rintro e w3 ⟨v3, s0, s1, rfl, hA, ho, hb1⟩
  obtain ⟨rfl, rfl⟩ := GiveOfficeC.same HA.out hA
  replace HV := Lib.hid (IsS.below LMember.rec HV.out hb1)
  replace HO := Lib.hid (HO.out.below LMember.rec hb1)
  replace HB := Lib.hid (HB.out.trans (hb1.mono HB.out.size))
  have HO3 := Lib.hid (Own.is ho)
  clear hA hb1 ho
  have e2 : (r1 != r1) = false := by simp
  go_wp2_with fail
  refine (OffM.rMembers v2 v3 r0 _ HO.out HO3.out).mono ?_
  rintro e w4 ⟨rfl, hb1⟩
  replace HV := Lib.hid (IsS.below LMember.rec HV.out hb1)
  replace HO := Lib.hid (HO.out.below LMember.rec hb1)
  replace HB := Lib.hid (HB.out.trans (hb1.mono HB.out.size))
  clear hb1 HO3 e2
  cases r1 with
  | false =>
    clear HA HV HF HO
    go_wp2_with fail
    refine (Draw.drawHolderOf a0 len0 cap0 z0 _ (row_kept HW0.out HB.out) hl).mono ?_
    rintro e w10 ⟨v, z, y, rfl, hv, hvn, hsh, hzl, hb1⟩
    have HV := Lib.hid (Own.isS hv hvn)
    have HF := Lib.hid (Draw.short_fine hsh)
    replace HB := Lib.hid (HB.out.trans (hb1.mono HB.out.size))
    clear hv hvn hsh hb1
    go_wp2_with fail
    refine (MemF.impl v z y _ HV.out HF.out (by omega)).mono ?_
    rintro e w11 ⟨r0, r1, rfl, hA, hb1⟩
    replace HV := Lib.hid (IsS.below LMember.rec HV.out hb1)
    replace HB := Lib.hid (HB.out.trans (hb1.mono HB.out.size))
    have HA := Lib.hid hA
    clear hA hb1
    go_wp2_with fail
    refine (MemF.spec v z y _ HV.out HF.out (by omega)).mono ?_
    rintro e w12 ⟨s0, s1, rfl, hA, hb1⟩
    obtain ⟨rfl, rfl⟩ := MemF.same HA.out hA
    replace HB := Lib.hid (HB.out.trans (hb1.mono HB.out.size))
    clear hA hb1 HA HV HF hzl
    have e1 : (r0 != r0) = false := by simp
    have e2 : (r1 != r1) = false := by simp
    go_wp2_with fail
    clear e1 e2
    refine (Draw.drawPresidingMember a0 len0 cap0 z0 _ (row_kept HW0.out HB.out) hl).mono ?_
    rintro e w20 ⟨v, z, u, p, rfl, hv, hvn, hsh, hzl, hu, hun, hpl, hb1⟩
    have HV := Lib.hid (Own.isS hv hvn)
    have HU := Lib.hid (Own.isS hu hun)
    have HF := Lib.hid (Draw.short_fine hsh)
    replace HB := Lib.hid (HB.out.trans (hb1.mono HB.out.size))
    clear hv hvn hsh hu hun hb1
    go_wp2_with fail
    refine (PresidingMemberC.impl v z u p _ HV.out HF.out (by omega) HU.out (fun _ _ => trivial) (by omega)).mono ?_
    rintro e w21 ⟨r0, r1, rfl, hA, hb1⟩
    replace HV := Lib.hid (IsS.below LMember.rec HV.out hb1)
    replace HU := Lib.hid (IsS.below LInt.rec HU.out hb1)
    replace HB := Lib.hid (HB.out.trans (hb1.mono HB.out.size))
    have HA := Lib.hid hA
    clear hA hb1
    go_wp2_with fail
    refine (PresidingMemberC.spec v z u p _ HV.out HF.out (by omega) HU.out (fun _ _ => trivial) (by omega)).mono ?_
    rintro e w22 ⟨s0, s1, rfl, hA, hb1⟩
    obtain ⟨rfl, rfl⟩ := PresidingMemberC.same HA.out hA
    replace HV := Lib.hid (IsS.below LMember.rec HV.out hb1)
    replace HU := Lib.hid (IsS.below LInt.rec HU.out hb1)
    replace HB := Lib.hid (HB.out.trans (hb1.mono HB.out.size))
    clear hA hb1
    have e1 : (r0 != r0) = false := by simp
    have e2 : (r1 != r1) = false := by simp
    cases r1 with
    | false =>
      go_wp2_with fail
      go_ret
      exact ⟨rfl, HB.out⟩
    | true =>
      obtain ⟨hpn, rfl⟩ := pre_told HA.out
      have HPn := Lib.hid hpn
      clear hpn
      go_wp2_with fail
      refine (MemF.impl v z 1 _ HV.out HF.out (by omega)).mono ?_
      rintro e w23 ⟨c0, c1, rfl, hA, hb1⟩
      replace HU := Lib.hid (IsS.below LInt.rec HU.out hb1)
      replace HB := Lib.hid (HB.out.trans (hb1.mono HB.out.size))
      clear hb1
      have HH1 := Lib.hid (rHas u p (pick z p) _ (IsS.is LInt.rec HU.out))
      rw [pick_has HPn.out] at HH1
      rcases hA with ⟨m, _, _, hh, rfl, rfl⟩ | ⟨_, rfl, rfl⟩
      · have HH2 := Lib.hid (rHas u p m.num _ (IsS.is LInt.rec HU.out))
        cases hs : hasB p m.num with
        | true =>
          have HE := Lib.hid (pick_chair hh hs)
          rw [hs] at HH2
          rw [HE.out] at HH1 ⊢
          clear hh hs HE HA
          have e3 : (m.num != m.num) = false := by simp
          go_wp2_with fail
          refine HH1.out.mono ?_
          rintro e w' ⟨rfl, rfl⟩
          go_wp2_with fail
          refine HH2.out.mono ?_
          rintro e w' ⟨rfl, rfl⟩
          go_wp2_with fail
          go_ret
          exact ⟨rfl, HB.out⟩
        | false =>
          rw [hs] at HH2
          clear hh hs HA
          generalize pick z p = PK at *
          go_wp2_with fail
          refine HH1.out.mono ?_
          rintro e w' ⟨rfl, rfl⟩
          go_wp2_with fail
          refine HH2.out.mono ?_
          rintro e w' ⟨rfl, rfl⟩
          go_wp2_with fail
          go_ret
          exact ⟨rfl, HB.out⟩
      · clear HA
        generalize pick z p = PK at *
        go_wp2_with fail
        refine HH1.out.mono ?_
        rintro e w' ⟨rfl, rfl⟩
        go_wp2_with fail
        go_ret
        exact ⟨rfl, HB.out⟩
  | true =>
    obtain ⟨hg, hi3, ⟨k, hk⟩, rfl⟩ := giv_told HA.out
    have HG := Lib.hid (give_good (n := x) hg hi3)
    have HK := Lib.hid hk
    have HFg := Lib.hid (show ∀ q ∈ giveL z x y, LMember.Fine q from fun q hq => by
      unfold giveL at hq
      obtain ⟨m, hm, rfl⟩ := List.mem_map.1 hq
      show (g x y m).name.size ≤ maxLen
      rw [g_name]; exact HF.out m hm)
    have hlen : (((giveL z x y).length : Int) != (z.length : Int)) = false := by rw [give_len]; simp
    have hlen2 : ((giveL z x y).length != z.length) = false := by rw [give_len]; simp
    clear hg hi3 hk HA HF
    obtain ⟨a2, c2, e5, _⟩ := id HO.out
    subst e5
    obtain ⟨b1, o1, c1, e6, _⟩ := id HV.out
    subst e6
    have HVa := Lib.hid (MemI.isValidMembers _ _ _ HO.out HFg.out)
    have HGt : Hid (MemG.Post (giveL z x y) = fun w e w' => e = .returned (.bool true) ∧ Below w.heap.size w w') := Lib.hid (by unfold MemG.Post; rw [HG.out])
    rw [HGt.out] at HVa
    go_wp2_with fail
    refine HVa.out.mono ?_
    rintro e w5 ⟨rfl, hb1⟩
    replace HO := Lib.hid (HO.out.below LMember.rec hb1)
    replace HB := Lib.hid (HB.out.trans (hb1.mono HB.out.size))
    clear hb1 HVa HGt HV
    cases hy : (y != 0) with
    | false =>
      clear HO
      go_wp2_with fail
      clear hlen hlen2 hy
      refine (Draw.drawHolderOf a0 len0 cap0 z0 _ (row_kept HW0.out HB.out) hl).mono ?_
      rintro e w10 ⟨v, z, y, rfl, hv, hvn, hsh, hzl, hb1⟩
      have HV := Lib.hid (Own.isS hv hvn)
      have HF := Lib.hid (Draw.short_fine hsh)
      replace HB := Lib.hid (HB.out.trans (hb1.mono HB.out.size))
      clear hv hvn hsh hb1
      go_wp2_with fail
      refine (MemF.impl v z y _ HV.out HF.out (by omega)).mono ?_
      rintro e w11 ⟨r0, r1, rfl, hA, hb1⟩
      replace HV := Lib.hid (IsS.below LMember.rec HV.out hb1)
      replace HB := Lib.hid (HB.out.trans (hb1.mono HB.out.size))
      have HA := Lib.hid hA
      clear hA hb1
      go_wp2_with fail
      refine (MemF.spec v z y _ HV.out HF.out (by omega)).mono ?_
      rintro e w12 ⟨s0, s1, rfl, hA, hb1⟩
      obtain ⟨rfl, rfl⟩ := MemF.same HA.out hA
      replace HB := Lib.hid (HB.out.trans (hb1.mono HB.out.size))
      clear hA hb1 HA HV HF hzl
      have e1 : (r0 != r0) = false := by simp
      have e2 : (r1 != r1) = false := by simp
      go_wp2_with fail
      clear e1 e2
      refine (Draw.drawPresidingMember a0 len0 cap0 z0 _ (row_kept HW0.out HB.out) hl).mono ?_
      rintro e w20 ⟨v, z, u, p, rfl, hv, hvn, hsh, hzl, hu, hun, hpl, hb1⟩
      have HV := Lib.hid (Own.isS hv hvn)
      have HU := Lib.hid (Own.isS hu hun)
      have HF := Lib.hid (Draw.short_fine hsh)
      replace HB := Lib.hid (HB.out.trans (hb1.mono HB.out.size))
      clear hv hvn hsh hu hun hb1
      go_wp2_with fail
      refine (PresidingMemberC.impl v z u p _ HV.out HF.out (by omega) HU.out (fun _ _ => trivial) (by omega)).mono ?_
      rintro e w21 ⟨r0, r1, rfl, hA, hb1⟩
      replace HV := Lib.hid (IsS.below LMember.rec HV.out hb1)
      replace HU := Lib.hid (IsS.below LInt.rec HU.out hb1)
      replace HB := Lib.hid (HB.out.trans (hb1.mono HB.out.size))
      have HA := Lib.hid hA
      clear hA hb1
      go_wp2_with fail
      refine (PresidingMemberC.spec v z u p _ HV.out HF.out (by omega) HU.out (fun _ _ => trivial) (by omega)).mono ?_
      rintro e w22 ⟨s0, s1, rfl, hA, hb1⟩
      obtain ⟨rfl, rfl⟩ := PresidingMemberC.same HA.out hA
      replace HV := Lib.hid (IsS.below LMember.rec HV.out hb1)
      replace HU := Lib.hid (IsS.below LInt.rec HU.out hb1)
      replace HB := Lib.hid (HB.out.trans (hb1.mono HB.out.size))
      clear hA hb1
      have e1 : (r0 != r0) = false := by simp
      have e2 : (r1 != r1) = false := by simp
      cases r1 with
      | false =>
        go_wp2_with fail
        go_ret
        exact ⟨rfl, HB.out⟩
      | true =>
        obtain ⟨hpn, rfl⟩ := pre_told HA.out
        have HPn := Lib.hid hpn
        clear hpn
        go_wp2_with fail
        refine (MemF.impl v z 1 _ HV.out HF.out (by omega)).mono ?_
        rintro e w23 ⟨c0, c1, rfl, hA, hb1⟩
        replace HU := Lib.hid (IsS.below LInt.rec HU.out hb1)
        replace HB := Lib.hid (HB.out.trans (hb1.mono HB.out.size))
        clear hb1
        have HH1 := Lib.hid (rHas u p (pick z p) _ (IsS.is LInt.rec HU.out))
        rw [pick_has HPn.out] at HH1
        rcases hA with ⟨m, _, _, hh, rfl, rfl⟩ | ⟨_, rfl, rfl⟩
        · have HH2 := Lib.hid (rHas u p m.num _ (IsS.is LInt.rec HU.out))
          cases hs : hasB p m.num with
          | true =>
            have HE := Lib.hid (pick_chair hh hs)
            rw [hs] at HH2
            rw [HE.out] at HH1 ⊢
            clear hh hs HE HA
            have e3 : (m.num != m.num) = false := by simp
            go_wp2_with fail
            refine HH1.out.mono ?_
            rintro e w' ⟨rfl, rfl⟩
            go_wp2_with fail
            refine HH2.out.mono ?_
            rintro e w' ⟨rfl, rfl⟩
            go_wp2_with fail
            go_ret
            exact ⟨rfl, HB.out⟩
          | false =>
            rw [hs] at HH2
            clear hh hs HA
            generalize pick z p = PK at *
            go_wp2_with fail
            refine HH1.out.mono ?_
            rintro e w' ⟨rfl, rfl⟩
            go_wp2_with fail
            refine HH2.out.mono ?_
            rintro e w' ⟨rfl, rfl⟩
            go_wp2_with fail
            go_ret
            exact ⟨rfl, HB.out⟩
        · clear HA
          generalize pick z p = PK at *
          go_wp2_with fail
          refine HH1.out.mono ?_
          rintro e w' ⟨rfl, rfl⟩
          go_wp2_with fail
          go_ret
          exact ⟨rfl, HB.out⟩
    | true =>
      have hy0 : y ≠ 0 := by simpa using hy
      have HHo := Lib.hid (MemF.implI _ _ y _ HO.out HFg.out)
      go_wp2_with fail
      refine HHo.out.mono ?_
      rintro e w6 ⟨q0, q1, rfl, hA, hb1⟩
      replace HB := Lib.hid (HB.out.trans (hb1.mono HB.out.size))
      obtain ⟨m, hm, hmn⟩ := give_hold (o := y) HK.out hy0
      have hq : q0 = x ∧ q1 = true := by
        rcases hA with ⟨m', _, _, h3, h4, h5⟩ | ⟨hno, _, _⟩
        · rw [hm] at h3; rw [← Option.some.inj h3, hmn] at h4; exact ⟨h4, h5⟩
        · rcases hno with h | h | h
          · rw [HG.out] at h; cases h
          · exact absurd h hy0
          · rw [hm] at h; cases h
      obtain ⟨rfl, rfl⟩ := hq
      clear hb1 hA HHo hm hmn hy hy0 HO HK
      have e3 : (q0 != q0) = false := by simp
      go_wp2_with fail
      clear hlen hlen2 e3
      refine (Draw.drawHolderOf a0 len0 cap0 z0 _ (row_kept HW0.out HB.out) hl).mono ?_
      rintro e w10 ⟨v, z, y, rfl, hv, hvn, hsh, hzl, hb1⟩
      have HV := Lib.hid (Own.isS hv hvn)
      have HF := Lib.hid (Draw.short_fine hsh)
      replace HB := Lib.hid (HB.out.trans (hb1.mono HB.out.size))
      clear hv hvn hsh hb1
      go_wp2_with fail
      refine (MemF.impl v z y _ HV.out HF.out (by omega)).mono ?_
      rintro e w11 ⟨r0, r1, rfl, hA, hb1⟩
      replace HV := Lib.hid (IsS.below LMember.rec HV.out hb1)
      replace HB := Lib.hid (HB.out.trans (hb1.mono HB.out.size))
      have HA := Lib.hid hA
      clear hA hb1
      go_wp2_with fail
      refine (MemF.spec v z y _ HV.out HF.out (by omega)).mono ?_
      rintro e w12 ⟨s0, s1, rfl, hA, hb1⟩
      obtain ⟨rfl, rfl⟩ := MemF.same HA.out hA
      replace HB := Lib.hid (HB.out.trans (hb1.mono HB.out.size))
      clear hA hb1 HA HV HF hzl
      have e1 : (r0 != r0) = false := by simp
      have e2 : (r1 != r1) = false := by simp
      go_wp2_with fail
      clear e1 e2
      refine (Draw.drawPresidingMember a0 len0 cap0 z0 _ (row_kept HW0.out HB.out) hl).mono ?_
      rintro e w20 ⟨v, z, u, p, rfl, hv, hvn, hsh, hzl, hu, hun, hpl, hb1⟩
      have HV := Lib.hid (Own.isS hv hvn)
      have HU := Lib.hid (Own.isS hu hun)
      have HF := Lib.hid (Draw.short_fine hsh)
      replace HB := Lib.hid (HB.out.trans (hb1.mono HB.out.size))
      clear hv hvn hsh hu hun hb1
      go_wp2_with fail
      refine (PresidingMemberC.impl v z u p _ HV.out HF.out (by omega) HU.out (fun _ _ => trivial) (by omega)).mono ?_
      rintro e w21 ⟨r0, r1, rfl, hA, hb1⟩
      replace HV := Lib.hid (IsS.below LMember.rec HV.out hb1)
      replace HU := Lib.hid (IsS.below LInt.rec HU.out hb1)
      replace HB := Lib.hid (HB.out.trans (hb1.mono HB.out.size))
      have HA := Lib.hid hA
      clear hA hb1
      go_wp2_with fail
      refine (PresidingMemberC.spec v z u p _ HV.out HF.out (by omega) HU.out (fun _ _ => trivial) (by omega)).mono ?_
      rintro e w22 ⟨s0, s1, rfl, hA, hb1⟩
      obtain ⟨rfl, rfl⟩ := PresidingMemberC.same HA.out hA
      replace HV := Lib.hid (IsS.below LMember.rec HV.out hb1)
      replace HU := Lib.hid (IsS.below LInt.rec HU.out hb1)
      replace HB := Lib.hid (HB.out.trans (hb1.mono HB.out.size))
      clear hA hb1
      have e1 : (r0 != r0) = false := by simp
      have e2 : (r1 != r1) = false := by simp
      cases r1 with
      | false =>
        go_wp2_with fail
        go_ret
        exact ⟨rfl, HB.out⟩
      | true =>
        obtain ⟨hpn, rfl⟩ := pre_told HA.out
        have HPn := Lib.hid hpn
        clear hpn
        go_wp2_with fail
        refine (MemF.impl v z 1 _ HV.out HF.out (by omega)).mono ?_
        rintro e w23 ⟨c0, c1, rfl, hA, hb1⟩
        replace HU := Lib.hid (IsS.below LInt.rec HU.out hb1)
        replace HB := Lib.hid (HB.out.trans (hb1.mono HB.out.size))
        clear hb1
        have HH1 := Lib.hid (rHas u p (pick z p) _ (IsS.is LInt.rec HU.out))
        rw [pick_has HPn.out] at HH1
        rcases hA with ⟨m, _, _, hh, rfl, rfl⟩ | ⟨_, rfl, rfl⟩
        · have HH2 := Lib.hid (rHas u p m.num _ (IsS.is LInt.rec HU.out))
          cases hs : hasB p m.num with
          | true =>
            have HE := Lib.hid (pick_chair hh hs)
            rw [hs] at HH2
            rw [HE.out] at HH1 ⊢
            clear hh hs HE HA
            have e3 : (m.num != m.num) = false := by simp
            go_wp2_with fail
            refine HH1.out.mono ?_
            rintro e w' ⟨rfl, rfl⟩
            go_wp2_with fail
            refine HH2.out.mono ?_
            rintro e w' ⟨rfl, rfl⟩
            go_wp2_with fail
            go_ret
            exact ⟨rfl, HB.out⟩
          | false =>
            rw [hs] at HH2
            clear hh hs HA
            generalize pick z p = PK at *
            go_wp2_with fail
            refine HH1.out.mono ?_
            rintro e w' ⟨rfl, rfl⟩
            go_wp2_with fail
            refine HH2.out.mono ?_
            rintro e w' ⟨rfl, rfl⟩
            go_wp2_with fail
            go_ret
            exact ⟨rfl, HB.out⟩
        · clear HA
          generalize pick z p = PK at *
          go_wp2_with fail
          refine HH1.out.mono ?_
          rintro e w' ⟨rfl, rfl⟩
          go_wp2_with fail
          go_ret
          exact ⟨rfl, HB.out⟩
end Go.Proofs.Ytbnkpkneccgfnaa.fnOffices
