/- FnDocuments: the law's walk, for every code. -/
import Derived.Test.YtmpolpeomabcfaaDoorBelongsToC
import Derived.BigQuiet
import Derived.Test.YtmpolpeomabcfaaDoorDrawDt
import Derived.Test.YtmpolpeomabcfaaDoorDocU
import Derived.Test.YtmpolpeomabcfaaDoorLaid
import Derived.Deep.DeepCutAuto
namespace Go.Proofs.YtmpolpeomabcfaaDoor.fnDocuments
open Go.RowKit Bs Word Doc DocU
set_option linter.unusedVariables false
theorem rBig (a : Option Addr) (len cap : Nat) (w : World) : Calls Tryd.prog 8 #[.slice a len cap] w fun e w' => e = .returned (.bool (decide ((65536 : Int) < len))) ∧ w = w' := by
  go_enter Tryd.func8, Tryd.ntmps8
  go_wp2_with fail
  go_ret
  exact ⟨rfl, rfl⟩
set_option maxRecDepth 100000 in
set_option maxHeartbeats 800000 in
/-- two slices of the same members -/
theorem rSections (v v' : Value) (xs : List M) (w : World) (h : Is LSection.rec w v xs) (h' : Is LSection.rec w v' xs) :
    Calls Tryd.prog 21 #[v, v'] w fun e w' => e = .returned (.bool true) ∧ Below w.heap.size w w' := by
  obtain ⟨a, cp, rfl, h⟩ := h
  obtain ⟨a', cp', rfl, h'⟩ := h'
  have hc := h.at_ LSection.rec
  have hc' := h'.at_ LSection.rec
  obtain ⟨n, hn⟩ : ∃ n, n = xs.length := ⟨_, rfl⟩
  have hnb : n ≤ cp := by have := h.1; omega
  have hnb' : n ≤ cp' := by have := h'.1; omega
  have h2 := h.2.1
  have h2' := h'.2.1
  unfold maxLen at h2 h2'
  rw [← hn]
  have hle : n ≤ xs.length := by omega
  clear hn h h'
  have hne : ((n : Int) != (n : Int)) = false := by simp
  go_enter Tryd.func21, Tryd.ntmps21
  go_wp2_with fail
  go_loopw [5] (fun i wr => ∃ k : Nat, k ≤ n ∧ i = .int .i64 k ∧ Below w.heap.size w wr) (fun i _ => n - (intOf i).toNat)
  case atStart => exact ⟨0, Nat.zero_le _, rfl, Below.refl _ _⟩
  case round =>
    obtain ⟨k, hk, rfl, hb⟩ := hrel
    by_cases hlt : k < n
    · have hx : k < xs.length := by omega
      obtain ⟨b, o, rfl, hbl, hcell0⟩ := hc.out k xs[k] (List.getElem?_eq_getElem hx)
      obtain ⟨b', o', rfl, hbl', hcell0'⟩ := hc'.out k xs[k] (List.getElem?_eq_getElem hx)
      obtain ⟨c0, c1⟩ := LSection.cells (hcell0.below LSection.rec hb hbl)
      obtain ⟨d0, d1⟩ := LSection.cells (hcell0'.below LSection.rec hb hbl')
      simp only [LSection.rec_n] at c0 c1 d0 d1
      clear hcell0 hcell0'
      generalize xs[k] = X at *
      have k0 : 0 ≤ (k : Int) := by omega
      have k1 : (k : Int) < (n : Int) := by omega
      go_wp2_with fail
      go_quiet (fail)
      have hb2 : Below w.heap.size w (wr.drewN nq) := hb.trans ((drawn_below _ _).mono hb.size)
      go_wp2_with fail
      go_roundw
      case rel => exact ⟨k + 1, by omega, by go_num, hb2⟩
      case measure => simp [intOf]; omega
    · go_wp2_with fail
      go_ret
      exact ⟨rfl, hb⟩
theorem row_kept {k : IntKind} {w w' : World} {a : Option Addr} {len cap : Nat} {zs : List Int} (h : Frame.IsRow k w a len cap zs) (hb : Below w.heap.size w w') : Frame.IsRow k w' a len cap zs := by
  rcases h with h | ⟨x, h1, h2, h3, h4, h5, h6⟩
  · exact .inl h
  · refine .inr ⟨x, h1, h2, h3, h4, fun i hi => ?_, h6⟩
    have hc := h5 i hi
    rw [hb.cell (cell_lt hc)]
    exact hc
theorem isS_at {w : World} {g n c : Nat} {z : List M} {k : Nat} {X : M} (h : IsS LSection.rec w (.slice (some ⟨g, 0, none⟩) n c) z) (hX : z[k]? = some X) : At LSection.rec w g (k * LSection.rec.n) X := by
  obtain ⟨b', o', c', e, hbl, h1, h2, h3⟩ := h
  simp only [Value.slice.injEq, Option.some.injEq, Addr.mk.injEq, and_true] at e
  obtain ⟨⟨rfl, rfl⟩, rfl, rfl⟩ := e
  have := h3 k X hX
  rwa [Nat.zero_add] at this
set_option maxRecDepth 100000 in
set_option maxHeartbeats 6400000 in
theorem walk (a0 : Option Addr) (len0 cap0 : Nat) (z0 : List Int) (w : World) (sh : w.ShapedOpen Tryd.prog) (vp : Laid.Pow w) (w0 : Frame.IsRow .u8 w a0 len0 cap0 z0) :
    Calls Tryd.prog 3 #[.slice a0 len0 cap0] w fun e w' => e = .returned (.bool true) ∧ Below w.heap.size w w' := by
  have HW0 := Lib.hid w0
  clear w0 sh vp
  by_cases hbig : 65536 < len0
  · have hd : decide ((65536 : Int) < len0) = true := decide_eq_true (by omega)
    have HR := Lib.hid (rBig a0 len0 cap0 w)
    rw [hd] at HR
    clear hd
    go_enter Tryd.func3, Tryd.ntmps3
    go_wp2_with fail
    refine HR.out.mono ?_
    rintro e w' ⟨rfl, rfl⟩
    go_wp2_with fail
    go_ret
    exact ⟨rfl, Below.refl _ _⟩
  have hd : decide ((65536 : Int) < len0) = false := decide_eq_false (by omega)
  have hl : len0 ≤ 65536 := by omega
  have HR := Lib.hid (rBig a0 len0 cap0 w)
  rw [hd] at HR
  have HB := Lib.hid (Below.refl w.heap.size w)
  clear hd hbig
  go_enter Tryd.func3, Tryd.ntmps3
  go_wp2_with fail
  refine HR.out.mono ?_
  rintro e w' ⟨rfl, rfl⟩
  clear HR
  go_wp2_with fail
  refine (Draw.drawSectionNumber a0 len0 cap0 z0 _ HW0.out hl).mono ?_
  rintro e w1 ⟨z, g, c, x, rfl, hv, hsh, hzl, hb1⟩
  have HV := Lib.hid (Own.isS hv ⟨g, rfl⟩)
  have HF := Lib.hid (Draw.short_fine hsh)
  replace HB := Lib.hid (HB.out.trans (hb1.mono HB.out.size))
  clear hv hsh hb1
  go_wp2_with fail
  refine (SectionNumberC.impl _ z x _ HV.out HF.out (by omega)).mono ?_
  rintro e w2 ⟨p0, p1, rfl, hA, hb1⟩
  replace HV := Lib.hid (IsS.below LSection.rec HV.out hb1)
  replace HB := Lib.hid (HB.out.trans (hb1.mono HB.out.size))
  have HA := Lib.hid hA
  clear hA hb1
  go_wp2_with fail
  refine (SectionNumberC.spec _ z x _ HV.out HF.out (by omega)).mono ?_
  rintro e w3 ⟨q0, q1, rfl, hA, hb1⟩
  obtain ⟨rfl, rfl⟩ := SectionNumberC.same HA.out hA
  replace HV := Lib.hid (IsS.below LSection.rec HV.out hb1)
  replace HB := Lib.hid (HB.out.trans (hb1.mono HB.out.size))
  clear hA hb1
  have e1 : (p0.toList != p0.toList) = false := by simp
  have e2 : (p1 != p1) = false := by simp
  go_upto_if 60 with fail
  go_cut [9] (fun _ wx => Below w3.heap.size w3 wx)
  case first =>
    clear e1 e2
    cases p1 with
    | false =>
      go_wp2_with fail
      go_meet
      exact Below.refl _ _
    | true =>
      have hss := Draw.num_short HA.out
      obtain ⟨hg, k, rfl, hk, hs⟩ := num_told HA.out
      have HS := Lib.hid hs
      have HG := Lib.hid hg
      have hk0 : 0 ≤ (k : Int) := by omega
      have hk1 : (k : Int) < (z.length : Int) := by omega
      clear hs hg HA
      go_wp2_with fail
      refine (FindSectionC.impl _ z p0 _ HV.out HF.out (by omega) (by omega)).mono ?_
      rintro e w4 ⟨q0, q1, rfl, hQ, hb1⟩
      obtain ⟨rfl, rfl⟩ := find_back HG.out hk HS.out hQ
      replace HV := Lib.hid (IsS.below LSection.rec HV.out hb1)
      have HBl := Lib.hid hb1
      clear hQ hb1
      go_wp2_with fail
      refine (BelongsToC.impl _ z k _ HV.out HF.out (by omega)).mono ?_
      rintro e w5 ⟨b0, b1, rfl, hP, hb1⟩
      replace HV := Lib.hid (IsS.below LSection.rec HV.out hb1)
      replace HBl := Lib.hid (HBl.out.trans (hb1.mono HBl.out.size))
      have hbl := belongs HG.out hk hP
      have hX := List.getElem?_eq_getElem hk
      have hdk := dep_at hX
      have hbd := good_dep HG.out hk
      have mX := (LSection.cells (isS_at HV.out hX)).1
      simp only [LSection.rec_n] at mX
      clear hX hP hb1
      generalize z[k] = X at *
      rcases hbl with ⟨rfl, h1⟩ | ⟨rfl, h1, u, rfl, hu, hup, hdu⟩
      · have hd0 : decide (1 < X.depth) = false := decide_eq_false (by omega)
        have hd1 : ¬ 1 < X.depth := by omega
        clear hdk hbd h1
        go_wp2_with fail
        go_meet
        exact HBl.out
      · have hd0 : decide (1 < X.depth) = true := decide_eq_true (by omega)
        have hd1 : 1 < X.depth := by omega
        have hu0 : 0 ≤ (u : Int) := by omega
        have hu1 : (u : Int) < (z.length : Int) := by omega
        have s1 : IntKind.i64.wrap (X.depth - 1) = X.depth - 1 := IntWalk.i64_in _ (by omega)
        have HN := Lib.hid (And.intro hup (And.intro hdu hdk))
        clear hdk hbd h1 hup hdu
        go_wp2_with fail
        refine (SectionNumberC.impl _ z u _ HV.out HF.out (by omega)).mono ?_
        rintro e w6 ⟨t0, t1, rfl, hT, hb1⟩
        obtain ⟨hT0, rfl⟩ := num_is HG.out hu hT
        replace HV := Lib.hid (IsS.below LSection.rec HV.out hb1)
        replace HBl := Lib.hid (HBl.out.trans (hb1.mono HBl.out.size))
        have hX := List.getElem?_eq_getElem hk
        have mX := (LSection.cells ((isS_at (X := z[k]) HV.out hX))).1
        have hdX := dep_at hX
        have hU := List.getElem?_eq_getElem hu
        have mU := (LSection.cells (isS_at HV.out hU)).1
        have hdU := dep_at hU
        simp only [LSection.rec_n] at mX mU
        have hXe : z[k].depth = X.depth := by rw [← hdX]; exact HN.out.2.2
        rw [hXe] at mX
        have hne : (z[u].depth != X.depth - 1) = false := by
          have := HN.out.2.1
          have := HN.out.2.2
          simp; omega
        obtain ⟨hex, hsz⟩ := owner_prefix HN.out.1
        rw [← HS.out, ← hT0] at hex hsz
        have ht300 := Draw.num_short hT
        have c1 : decide ((p0.size : Int) ≤ (t0.size : Int)) = false := decide_eq_false (by omega)
        have c2 : ¬ p0.size ≤ t0.size := by omega
        have c3 : IntKind.i64.wrap ((t0.size : Int) + 1) = (t0.size : Int) + 1 := IntWalk.i64_in _ (by omega)
        have c4 : (t0.size : Int) + 1 ≤ (p0.size : Int) := by omega
        have c5 : ((t0.size : Int) + 1).toNat = t0.size + 1 := by omega
        have c6 : ¬ 9223372036854775807 < t0.size + 1 := by omega
        have c7 : ¬ (p0.size : Int) ≤ (t0.size : Int) := by omega
        have c8 : 0 ≤ (t0.size : Int) + 1 := by omega
        clear hX hdX hU hdU hXe hT0 hT hb1
        generalize z[u] = U at *
        go_upto_region 15 with fail
        go_quiet (fail)
        have HBD := Lib.hid (HBl.out.trans ((drawn_below w6 nq).mono HBl.out.size))
        clear HV HBl mX mU
        go_wp2_with fail
        go_meet
        exact HBD.out
  case rest =>
    as_aux_lemma =>
      have hb1 := hcut
      replace HB := Lib.hid (HB.out.trans (hb1.mono HB.out.size))
      clear hb1 hcut HV HF HA hzl e1 e2
      go_wp2_with fail
      generalize wc = w7 at *
      refine (Draw.drawFindSection a0 len0 cap0 z0 _ (row_kept HW0.out HB.out) hl).mono ?_
      rintro e w8 ⟨z, g, c, s, rfl, hv, hsh, hzl, hss, hb1⟩
      have HV := Lib.hid (Own.isS hv ⟨g, rfl⟩)
      have HF := Lib.hid (Draw.short_fine hsh)
      replace HB := Lib.hid (HB.out.trans (hb1.mono HB.out.size))
      clear hv hsh hb1
      go_wp2_with fail
      refine (FindSectionC.impl _ z s _ HV.out HF.out (by omega) (by omega)).mono ?_
      rintro e w9 ⟨p0, p1, rfl, hA, hb1⟩
      replace HV := Lib.hid (IsS.below LSection.rec HV.out hb1)
      replace HB := Lib.hid (HB.out.trans (hb1.mono HB.out.size))
      have HA := Lib.hid hA
      clear hA hb1
      go_wp2_with fail
      refine (FindSectionC.spec _ z s _ HV.out HF.out (by omega) (by omega)).mono ?_
      rintro e w10 ⟨q0, q1, rfl, hA, hb1⟩
      obtain ⟨rfl, rfl⟩ := FindSectionC.same HA.out hA
      replace HV := Lib.hid (IsS.below LSection.rec HV.out hb1)
      replace HB := Lib.hid (HB.out.trans (hb1.mono HB.out.size))
      clear hA hb1
      clear HV HA HF
      have e1 : (p0 != p0) = false := by simp
      have e2 : (p1 != p1) = false := by simp
      go_upto_region 22 with fail
      go_wp2_with fail
      refine (Draw.drawDocumentText a0 len0 cap0 z0 _ (row_kept HW0.out HB.out) hl).mono ?_
      rintro e w11 ⟨z, g, c, rfl, hv, hsh, hzl, hb1⟩
      clear e1 e2
      have HV := Lib.hid (Own.isS hv ⟨g, rfl⟩)
      have HF := Lib.hid (Draw.short_fine hsh)
      replace HB := Lib.hid (HB.out.trans (hb1.mono HB.out.size))
      clear hv hsh hb1
      go_wp2_with fail
      refine (DocumentTextC.impl _ z _ HV.out HF.out (by omega)).mono ?_
      rintro e w12 ⟨p0, p1, rfl, hA, hb1⟩
      replace HV := Lib.hid (IsS.below LSection.rec HV.out hb1)
      replace HB := Lib.hid (HB.out.trans (hb1.mono HB.out.size))
      have HA := Lib.hid hA
      clear hA hb1
      go_wp2_with fail
      refine (DocumentTextC.spec _ z _ HV.out HF.out (by omega)).mono ?_
      rintro e w13 ⟨q0, q1, rfl, hA, hb1⟩
      obtain ⟨rfl, rfl⟩ := DocumentTextC.same HA.out hA
      replace HV := Lib.hid (IsS.below LSection.rec HV.out hb1)
      replace HB := Lib.hid (HB.out.trans (hb1.mono HB.out.size))
      clear hA hb1
      have hts := Draw.text_short HA.out
      have HD := Lib.hid (DocG.isDocument _ z w13 (IsS.is LSection.rec HV.out) HF.out)
      unfold DocG.Post at HD
      rw [text_good HA.out] at HD
      have e1 : (p0.toList != p0.toList) = false := by simp
      have e2 : (p1 != p1) = false := by simp
      go_wp2_with fail
      refine HD.out.mono ?_
      rintro e w14 ⟨rfl, hb1⟩
      replace HV := Lib.hid (IsS.below LSection.rec HV.out hb1)
      replace HB := Lib.hid (HB.out.trans (hb1.mono HB.out.size))
      clear hb1 HD
      go_wp2_with fail
      refine (ParseDocumentC.impl p0 _ (by omega)).mono ?_
      rintro e w15 ⟨v2, l0, l1, rfl, hP, ho, hb1⟩
      replace HV := Lib.hid (IsS.below LSection.rec HV.out hb1)
      replace HB := Lib.hid (HB.out.trans (hb1.mono HB.out.size))
      have HO := Lib.hid (Own.is ho)
      have HP := Lib.hid hP
      clear hP ho hb1 e1 e2
      go_upto_region 28 with fail
      go_cut [196] (fun t wx => t = .bool false ∧ Below w15.heap.size w15 wx)
      case first =>
        cases p1 with
        | false =>
          go_wp2_with fail
          go_meet
          exact ⟨rfl, Below.refl _ _⟩
        | true =>
          obtain ⟨_, hl0, rfl⟩ := read_back HA.out HP.out
          have HR := Lib.hid (rSections v2 _ z _ (by rw [← hl0]; exact HO.out) (IsS.is LSection.rec HV.out))
          clear hl0
          go_wp2_with fail
          refine HR.out.mono ?_
          rintro e w16 ⟨rfl, hb1⟩
          go_wp2_with fail
          go_meet
          exact ⟨rfl, hb1⟩
      case rest =>
        as_aux_lemma =>
          obtain ⟨rfl, hb1⟩ := hcut
          replace HB := Lib.hid (HB.out.trans (hb1.mono HB.out.size))
          clear hb1 HV HF HO HA HP hzl hts
          go_wp2_with fail
          generalize wc = w17 at *
          refine (Draw.drawParseDocument a0 len0 cap0 z0 _ (row_kept HW0.out HB.out) hl).mono ?_
          rintro e w18 ⟨s, rfl, hs, hb1⟩
          replace HB := Lib.hid (HB.out.trans (hb1.mono HB.out.size))
          clear hb1
          go_wp2_with fail
          refine (ParseDocumentC.impl s _ (by omega)).mono ?_
          rintro e w19 ⟨v4, r0, r1, rfl, hA, ho, hb1⟩
          replace HB := Lib.hid (HB.out.trans (hb1.mono HB.out.size))
          have HA := Lib.hid hA
          have HO := Lib.hid ho
          clear hA ho hb1
          go_wp2_with fail
          refine (ParseDocumentC.spec s _ (by omega)).mono ?_
          rintro e w20 ⟨v5, s0, s1, rfl, hA, ho, hb1⟩
          obtain ⟨rfl, rfl⟩ := ParseDocumentC.same HA.out hA
          replace HO := Lib.hid (HO.out.kept hb1)
          replace HB := Lib.hid (HB.out.trans (hb1.mono HB.out.size))
          have HO3 := Lib.hid (Own.is ho)
          have e2 : (r1 == r1) = true := by simp
          clear hA ho hb1
          go_wp2_with fail
          refine (rSections v4 v5 r0 _ HO.out.is HO3.out).mono ?_
          rintro e w21 ⟨rfl, hb1⟩
          replace HB := Lib.hid (HB.out.trans (hb1.mono HB.out.size))
          clear hb1
          go_wp2_with fail
          go_ret
          exact ⟨rfl, HB.out⟩
end Go.Proofs.YtmpolpeomabcfaaDoor.fnDocuments
