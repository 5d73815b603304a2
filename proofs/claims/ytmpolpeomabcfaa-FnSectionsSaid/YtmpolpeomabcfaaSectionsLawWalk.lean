/- FnSections: the law's walk, for every code. -/
import Derived.Test.YtmpolpeomabcfaaSecM
import Derived.Test.YtmpolpeomabcfaaDrawDs
import Derived.Deep.DeepCutAuto
namespace Go.Proofs.Ytmpolpeomabcfaa.fnSections
open Go.RowKit Bs Word Doc SecM
set_option linter.unusedVariables false
theorem row_kept {k : IntKind} {w w' : World} {a : Option Addr} {len cap : Nat} {zs : List Int} (h : Frame.IsRow k w a len cap zs) (hb : Below w.heap.size w w') : Frame.IsRow k w' a len cap zs := by
  rcases h with h | ⟨x, h1, h2, h3, h4, h5, h6⟩
  · exact .inl h
  · refine .inr ⟨x, h1, h2, h3, h4, fun i hi => ?_, h6⟩
    have hc := h5 i hi
    rw [hb.cell (cell_lt hc)]
    exact hc
theorem isS_at {w : World} {g n c : Nat} {z : List M} {k : Nat} {X : M} (h : IsS LSection.rec w (.slice (some ⟨g, 0, none⟩) n c) z) (hX : z[k]? = some X) : At LSection.rec w g (k * LSection.rec.n) X := by
  obtain ⟨b', o', c', e, hbl, h1, h2, h3⟩ := h
  simp only [Value.slice.injEq, Option.some.injEq, Addr.mk.injEq, and_true] at e
  obtain ⟨⟨rfl, rfl⟩, rfl, rfl⟩ := e
  have := h3 k X hX
  rwa [Nat.zero_add] at this
theorem chk_fine {z r0 : List M} {i : Int} {s : M} {r1 : Bool} (h : AddSectionC.Ans z i s r0 r1) (hz : ∀ x ∈ z, LSection.Fine x) (hs : LSection.Fine s) : ∀ x ∈ r0, LSection.Fine x := by
  unfold AddSectionC.Ans AddSectionC.anA at h
  split at h
  · unfold DocK.chk at h
    split at h
    · simp only [Prod.mk.injEq] at h; rw [← h.1]; exact AddSectionC.add_fine hz hs
    · simp only [Prod.mk.injEq] at h; rw [← h.1]; intro x hx; cases hx
  · simp only [Prod.mk.injEq] at h; rw [← h.1]; intro x hx; cases hx
theorem bx_kept {w w' : World} {G : Nat} {t : TypeId} {cs : Array Value} (h : Draw.Bx w G t cs) (hb : Below w.heap.size w w') : Draw.Bx w' G t cs := (hb.block G h.lt).trans h
theorem own_len {w : World} {A : Nat} {v : Value} {z : List M} (h : Own LSection.rec 34 w A v z) : ∃ a c, v = .slice a z.length c := by
  rcases h.shape with ⟨rfl, rfl⟩ | ⟨g, cap, rfl, _⟩
  · exact ⟨_, _, rfl⟩
  · exact ⟨_, _, rfl⟩
set_option maxRecDepth 100000 in
set_option maxHeartbeats 6400000 in
theorem walk (a0 : Option Addr) (len0 cap0 : Nat) (z0 : List Int) (w : World) (sh : w.ShapedOpen Try.prog) (w0 : Frame.IsRow .u8 w a0 len0 cap0 z0) :
    Calls Try.prog 3 #[.slice a0 len0 cap0] w fun e w' => e = .returned (.bool true) ∧ Below w.heap.size w w' := by
  have HW0 := Lib.hid w0
  clear w0 sh
  by_cases hbig : 65536 < len0
  · have hd : decide ((65536 : Int) < len0) = true := decide_eq_true (by omega)
    have HR := Lib.hid (rBig a0 len0 cap0 w)
    rw [hd] at HR
    clear hd
    go_enter Try.func3, Try.ntmps3
    go_wp2_with fail
    refine HR.out.mono ?_
    rintro e w' ⟨rfl, rfl⟩
    go_wp2_with fail
    go_ret
    exact ⟨rfl, Below.refl _ _⟩
  have hd : decide ((65536 : Int) < len0) = false := decide_eq_false (by omega)
  have hl : len0 ≤ 65536 := by omega
  have HR := Lib.hid (rBig a0 len0 cap0 w)
  rw [hd] at HR
  have HB := Lib.hid (Below.refl w.heap.size w)
  clear hd hbig
  go_enter Try.func3, Try.ntmps3
  go_wp2_with fail
  refine HR.out.mono ?_
  rintro e w' ⟨rfl, rfl⟩
  clear HR
  go_wp2_with fail
  refine (Draw.drawCutSection a0 len0 cap0 z0 _ HW0.out hl).mono ?_
  rintro e w1 ⟨z, g, c, x, rfl, hv, hsh, hzl, hb1⟩
  have HV := Lib.hid (Own.isS hv ⟨g, rfl⟩)
  have HF := Lib.hid (Draw.short_fine hsh)
  replace HB := Lib.hid (HB.out.trans (hb1.mono HB.out.size))
  clear hv hsh hb1
  go_wp2_with fail
  refine (CutSectionC.impl _ z x _ HV.out HF.out (by omega)).mono ?_
  rintro e w2 ⟨v2, r0, r1, rfl, hA, ho, hb1⟩
  replace HV := Lib.hid (IsS.below LSection.rec HV.out hb1)
  replace HB := Lib.hid (HB.out.trans (hb1.mono HB.out.size))
  have HO := Lib.hid ho
  have HA := Lib.hid hA
  clear hA hb1 ho
  go_wp2_with fail
  refine (CutSectionC.spec _ z x _ HV.out HF.out (by omega)).mono ?_
  rintro e w3 ⟨v3, s0, s1, rfl, hA, ho, hb1⟩
  obtain ⟨rfl, rfl⟩ := CutSectionC.same HA.out hA
  replace HV := Lib.hid (IsS.below LSection.rec HV.out hb1)
  replace HO := Lib.hid (HO.out.kept hb1)
  replace HB := Lib.hid (HB.out.trans (hb1.mono HB.out.size))
  have HO3 := Lib.hid (Own.is ho)
  clear hA hb1 ho
  have e2 : (r1 != r1) = false := by simp
  go_wp2_with fail
  refine (rSections v2 v3 r0 _ HO.out.is HO3.out).mono ?_
  rintro e w4 ⟨rfl, hb1⟩
  replace HV := Lib.hid (IsS.below LSection.rec HV.out hb1)
  replace HO := Lib.hid (HO.out.kept hb1)
  replace HB := Lib.hid (HB.out.trans (hb1.mono HB.out.size))
  clear hb1 HO3 e2
  go_wp2_with fail
  refine (PartOfC.impl _ z x _ HV.out HF.out (by omega)).mono ?_
  rintro e w5 ⟨p0, p1, rfl, hP, hb1⟩
  replace HV := Lib.hid (IsS.below LSection.rec HV.out hb1)
  replace HO := Lib.hid (HO.out.kept hb1)
  replace HB := Lib.hid (HB.out.trans (hb1.mono HB.out.size))
  have HP := Lib.hid hP
  clear hP hb1
  go_wp2_with fail
  refine (PartOfC.spec _ z x _ HV.out HF.out (by omega)).mono ?_
  rintro e w6 ⟨q0, q1, rfl, hP, hb1⟩
  obtain ⟨rfl, rfl⟩ := PartOfC.same HP.out hP
  replace HV := Lib.hid (IsS.below LSection.rec HV.out hb1)
  replace HO := Lib.hid (HO.out.kept hb1)
  replace HB := Lib.hid (HB.out.trans (hb1.mono HB.out.size))
  have hcp := cut_part HA.out HP.out
  obtain rfl := hcp.1
  have HCP := Lib.hid hcp.2
  clear hP hb1 hcp
  have e1 : (p0 != p0) = false := by simp
  have e2 : (p1 != p1) = false := by simp
  go_upto_region 12 with fail
  obtain ⟨b2, n2, c2, rfl, hn2⟩ : ∃ a n c, v2 = .slice a n c ∧ n = r0.length := by
    obtain ⟨a, c, rfl⟩ := own_len HO.out
    exact ⟨a, _, c, rfl, rfl⟩
  clear e1 e2
  have HA12 := Lib.hid (show Below w6.heap.size w6 w6 from Below.refl _ _)
  go_cut [107] (fun t wx => t = .bool false ∧ Below w6.heap.size w6 wx)
  case first =>
    cases p1 with
    | false =>
      go_wp2_with fail
      go_meet
      exact ⟨rfl, Below.refl _ _⟩
    | true =>
      obtain ⟨u0, u1, u2⟩ := cut_len HA.out (HCP.out rfl)
      obtain ⟨hgr, hfr⟩ : goodB r0 = true ∧ ∀ x ∈ r0, LSection.Fine x := by
        obtain ⟨_, hgr, kk, _, _, hr0⟩ := cut_told HA.out
        refine ⟨hgr, fun x hx => ?_⟩
        rw [hr0] at hx
        rcases List.mem_append.1 hx with h | h
        · exact HF.out x (List.mem_of_mem_take h)
        · exact HF.out x (List.mem_of_mem_drop h)
      have HD := Lib.hid (DocG.isDocument _ r0 w6 HO.out.is hfr)
      unfold DocG.Post at HD
      rw [hgr] at HD
      rw [← hn2] at u0
      have s1 : IntKind.i64.wrap ((z.length : Int) - p0) = (z.length : Int) - p0 := IntWalk.i64_in _ (by omega)
      have s2 : IntKind.i64.wrap ((z.length : Int) - p0 - 1) = (z.length : Int) - p0 - 1 := IntWalk.i64_in _ (by omega)
      have e1 : ((n2 : Int) != (z.length : Int) - p0 - 1) = false := by simp; omega
      clear hfr hgr u0 hn2 HCP HP HA
      go_wp2_with fail
      refine HD.out.mono ?_
      rintro e w7 ⟨rfl, hb1⟩
      go_wp2_with fail
      go_meet
      exact ⟨rfl, hb1⟩
  case rest =>
    as_aux_lemma =>
      obtain ⟨rfl, hb1⟩ := hcut
      replace HB := Lib.hid (HB.out.trans (hb1.mono HB.out.size))
      clear hb1 HA12 HV HF HO HA HP HCP hn2 hzl
      go_wp2_with fail
      generalize wc = w7 at *
      refine (Draw.drawAddSection a0 len0 cap0 z0 _ (row_kept HW0.out HB.out) hl).mono ?_
      rintro e w8 ⟨z1, g1, c1, k1, X, rfl, hv, hsh, hzl, hXt, hb1⟩
      have HFX := Lib.hid (show LSection.Fine X from by show X.title.size ≤ maxLen; unfold maxLen; omega)
      have HV := Lib.hid (IsS.below LSection.rec (Own.isS hv ⟨g1, rfl⟩) ((Below.refl _ _).alloc (Nat.le_refl _) (Obj.cells #[.int .i64 X.depth, .string X.title] 34)))
      have HF := Lib.hid (Draw.short_fine hsh)
      have HBX := Lib.hid (Draw.Bx.new w8 34 #[.int .i64 X.depth, .string X.title])
      replace HB := Lib.hid ((HB.out.trans (hb1.mono HB.out.size)).alloc (HB.out.trans (hb1.mono HB.out.size)).size (Obj.cells #[.int .i64 X.depth, .string X.title] 34))
      clear hv hsh hb1 hXt
      go_wp2_with fail
      generalize w8.alloc (Obj.cells #[.int .i64 X.depth, .string X.title] 34) = w9 at *
      generalize w8.heap.size = G at *
      have b0 := HBX.out.cell 0
      have b1 := HBX.out.cell 1
      simp only [List.getElem?_toArray, List.getElem?_cons_zero, List.getElem?_cons_succ] at b0 b1
      refine (AddSectionC.impl _ z1 k1 X _ HV.out HF.out (by omega) HFX.out).mono ?_
      rintro e w10 ⟨v2, r0, r1, rfl, hA, ho, hb1⟩
      replace HV := Lib.hid (IsS.below LSection.rec HV.out hb1)
      replace HBX := Lib.hid (bx_kept HBX.out hb1)
      replace HB := Lib.hid (HB.out.trans (hb1.mono HB.out.size))
      have HO := Lib.hid ho
      have HA := Lib.hid hA
      clear hA hb1 ho b0 b1
      have b0 := HBX.out.cell 0
      have b1 := HBX.out.cell 1
      simp only [List.getElem?_toArray, List.getElem?_cons_zero, List.getElem?_cons_succ] at b0 b1
      go_wp2_with fail
      refine (AddSectionC.spec _ z1 k1 X _ HV.out HF.out (by omega) HFX.out).mono ?_
      rintro e w11 ⟨v3, s0, s1, rfl, hA, ho, hb1⟩
      obtain ⟨rfl, rfl⟩ := AddSectionC.same HA.out hA
      replace HV := Lib.hid (IsS.below LSection.rec HV.out hb1)
      replace HBX := Lib.hid (bx_kept HBX.out hb1)
      replace HO := Lib.hid (HO.out.kept hb1)
      replace HB := Lib.hid (HB.out.trans (hb1.mono HB.out.size))
      have HO3 := Lib.hid (Own.is ho)
      clear hA hb1 ho b0 b1
      have e2 : (r1 != r1) = false := by simp
      go_upto_region 17 with fail
      go_cut [152] (fun t wx => t = .bool false ∧ Below w11.heap.size w11 wx)
      case first =>
        have HQ := Lib.hid (fun d os => rSections v2 v3 r0 (Sort.grow (redrawn w11 d) os) (HO.out.is.below LSection.rec (below_regrown w11 d os)) (HO3.out.below LSection.rec (below_regrown w11 d os)))
        cases r1 with
        | false =>
          refine wp_region_quiet_below (by kernel_rfl) (by kernel_rfl) ?_
          repeat (go_big_quiet_step ((first | (go_at_call 14; exact Calls.regrown_of (HQ.out _ _)))))
          refine wpQuiet_nil ?_
          intro _ hw'
          obtain ⟨⟨dq, osq⟩, hw''⟩ := hw'
          subst hw''
          go_wp2_with fail
          go_meet
          exact ⟨rfl, below_regrown _ _ _⟩
        | true =>
          obtain ⟨hg0, kk, rfl, hkx⟩ := add_told HA.out
          have hkl : kk < r0.length := (List.getElem?_eq_some_iff.1 hkx).1
          obtain ⟨g3, c3, rfl, _, hg3, hlc, hcm⟩ := Draw.own_somed HO.out (by omega)
          have HD := Lib.hid (fun d os => DocG.isDocument (.slice (some ⟨g3, 0, none⟩) r0.length c3) r0 (Sort.grow (redrawn w11 d) os) (HO.out.is.below LSection.rec (below_regrown w11 d os)) (fun x hx => by
            have h1 := (chk_fine HA.out HF.out HFX.out) x hx
            exact h1))
          unfold DocG.Post at HD
          rw [hg0] at HD
          have HGm := LSection.grown (Own.at_ HO.out kk X hkx) hg3
          have HGb := LSection.grown (LSection.at_of (r := X) (w := w11) (b := G) (p := 0) (HBX.out.cell 0) (HBX.out.cell 1)) HBX.out.lt
          have m0 := fun d os => (LSection.cells (HGm.out d os)).1
          have m1 := fun d os => (LSection.cells (HGm.out d os)).2
          have b0 := fun d os => (LSection.cells0 (HGb.out d os)).1
          have b1 := fun d os => (LSection.cells0 (HGb.out d os)).2
          simp only [LSection.rec_n] at m0 m1
          obtain ⟨lr, hlr⟩ : ∃ lr, lr = r0.length := ⟨_, rfl⟩
          rw [← hlr] at hkl hlc HQ HD ⊢
          have hk0 : 0 ≤ (kk : Int) := by omega
          have hk1 : (kk : Int) < (lr : Int) := by omega
          have HLR := Lib.hid hlr
          clear hlr hkx HGm HGb hg0
          refine wp_region_quiet_below (by kernel_rfl) (by kernel_rfl) ?_
          repeat (go_big_quiet_step ((first | (go_at_call 14; exact Calls.regrown_of (HQ.out _ _)) | (go_at_call 17; exact Calls.regrown_of (HD.out _ _)))))
          refine wpQuiet_nil ?_
          intro _ hw'
          obtain ⟨⟨dq, osq⟩, hw''⟩ := hw'
          subst hw''
          go_wp2_with fail
          have hlr := HLR.out
          subst hlr
          go_meet
          exact ⟨rfl, below_regrown _ _ _⟩
      case rest =>
        as_aux_lemma =>
          obtain ⟨rfl, hb1⟩ := hcut
          replace HB := Lib.hid (HB.out.trans (hb1.mono HB.out.size))
          clear hb1 HV HF HO HO3 HA HBX HFX hzl e2
          go_wp2_with fail
          generalize wc = w12 at *
          refine (Draw.drawShiftSection a0 len0 cap0 z0 _ (row_kept HW0.out HB.out) hl).mono ?_
          rintro e w13 ⟨z, g, c, x, y, rfl, hv, hsh, hzl, hb1⟩
          have HV := Lib.hid (Own.isS hv ⟨g, rfl⟩)
          have HF := Lib.hid (Draw.short_fine hsh)
          replace HB := Lib.hid (HB.out.trans (hb1.mono HB.out.size))
          clear hv hsh hb1
          go_wp2_with fail
          refine (ShiftSectionC.impl _ z x y _ HV.out HF.out (by omega)).mono ?_
          rintro e w14 ⟨v2, r0, r1, rfl, hA, ho, hb1⟩
          replace HV := Lib.hid (IsS.below LSection.rec HV.out hb1)
          replace HB := Lib.hid (HB.out.trans (hb1.mono HB.out.size))
          have HO := Lib.hid ho
          have HA := Lib.hid hA
          clear hA hb1 ho
          go_wp2_with fail
          refine (ShiftSectionC.spec _ z x y _ HV.out HF.out (by omega)).mono ?_
          rintro e w15 ⟨v3, s0, s1, rfl, hA, ho, hb1⟩
          obtain ⟨rfl, rfl⟩ := ShiftSectionC.same HA.out hA
          replace HV := Lib.hid (IsS.below LSection.rec HV.out hb1)
          replace HO := Lib.hid (HO.out.kept hb1)
          replace HB := Lib.hid (HB.out.trans (hb1.mono HB.out.size))
          have HO3 := Lib.hid (Own.is ho)
          clear hA hb1 ho
          have e2 : (r1 != r1) = false := by simp
          go_wp2_with fail
          refine (rSections v2 v3 r0 _ HO.out.is HO3.out).mono ?_
          rintro e w16 ⟨rfl, hb1⟩
          replace HV := Lib.hid (IsS.below LSection.rec HV.out hb1)
          replace HO := Lib.hid (HO.out.kept hb1)
          replace HB := Lib.hid (HB.out.trans (hb1.mono HB.out.size))
          clear hb1 HO3 e2
          go_upto_if 182 with fail
          go_cut [27] (fun _ wx => Below w16.heap.size w16 wx)
          case first =>
            cases r1 with
            | false =>
              go_wp2_with fail
              go_meet
              exact Below.refl _ _
            | true =>
              obtain ⟨hg, hg2, hy, k, rfl, hk, hr0⟩ := shift_told HA.out
              have hrl : r0.length = z.length := by rw [hr0, ShiftSectionC.shf_len]
              obtain ⟨g3, c3, rfl, _, hg3, hlc, hcm⟩ := Draw.own_somed HO.out (by omega)
              have HG := Lib.hid (And.intro hg (And.intro hg2 (And.intro hy (And.intro hk (And.intro hr0 hrl)))))
              have HR := Lib.hid (Own.isS HO.out ⟨g3, rfl⟩)
              have HFR := Lib.hid (show ∀ x ∈ r0, LSection.Fine x by rw [hr0]; exact ShiftSectionC.shf_fine HF.out)
              have hll : r0.length ≤ 1048576 := by omega
              have hk0 : 0 ≤ (k : Int) := by omega
              have hk1 : (k : Int) < (z.length : Int) := by omega
              have hk2 : (k : Int) < (r0.length : Int) := by omega
              have hk3 : k < r0.length := by omega
              clear hg hg2 hy hr0 hrl hlc hcm HA
              go_wp2_with fail
              refine (PartOfC.impl _ z k _ HV.out HF.out (by omega)).mono ?_
              rintro e w17 ⟨p0, p1, rfl, hP, hb1⟩
              obtain ⟨hp, rfl⟩ := part_is HG.out.1 hk hP
              have HP0 := Lib.hid hp
              replace HV := Lib.hid (IsS.below LSection.rec HV.out hb1)
              replace HR := Lib.hid (IsS.below LSection.rec HR.out hb1)
              replace HO := Lib.hid (HO.out.kept hb1)
              have HBl := Lib.hid hb1
              clear hP hb1 hp
              go_wp2_with fail
              refine (PartOfC.impl _ r0 k _ HR.out HFR.out hll).mono ?_
              rintro e w18 ⟨q0, q1, rfl, hP, hb1⟩
              obtain ⟨hq, rfl⟩ := part_is HG.out.2.1 hk3 hP
              have HQ0 := Lib.hid hq
              replace HV := Lib.hid (IsS.below LSection.rec HV.out hb1)
              replace HR := Lib.hid (IsS.below LSection.rec HR.out hb1)
              replace HO := Lib.hid (HO.out.kept hb1)
              replace HBl := Lib.hid (HBl.out.trans (hb1.mono HBl.out.size))
              clear hP hb1 hq
              have hd0 : decide (q0 < p0) = false := decide_eq_false (by
                rw [HQ0.out, HP0.out, HG.out.2.2.2.2.1]
                have := part_more (d := y) hk
                omega)
              have hd1 : ¬ q0 < p0 := of_decide_eq_false hd0
              have hX := List.getElem?_eq_getElem hk
              have hY : r0[k]? = some (⟨z[k].depth + y, z[k].title⟩ : M) := by rw [HG.out.2.2.2.2.1, ShiftSectionC.shf_get, hX, Option.map_some, if_pos (by omega)]
              have hbd := good_dep HG.out.1 hk
              have hy := HG.out.2.2.1
              rw [dep_at hX] at hbd
              have mY := (LSection.cells (Own.at_ HO.out k _ hY)).1
              have mX := (LSection.cells (isS_at HV.out hX)).1
              clear hX hY
              generalize z[k] = X at *
              simp only [LSection.rec_n] at mY mX
              have s1 : IntKind.i64.wrap (X.depth + y) = X.depth + y := IntWalk.i64_in _ (by omega)
              have s2 : IntKind.i64.wrap (-y) = -y := IntWalk.i64_in _ (by omega)
              have s3 : IntKind.i64.wrap (0 - y) = -y := by rw [Int.zero_sub]; exact s2
              clear hbd hy
              by_cases he : q0 = p0
              · have HE := Lib.hid he
                have e3 : (q0 == p0) = true := by simp [he]
                clear he
                go_upto_region 27 with fail
                go_quiet (fail)
                have HBD := Lib.hid (HBl.out.trans ((drawn_below w18 nq).mono HBl.out.size))
                have HV2 := Lib.hid (IsS.below LSection.rec HV.out (drawn_below w18 nq))
                have HR2 := Lib.hid (IsS.below LSection.rec HR.out (drawn_below w18 nq))
                clear HV HR HO HBl mX mY
                go_wp2_with fail
                refine (ShiftSectionC.impl _ r0 k (-y) _ HR2.out HFR.out hll).mono ?_
                rintro e w19 ⟨v4, t0, t1, rfl, hA, ho, hb1⟩
                obtain ⟨h1, h2⟩ := shift_back (r0 := t0) (b := t1) HG.out.1 (by rw [← HG.out.2.2.2.2.1]; exact HG.out.2.1) hk HG.out.2.2.1 (by
                  have := HQ0.out; have := HP0.out; have := HE.out
                  rw [← HG.out.2.2.2.2.1]; omega) (by rw [← HG.out.2.2.2.2.1]; exact hA)
                subst h2
                rw [h1] at ho
                have HO4 := Lib.hid (Own.is ho)
                replace HV2 := Lib.hid (IsS.below LSection.rec HV2.out hb1)
                replace HBD := Lib.hid (HBD.out.trans (hb1.mono HBD.out.size))
                clear h1 ho hA hb1
                go_wp2_with fail
                refine (rSections v4 _ z _ HO4.out (IsS.is LSection.rec HV2.out)).mono ?_
                rintro e w20 ⟨rfl, hb1⟩
                replace HBD := Lib.hid (HBD.out.trans (hb1.mono HBD.out.size))
                clear hb1
                go_wp2_with fail
                go_meet
                exact HBD.out
              · have e3 : (q0 == p0) = false := by simp [he]
                go_upto_region 27 with fail
                go_quiet (fail)
                have HBD := Lib.hid (HBl.out.trans ((drawn_below w18 nq).mono HBl.out.size))
                clear HV HR HO HBl mX mY
                go_wp2_with fail
                go_meet
                exact HBD.out
          case rest =>
            as_aux_lemma =>
              have hb1 := hcut
              replace HB := Lib.hid (HB.out.trans (hb1.mono HB.out.size))
              clear hb1 hcut HV HF HO HA hzl
              go_wp2_with fail
              generalize wc = w17 at *
              refine (Draw.drawBelongsTo a0 len0 cap0 z0 _ (row_kept HW0.out HB.out) hl).mono ?_
              rintro e w18 ⟨z, g, c, x, rfl, hv, hsh, hzl, hb1⟩
              have HV := Lib.hid (Own.isS hv ⟨g, rfl⟩)
              have HF := Lib.hid (Draw.short_fine hsh)
              replace HB := Lib.hid (HB.out.trans (hb1.mono HB.out.size))
              clear hv hsh hb1
              go_wp2_with fail
              refine (BelongsToC.impl _ z x _ HV.out HF.out (by omega)).mono ?_
              rintro e w19 ⟨p0, p1, rfl, hP, hb1⟩
              replace HV := Lib.hid (IsS.below LSection.rec HV.out hb1)
              replace HB := Lib.hid (HB.out.trans (hb1.mono HB.out.size))
              have HP := Lib.hid hP
              clear hP hb1
              go_wp2_with fail
              refine (BelongsToC.spec _ z x _ HV.out HF.out (by omega)).mono ?_
              rintro e w20 ⟨q0, q1, rfl, hP, hb1⟩
              obtain ⟨rfl, rfl⟩ := BelongsToC.same HP.out hP
              replace HB := Lib.hid (HB.out.trans (hb1.mono HB.out.size))
              have e1 : (p0 == p0) = true := by simp
              have e2 : (p1 == p1) = true := by simp
              clear hP hb1 HP
              go_wp2_with fail
              go_ret
              exact ⟨rfl, HB.out⟩
end Go.Proofs.Ytmpolpeomabcfaa.fnSections
