/- WeightPresent: what it answers, on both sides. No condition. -/
import Derived.Test.YtdjnaoaniokbgaaVoJ
namespace Go.Proofs.Ytdjnaoaniokbgaa.WeightPresentC
open Go.RowKit Bs Word Sq IntF Vo VoA VoN VoH VoJ
set_option linter.unusedVariables false
noncomputable def answer (r : V) (z : List Int) : Int × Bool := if (good r && risB z 0 ((r.weights.length : Int) - 1)) = true then (psum r z z.length, true) else (0, false)
def Ans (r : V) (z : List Int) (r0 : Int) (r1 : Bool) : Prop := (r0, r1) = answer r z
theorem same {r : V} {z : List Int} {r0 s0 : Int} {r1 s1 : Bool} (h1 : Ans r z r0 r1) (h2 : Ans r z s0 s1) : r0 = s0 ∧ r1 = s1 := by
  have h := h1.trans h2.symm
  exact ⟨congrArg Prod.fst h, congrArg Prod.snd h⟩
def Post (r : V) (z : List Int) (w : World) (e : Ending) (w' : World) : Prop := ∃ (r0 : Int) (r1 : Bool), e = .returned (.tuple #[.int .i64 r0, .bool r1]) ∧ Ans r z r0 r1 ∧ Below w.heap.size w w'
theorem no1 {r : V} {z : List Int} (h : good r = false) : Ans r z 0 false := by unfold Ans answer; rw [h]; rfl
theorem no2 {r : V} {z : List Int} {n : Nat} (hn : r.weights.length = n) (h : risB z 0 ((n : Int) - 1) = false) : Ans r z 0 false := by unfold Ans answer; rw [hn, h, Bool.and_false]; rfl
theorem yes {r : V} {z : List Int} {n m : Nat} (hg : good r = true) (hn : r.weights.length = n) (h : risB z 0 ((n : Int) - 1) = true) (hm : z.length = m) : Ans r z (psum r z m) true := by unfold Ans answer; rw [hn, h, hg, hm]; rfl
set_option maxRecDepth 100000 in
set_option maxHeartbeats 1600000 in
theorem spec (v0 : Value) (r : V) (v1 : Value) (z : List Int) (w : World) (h0 : LVoters.IsQ w v0 r) (f0 : LVoters.Fine r) (l0 : r.weights.length ≤ 1048576) (l1 : r.proxies.length ≤ 1048576) (h1 : IsS LInt.rec w v1 z) (f1 : ∀ x ∈ z, LInt.Fine x) (l2 : z.length ≤ 1048576) : Calls Try.prog 38 #[v0, v1] w (Post r z w) := by
  have HL := Lib.hid (And.intro l0 l1)
  replace h0 := LVoters.IsQ.is h0
  obtain ⟨a0, n0, c0, a1, n1, c1, rfl, HN0, HN1, hb0, hb1', hm0, hm1, hc0, hc1, HI⟩ := open_is h0
  clear h0
  replace h1 := IsS.is LInt.rec h1
  have H1 := Lib.hid h1
  obtain ⟨az, cz, rfl, h1⟩ := h1
  have hcz := h1.at_ LInt.rec
  obtain ⟨nz, hnz⟩ : ∃ n, n = z.length := ⟨_, rfl⟩
  have hnzb : nz ≤ cz := by have := h1.1; omega
  have hnz2 := h1.2.1
  unfold maxLen at hnz2
  have HNZ := Lib.hid hnz.symm
  rw [← hnz] at H1 l2 ⊢
  clear hnz h1 f1 l0 l1 f0
  obtain ⟨W, hW⟩ : ∃ W : World, W = w.alloc (Obj.cells #[.slice a0 n0 c0, .slice a1 n1 c1] 27) := ⟨_, rfl⟩
  have hb : Below w.heap.size w W := by rw [hW]; exact (Below.refl _ _).alloc (Nat.le_refl _) _
  have HZ := Lib.hid (show W.heap.size = w.heap.size + 1 by rw [hW]; simp)
  have B0 := Lib.hid (show Bx W w.heap.size 27 #[.slice a0 n0 c0, .slice a1 n1 c1] by rw [hW]; exact Bx.new _ _ _)
  have HIW := Lib.hid (LVoters.Is.below HI.out hb)
  have q0 := B0.out.cell 0
  have q1 := B0.out.cell 1
  simp only [List.getElem?_toArray, List.getElem?_cons_zero, List.getElem?_cons_succ] at q0 q1
  have HC := Lib.hid (VoG.l12Good _ r W HIW.out HL.out.1 HL.out.2)
  go_enter Try.func38, Try.ntmps38
  go_upto_region 1 with fail
  rw [← hW]
  clear hW
  go_wp2_with fail
  refine HC.out.mono ?_
  rintro e w1 ⟨rfl, hb1⟩
  have B1 := Lib.hid (B0.out.kept hb1)
  have hb2 := hb.trans (hb1.mono hb.size)
  clear q0 q1 hb1
  have q0 := B1.out.cell 0
  have q1 := B1.out.cell 1
  simp only [List.getElem?_toArray, List.getElem?_cons_zero, List.getElem?_cons_succ] at q0 q1
  cases hg : good r with
  | false =>
    have HA := Lib.hid (no1 (z := z) hg)
    clear hg
    go_wp2_with fail
    go_ret2
    exact ⟨_, _, rfl, HA.out, hb2⟩
  | true =>
  have HGP := Lib.hid (good_of hg)
  have HGG := Lib.hid hg
  have h12 : n0 ≤ 12 := by have := HGP.out.n; have := HN0.out; omega
  have e1 : IntKind.i64.wrap ((n0 : Int) - 1) = (n0 : Int) - 1 := IntWalk.i64_in _ (by omega)
  clear hg
  obtain ⟨rb, hrb⟩ : ∃ rb, rb = risB z 0 ((n0 : Int) - 1) := ⟨_, rfl⟩
  have HRS := IntF.l1Rising _ z 0 ((n0 : Int) - 1) w1 (H1.out.below LInt.rec hb2)
  rw [← hrb] at HRS
  have HRS := Lib.hid HRS
  have HRB := Lib.hid hrb
  clear hrb
  go_wp2_with fail
  refine HRS.out.mono ?_
  rintro e w2 ⟨rfl, hb3⟩
  have B2 := Lib.hid (B1.out.kept hb3)
  replace hb2 := hb2.trans (hb3.mono hb2.size)
  clear q0 q1 hb3 B1
  have q0 := B2.out.cell 0
  have q1 := B2.out.cell 1
  simp only [List.getElem?_toArray, List.getElem?_cons_zero, List.getElem?_cons_succ] at q0 q1
  cases rb with
  | false =>
    have HA := Lib.hid (no2 HN0.out HRB.out.symm)
    go_wp2_with fail
    go_ret2
    exact ⟨_, _, rfl, HA.out, hb2⟩
  | true =>
  have HA := Lib.hid (yes HGG.out HN0.out HRB.out.symm HNZ.out)
  have HRP := Lib.hid (ris_of HRB.out.symm)
  have HH := VoH.l12Held _ r w2 (LVoters.Is.below HI.out hb2) HL.out.1 HL.out.2 HGP.out
  rw [HN0.out] at HH
  have HH := Lib.hid HH
  go_wp2_with fail
  refine HH.out.mono ?_
  rintro e w3 ⟨g, rfl, hgb, ho, hb3⟩
  have HO := Lib.hid (show Own LInt.rec 3 w3 (w2.heap.size + 1) (.slice (some ⟨g, 0, none⟩) n0 n0) (hd r) from HN0.out.symm ▸ ho)
  replace hb2 := hb2.trans (hb3.mono hb2.size)
  clear q0 q1 hb3 B2 ho HH
  go_wp2_with fail
  go_loopw [7, 8] (fun s i wr => ∃ k : Nat, k ≤ nz ∧ s = .int .i64 (psum r z k) ∧ i = .int .i64 k ∧ wr = w3) (fun _ i _ => nz - (intOf i).toNat)
  case atStart => exact ⟨0, Nat.zero_le _, rfl, rfl, rfl⟩
  case round =>
    obtain ⟨k, hk, rfl, rfl, hw⟩ := hrel
    subst hw
    by_cases hlt : k < nz
    · have k0 : 0 ≤ (k : Int) := by omega
      have k1 : (k : Int) < (nz : Int) := by omega
      have hxz : k < z.length := by have := HNZ.out; omega
      obtain ⟨b, o, he, hbl, hcell0⟩ := hcz.out k z[k] (List.getElem?_eq_getElem hxz)
      (try subst he)
      have t0 := LInt.cells (hcell0.below LInt.rec hb2 hbl)
      simp only [LInt.rec_n, Nat.mul_one] at t0
      have HX := Lib.hid (List.getElem?_eq_getElem hxz)
      clear hcell0
      generalize z[k] = x at *
      have hxb := inB_yes (HRP.out k x HX.out).1
      have hx1 : x < (n0 : Int) := by omega
      have hx0 := hxb.1
      have hat := getD_at (l := hd r) (i := x.toNat) (by rw [hd_len, HN0.out]; omega)
      have HPI := psum_in HGP.out z k
      have HDI := hd_in HGP.out x.toNat
      have HPN := Lib.hid (psum_next (v := r) HX.out)
      obtain ⟨c, hc⟩ : ∃ c, c = (hd r).getD x.toNat 0 := ⟨_, rfl⟩
      rw [← hc] at hat HDI HPN
      have cc0 := LInt.cells (Own.at_ HO.out x.toNat c hat)
      simp only [LInt.rec_n, Nat.mul_one] at cc0
      clear hat hc hxb
      generalize psum r z k = S0 at *
      have e2 : IntKind.i64.wrap (S0 + c) = S0 + c := IntWalk.i64_in _ (by omega)
      go_wp2_with fail
      go_roundw
      case rel => exact ⟨k + 1, by omega, by rw [HPN.out], by go_num, by first | trivial | rfl⟩
      case measure => simp [intOf]; omega
    · obtain rfl : k = nz := by omega
      go_wp2_with fail
      go_ret2
      exact ⟨_, _, rfl, HA.out, hb2⟩
set_option maxRecDepth 100000 in
set_option maxHeartbeats 1600000 in
theorem implI (v0 : Value) (r : V) (v1 : Value) (z : List Int) (w : World) (h0 : LVoters.IsQ w v0 r) (f0 : LVoters.Fine r) (l0 : r.weights.length ≤ 1048576) (l1 : r.proxies.length ≤ 1048576) (h1 : Is LInt.rec w v1 z) (f1 : ∀ x ∈ z, LInt.Fine x) (l2 : z.length ≤ 1048576) : Calls Try.prog 37 #[v0, v1] w (Post r z w) := by
  have HL := Lib.hid (And.intro l0 l1)
  replace h0 := LVoters.IsQ.is h0
  obtain ⟨a0, n0, c0, a1, n1, c1, rfl, HN0, HN1, hb0, hb1', hm0, hm1, hc0, hc1, HI⟩ := open_is h0
  clear h0
  have H1 := Lib.hid h1
  obtain ⟨az, cz, rfl, h1⟩ := h1
  have hcz := h1.at_ LInt.rec
  obtain ⟨nz, hnz⟩ : ∃ n, n = z.length := ⟨_, rfl⟩
  have hnzb : nz ≤ cz := by have := h1.1; omega
  have hnz2 := h1.2.1
  unfold maxLen at hnz2
  have HNZ := Lib.hid hnz.symm
  rw [← hnz] at H1 l2 ⊢
  clear hnz h1 f1 l0 l1 f0
  obtain ⟨W, hW⟩ : ∃ W : World, W = w.alloc (Obj.cells #[.slice a0 n0 c0, .slice a1 n1 c1] 27) := ⟨_, rfl⟩
  have hb : Below w.heap.size w W := by rw [hW]; exact (Below.refl _ _).alloc (Nat.le_refl _) _
  have HZ := Lib.hid (show W.heap.size = w.heap.size + 1 by rw [hW]; simp)
  have B0 := Lib.hid (show Bx W w.heap.size 27 #[.slice a0 n0 c0, .slice a1 n1 c1] by rw [hW]; exact Bx.new _ _ _)
  have HIW := Lib.hid (LVoters.Is.below HI.out hb)
  have q0 := B0.out.cell 0
  have q1 := B0.out.cell 1
  simp only [List.getElem?_toArray, List.getElem?_cons_zero, List.getElem?_cons_succ] at q0 q1
  cases hg : good r with
  | false =>
    have HH := Lib.hid (VoH.heldNo _ r W HIW.out HL.out.1 HL.out.2 hg)
    have HA := Lib.hid (no1 (z := z) hg)
    clear hg
    go_enter Try.func37, Try.ntmps37
    go_upto_region 1 with fail
    rw [← hW]
    clear hW
    go_wp2_with fail
    refine HH.out.mono ?_
    rintro e w1 ⟨g, rfl, hgb, ho, hb1⟩
    have hb2 := hb.trans (hb1.mono hb.size)
    go_wp2_with fail
    go_ret2
    exact ⟨_, _, rfl, HA.out, hb2⟩
  | true =>
  have HGP := Lib.hid (good_of hg)
  have HGG := Lib.hid hg
  have h12 : n0 ≤ 12 := by have := HGP.out.n; have := HN0.out; omega
  have HH := VoH.heldYes _ r W HIW.out HL.out.1 HL.out.2 hg
  rw [HN0.out] at HH
  have HH := Lib.hid HH
  clear hg
  go_enter Try.func37, Try.ntmps37
  go_upto_region 1 with fail
  rw [← hW]
  clear hW
  go_wp2_with fail
  refine HH.out.mono ?_
  rintro e w1 ⟨g, rfl, hgb, ho, hb1⟩
  have HO := Lib.hid (show Own LInt.rec 3 w1 (W.heap.size + 1) (.slice (some ⟨g, 0, none⟩) n0 n0) (hd r) from HN0.out.symm ▸ ho)
  have B1 := Lib.hid (B0.out.kept hb1)
  have hb2 := hb.trans (hb1.mono hb.size)
  clear q0 q1 hb1 ho HH
  go_wp2_with fail
  go_loopw [8, 9, 21] (fun s bf i wr => ∃ k : Nat, k ≤ nz ∧ s = .int .i64 (psum r z k) ∧ bf = .int .i64 (aheadI z k) ∧ i = .int .i64 k ∧ Below w1.heap.size w1 wr ∧ Hid (∀ i, i < k → RisOk z 0 ((n0 : Int) - 1) i)) (fun _ _ i _ => nz - (intOf i).toNat)
  case atStart => exact ⟨0, Nat.zero_le _, rfl, rfl, rfl, Below.refl _ _, Lib.hid (fun i hi => by omega)⟩
  case round =>
    obtain ⟨k, hk, rfl, rfl, rfl, hbr, HS⟩ := hrel
    have hb3 := hb2.trans (hbr.mono hb2.size)
    by_cases hlt : k < nz
    · have k0 : 0 ≤ (k : Int) := by omega
      have k1 : (k : Int) < (nz : Int) := by omega
      have B2 := Lib.hid (B1.out.kept hbr)
      have q0 := B2.out.cell 0
      have q1 := B2.out.cell 1
      simp only [List.getElem?_toArray, List.getElem?_cons_zero, List.getElem?_cons_succ] at q0 q1
      have hxz : k < z.length := by have := HNZ.out; omega
      obtain ⟨b, o, he, hbl, hcell0⟩ := hcz.out k z[k] (List.getElem?_eq_getElem hxz)
      (try subst he)
      have t0 := LInt.cells (hcell0.below LInt.rec hb3 hbl)
      simp only [LInt.rec_n, Nat.mul_one] at t0
      have HX := Lib.hid (List.getElem?_eq_getElem hxz)
      clear hcell0
      generalize z[k] = x at *
      obtain ⟨bf, hbf⟩ : ∃ bf, bf = aheadI z k := ⟨_, rfl⟩
      rw [← hbf]
      have HBF := Lib.hid hbf
      clear hbf
      by_cases g0 : bf ≥ x
      · have HA := Lib.hid (no2 HN0.out (ris_le HX.out (by rw [← HBF.out]; omega)))
        go_wp2_with fail
        go_ret2
        exact ⟨_, _, rfl, HA.out, hb3⟩
      have HG0 := Lib.hid g0
      have HV := VoV.isVoter _ r x wr (LVoters.Is.below HI.out hb3)
      rw [HN0.out] at HV
      have HV := Lib.hid HV
      go_wp2_with fail
      refine HV.out.mono ?_
      rintro e w4 ⟨rfl, hb4⟩
      have hb5 := hb3.trans (hb4.mono hb3.size)
      have hbr2 := hbr.trans (hb4.mono hbr.size)
      clear q0 q1 hb4 HV
      cases g1 : inB x 0 ((n0 : Int) - 1) with
      | false =>
        have HA := Lib.hid (no2 HN0.out (ris_out HX.out g1))
        clear g1
        go_wp2_with fail
        go_ret2
        exact ⟨_, _, rfl, HA.out, hb5⟩
      | true =>
      have HN2 := Lib.hid (ris_next HS.out (ris_ok HX.out (by rw [← HBF.out]; have := HG0.out; omega) g1))
      have HAN := Lib.hid (aheadI_next HX.out)
      have hxb := inB_yes g1
      have hx1 : x < (n0 : Int) := by omega
      have hx0 := hxb.1
      have hat := getD_at (l := hd r) (i := x.toNat) (by rw [hd_len, HN0.out]; omega)
      have HPI := psum_in HGP.out z k
      have HDI := hd_in HGP.out x.toNat
      have HPN := Lib.hid (psum_next (v := r) HX.out)
      obtain ⟨c, hc⟩ : ∃ c, c = (hd r).getD x.toNat 0 := ⟨_, rfl⟩
      rw [← hc] at hat HDI HPN
      have cc0 := LInt.cells (Own.at_ (HO.out.kept hbr2) x.toNat c hat)
      simp only [LInt.rec_n, Nat.mul_one] at cc0
      clear hat hc hxb g1
      generalize psum r z k = S0 at *
      have e2 : IntKind.i64.wrap (S0 + c) = S0 + c := IntWalk.i64_in _ (by omega)
      go_wp2_with fail
      go_roundw
      case rel => exact ⟨k + 1, by omega, by rw [HPN.out], by rw [HAN.out], by go_num, hbr2, HN2⟩
      case measure => simp [intOf]; omega
    · obtain rfl : k = nz := by omega
      have HA := Lib.hid (yes HGG.out HN0.out (ris_fin (by have := HNZ.out; omega) HS.out) HNZ.out)
      go_wp2_with fail
      go_ret2
      exact ⟨_, _, rfl, HA.out, hb3⟩
theorem impl (v0 : Value) (r : V) (v1 : Value) (z : List Int) (w : World) (h0 : LVoters.IsQ w v0 r) (f0 : LVoters.Fine r) (l0 : r.weights.length ≤ 1048576) (l1 : r.proxies.length ≤ 1048576) (h1 : IsS LInt.rec w v1 z) (f1 : ∀ x ∈ z, LInt.Fine x) (l2 : z.length ≤ 1048576) : Calls Try.prog 37 #[v0, v1] w (Post r z w) :=
  implI v0 r v1 z w h0 f0 l0 l1 (IsS.is LInt.rec h1) f1 l2
end Go.Proofs.Ytdjnaoaniokbgaa.WeightPresentC
