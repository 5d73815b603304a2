/- FnWeights: the law's walk, for every code. -/
import Derived.Test.YtdjnaoaniokbgaaVoQ
import Derived.Test.YtdjnaoaniokbgaaDrawVb
import Derived.Test.YtdjnaoaniokbgaaCastVotesC
import Derived.Test.YtdjnaoaniokbgaaWeightPresentC
import Derived.Test.YtdjnaoaniokbgaaDirectVotesC
import Derived.Test.YtdjnaoaniokbgaaHolderForC
import Derived.Test.YtdjnaoaniokbgaaProxyStepsC
import Derived.Test.YtdjnaoaniokbgaaJ1
import Derived.Deep.DeepCutAuto
import Derived.BigQuiet
import Derived.Lib.QuietBelow
namespace Go.Proofs.Ytdjnaoaniokbgaa.FnW
open Go.RowKit Bs Word IntF Vo VoJ VoM
theorem cast_ok {r : V} {z q : List Int} (h : CastVotesC.Ans r z q true) : q.length = 4 ∧ tot q = tot r.weights ∧ (∀ x ∈ q, 0 ≤ x ∧ x ≤ 100000) ∧ ∀ x ∈ r.weights, 0 ≤ x ∧ x ≤ 100000 := by
  unfold CastVotesC.Ans CastVotesC.answer at h
  split at h
  · rename_i hc
    rw [Bool.and_eq_true, Bool.and_eq_true, decide_eq_true_eq] at hc
    have hg := good_of hc.1
    have h1 := congrArg Prod.fst h; simp only at h1; subst h1
    refine ⟨tall_len _ _ _, cast_sum hg hc.2.1 (cast_of hc.2.2), fun x hx => ?_, fun x hx => ?_⟩
    · obtain ⟨i, hi⟩ := List.getElem?_of_mem hx
      have := tall_in hg z z.length i
      rw [List.getD_eq_getElem?_getD, hi] at this
      have hn := hg.n
      have := this
      have h3 : (0 : Int) ≤ x ∧ x ≤ 1200 * (z.length : Int) := this
      omega
    · obtain ⟨i, hi⟩ := List.getElem?_of_mem hx
      have h3 : (0 : Int) ≤ x ∧ x ≤ 100 := inB_yes (hg.w i x hi)
      exact ⟨h3.1, Int.le_trans h3.2 (by decide)⟩
  · have := congrArg Prod.snd h; cases this
theorem present_ok {r : V} {z dd : List Int} {m m3 : Int} {one two : Bool} (h : WeightPresentC.Ans r z m true) (h1 : DirectVotesC.Ans r dd one) (h2 : WeightPresentC.Ans r dd m3 two) :
    one = true ∧ two = true ∧ m3 = tot r.weights ∧ m ≤ tot r.weights ∧ ∀ x ∈ r.weights, 0 ≤ x ∧ x ≤ 100000 := by
  unfold WeightPresentC.Ans WeightPresentC.answer at h h2
  unfold DirectVotesC.Ans DirectVotesC.answer at h1
  split at h
  · rename_i hc
    rw [Bool.and_eq_true] at hc
    have hg := good_of hc.1
    have e := congrArg Prod.fst h; simp only at e; subst e
    rw [if_pos hc.1] at h1
    have e1 := congrArg Prod.fst h1; have e2 := congrArg Prod.snd h1; simp only at e1 e2; subst e1 e2
    rw [if_pos (by rw [Bool.and_eq_true]; exact ⟨hc.1, direct_ris r⟩)] at h2
    have e3 := congrArg Prod.fst h2; have e4 := congrArg Prod.snd h2; simp only at e3 e4; subst e3 e4
    refine ⟨rfl, rfl, direct_sum hg, present_le hg hc.2, fun x hx => ?_⟩
    obtain ⟨i, hi⟩ := List.getElem?_of_mem hx
    have h3 : (0 : Int) ≤ x ∧ x ≤ 100 := inB_yes (hg.w i x hi)
    exact ⟨h3.1, Int.le_trans h3.2 (by decide)⟩
  · have := congrArg Prod.snd h; cases this
end Go.Proofs.Ytdjnaoaniokbgaa.FnW
namespace Go.Proofs.Ytdjnaoaniokbgaa.fnWeights
open Go.RowKit Bs Word Sq IntF Vo VoM
set_option linter.unusedVariables false
theorem isS_slice {w : World} {u : Value} {z : List Int} (h : IsS LInt.rec w u z) : ∃ b n c, u = .slice b n c := by
  obtain ⟨b, o, c, rfl, _⟩ := h
  exact ⟨_, _, _, rfl⟩
set_option maxRecDepth 100000 in
set_option maxHeartbeats 12800000 in
theorem walk (a0 : Option Addr) (len0 cap0 : Nat) (z0 : List Int) (w : World) (sh : w.ShapedOpen Try.prog) (w0 : Frame.IsRow .u8 w a0 len0 cap0 z0) :
    Calls Try.prog 4 #[.slice a0 len0 cap0] w fun e w' => e = .returned (.bool true) ∧ Below w.heap.size w w' := by
  have HW0 := Lib.hid w0
  clear w0 sh
  by_cases hbig : 65536 < len0
  · have hd : decide ((65536 : Int) < len0) = true := decide_eq_true (by omega)
    have HR := Lib.hid (VoQ.rBig a0 len0 cap0 w)
    rw [hd] at HR
    clear hd
    go_enter Try.func4, Try.ntmps4
    go_wp2_with fail
    refine HR.out.mono ?_
    rintro e w' ⟨rfl, rfl⟩
    go_wp2_with fail
    go_ret
    exact ⟨rfl, Below.refl _ _⟩
  have hd : decide ((65536 : Int) < len0) = false := decide_eq_false (by omega)
  have hl : len0 ≤ 65536 := by omega
  have HR := Lib.hid (VoQ.rBig a0 len0 cap0 w)
  rw [hd] at HR
  clear hd hbig
  go_enter Try.func4, Try.ntmps4
  go_wp2_with fail
  refine HR.out.mono ?_
  rintro e w' ⟨rfl, rfl⟩
  clear HR
  have HB := Lib.hid (Below.refl w.heap.size w)
  go_wp2_with fail
  refine (Draw.drawCastVotes a0 len0 cap0 z0 _ (Draw.row_kept HW0.out HB.out) hl).mono ?_
  rintro e w1 ⟨v, r1, u, z, rfl, hO, hl0, hl1, hU, hnu, hz, hb⟩
  obtain ⟨u0, u1, rfl, p0, p1, d01⟩ := hO
  obtain ⟨a1, n1, c1, rfl⟩ := own_slice p0
  obtain ⟨e1, k1, f1, rfl⟩ := own_slice p1
  have HV1 := Lib.hid (show LVoters.IsQ w1 (.agg #[.slice a1 n1 c1, .slice e1 k1 f1]) r1 from ⟨_, _, rfl, p0.isQ, p1.isQ⟩)
  have HLN1 := Lib.hid (And.intro hl0 hl1)
  clear p0 p1 d01 hl0 hl1
  have HU1 := Lib.hid (hU.isS hnu)
  have HZ1 := Lib.hid hz
  clear hU hnu hz
  obtain ⟨b9, m9, d9, rfl⟩ := isS_slice HU1.out
  replace HB := Lib.hid (HB.out.trans (hb.mono HB.out.size))
  clear hb
  have P3 := Lib.hid (Bx.new w1 27 #[.slice a1 n1 c1, .slice e1 k1 f1])
  have hb := (Below.refl w1.heap.size w1).alloc (Nat.le_refl _) (Obj.cells #[.slice a1 n1 c1, .slice e1 k1 f1] 27)
  replace HV1 := Lib.hid (LVoters.IsQ.below HV1.out hb)
  replace HU1 := Lib.hid (HU1.out.below LInt.rec hb)
  replace HB := Lib.hid (HB.out.trans (hb.mono HB.out.size))
  clear hb
  go_upto_region 4 with fail
  generalize w1.alloc (Obj.cells #[.slice a1 n1 c1, .slice e1 k1 f1] 27) = w2 at *
  generalize w1.heap.size = gw2 at *
  have P3_0 := P3.out.cell 0
  have P3_1 := P3.out.cell 1
  simp only [List.getElem?_toArray, List.getElem?_cons_zero, List.getElem?_cons_succ] at P3_0 P3_1
  go_wp2_with fail
  refine (CastVotesC.impl _ r1 _ z _ HV1.out (Draw.vofine r1) (by have := HLN1.out.1; omega) (by have := HLN1.out.2; omega) HU1.out (fun _ _ => trivial) (by have := HZ1.out; omega)).mono ?_
  rintro e w3 ⟨vq, q, ok, rfl, hA, hQ, hb⟩
  clear P3_0 P3_1
  have HA1 := Lib.hid hA
  have HQ1 := Lib.hid hQ.is
  obtain ⟨b5, m5, d5, rfl⟩ := own_slice hQ
  clear hA hQ
  replace P3 := Lib.hid (P3.out.kept hb)
  replace HV1 := Lib.hid (LVoters.IsQ.below HV1.out hb)
  replace HU1 := Lib.hid (HU1.out.below LInt.rec hb)
  replace HB := Lib.hid (HB.out.trans (hb.mono HB.out.size))
  clear hb
  have P3_0 := P3.out.cell 0
  have P3_1 := P3.out.cell 1
  simp only [List.getElem?_toArray, List.getElem?_cons_zero, List.getElem?_cons_succ] at P3_0 P3_1
  go_wp2_with fail
  refine (CastVotesC.spec _ r1 _ z _ HV1.out (Draw.vofine r1) (by have := HLN1.out.1; omega) (by have := HLN1.out.2; omega) HU1.out (fun _ _ => trivial) (by have := HZ1.out; omega)).mono ?_
  rintro e w4 ⟨vq2, q2, ok2, rfl, hA, hQ, hb⟩
  clear P3_0 P3_1
  have HQ2 := Lib.hid hQ.is
  obtain ⟨b6, m6, d6, rfl⟩ := own_slice hQ
  obtain ⟨rfl, rfl⟩ := CastVotesC.same HA1.out hA
  clear hA hQ
  replace P3 := Lib.hid (P3.out.kept hb)
  replace HV1 := Lib.hid (LVoters.IsQ.below HV1.out hb)
  replace HU1 := Lib.hid (HU1.out.below LInt.rec hb)
  replace HQ1 := Lib.hid (HQ1.out.below LInt.rec hb)
  replace HB := Lib.hid (HB.out.trans (hb.mono HB.out.size))
  clear hb
  go_upto_region 6 with fail
  go_cut [74] (fun sq wx => sq = .bool false ∧ Below w4.heap.size w4 wx)
  case first =>
    have HRI := Lib.hid (fun W' (hB : Below w4.heap.size w4 W') => VoQ.rInts _ _ q W' (HQ1.out.below LInt.rec hB) (HQ2.out.below LInt.rec hB))
    cases ok with
    | false =>
      refine wp_region_quiet_below (by kernel_rfl) (by kernel_rfl) ?_
      repeat (go_big_quiet_step ((first | (go_at_call 18; exact Calls.regrown_of (HRI.out _ (below_regrown _ _ _))) | fail)))
      refine wpQuiet_nil ?_
      intro _ hw'
      obtain ⟨⟨dq, osq⟩, hw''⟩ := hw'
      subst hw''
      go_wp2_with fail
      go_meet
      exact ⟨rfl, below_regrown _ _ _⟩
    | true =>
      have HAC := Lib.hid (FnW.cast_ok HA1.out)
      have hm5 : m5 = 4 := by rw [← (VoQ.is_len HQ1.out)]; exact HAC.out.1
      subst hm5
      have HS1 := Lib.hid (fun W' (hB : Below w4.heap.size w4 W') => VoQ.rSum _ q W' (HQ1.out.below LInt.rec hB) HAC.out.2.2.1 (by rw [HAC.out.1]; omega))
      have HS2 := Lib.hid (fun W' (hB : Below w4.heap.size w4 W') => VoQ.rSum (.slice a1 n1 c1) r1.weights W' ((VoQ.is_weights (LVoters.IsQ.is HV1.out)).below LInt.rec hB) HAC.out.2.2.2 (by have := HLN1.out.1; omega))
      have HT := Lib.hid HAC.out.2.1
      rw [HT.out] at HS1
      clear HT HAC
      obtain ⟨TT, hTT⟩ : ∃ x, x = tot r1.weights := ⟨_, rfl⟩
      rw [← hTT] at HS1 HS2
      clear hTT
      have hne : (TT != TT) = false := bne_self_eq_false _
      have P3_0 := fun d os => (P3.out.kept (below_regrown w4 d os)).cell 0
      have P3_1 := fun d os => (P3.out.kept (below_regrown w4 d os)).cell 1
      simp only [List.getElem?_toArray, List.getElem?_cons_zero, List.getElem?_cons_succ] at P3_0 P3_1
      refine wp_region_quiet_below (by kernel_rfl) (by kernel_rfl) ?_
      iterate 16 (go_big_quiet_step ((first | (go_at_call 18; exact Calls.regrown_of (HRI.out _ (below_regrown _ _ _))) | (go_at_call 20; exact regrown_eq (HS1.out _ (below_regrown _ _ _))) | fail)))
      repeat (go_big_quiet_step ((first | (go_at_call 20; exact regrown_eq (HS2.out _ (below_regrown _ _ _))) | fail)))
      refine wpQuiet_nil ?_
      intro _ hw'
      obtain ⟨⟨dq, osq⟩, hw''⟩ := hw'
      subst hw''
      go_wp2_with fail
      go_meet
      exact ⟨rfl, below_regrown _ _ _⟩
  case rest =>
  obtain ⟨rfl, hb⟩ := hcut
  obtain ⟨w5, hwN⟩ : ∃ x, x = wc := ⟨_, rfl⟩
  subst hwN
  replace P3 := Lib.hid (P3.out.kept hb)
  replace HV1 := Lib.hid (LVoters.IsQ.below HV1.out hb)
  replace HU1 := Lib.hid (HU1.out.below LInt.rec hb)
  replace HQ1 := Lib.hid (HQ1.out.below LInt.rec hb)
  replace HQ2 := Lib.hid (HQ2.out.below LInt.rec hb)
  replace HB := Lib.hid (HB.out.trans (hb.mono HB.out.size))
  clear hb
  clear P3 HV1 HU1 HQ1 HQ2 HA1 HLN1 HZ1
  go_wp2_with fail
  refine (Draw.drawWeightPresent a0 len0 cap0 z0 _ (Draw.row_kept HW0.out HB.out) hl).mono ?_
  rintro e w6 ⟨v, r2, u, z2, rfl, hO, hl0, hl1, hU, hnu, hz, hb⟩
  obtain ⟨u0, u1, rfl, p0, p1, d01⟩ := hO
  obtain ⟨a2, n2, c2, rfl⟩ := own_slice p0
  obtain ⟨e2, k2, f2, rfl⟩ := own_slice p1
  have HV2 := Lib.hid (show LVoters.IsQ w6 (.agg #[.slice a2 n2 c2, .slice e2 k2 f2]) r2 from ⟨_, _, rfl, p0.isQ, p1.isQ⟩)
  have HLN2 := Lib.hid (And.intro hl0 hl1)
  clear p0 p1 d01 hl0 hl1
  have HU2 := Lib.hid (hU.isS hnu)
  have HZ2 := Lib.hid hz
  clear hU hnu hz
  obtain ⟨b10, m10, d10, rfl⟩ := isS_slice HU2.out
  replace HB := Lib.hid (HB.out.trans (hb.mono HB.out.size))
  clear hb
  have P9 := Lib.hid (Bx.new w6 27 #[.slice a2 n2 c2, .slice e2 k2 f2])
  have hb := (Below.refl w6.heap.size w6).alloc (Nat.le_refl _) (Obj.cells #[.slice a2 n2 c2, .slice e2 k2 f2] 27)
  replace HV2 := Lib.hid (LVoters.IsQ.below HV2.out hb)
  replace HU2 := Lib.hid (HU2.out.below LInt.rec hb)
  replace HB := Lib.hid (HB.out.trans (hb.mono HB.out.size))
  clear hb
  go_upto_region 9 with fail
  generalize w6.alloc (Obj.cells #[.slice a2 n2 c2, .slice e2 k2 f2] 27) = w7 at *
  generalize w6.heap.size = gw7 at *
  have P9_0 := P9.out.cell 0
  have P9_1 := P9.out.cell 1
  simp only [List.getElem?_toArray, List.getElem?_cons_zero, List.getElem?_cons_succ] at P9_0 P9_1
  go_wp2_with fail
  refine (WeightPresentC.impl _ r2 _ z2 _ HV2.out (Draw.vofine r2) (by have := HLN2.out.1; omega) (by have := HLN2.out.2; omega) HU2.out (fun _ _ => trivial) (by have := HZ2.out; omega)).mono ?_
  rintro e w8 ⟨m1, fine, rfl, hA, hb⟩
  clear P9_0 P9_1
  have HA2 := Lib.hid hA
  clear hA
  replace P9 := Lib.hid (P9.out.kept hb)
  replace HV2 := Lib.hid (LVoters.IsQ.below HV2.out hb)
  replace HU2 := Lib.hid (HU2.out.below LInt.rec hb)
  replace HB := Lib.hid (HB.out.trans (hb.mono HB.out.size))
  clear hb
  have P9_0 := P9.out.cell 0
  have P9_1 := P9.out.cell 1
  simp only [List.getElem?_toArray, List.getElem?_cons_zero, List.getElem?_cons_succ] at P9_0 P9_1
  go_wp2_with fail
  refine (WeightPresentC.spec _ r2 _ z2 _ HV2.out (Draw.vofine r2) (by have := HLN2.out.1; omega) (by have := HLN2.out.2; omega) HU2.out (fun _ _ => trivial) (by have := HZ2.out; omega)).mono ?_
  rintro e w9 ⟨m2, fine2, rfl, hA, hb⟩
  clear P9_0 P9_1
  obtain ⟨rfl, rfl⟩ := WeightPresentC.same HA2.out hA
  clear hA
  replace P9 := Lib.hid (P9.out.kept hb)
  replace HV2 := Lib.hid (LVoters.IsQ.below HV2.out hb)
  replace HU2 := Lib.hid (HU2.out.below LInt.rec hb)
  replace HB := Lib.hid (HB.out.trans (hb.mono HB.out.size))
  clear hb
  go_upto_region 11 with fail
  go_cut [99] (fun sq wx => sq = .bool false ∧ Below w9.heap.size w9 wx)
  case first =>
    have hne : (m1 != m1) = false := bne_self_eq_false _
    cases fine
    all_goals
      go_wp2_with fail
      go_meet
      exact ⟨rfl, Below.refl _ _⟩
  case rest =>
  obtain ⟨rfl, hb⟩ := hcut
  obtain ⟨w10, hwN⟩ : ∃ x, x = wc := ⟨_, rfl⟩
  subst hwN
  replace P9 := Lib.hid (P9.out.kept hb)
  replace HV2 := Lib.hid (LVoters.IsQ.below HV2.out hb)
  replace HU2 := Lib.hid (HU2.out.below LInt.rec hb)
  replace HB := Lib.hid (HB.out.trans (hb.mono HB.out.size))
  clear hb
  clear HU2 HZ2
  cases fine with
  | false =>
    clear P9 HV2 HLN2 HA2
    go_wp2_with fail
    refine (Draw.drawHolderFor a0 len0 cap0 z0 _ (Draw.row_kept HW0.out HB.out) hl).mono ?_
    rintro e w11 ⟨v, r3, x3, rfl, hO, hl0, hl1, hb⟩
    obtain ⟨u0, u1, rfl, p0, p1, d01⟩ := hO
    obtain ⟨a3, n3, c3, rfl⟩ := own_slice p0
    obtain ⟨e3, k3, f3, rfl⟩ := own_slice p1
    have HV3 := Lib.hid (show LVoters.IsQ w11 (.agg #[.slice a3 n3 c3, .slice e3 k3 f3]) r3 from ⟨_, _, rfl, p0.isQ, p1.isQ⟩)
    have HLN3 := Lib.hid (And.intro hl0 hl1)
    clear p0 p1 d01 hl0 hl1
    replace HB := Lib.hid (HB.out.trans (hb.mono HB.out.size))
    clear hb
    have P19 := Lib.hid (Bx.new w11 27 #[.slice a3 n3 c3, .slice e3 k3 f3])
    have hb := (Below.refl w11.heap.size w11).alloc (Nat.le_refl _) (Obj.cells #[.slice a3 n3 c3, .slice e3 k3 f3] 27)
    replace HV3 := Lib.hid (LVoters.IsQ.below HV3.out hb)
    replace HB := Lib.hid (HB.out.trans (hb.mono HB.out.size))
    clear hb
    go_upto_region 19 with fail
    generalize w11.alloc (Obj.cells #[.slice a3 n3 c3, .slice e3 k3 f3] 27) = w12 at *
    generalize w11.heap.size = gw12 at *
    have P19_0 := P19.out.cell 0
    have P19_1 := P19.out.cell 1
    simp only [List.getElem?_toArray, List.getElem?_cons_zero, List.getElem?_cons_succ] at P19_0 P19_1
    go_wp2_with fail
    refine (HolderForC.impl _ r3 x3 _ HV3.out (Draw.vofine r3) (by have := HLN3.out.1; omega) (by have := HLN3.out.2; omega)).mono ?_
    rintro e w13 ⟨g1, ok3, rfl, hA, hb⟩
    clear P19_0 P19_1
    have HA5 := Lib.hid hA
    clear hA
    replace P19 := Lib.hid (P19.out.kept hb)
    replace HV3 := Lib.hid (LVoters.IsQ.below HV3.out hb)
    replace HB := Lib.hid (HB.out.trans (hb.mono HB.out.size))
    clear hb
    have P19_0 := P19.out.cell 0
    have P19_1 := P19.out.cell 1
    simp only [List.getElem?_toArray, List.getElem?_cons_zero, List.getElem?_cons_succ] at P19_0 P19_1
    go_wp2_with fail
    refine (HolderForC.spec _ r3 x3 _ HV3.out (Draw.vofine r3) (by have := HLN3.out.1; omega) (by have := HLN3.out.2; omega)).mono ?_
    rintro e w14 ⟨g2, ok4, rfl, hA, hb⟩
    clear P19_0 P19_1
    obtain ⟨rfl, rfl⟩ := HolderForC.same HA5.out hA
    clear hA HA5
    replace P19 := Lib.hid (P19.out.kept hb)
    replace HV3 := Lib.hid (LVoters.IsQ.below HV3.out hb)
    replace HB := Lib.hid (HB.out.trans (hb.mono HB.out.size))
    clear hb
    go_upto_region 21 with fail
    go_cut [154] (fun sq wx => sq = .bool false ∧ Below w14.heap.size w14 wx)
    case first =>
      have hne : (g1 != g1) = false := bne_self_eq_false _
      cases ok3
      all_goals
        go_wp2_with fail
        go_meet
        exact ⟨rfl, Below.refl _ _⟩
    case rest =>
    obtain ⟨rfl, hb⟩ := hcut
    obtain ⟨w15, hwN⟩ : ∃ x, x = wc := ⟨_, rfl⟩
    subst hwN
    replace P19 := Lib.hid (P19.out.kept hb)
    replace HV3 := Lib.hid (LVoters.IsQ.below HV3.out hb)
    replace HB := Lib.hid (HB.out.trans (hb.mono HB.out.size))
    clear hb
    clear P19 HV3 HLN3
    go_wp2_with fail
    refine (Draw.drawProxySteps a0 len0 cap0 z0 _ (Draw.row_kept HW0.out HB.out) hl).mono ?_
    rintro e w16 ⟨v, r4, x4, rfl, hO, hl0, hl1, hb⟩
    obtain ⟨u0, u1, rfl, p0, p1, d01⟩ := hO
    obtain ⟨a4, n4, c4, rfl⟩ := own_slice p0
    obtain ⟨e4, k4, f4, rfl⟩ := own_slice p1
    have HV4 := Lib.hid (show LVoters.IsQ w16 (.agg #[.slice a4 n4 c4, .slice e4 k4 f4]) r4 from ⟨_, _, rfl, p0.isQ, p1.isQ⟩)
    have HLN4 := Lib.hid (And.intro hl0 hl1)
    clear p0 p1 d01 hl0 hl1
    replace HB := Lib.hid (HB.out.trans (hb.mono HB.out.size))
    clear hb
    have P25 := Lib.hid (Bx.new w16 27 #[.slice a4 n4 c4, .slice e4 k4 f4])
    have hb := (Below.refl w16.heap.size w16).alloc (Nat.le_refl _) (Obj.cells #[.slice a4 n4 c4, .slice e4 k4 f4] 27)
    replace HV4 := Lib.hid (LVoters.IsQ.below HV4.out hb)
    replace HB := Lib.hid (HB.out.trans (hb.mono HB.out.size))
    clear hb
    go_upto_region 24 with fail
    generalize w16.alloc (Obj.cells #[.slice a4 n4 c4, .slice e4 k4 f4] 27) = w17 at *
    generalize w16.heap.size = gw17 at *
    have P25_0 := P25.out.cell 0
    have P25_1 := P25.out.cell 1
    simp only [List.getElem?_toArray, List.getElem?_cons_zero, List.getElem?_cons_succ] at P25_0 P25_1
    go_wp2_with fail
    refine (ProxyStepsC.impl _ r4 x4 _ HV4.out (Draw.vofine r4) (by have := HLN4.out.1; omega) (by have := HLN4.out.2; omega)).mono ?_
    rintro e w18 ⟨s1, ok5, rfl, hA, hb⟩
    clear P25_0 P25_1
    have HA6 := Lib.hid hA
    clear hA
    replace P25 := Lib.hid (P25.out.kept hb)
    replace HV4 := Lib.hid (LVoters.IsQ.below HV4.out hb)
    replace HB := Lib.hid (HB.out.trans (hb.mono HB.out.size))
    clear hb
    have P25_0 := P25.out.cell 0
    have P25_1 := P25.out.cell 1
    simp only [List.getElem?_toArray, List.getElem?_cons_zero, List.getElem?_cons_succ] at P25_0 P25_1
    go_wp2_with fail
    refine (ProxyStepsC.spec _ r4 x4 _ HV4.out (Draw.vofine r4) (by have := HLN4.out.1; omega) (by have := HLN4.out.2; omega)).mono ?_
    rintro e w19 ⟨s2, ok6, rfl, hA, hb⟩
    clear P25_0 P25_1
    obtain ⟨rfl, rfl⟩ := ProxyStepsC.same HA6.out hA
    clear hA HA6
    replace P25 := Lib.hid (P25.out.kept hb)
    replace HV4 := Lib.hid (LVoters.IsQ.below HV4.out hb)
    replace HB := Lib.hid (HB.out.trans (hb.mono HB.out.size))
    clear hb
    go_upto_region 26 with fail
    have heq : (s1 == s1) = true := beq_self_eq_true _
    cases ok5
    all_goals
      go_wp2_with fail
      go_ret
      exact ⟨rfl, HB.out⟩
  | true =>
    have P9_0 := P9.out.cell 0
    have P9_1 := P9.out.cell 1
    simp only [List.getElem?_toArray, List.getElem?_cons_zero, List.getElem?_cons_succ] at P9_0 P9_1
    go_wp2_with fail
    refine (DirectVotesC.impl _ r2 _ HV2.out (Draw.vofine r2) (by have := HLN2.out.1; omega) (by have := HLN2.out.2; omega)).mono ?_
    rintro e w11 ⟨vd, dd, one, rfl, hA, hQ, hb⟩
    clear P9_0 P9_1
    have HA3 := Lib.hid hA
    have HQ3 := Lib.hid hQ.is
    obtain ⟨b7, m7, d7, rfl⟩ := own_slice hQ
    clear hA hQ
    replace P9 := Lib.hid (P9.out.kept hb)
    replace HV2 := Lib.hid (LVoters.IsQ.below HV2.out hb)
    replace HB := Lib.hid (HB.out.trans (hb.mono HB.out.size))
    clear hb
    have P9_0 := P9.out.cell 0
    have P9_1 := P9.out.cell 1
    simp only [List.getElem?_toArray, List.getElem?_cons_zero, List.getElem?_cons_succ] at P9_0 P9_1
    go_wp2_with fail
    refine (WeightPresentC.implI _ r2 _ dd _ HV2.out (Draw.vofine r2) (by have := HLN2.out.1; omega) (by have := HLN2.out.2; omega) HQ3.out (fun _ _ => trivial) (DirectVotesC.len0 HA3.out)).mono ?_
    rintro e w12 ⟨m3, two, rfl, hA, hb⟩
    clear P9_0 P9_1
    have HA4 := Lib.hid hA
    clear hA
    replace P9 := Lib.hid (P9.out.kept hb)
    replace HV2 := Lib.hid (LVoters.IsQ.below HV2.out hb)
    replace HQ3 := Lib.hid (HQ3.out.below LInt.rec hb)
    replace HB := Lib.hid (HB.out.trans (hb.mono HB.out.size))
    clear hb
    go_upto_region 16 with fail
    go_cut [129] (fun sq wx => sq = .bool false ∧ Below w12.heap.size w12 wx)
    case first =>
      have P9_0 := P9.out.cell 0
      have P9_1 := P9.out.cell 1
      simp only [List.getElem?_toArray, List.getElem?_cons_zero, List.getElem?_cons_succ] at P9_0 P9_1
      obtain ⟨rfl, rfl, hm3, hle, hwb⟩ := FnW.present_ok HA2.out HA3.out HA4.out
      have HS2 := Lib.hid (fun W' (hB : Below w12.heap.size w12 W') => VoQ.rSum (.slice a2 n2 c2) r2.weights W' ((VoQ.is_weights (LVoters.IsQ.is HV2.out)).below LInt.rec hB) hwb (by have := HLN2.out.1; omega))
      clear HA2 HA3 HA4 hwb
      obtain ⟨TT, hTT⟩ : ∃ x, x = tot r2.weights := ⟨_, rfl⟩
      rw [← hTT] at HS2 hm3 hle
      clear hTT
      subst hm3
      have hne : (m3 != m3) = false := bne_self_eq_false _
      have hgt : decide (m3 < m1) = false := decide_eq_false (by omega)
      clear hle
      go_wp2_with fail
      refine (HS2.out _ (Below.refl _ _)).mono ?_
      rintro e w' ⟨rfl, rfl⟩
      go_wp2_with fail
      go_meet
      exact ⟨rfl, Below.refl _ _⟩
    case rest =>
    obtain ⟨rfl, hb⟩ := hcut
    obtain ⟨w13, hwN⟩ : ∃ x, x = wc := ⟨_, rfl⟩
    subst hwN
    replace P9 := Lib.hid (P9.out.kept hb)
    replace HV2 := Lib.hid (LVoters.IsQ.below HV2.out hb)
    replace HQ3 := Lib.hid (HQ3.out.below LInt.rec hb)
    replace HB := Lib.hid (HB.out.trans (hb.mono HB.out.size))
    clear hb
    clear HQ3 HA3 HA4
    clear P9 HV2 HLN2 HA2
    go_wp2_with fail
    refine (Draw.drawHolderFor a0 len0 cap0 z0 _ (Draw.row_kept HW0.out HB.out) hl).mono ?_
    rintro e w14 ⟨v, r3, x3, rfl, hO, hl0, hl1, hb⟩
    obtain ⟨u0, u1, rfl, p0, p1, d01⟩ := hO
    obtain ⟨a3, n3, c3, rfl⟩ := own_slice p0
    obtain ⟨e3, k3, f3, rfl⟩ := own_slice p1
    have HV3 := Lib.hid (show LVoters.IsQ w14 (.agg #[.slice a3 n3 c3, .slice e3 k3 f3]) r3 from ⟨_, _, rfl, p0.isQ, p1.isQ⟩)
    have HLN3 := Lib.hid (And.intro hl0 hl1)
    clear p0 p1 d01 hl0 hl1
    replace HB := Lib.hid (HB.out.trans (hb.mono HB.out.size))
    clear hb
    have P19 := Lib.hid (Bx.new w14 27 #[.slice a3 n3 c3, .slice e3 k3 f3])
    have hb := (Below.refl w14.heap.size w14).alloc (Nat.le_refl _) (Obj.cells #[.slice a3 n3 c3, .slice e3 k3 f3] 27)
    replace HV3 := Lib.hid (LVoters.IsQ.below HV3.out hb)
    replace HB := Lib.hid (HB.out.trans (hb.mono HB.out.size))
    clear hb
    go_upto_region 19 with fail
    generalize w14.alloc (Obj.cells #[.slice a3 n3 c3, .slice e3 k3 f3] 27) = w15 at *
    generalize w14.heap.size = gw15 at *
    have P19_0 := P19.out.cell 0
    have P19_1 := P19.out.cell 1
    simp only [List.getElem?_toArray, List.getElem?_cons_zero, List.getElem?_cons_succ] at P19_0 P19_1
    go_wp2_with fail
    refine (HolderForC.impl _ r3 x3 _ HV3.out (Draw.vofine r3) (by have := HLN3.out.1; omega) (by have := HLN3.out.2; omega)).mono ?_
    rintro e w16 ⟨g1, ok3, rfl, hA, hb⟩
    clear P19_0 P19_1
    have HA5 := Lib.hid hA
    clear hA
    replace P19 := Lib.hid (P19.out.kept hb)
    replace HV3 := Lib.hid (LVoters.IsQ.below HV3.out hb)
    replace HB := Lib.hid (HB.out.trans (hb.mono HB.out.size))
    clear hb
    have P19_0 := P19.out.cell 0
    have P19_1 := P19.out.cell 1
    simp only [List.getElem?_toArray, List.getElem?_cons_zero, List.getElem?_cons_succ] at P19_0 P19_1
    go_wp2_with fail
    refine (HolderForC.spec _ r3 x3 _ HV3.out (Draw.vofine r3) (by have := HLN3.out.1; omega) (by have := HLN3.out.2; omega)).mono ?_
    rintro e w17 ⟨g2, ok4, rfl, hA, hb⟩
    clear P19_0 P19_1
    obtain ⟨rfl, rfl⟩ := HolderForC.same HA5.out hA
    clear hA HA5
    replace P19 := Lib.hid (P19.out.kept hb)
    replace HV3 := Lib.hid (LVoters.IsQ.below HV3.out hb)
    replace HB := Lib.hid (HB.out.trans (hb.mono HB.out.size))
    clear hb
    go_upto_region 21 with fail
    go_cut [154] (fun sq wx => sq = .bool false ∧ Below w17.heap.size w17 wx)
    case first =>
      have hne : (g1 != g1) = false := bne_self_eq_false _
      cases ok3
      all_goals
        go_wp2_with fail
        go_meet
        exact ⟨rfl, Below.refl _ _⟩
    case rest =>
    obtain ⟨rfl, hb⟩ := hcut
    obtain ⟨w18, hwN⟩ : ∃ x, x = wc := ⟨_, rfl⟩
    subst hwN
    replace P19 := Lib.hid (P19.out.kept hb)
    replace HV3 := Lib.hid (LVoters.IsQ.below HV3.out hb)
    replace HB := Lib.hid (HB.out.trans (hb.mono HB.out.size))
    clear hb
    clear P19 HV3 HLN3
    go_wp2_with fail
    refine (Draw.drawProxySteps a0 len0 cap0 z0 _ (Draw.row_kept HW0.out HB.out) hl).mono ?_
    rintro e w19 ⟨v, r4, x4, rfl, hO, hl0, hl1, hb⟩
    obtain ⟨u0, u1, rfl, p0, p1, d01⟩ := hO
    obtain ⟨a4, n4, c4, rfl⟩ := own_slice p0
    obtain ⟨e4, k4, f4, rfl⟩ := own_slice p1
    have HV4 := Lib.hid (show LVoters.IsQ w19 (.agg #[.slice a4 n4 c4, .slice e4 k4 f4]) r4 from ⟨_, _, rfl, p0.isQ, p1.isQ⟩)
    have HLN4 := Lib.hid (And.intro hl0 hl1)
    clear p0 p1 d01 hl0 hl1
    replace HB := Lib.hid (HB.out.trans (hb.mono HB.out.size))
    clear hb
    have P25 := Lib.hid (Bx.new w19 27 #[.slice a4 n4 c4, .slice e4 k4 f4])
    have hb := (Below.refl w19.heap.size w19).alloc (Nat.le_refl _) (Obj.cells #[.slice a4 n4 c4, .slice e4 k4 f4] 27)
    replace HV4 := Lib.hid (LVoters.IsQ.below HV4.out hb)
    replace HB := Lib.hid (HB.out.trans (hb.mono HB.out.size))
    clear hb
    go_upto_region 24 with fail
    generalize w19.alloc (Obj.cells #[.slice a4 n4 c4, .slice e4 k4 f4] 27) = w20 at *
    generalize w19.heap.size = gw20 at *
    have P25_0 := P25.out.cell 0
    have P25_1 := P25.out.cell 1
    simp only [List.getElem?_toArray, List.getElem?_cons_zero, List.getElem?_cons_succ] at P25_0 P25_1
    go_wp2_with fail
    refine (ProxyStepsC.impl _ r4 x4 _ HV4.out (Draw.vofine r4) (by have := HLN4.out.1; omega) (by have := HLN4.out.2; omega)).mono ?_
    rintro e w21 ⟨s1, ok5, rfl, hA, hb⟩
    clear P25_0 P25_1
    have HA6 := Lib.hid hA
    clear hA
    replace P25 := Lib.hid (P25.out.kept hb)
    replace HV4 := Lib.hid (LVoters.IsQ.below HV4.out hb)
    replace HB := Lib.hid (HB.out.trans (hb.mono HB.out.size))
    clear hb
    have P25_0 := P25.out.cell 0
    have P25_1 := P25.out.cell 1
    simp only [List.getElem?_toArray, List.getElem?_cons_zero, List.getElem?_cons_succ] at P25_0 P25_1
    go_wp2_with fail
    refine (ProxyStepsC.spec _ r4 x4 _ HV4.out (Draw.vofine r4) (by have := HLN4.out.1; omega) (by have := HLN4.out.2; omega)).mono ?_
    rintro e w22 ⟨s2, ok6, rfl, hA, hb⟩
    clear P25_0 P25_1
    obtain ⟨rfl, rfl⟩ := ProxyStepsC.same HA6.out hA
    clear hA HA6
    replace P25 := Lib.hid (P25.out.kept hb)
    replace HV4 := Lib.hid (LVoters.IsQ.below HV4.out hb)
    replace HB := Lib.hid (HB.out.trans (hb.mono HB.out.size))
    clear hb
    go_upto_region 26 with fail
    have heq : (s1 == s1) = true := beq_self_eq_true _
    cases ok5
    all_goals
      go_wp2_with fail
      go_ret
      exact ⟨rfl, HB.out⟩
end Go.Proofs.Ytdjnaoaniokbgaa.fnWeights
