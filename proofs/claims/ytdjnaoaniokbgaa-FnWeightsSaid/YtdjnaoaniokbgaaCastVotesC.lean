/- CastVotes: what it answers, on both sides. No condition. -/
import Derived.Test.YtdjnaoaniokbgaaVoJ
namespace Go.Proofs.Ytdjnaoaniokbgaa.CastVotesC
open Go.RowKit Bs Word Sq IntF Vo VoA VoN VoH VoJ
set_option linter.unusedVariables false
noncomputable def answer (r : V) (z : List Int) : List Int × Bool := if (good r && (decide (z.length = r.weights.length) && castB z)) = true then (tall r z z.length, true) else ([], false)
def Ans (r : V) (z : List Int) (r0 : List Int) (r1 : Bool) : Prop := (r0, r1) = answer r z
theorem same {r : V} {z : List Int} {r0 s0 : List Int} {r1 s1 : Bool} (h1 : Ans r z r0 r1) (h2 : Ans r z s0 s1) : r0 = s0 ∧ r1 = s1 := by
  have h := h1.trans h2.symm
  exact ⟨congrArg Prod.fst h, congrArg Prod.snd h⟩
def Post (r : V) (z : List Int) (w : World) (e : Ending) (w' : World) : Prop := ∃ v0 r0 r1, e = .returned (.tuple #[v0, .bool r1]) ∧ Ans r z r0 r1 ∧ Own LInt.rec 3 w' w.heap.size v0 r0 ∧ Below w.heap.size w w'
theorem len0 {r : V} {z : List Int} {r0 : List Int} {r1 : Bool} (h : Ans r z r0 r1) : r0.length ≤ 1048576 := by
  unfold Ans answer at h
  split at h
  · have h1 := congrArg Prod.fst h; simp only at h1; subst h1; rw [tall_len]; omega
  · have h1 := congrArg Prod.fst h; simp only at h1; subst h1; simp
theorem no1 {r : V} {z : List Int} (h : good r = false) : Ans r z [] false := by unfold Ans answer; rw [h]; rfl
theorem no2 {r : V} {z : List Int} (h : ¬ z.length = r.weights.length) : Ans r z [] false := by unfold Ans answer; rw [decide_eq_false h, Bool.false_and, Bool.and_false]; rfl
theorem no3 {r : V} {z : List Int} (h : castB z = false) : Ans r z [] false := by unfold Ans answer; rw [h, Bool.and_false, Bool.and_false]; rfl
theorem yes {r : V} {z : List Int} {m : Nat} (hg : good r = true) (hn : z.length = r.weights.length) (h : castB z = true) (hm : z.length = m) : Ans r z (tall r z m) true := by unfold Ans answer; rw [h, hg, decide_eq_true hn, hm]; rfl
set_option maxRecDepth 100000 in
set_option maxHeartbeats 1600000 in
theorem spec (v0 : Value) (r : V) (v1 : Value) (z : List Int) (w : World) (h0 : LVoters.IsQ w v0 r) (f0 : LVoters.Fine r) (l0 : r.weights.length ≤ 1048576) (l1 : r.proxies.length ≤ 1048576) (h1 : IsS LInt.rec w v1 z) (f1 : ∀ x ∈ z, LInt.Fine x) (l2 : z.length ≤ 1048576) : Calls Try.prog 35 #[v0, v1] w (Post r z w) := by
  obtain ⟨i9, hi, hz0, hz1, hz2⟩ := info_parts LInt.infoK
  have HI9 := Lib.hid hi
  have HZ9 := Lib.hid (And.intro hz0 (And.intro hz1 hz2))
  clear hi hz0 hz1 hz2
  have HL := Lib.hid (And.intro l0 l1)
  replace h0 := LVoters.IsQ.is h0
  obtain ⟨a0, n0, c0, a1, n1, c1, rfl, HN0, HN1, hb0, hb1', hm0, hm1, hc0, hc1, HI⟩ := open_is h0
  clear h0
  replace h1 := IsS.is LInt.rec h1
  have H1 := Lib.hid h1
  obtain ⟨az, cz, rfl, h1⟩ := h1
  have hcz := h1.at_ LInt.rec
  obtain ⟨nz, hnz⟩ : ∃ n, n = z.length := ⟨_, rfl⟩
  have hnzb : nz ≤ cz := by have := h1.1; omega
  have hnz2 := h1.2.1
  unfold maxLen at hnz2
  have HNZ := Lib.hid hnz.symm
  rw [← hnz] at H1 l2 ⊢
  clear hnz h1 f1 l0 l1 f0
  obtain ⟨W, hW⟩ : ∃ W : World, W = w.alloc (Obj.cells #[.slice a0 n0 c0, .slice a1 n1 c1] 27) := ⟨_, rfl⟩
  have hb : Below w.heap.size w W := by rw [hW]; exact (Below.refl _ _).alloc (Nat.le_refl _) _
  have HZ := Lib.hid (show W.heap.size = w.heap.size + 1 by rw [hW]; simp)
  have B0 := Lib.hid (show Bx W w.heap.size 27 #[.slice a0 n0 c0, .slice a1 n1 c1] by rw [hW]; exact Bx.new _ _ _)
  have HIW := Lib.hid (LVoters.Is.below HI.out hb)
  have q0 := B0.out.cell 0
  have q1 := B0.out.cell 1
  simp only [List.getElem?_toArray, List.getElem?_cons_zero, List.getElem?_cons_succ] at q0 q1
  have HZ0 := HZ
  have HC := Lib.hid (VoG.l12Good _ r W HIW.out HL.out.1 HL.out.2)
  go_enter Try.func35, Try.ntmps35
  go_upto_region 1 with fail
  rw [← hW]
  clear hW
  go_wp2_with fail
  refine HC.out.mono ?_
  rintro e w1 ⟨rfl, hb1⟩
  have B1 := Lib.hid (B0.out.kept hb1)
  have hb2 := hb.trans (hb1.mono hb.size)
  have HZ1 := Lib.hid (show w.heap.size + 1 ≤ w1.heap.size by have := HZ.out; have := hb1.size; omega)
  clear q0 q1 hb1
  have q0 := B1.out.cell 0
  have q1 := B1.out.cell 1
  simp only [List.getElem?_toArray, List.getElem?_cons_zero, List.getElem?_cons_succ] at q0 q1
  cases hg : good r with
  | false =>
    have HA := Lib.hid (no1 (z := z) hg)
    have HO := Lib.hid (Own.start (T := LInt.rec) (E := 3) (w := w1) (A := w.heap.size) hb2.size)
    clear hg
    go_wp2_with fail
    go_ret2
    exact ⟨_, _, _, rfl, HA.out, HO.out, hb2.alloc hb2.size _⟩
  | true =>
  have HGP := Lib.hid (good_of hg)
  have HGG := Lib.hid hg
  have h12 : n0 ≤ 12 := by have := HGP.out.n; have := HN0.out; omega
  clear hg
  by_cases hln : nz = n0
  rotate_left
  · have HA := Lib.hid (no2 (r := r) (z := z) (by have := HNZ.out; have := HN0.out; omega))
    have HO := Lib.hid (Own.start (T := LInt.rec) (E := 3) (w := w1) (A := w.heap.size) hb2.size)
    have hln2 : ((nz : Int) != (n0 : Int)) = true := bne_iff_ne.2 (by omega)
    go_wp2_with fail
    go_ret2
    exact ⟨_, _, _, rfl, HA.out, HO.out, hb2.alloc hb2.size _⟩
  subst hln
  have HH := VoH.l12Held _ r w1 (LVoters.Is.below HI.out hb2) HL.out.1 HL.out.2 HGP.out
  rw [HN0.out] at HH
  have HH := Lib.hid HH
  go_wp2_with fail
  refine HH.out.mono ?_
  rintro e w3 ⟨g, rfl, hgb, ho, hb3⟩
  have HO := Lib.hid (show Own LInt.rec 3 w3 (w1.heap.size + 1) (.slice (some ⟨g, 0, none⟩) nz nz) (hd r) from HN0.out.symm ▸ ho)
  have HZW := Lib.hid (show w.heap.size + 1 ≤ w3.heap.size by have := HZ1.out; have := hb3.size; omega)
  have HZ0 := Lib.hid (show w.heap.size + 1 ≤ w1.heap.size + 1 by have := HZ1.out; omega)
  replace hb2 := hb2.trans (hb3.mono hb2.size)
  clear q0 q1 hb3 B1 ho HH
  go_wp2_with (at_make; refine wpList_make_full _ rfl (.const (.int .i64 4)) (.const (.int .i64 4)) 24 rfl w3.heap.size 3 i9 (.int .i64 0) 1 Try.underlying24 HI9.out HZ9.out.1 HZ9.out.2.1 .i64 .i64 _ _ 4 rfl rfl rfl rfl ?m1 ?m2 ?m3 ?m4)
  case m1 => rw [HZ9.out.2.2]; omega
  case m2 => unfold maxLen; omega
  case m3 => exact Nat.le_refl _
  case m4 =>
  intro w4 hown hgrow
  have hb4 : Below w3.heap.size w3 w4 := (Below.refl _ _).grown hgrow (Nat.le_refl _) (fun k hk => by cases hk)
  obtain ⟨q, hq⟩ : ∃ q, q = w3.heap.size := ⟨_, rfl⟩
  have HT : Hid (Own LInt.rec 3 w4 w3.heap.size (.slice (some ⟨q, 0, none⟩) 4 4) (tall r z 0)) := by
    show Bs.Own _ _ _ _ _ (List.replicate _ _)
    unfold Bs.Own; rw [List.length_replicate, hq]
    have h := LInt.made_zero 4
    unfold LInt.zero at h
    rw [← h]; exact hown
  rw [← hq]
  have HT := Lib.hid (HT.out.low (show w.heap.size + 1 ≤ w3.heap.size by have := HZW.out; omega))
  have HGQ := Lib.hid (show g < q by have := (HO.out.lt g rfl).2; omega)
  have HO4 := Lib.hid ((HO.out.kept hb4).low (show w.heap.size + 1 ≤ _ by have := HZ0.out; omega))
  have hb5 := hb2.trans (hb4.mono hb2.size)
  clear hown hgrow hq HO
  go_wp2_with fail
  go_loopw [8] (fun i wr => ∃ k : Nat, k ≤ nz ∧ i = .int .i64 k ∧ Hid (Own LInt.rec 3 wr (w.heap.size + 1) (.slice (some ⟨q, 0, none⟩) 4 4) (tall r z k)) ∧ Hid (Own LInt.rec 3 wr (w.heap.size + 1) (.slice (some ⟨g, 0, none⟩) nz nz) (hd r)) ∧ Below w.heap.size w wr ∧ Hid (∀ (i : Nat) (x : Int), i < k → z[i]? = some x → inB x 0 3 = true)) (fun i _ => nz - (intOf i).toNat)
  case atStart => exact ⟨0, Nat.zero_le _, rfl, HT, HO4, hb5, Lib.hid (fun i x hi => by omega)⟩
  case round =>
    clear HT HO4 hb5 hb2 hb4
    obtain ⟨k, hk, rfl, HT, HO, hb, HS⟩ := hrel
    by_cases hlt : k < nz
    · have k0 : 0 ≤ (k : Int) := by omega
      have k1 : (k : Int) < (nz : Int) := by omega
      have hxz : k < z.length := by have := HNZ.out; omega
      obtain ⟨b, o, he, hbl, hcell0⟩ := hcz.out k z[k] (List.getElem?_eq_getElem hxz)
      (try subst he)
      have t0 := LInt.cells (hcell0.below LInt.rec hb hbl)
      simp only [LInt.rec_n, Nat.mul_one] at t0
      have HX := Lib.hid (List.getElem?_eq_getElem hxz)
      clear hcell0
      generalize z[k] = x at *
      have HM := Lib.hid (fun W => in_as x 0 3 _ rfl W)
      go_wp2_with fail
      refine (HM.out _).mono ?_
      rintro e w' ⟨rfl, rfl⟩
      cases g1 : inB x 0 3 with
      | false =>
        have HA := Lib.hid (no3 (r := r) (cast_bad HX.out g1))
        have HOb := Lib.hid (Own.start (T := LInt.rec) (E := 3) (w := wr) (A := w.heap.size) hb.size)
        clear g1
        go_wp2_with fail
        go_ret2
        exact ⟨_, _, _, rfl, HA.out, HOb.out, hb.alloc hb.size _⟩
      | true =>
      have HN2 := Lib.hid (cast_next HS.out HX.out g1)
      have hxb := inB_yes g1
      have hx0 := hxb.1
      have hx1 : x < 4 := by omega
      have hatd := getD_at (l := hd r) (i := k) (by rw [hd_len, HN0.out]; exact hlt)
      have HDI := Lib.hid (hd_in HGP.out k)
      obtain ⟨y, hy⟩ : ∃ y, y = (hd r).getD k 0 := ⟨_, rfl⟩
      rw [← hy] at hatd HDI
      have hat := getD_at (l := tall r z k) (i := x.toNat) (by rw [tall_len]; omega)
      have HTI := Lib.hid (tall_in HGP.out z k x.toNat)
      have HTN := Lib.hid (tall_next HX.out hatd)
      obtain ⟨c, hc⟩ : ∃ c, c = (tall r z k).getD x.toNat 0 := ⟨_, rfl⟩
      rw [← hc] at hat HTI HTN
      have e2 : IntKind.i64.wrap (c + y) = c + y := IntWalk.i64_in _ (by have := HTI.out; have := HDI.out; omega)
      have cc0 := LInt.cells (Own.at_ HT.out x.toNat c hat)
      have cc1 := LInt.cells (Own.at_ HO.out k y hatd)
      simp only [LInt.rec_n, Nat.mul_one] at cc0 cc1
      have hf : ∀ o, wr.frozen? ⟨q, o, none⟩ = false := Own.frozen (tall_len _ _ _) HT.out
      have HPut := Lib.hid (show Own LInt.rec 3 _ (w.heap.size + 1) _ (tall r z (k + 1)) from HTN.out ▸ LInt.putAll (tall_len _ _ _) HT.out x.toNat c (c + y) hat)
      have HOf := Lib.hid (show Own LInt.rec 3 (wr.setCell ⟨q, x.toNat, none⟩ (.int .i64 (c + y))) (w.heap.size + 1) (.slice (some ⟨g, 0, none⟩) nz nz) (hd r) from own_set HO.out (p := ⟨q, x.toNat, none⟩) (fun kk hkk => by have h2 := Option.some.inj (show some g = some kk from hkk); have := HGQ.out; show kk ≠ q; omega) _)
      have hb6 := hb.setCell (p := ⟨q, x.toNat, none⟩) (show w.heap.size ≤ q by have := (HT.out.lt q rfl).1; omega) (.int .i64 (c + y))
      clear hatd hy hat hc HT HO hb g1 hxb
      go_wp2_with fail
      refine wp_region_still_tail 12 (by kernel_rfl) (by kernel_rfl) ?_
      simp only [List.take_succ_cons, List.take_zero, List.drop_succ_cons, List.drop_zero]
      repeat still_step
      refine wpStill_nil ?_
      go_wp2_with fail
      go_roundw
      case rel => exact ⟨k + 1, by omega, by go_num, Lib.hid (Own.kept HPut.out ((Below.refl _ _).drew)), Lib.hid (Own.kept HOf.out ((Below.refl _ _).drew)), hb6.drew, HN2⟩
      case measure => simp [intOf]; omega
    · obtain rfl : k = nz := by omega
      have HA := Lib.hid (yes HGG.out (HNZ.out.trans HN0.out.symm) (cast_all (by have := HNZ.out; omega) HS.out) HNZ.out)
      go_wp2_with fail
      go_ret2
      exact ⟨_, _, _, rfl, HA.out, HT.out.low (Nat.le_succ _), hb⟩

set_option maxRecDepth 100000 in
set_option maxHeartbeats 1600000 in
theorem impl (v0 : Value) (r : V) (v1 : Value) (z : List Int) (w : World) (h0 : LVoters.IsQ w v0 r) (f0 : LVoters.Fine r) (l0 : r.weights.length ≤ 1048576) (l1 : r.proxies.length ≤ 1048576) (h1 : IsS LInt.rec w v1 z) (f1 : ∀ x ∈ z, LInt.Fine x) (l2 : z.length ≤ 1048576) : Calls Try.prog 34 #[v0, v1] w (Post r z w) := by
  obtain ⟨i9, hi, hz0, hz1, hz2⟩ := info_parts LInt.infoK
  have HI9 := Lib.hid hi
  have HZ9 := Lib.hid (And.intro hz0 (And.intro hz1 hz2))
  clear hi hz0 hz1 hz2
  have HL := Lib.hid (And.intro l0 l1)
  replace h0 := LVoters.IsQ.is h0
  obtain ⟨a0, n0, c0, a1, n1, c1, rfl, HN0, HN1, hb0, hb1', hm0, hm1, hc0, hc1, HI⟩ := open_is h0
  clear h0
  replace h1 := IsS.is LInt.rec h1
  have H1 := Lib.hid h1
  obtain ⟨az, cz, rfl, h1⟩ := h1
  have hcz := h1.at_ LInt.rec
  obtain ⟨nz, hnz⟩ : ∃ n, n = z.length := ⟨_, rfl⟩
  have hnzb : nz ≤ cz := by have := h1.1; omega
  have hnz2 := h1.2.1
  unfold maxLen at hnz2
  have HNZ := Lib.hid hnz.symm
  rw [← hnz] at H1 l2 ⊢
  clear hnz h1 f1 l0 l1 f0
  obtain ⟨W, hW⟩ : ∃ W : World, W = w.alloc (Obj.cells #[.slice a0 n0 c0, .slice a1 n1 c1] 27) := ⟨_, rfl⟩
  have hb : Below w.heap.size w W := by rw [hW]; exact (Below.refl _ _).alloc (Nat.le_refl _) _
  have HZ := Lib.hid (show W.heap.size = w.heap.size + 1 by rw [hW]; simp)
  have B0 := Lib.hid (show Bx W w.heap.size 27 #[.slice a0 n0 c0, .slice a1 n1 c1] by rw [hW]; exact Bx.new _ _ _)
  have HIW := Lib.hid (LVoters.Is.below HI.out hb)
  have q0 := B0.out.cell 0
  have q1 := B0.out.cell 1
  simp only [List.getElem?_toArray, List.getElem?_cons_zero, List.getElem?_cons_succ] at q0 q1
  cases hg : good r with
  | false =>
    have HH := Lib.hid (VoH.heldNo _ r W HIW.out HL.out.1 HL.out.2 hg)
    have HA := Lib.hid (no1 (z := z) hg)
    clear hg
    go_enter Try.func34, Try.ntmps34
    go_upto_region 1 with fail
    rw [← hW]
    clear hW
    go_wp2_with fail
    refine HH.out.mono ?_
    rintro e w1 ⟨g, rfl, hgb, ho, hb1⟩
    have hb2 := hb.trans (hb1.mono hb.size)
    have HO := Lib.hid (Own.start (T := LInt.rec) (E := 3) (w := w1) (A := w.heap.size) hb2.size)
    go_wp2_with fail
    go_ret2
    exact ⟨_, _, _, rfl, HA.out, HO.out, hb2.alloc hb2.size _⟩
  | true =>
  have HGP := Lib.hid (good_of hg)
  have HGG := Lib.hid hg
  have h12 : n0 ≤ 12 := by have := HGP.out.n; have := HN0.out; omega
  have HH := VoH.heldYes _ r W HIW.out HL.out.1 HL.out.2 hg
  rw [HN0.out] at HH
  have HH := Lib.hid HH
  clear hg
  go_enter Try.func34, Try.ntmps34
  go_upto_region 1 with fail
  rw [← hW]
  clear hW
  go_wp2_with fail
  refine HH.out.mono ?_
  rintro e w1 ⟨g, rfl, hgb, ho, hb1⟩
  have HO := Lib.hid (show Own LInt.rec 3 w1 (W.heap.size + 1) (.slice (some ⟨g, 0, none⟩) n0 n0) (hd r) from HN0.out.symm ▸ ho)
  have HZW := Lib.hid (show w.heap.size + 1 ≤ w1.heap.size by have := HZ.out; have := hb1.size; omega)
  have HZ0 := Lib.hid (show w.heap.size + 1 ≤ W.heap.size + 1 by have := HZ.out; omega)
  have hb2 := hb.trans (hb1.mono hb.size)
  clear q0 q1 hb1 ho HH
  by_cases hln : nz = n0
  rotate_left
  · have HA := Lib.hid (no2 (r := r) (z := z) (by have := HNZ.out; have := HN0.out; omega))
    have HO := Lib.hid (Own.start (T := LInt.rec) (E := 3) (w := w1) (A := w.heap.size) hb2.size)
    have hln2 : ((nz : Int) != (n0 : Int)) = true := bne_iff_ne.2 (by omega)
    go_wp2_with fail
    go_ret2
    exact ⟨_, _, _, rfl, HA.out, HO.out, hb2.alloc hb2.size _⟩
  subst hln
  go_wp2_with (at_make; refine wpList_make_full _ rfl (.const (.int .i64 4)) (.const (.int .i64 4)) 24 rfl w1.heap.size 3 i9 (.int .i64 0) 1 Try.underlying24 HI9.out HZ9.out.1 HZ9.out.2.1 .i64 .i64 _ _ 4 rfl rfl rfl rfl ?m1 ?m2 ?m3 ?m4)
  case m1 => rw [HZ9.out.2.2]; omega
  case m2 => unfold maxLen; omega
  case m3 => exact Nat.le_refl _
  case m4 =>
  intro w4 hown hgrow
  have hb4 : Below w1.heap.size w1 w4 := (Below.refl _ _).grown hgrow (Nat.le_refl _) (fun k hk => by cases hk)
  obtain ⟨q, hq⟩ : ∃ q, q = w1.heap.size := ⟨_, rfl⟩
  have HT : Hid (Own LInt.rec 3 w4 w1.heap.size (.slice (some ⟨q, 0, none⟩) 4 4) (tall r z 0)) := by
    show Bs.Own _ _ _ _ _ (List.replicate _ _)
    unfold Bs.Own; rw [List.length_replicate, hq]
    have h := LInt.made_zero 4
    unfold LInt.zero at h
    rw [← h]; exact hown
  rw [← hq]
  have HT := Lib.hid (HT.out.low (show w.heap.size + 1 ≤ w1.heap.size by have := HZW.out; omega))
  have HGQ := Lib.hid (show g < q by have := (HO.out.lt g rfl).2; omega)
  have HO4 := Lib.hid ((HO.out.kept hb4).low (show w.heap.size + 1 ≤ _ by have := HZ0.out; omega))
  have hb5 := hb2.trans (hb4.mono hb2.size)
  clear hown hgrow hq HO
  go_wp2_with fail
  go_loopw [29] (fun i wr => ∃ k : Nat, k ≤ nz ∧ i = .int .i64 k ∧ Hid (Own LInt.rec 3 wr (w.heap.size + 1) (.slice (some ⟨q, 0, none⟩) 4 4) (tall r z k)) ∧ Hid (Own LInt.rec 3 wr (w.heap.size + 1) (.slice (some ⟨g, 0, none⟩) nz nz) (hd r)) ∧ Below w.heap.size w wr ∧ Hid (∀ (i : Nat) (x : Int), i < k → z[i]? = some x → inB x 0 3 = true)) (fun i _ => nz - (intOf i).toNat)
  case atStart => exact ⟨0, Nat.zero_le _, rfl, HT, HO4, hb5, Lib.hid (fun i x hi => by omega)⟩
  case round =>
    clear HT HO4 hb5 hb2 hb4
    obtain ⟨k, hk, rfl, HT, HO, hb, HS⟩ := hrel
    by_cases hlt : k < nz
    · have k0 : 0 ≤ (k : Int) := by omega
      have k1 : (k : Int) < (nz : Int) := by omega
      have hxz : k < z.length := by have := HNZ.out; omega
      obtain ⟨b, o, he, hbl, hcell0⟩ := hcz.out k z[k] (List.getElem?_eq_getElem hxz)
      (try subst he)
      have t0 := LInt.cells (hcell0.below LInt.rec hb hbl)
      simp only [LInt.rec_n, Nat.mul_one] at t0
      have HX := Lib.hid (List.getElem?_eq_getElem hxz)
      clear hcell0
      generalize z[k] = x at *
      by_cases ga : (0 : Int) > x
      · have HA := Lib.hid (no3 (r := r) (cast_bad HX.out (inB_not (by omega))))
        have HOb := Lib.hid (Own.start (T := LInt.rec) (E := 3) (w := wr) (A := w.heap.size) hb.size)
        go_wp2_with fail
        go_ret2
        exact ⟨_, _, _, rfl, HA.out, HOb.out, hb.alloc hb.size _⟩
      by_cases gb : (3 : Int) < x
      · have HA := Lib.hid (no3 (r := r) (cast_bad HX.out (inB_not (by omega))))
        have HOb := Lib.hid (Own.start (T := LInt.rec) (E := 3) (w := wr) (A := w.heap.size) hb.size)
        go_wp2_with fail
        go_ret2
        exact ⟨_, _, _, rfl, HA.out, HOb.out, hb.alloc hb.size _⟩
      have g1 : inB x 0 3 = true := inB_mk (by omega) (by omega)
      have HN2 := Lib.hid (cast_next HS.out HX.out g1)
      have hxb := inB_yes g1
      have hx0 := hxb.1
      have hx1 : x < 4 := by omega
      have hatd := getD_at (l := hd r) (i := k) (by rw [hd_len, HN0.out]; exact hlt)
      have HDI := Lib.hid (hd_in HGP.out k)
      obtain ⟨y, hy⟩ : ∃ y, y = (hd r).getD k 0 := ⟨_, rfl⟩
      rw [← hy] at hatd HDI
      have hat := getD_at (l := tall r z k) (i := x.toNat) (by rw [tall_len]; omega)
      have HTI := Lib.hid (tall_in HGP.out z k x.toNat)
      have HTN := Lib.hid (tall_next HX.out hatd)
      obtain ⟨c, hc⟩ : ∃ c, c = (tall r z k).getD x.toNat 0 := ⟨_, rfl⟩
      rw [← hc] at hat HTI HTN
      have e2 : IntKind.i64.wrap (c + y) = c + y := IntWalk.i64_in _ (by have := HTI.out; have := HDI.out; omega)
      have cc0 := LInt.cells (Own.at_ HT.out x.toNat c hat)
      have cc1 := LInt.cells (Own.at_ HO.out k y hatd)
      simp only [LInt.rec_n, Nat.mul_one] at cc0 cc1
      have hf : ∀ o, wr.frozen? ⟨q, o, none⟩ = false := Own.frozen (tall_len _ _ _) HT.out
      have HPut := Lib.hid (show Own LInt.rec 3 _ (w.heap.size + 1) _ (tall r z (k + 1)) from HTN.out ▸ LInt.putAll (tall_len _ _ _) HT.out x.toNat c (c + y) hat)
      have HOf := Lib.hid (show Own LInt.rec 3 (wr.setCell ⟨q, x.toNat, none⟩ (.int .i64 (c + y))) (w.heap.size + 1) (.slice (some ⟨g, 0, none⟩) nz nz) (hd r) from own_set HO.out (p := ⟨q, x.toNat, none⟩) (fun kk hkk => by have h2 := Option.some.inj (show some g = some kk from hkk); have := HGQ.out; show kk ≠ q; omega) _)
      have hb6 := hb.setCell (p := ⟨q, x.toNat, none⟩) (show w.heap.size ≤ q by have := (HT.out.lt q rfl).1; omega) (.int .i64 (c + y))
      clear hatd hy hat hc HT HO hb g1 hxb
      go_wp2_with fail
      refine wp_region_still_tail 10 (by kernel_rfl) (by kernel_rfl) ?_
      simp only [List.take_succ_cons, List.take_zero, List.drop_succ_cons, List.drop_zero]
      repeat still_step
      refine wpStill_nil ?_
      go_wp2_with fail
      go_roundw
      case rel => exact ⟨k + 1, by omega, by go_num, Lib.hid (Own.kept HPut.out ((Below.refl _ _).drew)), Lib.hid (Own.kept HOf.out ((Below.refl _ _).drew)), hb6.drew, HN2⟩
      case measure => simp [intOf]; omega
    · obtain rfl : k = nz := by omega
      have HA := Lib.hid (yes HGG.out (HNZ.out.trans HN0.out.symm) (cast_all (by have := HNZ.out; omega) HS.out) HNZ.out)
      go_wp2_with fail
      go_ret2
      exact ⟨_, _, _, rfl, HA.out, HT.out.low (Nat.le_succ _), hb⟩

end Go.Proofs.Ytdjnaoaniokbgaa.CastVotesC
