/- SecondQuestion, model and program: what both answer. No condition but that names are no longer than strings can be. -/
import Derived.Test.YtbaflfbidgolfaaData
namespace Go.Proofs.Ytbaflfbidgolfaa.SecondQuestionC
open Go.RowKit Bs Word Sq St StF StL StG StA IntF
set_option linter.unusedVariables false
def Ans (z0 : List LRule.R) (z1 : List LQuestion.R) (a2 : Int) (r0 : List LQuestion.R) (r1 : Bool) : Prop := scA z0 z1 a2 = (r0, r1)
theorem same {z0 : List LRule.R} {z1 : List LQuestion.R} {a2 : Int} {r0 s0 : List LQuestion.R} {r1 s1 : Bool} (h : Ans z0 z1 a2 r0 r1) (h' : Ans z0 z1 a2 s0 s1) : r0 = s0 ∧ r1 = s1 := by
  have := h.symm.trans h'; simp only [Prod.mk.injEq] at this; exact this
theorem len0 {z0 : List LRule.R} {z1 : List LQuestion.R} {a2 : Int} {r0 : List LQuestion.R} {r1 : Bool} (h : Ans z0 z1 a2 r0 r1) : r0.length ≤ 1048576 := by
  unfold Ans scA at h
  split at h
  · rename_i hg
    rw [Bool.and_eq_true] at hg
    have := good_len hg.1
    simp only [Prod.mk.injEq] at h
    rw [← h.1, sec1_len]; omega
  · simp only [Prod.mk.injEq] at h; rw [← h.1]; simp
def APost (z0 : List LRule.R) (z1 : List LQuestion.R) (a2 : Int) (w : World) (e : Ending) (w' : World) : Prop :=
  ∃ v0 r0 r1, e = .returned (.tuple #[v0, .bool r1]) ∧ Ans z0 z1 a2 r0 r1 ∧ Own LQuestion.rec 47 w' w.heap.size v0 r0 ∧ Below w.heap.size w w'
theorem own_some {w : World} {A : Nat} {v : Value} {l : List Q} (h : Own LQuestion.rec 47 w A v l) (hl : 0 < l.length) : ∃ g c, v = .slice (some ⟨g, 0, none⟩) l.length c ∧ A ≤ g ∧ g < w.heap.size ∧ l.length ≤ c ∧ c ≤ maxLen := by
  rcases h.shape with ⟨_, h0⟩ | h
  · rw [h0] at hl; simp at hl
  · exact h
theorem own_len {w : World} {A : Nat} {g n c : Nat} {l : List Q} (h : Own LQuestion.rec 47 w A (.slice (some ⟨g, 0, none⟩) n c) l) (hl : l.length = n) : Own LQuestion.rec 47 w A (.slice (some ⟨g, 0, none⟩) n c) l := h
set_option maxRecDepth 100000 in
set_option maxHeartbeats 3200000 in
theorem spec (v0 : Value) (z0 : List LRule.R) (v1 : Value) (z1 : List LQuestion.R) (a2 : Int) (w : World) (h0 : IsS LRule.rec w v0 z0) (f0 : ∀ x ∈ z0, LRule.Fine x) (l0 : z0.length ≤ 1048576) (h1 : IsS LQuestion.rec w v1 z1) (f1 : ∀ x ∈ z1, LQuestion.Fine x) (l1 : z1.length ≤ 1048576) :
    Calls Try.prog 34 #[v0, v1, .int .i64 a2] w (APost z0 z1 a2 w) := by
  have HR := Lib.hid (IsS.is LRule.rec h0)
  have HQI := Lib.hid (IsS.is LQuestion.rec h1)
  have HIS := Lib.hid h1
  have HF0 := Lib.hid f0
  obtain ⟨b, o, cp, rfl, hbl, hxc, hcm, hcell⟩ := h1
  have HC := Lib.hid hcell
  obtain ⟨n, hn⟩ : ∃ n, n = z1.length := ⟨_, rfl⟩
  have HN := Lib.hid hn.symm
  rw [← hn] at HQI HIS hxc l1 ⊢
  unfold maxLen at hcm
  clear hn hcell f0 f1 h0
  obtain ⟨i0, hi, hz0, hz1, hz2⟩ := info_parts LQuestion.infoK
  have HI0 := Lib.hid hi
  have HZ0 := Lib.hid (And.intro hz0 (And.intro hz1 hz2))
  clear hi hz0 hz1 hz2
  cases hg : goodQ z0 z1 with
  | false =>
    have HG := Lib.hid (good_asS false HR.out HQI.out HF0.out hg)
    have HA := Lib.hid (scA_no (m := a2) (show (goodQ z0 z1 && (inB a2 1 99 && secB z0 z1 a2)) = false by rw [hg]; rfl))
    clear hg
    go_enter Try.func34, Try.ntmps34
    go_wp2_with fail
    refine HG.out.mono ?_
    rintro e w1 ⟨rfl, hb1⟩
    have HOb := Lib.hid (Own.start (T := LQuestion.rec) (E := 47) (w := w1) hb1.size)
    have hbz := hb1.alloc hb1.size (Obj.cells #[] 47)
    go_wp2_with fail
    go_ret2
    exact ⟨_, [], false, rfl, HA.out, HOb.out, hbz⟩
  | true =>
    have HG := Lib.hid (good_asS true HR.out HQI.out HF0.out hg)
    have HT := Lib.hid (topIn_good hg)
    have h6 : n ≤ 6 := by have := good_len hg; have := HN.out; omega
    have HS := Lib.hid (show (goodQ z0 z1 && (inB a2 1 99 && secB z0 z1 a2)) = (inB a2 1 99 && secB z0 z1 a2) by rw [hg, Bool.true_and])
    clear hg
    cases hm : inB a2 1 99 with
    | false =>
      have HM := Lib.hid (fun W => l7Member a2 false hm W)
      have HA := Lib.hid (scA_no (HS.out.trans (show (inB a2 1 99 && secB z0 z1 a2) = false by rw [hm]; rfl)))
      clear hm
      go_enter Try.func34, Try.ntmps34
      go_wp2_with fail
      refine HG.out.mono ?_
      rintro e w1 ⟨rfl, hb1⟩
      go_wp2_with fail
      refine (HM.out _).mono ?_
      rintro e _ ⟨rfl, rfl⟩
      have HOb := Lib.hid (Own.start (T := LQuestion.rec) (E := 47) (w := w1) hb1.size)
      have hbz := hb1.alloc hb1.size (Obj.cells #[] 47)
      go_wp2_with fail
      go_ret2
      exact ⟨_, [], false, rfl, HA.out, HOb.out, hbz⟩
    | true =>
      have HM := Lib.hid (fun W => l7Member a2 true hm W)
      have HS2 := Lib.hid (HS.out.trans (show (inB a2 1 99 && secB z0 z1 a2) = secB z0 z1 a2 by rw [hm]; rfl))
      clear hm
      by_cases hz : n = 0
      · have HA := Lib.hid (scA_no (HS2.out.trans (secB_nil (by rw [HN.out]; exact hz))))
        have n5 : decide (n = 0) = true := by simpa using hz
        have n6 : ((n : Int) == 0) = true := by simpa using hz
        subst hz
        go_enter Try.func34, Try.ntmps34
        go_wp2_with fail
        refine HG.out.mono ?_
        rintro e w1 ⟨rfl, hb1⟩
        go_wp2_with fail
        refine (HM.out _).mono ?_
        rintro e _ ⟨rfl, rfl⟩
        have HOb := Lib.hid (Own.start (T := LQuestion.rec) (E := 47) (w := w1) hb1.size)
        have hbz := hb1.alloc hb1.size (Obj.cells #[] 47)
        go_wp2_with fail
        go_ret2
        exact ⟨_, [], false, rfl, HA.out, HOb.out, hbz⟩
      · have hx : n - 1 < z1.length := by have := HN.out; omega
        have hp : top z1 = some z1[n - 1] := by unfold top; rw [HN.out]; exact List.getElem?_eq_getElem hx
        have HX := Lib.hid (List.getElem?_eq_getElem hx)
        obtain ⟨kp, hkp⟩ := Option.isSome_iff_exists.1 (HT.out _ hp)
        have HB := Lib.hid (secB_top (z := z0) (m := a2) hp)
        have HLT := Lib.hid (lackT_top (z := z0) hp)
        have HQC := Lib.hid (HC.out (n - 1) z1[n - 1] HX.out)
        have HKP := Lib.hid hkp
        have H1 := Lib.hid (show sec1 z1 = z1.set (n - 1) { z1[n - 1] with sec := true } by rw [sec1_top hp, HN.out])
        have n1 : IntKind.i64.wrap ((n : Int) - 1) = (n : Int) - 1 := IntWalk.i64_in _ (by omega)
        have n2 : ((n : Int) - 1).toNat = n - 1 := by omega
        have n3 : 0 ≤ (n : Int) - 1 := by omega
        have n4 : (n : Int) - 1 < (n : Int) := by omega
        have n9 : (n : Int) - 1 ≤ (n : Int) := by omega
        have n10 : (n : Int) - 1 ≤ (cp : Int) := by omega
        have n11 : (n : Int) ≤ (cp : Int) := by omega
        have n12 : 0 ≤ (n : Int) := by omega
        have n5 : decide (n = 0) = false := by simpa using hz
        have n6 : ((n : Int) == 0) = false := by simpa using hz
        have hpos : 0 < n := by omega
        clear hp hkp hz
        generalize z1[n - 1] = P at *
        go_enter Try.func34, Try.ntmps34
        go_wp2_with fail
        refine HG.out.mono ?_
        rintro e w1 ⟨rfl, hb1⟩
        go_wp2_with fail
        refine (HM.out _).mono ?_
        rintro e _ ⟨rfl, rfl⟩
        obtain ⟨q0, q1, q2⟩ := LQuestion.cells (HQC.out.below LQuestion.rec hb1 hbl)
        simp only [LQuestion.rec_n] at q0 q1 q2
        cases hl : lacks z0 P with
        | false =>
          have HLK := Lib.hid (lacks_as (HR.out.below LRule.rec hb1) HKP.out hl)
          have HA := Lib.hid (scA_no (HS2.out.trans (show secB z0 z1 a2 = false by rw [HB.out, hl]; rfl)))
          clear hl
          go_wp2_with fail
          refine HLK.out.mono ?_
          rintro e w5 ⟨rfl, hb5⟩
          have hb6 := hb1.trans (hb5.mono hb1.size)
          have HOb := Lib.hid (Own.start (T := LQuestion.rec) (E := 47) (w := w5) hb6.size)
          have hbz := hb6.alloc hb6.size (Obj.cells #[] 47)
          go_wp2_with fail
          go_ret2
          exact ⟨_, [], false, rfl, HA.out, HOb.out, hbz⟩
        | true =>
          have HLK := Lib.hid (lacks_as (HR.out.below LRule.rec hb1) HKP.out hl)
          have HB2 := Lib.hid (show secB z0 z1 a2 = !(P.mover == a2) by rw [HB.out, hl]; rfl)
          clear hl
          go_wp2_with fail
          refine HLK.out.mono ?_
          rintro e w5 ⟨rfl, hb5⟩
          have hb6 := hb1.trans (hb5.mono hb1.size)
          clear q0 q1 q2
          obtain ⟨q0, q1, q2⟩ := LQuestion.cells (HQC.out.below LQuestion.rec hb6 hbl)
          simp only [LQuestion.rec_n] at q0 q1 q2
          cases hmv : (P.mover == a2) with
          | true =>
            have HA := Lib.hid (scA_no (HS2.out.trans (show secB z0 z1 a2 = false by rw [HB2.out, hmv]; rfl)))
            have HOb := Lib.hid (Own.start (T := LQuestion.rec) (E := 47) (w := w5) hb6.size)
            have hbz := hb6.alloc hb6.size (Obj.cells #[] 47)
            go_wp2_with fail
            go_ret2
            exact ⟨_, [], false, rfl, HA.out, HOb.out, hbz⟩
          | false =>
            have HA := Lib.hid (show scA z0 z1 a2 = (z1.set (n - 1) { P with sec := true }, true) by rw [← H1.out]; exact scA_yes (HS2.out.trans (show secB z0 z1 a2 = true by rw [HB2.out, hmv]; rfl)))
            have HS1 := Lib.hid (show ∀ w' : World, Below w5.heap.size w5 w' → ∀ j u, (flat LQuestion.rec (z1.take n))[j]? = some u → w'.cell? (Addr.add ⟨b, o, none⟩ j) = some u from fun w' hb' =>
              ((HIS.out.below LQuestion.rec (hb6.trans (hb'.mono hb6.size))).take LQuestion.rec (k := n) (by omega)).flatCells LQuestion.rec)
            have hA1 : Below w5.heap.size w5 (w5.alloc (.cells #[] 47)) := (Below.refl _ _).alloc (Nat.le_refl _) _
            have HOS := Lib.hid (LQuestion.startB (A := w5.heap.size) (heap_alloc_new w5 (.cells #[] 47)) (Nat.le_refl _))
            go_wp2_with (at_builtin; refine wpList_append_own _ rfl (.tmp 47) (.tmp 48) 29 rfl w5.heap.size 47 i0 (.agg #[.int .i64 0, .int .i64 0, .bool false]) 3 24 Try.underlying29 HI0.out HZ0.out.1 HZ0.out.2.1 HZ0.out.2.2 rfl (by decide) _ _ _ rfl HOS.out ⟨b, o, none⟩ (n) (cp) (flat LQuestion.rec (z1.take n)) rfl ?c0 (HS1.out _ hA1) (flat_one _ _) ?c3 ?c4 ?c5 ?c6)
            case c0 => rw [flat_len, LQuestion.rec_n]; rw [List.length_take]; have := HN.out; omega
            case c3 => unfold maxLen; omega
            case c4 => omega
            case c5 => first | (simp; done) | (simp; omega) | omega
            case c6 =>
              intro v2 w2 hown hgrow _
              have hbx : Below w5.heap.size w5 w2 := hA1.grown hgrow (by simp) (fun j hj => (HOS.out.lt j hj).1)
              have HO2 := Lib.hid (Own.low (own_of LQuestion.rec (xs := z1.take n) (show w2.ownsRow w5.heap.size 47 3 v2 n (flat LQuestion.rec (z1.take n)) from by first | exact hown | exact own_in hown) (by rw [List.length_take]; have := HN.out; omega) rfl) hb6.size)
              have hb2 := hb6.trans (hbx.mono hb6.size)
              clear hown hgrow hbx
              rw [List.take_of_length_le (show z1.length ≤ n by have := HN.out; omega)] at HO2
              obtain ⟨g, c, rfl, hg1, hg2, hcl, hcm2⟩ := own_some HO2.out (by have := HN.out; omega)
              have HN2 := Lib.hid HN.out
              rw [HN.out] at HO2 hcl ⊢
              have hc63 : c ≤ 9223372036854775807 := by unfold maxLen at hcm2; omega
              obtain ⟨x0, x1, x2⟩ := LQuestion.cells (HO2.out.at_ (n - 1) P HX.out)
              simp only [LQuestion.rec_n] at x0 x1 x2
              have hfz := Own.frozen HN.out HO2.out
              have HP := Lib.hid (LQuestion.putAll HN.out HO2.out (n - 1) P { P with sec := true } HX.out)
              have hb4 : Below w.heap.size w (((w2.setCell ⟨g, (n - 1) * 3, none⟩ (.int .i64 P.rule)).setCell ⟨g, (n - 1) * 3 + 1, none⟩ (.int .i64 P.mover)).setCell ⟨g, (n - 1) * 3 + 2, none⟩ (.bool true)) := ((hb2.setCell hg1 _).setCell hg1 _).setCell hg1 _
              clear hcl hcm2 hb2 HO2
              go_wp2_with fail
              try simp only at HP
              generalize (((w2.setCell ⟨g, (n - 1) * 3, none⟩ (.int .i64 P.rule)).setCell ⟨g, (n - 1) * 3 + 1, none⟩ (.int .i64 P.mover)).setCell ⟨g, (n - 1) * 3 + 2, none⟩ (.bool true)) = wp at *
              have hbx := (Below.refl wp.heap.size wp).alloc (Nat.le_refl _) (Obj.cells #[.int .i64 P.rule, .int .i64 P.mover, .bool true] 47)
              have HP2 := Lib.hid (HP.out.kept hbx)
              have hb5 := hb4.trans (hbx.mono hb4.size)
              clear x0 x1 x2 hfz HP hb4 hbx
              go_ret2
              exact ⟨_, _, true, rfl, HA.out, own_len HP2.out (by rw [List.length_set]; exact HN.out), hb5⟩
set_option maxRecDepth 100000 in
set_option maxHeartbeats 3200000 in
theorem impl (v0 : Value) (z0 : List LRule.R) (v1 : Value) (z1 : List LQuestion.R) (a2 : Int) (w : World) (h0 : IsS LRule.rec w v0 z0) (f0 : ∀ x ∈ z0, LRule.Fine x) (l0 : z0.length ≤ 1048576) (h1 : IsS LQuestion.rec w v1 z1) (f1 : ∀ x ∈ z1, LQuestion.Fine x) (l1 : z1.length ≤ 1048576) :
    Calls Try.prog 35 #[v0, v1, .int .i64 a2] w (APost z0 z1 a2 w) := by
  have HR := Lib.hid (IsS.is LRule.rec h0)
  have HQI := Lib.hid (IsS.is LQuestion.rec h1)
  have HIS := Lib.hid h1
  have HF0 := Lib.hid f0
  obtain ⟨b, o, cp, rfl, hbl, hxc, hcm, hcell⟩ := h1
  have HC := Lib.hid hcell
  obtain ⟨n, hn⟩ : ∃ n, n = z1.length := ⟨_, rfl⟩
  have HN := Lib.hid hn.symm
  rw [← hn] at HQI HIS hxc l1 ⊢
  unfold maxLen at hcm
  clear hn hcell f0 f1 h0
  obtain ⟨i0, hi, hz0, hz1, hz2⟩ := info_parts LQuestion.infoK
  have HI0 := Lib.hid hi
  have HZ0 := Lib.hid (And.intro hz0 (And.intro hz1 hz2))
  clear hi hz0 hz1 hz2
  cases hg : goodQ z0 z1 with
  | false =>
    have HG := Lib.hid (good_asI false HR.out HQI.out HF0.out hg)
    have HA := Lib.hid (scA_no (m := a2) (show (goodQ z0 z1 && (inB a2 1 99 && secB z0 z1 a2)) = false by rw [hg]; rfl))
    clear hg
    go_enter Try.func35, Try.ntmps35
    go_wp2_with fail
    refine HG.out.mono ?_
    rintro e w1 ⟨rfl, hb1⟩
    have HOb := Lib.hid (Own.start (T := LQuestion.rec) (E := 47) (w := w1) hb1.size)
    have hbz := hb1.alloc hb1.size (Obj.cells #[] 47)
    go_wp2_with fail
    go_ret2
    exact ⟨_, [], false, rfl, HA.out, HOb.out, hbz⟩
  | true =>
    have HG := Lib.hid (good_asI true HR.out HQI.out HF0.out hg)
    have HT := Lib.hid (topIn_good hg)
    have h6 : n ≤ 6 := by have := good_len hg; have := HN.out; omega
    have HS := Lib.hid (show (goodQ z0 z1 && (inB a2 1 99 && secB z0 z1 a2)) = (inB a2 1 99 && secB z0 z1 a2) by rw [hg, Bool.true_and])
    clear hg
    cases hl : lackT z0 z1 with
    | false =>
      have HLK := Lib.hid (fun W (hW : Below w.heap.size w W) => lack_asI false (HR.out.below LRule.rec hW) (HQI.out.below LQuestion.rec hW) HT.out hl)
      have HA := Lib.hid (scA_no (HS.out.trans (show (inB a2 1 99 && secB z0 z1 a2) = false by
        have : secB z0 z1 a2 = false := by
          by_cases hz : z1.length = 0
          · exact secB_nil hz
          · obtain ⟨p, hp⟩ := top_some (l := z1) hz
            rw [secB_top hp, ← lackT_top (z := z0) hp, hl]; rfl
        rw [this, Bool.and_false])))
      clear hl
      go_enter Try.func35, Try.ntmps35
      go_wp2_with fail
      refine HG.out.mono ?_
      rintro e w1 ⟨rfl, hb1⟩
      go_wp2_with fail
      refine (HLK.out _ hb1).mono ?_
      rintro e w5 ⟨rfl, hb5⟩
      have hb6 := hb1.trans (hb5.mono hb1.size)
      have HOb := Lib.hid (Own.start (T := LQuestion.rec) (E := 47) (w := w5) hb6.size)
      have hbz := hb6.alloc hb6.size (Obj.cells #[] 47)
      go_wp2_with fail
      go_ret2
      exact ⟨_, [], false, rfl, HA.out, HOb.out, hbz⟩
    | true =>
      have hz : ¬ n = 0 := fun e => by rw [lackT_nil (by rw [HN.out]; exact e)] at hl; cases hl
      have HLK := Lib.hid (fun W (hW : Below w.heap.size w W) => lack_asI true (HR.out.below LRule.rec hW) (HQI.out.below LQuestion.rec hW) HT.out hl)
      have hx : n - 1 < z1.length := by have := HN.out; omega
      have hp : top z1 = some z1[n - 1] := by unfold top; rw [HN.out]; exact List.getElem?_eq_getElem hx
      have HX := Lib.hid (List.getElem?_eq_getElem hx)
      obtain ⟨kp, hkp⟩ := Option.isSome_iff_exists.1 (HT.out _ hp)
      have HB := Lib.hid (secB_top (z := z0) (m := a2) hp)
      have HLT := Lib.hid (lackT_top (z := z0) hp)
      have HQC := Lib.hid (HC.out (n - 1) z1[n - 1] HX.out)
      have HKP := Lib.hid hkp
      have H1 := Lib.hid (show sec1 z1 = z1.set (n - 1) { z1[n - 1] with sec := true } by rw [sec1_top hp, HN.out])
      have n1 : IntKind.i64.wrap ((n : Int) - 1) = (n : Int) - 1 := IntWalk.i64_in _ (by omega)
      have n2 : ((n : Int) - 1).toNat = n - 1 := by omega
      have n3 : 0 ≤ (n : Int) - 1 := by omega
      have n4 : (n : Int) - 1 < (n : Int) := by omega
      have n9 : (n : Int) - 1 ≤ (n : Int) := by omega
      have n10 : (n : Int) - 1 ≤ (cp : Int) := by omega
      have n11 : (n : Int) ≤ (cp : Int) := by omega
      have n12 : 0 ≤ (n : Int) := by omega
      have n5 : decide (n = 0) = false := by simpa using hz
      have n6 : ((n : Int) == 0) = false := by simpa using hz
      have hpos : 0 < n := by omega
      clear hp hkp hz
      generalize z1[n - 1] = P at *
      have HB2 := Lib.hid (show secB z0 z1 a2 = !(P.mover == a2) by rw [HB.out, ← HLT.out, hl]; rfl)
      clear hl
      cases hm : inB a2 1 99 with
      | false =>
        have HM := Lib.hid (fun W => member a2 false hm W)
        have HA := Lib.hid (scA_no (HS.out.trans (show (inB a2 1 99 && secB z0 z1 a2) = false by rw [hm]; rfl)))
        clear hm
        go_enter Try.func35, Try.ntmps35
        go_wp2_with fail
        refine HG.out.mono ?_
        rintro e w1 ⟨rfl, hb1⟩
        go_wp2_with fail
        refine (HLK.out _ hb1).mono ?_
        rintro e w5 ⟨rfl, hb5⟩
        have hb6 := hb1.trans (hb5.mono hb1.size)
        go_wp2_with fail
        refine (HM.out _).mono ?_
        rintro e _ ⟨rfl, rfl⟩
        have HOb := Lib.hid (Own.start (T := LQuestion.rec) (E := 47) (w := w5) hb6.size)
        have hbz := hb6.alloc hb6.size (Obj.cells #[] 47)
        go_wp2_with fail
        go_ret2
        exact ⟨_, [], false, rfl, HA.out, HOb.out, hbz⟩
      | true =>
        have HM := Lib.hid (fun W => member a2 true hm W)
        have HS2 := Lib.hid (HS.out.trans (show (inB a2 1 99 && secB z0 z1 a2) = secB z0 z1 a2 by rw [hm]; rfl))
        clear hm
        go_enter Try.func35, Try.ntmps35
        go_wp2_with fail
        refine HG.out.mono ?_
        rintro e w1 ⟨rfl, hb1⟩
        go_wp2_with fail
        refine (HLK.out _ hb1).mono ?_
        rintro e w5 ⟨rfl, hb5⟩
        have hb6 := hb1.trans (hb5.mono hb1.size)
        obtain ⟨q0, q1, q2⟩ := LQuestion.cells (HQC.out.below LQuestion.rec hb6 hbl)
        simp only [LQuestion.rec_n] at q0 q1 q2
        go_wp2_with fail
        refine (HM.out _).mono ?_
        rintro e _ ⟨rfl, rfl⟩
        cases hmv : (P.mover == a2) with
        | true =>
          have HA := Lib.hid (scA_no (HS2.out.trans (show secB z0 z1 a2 = false by rw [HB2.out, hmv]; rfl)))
          have HOb := Lib.hid (Own.start (T := LQuestion.rec) (E := 47) (w := w5) hb6.size)
          have hbz := hb6.alloc hb6.size (Obj.cells #[] 47)
          go_wp2_with fail
          go_ret2
          exact ⟨_, [], false, rfl, HA.out, HOb.out, hbz⟩
        | false =>
          have HA := Lib.hid (show scA z0 z1 a2 = (z1.set (n - 1) { P with sec := true }, true) by rw [← H1.out]; exact scA_yes (HS2.out.trans (show secB z0 z1 a2 = true by rw [HB2.out, hmv]; rfl)))
          have hT := Lib.hid (HQI.out.below LQuestion.rec hb6)
          go_wp2_with fail
          refine (LQuestion.clone _ z1 _ hT.out (by have := HN.out; omega)).mono ?_
          rintro e w2 ⟨v2, rfl, ho, hbx⟩
          have HO2 := Lib.hid (ho.low hb6.size)
          have hb2 := hb6.trans (hbx.mono hb6.size)
          clear ho hbx
          obtain ⟨g, c, rfl, hg1, hg2, hcl, hcm2⟩ := own_some HO2.out (by have := HN.out; omega)
          rw [HN.out] at HO2 hcl ⊢
          have hc63 : c ≤ 9223372036854775807 := by unfold maxLen at hcm2; omega
          obtain ⟨x0, x1, x2⟩ := LQuestion.cells (HO2.out.at_ (n - 1) P HX.out)
          simp only [LQuestion.rec_n] at x0 x1 x2
          have hfz := Own.frozen HN.out HO2.out
          have HP := Lib.hid (HO2.out.put HN.out (n - 1) 2 P { P with sec := true } (.bool true) HX.out (by decide) rfl)
          simp only [LQuestion.rec_n] at HP
          have hb4 : Below w.heap.size w (w2.setCell ⟨g, (n - 1) * 3 + 2, none⟩ (.bool true)) := hb2.setCell hg1 _
          clear hcl hcm2 hb2 HO2
          go_wp2_with fail
          generalize (w2.setCell ⟨g, (n - 1) * 3 + 2, none⟩ (.bool true)) = wp at *
          clear x0 x1 x2 hfz
          go_ret2
          exact ⟨_, _, true, rfl, HA.out, HP.out, hb4⟩
end Go.Proofs.Ytbaflfbidgolfaa.SecondQuestionC
