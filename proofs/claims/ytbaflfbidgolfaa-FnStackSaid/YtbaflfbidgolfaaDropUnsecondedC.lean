/- DropUnseconded, model and program: what both answer. No condition but that names are no longer than strings can be. -/
import Derived.Test.YtbaflfbidgolfaaData
namespace Go.Proofs.Ytbaflfbidgolfaa.DropUnsecondedC
open Go.RowKit Bs Word Sq St StF StL StG StA IntF
set_option linter.unusedVariables false
def Ans (z0 : List LRule.R) (z1 : List LQuestion.R) (r0 : List LQuestion.R) (r1 : Bool) : Prop := drA z0 z1 = (r0, r1)
theorem same {z0 : List LRule.R} {z1 : List LQuestion.R} {r0 s0 : List LQuestion.R} {r1 s1 : Bool} (h : Ans z0 z1 r0 r1) (h' : Ans z0 z1 s0 s1) : r0 = s0 ∧ r1 = s1 := by
  have := h.symm.trans h'; simp only [Prod.mk.injEq] at this; exact this
theorem len0 {z0 : List LRule.R} {z1 : List LQuestion.R} {r0 : List LQuestion.R} {r1 : Bool} (h : Ans z0 z1 r0 r1) : r0.length ≤ 1048576 := by
  unfold Ans drA at h
  split at h
  · rename_i hg
    simp only [Prod.mk.injEq] at h
    rw [← h.1]
    have := good_len hg
    unfold drp; split <;> (try rw [List.length_take]) <;> omega
  · simp only [Prod.mk.injEq] at h; rw [← h.1]; simp
def APost (z0 : List LRule.R) (z1 : List LQuestion.R) (w : World) (e : Ending) (w' : World) : Prop :=
  ∃ v0 r0 r1, e = .returned (.tuple #[v0, .bool r1]) ∧ Ans z0 z1 r0 r1 ∧ Own LQuestion.rec 47 w' w.heap.size v0 r0 ∧ Below w.heap.size w w'
set_option maxRecDepth 100000 in
set_option maxHeartbeats 3200000 in
theorem spec (v0 : Value) (z0 : List LRule.R) (v1 : Value) (z1 : List LQuestion.R) (w : World) (h0 : IsS LRule.rec w v0 z0) (f0 : ∀ x ∈ z0, LRule.Fine x) (l0 : z0.length ≤ 1048576) (h1 : IsS LQuestion.rec w v1 z1) (f1 : ∀ x ∈ z1, LQuestion.Fine x) (l1 : z1.length ≤ 1048576) :
    Calls Try.prog 41 #[v0, v1] w (APost z0 z1 w) := by
  have HR := Lib.hid (IsS.is LRule.rec h0)
  have HQI := Lib.hid (IsS.is LQuestion.rec h1)
  have HIS := Lib.hid h1
  have HF0 := Lib.hid f0
  obtain ⟨b, o, cp, rfl, hbl, hxc, hcm, hcell⟩ := h1
  have HC := Lib.hid hcell
  obtain ⟨n, hn⟩ : ∃ n, n = z1.length := ⟨_, rfl⟩
  have HN := Lib.hid hn.symm
  rw [← hn] at HQI HIS hxc l1 ⊢
  unfold maxLen at hcm
  clear hn hcell f0 f1 h0
  obtain ⟨i0, hi, hz0, hz1, hz2⟩ := info_parts LQuestion.infoK
  have HI0 := Lib.hid hi
  have HZ0 := Lib.hid (And.intro hz0 (And.intro hz1 hz2))
  clear hi hz0 hz1 hz2
  cases hg : goodQ z0 z1 with
  | false =>
    have HG := Lib.hid (good_asS false HR.out HQI.out HF0.out hg)
    have HA := Lib.hid (drA_no hg)
    clear hg
    go_enter Try.func41, Try.ntmps41
    go_wp2_with fail
    refine HG.out.mono ?_
    rintro e w1 ⟨rfl, hb1⟩
    have HOb := Lib.hid (Own.start (T := LQuestion.rec) (E := 47) (w := w1) hb1.size)
    have hbz := hb1.alloc hb1.size (Obj.cells #[] 47)
    go_wp2_with fail
    go_ret2
    exact ⟨_, [], false, rfl, HA.out, HOb.out, hbz⟩
  | true =>
    have HG := Lib.hid (good_asS true HR.out HQI.out HF0.out hg)
    have HA := Lib.hid (drA_yes hg)
    have HT := Lib.hid (topIn_good hg)
    have h6 : n ≤ 6 := by have := good_len hg; have := HN.out; omega
    clear hg
    go_enter Try.func41, Try.ntmps41
    go_wp2_with fail
    refine HG.out.mono ?_
    rintro e w1 ⟨rfl, hb1⟩
    by_cases hz : n = 0
    · have HD := Lib.hid (show drp z0 z1 = z1.take n by rw [← HN.out]; exact drp_no (lackT_nil (by rw [HN.out]; exact hz)))
      have n7 : decide (0 < (n : Int)) = false := by simp; omega
      have n8 : decide (0 < n) = false := by simp; omega
      have n11 : (n : Int) ≤ (cp : Int) := by omega
      have n12 : 0 ≤ (n : Int) := by omega
      rw [HD.out] at HA
      clear hz
      have HS1 := Lib.hid (show ∀ w' : World, Below w1.heap.size w1 w' → ∀ j u, (flat LQuestion.rec (z1.take n))[j]? = some u → w'.cell? (Addr.add ⟨b, o, none⟩ j) = some u from fun w' hb' =>
        ((HIS.out.below LQuestion.rec (hb1.trans (hb'.mono hb1.size))).take LQuestion.rec (k := n) (by omega)).flatCells LQuestion.rec)
      have hA1 : Below w1.heap.size w1 (w1.alloc (.cells #[] 47)) := (Below.refl _ _).alloc (Nat.le_refl _) _
      have HOS := Lib.hid (LQuestion.startB (A := w1.heap.size) (heap_alloc_new w1 (.cells #[] 47)) (Nat.le_refl _))
      go_wp2_with (at_builtin; refine wpList_append_own _ rfl (.tmp 27) (.tmp 30) 29 rfl w1.heap.size 47 i0 (.agg #[.int .i64 0, .int .i64 0, .bool false]) 3 24 Try.underlying29 HI0.out HZ0.out.1 HZ0.out.2.1 HZ0.out.2.2 rfl (by decide) _ _ _ rfl HOS.out ⟨b, o, none⟩ (n) (cp) (flat LQuestion.rec (z1.take n)) rfl ?c0 (HS1.out _ hA1) (flat_one _ _) ?c3 ?c4 ?c5 ?c6)
      case c0 => rw [flat_len, LQuestion.rec_n]; rw [List.length_take]; have := HN.out; omega
      case c3 => unfold maxLen; omega
      case c4 => omega
      case c5 => first | (simp; done) | (simp; omega) | omega
      case c6 =>
        intro v2 w2 hown hgrow _
        have hbx : Below w1.heap.size w1 w2 := hA1.grown hgrow (by simp) (fun j hj => (HOS.out.lt j hj).1)
        have HO2 := Lib.hid (Own.low (own_of LQuestion.rec (xs := z1.take n) (show w2.ownsRow w1.heap.size 47 3 v2 n (flat LQuestion.rec (z1.take n)) from by first | exact hown | exact own_in hown) (by rw [List.length_take]; have := HN.out; omega) rfl) hb1.size)
        have hb2 := hb1.trans (hbx.mono hb1.size)
        clear hown hgrow hbx
        go_wp2_with fail
        go_ret2
        exact ⟨_, _, true, rfl, HA.out, HO2.out, hb2⟩
    · have hx : n - 1 < z1.length := by have := HN.out; omega
      have hp : top z1 = some z1[n - 1] := by unfold top; rw [HN.out]; exact List.getElem?_eq_getElem hx
      have HX := Lib.hid (List.getElem?_eq_getElem hx)
      obtain ⟨kp, hkp⟩ := Option.isSome_iff_exists.1 (HT.out _ hp)
      have HLT := Lib.hid (lackT_top (z := z0) hp)
      obtain ⟨q0, q1, q2⟩ := LQuestion.cells ((HC.out (n - 1) z1[n - 1] HX.out).below LQuestion.rec hb1 hbl)
      simp only [LQuestion.rec_n] at q0 q1 q2
      have HKP := Lib.hid hkp
      have n1 : IntKind.i64.wrap ((n : Int) - 1) = (n : Int) - 1 := IntWalk.i64_in _ (by omega)
      have n2 : ((n : Int) - 1).toNat = n - 1 := by omega
      have n3 : 0 ≤ (n : Int) - 1 := by omega
      have n4 : (n : Int) - 1 < (n : Int) := by omega
      have n9 : (n : Int) - 1 ≤ (n : Int) := by omega
      have n10 : (n : Int) - 1 ≤ (cp : Int) := by omega
      have n11 : (n : Int) ≤ (cp : Int) := by omega
      have n12 : 0 ≤ (n : Int) := by omega
      have n7 : decide (0 < (n : Int)) = true := by simp; omega
      have n8 : decide (0 < n) = true := by simp; omega
      have n13 : 0 < (n : Int) := by omega
      clear hp hkp
      generalize z1[n - 1] = P at *
      cases hl : lacks z0 P with
      | false =>
        have HLK := Lib.hid (lacks_as (HR.out.below LRule.rec hb1) HKP.out hl)
        have HD := Lib.hid (show drp z0 z1 = z1.take n by rw [← HN.out]; exact drp_no (by rw [HLT.out, hl]))
        rw [HD.out] at HA
        clear hl hz
        go_wp2_with fail
        refine HLK.out.mono ?_
        rintro e w5 ⟨rfl, hb5⟩
        have hb6 := hb1.trans (hb5.mono hb1.size)
        clear q0 q1 q2
        have HS1 := Lib.hid (show ∀ w' : World, Below w5.heap.size w5 w' → ∀ j u, (flat LQuestion.rec (z1.take n))[j]? = some u → w'.cell? (Addr.add ⟨b, o, none⟩ j) = some u from fun w' hb' =>
          ((HIS.out.below LQuestion.rec (hb6.trans (hb'.mono hb6.size))).take LQuestion.rec (k := n) (by omega)).flatCells LQuestion.rec)
        have hA1 : Below w5.heap.size w5 (w5.alloc (.cells #[] 47)) := (Below.refl _ _).alloc (Nat.le_refl _) _
        have HOS := Lib.hid (LQuestion.startB (A := w5.heap.size) (heap_alloc_new w5 (.cells #[] 47)) (Nat.le_refl _))
        go_wp2_with (at_builtin; refine wpList_append_own _ rfl (.tmp 27) (.tmp 30) 29 rfl w5.heap.size 47 i0 (.agg #[.int .i64 0, .int .i64 0, .bool false]) 3 24 Try.underlying29 HI0.out HZ0.out.1 HZ0.out.2.1 HZ0.out.2.2 rfl (by decide) _ _ _ rfl HOS.out ⟨b, o, none⟩ (n) (cp) (flat LQuestion.rec (z1.take n)) rfl ?c0 (HS1.out _ hA1) (flat_one _ _) ?c3 ?c4 ?c5 ?c6)
        case c0 => rw [flat_len, LQuestion.rec_n]; rw [List.length_take]; have := HN.out; omega
        case c3 => unfold maxLen; omega
        case c4 => omega
        case c5 => first | (simp; done) | (simp; omega) | omega
        case c6 =>
          intro v2 w2 hown hgrow _
          have hbx : Below w5.heap.size w5 w2 := hA1.grown hgrow (by simp) (fun j hj => (HOS.out.lt j hj).1)
          have HO2 := Lib.hid (Own.low (own_of LQuestion.rec (xs := z1.take n) (show w2.ownsRow w5.heap.size 47 3 v2 n (flat LQuestion.rec (z1.take n)) from by first | exact hown | exact own_in hown) (by rw [List.length_take]; have := HN.out; omega) rfl) hb6.size)
          have hb2 := hb6.trans (hbx.mono hb6.size)
          clear hown hgrow hbx
          go_wp2_with fail
          go_ret2
          exact ⟨_, _, true, rfl, HA.out, HO2.out, hb2⟩
      | true =>
        have HLK := Lib.hid (lacks_as (HR.out.below LRule.rec hb1) HKP.out hl)
        have HD := Lib.hid (show drp z0 z1 = z1.take (n - 1) by rw [← HN.out]; exact drp_yes (by rw [HLT.out, hl]))
        rw [HD.out] at HA
        clear hl hz
        go_wp2_with fail
        refine HLK.out.mono ?_
        rintro e w5 ⟨rfl, hb5⟩
        have hb6 := hb1.trans (hb5.mono hb1.size)
        clear q0 q1 q2
        have HS1 := Lib.hid (show ∀ w' : World, Below w5.heap.size w5 w' → ∀ j u, (flat LQuestion.rec (z1.take (n - 1)))[j]? = some u → w'.cell? (Addr.add ⟨b, o, none⟩ j) = some u from fun w' hb' =>
          ((HIS.out.below LQuestion.rec (hb6.trans (hb'.mono hb6.size))).take LQuestion.rec (k := (n - 1)) (by omega)).flatCells LQuestion.rec)
        have hA1 : Below w5.heap.size w5 (w5.alloc (.cells #[] 47)) := (Below.refl _ _).alloc (Nat.le_refl _) _
        have HOS := Lib.hid (LQuestion.startB (A := w5.heap.size) (heap_alloc_new w5 (.cells #[] 47)) (Nat.le_refl _))
        go_wp2_with (at_builtin; refine wpList_append_own _ rfl (.tmp 27) (.tmp 30) 29 rfl w5.heap.size 47 i0 (.agg #[.int .i64 0, .int .i64 0, .bool false]) 3 24 Try.underlying29 HI0.out HZ0.out.1 HZ0.out.2.1 HZ0.out.2.2 rfl (by decide) _ _ _ rfl HOS.out ⟨b, o, none⟩ ((n - 1)) (cp) (flat LQuestion.rec (z1.take (n - 1))) rfl ?c0 (HS1.out _ hA1) (flat_one _ _) ?c3 ?c4 ?c5 ?c6)
        case c0 => rw [flat_len, LQuestion.rec_n]; rw [List.length_take]; have := HN.out; omega
        case c3 => unfold maxLen; omega
        case c4 => omega
        case c5 => first | (simp; done) | (simp; omega) | omega
        case c6 =>
          intro v2 w2 hown hgrow _
          have hbx : Below w5.heap.size w5 w2 := hA1.grown hgrow (by simp) (fun j hj => (HOS.out.lt j hj).1)
          have HO2 := Lib.hid (Own.low (own_of LQuestion.rec (xs := z1.take (n - 1)) (show w2.ownsRow w5.heap.size 47 3 v2 (n - 1) (flat LQuestion.rec (z1.take (n - 1))) from by first | exact hown | exact own_in hown) (by rw [List.length_take]; have := HN.out; omega) rfl) hb6.size)
          have hb2 := hb6.trans (hbx.mono hb6.size)
          clear hown hgrow hbx
          go_wp2_with fail
          go_ret2
          exact ⟨_, _, true, rfl, HA.out, HO2.out, hb2⟩
set_option maxRecDepth 100000 in
set_option maxHeartbeats 3200000 in
theorem impl (v0 : Value) (z0 : List LRule.R) (v1 : Value) (z1 : List LQuestion.R) (w : World) (h0 : IsS LRule.rec w v0 z0) (f0 : ∀ x ∈ z0, LRule.Fine x) (l0 : z0.length ≤ 1048576) (h1 : IsS LQuestion.rec w v1 z1) (f1 : ∀ x ∈ z1, LQuestion.Fine x) (l1 : z1.length ≤ 1048576) :
    Calls Try.prog 42 #[v0, v1] w (APost z0 z1 w) := by
  have HR := Lib.hid (IsS.is LRule.rec h0)
  have HQI := Lib.hid (IsS.is LQuestion.rec h1)
  have HIS := Lib.hid h1
  have HF0 := Lib.hid f0
  obtain ⟨b, o, cp, rfl, hbl, hxc, hcm, hcell⟩ := h1
  have HC := Lib.hid hcell
  obtain ⟨n, hn⟩ : ∃ n, n = z1.length := ⟨_, rfl⟩
  have HN := Lib.hid hn.symm
  rw [← hn] at HQI HIS hxc l1 ⊢
  unfold maxLen at hcm
  clear hn hcell f0 f1 h0
  obtain ⟨i0, hi, hz0, hz1, hz2⟩ := info_parts LQuestion.infoK
  have HI0 := Lib.hid hi
  have HZ0 := Lib.hid (And.intro hz0 (And.intro hz1 hz2))
  clear hi hz0 hz1 hz2
  cases hg : goodQ z0 z1 with
  | false =>
    have HG := Lib.hid (good_asI false HR.out HQI.out HF0.out hg)
    have HA := Lib.hid (drA_no hg)
    clear hg
    go_enter Try.func42, Try.ntmps42
    go_wp2_with fail
    refine HG.out.mono ?_
    rintro e w1 ⟨rfl, hb1⟩
    have HOb := Lib.hid (Own.start (T := LQuestion.rec) (E := 47) (w := w1) hb1.size)
    have hbz := hb1.alloc hb1.size (Obj.cells #[] 47)
    go_wp2_with fail
    go_ret2
    exact ⟨_, [], false, rfl, HA.out, HOb.out, hbz⟩
  | true =>
    have HG := Lib.hid (good_asI true HR.out HQI.out HF0.out hg)
    have HA := Lib.hid (drA_yes hg)
    have HT := Lib.hid (topIn_good hg)
    have h6 : n ≤ 6 := by have := good_len hg; have := HN.out; omega
    clear hg
    go_enter Try.func42, Try.ntmps42
    go_wp2_with fail
    refine HG.out.mono ?_
    rintro e w1 ⟨rfl, hb1⟩
    go_wp2_with fail
    cases hl : lackT z0 z1 with
    | false =>
      have HLK := Lib.hid (lack_asI false (HR.out.below LRule.rec hb1) (HQI.out.below LQuestion.rec hb1) HT.out hl)
      have HD := Lib.hid (show drp z0 z1 = z1.take n by rw [← HN.out]; exact drp_no hl)
      rw [HD.out] at HA
      have n11 : (n : Int) ≤ (cp : Int) := by omega
      have n12 : 0 ≤ (n : Int) := by omega
      clear hl
      go_wp2_with fail
      refine HLK.out.mono ?_
      rintro e w5 ⟨rfl, hb5⟩
      have hb6 := hb1.trans (hb5.mono hb1.size)
      have hT := Lib.hid (show Is LQuestion.rec w5 (.slice (some ⟨b, o, none⟩) n cp) (z1.take n) from IsS.is LQuestion.rec ((HIS.out.below LQuestion.rec hb6).take LQuestion.rec (by omega)))
      go_wp2_with fail
      refine (LQuestion.clone _ (z1.take n) _ hT.out (by rw [List.length_take]; omega)).mono ?_
      rintro e w2 ⟨v2, rfl, ho, hbx⟩
      have HO2 := Lib.hid (ho.low hb6.size)
      have hb2 := hb6.trans (hbx.mono hb6.size)
      clear ho hbx
      go_wp2_with fail
      go_ret2
      exact ⟨_, _, true, rfl, HA.out, HO2.out, hb2⟩
    | true =>
      have hz : n ≠ 0 := fun e => by rw [lackT_nil (by rw [HN.out]; exact e)] at hl; cases hl
      have HLK := Lib.hid (lack_asI true (HR.out.below LRule.rec hb1) (HQI.out.below LQuestion.rec hb1) HT.out hl)
      have HD := Lib.hid (show drp z0 z1 = z1.take (n - 1) by rw [← HN.out]; exact drp_yes hl)
      rw [HD.out] at HA
      have n1 : IntKind.i64.wrap ((n : Int) - 1) = (n : Int) - 1 := IntWalk.i64_in _ (by omega)
      have n2 : ((n : Int) - 1).toNat = n - 1 := by omega
      have n3 : 0 ≤ (n : Int) - 1 := by omega
      have n4 : (n : Int) - 1 < (n : Int) := by omega
      have n9 : (n : Int) - 1 ≤ (n : Int) := by omega
      have n10 : (n : Int) - 1 ≤ (cp : Int) := by omega
      have n11 : (n : Int) ≤ (cp : Int) := by omega
      have n12 : 0 ≤ (n : Int) := by omega
      clear hl
      go_wp2_with fail
      refine HLK.out.mono ?_
      rintro e w5 ⟨rfl, hb5⟩
      have hb6 := hb1.trans (hb5.mono hb1.size)
      have hT := Lib.hid (show Is LQuestion.rec w5 (.slice (some ⟨b, o, none⟩) (n - 1) cp) (z1.take (n - 1)) from IsS.is LQuestion.rec ((HIS.out.below LQuestion.rec hb6).take LQuestion.rec (by omega)))
      go_wp2_with fail
      refine (LQuestion.clone _ (z1.take (n - 1)) _ hT.out (by rw [List.length_take]; omega)).mono ?_
      rintro e w2 ⟨v2, rfl, ho, hbx⟩
      have HO2 := Lib.hid (ho.low hb6.size)
      have hb2 := hb6.trans (hbx.mono hb6.size)
      clear ho hbx
      go_wp2_with fail
      go_ret2
      exact ⟨_, _, true, rfl, HA.out, HO2.out, hb2⟩
end Go.Proofs.Ytbaflfbidgolfaa.DropUnsecondedC
