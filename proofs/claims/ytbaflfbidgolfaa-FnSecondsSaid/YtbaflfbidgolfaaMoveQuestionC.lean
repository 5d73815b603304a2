/- MoveQuestion, model and program: what both answer. No condition but that names are no longer than strings can be. -/
import Derived.Test.YtbaflfbidgolfaaData
import Derived.ArgAppend
import Derived.Test.YtbaflfbidgolfaaMayBeMovedC
namespace Go.Proofs.Ytbaflfbidgolfaa.MoveQuestionC
open Go.RowKit Bs Word Sq St StF StL StG StA IntF
set_option linter.unusedVariables false
def Ans (z0 : List LRule.R) (z1 : List LQuestion.R) (a2 a3 : Int) (r0 : List LQuestion.R) (r1 : Bool) : Prop := mvA z0 z1 a2 a3 = (r0, r1)
theorem same {z0 : List LRule.R} {z1 : List LQuestion.R} {a2 a3 : Int} {r0 s0 : List LQuestion.R} {r1 s1 : Bool} (h : Ans z0 z1 a2 a3 r0 r1) (h' : Ans z0 z1 a2 a3 s0 s1) : r0 = s0 ∧ r1 = s1 := by
  have := h.symm.trans h'; simp only [Prod.mk.injEq] at this; exact this
theorem len0 {z0 : List LRule.R} {z1 : List LQuestion.R} {a2 a3 : Int} {r0 : List LQuestion.R} {r1 : Bool} (h : Ans z0 z1 a2 a3 r0 r1) : r0.length ≤ 1048576 := by
  unfold Ans mvA at h
  split at h
  · rename_i hg
    have := good_len hg
    simp only [Prod.mk.injEq] at h
    rw [← h.1]; omega
  · simp only [Prod.mk.injEq] at h; rw [← h.1]; simp
def APost (z0 : List LRule.R) (z1 : List LQuestion.R) (a2 a3 : Int) (w : World) (e : Ending) (w' : World) : Prop :=
  ∃ v0 r0 r1, e = .returned (.tuple #[v0, .bool r1]) ∧ Ans z0 z1 a2 a3 r0 r1 ∧ Own LQuestion.rec 47 w' w.heap.size v0 r0 ∧ Below w.heap.size w w'
theorem has_as {v : Value} {xs : List Int} {x : Int} {w : World} (b : Bool) (h : Is LInt.rec w v xs) (hb : hasB xs x = b) :
    Calls Try.prog 88 #[v, .int .i64 x] w fun e w' => e = .returned (.bool b) ∧ w = w' := by
  subst hb; exact l1Has v xs x w h
set_option maxRecDepth 100000 in
set_option maxHeartbeats 3200000 in
theorem spec (v0 : Value) (z0 : List LRule.R) (v1 : Value) (z1 : List LQuestion.R) (a2 a3 : Int) (w : World) (h0 : IsS LRule.rec w v0 z0) (f0 : ∀ x ∈ z0, LRule.Fine x) (l0 : z0.length ≤ 1048576) (h1 : IsS LQuestion.rec w v1 z1) (f1 : ∀ x ∈ z1, LQuestion.Fine x) (l1 : z1.length ≤ 1048576) :
    Calls Try.prog 31 #[v0, v1, .int .i64 a2, .int .i64 a3] w (APost z0 z1 a2 a3 w) := by
  have HR := Lib.hid (IsS.is LRule.rec h0)
  have HQI := Lib.hid (IsS.is LQuestion.rec h1)
  have HIS := Lib.hid h1
  have HF0 := Lib.hid f0
  obtain ⟨b, o, cp, rfl, hbl, hxc, hcm, hcell⟩ := h1
  have HC := Lib.hid hcell
  obtain ⟨n, hn⟩ : ∃ n, n = z1.length := ⟨_, rfl⟩
  have HN := Lib.hid hn.symm
  rw [← hn] at HQI HIS hxc l1 ⊢
  unfold maxLen at hcm
  clear hn hcell f0 f1 h0
  obtain ⟨i0, hi, hz0, hz1, hz2⟩ := info_parts LQuestion.infoK
  have HI0 := Lib.hid hi
  have HZ0 := Lib.hid (And.intro hz0 (And.intro hz1 hz2))
  clear hi hz0 hz1 hz2
  have HM := Lib.hid (move_iff z0 z1 a2 a3)
  cases hg : goodQ z0 z1 with
  | false =>
    have HG := Lib.hid (good_asS false HR.out HQI.out HF0.out hg)
    have HA := Lib.hid (mvA_no (show goodQ z0 (z1 ++ [⟨a2, a3, false⟩]) = false by rw [HM.out, hg]; rfl))
    clear hg
    go_enter Try.func31, Try.ntmps31
    go_wp2_with fail
    refine HG.out.mono ?_
    rintro e w1 ⟨rfl, hb1⟩
    have HOb := Lib.hid (Own.start (T := LQuestion.rec) (E := 47) (w := w1) hb1.size)
    have hbz := hb1.alloc hb1.size (Obj.cells #[] 47)
    go_wp2_with fail
    go_ret2
    exact ⟨_, [], false, rfl, HA.out, HOb.out, hbz⟩
  | true =>
    have HG := Lib.hid (good_asS true HR.out HQI.out HF0.out hg)
    have HT := Lib.hid (topIn_good hg)
    have HL8 := Lib.hid (good_rules hg)
    have HM2 := Lib.hid (show goodQ z0 (z1 ++ [⟨a2, a3, false⟩]) = (inB a3 1 99 && hasB (may z0 z1) a2) by rw [HM.out, hg, Bool.true_and])
    clear hg
    cases hm : inB a3 1 99 with
    | false =>
      have HMm := Lib.hid (fun W => l7Member a3 false hm W)
      have HA := Lib.hid (mvA_no (show goodQ z0 (z1 ++ [⟨a2, a3, false⟩]) = false by rw [HM2.out, hm]; rfl))
      clear hm
      go_enter Try.func31, Try.ntmps31
      go_wp2_with fail
      refine HG.out.mono ?_
      rintro e w1 ⟨rfl, hb1⟩
      go_wp2_with fail
      refine (HMm.out _).mono ?_
      rintro e _ ⟨rfl, rfl⟩
      have HOb := Lib.hid (Own.start (T := LQuestion.rec) (E := 47) (w := w1) hb1.size)
      have hbz := hb1.alloc hb1.size (Obj.cells #[] 47)
      go_wp2_with fail
      go_ret2
      exact ⟨_, [], false, rfl, HA.out, HOb.out, hbz⟩
    | true =>
      have HMm := Lib.hid (fun W => l7Member a3 true hm W)
      have HM3 := Lib.hid (show goodQ z0 (z1 ++ [⟨a2, a3, false⟩]) = hasB (may z0 z1) a2 by rw [HM2.out, hm, Bool.true_and])
      clear hm
      go_enter Try.func31, Try.ntmps31
      go_wp2_with fail
      refine HG.out.mono ?_
      rintro e w1 ⟨rfl, hb1⟩
      go_wp2_with fail
      refine (HMm.out _).mono ?_
      rintro e _ ⟨rfl, rfl⟩
      go_wp2_with fail
      refine (MayBeMovedC.l7May _ _ z0 z1 _ (HR.out.below LRule.rec hb1) (HQI.out.below LQuestion.rec hb1) HT.out HL8.out).mono ?_
      rintro e wq ⟨v, rfl, ho, hbm⟩
      have hbn := hb1.trans (hbm.mono hb1.size)
      have HV := Lib.hid ho.is
      clear ho hbm
      cases hh : hasB (may z0 z1) a2 with
      | false =>
        have HHs := Lib.hid (has_as false HV.out hh)
        have HA := Lib.hid (mvA_no (HM3.out.trans hh))
        clear hh
        go_wp2_with fail
        refine HHs.out.mono ?_
        rintro e _ ⟨rfl, rfl⟩
        have HOb := Lib.hid (Own.start (T := LQuestion.rec) (E := 47) (w := wq) hbn.size)
        have hbz := hbn.alloc hbn.size (Obj.cells #[] 47)
        go_wp2_with fail
        go_ret2
        exact ⟨_, [], false, rfl, HA.out, HOb.out, hbz⟩
      | true =>
        have HHs := Lib.hid (has_as true HV.out hh)
        have HGN := HM3.out.trans hh
        have HA := Lib.hid (mvA_yes HGN)
        have HLN := Lib.hid (show z1.length + 1 ≤ 6 by have := good_len HGN; simpa using this)
        clear hh HGN
        go_wp2_with fail
        refine HHs.out.mono ?_
        rintro e _ ⟨rfl, rfl⟩
        have h6' : n ≤ 6 := by have := HLN.out; have := HN.out; omega
        have HS1 := Lib.hid (show ∀ w' : World, Below wq.heap.size wq w' → ∀ j u, (flat LQuestion.rec (z1.take n))[j]? = some u → w'.cell? (Addr.add ⟨b, o, none⟩ j) = some u from fun w' hb' =>
          ((HIS.out.below LQuestion.rec (hbn.trans (hb'.mono hbn.size))).take LQuestion.rec (k := n) (by omega)).flatCells LQuestion.rec)
        have hA1 : Below wq.heap.size wq (wq.alloc (.cells #[] 47)) := (Below.refl _ _).alloc (Nat.le_refl _) _
        have HOS := Lib.hid (LQuestion.startB (A := wq.heap.size) (heap_alloc_new wq (.cells #[] 47)) (Nat.le_refl _))
        go_wp2_with (at_builtin; refine wpList_append_own _ rfl (.tmp 28) (.tmp 29) 29 rfl wq.heap.size 47 i0 (.agg #[.int .i64 0, .int .i64 0, .bool false]) 3 24 Try.underlying29 HI0.out HZ0.out.1 HZ0.out.2.1 HZ0.out.2.2 rfl (by decide) _ _ _ rfl HOS.out ⟨b, o, none⟩ (n) (cp) (flat LQuestion.rec (z1.take n)) rfl ?c0 (HS1.out _ hA1) (flat_one _ _) ?c3 ?c4 ?c5 ?c6)
        case c0 => rw [flat_len, LQuestion.rec_n]; rw [List.length_take]; have := HN.out; omega
        case c3 => unfold maxLen; omega
        case c4 => omega
        case c5 => first | (simp; done) | (simp; omega) | omega
        case c6 =>
          intro v2 w2 hown hgrow _
          have hbx : Below wq.heap.size wq w2 := hA1.grown hgrow (by simp) (fun j hj => (HOS.out.lt j hj).1)
          have HO2 := Lib.hid (Own.low (own_of LQuestion.rec (xs := z1.take n) (show w2.ownsRow wq.heap.size 47 3 v2 n (flat LQuestion.rec (z1.take n)) from by first | exact hown | exact own_in hown) (by rw [List.length_take]; have := HN.out; omega) rfl) hbn.size)
          have hb2 := hbn.trans (hbx.mono hbn.size)
          clear hown hgrow hbx
          have h61 : n + 1 ≤ 6 := by have := HLN.out; have := HN.out; omega
          have hz2 := hb2.size
          have hzn : z1.length ≤ 5 := by have := HLN.out; omega
          have htk : z1.take n = z1 := List.take_of_length_le (by have := HN.out; omega)
          rw [htk] at HO2
          go_wp2_with (at_builtin; refine wpList_append_own _ rfl (.tmp 30) (.tmp 34) 29 rfl w.heap.size 47 i0 (.agg #[.int .i64 0, .int .i64 0, .bool false]) 3 24 Try.underlying29 HI0.out HZ0.out.1 HZ0.out.2.1 HZ0.out.2.2 rfl (by decide) _ _ _ rfl (HO2.out.alloc _) ⟨_, 0, none⟩ 1 1 [.int .i64 a2, .int .i64 a3, .bool false] rfl rfl ?d1 ?d2 ?d3 ?d4 ?d5 ?d6)
          case d1 => first | exact World.news_of_block (heap_alloc_new _ _) | exact World.news_of_block (alloc_two _ _ _)
          case d2 => intro u hu; simp only [List.mem_cons, List.not_mem_nil, or_false] at hu; rcases hu with rfl | rfl | rfl <;> rfl
          case d3 => unfold maxLen; omega
          case d4 => omega
          case d5 => first | (simp; done) | (simp; omega) | omega
          case d6 =>
            intro v3 w3 hown' hgrow' _
            have hb3 : Below w.heap.size w w3 := Below.grown (hb2.alloc hb2.size (Obj.cells #[.int .i64 a2, .int .i64 a3, .bool false] 47)) hgrow' (by first | (simp; done) | (simp; omega) | omega) (fun j hj => (HO2.out.lt j hj).1)
            have HO3 := Lib.hid (show Own LQuestion.rec 47 w3 w.heap.size v3 (z1 ++ [⟨a2, a3, false⟩]) from own_of LQuestion.rec hown' (by simp) (by rw [flat_append]; rfl))
            clear hown' hgrow'
            go_wp2_with fail
            go_ret2
            exact ⟨_, _, true, rfl, HA.out, HO3.out, hb3⟩
set_option maxRecDepth 100000 in
set_option maxHeartbeats 3200000 in
theorem impl (v0 : Value) (z0 : List LRule.R) (v1 : Value) (z1 : List LQuestion.R) (a2 a3 : Int) (w : World) (h0 : IsS LRule.rec w v0 z0) (f0 : ∀ x ∈ z0, LRule.Fine x) (l0 : z0.length ≤ 1048576) (h1 : IsS LQuestion.rec w v1 z1) (f1 : ∀ x ∈ z1, LQuestion.Fine x) (l1 : z1.length ≤ 1048576) :
    Calls Try.prog 32 #[v0, v1, .int .i64 a2, .int .i64 a3] w (APost z0 z1 a2 a3 w) := by
  have HR := Lib.hid (IsS.is LRule.rec h0)
  have HQI := Lib.hid (IsS.is LQuestion.rec h1)
  have HIS := Lib.hid h1
  have HF0 := Lib.hid f0
  obtain ⟨b, o, cp, rfl, hbl, hxc, hcm, hcell⟩ := h1
  have HC := Lib.hid hcell
  obtain ⟨n, hn⟩ : ∃ n, n = z1.length := ⟨_, rfl⟩
  have HN := Lib.hid hn.symm
  rw [← hn] at HQI HIS hxc l1 ⊢
  unfold maxLen at hcm
  clear hn hcell f0 f1 h0
  obtain ⟨i0, hi, hz0, hz1, hz2⟩ := info_parts LQuestion.infoK
  have HI0 := Lib.hid hi
  have HZ0 := Lib.hid (And.intro hz0 (And.intro hz1 hz2))
  clear hi hz0 hz1 hz2
  have n12 : 0 ≤ (n : Int) := by omega
  have n11 : (n : Int) ≤ (cp : Int) := by omega
  have n14 : (n : Int) ≤ (n : Int) := by omega
  go_enter Try.func32, Try.ntmps32
  go_wp2_with (at_builtin; refine wpList_append_grows _ rfl (.tmp 16) (.tmp 20) 29 rfl 47 i0 (.agg #[.int .i64 0, .int .i64 0, .bool false]) 3 24 Try.underlying29 HI0.out HZ0.out.1 HZ0.out.2.1 HZ0.out.2.2 rfl (by decide) (some ⟨b, o, none⟩) n n (flat LQuestion.rec z1) rfl (fun e => by cases e) ?c0 ?c9 ⟨_, 0, none⟩ 1 1 [.int .i64 a2, .int .i64 a3, .bool false] rfl rfl ?c1 ?c2 ?c3 ?c4 ?c5 ?c6)
  case c0 => rw [flat_len, LQuestion.rec_n]; have := HN.out; omega
  case c9 =>
    intro b' hb' j u hu
    obtain rfl := Option.some.inj hb'
    exact (HIS.out.below LQuestion.rec ((Below.refl w.heap.size w).alloc (Nat.le_refl _) _)).flatCells LQuestion.rec j u hu
  case c1 => exact World.news_of_block (heap_alloc_new _ _)
  case c2 => intro u hu; simp only [List.mem_cons, List.not_mem_nil, or_false] at hu; rcases hu with rfl | rfl | rfl <;> rfl
  case c3 => omega
  case c4 => unfold maxLen; omega
  case c5 => omega
  case c6 =>
    intro v2 w2 hown hgrow
    have hb2 : Below w.heap.size w w2 := Below.grown ((Below.refl w.heap.size w).alloc (Nat.le_refl _) (Obj.cells #[.int .i64 a2, .int .i64 a3, .bool false] 47)) hgrow (by first | (simp; done) | (simp; omega) | omega) (fun j hj => by cases hj)
    have HO2 := Lib.hid (Own.low (A' := w.heap.size) (own_of LQuestion.rec (xs := z1 ++ [⟨a2, a3, false⟩]) hown (by simp [HN.out]) (by rw [flat_append]; rfl)) (by first | (simp; done) | (simp; omega) | omega))
    clear hown hgrow
    cases hg : goodQ z0 (z1 ++ [⟨a2, a3, false⟩]) with
    | false =>
      have HG := Lib.hid (good_asI false (HR.out.below LRule.rec hb2) HO2.out.is HF0.out hg)
      have HA := Lib.hid (mvA_no hg)
      clear hg
      go_wp2_with fail
      refine HG.out.mono ?_
      rintro e w3 ⟨rfl, hb3⟩
      have hb4 := hb2.trans (hb3.mono hb2.size)
      have HOb := Lib.hid (Own.start (T := LQuestion.rec) (E := 47) (w := w3) hb4.size)
      have hbz := hb4.alloc hb4.size (Obj.cells #[] 47)
      go_wp2_with fail
      go_ret2
      exact ⟨_, [], false, rfl, HA.out, HOb.out, hbz⟩
    | true =>
      have HG := Lib.hid (good_asI true (HR.out.below LRule.rec hb2) HO2.out.is HF0.out hg)
      have HA := Lib.hid (mvA_yes hg)
      clear hg
      go_wp2_with fail
      refine HG.out.mono ?_
      rintro e w3 ⟨rfl, hb3⟩
      have hb4 := hb2.trans (hb3.mono hb2.size)
      have HO3 := Lib.hid (HO2.out.kept hb3)
      go_wp2_with fail
      go_ret2
      exact ⟨_, _, true, rfl, HA.out, HO3.out, hb4⟩
end Go.Proofs.Ytbaflfbidgolfaa.MoveQuestionC
