/- WithdrawQuestion, model and program: what both answer. No condition but that names are no longer than strings can be. -/
import Derived.Test.YtbaflfbidgolfaaData
namespace Go.Proofs.Ytbaflfbidgolfaa.WithdrawQuestionC
open Go.RowKit Bs Word Sq St StF StL StG StA IntF
set_option linter.unusedVariables false
def Ans (z0 : List LRule.R) (z1 : List LQuestion.R) (a2 : Int) (r0 : List LQuestion.R) (r1 : Bool) : Prop := wdA z0 z1 a2 = (r0, r1)
theorem same {z0 : List LRule.R} {z1 : List LQuestion.R} {a2 : Int} {r0 s0 : List LQuestion.R} {r1 s1 : Bool} (h : Ans z0 z1 a2 r0 r1) (h' : Ans z0 z1 a2 s0 s1) : r0 = s0 ∧ r1 = s1 := by
  have := h.symm.trans h'; simp only [Prod.mk.injEq] at this; exact this
theorem len0 {z0 : List LRule.R} {z1 : List LQuestion.R} {a2 : Int} {r0 : List LQuestion.R} {r1 : Bool} (h : Ans z0 z1 a2 r0 r1) : r0.length ≤ 1048576 := by
  unfold Ans wdA at h
  split at h
  · rename_i hg
    have h6 := good_len hg
    split at h
    · simp only [Prod.mk.injEq] at h
      rw [← h.1, List.length_take]; omega
    · simp only [Prod.mk.injEq] at h; rw [← h.1]; simp
  · simp only [Prod.mk.injEq] at h; rw [← h.1]; simp
def APost (z0 : List LRule.R) (z1 : List LQuestion.R) (a2 : Int) (w : World) (e : Ending) (w' : World) : Prop :=
  ∃ v0 r0 r1, e = .returned (.tuple #[v0, .bool r1]) ∧ Ans z0 z1 a2 r0 r1 ∧ Own LQuestion.rec 47 w' w.heap.size v0 r0 ∧ Below w.heap.size w w'
set_option maxRecDepth 100000 in
set_option maxHeartbeats 3200000 in
theorem spec (v0 : Value) (z0 : List LRule.R) (v1 : Value) (z1 : List LQuestion.R) (a2 : Int) (w : World) (h0 : IsS LRule.rec w v0 z0) (f0 : ∀ x ∈ z0, LRule.Fine x) (l0 : z0.length ≤ 1048576) (h1 : IsS LQuestion.rec w v1 z1) (f1 : ∀ x ∈ z1, LQuestion.Fine x) (l1 : z1.length ≤ 1048576) :
    Calls Try.prog 39 #[v0, v1, .int .i64 a2] w (APost z0 z1 a2 w) := by
  have HR := Lib.hid (IsS.is LRule.rec h0)
  have HQI := Lib.hid (IsS.is LQuestion.rec h1)
  have HIS := Lib.hid h1
  have HF0 := Lib.hid f0
  obtain ⟨b, o, cp, rfl, hbl, hxc, hcm, hcell⟩ := h1
  have HC := Lib.hid hcell
  obtain ⟨n, hn⟩ : ∃ n, n = z1.length := ⟨_, rfl⟩
  have HN := Lib.hid hn.symm
  rw [← hn] at HQI HIS hxc l1 ⊢
  unfold maxLen at hcm
  clear hn hcell f0 f1 h0
  obtain ⟨i0, hi, hz0, hz1, hz2⟩ := info_parts LQuestion.infoK
  have HI0 := Lib.hid hi
  have HZ0 := Lib.hid (And.intro hz0 (And.intro hz1 hz2))
  clear hi hz0 hz1 hz2
  cases hg : goodQ z0 z1 with
  | false =>
    have HG := Lib.hid (good_asS false HR.out HQI.out HF0.out hg)
    have HA := Lib.hid (wdA_no (m := a2) hg)
    clear hg
    go_enter Try.func39, Try.ntmps39
    go_wp2_with fail
    refine HG.out.mono ?_
    rintro e w1 ⟨rfl, hb1⟩
    have HOb := Lib.hid (Own.start (T := LQuestion.rec) (E := 47) (w := w1) hb1.size)
    have hbz := hb1.alloc hb1.size (Obj.cells #[] 47)
    go_wp2_with fail
    go_ret2
    exact ⟨_, [], false, rfl, HA.out, HOb.out, hbz⟩
  | true =>
    have HG := Lib.hid (good_asS true HR.out HQI.out HF0.out hg)
    have HGD := Lib.hid hg
    have h6 : n ≤ 6 := by have := good_len hg; have := HN.out; omega
    clear hg
    have n1 : IntKind.i64.wrap ((n : Int) - 1) = (n : Int) - 1 := IntWalk.i64_in _ (by omega)
    go_enter Try.func39, Try.ntmps39
    go_wp2_with fail
    refine HG.out.mono ?_
    rintro e w1 ⟨rfl, hb1⟩
    go_wp2_with fail
    go_loopw [8] (fun i wr => ∃ k : Nat, k ≤ n ∧ i = .int .i64 ((k : Int) - 1) ∧ Hid (la z1 a2 z1.length = la z1 a2 k) ∧ w1 = wr) (fun i _ => ((intOf i) + 1).toNat)
    case atStart => exact ⟨n, Nat.le_refl _, rfl, Lib.hid (by rw [HN.out]), rfl⟩
    case round =>
      obtain ⟨k, hk, rfl, HL, rfl⟩ := hrel
      rcases k with _ | k
      · have HA := Lib.hid (wdA_none HGD.out (HL.out.trans rfl))
        have HOb := Lib.hid (Own.start (T := LQuestion.rec) (E := 47) (w := w1) hb1.size)
        have hbz := hb1.alloc hb1.size (Obj.cells #[] 47)
        go_wp2_with fail
        go_ret2
        exact ⟨_, [], false, rfl, HA.out, HOb.out, hbz⟩
      · have hx : k < z1.length := by have := HN.out; omega
        have HX := Lib.hid (List.getElem?_eq_getElem hx)
        obtain ⟨q0, q1, q2⟩ := LQuestion.cells ((HC.out k z1[k] HX.out).below LQuestion.rec hb1 hbl)
        simp only [LQuestion.rec_n] at q0 q1 q2
        have t0 : (((k + 1 : Nat) : Int) - 1) = (k : Int) := by omega
        have t1 : IntKind.i64.wrap ((k : Int) - 1) = (k : Int) - 1 := IntWalk.i64_in _ (by omega)
        have t2 : ((k : Int)).toNat = k := by omega
        have k1 : (k : Int) < (n : Int) := by omega
        have k0 : 0 ≤ (k : Int) := by omega
        have s1 : (k : Int) ≤ (n : Int) := by omega
        have s2 : (n : Int) ≤ (cp : Int) := by omega
        have s3 : (k : Int) ≤ (cp : Int) := by omega
        rw [t0]
        generalize z1[k] = X at *
        cases hm : (X.mover == a2) with
        | false =>
          have HL2 := Lib.hid (show la z1 a2 z1.length = la z1 a2 k by rw [HL.out]; exact la_miss HX.out hm)
          clear t0
          go_wp2_with fail
          go_roundw
          case rel => exact ⟨k, by omega, by go_num, HL2, by first | rfl | trivial⟩
          case measure => first | (simp [intOf]; done) | (simp [intOf]; omega)
        | true =>
          have HA := Lib.hid (wdA_some HGD.out (HL.out.trans (la_hit HX.out hm)))
          clear t0
          have HS1 := Lib.hid (show ∀ w' : World, Below w1.heap.size w1 w' → ∀ j u, (flat LQuestion.rec (z1.take k))[j]? = some u → w'.cell? (Addr.add ⟨b, o, none⟩ j) = some u from fun w' hb' =>
            ((HIS.out.below LQuestion.rec (hb1.trans (hb'.mono hb1.size))).take LQuestion.rec (k := k) (by omega)).flatCells LQuestion.rec)
          have hA1 : Below w1.heap.size w1 (w1.alloc (.cells #[] 47)) := (Below.refl _ _).alloc (Nat.le_refl _) _
          have HOS := Lib.hid (LQuestion.startB (A := w1.heap.size) (heap_alloc_new w1 (.cells #[] 47)) (Nat.le_refl _))
          go_wp2_with (at_builtin; refine wpList_append_own _ rfl (.tmp 28) (.tmp 31) 29 rfl w1.heap.size 47 i0 (.agg #[.int .i64 0, .int .i64 0, .bool false]) 3 24 Try.underlying29 HI0.out HZ0.out.1 HZ0.out.2.1 HZ0.out.2.2 rfl (by decide) _ _ _ rfl HOS.out ⟨b, o, none⟩ (k) (cp) (flat LQuestion.rec (z1.take k)) rfl ?c0 (HS1.out _ hA1) (flat_one _ _) ?c3 ?c4 ?c5 ?c6)
          case c0 => rw [flat_len, LQuestion.rec_n]; rw [List.length_take]; have := HN.out; omega
          case c3 => unfold maxLen; omega
          case c4 => omega
          case c5 => first | (simp; done) | (simp; omega) | omega
          case c6 =>
            intro v2 w2 hown hgrow _
            have hbx : Below w1.heap.size w1 w2 := hA1.grown hgrow (by simp) (fun j hj => (HOS.out.lt j hj).1)
            have HO2 := Lib.hid (Own.low (own_of LQuestion.rec (xs := z1.take k) (show w2.ownsRow w1.heap.size 47 3 v2 k (flat LQuestion.rec (z1.take k)) from by first | exact hown | exact own_in hown) (by rw [List.length_take]; have := HN.out; omega) rfl) hb1.size)
            have hb2 := hb1.trans (hbx.mono hb1.size)
            clear hown hgrow hbx
            go_wp2_with fail
            go_ret2
            exact ⟨_, _, true, rfl, HA.out, HO2.out, hb2⟩
set_option maxRecDepth 100000 in
set_option maxHeartbeats 3200000 in
theorem impl (v0 : Value) (z0 : List LRule.R) (v1 : Value) (z1 : List LQuestion.R) (a2 : Int) (w : World) (h0 : IsS LRule.rec w v0 z0) (f0 : ∀ x ∈ z0, LRule.Fine x) (l0 : z0.length ≤ 1048576) (h1 : IsS LQuestion.rec w v1 z1) (f1 : ∀ x ∈ z1, LQuestion.Fine x) (l1 : z1.length ≤ 1048576) :
    Calls Try.prog 40 #[v0, v1, .int .i64 a2] w (APost z0 z1 a2 w) := by
  have HR := Lib.hid (IsS.is LRule.rec h0)
  have HQI := Lib.hid (IsS.is LQuestion.rec h1)
  have HIS := Lib.hid h1
  have HF0 := Lib.hid f0
  obtain ⟨b, o, cp, rfl, hbl, hxc, hcm, hcell⟩ := h1
  have HC := Lib.hid hcell
  obtain ⟨n, hn⟩ : ∃ n, n = z1.length := ⟨_, rfl⟩
  have HN := Lib.hid hn.symm
  rw [← hn] at HQI HIS hxc l1 ⊢
  unfold maxLen at hcm
  clear hn hcell f0 f1 h0
  obtain ⟨i0, hi, hz0, hz1, hz2⟩ := info_parts LQuestion.infoK
  have HI0 := Lib.hid hi
  have HZ0 := Lib.hid (And.intro hz0 (And.intro hz1 hz2))
  clear hi hz0 hz1 hz2
  cases hg : goodQ z0 z1 with
  | false =>
    have HG := Lib.hid (good_asI false HR.out HQI.out HF0.out hg)
    have HA := Lib.hid (wdA_no (m := a2) hg)
    clear hg
    go_enter Try.func40, Try.ntmps40
    go_wp2_with fail
    refine HG.out.mono ?_
    rintro e w1 ⟨rfl, hb1⟩
    have HOb := Lib.hid (Own.start (T := LQuestion.rec) (E := 47) (w := w1) hb1.size)
    have hbz := hb1.alloc hb1.size (Obj.cells #[] 47)
    go_wp2_with fail
    go_ret2
    exact ⟨_, [], false, rfl, HA.out, HOb.out, hbz⟩
  | true =>
    have HG := Lib.hid (good_asI true HR.out HQI.out HF0.out hg)
    have HGD := Lib.hid hg
    have h6 : n ≤ 6 := by have := good_len hg; have := HN.out; omega
    clear hg
    have n1 : IntKind.i64.wrap ((n : Int) - 1) = (n : Int) - 1 := IntWalk.i64_in _ (by omega)
    go_enter Try.func40, Try.ntmps40
    go_wp2_with fail
    refine HG.out.mono ?_
    rintro e w1 ⟨rfl, hb1⟩
    go_wp2_with fail
    go_loopw [8] (fun i wr => ∃ k : Nat, k ≤ n ∧ i = .int .i64 ((k : Int) - 1) ∧ Hid (la z1 a2 z1.length = la z1 a2 k) ∧ w1 = wr) (fun i _ => ((intOf i) + 1).toNat)
    case atStart => exact ⟨n, Nat.le_refl _, rfl, Lib.hid (by rw [HN.out]), rfl⟩
    case round =>
      obtain ⟨k, hk, rfl, HL, rfl⟩ := hrel
      rcases k with _ | k
      · have HA := Lib.hid (wdA_none HGD.out (HL.out.trans rfl))
        have HOb := Lib.hid (Own.start (T := LQuestion.rec) (E := 47) (w := w1) hb1.size)
        have hbz := hb1.alloc hb1.size (Obj.cells #[] 47)
        go_wp2_with fail
        go_ret2
        exact ⟨_, [], false, rfl, HA.out, HOb.out, hbz⟩
      · have hx : k < z1.length := by have := HN.out; omega
        have HX := Lib.hid (List.getElem?_eq_getElem hx)
        obtain ⟨q0, q1, q2⟩ := LQuestion.cells ((HC.out k z1[k] HX.out).below LQuestion.rec hb1 hbl)
        simp only [LQuestion.rec_n] at q0 q1 q2
        have t0 : (((k + 1 : Nat) : Int) - 1) = (k : Int) := by omega
        have t1 : IntKind.i64.wrap ((k : Int) - 1) = (k : Int) - 1 := IntWalk.i64_in _ (by omega)
        have t2 : ((k : Int)).toNat = k := by omega
        have k1 : (k : Int) < (n : Int) := by omega
        have k0 : 0 ≤ (k : Int) := by omega
        have s1 : (k : Int) ≤ (n : Int) := by omega
        have s2 : (n : Int) ≤ (cp : Int) := by omega
        have s3 : (k : Int) ≤ (cp : Int) := by omega
        rw [t0]
        generalize z1[k] = X at *
        cases hm : (X.mover == a2) with
        | false =>
          have HL2 := Lib.hid (show la z1 a2 z1.length = la z1 a2 k by rw [HL.out]; exact la_miss HX.out hm)
          clear t0
          go_wp2_with fail
          go_roundw
          case rel => exact ⟨k, by omega, by go_num, HL2, by first | rfl | trivial⟩
          case measure => first | (simp [intOf]; done) | (simp [intOf]; omega)
        | true =>
          have HA := Lib.hid (wdA_some HGD.out (HL.out.trans (la_hit HX.out hm)))
          clear t0
          have hT := Lib.hid (show Is LQuestion.rec w1 (.slice (some ⟨b, o, none⟩) k cp) (z1.take k) from IsS.is LQuestion.rec ((HIS.out.below LQuestion.rec hb1).take LQuestion.rec (by omega)))
          go_wp2_with fail
          refine (LQuestion.clone _ (z1.take k) _ hT.out (by rw [List.length_take]; omega)).mono ?_
          rintro e w2 ⟨v2, rfl, ho, hbx⟩
          have HO2 := Lib.hid (ho.low hb1.size)
          have hb2 := hb1.trans (hbx.mono hb1.size)
          clear ho hbx
          go_wp2_with fail
          go_ret2
          exact ⟨_, _, true, rfl, HA.out, HO2.out, hb2⟩
end Go.Proofs.Ytbaflfbidgolfaa.WithdrawQuestionC
