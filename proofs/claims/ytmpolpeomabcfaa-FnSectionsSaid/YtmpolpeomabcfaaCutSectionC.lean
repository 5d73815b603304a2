/- CutSection, model and program: what both answer. No condition but that titles are no longer than strings can be. -/
import Derived.Test.YtmpolpeomabcfaaDocO
import Derived.Test.YtmpolpeomabcfaaLSectionKconcat
import Derived.BigQuiet
namespace Go.Proofs.Ytmpolpeomabcfaa.CutSectionC
open Go.RowKit Bs Word Doc DocO
set_option linter.unusedVariables false
noncomputable def anA (z : List M) (i : Int) : List M × Bool := if askB z i = true then (z.take i.toNat ++ z.drop (i.toNat + 1 + prt z i.toNat), true) else ([], false)
theorem no1 {z : List M} {i : Int} (h : askB z i = false) : anA z i = ([], false) := by unfold anA; rw [h]; rfl
theorem yes {z : List M} {k E : Nat} (h : askB z k = true) (he : k + 1 + prt z k = E) : anA z k = (z.take k ++ z.drop E, true) := by unfold anA; rw [if_pos h, show ((k : Int)).toNat = k from rfl, he]
def Ans (z0 : List LSection.R) (a1 : Int) (r0 : List LSection.R) (r1 : Bool) : Prop := anA z0 a1 = (r0, r1)
theorem same {z0 : List LSection.R} {a1 : Int} {r0 s0 : List LSection.R} {r1 s1 : Bool} (h : Ans z0 a1 r0 r1) (h' : Ans z0 a1 s0 s1) : r0 = s0 ∧ r1 = s1 := by
  have := h.symm.trans h'; simp only [Prod.mk.injEq] at this; exact this
theorem len0 {z0 : List LSection.R} {a1 : Int} {r0 : List LSection.R} {r1 : Bool} (h : Ans z0 a1 r0 r1) : r0.length ≤ 1048576 := by
  unfold Ans anA at h
  split at h
  · rename_i hq
    have h12 := good_len (ask_good hq).1
    simp only [Prod.mk.injEq] at h; rw [← h.1]; simp; omega
  · simp only [Prod.mk.injEq] at h; rw [← h.1]; simp
def APost (z0 : List LSection.R) (a1 : Int) (w : World) (e : Ending) (w' : World) : Prop :=
  ∃ v0 r0 r1, e = .returned (.tuple #[v0, .bool r1]) ∧ Ans z0 a1 r0 r1 ∧ Own LSection.rec 34 w' w.heap.size v0 r0 ∧ Below w.heap.size w w'
set_option maxRecDepth 100000 in
set_option maxHeartbeats 3200000 in
theorem spec (v0 : Value) (z0 : List LSection.R) (a1 : Int) (w : World) (h0 : IsS LSection.rec w v0 z0) (f0 : ∀ x ∈ z0, LSection.Fine x) (l0 : z0.length ≤ 1048576) :
    Calls Try.prog 13 #[v0, .int .i64 a1] w (APost z0 a1 w) := by
  have h1 := IsS.is LSection.rec h0
  have HQ := Lib.hid (l6Asked v0 z0 a1 w h1 f0)
  have hS := h0
  obtain ⟨b, o, cp, rfl, hbl, hxc, hcm, hcell⟩ := h0
  have HIS := Lib.hid hS
  obtain ⟨n, hn⟩ : ∃ n, n = z0.length := ⟨_, rfl⟩
  have HN := Lib.hid hn.symm
  have HC := Lib.hid hcell
  rw [← hn] at HQ HIS hxc l0 ⊢
  unfold maxLen at hcm
  clear hn hS h1 hcell
  have HI1 := Lib.hid (show Is LSection.rec w (.slice (some ⟨b, o, none⟩) n cp) z0 from IsS.is LSection.rec HIS.out)
  clear f0
  obtain ⟨i0, hi, hz0, hz1, hz2⟩ := info_parts LSection.infoK
  have HI0 := Lib.hid hi
  have HZ0 := Lib.hid (And.intro hz0 (And.intro hz1 hz2))
  clear hi hz0 hz1 hz2
  cases hq : askB z0 a1 with
  | false =>
    have HA := Lib.hid (no1 hq)
    rw [hq] at HQ
    clear hq
    go_enter Try.func13, Try.ntmps13
    go_wp2_with fail
    refine HQ.out.mono ?_
    rintro e w1 ⟨rfl, hb1⟩
    have HO := Lib.hid (Own.start (T := LSection.rec) (E := 34) (w := w1) hb1.size)
    have hbz := hb1.alloc hb1.size (Obj.cells #[] 34)
    go_wp2_with fail
    go_ret2
    exact ⟨_, [], false, rfl, HA.out, HO.out, hbz⟩
  | true =>
    obtain ⟨hg, k, rfl, hk⟩ := ask_good hq
    have HU := Lib.hid (fun X hX => l6Part _ z0 k X (HI1.out.below LSection.rec hX) hk)
    have hpl := prt_le z0 k hk
    have h12 := good_len hg
    obtain ⟨E, hE⟩ : ∃ E, k + 1 + prt z0 k = E := ⟨_, rfl⟩
    have HA := Lib.hid (yes hq hE)
    rw [hq] at HQ
    rw [HN.out] at hpl h12
    rw [hE] at hpl
    have HE := Lib.hid hE
    have hkE : k < E := by omega
    have hkn : k < n := by omega
    clear hq hg hk hE
    go_enter Try.func13, Try.ntmps13
    go_wp2_with fail
    refine HQ.out.mono ?_
    rintro e w1 ⟨rfl, hb1⟩
    have k0 : 0 ≤ (k : Int) := by omega
    have s1 : (k : Int) ≤ (n : Int) := by omega
    have s2 : (n : Int) ≤ (cp : Int) := by omega
    have s3 : (k : Int) ≤ (cp : Int) := by omega
    have s4 : (E : Int) ≤ (n : Int) := by omega
    have s5 : 0 ≤ (E : Int) := by omega
    have s6 : (E : Int) ≤ (cp : Int) := by omega
    go_upto_region 3 with fail
    obtain ⟨oD, hoD⟩ : ∃ oD, (if cp = E then some (⟨b, o, none⟩ : Addr) else some ⟨b, o + E * 2, none⟩) = some ⟨b, oD, none⟩ := by
      by_cases hck : cp = E
      · exact ⟨o, if_pos hck⟩
      · exact ⟨_, if_neg hck⟩
    have HOD := Lib.hid hoD
    have HS1 := Lib.hid (show ∀ w' : World, Below w1.heap.size w1 w' → ∀ j u, (flat LSection.rec (z0.take k))[j]? = some u → w'.cell? (Addr.add ⟨b, o, none⟩ j) = some u from fun w' hb =>
      ((HIS.out.below LSection.rec (hb1.trans (hb.mono hb1.size))).take LSection.rec (k := k) (by omega)).flatCells LSection.rec)
    have HS2 := Lib.hid (show ∀ w' : World, Below w1.heap.size w1 w' → ∀ j u, (flat LSection.rec (z0.drop E))[j]? = some u → w'.cell? (Addr.add ⟨b, oD, none⟩ j) = some u from fun w' hb =>
      ((HIS.out.below LSection.rec (hb1.trans (hb.mono hb1.size))).drop LSection.rec (k := E) (some ⟨b, oD, none⟩) HOD.out.symm (by omega) _ _ rfl rfl).flatCells LSection.rec)
    have hA1 : Below w1.heap.size w1 (w1.alloc (.cells #[] 34)) := (Below.refl _ _).alloc (Nat.le_refl _) _
    have HOS := Lib.hid (LSection.startB (A := w1.heap.size) (heap_alloc_new w1 (.cells #[] 34)) (Nat.le_refl _))
    have HP := Lib.hid (show ∃ P, P = prt z0 k from ⟨_, rfl⟩)
    have HPE : k + 1 + prt z0 k = E := HE.out
    generalize prt z0 k = P at *
    have s7 : IntKind.i64.wrap ((k : Int) + (P : Int)) = (k : Int) + (P : Int) := IntWalk.i64_in _ (by omega)
    have s8 : IntKind.i64.wrap ((k : Int) + (P : Int) + 1) = (E : Int) := by rw [IntWalk.i64_in _ (by omega)]; omega
    have HEQ := Lib.hid HPE
    clear HPE
    go_wp2_with (at_builtin; refine wpList_append_own _ rfl (.tmp 11) (.tmp 14) 24 rfl w1.heap.size 34 i0 (.agg #[.int .i64 0, .string ⟨#[]⟩]) 2 24 Try.underlying24 HI0.out HZ0.out.1 HZ0.out.2.1 HZ0.out.2.2 rfl (by decide) _ _ _ rfl HOS.out ⟨b, o, none⟩ (k) (cp) (flat LSection.rec (z0.take k)) rfl ?c0 (HS1.out _ hA1) (flat_one _ _) ?c3 ?c4 ?c5 ?c6)
    case c0 => rw [flat_len, LSection.rec_n]; rw [List.length_take]; have := HN.out; omega
    case c3 => unfold maxLen; omega
    case c4 => omega
    case c5 => first | (simp; done) | (simp; omega) | omega
    case c6 =>
      intro v2 w2 hown hgrow _
      have hb2 : Below w1.heap.size w1 w2 := hA1.grown hgrow (by simp) (fun j hj => (HOS.out.lt j hj).1)
      have HO2 := Lib.hid (own_of LSection.rec (xs := z0.take k) hown (by rw [List.length_take]; have := HN.out; omega) rfl)
      clear hown hgrow
      go_wp2_with fail
      refine (HU.out _ (hb1.trans (hb2.mono hb1.size))).mono ?_
      rintro e w3 ⟨rfl, hb3⟩
      have hb4 : Below w1.heap.size w1 w3 := hb2.trans (hb3.mono hb2.size)
      have HO3 := Lib.hid (HO2.out.kept hb3)
      have hz4 := hb4.size
      clear HO2 hb3 hb2
      go_wp2_with (at_builtin; refine wpList_append_own _ rfl (.tmp 15) (.tmp 23) 24 rfl w1.heap.size 34 i0 (.agg #[.int .i64 0, .string ⟨#[]⟩]) 2 24 Try.underlying24 HI0.out HZ0.out.1 HZ0.out.2.1 HZ0.out.2.2 rfl (by decide) _ _ _ rfl HO3.out ⟨b, oD, none⟩ (n - E) (cp - E) (flat LSection.rec (z0.drop E)) rfl ?d0 (HS2.out _ hb4) (flat_one _ _) ?d3 ?d4 ?d5 ?d6)
      case d0 => rw [flat_len, LSection.rec_n]; rw [List.length_drop]; have := HN.out; omega
      case d3 => unfold maxLen; rw [List.length_take]; omega
      case d4 => rw [List.length_take]; omega
      case d5 => first | (simp; done) | (simp; omega) | omega
      case d6 =>
        intro v5 w5 hown hgrow _
        have hb5 : Below w1.heap.size w1 w5 := hb4.grown hgrow hz4 (fun j hj => (HO3.out.lt j hj).1)
        have HO5 := Lib.hid (Own.low (own_of LSection.rec (xs := z0.take k ++ z0.drop E) hown (by have := HN.out; simp; omega) (by rw [flat_append])) hb1.size)
        have hb6 := hb1.trans (hb5.mono hb1.size)
        clear hown hgrow hoD
        go_wp2_with fail
        go_ret2
        exact ⟨_, _, true, rfl, HA.out, HO5.out, hb6⟩
set_option maxRecDepth 100000 in
set_option maxHeartbeats 3200000 in
theorem impl (v0 : Value) (z0 : List LSection.R) (a1 : Int) (w : World) (h0 : IsS LSection.rec w v0 z0) (f0 : ∀ x ∈ z0, LSection.Fine x) (l0 : z0.length ≤ 1048576) :
    Calls Try.prog 12 #[v0, .int .i64 a1] w (APost z0 a1 w) := by
  have h1 := IsS.is LSection.rec h0
  have HQ := Lib.hid (hasSection v0 z0 a1 w h1 f0)
  have hS := h0
  obtain ⟨b, o, cp, rfl, hbl, hxc, hcm, hcell⟩ := h0
  have HIS := Lib.hid hS
  obtain ⟨n, hn⟩ : ∃ n, n = z0.length := ⟨_, rfl⟩
  have HN := Lib.hid hn.symm
  have HC := Lib.hid hcell
  rw [← hn] at HQ HIS hxc l0 ⊢
  unfold maxLen at hcm
  clear hn hS h1 hcell
  have HI1 := Lib.hid (show Is LSection.rec w (.slice (some ⟨b, o, none⟩) n cp) z0 from IsS.is LSection.rec HIS.out)
  clear f0
  obtain ⟨i0, hi, hz0, hz1, hz2⟩ := info_parts LSection.infoK
  have HI0 := Lib.hid hi
  have HZ0 := Lib.hid (And.intro hz0 (And.intro hz1 hz2))
  clear hi hz0 hz1 hz2
  cases hq : askB z0 a1 with
  | false =>
    have HA := Lib.hid (no1 hq)
    rw [hq] at HQ
    clear hq
    go_enter Try.func12, Try.ntmps12
    go_wp2_with fail
    refine HQ.out.mono ?_
    rintro e w1 ⟨rfl, hb1⟩
    have HO := Lib.hid (Own.start (T := LSection.rec) (E := 34) (w := w1) hb1.size)
    have hbz := hb1.alloc hb1.size (Obj.cells #[] 34)
    go_wp2_with fail
    go_ret2
    exact ⟨_, [], false, rfl, HA.out, HO.out, hbz⟩
  | true =>
    obtain ⟨hg, k, rfl, hk⟩ := ask_good hq
    have HU := Lib.hid (fun X hX => endOfParts _ z0 k X (HI1.out.below LSection.rec hX) hk)
    have hpl := prt_le z0 k hk
    have h12 := good_len hg
    obtain ⟨E, hE⟩ : ∃ E, k + 1 + prt z0 k = E := ⟨_, rfl⟩
    have HA := Lib.hid (yes hq hE)
    rw [hq] at HQ
    rw [HN.out] at hpl h12
    rw [hE] at hpl HU
    have HE := Lib.hid hE
    have hkE : k < E := by omega
    have hkn : k < n := by omega
    clear hq hg hk hE
    go_enter Try.func12, Try.ntmps12
    go_wp2_with fail
    refine HQ.out.mono ?_
    rintro e w1 ⟨rfl, hb1⟩
    have k0 : 0 ≤ (k : Int) := by omega
    have s1 : (k : Int) ≤ (n : Int) := by omega
    have s2 : (n : Int) ≤ (cp : Int) := by omega
    have s3 : (k : Int) ≤ (cp : Int) := by omega
    have s4 : (E : Int) ≤ (n : Int) := by omega
    have s5 : 0 ≤ (E : Int) := by omega
    have s6 : (E : Int) ≤ (cp : Int) := by omega
    go_wp2_with fail
    obtain ⟨oD, hoD⟩ : ∃ oD, (if cp = E then some (⟨b, o, none⟩ : Addr) else some ⟨b, o + E * 2, none⟩) = some ⟨b, oD, none⟩ := by
      by_cases hck : cp = E
      · exact ⟨o, if_pos hck⟩
      · exact ⟨_, if_neg hck⟩
    have HOD := Lib.hid hoD
    generalize w1 = W at *
    have HU2 := Lib.hid (fun X (hX : Below W.heap.size W X) => HU.out X (hb1.trans (hX.mono hb1.size)))
    clear HU
    have HK := Lib.hid (show ∀ w' : World, Below W.heap.size W w' → Below W.heap.size W w' from fun w' hb => hb)
    have HCall := Lib.hid (show ∀ (X : World) (B m3 c3 : Nat), X.heap[B]? = some (.cells #[.slice (some ⟨b, o, none⟩) k (cp), .slice (some ⟨b, oD, none⟩) m3 c3] 24) → m3 = n - E → c3 = cp - E → Below W.heap.size W X → Calls Try.prog 37 #[.slice (some ⟨B, 0, none⟩) 2 2] X fun e w' => ∃ v, e = .returned v ∧ Own LSection.rec 34 w' X.heap.size v (z0.take k ++ z0.drop E) ∧ Below X.heap.size X w' from fun X B m3 c3 hX hm3 hc3 hb => by
      have hS := HIS.out.below LSection.rec (hb1.trans (hb.mono hb1.size))
      exact LSection.concat2 X _ _ _ _ _ (hS.take LSection.rec (by omega)) (hS.drop LSection.rec (some ⟨b, oD, none⟩) HOD.out.symm (by omega) _ _ hm3 hc3) hX (by have := HN.out; simp; omega))
    go_region_held3 (fun w' => Below W.heap.size W w') ((refine HK.out _ ?_; (repeat (first | assumption | exact Below.refl _ _ | refine Below.drew ?_ | refine Below.alloc ?_ (by first | (simp; done) | (simp; omega) | omega) _)))) (first | (go_at_call 38; refine (HU2.out _ (by (repeat (first | assumption | exact Below.refl _ _ | refine Below.drew ?_ | refine Below.alloc ?_ (by first | (simp; done) | (simp; omega) | omega) _)))).mono ?_; rintro e w2 ⟨rfl, hb8⟩; have hB2 : Below W.heap.size W w2 := Below.trans (by (repeat (first | assumption | exact Below.refl _ _ | refine Below.drew ?_ | refine Below.alloc ?_ (by first | (simp; done) | (simp; omega) | omega) _))) (hb8.mono (by first | (simp; done) | (simp; omega) | omega)); have hz2 := hB2.size; clear hb8) | (go_at_call 37; refine (HCall.out _ _ _ _ (by first | exact heap_alloc_new _ _ | exact alloc_old _ _ _ | exact alloc_two _ _ _) (by omega) (by omega) (by (repeat (first | assumption | exact Below.refl _ _ | refine Below.drew ?_ | refine Below.alloc ?_ (by first | (simp; done) | (simp; omega) | omega) _)))).mono ?_; rintro e w3 ⟨v3, rfl, hO, hb9⟩; have hB3 : Below W.heap.size W w3 := Below.trans (by (repeat (first | assumption | exact Below.refl _ _ | refine Below.drew ?_ | refine Below.alloc ?_ (by first | (simp; done) | (simp; omega) | omega) _))) (hb9.mono (by first | (simp; done) | (simp; omega) | omega)); have hO3 : Own LSection.rec 34 w3 W.heap.size v3 (z0.take k ++ z0.drop E) := hO.low (by first | (simp; done) | (simp; omega) | omega); clear hO hb9) | fail)
    all_goals
      have HO := Lib.hid (show Own LSection.rec 34 w3 w.heap.size v3 (z0.take k ++ z0.drop E) from hO3.low hb1.size)
      have hb5 := hb1.trans (hB3.mono hb1.size)
      clear hO3 hB3 HK HCall HU2
      go_wp2_with fail
      all_goals
        go_ret2
        exact ⟨_, _, true, rfl, HA.out, HO.out, hb5⟩
end Go.Proofs.Ytmpolpeomabcfaa.CutSectionC
