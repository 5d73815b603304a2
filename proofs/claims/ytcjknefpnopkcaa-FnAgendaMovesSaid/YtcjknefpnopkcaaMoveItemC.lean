/- MoveItem, model and program: what both answer. -/
import Derived.Test.YtcjknefpnopkcaaAgI
import Derived.Test.YtcjknefpnopkcaaAppN
import Derived.Test.YtcjknefpnopkcaaLAgendaItemKconcat
import Derived.Test.YtcjknefpnopkcaaLAgendaItemKinsert
import Derived.BigQuiet
namespace Go.Proofs.Ytcjknefpnopkcaa.MoveItemC
open Go.RowKit Bs Word Ag AgF Sq
set_option linter.unusedVariables false
/-- the list without place k, the item there put in at place t -/
def oth (z : List M) (k : Nat) : List M := z.take k ++ z.drop (k + 1)
def mvd (z : List M) (k : Nat) (X : M) (t : Nat) : List M := (oth z k).take t ++ X :: (oth z k).drop t
def at_ (z : List M) (t : Nat) : Option Nat → List M × Bool
  | some k => (match z[k]? with | some X => (mvd z k X t, true) | none => ([], false))
  | none => ([], false)
noncomputable def mA (z : List M) (id tq : Int) : List M × Bool := if (goodB z && inB tq 0 ((z.length : Int) - 1)) = true then at_ z tq.toNat (idx z id) else ([], false)
theorem m_bad {z : List M} {id tq : Int} (h : goodB z = false) : mA z id tq = ([], false) := by unfold mA; rw [h]; rfl
theorem m_out {z : List M} {id tq : Int} (h : inB tq 0 ((z.length : Int) - 1) = false) : mA z id tq = ([], false) := by unfold mA; rw [h, Bool.and_false]; rfl
theorem m_none {z : List M} {id tq : Int} (h : idx z id = none) : mA z id tq = ([], false) := by unfold mA; rw [h]; split <;> rfl
theorem m_yes {z : List M} {id : Int} {k t : Nat} {X : M} (hg : goodB z = true) (ht : inB (t : Int) 0 ((z.length : Int) - 1) = true) (h : idx z id = some k) (hx : z[k]? = some X) : mA z id (t : Int) = (mvd z k X t, true) := by
  unfold mA; rw [h, hg, ht]; simp [at_, hx]
theorem oth_len {z : List M} {k : Nat} (h : k < z.length) : (oth z k).length = z.length - 1 := by unfold oth; simp; omega
theorem mvd_len {z : List M} {k t : Nat} {X : M} (h : k < z.length) : (mvd z k X t).length = z.length := by
  have := oth_len h
  unfold mvd; simp; omega
def Ans (z0 : List LAgendaItem.R) (a1 a2 : Int) (r0 : List LAgendaItem.R) (r1 : Bool) : Prop := mA z0 a1 a2 = (r0, r1)
theorem same {z0 : List LAgendaItem.R} {a1 a2 : Int} {r0 s0 : List LAgendaItem.R} {r1 s1 : Bool} (h : Ans z0 a1 a2 r0 r1) (h' : Ans z0 a1 a2 s0 s1) : r0 = s0 ∧ r1 = s1 := by
  have := h.symm.trans h'; simp only [Prod.mk.injEq] at this; exact this
theorem len0 {z0 : List LAgendaItem.R} {a1 a2 : Int} {r0 : List LAgendaItem.R} {r1 : Bool} (h : Ans z0 a1 a2 r0 r1) : r0.length ≤ 1048576 := by
  unfold Ans mA at h
  split at h
  · rename_i hg
    rw [Bool.and_eq_true] at hg
    have h10 := good_len hg.1
    cases hi : idx z0 a1 with
    | none => rw [hi] at h; simp only [at_, Prod.mk.injEq] at h; rw [← h.1]; simp
    | some k =>
      rw [hi] at h
      obtain ⟨X, hX, _⟩ := idx_some hi
      simp only [at_, hX, Prod.mk.injEq] at h
      rw [← h.1, mvd_len (List.getElem?_eq_some_iff.1 hX).1]
      omega
  · simp only [Prod.mk.injEq] at h; rw [← h.1]; simp
def Post (z0 : List LAgendaItem.R) (a1 a2 : Int) (w : World) (e : Ending) (w' : World) : Prop :=
  ∃ v0 r0 r1, e = .returned (.tuple #[v0, .bool r1]) ∧ Ans z0 a1 a2 r0 r1 ∧ Own LAgendaItem.rec 61 w' w.heap.size v0 r0 ∧ Below w.heap.size w w'
set_option maxRecDepth 100000 in
set_option maxHeartbeats 3200000 in
theorem spec (v0 : Value) (z0 : List LAgendaItem.R) (a1 a2 : Int) (w : World) (h0 : IsS LAgendaItem.rec w v0 z0) (f0 : ∀ x ∈ z0, LAgendaItem.Fine x) (l0 : z0.length ≤ 1048576) :
    Calls Try.prog 42 #[v0, .int .i64 a1, .int .i64 a2] w (Post z0 a1 a2 w) := by
  have h1 := IsS.is LAgendaItem.rec h0
  have HF := Lib.hid (l5Find v0 z0 a1 w h1)
  have HG := Lib.hid (AgG.l5Good v0 z0 w h1 f0)
  have hS := h0
  obtain ⟨b, o, cp, rfl, hbl, hxc, hcm, hcell⟩ := h0
  have HIS := Lib.hid hS
  obtain ⟨n, hn⟩ : ∃ n, n = z0.length := ⟨_, rfl⟩
  have HN := Lib.hid hn.symm
  have HC := Lib.hid hcell
  rw [← hn] at HF HG HIS hxc l0 ⊢
  unfold maxLen at hcm
  have hout : ∀ tq, inB tq 0 ((n : Int) - 1) = false → mA z0 a1 tq = ([], false) := fun tq h => m_out (by rw [← hn]; exact h)
  clear hn hS h1 hcell f0
  obtain ⟨i0, hi, hz0, hz1, hz2⟩ := info_parts LAgendaItem.infoK
  have HI0 := Lib.hid hi
  have HZ0 := Lib.hid (And.intro hz0 (And.intro hz1 hz2))
  clear hi hz0 hz1 hz2
  go_enter Try.func42, Try.ntmps42
  go_wp2_with fail
  refine HF.out.mono ?_
  rintro e w' ⟨rfl, rfl⟩
  cases hg : goodB z0 with
  | false =>
    have HA := Lib.hid (m_bad (id := a1) (tq := a2) hg)
    rw [show AgG.Post z0 w = fun e w' => e = .returned (.bool false) ∧ Below w.heap.size w w' by unfold AgG.Post; rw [hg]] at HG
    clear hg hout
    go_wp2_with fail
    refine HG.out.mono ?_
    rintro e w1 ⟨rfl, hb1⟩
    have hb2 := hb1.alloc hb1.size (Obj.cells #[] 61)
    have HO := Lib.hid (Own.start (T := LAgendaItem.rec) (E := 61) (w := w1) hb1.size)
    go_wp2_with fail
    go_ret2
    exact ⟨_, [], false, rfl, HA.out, HO.out, hb2⟩
  | true =>
    rw [show AgG.Post z0 w = fun e w' => e = .returned (.bool true) ∧ Below w.heap.size w w' by unfold AgG.Post; rw [hg]] at HG
    have h10 : n ≤ 10 := by have := good_len hg; have := HN.out; omega
    have HGd := Lib.hid hg
    clear hg
    have s9 : IntKind.i64.wrap ((n : Int) - 1) = (n : Int) - 1 := IntWalk.i64_in _ (by omega)
    cases hi : idx z0 a1 with
    | none =>
      have HA := Lib.hid (m_none (tq := a2) hi)
      have e1 : ix none = -1 := rfl
      clear hi hout
      go_wp2_with fail
      refine HG.out.mono ?_
      rintro e w1 ⟨rfl, hb1⟩
      have hb2 := hb1.alloc hb1.size (Obj.cells #[] 61)
      have HO := Lib.hid (Own.start (T := LAgendaItem.rec) (E := 61) (w := w1) hb1.size)
      go_wp2_with fail
      go_ret2
      exact ⟨_, [], false, rfl, HA.out, HO.out, hb2⟩
    | some k =>
      obtain ⟨X, hX, _⟩ := idx_some hi
      have hk : k < n := by have := (List.getElem?_eq_some_iff.1 hX).1; have := HN.out; omega
      have HX := Lib.hid hX
      have HI := Lib.hid hi
      clear hX hi
      have e1 : ix (some k) = (k : Int) := rfl
      have k0 : 0 ≤ (k : Int) := by omega
      have k1 : (k : Int) < (n : Int) := by omega
      cases ht : inB a2 0 ((n : Int) - 1) with
      | false =>
        have HA := Lib.hid (hout a2 ht)
        have HL := Lib.hid (fun W => in_as a2 0 ((n : Int) - 1) false ht W)
        clear hout ht
        go_wp2_with fail
        refine HG.out.mono ?_
        rintro e w1 ⟨rfl, hb1⟩
        go_wp2_with fail
        refine (HL.out _).mono ?_
        rintro e _ ⟨rfl, rfl⟩
        have hb2 := hb1.alloc hb1.size (Obj.cells #[] 61)
        have HO := Lib.hid (Own.start (T := LAgendaItem.rec) (E := 61) (w := w1) hb1.size)
        go_wp2_with fail
        go_ret2
        exact ⟨_, [], false, rfl, HA.out, HO.out, hb2⟩
      | true =>
        have HL := Lib.hid (fun W => in_as a2 0 ((n : Int) - 1) true ht W)
        obtain ⟨t0, t1⟩ := inB_yes ht
        obtain ⟨t, rfl⟩ : ∃ t : Nat, a2 = (t : Int) := ⟨a2.toNat, by omega⟩
        have htn : t < n := by omega
        have HA := Lib.hid (m_yes HGd.out (by rw [HN.out]; exact ht) HI.out HX.out)
        clear hout ht
        go_wp2_with fail
        refine HG.out.mono ?_
        rintro e w1 ⟨rfl, hb1⟩
        go_wp2_with fail
        refine (HL.out _).mono ?_
        rintro e _ ⟨rfl, rfl⟩
        go_wp2_with fail
        generalize w1 = W at *
        have s0 : IntKind.i64.wrap ((k : Int) + 1) = (k : Int) + 1 := IntWalk.i64_in _ (by omega)
        have s1 : ((k : Int) + 1).toNat = k + 1 := by omega
        have s2 : 0 ≤ (k : Int) + 1 := by omega
        have s3 : (k : Int) + 1 ≤ (n : Int) := by omega
        have s4 : (n : Int) ≤ (cp : Int) := by omega
        have s5 : (k : Int) ≤ (cp : Int) := by omega
        have s6 : (k : Int) + 1 ≤ (cp : Int) := by omega
        have HS1 := Lib.hid (show ∀ w' : World, Below W.heap.size W w' → ∀ j u, (flat LAgendaItem.rec (z0.take k))[j]? = some u → w'.cell? (Addr.add ⟨b, o, none⟩ j) = some u from fun w' hb =>
          ((HIS.out.below LAgendaItem.rec (hb1.trans (hb.mono hb1.size))).take LAgendaItem.rec (k := k) (by omega)).flatCells LAgendaItem.rec)
        obtain ⟨oD, hoD⟩ : ∃ oD, (if cp = k + 1 then some (⟨b, o, none⟩ : Addr) else some ⟨b, o + (k + 1) * 4, none⟩) = some ⟨b, oD, none⟩ := by
          split
          · exact ⟨_, rfl⟩
          · exact ⟨_, rfl⟩
        have HS2 := Lib.hid (show ∀ w' : World, Below W.heap.size W w' → ∀ j u, (flat LAgendaItem.rec (z0.drop (k + 1)))[j]? = some u → w'.cell? (Addr.add ⟨b, oD, none⟩ j) = some u from fun w' hb =>
          ((HIS.out.below LAgendaItem.rec (hb1.trans (hb.mono hb1.size))).drop LAgendaItem.rec (k := k + 1) (some ⟨b, oD, none⟩) hoD.symm (by omega) _ _ rfl rfl).flatCells LAgendaItem.rec)
        have HK := Lib.hid (show ∀ w' : World, Below W.heap.size W w' → Below W.heap.size W w' from fun w' hb => hb)
        go_cut [9] (fun s9 wx => ∃ (g2 c2 : Nat), s9 = .slice (some ⟨g2, 0, none⟩) (n - 1) c2 ∧ n - 1 ≤ c2 ∧ c2 ≤ maxLen ∧ Hid (Own LAgendaItem.rec 61 wx w.heap.size (.slice (some ⟨g2, 0, none⟩) (n - 1) c2) (oth z0 k)) ∧ Below w.heap.size w wx)
        case first =>
          go_region_held3 (fun w' => Below W.heap.size W w') ((refine HK.out _ ?_; (repeat (first | assumption | exact Below.refl _ _ | refine Below.drew ?_ | refine Below.alloc ?_ (by first | (simp; done) | (simp; omega) | omega) _)))) (first | (refine step_append_nn (by rfl) (.tmp 29) (.tmp 32) 54 (by rfl) W.heap.size 61 i0 (.agg #[.int .i64 0, .string ⟨#[]⟩, .int .i64 0, .int .i64 0]) 4 40 Try.underlying54 HI0.out HZ0.out.1 HZ0.out.2.1 HZ0.out.2.2 rfl (by decide) _ (0) ([]) (by rfl) (by first | exact LAgendaItem.startB (heap_alloc_new _ _) (by first | (simp; done) | (simp; omega) | omega) | exact LAgendaItem.startB (alloc_old _ _ _) (by first | (simp; done) | (simp; omega) | omega) | exact LAgendaItem.startB (alloc_two _ _ _) (by first | (simp; done) | (simp; omega) | omega)) (⟨b, o, none⟩) (k) (cp) (flat LAgendaItem.rec (z0.take k)) (by rfl) (by rw [flat_len, LAgendaItem.rec_n]; rw [List.length_take]; have := HN.out; omega) (fun j u hu => HS1.out _ (by (repeat (first | assumption | exact Below.refl _ _ | refine Below.drew ?_ | refine Below.alloc ?_ (by first | (simp; done) | (simp; omega) | omega) _))) j u hu) (flat_one _ _) (by unfold maxLen; omega) (by omega) (by first | (simp; done) | (simp; omega) | omega) (by show Value.slice (some ⟨_, _, _⟩) 0 0 ≠ Value.slice none 0 0; simp) ?_; intro v1 w1 hown1 hgrow1 hnn1; replace hown1 := own_in hown1; have hB1 : Below W.heap.size W w1 := Below.grown (by (repeat (first | assumption | exact Below.refl _ _ | refine Below.drew ?_ | refine Below.alloc ?_ (by first | (simp; done) | (simp; omega) | omega) _))) hgrow1 (by first | (simp; done) | (simp; omega) | omega) (fun j hj => own_ge hj (by simp)); have hz1 := hB1.size; clear hgrow1) | (refine step_append_nn (by rfl) (.tmp 33) (.tmp 37) 54 (by rfl) W.heap.size 61 i0 (.agg #[.int .i64 0, .string ⟨#[]⟩, .int .i64 0, .int .i64 0]) 4 40 Try.underlying54 HI0.out HZ0.out.1 HZ0.out.2.1 HZ0.out.2.2 rfl (by decide) v1 (k) ((flat LAgendaItem.rec (z0.take k))) (by rfl) (by first | exact hown1 | exact hown1.alloc _) (⟨b, oD, none⟩) (n - (k + 1)) (cp - (k + 1)) (flat LAgendaItem.rec (z0.drop (k + 1))) (by rfl) (by rw [flat_len, LAgendaItem.rec_n]; rw [List.length_drop]; have := HN.out; omega) (fun j u hu => HS2.out _ (by (repeat (first | assumption | exact Below.refl _ _ | refine Below.drew ?_ | refine Below.alloc ?_ (by first | (simp; done) | (simp; omega) | omega) _))) j u hu) (flat_one _ _) (by unfold maxLen; omega) (by omega) (by first | (simp; done) | (simp; omega) | omega) hnn1 ?_; intro v2 w2 hown2 hgrow2 hnn2; have hB2 : Below W.heap.size W w2 := Below.grown (by (repeat (first | assumption | exact Below.refl _ _ | refine Below.drew ?_ | refine Below.alloc ?_ (by first | (simp; done) | (simp; omega) | omega) _))) hgrow2 (by first | (simp; done) | (simp; omega) | omega) (fun j hj => (hown1.lt j hj).1); have hz2 := hB2.size; clear hgrow2) | fail)
          all_goals
            have hOr := Own.low (own_of LAgendaItem.rec (xs := oth z0 k) hown2 (by unfold oth; have := HN.out; simp; omega) (by unfold oth; rw [flat_append])) hb1.size
            obtain ⟨g2, c2, rfl, hg2, hg2l, hc2, hc2m⟩ := hOr.some_shape hnn2
            have HR := Lib.hid hOr
            have hb5 := hb1.trans (hB2.mono hb1.size)
            have hrl : (oth z0 k).length = n - 1 := by rw [oth_len (by have := HN.out; omega), HN.out]
            rw [hrl] at HR hc2 ⊢
            clear hown1 hown2 hB1 hB2 hz1 hz2 HK HS1 HS2 s0 s1 s2 hOr hnn1 hnn2
            go_wp2_with fail
            all_goals
              go_meet
              exact ⟨g2, c2, rfl, hc2, hc2m, HR, hb5⟩
        case rest =>
          obtain ⟨g2, c2, rfl, hc2, hc2m, HR, hb5⟩ := hcut
          clear HK HS1 HS2 hoD s0 s1 s2 s3 s4 s5 s6
          have HRL := Lib.hid (show (oth z0 k).length = n - 1 by rw [oth_len (by have := HN.out; omega), HN.out])
          have hc2b := hc2m
          unfold maxLen at hc2b
          go_wp2_with fail
          generalize hR : oth z0 k = R at *
          generalize wc = V at *
          have u1 : (t : Int) ≤ ((n - 1 : Nat) : Int) := by omega
          have u2 : (t : Int) ≤ (c2 : Int) := by omega
          have u3 : 0 ≤ (t : Int) := by omega
          have u4 : ((n - 1 : Nat) : Int) ≤ (c2 : Int) := by omega
          have HIR := Lib.hid (show ∀ w' : World, Below V.heap.size V w' → IsS LAgendaItem.rec w' (.slice (some ⟨g2, 0, none⟩) (n - 1) c2) R from fun w' hb => (HR.out.isS ⟨g2, rfl⟩).below LAgendaItem.rec hb)
          have HT1 := Lib.hid (show ∀ w' : World, Below V.heap.size V w' → ∀ j u, (flat LAgendaItem.rec (R.take t))[j]? = some u → w'.cell? (Addr.add ⟨g2, 0, none⟩ j) = some u from fun w' hb =>
            ((HIR.out w' hb).take LAgendaItem.rec (k := t) (by omega)).flatCells LAgendaItem.rec)
          obtain ⟨oE, hoE⟩ : ∃ oE, (if c2 = t then some (⟨g2, 0, none⟩ : Addr) else some ⟨g2, t * 4, none⟩) = some ⟨g2, oE, none⟩ := by
            split
            · exact ⟨_, rfl⟩
            · exact ⟨_, rfl⟩
          have HT2 := Lib.hid (show ∀ w' : World, Below V.heap.size V w' → ∀ j u, (flat LAgendaItem.rec (R.drop t))[j]? = some u → w'.cell? (Addr.add ⟨g2, oE, none⟩ j) = some u from fun w' hb =>
            ((HIR.out w' hb).drop LAgendaItem.rec (k := t) (some ⟨g2, oE, none⟩) (by rw [Nat.zero_add]; exact hoE.symm) (by omega) _ _ rfl rfl).flatCells LAgendaItem.rec)
          have HK := Lib.hid (show ∀ w' : World, Below V.heap.size V w' → Below V.heap.size V w' ∧ w'.cell? ⟨b, o + k * 4, none⟩ = some (.int .i64 X.id) ∧ w'.cell? ⟨b, o + k * 4 + 1, none⟩ = some (.string X.title) ∧ w'.cell? ⟨b, o + k * 4 + 2, none⟩ = some (.int .i64 X.mins) ∧ w'.cell? ⟨b, o + k * 4 + 3, none⟩ = some (.int .i64 X.time) from fun w' hb => by
            obtain ⟨q0, q1, q2, q3⟩ := LAgendaItem.cells ((HC.out k X HX.out).below LAgendaItem.rec (hb5.trans (hb.mono hb5.size)) hbl)
            exact ⟨hb, q0, q1, q2, q3⟩)
          go_region_held3 (fun w' => Below V.heap.size V w' ∧ w'.cell? ⟨b, o + k * 4, none⟩ = some (.int .i64 X.id) ∧ w'.cell? ⟨b, o + k * 4 + 1, none⟩ = some (.string X.title) ∧ w'.cell? ⟨b, o + k * 4 + 2, none⟩ = some (.int .i64 X.mins) ∧ w'.cell? ⟨b, o + k * 4 + 3, none⟩ = some (.int .i64 X.time)) ((refine HK.out _ ?_; (repeat (first | assumption | exact Below.refl _ _ | refine Below.drew ?_ | refine Below.alloc ?_ (by first | (simp; done) | (simp; omega) | omega) _)))) (first | (refine step_append (by rfl) (.tmp 39) (.tmp 42) 54 (by rfl) V.heap.size 61 i0 (.agg #[.int .i64 0, .string ⟨#[]⟩, .int .i64 0, .int .i64 0]) 4 40 Try.underlying54 HI0.out HZ0.out.1 HZ0.out.2.1 HZ0.out.2.2 rfl (by decide) _ (0) ([]) (by rfl) (by first | exact LAgendaItem.startB (heap_alloc_new _ _) (by first | (simp; done) | (simp; omega) | omega) | exact LAgendaItem.startB (alloc_old _ _ _) (by first | (simp; done) | (simp; omega) | omega) | exact LAgendaItem.startB (alloc_two _ _ _) (by first | (simp; done) | (simp; omega) | omega)) (⟨g2, 0, none⟩) (t) (c2) (flat LAgendaItem.rec (R.take t)) (by rfl) (by rw [flat_len, LAgendaItem.rec_n]; rw [List.length_take]; have := HRL.out; omega) (fun j u hu => HT1.out _ (by (repeat (first | assumption | exact Below.refl _ _ | refine Below.drew ?_ | refine Below.alloc ?_ (by first | (simp; done) | (simp; omega) | omega) _))) j u hu) (flat_one _ _) (by unfold maxLen; omega) (by omega) (by first | (simp; done) | (simp; omega) | omega) ?_; intro v1 w1 hown1 hgrow1; replace hown1 := own_in hown1; have hB1 : Below V.heap.size V w1 := Below.grown (by (repeat (first | assumption | exact Below.refl _ _ | refine Below.drew ?_ | refine Below.alloc ?_ (by first | (simp; done) | (simp; omega) | omega) _))) hgrow1 (by first | (simp; done) | (simp; omega) | omega) (fun j hj => own_ge hj (by simp)); have hz1 := hB1.size; (first | have hr1 : w1.heap[V.heap.size]? = some (Obj.cells #[.int .i64 X.id, .string X.title, .int .i64 X.mins, .int .i64 X.time] 61) := (hgrow1.block _ (by simp; omega) (show some V.heap.size ≠ some (V.heap.size + 1) from fun e => absurd (Option.some.inj e) (by omega))).trans (alloc_old _ _ _) | have hr1 : w1.heap[V.heap.size + 1]? = some (Obj.cells #[.int .i64 X.id, .string X.title, .int .i64 X.mins, .int .i64 X.time] 61) := (hgrow1.block _ (by simp) (show some (V.heap.size + 1) ≠ some V.heap.size from fun e => absurd (Option.some.inj e) (by omega))).trans (alloc_two _ _ _) | skip); clear hgrow1) | (refine step_append (by rfl) (.tmp 43) (.tmp 48) 54 (by rfl) V.heap.size 61 i0 (.agg #[.int .i64 0, .string ⟨#[]⟩, .int .i64 0, .int .i64 0]) 4 40 Try.underlying54 HI0.out HZ0.out.1 HZ0.out.2.1 HZ0.out.2.2 rfl (by decide) v1 (t) ((flat LAgendaItem.rec (R.take t))) (by rfl) (by first | exact hown1 | exact hown1.alloc _) _ 1 1 [.int .i64 X.id, .string X.title, .int .i64 X.mins, .int .i64 X.time] (by rfl) (by rfl) (by first | exact World.news_of_block (heap_alloc_new _ _) | exact World.news_of_block hr1) (by intro u hu; simp at hu; rcases hu with rfl | rfl | rfl | rfl <;> rfl) (by unfold maxLen; omega) (by omega) (by first | (simp; done) | (simp; omega) | omega) ?_; intro v2 w2 hown2 hgrow2; have hB2 : Below V.heap.size V w2 := Below.grown (by (repeat (first | assumption | exact Below.refl _ _ | refine Below.drew ?_ | refine Below.alloc ?_ (by first | (simp; done) | (simp; omega) | omega) _))) hgrow2 (by first | (simp; done) | (simp; omega) | omega) (fun j hj => (hown1.lt j hj).1); have hz2 := hB2.size; clear hgrow2) | (refine step_append (by rfl) (.tmp 49) (.tmp 52) 54 (by rfl) V.heap.size 61 i0 (.agg #[.int .i64 0, .string ⟨#[]⟩, .int .i64 0, .int .i64 0]) 4 40 Try.underlying54 HI0.out HZ0.out.1 HZ0.out.2.1 HZ0.out.2.2 rfl (by decide) v2 (t + 1) ((flat LAgendaItem.rec (R.take t)) ++ [.int .i64 X.id, .string X.title, .int .i64 X.mins, .int .i64 X.time]) (by rfl) (by first | exact hown2 | exact hown2.alloc _) (⟨g2, oE, none⟩) (n - 1 - t) (c2 - t) (flat LAgendaItem.rec (R.drop t)) (by rfl) (by rw [flat_len, LAgendaItem.rec_n]; rw [List.length_drop]; have := HRL.out; omega) (fun j u hu => HT2.out _ (by (repeat (first | assumption | exact Below.refl _ _ | refine Below.drew ?_ | refine Below.alloc ?_ (by first | (simp; done) | (simp; omega) | omega) _))) j u hu) (flat_one _ _) (by unfold maxLen; omega) (by omega) (by first | (simp; done) | (simp; omega) | omega) ?_; intro v3 w3 hown3 hgrow3; have hB3 : Below V.heap.size V w3 := Below.grown (by (repeat (first | assumption | exact Below.refl _ _ | refine Below.drew ?_ | refine Below.alloc ?_ (by first | (simp; done) | (simp; omega) | omega) _))) hgrow3 (by first | (simp; done) | (simp; omega) | omega) (fun j hj => (hown2.lt j hj).1); have hz3 := hB3.size; clear hgrow3) | fail)
          all_goals
            have HO := Lib.hid (Own.low (own_of LAgendaItem.rec (xs := mvd z0 k X t) hown3 (by rw [mvd_len (by have := HN.out; omega), HN.out]; omega) (by unfold mvd; rw [hR, flat_ins]; rfl)) hb5.size)
            have hb6 := hb5.trans (hB3.mono hb5.size)
            clear hown1 hown2 hown3 hB1 hB2 hB3 hz1 hz2 hz3 HK HT1 HT2
            go_wp2_with fail
            all_goals
              go_ret2
              exact ⟨_, _, true, rfl, HA.out, HO.out, hb6⟩
set_option maxRecDepth 100000 in
set_option maxHeartbeats 3200000 in
theorem impl (v0 : Value) (z0 : List LAgendaItem.R) (a1 a2 : Int) (w : World) (h0 : IsS LAgendaItem.rec w v0 z0) (f0 : ∀ x ∈ z0, LAgendaItem.Fine x) (l0 : z0.length ≤ 1048576) :
    Calls Try.prog 41 #[v0, .int .i64 a1, .int .i64 a2] w (Post z0 a1 a2 w) := by
  have h1 := IsS.is LAgendaItem.rec h0
  have HV := Lib.hid (AgI.isValidAgenda v0 z0 w h1 f0)
  have HF := Lib.hid (fun W (hW : Below w.heap.size w W) => itemIndex v0 z0 a1 W (h1.below LAgendaItem.rec hW))
  have hS := h0
  obtain ⟨b, o, cp, rfl, hbl, hxc, hcm, hcell⟩ := h0
  have HIS := Lib.hid hS
  obtain ⟨n, hn⟩ : ∃ n, n = z0.length := ⟨_, rfl⟩
  have HN := Lib.hid hn.symm
  have HC := Lib.hid hcell
  rw [← hn] at HF HV HIS hxc l0 ⊢
  unfold maxLen at hcm
  have hout : ∀ tq, inB tq 0 ((n : Int) - 1) = false → mA z0 a1 tq = ([], false) := fun tq h => m_out (by rw [← hn]; exact h)
  have go1 : ∀ g, goodB z0 = g → AgG.Post z0 w = fun e w' => e = .returned (.bool g) ∧ Below w.heap.size w w' := fun g hg => by unfold AgG.Post; rw [hg]
  clear hn hS h1 hcell f0
  cases hg : goodB z0 with
  | false =>
    have HA := Lib.hid (m_bad (id := a1) (tq := a2) hg)
    rw [go1 _ hg] at HV
    clear hg hout go1
    go_enter Try.func41, Try.ntmps41
    go_wp2_with fail
    refine HV.out.mono ?_
    rintro e w1 ⟨rfl, hb1⟩
    have hb2 := hb1.alloc hb1.size (Obj.cells #[] 61)
    have HO := Lib.hid (Own.start (T := LAgendaItem.rec) (E := 61) (w := w1) hb1.size)
    go_wp2_with fail
    go_ret2
    exact ⟨_, [], false, rfl, HA.out, HO.out, hb2⟩
  | true =>
    have h10 : n ≤ 10 := by have := good_len hg; have := HN.out; omega
    rw [go1 _ hg] at HV
    have HGd := Lib.hid hg
    clear hg go1
    by_cases t0 : a2 < 0
    · have HA := Lib.hid (hout a2 (inB_not (fun h => by omega)))
      clear hout
      go_enter Try.func41, Try.ntmps41
      go_wp2_with fail
      refine HV.out.mono ?_
      rintro e w1 ⟨rfl, hb1⟩
      have hb2 := hb1.alloc hb1.size (Obj.cells #[] 61)
      have HO := Lib.hid (Own.start (T := LAgendaItem.rec) (E := 61) (w := w1) hb1.size)
      go_wp2_with fail
      go_ret2
      exact ⟨_, [], false, rfl, HA.out, HO.out, hb2⟩
    · by_cases t1 : (n : Int) ≤ a2
      · have HA := Lib.hid (hout a2 (inB_not (fun h => by omega)))
        clear hout
        go_enter Try.func41, Try.ntmps41
        go_wp2_with fail
        refine HV.out.mono ?_
        rintro e w1 ⟨rfl, hb1⟩
        have hb2 := hb1.alloc hb1.size (Obj.cells #[] 61)
        have HO := Lib.hid (Own.start (T := LAgendaItem.rec) (E := 61) (w := w1) hb1.size)
        go_wp2_with fail
        go_ret2
        exact ⟨_, [], false, rfl, HA.out, HO.out, hb2⟩
      · obtain ⟨t, rfl⟩ : ∃ t : Nat, a2 = (t : Int) := ⟨a2.toNat, by omega⟩
        have htn : t < n := by omega
        clear hout
        cases hi : idx z0 a1 with
        | none =>
          have HA := Lib.hid (m_none (tq := (t : Int)) hi)
          rw [hi] at HF
          have e1 : ix none = -1 := rfl
          clear hi
          go_enter Try.func41, Try.ntmps41
          go_wp2_with fail
          refine HV.out.mono ?_
          rintro e w0 ⟨rfl, hb0⟩
          go_wp2_with fail
          refine (HF.out _ hb0).mono ?_
          rintro e w1 ⟨rfl, hb⟩
          have hb1 := hb0.trans (hb.mono hb0.size)
          have hb2 := hb1.alloc hb1.size (Obj.cells #[] 61)
          have HO := Lib.hid (Own.start (T := LAgendaItem.rec) (E := 61) (w := w1) hb1.size)
          go_wp2_with fail
          go_ret2
          exact ⟨_, [], false, rfl, HA.out, HO.out, hb2⟩
        | some k =>
          obtain ⟨X, hX, _⟩ := idx_some hi
          have hk : k < n := by have := (List.getElem?_eq_some_iff.1 hX).1; have := HN.out; omega
          have HX := Lib.hid hX
          have HA := Lib.hid (m_yes (t := t) HGd.out (by rw [HN.out]; exact inB_mk (by omega) (by omega)) hi hX : mA z0 a1 (t : Int) = (mvd z0 k X t, true))
          rw [hi] at HF
          have e1 : ix (some k) = (k : Int) := rfl
          clear hX hi
          have k0 : 0 ≤ (k : Int) := by omega
          have k1 : (k : Int) < (n : Int) := by omega
          go_enter Try.func41, Try.ntmps41
          go_wp2_with fail
          refine HV.out.mono ?_
          rintro e w0 ⟨rfl, hb0⟩
          go_wp2_with fail
          refine (HF.out _ hb0).mono ?_
          rintro e w1 ⟨rfl, hb⟩
          have hb1 := hb0.trans (hb.mono hb0.size)
          clear hb hb0
          go_wp2_with fail
          generalize w1 = W at *
          have s0 : IntKind.i64.wrap ((k : Int) + 1) = (k : Int) + 1 := IntWalk.i64_in _ (by omega)
          have s1 : ((k : Int) + 1).toNat = k + 1 := by omega
          have s2 : 0 ≤ (k : Int) + 1 := by omega
          have s3 : (k : Int) + 1 ≤ (n : Int) := by omega
          have HK := Lib.hid (show ∀ w' : World, Below W.heap.size W w' → Below W.heap.size W w' from fun w' hb => hb)
          by_cases hck : cp = k + 1
          · subst hck
            have s4 : (n : Int) ≤ (k : Int) + 1 := by omega
            have s5 : (k : Int) ≤ (k : Int) + 1 := by omega
            have s6 : k ≤ k + 1 := by omega
            have HCall := Lib.hid (show ∀ (X : World) (m3 c3 : Nat), X.heap[W.heap.size]? = some (.cells #[.slice (some ⟨b, o, none⟩) k (k + 1), .slice (some ⟨b, o, none⟩) m3 c3] 54) → m3 = n - (k + 1) → c3 = k + 1 - (k + 1) → Below W.heap.size W X → Calls Try.prog 84 #[.slice (some ⟨W.heap.size, 0, none⟩) 2 2] X fun e w' => ∃ v, e = .returned v ∧ Own LAgendaItem.rec 61 w' X.heap.size v (z0.take k ++ z0.drop (k + 1)) ∧ Below X.heap.size X w' from fun X m3 c3 hX hm3 hc3 hb => by
              have hS := HIS.out.below LAgendaItem.rec (hb1.trans (hb.mono hb1.size))
              exact LAgendaItem.concat2 X _ _ _ _ _ (hS.take LAgendaItem.rec (by omega)) (hS.drop LAgendaItem.rec _ (by first | (rw [if_pos rfl]; done) | (rw [if_pos rfl]; rfl)) (by omega) _ _ hm3 hc3) hX (by have := HN.out; simp; omega))
            go_region_held3 (fun w' => Below W.heap.size W w') ((refine HK.out _ ?_; (repeat (first | assumption | exact Below.refl _ _ | refine Below.drew ?_ | refine Below.alloc ?_ (by first | (simp; done) | (simp; omega) | omega) _)))) (first | (go_at_call 84; refine (HCall.out _ _ _ (by first | exact heap_alloc_new _ _ | exact alloc_old _ _ _ | exact alloc_two _ _ _) (by omega) (by omega) (by (repeat (first | assumption | exact Below.refl _ _ | refine Below.drew ?_ | refine Below.alloc ?_ (by first | (simp; done) | (simp; omega) | omega) _)))).mono ?_; rintro e w3 ⟨v3, rfl, hO, hb9⟩; have hB3 : Below W.heap.size W w3 := Below.trans (by (repeat (first | assumption | exact Below.refl _ _ | refine Below.drew ?_ | refine Below.alloc ?_ (by first | (simp; done) | (simp; omega) | omega) _))) (hb9.mono (by first | (simp; done) | (simp; omega) | omega))) | fail)
            all_goals
              have HO3 := Lib.hid (show Own LAgendaItem.rec 61 w3 w.heap.size v3 (oth z0 k) from hO.low (by have := hb1.size; first | (simp; omega) | omega))
              have hb5 := hb1.trans (hB3.mono hb1.size)
              clear hO hB3 hb9 HK HCall s0 s1 s2
              obtain ⟨q0, q1, q2, q3⟩ := LAgendaItem.cells ((HC.out k X HX.out).below LAgendaItem.rec hb5 hbl)
              simp only [LAgendaItem.rec_n] at q0 q1 q2 q3
              have HRL := Lib.hid (show (oth z0 k).length = n - 1 by rw [oth_len (by have := HN.out; omega), HN.out])
              have hb6 := hb5.alloc hb5.size (Obj.cells #[.int .i64 X.id, .string X.title, .int .i64 X.mins, .int .i64 X.time] 61)
              have HINS := Lib.hid (LAgendaItem.insert1 v3 (oth z0 k) X t w3.heap.size (w3.alloc (Obj.cells #[.int .i64 X.id, .string X.title, .int .i64 X.mins, .int .i64 X.time] 61)) (HO3.out.alloc _) (by have := hb5.size; simp; omega) (by rw [HRL.out]; omega) (by rw [HRL.out]; omega) (heap_alloc_new _ _) (fun g hg => by have := (HO3.out.lt g hg).2; omega))
              go_wp2_with fail
              all_goals
                refine HINS.out.mono ?_
                rintro e w4 ⟨v4, rfl, hO4, _, hb7⟩
                have hb8 := hb6.trans hb7
                have HO4 := Lib.hid hO4
                clear hO4 hb7
                go_wp2_with fail
                all_goals
                  go_ret2
                  exact ⟨_, _, true, rfl, HA.out, HO4.out, hb8⟩
          · have HCK := Lib.hid hck
            have s4 : (n : Int) ≤ (cp : Int) := by omega
            have s5 : (k : Int) ≤ (cp : Int) := by omega
            have s6 : (k : Int) + 1 ≤ (cp : Int) := by omega
            have HCall := Lib.hid (show ∀ (X : World) (m3 c3 : Nat), X.heap[W.heap.size]? = some (.cells #[.slice (some ⟨b, o, none⟩) k (cp), .slice (some ⟨b, o + (k + 1) * 4, none⟩) m3 c3] 54) → m3 = n - (k + 1) → c3 = cp - (k + 1) → Below W.heap.size W X → Calls Try.prog 84 #[.slice (some ⟨W.heap.size, 0, none⟩) 2 2] X fun e w' => ∃ v, e = .returned v ∧ Own LAgendaItem.rec 61 w' X.heap.size v (z0.take k ++ z0.drop (k + 1)) ∧ Below X.heap.size X w' from fun X m3 c3 hX hm3 hc3 hb => by
              have hS := HIS.out.below LAgendaItem.rec (hb1.trans (hb.mono hb1.size))
              exact LAgendaItem.concat2 X _ _ _ _ _ (hS.take LAgendaItem.rec (by omega)) (hS.drop LAgendaItem.rec _ (by first | (rw [if_neg HCK.out]; done) | (rw [if_neg HCK.out]; rfl)) (by omega) _ _ hm3 hc3) hX (by have := HN.out; simp; omega))
            go_region_held3 (fun w' => Below W.heap.size W w') ((refine HK.out _ ?_; (repeat (first | assumption | exact Below.refl _ _ | refine Below.drew ?_ | refine Below.alloc ?_ (by first | (simp; done) | (simp; omega) | omega) _)))) (first | (go_at_call 84; refine (HCall.out _ _ _ (by first | exact heap_alloc_new _ _ | exact alloc_old _ _ _ | exact alloc_two _ _ _) (by omega) (by omega) (by (repeat (first | assumption | exact Below.refl _ _ | refine Below.drew ?_ | refine Below.alloc ?_ (by first | (simp; done) | (simp; omega) | omega) _)))).mono ?_; rintro e w3 ⟨v3, rfl, hO, hb9⟩; have hB3 : Below W.heap.size W w3 := Below.trans (by (repeat (first | assumption | exact Below.refl _ _ | refine Below.drew ?_ | refine Below.alloc ?_ (by first | (simp; done) | (simp; omega) | omega) _))) (hb9.mono (by first | (simp; done) | (simp; omega) | omega))) | fail)
            all_goals
              have HO3 := Lib.hid (show Own LAgendaItem.rec 61 w3 w.heap.size v3 (oth z0 k) from hO.low (by have := hb1.size; first | (simp; omega) | omega))
              have hb5 := hb1.trans (hB3.mono hb1.size)
              clear hO hB3 hb9 HK HCall s0 s1 s2
              obtain ⟨q0, q1, q2, q3⟩ := LAgendaItem.cells ((HC.out k X HX.out).below LAgendaItem.rec hb5 hbl)
              simp only [LAgendaItem.rec_n] at q0 q1 q2 q3
              have HRL := Lib.hid (show (oth z0 k).length = n - 1 by rw [oth_len (by have := HN.out; omega), HN.out])
              have hb6 := hb5.alloc hb5.size (Obj.cells #[.int .i64 X.id, .string X.title, .int .i64 X.mins, .int .i64 X.time] 61)
              have HINS := Lib.hid (LAgendaItem.insert1 v3 (oth z0 k) X t w3.heap.size (w3.alloc (Obj.cells #[.int .i64 X.id, .string X.title, .int .i64 X.mins, .int .i64 X.time] 61)) (HO3.out.alloc _) (by have := hb5.size; simp; omega) (by rw [HRL.out]; omega) (by rw [HRL.out]; omega) (heap_alloc_new _ _) (fun g hg => by have := (HO3.out.lt g hg).2; omega))
              go_wp2_with fail
              all_goals
                refine HINS.out.mono ?_
                rintro e w4 ⟨v4, rfl, hO4, _, hb7⟩
                have hb8 := hb6.trans hb7
                have HO4 := Lib.hid hO4
                clear hO4 hb7
                go_wp2_with fail
                all_goals
                  go_ret2
                  exact ⟨_, _, true, rfl, HA.out, HO4.out, hb8⟩
end Go.Proofs.Ytcjknefpnopkcaa.MoveItemC
