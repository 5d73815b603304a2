/- ExpelMember, model and program. No condition but that names are no longer than strings can be. -/
import Derived.Test.YtneecokjhmnagaaDoorMemF
import Derived.Test.YtneecokjhmnagaaDoorJ1
import Derived.BigQuiet
namespace Go.Proofs.YtneecokjhmnagaaDoor.ExpelMemberC
open Go.RowKit Bs Word Mem MemF Sq
set_option linter.unusedVariables false
abbrev TI : TypeId := 60
/-- the list without place k, unless the chair stands there -/
def at_ (z : List M) : Option Nat → List M × Bool
  | some k => if (z[k]?.map fun X => X.off == 1) = some false then (z.take k ++ z.drop (k + 1), true) else ([], false)
  | none => ([], false)
noncomputable def expA (z : List M) (n : Int) : List M × Bool := if goodB z = true then at_ z (idx z n) else ([], false)
theorem exp_bad {z : List M} {n : Int} (h : goodB z = false) : expA z n = ([], false) := by unfold expA; rw [h]; rfl
theorem exp_none {z : List M} {n : Int} (h : idx z n = none) : expA z n = ([], false) := by unfold expA; rw [h]; split <;> rfl
theorem exp_chair {z : List M} {n : Int} {k : Nat} {X : M} (h : idx z n = some k) (hx : z[k]? = some X) (hc : (X.off == 1) = true) : expA z n = ([], false) := by
  unfold expA; rw [h]; simp [at_, hx, hc]
theorem exp_yes {z : List M} {n : Int} {k : Nat} {X : M} (hg : goodB z = true) (h : idx z n = some k) (hx : z[k]? = some X) (hc : (X.off == 1) = false) : expA z n = (z.take k ++ z.drop (k + 1), true) := by
  unfold expA; rw [h, if_pos hg]; simp [at_, hx, hc]
def Ans (z0 : List LMember.R) (a1 : Int) (r0 : List LMember.R) (r1 : Bool) : Prop := expA z0 a1 = (r0, r1)
theorem same {z0 : List LMember.R} {a1 : Int} {r0 s0 : List LMember.R} {r1 s1 : Bool} (h : Ans z0 a1 r0 r1) (h' : Ans z0 a1 s0 s1) : r0 = s0 ∧ r1 = s1 := by
  have := h.symm.trans h'; simp only [Prod.mk.injEq] at this; exact this
theorem len0 {z0 : List LMember.R} {a1 : Int} {r0 : List LMember.R} {r1 : Bool} (h : Ans z0 a1 r0 r1) : r0.length ≤ 1048576 := by
  unfold Ans expA at h
  split at h
  · rename_i hg
    have h12 := (good_of hg).1
    unfold at_ at h
    split at h
    · split at h
      · simp only [Prod.mk.injEq] at h; rw [← h.1]; simp; omega
      · simp only [Prod.mk.injEq] at h; rw [← h.1]; simp
    · simp only [Prod.mk.injEq] at h; rw [← h.1]; simp
  · simp only [Prod.mk.injEq] at h; rw [← h.1]; simp
def Post (z0 : List LMember.R) (a1 : Int) (w : World) (e : Ending) (w' : World) : Prop :=
  ∃ v0 r0 r1, e = .returned (.tuple #[v0, .bool r1]) ∧ Ans z0 a1 r0 r1 ∧ Own LMember.rec TI w' w.heap.size v0 r0 ∧ Below w.heap.size w w'
set_option maxRecDepth 100000 in
set_option maxHeartbeats 1600000 in
theorem spec (v0 : Value) (z0 : List LMember.R) (a1 : Int) (w : World) (h0 : IsS LMember.rec w v0 z0) (f0 : ∀ x ∈ z0, LMember.Fine x) (l0 : z0.length ≤ 1048576) :
    Calls Tryd.prog 13 #[v0, .int .i64 a1] w (Post z0 a1 w) := by
  have h1 := IsS.is LMember.rec h0
  have HF := Lib.hid (l3Find v0 z0 a1 w h1)
  have HG := Lib.hid (MemG.l3Good v0 z0 w h1 f0)
  have hS := h0
  obtain ⟨b, o, cp, rfl, hbl, hxc, hcm, hcell⟩ := h0
  have HIS := Lib.hid hS
  obtain ⟨n, hn⟩ : ∃ n, n = z0.length := ⟨_, rfl⟩
  have HN := Lib.hid hn.symm
  have HC := Lib.hid hcell
  rw [← hn] at HF HG HIS hxc l0 ⊢
  unfold maxLen at hcm
  clear hn hS h1 hcell f0
  obtain ⟨i0, hi, hz0, hz1, hz2⟩ := info_parts LMember.infoK
  have HI0 := Lib.hid hi
  have HZ0 := Lib.hid (And.intro hz0 (And.intro hz1 hz2))
  clear hi hz0 hz1 hz2
  go_enter Tryd.func13, Tryd.ntmps13
  go_wp2_with fail
  refine HF.out.mono ?_
  rintro e w' ⟨rfl, rfl⟩
  cases hg : goodB z0 with
  | false =>
    have HA := Lib.hid (exp_bad (n := a1) hg)
    rw [show MemG.Post z0 w = fun e w' => e = .returned (.bool false) ∧ Below w.heap.size w w' by unfold MemG.Post; rw [hg]] at HG
    clear hg
    go_wp2_with fail
    refine HG.out.mono ?_
    rintro e w1 ⟨rfl, hb1⟩
    have hb2 := hb1.alloc hb1.size (Obj.cells #[] 60)
    have HO := Lib.hid (Own.start (T := LMember.rec) (E := 60) (w := w1) hb1.size)
    go_wp2_with fail
    go_ret2
    exact ⟨_, [], false, rfl, HA.out, HO.out, hb2⟩
  | true =>
    rw [show MemG.Post z0 w = fun e w' => e = .returned (.bool true) ∧ Below w.heap.size w w' by unfold MemG.Post; rw [hg]] at HG
    have h12 : n ≤ 12 := by have := (good_of hg).1; have := HN.out; omega
    have HGd := Lib.hid hg
    clear hg
    cases hi : idx z0 a1 with
    | none =>
      have HA := Lib.hid (exp_none hi)
      have e1 : ix none = -1 := rfl
      clear hi
      go_wp2_with fail
      refine HG.out.mono ?_
      rintro e w1 ⟨rfl, hb1⟩
      have hb2 := hb1.alloc hb1.size (Obj.cells #[] 60)
      have HO := Lib.hid (Own.start (T := LMember.rec) (E := 60) (w := w1) hb1.size)
      go_wp2_with fail
      go_ret2
      exact ⟨_, [], false, rfl, HA.out, HO.out, hb2⟩
    | some k =>
      obtain ⟨X, hX, _⟩ := idx_some hi
      have hk : k < n := by have := (List.getElem?_eq_some_iff.1 hX).1; have := HN.out; omega
      have HX := Lib.hid hX
      have HI := Lib.hid hi
      clear hX hi
      have e1 : ix (some k) = (k : Int) := rfl
      have k0 : 0 ≤ (k : Int) := by omega
      have k1 : (k : Int) < (n : Int) := by omega
      go_wp2_with fail
      refine HG.out.mono ?_
      rintro e w1 ⟨rfl, hb1⟩
      obtain ⟨q0, q1, q2⟩ := LMember.cells ((HC.out k X HX.out).below LMember.rec hb1 hbl)
      simp only [LMember.rec_n] at q0 q1 q2
      cases hc : (X.off == 1) with
      | true =>
        have HA := Lib.hid (exp_chair HI.out HX.out hc)
        have hb2 := hb1.alloc hb1.size (Obj.cells #[] 60)
        have HO := Lib.hid (Own.start (T := LMember.rec) (E := 60) (w := w1) hb1.size)
        go_wp2_with fail
        go_ret2
        exact ⟨_, [], false, rfl, HA.out, HO.out, hb2⟩
      | false =>
        have HA := Lib.hid (exp_yes HGd.out HI.out HX.out hc)
        go_wp2_with fail
        clear q0 q1 q2 hc
        generalize w1 = W at *
        have s0 : IntKind.i64.wrap ((k : Int) + 1) = (k : Int) + 1 := IntWalk.i64_in _ (by omega)
        have s1 : ((k : Int) + 1).toNat = k + 1 := by omega
        have s2 : 0 ≤ (k : Int) + 1 := by omega
        have s3 : (k : Int) + 1 ≤ (n : Int) := by omega
        have s4 : (n : Int) ≤ (cp : Int) := by omega
        have s5 : (k : Int) ≤ (cp : Int) := by omega
        have s6 : (k : Int) + 1 ≤ (cp : Int) := by omega
        have HS1 := Lib.hid (show ∀ w' : World, Below W.heap.size W w' → ∀ j u, (flat LMember.rec (z0.take k))[j]? = some u → w'.cell? (Addr.add ⟨b, o, none⟩ j) = some u from fun w' hb =>
          ((HIS.out.below LMember.rec (hb1.trans (hb.mono hb1.size))).take LMember.rec (k := k) (by omega)).flatCells LMember.rec)
        have HS2 := Lib.hid (show ∀ w' : World, Below W.heap.size W w' → ∀ j u, (flat LMember.rec (z0.drop (k + 1)))[j]? = some u → w'.cell? (Addr.add (if cp = k + 1 then ⟨b, o, none⟩ else ⟨b, o + (k + 1) * 3, none⟩) j) = some u from fun w' hb => by
          have h := (HIS.out.below LMember.rec (hb1.trans (hb.mono hb1.size))).drop LMember.rec (k := k + 1) _ rfl (by omega) _ _ rfl rfl
          by_cases hck : cp = k + 1
          · simp only [if_pos hck] at h ⊢; exact h.flatCells LMember.rec
          · simp only [if_neg hck] at h ⊢; exact h.flatCells LMember.rec)
        have HK := Lib.hid (show ∀ w' : World, Below W.heap.size W w' → Below W.heap.size W w' from fun w' hb => hb)
        go_region_held3 (fun w' => Below W.heap.size W w') ((refine HK.out _ ?_; (repeat (first | assumption | exact Below.refl _ _ | refine Below.drew ?_ | refine Below.alloc ?_ (by first | (simp; done) | (simp; omega) | omega) _)))) (first | (refine step_append (by rfl) (.tmp 26) (.tmp 29) 24 (by rfl) W.heap.size 60 i0 (.agg #[.int .i64 0, .string ⟨#[]⟩, .int .i64 0]) 3 32 Tryd.underlying24 HI0.out HZ0.out.1 HZ0.out.2.1 HZ0.out.2.2 rfl (by decide) _ (0) ([]) (by rfl) (by first | exact LMember.startB (heap_alloc_new _ _) (by first | (simp; done) | (simp; omega) | omega) | exact LMember.startB (alloc_old _ _ _) (by first | (simp; done) | (simp; omega) | omega) | exact LMember.startB (alloc_two _ _ _) (by first | (simp; done) | (simp; omega) | omega)) (⟨b, o, none⟩) (k) (cp) (flat LMember.rec (z0.take k)) (by rfl) (by rw [flat_len, LMember.rec_n]; rw [List.length_take]; have := HN.out; omega) (fun j u hu => HS1.out _ (by (repeat (first | assumption | exact Below.refl _ _ | refine Below.drew ?_ | refine Below.alloc ?_ (by first | (simp; done) | (simp; omega) | omega) _))) j u hu) (flat_one _ _) (by unfold maxLen; omega) (by omega) (by first | (simp; done) | (simp; omega) | omega) ?_; intro v1 w1 hown1 hgrow1; replace hown1 := own_in hown1; have hB1 : Below W.heap.size W w1 := Below.grown (by (repeat (first | assumption | exact Below.refl _ _ | refine Below.drew ?_ | refine Below.alloc ?_ (by first | (simp; done) | (simp; omega) | omega) _))) hgrow1 (by first | (simp; done) | (simp; omega) | omega) (fun j hj => own_ge hj (by simp)); have hz1 := hB1.size; clear hgrow1) | (refine step_append (by rfl) (.tmp 30) (.tmp 34) 24 (by rfl) W.heap.size 60 i0 (.agg #[.int .i64 0, .string ⟨#[]⟩, .int .i64 0]) 3 32 Tryd.underlying24 HI0.out HZ0.out.1 HZ0.out.2.1 HZ0.out.2.2 rfl (by decide) v1 (k) ((flat LMember.rec (z0.take k))) (by rfl) (by first | exact hown1 | exact hown1.alloc _) (if cp = k + 1 then ⟨b, o, none⟩ else ⟨b, o + (k + 1) * 3, none⟩) (n - (k + 1)) (cp - (k + 1)) (flat LMember.rec (z0.drop (k + 1))) (by exact ite_slice _ _ _ _ _) (by rw [flat_len, LMember.rec_n]; rw [List.length_drop]; have := HN.out; omega) (fun j u hu => HS2.out _ (by (repeat (first | assumption | exact Below.refl _ _ | refine Below.drew ?_ | refine Below.alloc ?_ (by first | (simp; done) | (simp; omega) | omega) _))) j u hu) (flat_one _ _) (by unfold maxLen; omega) (by omega) (by first | (simp; done) | (simp; omega) | omega) ?_; intro v2 w2 hown2 hgrow2; have hB2 : Below W.heap.size W w2 := Below.grown (by (repeat (first | assumption | exact Below.refl _ _ | refine Below.drew ?_ | refine Below.alloc ?_ (by first | (simp; done) | (simp; omega) | omega) _))) hgrow2 (by first | (simp; done) | (simp; omega) | omega) (fun j hj => (hown1.lt j hj).1); have hz2 := hB2.size; clear hgrow2) | fail)
        all_goals
          have HO := Lib.hid (Own.low (own_of LMember.rec (xs := z0.take k ++ z0.drop (k + 1)) hown2 (by have := HN.out; simp; omega) (by rw [flat_append])) hb1.size)
          have hb5 := hb1.trans (hB2.mono hb1.size)
          clear hown1 hown2 hB1 hB2 hz1 hz2 HK HS1 HS2 s0 s1 s2
          go_wp2_with fail
          all_goals
            go_ret2
            exact ⟨_, _, true, rfl, HA.out, HO.out, hb5⟩
set_option maxRecDepth 100000 in
set_option maxHeartbeats 1600000 in
theorem impl (v0 : Value) (z0 : List LMember.R) (a1 : Int) (w : World) (h0 : IsS LMember.rec w v0 z0) (f0 : ∀ x ∈ z0, LMember.Fine x) (l0 : z0.length ≤ 1048576) :
    Calls Tryd.prog 10 #[v0, .int .i64 a1] w (Post z0 a1 w) := by
  have h1 := IsS.is LMember.rec h0
  have HF := Lib.hid (memberAt v0 z0 a1 w h1 f0)
  have hS := h0
  obtain ⟨b, o, cp, rfl, hbl, hxc, hcm, hcell⟩ := h0
  have HIS := Lib.hid hS
  obtain ⟨n, hn⟩ : ∃ n, n = z0.length := ⟨_, rfl⟩
  have HN := Lib.hid hn.symm
  have HC := Lib.hid hcell
  rw [← hn] at HF HIS hxc l0 ⊢
  unfold maxLen at hcm
  clear hn hS h1 hcell f0
  go_enter Tryd.func10, Tryd.ntmps10
  go_wp2_with fail
  refine HF.out.mono ?_
  rintro e w1 ⟨r0, r1, rfl, hA, hb1⟩
  rcases hA with ⟨k, hg, hi, rfl, rfl⟩ | ⟨hno, rfl, rfl⟩
  · obtain ⟨X, hX, _⟩ := idx_some hi
    have hk : k < n := by have := (List.getElem?_eq_some_iff.1 hX).1; have := HN.out; omega
    have h12 : n ≤ 12 := by have := (good_of hg).1; have := HN.out; omega
    have HX := Lib.hid hX
    have HI := Lib.hid hi
    have HGd := Lib.hid hg
    clear hX hi hg
    have k0 : 0 ≤ (k : Int) := by omega
    have k1 : (k : Int) < (n : Int) := by omega
    obtain ⟨q0, q1, q2⟩ := LMember.cells ((HC.out k X HX.out).below LMember.rec hb1 hbl)
    simp only [LMember.rec_n] at q0 q1 q2
    cases hc : (X.off == 1) with
    | true =>
      have HA := Lib.hid (exp_chair HI.out HX.out hc)
      have hb2 := hb1.alloc hb1.size (Obj.cells #[] 60)
      have HO := Lib.hid (Own.start (T := LMember.rec) (E := 60) (w := w1) hb1.size)
      go_wp2_with fail
      go_ret2
      exact ⟨_, [], false, rfl, HA.out, HO.out, hb2⟩
    | false =>
      have HA := Lib.hid (exp_yes HGd.out HI.out HX.out hc)
      go_wp2_with fail
      clear q0 q1 q2 hc
      generalize w1 = W at *
      have s0 : IntKind.i64.wrap ((k : Int) + 1) = (k : Int) + 1 := IntWalk.i64_in _ (by omega)
      have s1 : ((k : Int) + 1).toNat = k + 1 := by omega
      have s2 : 0 ≤ (k : Int) + 1 := by omega
      have s3 : (k : Int) + 1 ≤ (n : Int) := by omega
      have s4 : (n : Int) ≤ (cp : Int) := by omega
      have s5 : (k : Int) ≤ (cp : Int) := by omega
      have s6 : (k : Int) + 1 ≤ (cp : Int) := by omega
      have HK := Lib.hid (show ∀ w' : World, Below W.heap.size W w' → Below W.heap.size W w' from fun w' hb => hb)
      by_cases hck : cp = k + 1
      · subst hck
        clear s4 s5 s6
        have s4 : (n : Int) ≤ (k : Int) + 1 := by omega
        have s5 : (k : Int) ≤ (k : Int) + 1 := by omega
        have s6 : k ≤ k + 1 := by omega
        have HCall := Lib.hid (show ∀ (X : World) (m3 c3 : Nat), X.heap[W.heap.size]? = some (.cells #[.slice (some ⟨b, o, none⟩) k (k + 1), .slice (some ⟨b, o, none⟩) m3 c3] 24) → m3 = n - (k + 1) → c3 = k + 1 - (k + 1) → Below W.heap.size W X → Calls Tryd.prog 33 #[.slice (some ⟨W.heap.size, 0, none⟩) 2 2] X fun e w' => ∃ v, e = .returned v ∧ Own LMember.rec 60 w' X.heap.size v (z0.take k ++ z0.drop (k + 1)) ∧ Below X.heap.size X w' from fun X m3 c3 hX hm3 hc3 hb => by
          have hS := HIS.out.below LMember.rec (hb1.trans (hb.mono hb1.size))
          exact LMember.concat2 X _ _ _ _ _ (hS.take LMember.rec (by omega)) (hS.drop LMember.rec _ (by first | (rw [if_pos rfl]; done) | (rw [if_pos rfl]; rfl)) (by omega) _ _ hm3 hc3) hX (by have := HN.out; simp; omega))
        go_region_held3 (fun w' => Below W.heap.size W w') ((refine HK.out _ ?_; (repeat (first | assumption | exact Below.refl _ _ | refine Below.drew ?_ | refine Below.alloc ?_ (by first | (simp; done) | (simp; omega) | omega) _)))) (first | (go_at_call 33; refine (HCall.out _ _ _ (by first | exact heap_alloc_new _ _ | exact alloc_old _ _ _ | exact alloc_two _ _ _) (by omega) (by omega) (by (repeat (first | assumption | exact Below.refl _ _ | refine Below.drew ?_ | refine Below.alloc ?_ (by first | (simp; done) | (simp; omega) | omega) _)))).mono ?_; rintro e w3 ⟨v3, rfl, hO, hb9⟩; have hB3 : Below W.heap.size W w3 := Below.trans (by (repeat (first | assumption | exact Below.refl _ _ | refine Below.drew ?_ | refine Below.alloc ?_ (by first | (simp; done) | (simp; omega) | omega) _))) (hb9.mono (by first | (simp; done) | (simp; omega) | omega))) | fail)
        all_goals
          have HO := Lib.hid (show Own LMember.rec 60 w3 w.heap.size v3 (z0.take k ++ z0.drop (k + 1)) from hO.low (by have := hb1.size; first | (simp; omega) | omega))
          have hb5 := hb1.trans (hB3.mono hb1.size)
          clear hO hB3 hb9 HK HCall s0 s1 s2
          go_wp2_with fail
          all_goals
            go_ret2
            exact ⟨_, _, true, rfl, HA.out, HO.out, hb5⟩
      · have HCK := Lib.hid hck
        have HCall := Lib.hid (show ∀ (X : World) (m3 c3 : Nat), X.heap[W.heap.size]? = some (.cells #[.slice (some ⟨b, o, none⟩) k (cp), .slice (some ⟨b, o + (k + 1) * 3, none⟩) m3 c3] 24) → m3 = n - (k + 1) → c3 = cp - (k + 1) → Below W.heap.size W X → Calls Tryd.prog 33 #[.slice (some ⟨W.heap.size, 0, none⟩) 2 2] X fun e w' => ∃ v, e = .returned v ∧ Own LMember.rec 60 w' X.heap.size v (z0.take k ++ z0.drop (k + 1)) ∧ Below X.heap.size X w' from fun X m3 c3 hX hm3 hc3 hb => by
          have hS := HIS.out.below LMember.rec (hb1.trans (hb.mono hb1.size))
          exact LMember.concat2 X _ _ _ _ _ (hS.take LMember.rec (by omega)) (hS.drop LMember.rec _ (by first | (rw [if_neg HCK.out]; done) | (rw [if_neg HCK.out]; rfl)) (by omega) _ _ hm3 hc3) hX (by have := HN.out; simp; omega))
        go_region_held3 (fun w' => Below W.heap.size W w') ((refine HK.out _ ?_; (repeat (first | assumption | exact Below.refl _ _ | refine Below.drew ?_ | refine Below.alloc ?_ (by first | (simp; done) | (simp; omega) | omega) _)))) (first | (go_at_call 33; refine (HCall.out _ _ _ (by first | exact heap_alloc_new _ _ | exact alloc_old _ _ _ | exact alloc_two _ _ _) (by omega) (by omega) (by (repeat (first | assumption | exact Below.refl _ _ | refine Below.drew ?_ | refine Below.alloc ?_ (by first | (simp; done) | (simp; omega) | omega) _)))).mono ?_; rintro e w3 ⟨v3, rfl, hO, hb9⟩; have hB3 : Below W.heap.size W w3 := Below.trans (by (repeat (first | assumption | exact Below.refl _ _ | refine Below.drew ?_ | refine Below.alloc ?_ (by first | (simp; done) | (simp; omega) | omega) _))) (hb9.mono (by first | (simp; done) | (simp; omega) | omega))) | fail)
        all_goals
          have HO := Lib.hid (show Own LMember.rec 60 w3 w.heap.size v3 (z0.take k ++ z0.drop (k + 1)) from hO.low (by have := hb1.size; first | (simp; omega) | omega))
          have hb5 := hb1.trans (hB3.mono hb1.size)
          clear hO hB3 hb9 HK HCall s0 s1 s2
          go_wp2_with fail
          all_goals
            go_ret2
            exact ⟨_, _, true, rfl, HA.out, HO.out, hb5⟩
  · have HA := Lib.hid (show Ans z0 a1 [] false from hno.elim exp_bad exp_none)
    have hb2 := hb1.alloc hb1.size (Obj.cells #[] 60)
    have HO := Lib.hid (Own.start (T := LMember.rec) (E := 60) (w := w1) hb1.size)
    clear hno
    go_wp2_with fail
    go_ret2
    exact ⟨_, [], false, rfl, HA.out, HO.out, hb2⟩
end Go.Proofs.YtneecokjhmnagaaDoor.ExpelMemberC
