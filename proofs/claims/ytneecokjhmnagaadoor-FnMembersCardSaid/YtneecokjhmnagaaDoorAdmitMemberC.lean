/- AdmitMember, model and program. No condition but that names are no longer than strings can be. -/
import Derived.Test.YtneecokjhmnagaaDoorMemF
import Derived.Test.YtneecokjhmnagaaDoorJ1
import Derived.BigQuiet
namespace Go.Proofs.YtneecokjhmnagaaDoor.AdmitMemberC
open Go.RowKit Bs Word Mem MemF Sq
set_option linter.unusedVariables false
abbrev TI : TypeId := 60
/-- the first place at which the numbers have a gap -/
def gapN : List M → Nat → Nat
  | [], _ => 0
  | x :: xs, i => if x.num = i + 1 then gapN xs (i + 1) + 1 else 0
theorem gap_of : ∀ (z : List M) (i k : Nat), k ≤ z.length → (∀ (j : Nat) (p : M), j < k → z[j]? = some p → p.num = (i + j : Nat) + 1) → (∀ p : M, z[k]? = some p → p.num ≠ (i + k : Nat) + 1) → gapN z i = k
  | [], i, k, hk, _, _ => by simp at hk; subst hk; rfl
  | x :: xs, i, 0, _, _, h => by
    have := h x rfl
    unfold gapN
    rw [if_neg (by simpa using this)]
  | x :: xs, i, k + 1, hk, hl, h => by
    have h0 := hl 0 x (Nat.succ_pos k) rfl
    have ih := gap_of xs (i + 1) k (by simpa using hk) (fun j p hj hp => by have := hl (j + 1) p (by omega) (by simpa using hp); rw [this]; congr 1; omega) (fun p hp => by have := h p (by simpa using hp); rw [show i + 1 + k = i + (k + 1) by omega]; exact this)
    unfold gapN
    rw [if_pos (by simpa using h0), ih]
def Asc (z : List M) (k : Nat) : Prop := ∀ (j : Nat) (p : M), j < k → z[j]? = some p → p.num = (j : Nat) + 1
theorem asc_next {z : List M} {k : Nat} {X : M} (h : Asc z k) (hx : z[k]? = some X) (hn : X.num = (k : Int) + 1) : Asc z (k + 1) := fun j p hj hp => by
  rcases Nat.lt_or_ge j k with h' | h'
  · exact h j p h' hp
  · obtain rfl : j = k := by omega
    rw [hx] at hp; rw [← Option.some.inj hp]; exact hn
theorem gap_at {z : List M} {k : Nat} (hk : k ≤ z.length) (h : Asc z k) (h2 : ∀ p : M, z[k]? = some p → p.num ≠ (k : Int) + 1) : gapN z 0 = k :=
  gap_of z 0 k hk (fun j p hj hp => by rw [Nat.zero_add]; exact h j p hj hp) (fun p hp => by rw [Nat.zero_add]; exact h2 p hp)
def mem (k : Nat) (s : ByteArray) : M := ⟨(k : Int) + 1, s, 0⟩
def adm (z : List M) (s : ByteArray) : List M := z.take (gapN z 0) ++ [mem (gapN z 0) s] ++ z.drop (gapN z 0)
theorem adm_at {z : List M} {k : Nat} (s : ByteArray) (h : gapN z 0 = k) : adm z s = z.take k ++ [mem k s] ++ z.drop k := by unfold adm; rw [h]
theorem adm_fine {z : List M} {k : Nat} {s : ByteArray} (h : gapN z 0 = k) (hz : ∀ x ∈ z, LMember.Fine x) (hs : s.size ≤ 1048576) : ∀ x ∈ adm z s, LMember.Fine x := by
  intro x hx
  rw [adm_at s h] at hx
  simp only [List.mem_append, List.mem_singleton] at hx
  rcases hx with (hx | hx) | hx
  · exact hz x (List.mem_of_mem_take hx)
  · subst hx; show s.size ≤ maxLen; unfold maxLen; omega
  · exact hz x (List.mem_of_mem_drop hx)
noncomputable def admA (z : List M) (s : ByteArray) : List M × Int × Bool := if goodB z = true then (if goodB (adm z s) = true then (adm z s, (gapN z 0 : Int) + 1, true) else ([], 0, false)) else ([], 0, false)
theorem adm_bad {z : List M} {s : ByteArray} (h : goodB z = false) : admA z s = ([], 0, false) := by unfold admA; rw [h]; rfl
theorem adm_bad2 {z : List M} {s : ByteArray} (h : goodB (adm z s) = false) : admA z s = ([], 0, false) := by unfold admA; rw [h]; split <;> rfl
theorem adm_yes {z : List M} {s : ByteArray} {k : Nat} (h : goodB z = true) (h2 : goodB (adm z s) = true) (hk : gapN z 0 = k) : admA z s = (adm z s, (k : Int) + 1, true) := by unfold admA; rw [h, h2, hk]; rfl
def Ans (z0 : List LMember.R) (a1 : ByteArray) (r0 : List LMember.R) (r1 : Int) (r2 : Bool) : Prop := admA z0 a1 = (r0, r1, r2)
theorem same {z0 : List LMember.R} {a1 : ByteArray} {r0 s0 : List LMember.R} {r1 s1 : Int} {r2 s2 : Bool} (h : Ans z0 a1 r0 r1 r2) (h' : Ans z0 a1 s0 s1 s2) : r0 = s0 ∧ r1 = s1 ∧ r2 = s2 := by
  have := h.symm.trans h'; simp only [Prod.mk.injEq] at this; exact this
theorem len0 {z0 : List LMember.R} {a1 : ByteArray} {r0 : List LMember.R} {r1 : Int} {r2 : Bool} (h : Ans z0 a1 r0 r1 r2) : r0.length ≤ 1048576 := by
  unfold Ans admA at h
  split at h
  · split at h
    · rename_i hg
      have h12 := (good_of hg).1
      simp only [Prod.mk.injEq] at h; rw [← h.1]; omega
    · simp only [Prod.mk.injEq] at h; rw [← h.1]; simp
  · simp only [Prod.mk.injEq] at h; rw [← h.1]; simp
def Post (z0 : List LMember.R) (a1 : ByteArray) (w : World) (e : Ending) (w' : World) : Prop :=
  ∃ v0 r0 r1 r2, e = .returned (.tuple #[v0, .int .i64 r1, .bool r2]) ∧ Ans z0 a1 r0 r1 r2 ∧ Own LMember.rec TI w' w.heap.size v0 r0 ∧ Below w.heap.size w w'
set_option maxRecDepth 100000 in
set_option maxHeartbeats 3200000 in
theorem spec (v0 : Value) (z0 : List LMember.R) (a1 : ByteArray) (w : World) (h0 : IsS LMember.rec w v0 z0) (f0 : ∀ x ∈ z0, LMember.Fine x) (l0 : z0.length ≤ 1048576) (hs1 : a1.size ≤ 1048576) :
    Calls Tryd.prog 8 #[v0, .string a1] w (Post z0 a1 w) := by
  have h1 := IsS.is LMember.rec h0
  have HG := Lib.hid (MemG.l3Good v0 z0 w h1 f0)
  have HF := Lib.hid f0
  have hS := h0
  obtain ⟨b, o, cp, rfl, hbl, hxc, hcm, hcell⟩ := h0
  have HIS := Lib.hid hS
  obtain ⟨n, hn⟩ : ∃ n, n = z0.length := ⟨_, rfl⟩
  have HN := Lib.hid hn.symm
  have HC := Lib.hid hcell
  rw [← hn] at HG HIS hxc l0 ⊢
  unfold maxLen at hcm
  clear hn hS h1 hcell f0
  obtain ⟨i0, hi, hz0, hz1, hz2⟩ := info_parts LMember.infoK
  have HI0 := Lib.hid hi
  have HZ0 := Lib.hid (And.intro hz0 (And.intro hz1 hz2))
  clear hi hz0 hz1 hz2
  go_enter Tryd.func8, Tryd.ntmps8
  go_wp2_with fail
  refine HG.out.mono ?_
  rintro e w1 ⟨rfl, hb1⟩
  cases hg : goodB z0 with
  | false =>
    have HA := Lib.hid (adm_bad (s := a1) hg)
    clear hg
    have HO := Lib.hid (Own.start (T := LMember.rec) (E := 60) (w := w1) hb1.size)
    have hbz := hb1.alloc hb1.size (Obj.cells #[] 60)
    go_wp2_with fail
    go_ret3
    exact ⟨_, [], 0, false, rfl, HA.out, HO.out, hbz⟩
  | true =>
    have h12 : n ≤ 12 := by have := (good_of hg).1; have := HN.out; omega
    have HGd := Lib.hid hg
    clear hg
    go_wp2_with fail
    go_loop [7] (fun i => ∃ k : Nat, k ≤ n ∧ i = .int .i64 k ∧ Hid (Asc z0 k)) (fun i => n - (intOf i).toNat)
    case atStart => exact ⟨0, Nat.zero_le _, rfl, Lib.hid (fun j p hj => by omega)⟩
    case round =>
      obtain ⟨k, hk, rfl, HL⟩ := hrel
      have k0 : 0 ≤ (k : Int) := by omega
      by_cases hlt : k < n
      · have hx : k < z0.length := by have := HN.out; omega
        have HX := Lib.hid (List.getElem?_eq_getElem hx)
        obtain ⟨q0, q1, q2⟩ := LMember.cells ((HC.out k _ HX.out).below LMember.rec hb1 hbl)
        simp only [LMember.rec_n] at q0 q1 q2
        have k1 : (k : Int) < (n : Int) := by omega
        have hd : decide ((k : Int) < (n : Int)) = true := by simp; omega
        generalize z0[k] = X at *
        cases hid : (X.num == (k : Int) + 1) with
        | true =>
          have HL2 := Lib.hid (asc_next HL.out HX.out (by simpa using hid))
          go_wp2_with fail
          go_round
          case rel => exact ⟨k + 1, by omega, by go_num, HL2⟩
          case measure => simp [intOf]; omega
        | false =>
          have HI := Lib.hid (gap_at (by have := HN.out; omega) HL.out (fun p hp => by rw [HX.out] at hp; rw [← Option.some.inj hp]; simpa using hid))
          go_wp2_with fail
          clear q0 q1 q2 hid hd hx HL
          generalize w1 = W at *
          have s1 : (k : Int) ≤ (n : Int) := by omega
          have s2 : (n : Int) ≤ (cp : Int) := by omega
          have s3 : (k : Int) ≤ (cp : Int) := by omega
          have s4 : IntKind.i64.wrap ((k : Int) + 1) = (k : Int) + 1 := IntWalk.i64_in _ (by omega)
          have HS1 := Lib.hid (show ∀ w' : World, Below W.heap.size W w' → ∀ j u, (flat LMember.rec (z0.take k))[j]? = some u → w'.cell? (Addr.add ⟨b, o, none⟩ j) = some u from fun w' hb =>
            ((HIS.out.below LMember.rec (hb1.trans (hb.mono hb1.size))).take LMember.rec (k := k) (by omega)).flatCells LMember.rec)
          have HS2 := Lib.hid (show ∀ w' : World, Below W.heap.size W w' → ∀ j u, (flat LMember.rec (z0.drop k))[j]? = some u → w'.cell? (Addr.add (if cp = k then ⟨b, o, none⟩ else ⟨b, o + k * 3, none⟩) j) = some u from fun w' hb => by
            have h := (HIS.out.below LMember.rec (hb1.trans (hb.mono hb1.size))).drop LMember.rec (k := k) _ rfl (by omega) _ _ rfl rfl
            by_cases hck : cp = k
            · simp only [if_pos hck] at h ⊢; exact h.flatCells LMember.rec
            · simp only [if_neg hck] at h ⊢; exact h.flatCells LMember.rec)
          have HK := Lib.hid (show ∀ w' : World, Below W.heap.size W w' → Below W.heap.size W w' from fun w' hb => hb)
          go_region_held3 (fun w' => Below W.heap.size W w') ((refine HK.out _ ?_; (repeat (first | assumption | exact Below.refl _ _ | refine Below.drew ?_ | refine Below.alloc ?_ (by first | (simp; done) | (simp; omega) | omega) _)))) (first | (refine step_append (by rfl) (.tmp 29) (.tmp 32) 24 (by rfl) W.heap.size 60 i0 (.agg #[.int .i64 0, .string ⟨#[]⟩, .int .i64 0]) 3 32 Tryd.underlying24 HI0.out HZ0.out.1 HZ0.out.2.1 HZ0.out.2.2 rfl (by decide) _ (0) ([]) (by rfl) (by first | exact LMember.startB (heap_alloc_new _ _) (by first | (simp; done) | (simp; omega) | omega) | exact LMember.startB (alloc_old _ _ _) (by first | (simp; done) | (simp; omega) | omega) | exact LMember.startB (alloc_two _ _ _) (by first | (simp; done) | (simp; omega) | omega)) (⟨b, o, none⟩) (k) (cp) (flat LMember.rec (z0.take k)) (by rfl) (by rw [flat_len, LMember.rec_n]; rw [List.length_take]; have := HN.out; omega) (fun j u hu => HS1.out _ (by (repeat (first | assumption | exact Below.refl _ _ | refine Below.drew ?_ | refine Below.alloc ?_ (by first | (simp; done) | (simp; omega) | omega) _))) j u hu) (flat_one _ _) (by unfold maxLen; omega) (by omega) (by first | (simp; done) | (simp; omega) | omega) ?_; intro v1 w1 hown1 hgrow1; replace hown1 := own_in hown1; have hB1 : Below W.heap.size W w1 := Below.grown (by (repeat (first | assumption | exact Below.refl _ _ | refine Below.drew ?_ | refine Below.alloc ?_ (by first | (simp; done) | (simp; omega) | omega) _))) hgrow1 (by first | (simp; done) | (simp; omega) | omega) (fun j hj => own_ge hj (by simp)); have hz1 := hB1.size; (first | have hr1 : w1.heap[W.heap.size]? = some (Obj.cells #[.int .i64 ((k : Int) + 1), .string a1, .int .i64 0] 60) := (hgrow1.block _ (by simp; omega) (show some W.heap.size ≠ some (W.heap.size + 1) from fun e => absurd (Option.some.inj e) (by omega))).trans (alloc_old _ _ _) | have hr1 : w1.heap[W.heap.size + 1]? = some (Obj.cells #[.int .i64 ((k : Int) + 1), .string a1, .int .i64 0] 60) := (hgrow1.block _ (by simp) (show some (W.heap.size + 1) ≠ some W.heap.size from fun e => absurd (Option.some.inj e) (by omega))).trans (alloc_two _ _ _) | skip); clear hgrow1) | (refine step_append (by rfl) (.tmp 33) (.tmp 38) 24 (by rfl) W.heap.size 60 i0 (.agg #[.int .i64 0, .string ⟨#[]⟩, .int .i64 0]) 3 32 Tryd.underlying24 HI0.out HZ0.out.1 HZ0.out.2.1 HZ0.out.2.2 rfl (by decide) v1 (k) ((flat LMember.rec (z0.take k))) (by rfl) (by first | exact hown1 | exact hown1.alloc _) _ 1 1 [.int .i64 ((k : Int) + 1), .string a1, .int .i64 0] (by rfl) (by rfl) (by first | exact World.news_of_block (heap_alloc_new _ _) | exact World.news_of_block hr1) (by intro u hu; simp at hu; rcases hu with rfl | rfl | rfl <;> rfl) (by unfold maxLen; omega) (by omega) (by first | (simp; done) | (simp; omega) | omega) ?_; intro v2 w2 hown2 hgrow2; have hB2 : Below W.heap.size W w2 := Below.grown (by (repeat (first | assumption | exact Below.refl _ _ | refine Below.drew ?_ | refine Below.alloc ?_ (by first | (simp; done) | (simp; omega) | omega) _))) hgrow2 (by first | (simp; done) | (simp; omega) | omega) (fun j hj => (hown1.lt j hj).1); have hz2 := hB2.size; clear hgrow2) | (refine step_append (by rfl) (.tmp 39) (.tmp 42) 24 (by rfl) W.heap.size 60 i0 (.agg #[.int .i64 0, .string ⟨#[]⟩, .int .i64 0]) 3 32 Tryd.underlying24 HI0.out HZ0.out.1 HZ0.out.2.1 HZ0.out.2.2 rfl (by decide) v2 (k + 1) ((flat LMember.rec (z0.take k)) ++ [.int .i64 ((k : Int) + 1), .string a1, .int .i64 0]) (by rfl) (by first | exact hown2 | exact hown2.alloc _) (if cp = k then ⟨b, o, none⟩ else ⟨b, o + k * 3, none⟩) (n - k) (cp - k) (flat LMember.rec (z0.drop k)) (by exact ite_slice _ _ _ _ _) (by rw [flat_len, LMember.rec_n]; rw [List.length_drop]; have := HN.out; omega) (fun j u hu => HS2.out _ (by (repeat (first | assumption | exact Below.refl _ _ | refine Below.drew ?_ | refine Below.alloc ?_ (by first | (simp; done) | (simp; omega) | omega) _))) j u hu) (flat_one _ _) (by unfold maxLen; omega) (by omega) (by first | (simp; done) | (simp; omega) | omega) ?_; intro v3 w3 hown3 hgrow3; have hB3 : Below W.heap.size W w3 := Below.grown (by (repeat (first | assumption | exact Below.refl _ _ | refine Below.drew ?_ | refine Below.alloc ?_ (by first | (simp; done) | (simp; omega) | omega) _))) hgrow3 (by first | (simp; done) | (simp; omega) | omega) (fun j hj => (hown2.lt j hj).1); have hz3 := hB3.size; clear hgrow3) | fail)
          all_goals
            have HO := Lib.hid (show Own LMember.rec 60 w3 w.heap.size v3 (adm z0 a1) from Own.low (own_of LMember.rec hown3 (by rw [adm_at a1 HI.out]; have := HN.out; simp; omega) (by rw [adm_at a1 HI.out, flat_append, flat_append]; rfl)) hb1.size)
            have hb5 := hb1.trans (hB3.mono hb1.size)
            clear hown1 hown2 hown3 hB1 hB2 hB3 hz1 hz2 hz3 HK HS1 HS2 s4
            have HFI := Lib.hid (adm_fine HI.out HF.out hs1)
            go_wp2_with fail
            all_goals
              refine (MemG.l3Good v3 (adm z0 a1) _ HO.out.is HFI.out).mono ?_
              rintro e w4 ⟨rfl, hb6⟩
              have HO4 := Lib.hid (HO.out.kept hb6)
              have hb7 := hb5.trans (hb6.mono hb5.size)
              clear hb6 HO
              cases hg : goodB (adm z0 a1) with
              | false =>
                have HA := Lib.hid (adm_bad2 hg)
                clear hg
                have HO := Lib.hid (Own.start (T := LMember.rec) (E := 60) (w := w4) hb7.size)
                have hbz := hb7.alloc hb7.size (Obj.cells #[] 60)
                go_wp2_with fail
                go_ret3
                exact ⟨_, [], 0, false, rfl, HA.out, HO.out, hbz⟩
              | true =>
                have HA := Lib.hid (adm_yes HGd.out hg HI.out)
                clear hg
                go_wp2_with fail
                go_ret3
                exact ⟨_, _, _, true, rfl, HA.out, HO4.out, hb7⟩
      · have hd : decide ((k : Int) < (n : Int)) = false := by simp; omega
        have hd2 : decide (k < n) = false := by simp; omega
        have HI := Lib.hid (gap_at (by have := HN.out; omega) HL.out (fun p hp => by have := (List.getElem?_eq_some_iff.1 hp).1; have := HN.out; omega))
        go_wp2_with fail
        clear hd hd2 HL
        generalize w1 = W at *
        have s1 : (k : Int) ≤ (n : Int) := by omega
        have s2 : (n : Int) ≤ (cp : Int) := by omega
        have s3 : (k : Int) ≤ (cp : Int) := by omega
        have s4 : IntKind.i64.wrap ((k : Int) + 1) = (k : Int) + 1 := IntWalk.i64_in _ (by omega)
        have HS1 := Lib.hid (show ∀ w' : World, Below W.heap.size W w' → ∀ j u, (flat LMember.rec (z0.take k))[j]? = some u → w'.cell? (Addr.add ⟨b, o, none⟩ j) = some u from fun w' hb =>
          ((HIS.out.below LMember.rec (hb1.trans (hb.mono hb1.size))).take LMember.rec (k := k) (by omega)).flatCells LMember.rec)
        have HS2 := Lib.hid (show ∀ w' : World, Below W.heap.size W w' → ∀ j u, (flat LMember.rec (z0.drop k))[j]? = some u → w'.cell? (Addr.add (if cp = k then ⟨b, o, none⟩ else ⟨b, o + k * 3, none⟩) j) = some u from fun w' hb => by
          have h := (HIS.out.below LMember.rec (hb1.trans (hb.mono hb1.size))).drop LMember.rec (k := k) _ rfl (by omega) _ _ rfl rfl
          by_cases hck : cp = k
          · simp only [if_pos hck] at h ⊢; exact h.flatCells LMember.rec
          · simp only [if_neg hck] at h ⊢; exact h.flatCells LMember.rec)
        have HK := Lib.hid (show ∀ w' : World, Below W.heap.size W w' → Below W.heap.size W w' from fun w' hb => hb)
        go_region_held3 (fun w' => Below W.heap.size W w') ((refine HK.out _ ?_; (repeat (first | assumption | exact Below.refl _ _ | refine Below.drew ?_ | refine Below.alloc ?_ (by first | (simp; done) | (simp; omega) | omega) _)))) (first | (refine step_append (by rfl) (.tmp 29) (.tmp 32) 24 (by rfl) W.heap.size 60 i0 (.agg #[.int .i64 0, .string ⟨#[]⟩, .int .i64 0]) 3 32 Tryd.underlying24 HI0.out HZ0.out.1 HZ0.out.2.1 HZ0.out.2.2 rfl (by decide) _ (0) ([]) (by rfl) (by first | exact LMember.startB (heap_alloc_new _ _) (by first | (simp; done) | (simp; omega) | omega) | exact LMember.startB (alloc_old _ _ _) (by first | (simp; done) | (simp; omega) | omega) | exact LMember.startB (alloc_two _ _ _) (by first | (simp; done) | (simp; omega) | omega)) (⟨b, o, none⟩) (k) (cp) (flat LMember.rec (z0.take k)) (by rfl) (by rw [flat_len, LMember.rec_n]; rw [List.length_take]; have := HN.out; omega) (fun j u hu => HS1.out _ (by (repeat (first | assumption | exact Below.refl _ _ | refine Below.drew ?_ | refine Below.alloc ?_ (by first | (simp; done) | (simp; omega) | omega) _))) j u hu) (flat_one _ _) (by unfold maxLen; omega) (by omega) (by first | (simp; done) | (simp; omega) | omega) ?_; intro v1 w1 hown1 hgrow1; replace hown1 := own_in hown1; have hB1 : Below W.heap.size W w1 := Below.grown (by (repeat (first | assumption | exact Below.refl _ _ | refine Below.drew ?_ | refine Below.alloc ?_ (by first | (simp; done) | (simp; omega) | omega) _))) hgrow1 (by first | (simp; done) | (simp; omega) | omega) (fun j hj => own_ge hj (by simp)); have hz1 := hB1.size; (first | have hr1 : w1.heap[W.heap.size]? = some (Obj.cells #[.int .i64 ((k : Int) + 1), .string a1, .int .i64 0] 60) := (hgrow1.block _ (by simp; omega) (show some W.heap.size ≠ some (W.heap.size + 1) from fun e => absurd (Option.some.inj e) (by omega))).trans (alloc_old _ _ _) | have hr1 : w1.heap[W.heap.size + 1]? = some (Obj.cells #[.int .i64 ((k : Int) + 1), .string a1, .int .i64 0] 60) := (hgrow1.block _ (by simp) (show some (W.heap.size + 1) ≠ some W.heap.size from fun e => absurd (Option.some.inj e) (by omega))).trans (alloc_two _ _ _) | skip); clear hgrow1) | (refine step_append (by rfl) (.tmp 33) (.tmp 38) 24 (by rfl) W.heap.size 60 i0 (.agg #[.int .i64 0, .string ⟨#[]⟩, .int .i64 0]) 3 32 Tryd.underlying24 HI0.out HZ0.out.1 HZ0.out.2.1 HZ0.out.2.2 rfl (by decide) v1 (k) ((flat LMember.rec (z0.take k))) (by rfl) (by first | exact hown1 | exact hown1.alloc _) _ 1 1 [.int .i64 ((k : Int) + 1), .string a1, .int .i64 0] (by rfl) (by rfl) (by first | exact World.news_of_block (heap_alloc_new _ _) | exact World.news_of_block hr1) (by intro u hu; simp at hu; rcases hu with rfl | rfl | rfl <;> rfl) (by unfold maxLen; omega) (by omega) (by first | (simp; done) | (simp; omega) | omega) ?_; intro v2 w2 hown2 hgrow2; have hB2 : Below W.heap.size W w2 := Below.grown (by (repeat (first | assumption | exact Below.refl _ _ | refine Below.drew ?_ | refine Below.alloc ?_ (by first | (simp; done) | (simp; omega) | omega) _))) hgrow2 (by first | (simp; done) | (simp; omega) | omega) (fun j hj => (hown1.lt j hj).1); have hz2 := hB2.size; clear hgrow2) | (refine step_append (by rfl) (.tmp 39) (.tmp 42) 24 (by rfl) W.heap.size 60 i0 (.agg #[.int .i64 0, .string ⟨#[]⟩, .int .i64 0]) 3 32 Tryd.underlying24 HI0.out HZ0.out.1 HZ0.out.2.1 HZ0.out.2.2 rfl (by decide) v2 (k + 1) ((flat LMember.rec (z0.take k)) ++ [.int .i64 ((k : Int) + 1), .string a1, .int .i64 0]) (by rfl) (by first | exact hown2 | exact hown2.alloc _) (if cp = k then ⟨b, o, none⟩ else ⟨b, o + k * 3, none⟩) (n - k) (cp - k) (flat LMember.rec (z0.drop k)) (by exact ite_slice _ _ _ _ _) (by rw [flat_len, LMember.rec_n]; rw [List.length_drop]; have := HN.out; omega) (fun j u hu => HS2.out _ (by (repeat (first | assumption | exact Below.refl _ _ | refine Below.drew ?_ | refine Below.alloc ?_ (by first | (simp; done) | (simp; omega) | omega) _))) j u hu) (flat_one _ _) (by unfold maxLen; omega) (by omega) (by first | (simp; done) | (simp; omega) | omega) ?_; intro v3 w3 hown3 hgrow3; have hB3 : Below W.heap.size W w3 := Below.grown (by (repeat (first | assumption | exact Below.refl _ _ | refine Below.drew ?_ | refine Below.alloc ?_ (by first | (simp; done) | (simp; omega) | omega) _))) hgrow3 (by first | (simp; done) | (simp; omega) | omega) (fun j hj => (hown2.lt j hj).1); have hz3 := hB3.size; clear hgrow3) | fail)
        all_goals
          have HO := Lib.hid (show Own LMember.rec 60 w3 w.heap.size v3 (adm z0 a1) from Own.low (own_of LMember.rec hown3 (by rw [adm_at a1 HI.out]; have := HN.out; simp; omega) (by rw [adm_at a1 HI.out, flat_append, flat_append]; rfl)) hb1.size)
          have hb5 := hb1.trans (hB3.mono hb1.size)
          clear hown1 hown2 hown3 hB1 hB2 hB3 hz1 hz2 hz3 HK HS1 HS2 s4
          have HFI := Lib.hid (adm_fine HI.out HF.out hs1)
          go_wp2_with fail
          all_goals
            refine (MemG.l3Good v3 (adm z0 a1) _ HO.out.is HFI.out).mono ?_
            rintro e w4 ⟨rfl, hb6⟩
            have HO4 := Lib.hid (HO.out.kept hb6)
            have hb7 := hb5.trans (hb6.mono hb5.size)
            clear hb6 HO
            cases hg : goodB (adm z0 a1) with
            | false =>
              have HA := Lib.hid (adm_bad2 hg)
              clear hg
              have HO := Lib.hid (Own.start (T := LMember.rec) (E := 60) (w := w4) hb7.size)
              have hbz := hb7.alloc hb7.size (Obj.cells #[] 60)
              go_wp2_with fail
              go_ret3
              exact ⟨_, [], 0, false, rfl, HA.out, HO.out, hbz⟩
            | true =>
              have HA := Lib.hid (adm_yes HGd.out hg HI.out)
              clear hg
              go_wp2_with fail
              go_ret3
              exact ⟨_, _, _, true, rfl, HA.out, HO4.out, hb7⟩
set_option maxRecDepth 100000 in
set_option maxHeartbeats 3200000 in
theorem impl (v0 : Value) (z0 : List LMember.R) (a1 : ByteArray) (w : World) (h0 : IsS LMember.rec w v0 z0) (f0 : ∀ x ∈ z0, LMember.Fine x) (l0 : z0.length ≤ 1048576) (hs1 : a1.size ≤ 1048576) :
    Calls Tryd.prog 7 #[v0, .string a1] w (Post z0 a1 w) := by
  have h1 := IsS.is LMember.rec h0
  have HG := Lib.hid (MemI.isValidMembers v0 z0 w h1 f0)
  have HF := Lib.hid f0
  have hS := h0
  obtain ⟨b, o, cp, rfl, hbl, hxc, hcm, hcell⟩ := h0
  have HIS := Lib.hid hS
  obtain ⟨n, hn⟩ : ∃ n, n = z0.length := ⟨_, rfl⟩
  have HN := Lib.hid hn.symm
  have HC := Lib.hid hcell
  rw [← hn] at HG HIS hxc l0 ⊢
  unfold maxLen at hcm
  clear hn hS h1 hcell f0
  obtain ⟨i0, hi, hz0, hz1, hz2⟩ := info_parts LMember.infoK
  have HI0 := Lib.hid hi
  have HZ0 := Lib.hid (And.intro hz0 (And.intro hz1 hz2))
  clear hi hz0 hz1 hz2
  go_enter Tryd.func7, Tryd.ntmps7
  go_wp2_with fail
  refine HG.out.mono ?_
  rintro e w1 ⟨rfl, hb1⟩
  cases hg : goodB z0 with
  | false =>
    have HA := Lib.hid (adm_bad (s := a1) hg)
    clear hg
    have HO := Lib.hid (Own.start (T := LMember.rec) (E := 60) (w := w1) hb1.size)
    have hbz := hb1.alloc hb1.size (Obj.cells #[] 60)
    go_wp2_with fail
    go_ret3
    exact ⟨_, [], 0, false, rfl, HA.out, HO.out, hbz⟩
  | true =>
    have h12 : n ≤ 12 := by have := (good_of hg).1; have := HN.out; omega
    have HGd := Lib.hid hg
    clear hg
    go_wp2_with fail
    go_loop [7] (fun i => ∃ k : Nat, k ≤ n ∧ i = .int .i64 k ∧ Hid (Asc z0 k)) (fun i => n - (intOf i).toNat)
    case atStart => exact ⟨0, Nat.zero_le _, rfl, Lib.hid (fun j p hj => by omega)⟩
    case round =>
      obtain ⟨k, hk, rfl, HL⟩ := hrel
      have k0 : 0 ≤ (k : Int) := by omega
      by_cases hlt : k < n
      · have hx : k < z0.length := by have := HN.out; omega
        have HX := Lib.hid (List.getElem?_eq_getElem hx)
        obtain ⟨q0, q1, q2⟩ := LMember.cells ((HC.out k _ HX.out).below LMember.rec hb1 hbl)
        simp only [LMember.rec_n] at q0 q1 q2
        have k1 : (k : Int) < (n : Int) := by omega
        have hd : decide ((k : Int) < (n : Int)) = true := by simp; omega
        generalize z0[k] = X at *
        cases hid : (X.num == (k : Int) + 1) with
        | true =>
          have HL2 := Lib.hid (asc_next HL.out HX.out (by simpa using hid))
          go_wp2_with fail
          go_round
          case rel => exact ⟨k + 1, by omega, by go_num, HL2⟩
          case measure => simp [intOf]; omega
        | false =>
          have HI := Lib.hid (gap_at (by have := HN.out; omega) HL.out (fun p hp => by rw [HX.out] at hp; rw [← Option.some.inj hp]; simpa using hid))
          go_wp2_with fail
          clear q0 q1 q2 hid hd hx HL
          generalize w1 = W at *
          have s1 : (k : Int) ≤ (n : Int) := by omega
          have s2 : (n : Int) ≤ (cp : Int) := by omega
          have s3 : (k : Int) ≤ (cp : Int) := by omega
          have s4 : IntKind.i64.wrap ((k : Int) + 1) = (k : Int) + 1 := IntWalk.i64_in _ (by omega)
          have HK := Lib.hid (show ∀ w' : World, Below W.heap.size W w' → Below W.heap.size W w' from fun w' hb => hb)
          by_cases hck : cp = k
          · have hck := hck.symm
            subst hck
            have HCall := Lib.hid (show ∀ (X : World) (m3 c3 : Nat), X.heap[W.heap.size + 1]? = some (.cells #[.slice (some ⟨b, o, none⟩) k (k), .slice (some ⟨W.heap.size, 0, none⟩) 1 1, .slice (some ⟨b, o, none⟩) m3 c3] 24) → X.heap[W.heap.size]? = some (Obj.cells #[.int .i64 ((k : Int) + 1), .string a1, .int .i64 0] 60) → m3 = n - k → c3 = k - k → Below W.heap.size W X → Calls Tryd.prog 33 #[.slice (some ⟨W.heap.size + 1, 0, none⟩) 3 3] X fun e w' => ∃ v, e = .returned v ∧ Own LMember.rec 60 w' X.heap.size v (z0.take k ++ [mem k a1] ++ z0.drop k) ∧ Below X.heap.size X w' from fun X m3 c3 hX hX1 hm3 hc3 hb => by
              have hS := HIS.out.below LMember.rec (hb1.trans (hb.mono hb1.size))
              have hlt : W.heap.size < X.heap.size := (Array.getElem?_eq_some_iff.1 hX1).1
              exact LMember.concat3 X _ _ _ _ _ _ _ (hS.take LMember.rec (by omega)) (IsS.unit LMember.rec hlt (LMember.at_of (by rw [cell_of_row X W.heap.size _ _ _ (0, 0) hX1]; rfl) (by rw [cell_of_row X W.heap.size _ _ _ (0, 0) hX1]; rfl) (by rw [cell_of_row X W.heap.size _ _ _ (0, 0) hX1]; rfl))) (hS.drop LMember.rec _ (by first | (rw [if_pos rfl]; done) | (rw [if_pos rfl]; rfl)) (by omega) _ _ hm3 hc3) hX (by have := HN.out; simp; omega))
            go_region_held3 (fun w' => Below W.heap.size W w') ((refine HK.out _ ?_; (repeat (first | assumption | exact Below.refl _ _ | refine Below.drew ?_ | refine Below.alloc ?_ (by first | (simp; done) | (simp; omega) | omega) _)))) (first | (go_at_call 33; refine (HCall.out _ _ _ (by exact alloc_two _ _ _) (by exact alloc_old _ _ _) (by omega) (by omega) (by (repeat (first | assumption | exact Below.refl _ _ | refine Below.drew ?_ | refine Below.alloc ?_ (by first | (simp; done) | (simp; omega) | omega) _)))).mono ?_; rintro e w3 ⟨v3, rfl, hO, hb9⟩; have hB3 : Below W.heap.size W w3 := Below.trans (by (repeat (first | assumption | exact Below.refl _ _ | refine Below.drew ?_ | refine Below.alloc ?_ (by first | (simp; done) | (simp; omega) | omega) _))) (hb9.mono (by first | (simp; done) | (simp; omega) | omega))) | fail)
            all_goals
              have HO := Lib.hid (show Own LMember.rec 60 w3 w.heap.size v3 (adm z0 a1) by rw [adm_at a1 HI.out]; exact hO.low (by have := hb1.size; first | (simp; omega) | omega))
              have hb5 := hb1.trans (hB3.mono hb1.size)
              clear hO hB3 hb9 HK HCall s4
              have HFI := Lib.hid (adm_fine HI.out HF.out hs1)
              go_wp2_with fail
              all_goals
                refine (MemI.isValidMembers v3 (adm z0 a1) _ HO.out.is HFI.out).mono ?_
                rintro e w4 ⟨rfl, hb6⟩
                have HO4 := Lib.hid (HO.out.kept hb6)
                have hb7 := hb5.trans (hb6.mono hb5.size)
                clear hb6 HO
                cases hg : goodB (adm z0 a1) with
                | false =>
                  have HA := Lib.hid (adm_bad2 hg)
                  clear hg
                  have HO := Lib.hid (Own.start (T := LMember.rec) (E := 60) (w := w4) hb7.size)
                  have hbz := hb7.alloc hb7.size (Obj.cells #[] 60)
                  go_wp2_with fail
                  go_ret3
                  exact ⟨_, [], 0, false, rfl, HA.out, HO.out, hbz⟩
                | true =>
                  have HA := Lib.hid (adm_yes HGd.out hg HI.out)
                  clear hg
                  go_wp2_with fail
                  go_ret3
                  exact ⟨_, _, _, true, rfl, HA.out, HO4.out, hb7⟩
          · have HCK := Lib.hid hck
            have HCall := Lib.hid (show ∀ (X : World) (m3 c3 : Nat), X.heap[W.heap.size + 1]? = some (.cells #[.slice (some ⟨b, o, none⟩) k (cp), .slice (some ⟨W.heap.size, 0, none⟩) 1 1, .slice (some ⟨b, o + k * 3, none⟩) m3 c3] 24) → X.heap[W.heap.size]? = some (Obj.cells #[.int .i64 ((k : Int) + 1), .string a1, .int .i64 0] 60) → m3 = n - k → c3 = cp - k → Below W.heap.size W X → Calls Tryd.prog 33 #[.slice (some ⟨W.heap.size + 1, 0, none⟩) 3 3] X fun e w' => ∃ v, e = .returned v ∧ Own LMember.rec 60 w' X.heap.size v (z0.take k ++ [mem k a1] ++ z0.drop k) ∧ Below X.heap.size X w' from fun X m3 c3 hX hX1 hm3 hc3 hb => by
              have hS := HIS.out.below LMember.rec (hb1.trans (hb.mono hb1.size))
              have hlt : W.heap.size < X.heap.size := (Array.getElem?_eq_some_iff.1 hX1).1
              exact LMember.concat3 X _ _ _ _ _ _ _ (hS.take LMember.rec (by omega)) (IsS.unit LMember.rec hlt (LMember.at_of (by rw [cell_of_row X W.heap.size _ _ _ (0, 0) hX1]; rfl) (by rw [cell_of_row X W.heap.size _ _ _ (0, 0) hX1]; rfl) (by rw [cell_of_row X W.heap.size _ _ _ (0, 0) hX1]; rfl))) (hS.drop LMember.rec _ (by first | (rw [if_neg HCK.out]; done) | (rw [if_neg HCK.out]; rfl)) (by omega) _ _ hm3 hc3) hX (by have := HN.out; simp; omega))
            go_region_held3 (fun w' => Below W.heap.size W w') ((refine HK.out _ ?_; (repeat (first | assumption | exact Below.refl _ _ | refine Below.drew ?_ | refine Below.alloc ?_ (by first | (simp; done) | (simp; omega) | omega) _)))) (first | (go_at_call 33; refine (HCall.out _ _ _ (by exact alloc_two _ _ _) (by exact alloc_old _ _ _) (by omega) (by omega) (by (repeat (first | assumption | exact Below.refl _ _ | refine Below.drew ?_ | refine Below.alloc ?_ (by first | (simp; done) | (simp; omega) | omega) _)))).mono ?_; rintro e w3 ⟨v3, rfl, hO, hb9⟩; have hB3 : Below W.heap.size W w3 := Below.trans (by (repeat (first | assumption | exact Below.refl _ _ | refine Below.drew ?_ | refine Below.alloc ?_ (by first | (simp; done) | (simp; omega) | omega) _))) (hb9.mono (by first | (simp; done) | (simp; omega) | omega))) | fail)
            all_goals
              have HO := Lib.hid (show Own LMember.rec 60 w3 w.heap.size v3 (adm z0 a1) by rw [adm_at a1 HI.out]; exact hO.low (by have := hb1.size; first | (simp; omega) | omega))
              have hb5 := hb1.trans (hB3.mono hb1.size)
              clear hO hB3 hb9 HK HCall s4
              have HFI := Lib.hid (adm_fine HI.out HF.out hs1)
              go_wp2_with fail
              all_goals
                refine (MemI.isValidMembers v3 (adm z0 a1) _ HO.out.is HFI.out).mono ?_
                rintro e w4 ⟨rfl, hb6⟩
                have HO4 := Lib.hid (HO.out.kept hb6)
                have hb7 := hb5.trans (hb6.mono hb5.size)
                clear hb6 HO
                cases hg : goodB (adm z0 a1) with
                | false =>
                  have HA := Lib.hid (adm_bad2 hg)
                  clear hg
                  have HO := Lib.hid (Own.start (T := LMember.rec) (E := 60) (w := w4) hb7.size)
                  have hbz := hb7.alloc hb7.size (Obj.cells #[] 60)
                  go_wp2_with fail
                  go_ret3
                  exact ⟨_, [], 0, false, rfl, HA.out, HO.out, hbz⟩
                | true =>
                  have HA := Lib.hid (adm_yes HGd.out hg HI.out)
                  clear hg
                  go_wp2_with fail
                  go_ret3
                  exact ⟨_, _, _, true, rfl, HA.out, HO4.out, hb7⟩
      · have hd : decide ((k : Int) < (n : Int)) = false := by simp; omega
        have hd2 : decide (k < n) = false := by simp; omega
        have HI := Lib.hid (gap_at (by have := HN.out; omega) HL.out (fun p hp => by have := (List.getElem?_eq_some_iff.1 hp).1; have := HN.out; omega))
        go_wp2_with fail
        clear hd hd2 HL
        generalize w1 = W at *
        have s1 : (k : Int) ≤ (n : Int) := by omega
        have s2 : (n : Int) ≤ (cp : Int) := by omega
        have s3 : (k : Int) ≤ (cp : Int) := by omega
        have s4 : IntKind.i64.wrap ((k : Int) + 1) = (k : Int) + 1 := IntWalk.i64_in _ (by omega)
        have HK := Lib.hid (show ∀ w' : World, Below W.heap.size W w' → Below W.heap.size W w' from fun w' hb => hb)
        by_cases hck : cp = k
        · have hck := hck.symm
          subst hck
          have HCall := Lib.hid (show ∀ (X : World) (m3 c3 : Nat), X.heap[W.heap.size + 1]? = some (.cells #[.slice (some ⟨b, o, none⟩) k (k), .slice (some ⟨W.heap.size, 0, none⟩) 1 1, .slice (some ⟨b, o, none⟩) m3 c3] 24) → X.heap[W.heap.size]? = some (Obj.cells #[.int .i64 ((k : Int) + 1), .string a1, .int .i64 0] 60) → m3 = n - k → c3 = k - k → Below W.heap.size W X → Calls Tryd.prog 33 #[.slice (some ⟨W.heap.size + 1, 0, none⟩) 3 3] X fun e w' => ∃ v, e = .returned v ∧ Own LMember.rec 60 w' X.heap.size v (z0.take k ++ [mem k a1] ++ z0.drop k) ∧ Below X.heap.size X w' from fun X m3 c3 hX hX1 hm3 hc3 hb => by
            have hS := HIS.out.below LMember.rec (hb1.trans (hb.mono hb1.size))
            have hlt : W.heap.size < X.heap.size := (Array.getElem?_eq_some_iff.1 hX1).1
            exact LMember.concat3 X _ _ _ _ _ _ _ (hS.take LMember.rec (by omega)) (IsS.unit LMember.rec hlt (LMember.at_of (by rw [cell_of_row X W.heap.size _ _ _ (0, 0) hX1]; rfl) (by rw [cell_of_row X W.heap.size _ _ _ (0, 0) hX1]; rfl) (by rw [cell_of_row X W.heap.size _ _ _ (0, 0) hX1]; rfl))) (hS.drop LMember.rec _ (by first | (rw [if_pos rfl]; done) | (rw [if_pos rfl]; rfl)) (by omega) _ _ hm3 hc3) hX (by have := HN.out; simp; omega))
          go_region_held3 (fun w' => Below W.heap.size W w') ((refine HK.out _ ?_; (repeat (first | assumption | exact Below.refl _ _ | refine Below.drew ?_ | refine Below.alloc ?_ (by first | (simp; done) | (simp; omega) | omega) _)))) (first | (go_at_call 33; refine (HCall.out _ _ _ (by exact alloc_two _ _ _) (by exact alloc_old _ _ _) (by omega) (by omega) (by (repeat (first | assumption | exact Below.refl _ _ | refine Below.drew ?_ | refine Below.alloc ?_ (by first | (simp; done) | (simp; omega) | omega) _)))).mono ?_; rintro e w3 ⟨v3, rfl, hO, hb9⟩; have hB3 : Below W.heap.size W w3 := Below.trans (by (repeat (first | assumption | exact Below.refl _ _ | refine Below.drew ?_ | refine Below.alloc ?_ (by first | (simp; done) | (simp; omega) | omega) _))) (hb9.mono (by first | (simp; done) | (simp; omega) | omega))) | fail)
          all_goals
            have HO := Lib.hid (show Own LMember.rec 60 w3 w.heap.size v3 (adm z0 a1) by rw [adm_at a1 HI.out]; exact hO.low (by have := hb1.size; first | (simp; omega) | omega))
            have hb5 := hb1.trans (hB3.mono hb1.size)
            clear hO hB3 hb9 HK HCall s4
            have HFI := Lib.hid (adm_fine HI.out HF.out hs1)
            go_wp2_with fail
            all_goals
              refine (MemI.isValidMembers v3 (adm z0 a1) _ HO.out.is HFI.out).mono ?_
              rintro e w4 ⟨rfl, hb6⟩
              have HO4 := Lib.hid (HO.out.kept hb6)
              have hb7 := hb5.trans (hb6.mono hb5.size)
              clear hb6 HO
              cases hg : goodB (adm z0 a1) with
              | false =>
                have HA := Lib.hid (adm_bad2 hg)
                clear hg
                have HO := Lib.hid (Own.start (T := LMember.rec) (E := 60) (w := w4) hb7.size)
                have hbz := hb7.alloc hb7.size (Obj.cells #[] 60)
                go_wp2_with fail
                go_ret3
                exact ⟨_, [], 0, false, rfl, HA.out, HO.out, hbz⟩
              | true =>
                have HA := Lib.hid (adm_yes HGd.out hg HI.out)
                clear hg
                go_wp2_with fail
                go_ret3
                exact ⟨_, _, _, true, rfl, HA.out, HO4.out, hb7⟩
        · have HCK := Lib.hid hck
          have HCall := Lib.hid (show ∀ (X : World) (m3 c3 : Nat), X.heap[W.heap.size + 1]? = some (.cells #[.slice (some ⟨b, o, none⟩) k (cp), .slice (some ⟨W.heap.size, 0, none⟩) 1 1, .slice (some ⟨b, o + k * 3, none⟩) m3 c3] 24) → X.heap[W.heap.size]? = some (Obj.cells #[.int .i64 ((k : Int) + 1), .string a1, .int .i64 0] 60) → m3 = n - k → c3 = cp - k → Below W.heap.size W X → Calls Tryd.prog 33 #[.slice (some ⟨W.heap.size + 1, 0, none⟩) 3 3] X fun e w' => ∃ v, e = .returned v ∧ Own LMember.rec 60 w' X.heap.size v (z0.take k ++ [mem k a1] ++ z0.drop k) ∧ Below X.heap.size X w' from fun X m3 c3 hX hX1 hm3 hc3 hb => by
            have hS := HIS.out.below LMember.rec (hb1.trans (hb.mono hb1.size))
            have hlt : W.heap.size < X.heap.size := (Array.getElem?_eq_some_iff.1 hX1).1
            exact LMember.concat3 X _ _ _ _ _ _ _ (hS.take LMember.rec (by omega)) (IsS.unit LMember.rec hlt (LMember.at_of (by rw [cell_of_row X W.heap.size _ _ _ (0, 0) hX1]; rfl) (by rw [cell_of_row X W.heap.size _ _ _ (0, 0) hX1]; rfl) (by rw [cell_of_row X W.heap.size _ _ _ (0, 0) hX1]; rfl))) (hS.drop LMember.rec _ (by first | (rw [if_neg HCK.out]; done) | (rw [if_neg HCK.out]; rfl)) (by omega) _ _ hm3 hc3) hX (by have := HN.out; simp; omega))
          go_region_held3 (fun w' => Below W.heap.size W w') ((refine HK.out _ ?_; (repeat (first | assumption | exact Below.refl _ _ | refine Below.drew ?_ | refine Below.alloc ?_ (by first | (simp; done) | (simp; omega) | omega) _)))) (first | (go_at_call 33; refine (HCall.out _ _ _ (by exact alloc_two _ _ _) (by exact alloc_old _ _ _) (by omega) (by omega) (by (repeat (first | assumption | exact Below.refl _ _ | refine Below.drew ?_ | refine Below.alloc ?_ (by first | (simp; done) | (simp; omega) | omega) _)))).mono ?_; rintro e w3 ⟨v3, rfl, hO, hb9⟩; have hB3 : Below W.heap.size W w3 := Below.trans (by (repeat (first | assumption | exact Below.refl _ _ | refine Below.drew ?_ | refine Below.alloc ?_ (by first | (simp; done) | (simp; omega) | omega) _))) (hb9.mono (by first | (simp; done) | (simp; omega) | omega))) | fail)
          all_goals
            have HO := Lib.hid (show Own LMember.rec 60 w3 w.heap.size v3 (adm z0 a1) by rw [adm_at a1 HI.out]; exact hO.low (by have := hb1.size; first | (simp; omega) | omega))
            have hb5 := hb1.trans (hB3.mono hb1.size)
            clear hO hB3 hb9 HK HCall s4
            have HFI := Lib.hid (adm_fine HI.out HF.out hs1)
            go_wp2_with fail
            all_goals
              refine (MemI.isValidMembers v3 (adm z0 a1) _ HO.out.is HFI.out).mono ?_
              rintro e w4 ⟨rfl, hb6⟩
              have HO4 := Lib.hid (HO.out.kept hb6)
              have hb7 := hb5.trans (hb6.mono hb5.size)
              clear hb6 HO
              cases hg : goodB (adm z0 a1) with
              | false =>
                have HA := Lib.hid (adm_bad2 hg)
                clear hg
                have HO := Lib.hid (Own.start (T := LMember.rec) (E := 60) (w := w4) hb7.size)
                have hbz := hb7.alloc hb7.size (Obj.cells #[] 60)
                go_wp2_with fail
                go_ret3
                exact ⟨_, [], 0, false, rfl, HA.out, HO.out, hbz⟩
              | true =>
                have HA := Lib.hid (adm_yes HGd.out hg HI.out)
                clear hg
                go_wp2_with fail
                go_ret3
                exact ⟨_, _, _, true, rfl, HA.out, HO4.out, hb7⟩
end Go.Proofs.YtneecokjhmnagaaDoor.AdmitMemberC
