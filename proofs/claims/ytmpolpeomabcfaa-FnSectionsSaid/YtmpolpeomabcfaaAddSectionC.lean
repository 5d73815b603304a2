/- AddSection, model and program: what both answer. No condition but that titles are no longer than strings can be. -/
import Derived.Test.YtmpolpeomabcfaaDocK
import Derived.Test.YtmpolpeomabcfaaLSectionKconcat
import Derived.BigQuiet
namespace Go.Proofs.Ytmpolpeomabcfaa.AddSectionC
open Go.RowKit Bs Word Doc DocO DocK
set_option linter.unusedVariables false
def addd (z : List M) (k : Nat) (s : M) : List M := z.take k ++ [s] ++ z.drop k
noncomputable def anA (z : List M) (i : Int) (s : M) : List M × Bool := if (goodB z && inB i 0 z.length) = true then chk (addd z i.toNat s) else ([], false)
theorem no1 {z : List M} {i : Int} {s : M} (h : goodB z = false) : anA z i s = ([], false) := by unfold anA; rw [h]; rfl
theorem no2 {z : List M} {i : Int} {s : M} (h : inB i 0 z.length = false) : anA z i s = ([], false) := by unfold anA; rw [h, Bool.and_false]; rfl
theorem yes {z : List M} {k : Nat} {s : M} (h : goodB z = true) (hk : k ≤ z.length) : anA z k s = chk (addd z k s) := by
  unfold anA; rw [h, inB_mk (by omega) (by omega)]; rfl
theorem add_fine {z : List M} {k : Nat} {s : M} (hz : ∀ x ∈ z, LSection.Fine x) (hs : LSection.Fine s) : ∀ x ∈ addd z k s, LSection.Fine x := by
  intro x hx
  unfold addd at hx
  simp only [List.mem_append, List.mem_singleton] at hx
  rcases hx with (hx | hx) | hx
  · exact hz x (List.mem_of_mem_take hx)
  · subst hx; exact hs
  · exact hz x (List.mem_of_mem_drop hx)
def Ans (z0 : List LSection.R) (a1 : Int) (a2 : LSection.R) (r0 : List LSection.R) (r1 : Bool) : Prop := anA z0 a1 a2 = (r0, r1)
theorem same {z0 : List LSection.R} {a1 : Int} {a2 : LSection.R} {r0 s0 : List LSection.R} {r1 s1 : Bool} (h : Ans z0 a1 a2 r0 r1) (h' : Ans z0 a1 a2 s0 s1) : r0 = s0 ∧ r1 = s1 := by
  have := h.symm.trans h'; simp only [Prod.mk.injEq] at this; exact this
theorem len0 {z0 : List LSection.R} {a1 : Int} {a2 : LSection.R} {r0 : List LSection.R} {r1 : Bool} (h : Ans z0 a1 a2 r0 r1) : r0.length ≤ 1048576 := by
  unfold Ans anA at h
  split at h
  · have := chk_len h; omega
  · simp only [Prod.mk.injEq] at h; rw [← h.1]; simp
def APost (z0 : List LSection.R) (a1 : Int) (a2 : LSection.R) (w : World) (e : Ending) (w' : World) : Prop :=
  ∃ v0 r0 r1, e = .returned (.tuple #[v0, .bool r1]) ∧ Ans z0 a1 a2 r0 r1 ∧ Own LSection.rec 34 w' w.heap.size v0 r0 ∧ Below w.heap.size w w'
set_option maxRecDepth 100000 in
set_option maxHeartbeats 3200000 in
theorem spec (v0 : Value) (z0 : List LSection.R) (a1 : Int) (a2 : LSection.R) (w : World) (h0 : IsS LSection.rec w v0 z0) (f0 : ∀ x ∈ z0, LSection.Fine x) (l0 : z0.length ≤ 1048576) (f2 : LSection.Fine a2) :
    Calls Try.prog 20 #[v0, .int .i64 a1, .agg #[.int .i64 a2.depth, .string a2.title]] w (APost z0 a1 a2 w) := by
  have hbox := (Below.refl w.heap.size w).alloc (Nat.le_refl _) (Obj.cells #[.int .i64 a2.depth, .string a2.title] 34)
  have HX := Lib.hid (LSection.box w a2 34)
  have h1 := IsS.is LSection.rec h0
  have HG := Lib.hid (fun W (hW : Below w.heap.size w W) => DocG.l6Good v0 z0 W (h1.below LSection.rec hW) f0)
  have hS := h0
  obtain ⟨b, o, cp, rfl, hbl, hxc, hcm, hcell⟩ := h0
  have HIS := Lib.hid hS
  obtain ⟨n, hn⟩ : ∃ n, n = z0.length := ⟨_, rfl⟩
  have HN := Lib.hid hn.symm
  have HC := Lib.hid hcell
  unfold DocG.Post at HG
  rw [← hn] at HG HIS hxc l0 ⊢
  unfold maxLen at hcm
  clear hn hS h1 hcell
  have HFI := Lib.hid (fun k => add_fine (k := k) f0 f2)
  clear f0 f2
  obtain ⟨i0, hi, hz0, hz1, hz2⟩ := info_parts LSection.infoK
  have HI0 := Lib.hid hi
  have HZ0 := Lib.hid (And.intro hz0 (And.intro hz1 hz2))
  clear hi hz0 hz1 hz2
  cases hg : goodB z0 with
  | false =>
    have HA := Lib.hid (no1 (i := a1) (s := a2) hg)
    rw [hg] at HG
    clear hg HX
    go_enter Try.func20, Try.ntmps20
    go_wp2_with fail
    refine (HG.out _ hbox).mono ?_
    rintro e w1 ⟨rfl, hb1⟩
    have hb2 := hbox.trans (hb1.mono hbox.size)
    have HO := Lib.hid (Own.start (T := LSection.rec) (E := 34) (w := w1) hb2.size)
    have hbz := hb2.alloc hb2.size (Obj.cells #[] 34)
    go_wp2_with fail
    go_ret2
    exact ⟨_, [], false, rfl, HA.out, HO.out, hbz⟩
  | true =>
    have HGd := Lib.hid hg
    have h12 := good_len hg
    rw [HN.out] at h12
    rw [hg] at HG
    clear hg
    cases hi : inB a1 0 (n : Int) with
    | false =>
      have HA := Lib.hid (no2 (s := a2) (show inB a1 0 z0.length = false by rw [HN.out]; exact hi))
      have HIN := Lib.hid (fun W => in_as a1 0 (n : Int) false hi W)
      clear hi HX
      go_enter Try.func20, Try.ntmps20
      go_wp2_with fail
      refine (HG.out _ hbox).mono ?_
      rintro e w1 ⟨rfl, hb1⟩
      have hb2 := hbox.trans (hb1.mono hbox.size)
      go_wp2_with fail
      refine (HIN.out _).mono ?_
      rintro e _ ⟨rfl, rfl⟩
      have HO := Lib.hid (Own.start (T := LSection.rec) (E := 34) (w := w1) hb2.size)
      have hbz := hb2.alloc hb2.size (Obj.cells #[] 34)
      go_wp2_with fail
      go_ret2
      exact ⟨_, [], false, rfl, HA.out, HO.out, hbz⟩
    | true =>
      obtain ⟨i0', i1'⟩ := inB_yes hi
      obtain ⟨k, rfl⟩ := Int.eq_ofNat_of_zero_le i0'
      have hk : k ≤ n := by omega
      have HY := Lib.hid (yes (s := a2) HGd.out (show k ≤ z0.length by rw [HN.out]; exact hk))
      have HIN := Lib.hid hi
      clear hi i0' i1'
      have k0 : 0 ≤ (k : Int) := by omega
      have s1 : (k : Int) ≤ (n : Int) := by omega
      have s2 : (n : Int) ≤ (cp : Int) := by omega
      have s3 : (k : Int) ≤ (cp : Int) := by omega
      go_enter Try.func20, Try.ntmps20
      go_wp2_with fail
      refine (HG.out _ hbox).mono ?_
      rintro e w1 ⟨rfl, hb1⟩
      have hb2 := hbox.trans (hb1.mono hbox.size)
      have HX1 := Lib.hid (HX.out.below LSection.rec hb1 (by simp))
      have hX1 : w.heap.size < w1.heap.size := by have := hb1.size; simp at this; omega
      clear hb1 hbox HX
      go_wp2_with fail
      refine (in_as (k : Int) 0 (n : Int) true HIN.out _).mono ?_
      rintro e _ ⟨rfl, rfl⟩
      go_wp2_with fail
      generalize w1 = W at *
      obtain ⟨x0, x1⟩ := LSection.cells0 HX1.out
      obtain ⟨oD, hoD⟩ : ∃ oD, (if cp = k then some (⟨b, o, none⟩ : Addr) else some ⟨b, o + k * 2, none⟩) = some ⟨b, oD, none⟩ := by
        by_cases hck : cp = k
        · exact ⟨o, if_pos hck⟩
        · exact ⟨_, if_neg hck⟩
      have HOD := Lib.hid hoD
      have HK := Lib.hid (show ∀ w' : World, Below W.heap.size W w' → Below W.heap.size W w' ∧ w'.cell? ⟨w.heap.size, 0, none⟩ = some (.int .i64 a2.depth) ∧ w'.cell? ⟨w.heap.size, 1, none⟩ = some (.string a2.title) from fun w' hb => ⟨hb, by rw [hb.cell hX1]; exact x0, by rw [hb.cell hX1]; exact x1⟩)
      have HS1 := Lib.hid (show ∀ w' : World, Below W.heap.size W w' → ∀ j u, (flat LSection.rec (z0.take k))[j]? = some u → w'.cell? (Addr.add ⟨b, o, none⟩ j) = some u from fun w' hb =>
        ((HIS.out.below LSection.rec (hb2.trans (hb.mono hb2.size))).take LSection.rec (k := k) (by omega)).flatCells LSection.rec)
      have HS2 := Lib.hid (show ∀ w' : World, Below W.heap.size W w' → ∀ j u, (flat LSection.rec (z0.drop k))[j]? = some u → w'.cell? (Addr.add ⟨b, oD, none⟩ j) = some u from fun w' hb =>
        ((HIS.out.below LSection.rec (hb2.trans (hb.mono hb2.size))).drop LSection.rec (k := k) (some ⟨b, oD, none⟩) HOD.out.symm (by omega) _ _ rfl rfl).flatCells LSection.rec)
      have HLN := Lib.hid (show (addd z0 k a2).length = k + 1 + (n - k) by unfold addd; have := HN.out; simp; omega)
      have HFL := Lib.hid (show flat LSection.rec (addd z0 k a2) = (flat LSection.rec (z0.take k)) ++ [.int .i64 a2.depth, .string a2.title] ++ (flat LSection.rec (z0.drop k)) by unfold addd; rw [flat_append, flat_append]; rfl)
      have HCK := Lib.hid (fun (v : Value) (X : World) (hX : Below W.heap.size W X) (h : Own LSection.rec 34 X W.heap.size v (addd z0 k a2)) => l6Checked v (addd z0 k a2) W.heap.size X h hX.size (HFI.out k))
      unfold KPost at HCK
      go_region_held3 (fun w' => Below W.heap.size W w' ∧ w'.cell? ⟨w.heap.size, 0, none⟩ = some (.int .i64 a2.depth) ∧ w'.cell? ⟨w.heap.size, 1, none⟩ = some (.string a2.title)) ((refine HK.out _ ?_; (repeat (first | assumption | exact Below.refl _ _ | refine Below.drew ?_ | refine Below.alloc ?_ (by first | (simp; done) | (simp; omega) | omega) _)))) (first | (refine step_append (by rfl) (.tmp 19) (.tmp 22) 24 (by rfl) W.heap.size 34 i0 (.agg #[.int .i64 0, .string ⟨#[]⟩]) 2 24 Try.underlying24 HI0.out HZ0.out.1 HZ0.out.2.1 HZ0.out.2.2 rfl (by decide) _ (0) ([]) (by rfl) (by first | exact LSection.startB (heap_alloc_new _ _) (by first | (simp; done) | (simp; omega) | omega) | exact LSection.startB (alloc_old _ _ _) (by first | (simp; done) | (simp; omega) | omega) | exact LSection.startB (alloc_two _ _ _) (by first | (simp; done) | (simp; omega) | omega)) (⟨b, o, none⟩) (k) (cp) (flat LSection.rec (z0.take k)) (by rfl) (by rw [flat_len, LSection.rec_n]; rw [List.length_take]; have := HN.out; omega) (fun j u hu => HS1.out _ (by (repeat (first | assumption | exact Below.refl _ _ | refine Below.drew ?_ | refine Below.alloc ?_ (by first | (simp; done) | (simp; omega) | omega) _))) j u hu) (flat_one _ _) (by unfold maxLen; omega) (by omega) (by first | (simp; done) | (simp; omega) | omega) ?_; intro v1 w1 hown1 hgrow1; replace hown1 := own_in hown1; have hB1 : Below W.heap.size W w1 := Below.grown (by (repeat (first | assumption | exact Below.refl _ _ | refine Below.drew ?_ | refine Below.alloc ?_ (by first | (simp; done) | (simp; omega) | omega) _))) hgrow1 (by first | (simp; done) | (simp; omega) | omega) (fun j hj => own_ge hj (by simp)); have hz1 := hB1.size; (first | have hr1 : w1.heap[W.heap.size]? = some (Obj.cells #[.int .i64 a2.depth, .string a2.title] 34) := (hgrow1.block _ (by simp; omega) (show some W.heap.size ≠ some (W.heap.size + 1) from fun e => absurd (Option.some.inj e) (by omega))).trans (alloc_old _ _ _) | have hr1 : w1.heap[W.heap.size + 1]? = some (Obj.cells #[.int .i64 a2.depth, .string a2.title] 34) := (hgrow1.block _ (by simp) (show some (W.heap.size + 1) ≠ some W.heap.size from fun e => absurd (Option.some.inj e) (by omega))).trans (alloc_two _ _ _) | skip); clear hgrow1) | (refine step_append (by rfl) (.tmp 23) (.tmp 25) 24 (by rfl) W.heap.size 34 i0 (.agg #[.int .i64 0, .string ⟨#[]⟩]) 2 24 Try.underlying24 HI0.out HZ0.out.1 HZ0.out.2.1 HZ0.out.2.2 rfl (by decide) v1 (k) ((flat LSection.rec (z0.take k))) (by rfl) (by first | exact hown1 | exact hown1.alloc _) _ 1 1 [.int .i64 a2.depth, .string a2.title] (by rfl) (by rfl) (by first | exact World.news_of_block (heap_alloc_new _ _) | exact World.news_of_block hr1) (by intro u hu; simp at hu; rcases hu with rfl | rfl <;> rfl) (by unfold maxLen; omega) (by omega) (by first | (simp; done) | (simp; omega) | omega) ?_; intro v2 w2 hown2 hgrow2; have hB2 : Below W.heap.size W w2 := Below.grown (by (repeat (first | assumption | exact Below.refl _ _ | refine Below.drew ?_ | refine Below.alloc ?_ (by first | (simp; done) | (simp; omega) | omega) _))) hgrow2 (by first | (simp; done) | (simp; omega) | omega) (fun j hj => (hown1.lt j hj).1); have hz2 := hB2.size; clear hgrow2) | (refine step_append (by rfl) (.tmp 26) (.tmp 29) 24 (by rfl) W.heap.size 34 i0 (.agg #[.int .i64 0, .string ⟨#[]⟩]) 2 24 Try.underlying24 HI0.out HZ0.out.1 HZ0.out.2.1 HZ0.out.2.2 rfl (by decide) v2 (k + 1) ((flat LSection.rec (z0.take k)) ++ [.int .i64 a2.depth, .string a2.title]) (by rfl) (by first | exact hown2 | exact hown2.alloc _) (⟨b, oD, none⟩) (n - k) (cp - k) (flat LSection.rec (z0.drop k)) (by rfl) (by rw [flat_len, LSection.rec_n]; rw [List.length_drop]; have := HN.out; omega) (fun j u hu => HS2.out _ (by (repeat (first | assumption | exact Below.refl _ _ | refine Below.drew ?_ | refine Below.alloc ?_ (by first | (simp; done) | (simp; omega) | omega) _))) j u hu) (flat_one _ _) (by unfold maxLen; omega) (by omega) (by first | (simp; done) | (simp; omega) | omega) ?_; intro v3 w3 hown3 hgrow3; have hB3 : Below W.heap.size W w3 := Below.grown (by (repeat (first | assumption | exact Below.refl _ _ | refine Below.drew ?_ | refine Below.alloc ?_ (by first | (simp; done) | (simp; omega) | omega) _))) hgrow3 (by first | (simp; done) | (simp; omega) | omega) (fun j hj => (hown2.lt j hj).1); have hz3 := hB3.size; clear hgrow3) | (go_at_call 48; refine (HCK.out v3 _ (by (repeat (first | assumption | exact Below.refl _ _ | refine Below.drew ?_ | refine Below.alloc ?_ (by first | (simp; done) | (simp; omega) | omega) _))) (by first | exact own_of LSection.rec (xs := addd z0 k a2) hown3 HLN.out HFL.out | exact (own_of LSection.rec (xs := addd z0 k a2) hown3 HLN.out HFL.out).alloc _)).mono ?_; rintro e w4 ⟨v4, r0, r1, rfl, hA4, hO4, hb9⟩; have hB4 : Below W.heap.size W w4 := Below.trans (by (repeat (first | assumption | exact Below.refl _ _ | refine Below.drew ?_ | refine Below.alloc ?_ (by first | (simp; done) | (simp; omega) | omega) _))) (hb9.mono (by first | (simp; done) | (simp; omega) | omega)); clear hb9) | fail)
      all_goals
        have HA4 := Lib.hid (HY.out.trans hA4)
        have HO := Lib.hid (hO4.low hb2.size)
        have hb5 := hb2.trans (hB4.mono hb2.size)
        clear hown1 hown2 hown3 hB1 hB2 hB3 hB4 hz1 hz2 hz3 HK HS1 HS2 HCK hA4 hO4 x0 x1 hoD
        go_wp2_with fail
        go_ret2
        exact ⟨_, _, _, rfl, HA4.out, HO.out, hb5⟩
set_option maxRecDepth 100000 in
set_option maxHeartbeats 3200000 in
theorem impl (v0 : Value) (z0 : List LSection.R) (a1 : Int) (a2 : LSection.R) (w : World) (h0 : IsS LSection.rec w v0 z0) (f0 : ∀ x ∈ z0, LSection.Fine x) (l0 : z0.length ≤ 1048576) (f2 : LSection.Fine a2) :
    Calls Try.prog 19 #[v0, .int .i64 a1, .agg #[.int .i64 a2.depth, .string a2.title]] w (APost z0 a1 a2 w) := by
  have hbox := (Below.refl w.heap.size w).alloc (Nat.le_refl _) (Obj.cells #[.int .i64 a2.depth, .string a2.title] 34)
  have HX := Lib.hid (LSection.box w a2 34)
  have h1 := IsS.is LSection.rec h0
  have HG := Lib.hid (fun W (hW : Below w.heap.size w W) => DocG.isDocument v0 z0 W (h1.below LSection.rec hW) f0)
  have hS := h0
  obtain ⟨b, o, cp, rfl, hbl, hxc, hcm, hcell⟩ := h0
  have HIS := Lib.hid hS
  obtain ⟨n, hn⟩ : ∃ n, n = z0.length := ⟨_, rfl⟩
  have HN := Lib.hid hn.symm
  have HC := Lib.hid hcell
  unfold DocG.Post at HG
  rw [← hn] at HG HIS hxc l0 ⊢
  unfold maxLen at hcm
  clear hn hS h1 hcell
  have HFI := Lib.hid (fun k => add_fine (k := k) f0 f2)
  clear f0 f2
  obtain ⟨i0, hi, hz0, hz1, hz2⟩ := info_parts LSection.infoK
  have HI0 := Lib.hid hi
  have HZ0 := Lib.hid (And.intro hz0 (And.intro hz1 hz2))
  clear hi hz0 hz1 hz2
  cases hg : goodB z0 with
  | false =>
    have HA := Lib.hid (no1 (i := a1) (s := a2) hg)
    rw [hg] at HG
    clear hg HX
    go_enter Try.func19, Try.ntmps19
    go_wp2_with fail
    refine (HG.out _ hbox).mono ?_
    rintro e w1 ⟨rfl, hb1⟩
    have hb2 := hbox.trans (hb1.mono hbox.size)
    have HO := Lib.hid (Own.start (T := LSection.rec) (E := 34) (w := w1) hb2.size)
    have hbz := hb2.alloc hb2.size (Obj.cells #[] 34)
    go_wp2_with fail
    go_ret2
    exact ⟨_, [], false, rfl, HA.out, HO.out, hbz⟩
  | true =>
    have HGd := Lib.hid hg
    have h12 := good_len hg
    rw [HN.out] at h12
    rw [hg] at HG
    clear hg
    cases hi : inB a1 0 (n : Int) with
    | false =>
      have HA := Lib.hid (no2 (s := a2) (show inB a1 0 z0.length = false by rw [HN.out]; exact hi))
      have hi2 := inB_no hi
      clear hi HX
      by_cases h0 : a1 < 0
      · clear hi2
        go_enter Try.func19, Try.ntmps19
        go_wp2_with fail
        refine (HG.out _ hbox).mono ?_
        rintro e w1 ⟨rfl, hb1⟩
        have hb2 := hbox.trans (hb1.mono hbox.size)
        have HO := Lib.hid (Own.start (T := LSection.rec) (E := 34) (w := w1) hb2.size)
        have hbz := hb2.alloc hb2.size (Obj.cells #[] 34)
        go_wp2_with fail
        go_ret2
        exact ⟨_, [], false, rfl, HA.out, HO.out, hbz⟩
      · have h1 : (n : Int) < a1 := by omega
        clear hi2
        go_enter Try.func19, Try.ntmps19
        go_wp2_with fail
        refine (HG.out _ hbox).mono ?_
        rintro e w1 ⟨rfl, hb1⟩
        have hb2 := hbox.trans (hb1.mono hbox.size)
        have HO := Lib.hid (Own.start (T := LSection.rec) (E := 34) (w := w1) hb2.size)
        have hbz := hb2.alloc hb2.size (Obj.cells #[] 34)
        go_wp2_with fail
        go_ret2
        exact ⟨_, [], false, rfl, HA.out, HO.out, hbz⟩
    | true =>
      obtain ⟨i0', i1'⟩ := inB_yes hi
      obtain ⟨k, rfl⟩ := Int.eq_ofNat_of_zero_le i0'
      have hk : k ≤ n := by omega
      have HY := Lib.hid (yes (s := a2) HGd.out (show k ≤ z0.length by rw [HN.out]; exact hk))
      have HIN := Lib.hid hi
      clear hi i0' i1'
      have k0 : 0 ≤ (k : Int) := by omega
      have s1 : (k : Int) ≤ (n : Int) := by omega
      have s2 : (n : Int) ≤ (cp : Int) := by omega
      have s3 : (k : Int) ≤ (cp : Int) := by omega
      go_enter Try.func19, Try.ntmps19
      go_wp2_with fail
      refine (HG.out _ hbox).mono ?_
      rintro e w1 ⟨rfl, hb1⟩
      have hb2 := hbox.trans (hb1.mono hbox.size)
      have HX1 := Lib.hid (HX.out.below LSection.rec hb1 (by simp))
      have hX1 : w.heap.size < w1.heap.size := by have := hb1.size; simp at this; omega
      clear hb1 hbox HX
      go_wp2_with fail

      generalize w1 = W at *
      obtain ⟨x0, x1⟩ := LSection.cells0 HX1.out
      obtain ⟨oD, hoD⟩ : ∃ oD, (if cp = k then some (⟨b, o, none⟩ : Addr) else some ⟨b, o + k * 2, none⟩) = some ⟨b, oD, none⟩ := by
        by_cases hck : cp = k
        · exact ⟨o, if_pos hck⟩
        · exact ⟨_, if_neg hck⟩
      have HOD := Lib.hid hoD
      have HK := Lib.hid (show ∀ w' : World, Below W.heap.size W w' → Below W.heap.size W w' ∧ w'.cell? ⟨w.heap.size, 0, none⟩ = some (.int .i64 a2.depth) ∧ w'.cell? ⟨w.heap.size, 1, none⟩ = some (.string a2.title) from fun w' hb => ⟨hb, by rw [hb.cell hX1]; exact x0, by rw [hb.cell hX1]; exact x1⟩)
      have HCall := Lib.hid (show ∀ (X : World) (m3 c3 : Nat), X.heap[W.heap.size + 1]? = some (.cells #[.slice (some ⟨b, o, none⟩) k cp, .slice (some ⟨W.heap.size, 0, none⟩) 1 1, .slice (some ⟨b, oD, none⟩) m3 c3] 24) → X.heap[W.heap.size]? = some (Obj.cells #[.int .i64 a2.depth, .string a2.title] 34) → m3 = n - k → c3 = cp - k → Below W.heap.size W X → Calls Try.prog 37 #[.slice (some ⟨W.heap.size + 1, 0, none⟩) 3 3] X fun e w' => ∃ v, e = .returned v ∧ Own LSection.rec 34 w' X.heap.size v (addd z0 k a2) ∧ Below X.heap.size X w' from fun X m3 c3 hX hXb hm3 hc3 hb => by
        have hS := HIS.out.below LSection.rec (hb2.trans (hb.mono hb2.size))
        have hlt : W.heap.size < X.heap.size := (Array.getElem?_eq_some_iff.1 hXb).1
        exact LSection.concat3 X _ _ _ _ _ _ _ (hS.take LSection.rec (by omega)) (IsS.unit LSection.rec hlt (LSection.at_of (by rw [cell_of_row X W.heap.size _ _ _ (0, 0) hXb]; rfl) (by rw [cell_of_row X W.heap.size _ _ _ (0, 0) hXb]; rfl))) (hS.drop LSection.rec (some ⟨b, oD, none⟩) HOD.out.symm (by omega) _ _ hm3 hc3) hX (by have := HN.out; simp; omega))
      go_region_held3 (fun w' => Below W.heap.size W w' ∧ w'.cell? ⟨w.heap.size, 0, none⟩ = some (.int .i64 a2.depth) ∧ w'.cell? ⟨w.heap.size, 1, none⟩ = some (.string a2.title)) ((refine HK.out _ ?_; (repeat (first | assumption | exact Below.refl _ _ | refine Below.drew ?_ | refine Below.alloc ?_ (by first | (simp; done) | (simp; omega) | omega) _)))) (first | (go_at_call 37; refine (HCall.out _ _ _ (by exact alloc_two _ _ _) (by exact alloc_old _ _ _) (by omega) (by omega) (by (repeat (first | assumption | exact Below.refl _ _ | refine Below.drew ?_ | refine Below.alloc ?_ (by first | (simp; done) | (simp; omega) | omega) _)))).mono ?_; rintro e w3 ⟨v3, rfl, hO, hb9⟩; have hB3 : Below W.heap.size W w3 := Below.trans (by (repeat (first | assumption | exact Below.refl _ _ | refine Below.drew ?_ | refine Below.alloc ?_ (by first | (simp; done) | (simp; omega) | omega) _))) (hb9.mono (by first | (simp; done) | (simp; omega) | omega)); have hO3 : Own LSection.rec 34 w3 W.heap.size v3 (addd z0 k a2) := hO.low (by first | (simp; done) | (simp; omega) | omega); clear hO hb9) | fail)
      all_goals
        have HO := Lib.hid (hO3.low hb2.size)
        have hb5 := hb2.trans (hB3.mono hb2.size)
        clear hO3 hB3 HK HCall x0 x1 hoD
        go_wp2_with fail
        all_goals
          refine (DocG.isDocument v3 (addd z0 k a2) _ HO.out.is (HFI.out k)).mono ?_
          rintro e w4 ⟨rfl, hb6⟩
          have HO4 := Lib.hid (HO.out.kept hb6)
          have hb7 := hb5.trans (hb6.mono hb5.size)
          clear hb6 HO
          cases hg : goodB (addd z0 k a2) with
          | false =>
            have HA := Lib.hid (HY.out.trans (chk_no hg))
            clear hg
            have HO := Lib.hid (Own.start (T := LSection.rec) (E := 34) (w := w4) hb7.size)
            have hbz := hb7.alloc hb7.size (Obj.cells #[] 34)
            go_wp2_with fail
            go_ret2
            exact ⟨_, [], false, rfl, HA.out, HO.out, hbz⟩
          | true =>
            have HA := Lib.hid (HY.out.trans (chk_yes hg))
            clear hg
            go_wp2_with fail
            go_ret2
            exact ⟨_, _, true, rfl, HA.out, HO4.out, hb7⟩
end Go.Proofs.Ytmpolpeomabcfaa.AddSectionC
