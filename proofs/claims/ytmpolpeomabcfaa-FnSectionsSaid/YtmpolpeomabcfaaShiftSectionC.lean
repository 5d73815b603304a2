/- ShiftSection, model and program: what both answer. No condition but that titles are no longer than strings can be. -/
import Derived.Test.YtmpolpeomabcfaaDocK
import Derived.Test.YtmpolpeomabcfaaLSectionKclone
import Derived.BigQuiet
import Derived.StillTailTactics
namespace Go.Proofs.Ytmpolpeomabcfaa.ShiftSectionC
open Go.RowKit Bs Word Doc DocO DocK
set_option linter.unusedVariables false
def shf (z : List M) (i m : Nat) (d : Int) : List M := z.mapIdx (fun j r => if i ≤ j ∧ j < m then (⟨r.depth + d, r.title⟩ : M) else r)
theorem shf_len {z : List M} {i m : Nat} {d : Int} : (shf z i m d).length = z.length := by unfold shf; rw [List.length_mapIdx]
theorem shf_get {z : List M} {i m : Nat} {d : Int} (j : Nat) : (shf z i m d)[j]? = (z[j]?).map (fun r => if i ≤ j ∧ j < m then (⟨r.depth + d, r.title⟩ : M) else r) := by unfold shf; rw [List.getElem?_mapIdx]
theorem shf_start {z : List M} {i : Nat} {d : Int} : shf z i i d = z := by
  apply List.ext_getElem?
  intro j
  rw [shf_get]
  cases h : z[j]? with
  | none => rfl
  | some X => rw [Option.map_some, if_neg (by omega)]
theorem shf_at {z : List M} {i m : Nat} {d : Int} {X : M} (h : z[m]? = some X) : (shf z i m d)[m]? = some X := by
  rw [shf_get, h, Option.map_some, if_neg (by omega)]
theorem shf_next {z : List M} {i m : Nat} {d : Int} {X : M} (h : z[m]? = some X) (hi : i ≤ m) : (shf z i m d).set m (⟨X.depth + d, X.title⟩ : M) = shf z i (m + 1) d := by
  have hm := (List.getElem?_eq_some_iff.1 h).1
  apply List.ext_getElem?
  intro j
  rw [shf_get]
  by_cases hj : j = m
  · subst hj
    rw [List.getElem?_set_self (by rw [shf_len]; exact hm), h, Option.map_some, if_pos (by omega)]
  · rw [List.getElem?_set_ne (by omega), shf_get]
    cases h2 : z[j]? with
    | none => rfl
    | some Y =>
      rw [Option.map_some, Option.map_some]
      by_cases hc : i ≤ j ∧ j < m
      · rw [if_pos hc, if_pos (by omega)]
      · rw [if_neg hc, if_neg (by omega)]
theorem shf_fine {z : List M} {i m : Nat} {d : Int} (hz : ∀ x ∈ z, LSection.Fine x) : ∀ x ∈ shf z i m d, LSection.Fine x := by
  intro x hx
  unfold shf at hx
  obtain ⟨j, hj, e⟩ := List.mem_mapIdx.1 hx
  have := hz z[j] (List.getElem_mem hj)
  split at e
  · rw [← e]; exact this
  · rw [← e]; exact this
noncomputable def anA (z : List M) (i d : Int) : List M × Bool := if (askB z i && inB d (-4) 4) = true then chk (shf z i.toNat (i.toNat + 1 + prt z i.toNat) d) else ([], false)
theorem no1 {z : List M} {i d : Int} (h : askB z i = false) : anA z i d = ([], false) := by unfold anA; rw [h]; rfl
theorem no2 {z : List M} {i d : Int} (h : inB d (-4) 4 = false) : anA z i d = ([], false) := by unfold anA; rw [h, Bool.and_false]; rfl
theorem yes {z : List M} {k E : Nat} {d : Int} (h : askB z k = true) (hd : inB d (-4) 4 = true) (he : k + 1 + prt z k = E) : anA z k d = chk (shf z k E d) := by
  unfold anA; rw [h, hd, show ((k : Int)).toNat = k from rfl, he]; rfl
def Ans (z0 : List LSection.R) (a1 a2 : Int) (r0 : List LSection.R) (r1 : Bool) : Prop := anA z0 a1 a2 = (r0, r1)
theorem same {z0 : List LSection.R} {a1 a2 : Int} {r0 s0 : List LSection.R} {r1 s1 : Bool} (h : Ans z0 a1 a2 r0 r1) (h' : Ans z0 a1 a2 s0 s1) : r0 = s0 ∧ r1 = s1 := by
  have := h.symm.trans h'; simp only [Prod.mk.injEq] at this; exact this
theorem len0 {z0 : List LSection.R} {a1 a2 : Int} {r0 : List LSection.R} {r1 : Bool} (h : Ans z0 a1 a2 r0 r1) : r0.length ≤ 1048576 := by
  unfold Ans anA at h
  split at h
  · have := chk_len h; omega
  · simp only [Prod.mk.injEq] at h; rw [← h.1]; simp
def APost (z0 : List LSection.R) (a1 a2 : Int) (w : World) (e : Ending) (w' : World) : Prop :=
  ∃ v0 r0 r1, e = .returned (.tuple #[v0, .bool r1]) ∧ Ans z0 a1 a2 r0 r1 ∧ Own LSection.rec 34 w' w.heap.size v0 r0 ∧ Below w.heap.size w w'
set_option maxRecDepth 100000 in
set_option maxHeartbeats 3200000 in
theorem spec (v0 : Value) (z0 : List LSection.R) (a1 a2 : Int) (w : World) (h0 : IsS LSection.rec w v0 z0) (f0 : ∀ x ∈ z0, LSection.Fine x) (l0 : z0.length ≤ 1048576) :
    Calls Try.prog 23 #[v0, .int .i64 a1, .int .i64 a2] w (APost z0 a1 a2 w) := by
  have h1 := IsS.is LSection.rec h0
  have HQ := Lib.hid (l6Asked v0 z0 a1 w h1 f0)
  have hS := h0
  obtain ⟨b, o, cp, rfl, hbl, hxc, hcm, hcell⟩ := h0
  have HIS := Lib.hid hS
  obtain ⟨n, hn⟩ : ∃ n, n = z0.length := ⟨_, rfl⟩
  have HN := Lib.hid hn.symm
  have HC := Lib.hid hcell
  rw [← hn] at HQ HIS hxc l0 ⊢
  unfold maxLen at hcm
  clear hn hS h1 hcell
  have HI1 := Lib.hid (show Is LSection.rec w (.slice (some ⟨b, o, none⟩) n cp) z0 from IsS.is LSection.rec HIS.out)
  have HFI := Lib.hid (fun i m => shf_fine (i := i) (m := m) (d := a2) f0)
  clear f0
  obtain ⟨i0, hi, hz0, hz1, hz2⟩ := info_parts LSection.infoK
  have HI0 := Lib.hid hi
  have HZ0 := Lib.hid (And.intro hz0 (And.intro hz1 hz2))
  clear hi hz0 hz1 hz2
  cases hq : askB z0 a1 with
  | false =>
    have HA := Lib.hid (no1 (d := a2) hq)
    rw [hq] at HQ
    clear hq
    go_enter Try.func23, Try.ntmps23
    go_wp2_with fail
    refine HQ.out.mono ?_
    rintro e w1 ⟨rfl, hb1⟩
    have HO := Lib.hid (Own.start (T := LSection.rec) (E := 34) (w := w1) hb1.size)
    have hbz := hb1.alloc hb1.size (Obj.cells #[] 34)
    go_wp2_with fail
    go_ret2
    exact ⟨_, [], false, rfl, HA.out, HO.out, hbz⟩
  | true =>
    obtain ⟨hg, k, rfl, hk⟩ := ask_good hq
    have HAsk := Lib.hid hq
    have HGd := Lib.hid hg
    have HU := Lib.hid (fun X hX => l6Part _ z0 k X (HI1.out.below LSection.rec hX) hk)
    have hpl := prt_le z0 k hk
    have h12 := good_len hg
    rw [hq] at HQ
    rw [HN.out] at hpl h12 hk
    clear hq hg
    cases hi : inB a2 (-4) 4 with
    | false =>
      have HA := Lib.hid (no2 (z := z0) (i := (k : Int)) hi)
      have HIN := Lib.hid (fun W => in_as a2 (-4) 4 false hi W)
      clear hi
      go_enter Try.func23, Try.ntmps23
      go_wp2_with fail
      refine HQ.out.mono ?_
      rintro e w1 ⟨rfl, hb1⟩
      go_wp2_with fail
      refine (HIN.out _).mono ?_
      rintro e _ ⟨rfl, rfl⟩
      have HO := Lib.hid (Own.start (T := LSection.rec) (E := 34) (w := w1) hb1.size)
      have hbz := hb1.alloc hb1.size (Obj.cells #[] 34)
      go_wp2_with fail
      go_ret2
      exact ⟨_, [], false, rfl, HA.out, HO.out, hbz⟩
    | true =>
      obtain ⟨d0, d1⟩ := inB_yes hi
      obtain ⟨E, hE⟩ : ∃ E, k + 1 + prt z0 k = E := ⟨_, rfl⟩
      have HY := Lib.hid (yes HAsk.out hi hE)
      rw [hE] at hpl
      have HE := Lib.hid hE
      have HIN := Lib.hid hi
      have hkE : k < E := by omega
      clear hi hE
      have k0 : 0 ≤ (k : Int) := by omega
      go_enter Try.func23, Try.ntmps23
      go_wp2_with fail
      refine HQ.out.mono ?_
      rintro e w1 ⟨rfl, hb1⟩
      go_wp2_with fail
      refine (in_as a2 (-4) 4 true HIN.out _).mono ?_
      rintro e _ ⟨rfl, rfl⟩
      go_upto_region 3 with fail
      have hA1 : Below w1.heap.size w1 (w1.alloc (.cells #[] 34)) := (Below.refl _ _).alloc (Nat.le_refl _) _
      have HOS := Lib.hid (LSection.startB (A := w1.heap.size) (heap_alloc_new w1 (.cells #[] 34)) (Nat.le_refl _))
      have HS1 := Lib.hid (show ∀ w' : World, Below w1.heap.size w1 w' → ∀ j u, (flat LSection.rec z0)[j]? = some u → w'.cell? (Addr.add ⟨b, o, none⟩ j) = some u from fun w' hb =>
        (HIS.out.below LSection.rec (hb1.trans (hb.mono hb1.size))).flatCells LSection.rec)
      go_wp2_with (at_builtin; refine wpList_append_own _ rfl (.tmp 20) (.tmp 21) 24 rfl w1.heap.size 34 i0 (.agg #[.int .i64 0, .string ⟨#[]⟩]) 2 24 Try.underlying24 HI0.out HZ0.out.1 HZ0.out.2.1 HZ0.out.2.2 rfl (by decide) _ _ _ rfl HOS.out ⟨b, o, none⟩ (n) (cp) (flat LSection.rec (z0)) rfl ?c0 (HS1.out _ hA1) (flat_one _ _) ?c3 ?c4 ?c5 ?c6)
      case c0 => rw [flat_len, LSection.rec_n]; rw [HN.out]
      case c3 => unfold maxLen; omega
      case c4 => omega
      case c5 => first | (simp; done) | (simp; omega) | omega
      case c6 =>
        intro v w2 hown hgrow _
        have hb2 : Below w1.heap.size w1 w2 := hA1.grown hgrow (by simp) (fun j hj => (HOS.out.lt j hj).1)
        have hO := own_of LSection.rec (xs := z0) hown HN.out rfl
        have hbs := hb1.trans (hb2.mono hb1.size)
        obtain ⟨g, cg, rfl, hgA⟩ : ∃ g cg, v = .slice (some ⟨g, 0, none⟩) n cg ∧ w1.heap.size ≤ g ∧ g < w2.heap.size ∧ n ≤ cg ∧ cg ≤ maxLen := by
          rcases hO.shape with ⟨_, hz⟩ | ⟨g, cap, e, h1, h2, h3, h4⟩
          · rw [hz] at HN; have := HN.out; simp at this; omega
          · rw [HN.out] at e h3; exact ⟨g, cap, e, h1, h2, h3, h4⟩
        have HGB := Lib.hid (show w.heap.size ≤ g by have := hb1.size; omega)
        have HO0 := Lib.hid (show Own LSection.rec 34 w2 w.heap.size (.slice (some ⟨g, 0, none⟩) n cg) (shf z0 k k a2) by rw [shf_start]; exact hO.low hb1.size)
        have hgc : n ≤ cg := hgA.2.2.1
        have hgm := hgA.2.2.2
        unfold maxLen at hgm
        have hPE : k + 1 + prt z0 k = E := HE.out
        generalize prt z0 k = P at *
        have s7 : IntKind.i64.wrap ((k : Int) + (P : Int)) = (k : Int) + (P : Int) := IntWalk.i64_in _ (by omega)
        have HPE := Lib.hid hPE
        clear hO hb2 hgA hown hgrow hPE HE
        go_wp2_with fail
        go_loopw [9] (fun t wr => ∃ m : Nat, k ≤ m ∧ m ≤ E ∧ t = .int .i64 m ∧ Hid (Own LSection.rec 34 wr w.heap.size (.slice (some ⟨g, 0, none⟩) n cg) (shf z0 k m a2)) ∧ Below w.heap.size w wr) (fun t _ => E - (intOf t).toNat)
        case atStart => exact ⟨k, Nat.le_refl _, by omega, rfl, HO0, hbs⟩
        case round =>
          clear HO0 hbs
          obtain ⟨m, hkm, hmE, rfl, HO, hb⟩ := hrel
          by_cases hlt : m < E
          · have hxm : m < z0.length := by have := HN.out; omega
            have HX := Lib.hid (List.getElem?_eq_getElem hxm)
            generalize z0[m] = X at *
            obtain ⟨e0, e1, _⟩ := ok_parts (good_at HGd.out HX.out)
            have e2 := (top_bd (bef z0 m) (bef_bd (pre_low (good_of HGd.out).2 (by have := HN.out; omega)) (by omega)).1).2
            have e3 : X.depth ≤ 4 := by omega
            clear e1 e2
            have m0 : 0 ≤ (m : Int) := by omega
            have m1 : (m : Int) < (n : Int) := by omega
            have t1 : (m : Int) ≤ (k : Int) + (P : Int) := by have := HPE.out; omega
            have s9 : IntKind.i64.wrap (X.depth + a2) = X.depth + a2 := IntWalk.i64_in _ (by omega)
            have s10 : -9223372036854775808 ≤ X.depth + a2 := by omega
            have s11 : X.depth + a2 ≤ 9223372036854775807 := by omega
            go_wp2_with fail
            refine (HU.out _ hb).mono ?_
            rintro e w2 ⟨rfl, hb2⟩
            have hb3 := hb.trans (hb2.mono hb.size)
            have HO2 := Lib.hid (HO.out.kept hb2)
            clear hb HO hb2
            have hf := Own.frozen (by rw [shf_len]; exact HN.out) HO2.out
            obtain ⟨q0, q1⟩ := LSection.cells ((HC.out m X HX.out).below LSection.rec hb3 hbl)
            obtain ⟨u0, u1⟩ := LSection.cells (Own.at_ HO2.out m X (shf_at HX.out))
            simp only [LSection.rec_n] at q0 q1 u0 u1
            have HPut := Lib.hid (show Own LSection.rec 34 ((w2.setCell ⟨g, m * 2, none⟩ (.int .i64 (X.depth + a2))).setCell ⟨g, m * 2 + 1, none⟩ (.string X.title)) w.heap.size (.slice (some ⟨g, 0, none⟩) n cg) (shf z0 k (m + 1) a2) by
              rw [← shf_next HX.out hkm]
              exact LSection.putAll (by rw [shf_len]; exact HN.out) HO2.out m X ⟨X.depth + a2, X.title⟩ (shf_at HX.out))
            have hb4 := (hb3.setCell (p := ⟨g, m * 2, none⟩) (by have := HGB.out; show w.heap.size ≤ g; omega) (.int .i64 (X.depth + a2))).setCell (p := ⟨g, m * 2 + 1, none⟩) (by have := HGB.out; show w.heap.size ≤ g; omega) (.string X.title)
            clear HO2 hb3
            go_upto_region 7 with fail
            refine wp_region_still_tail 16 (by kernel_rfl) (by kernel_rfl) ?_
            simp only [List.take_succ_cons, List.take_zero, List.drop_succ_cons, List.drop_zero]
            repeat still_step
            refine wpStill_nil ?_
            go_wp2_with fail
            go_roundw
            case rel => exact ⟨m + 1, by omega, by omega, by go_num, HPut, hb4.drew⟩
            case measure => simp [intOf]; omega
          · obtain rfl : m = E := by omega
            have t1 : ¬ (m : Int) ≤ (k : Int) + (P : Int) := by have := HPE.out; omega
            go_wp2_with fail
            refine (HU.out _ hb).mono ?_
            rintro e w2 ⟨rfl, hb2⟩
            have hb3 := hb.trans (hb2.mono hb.size)
            have HO2 := Lib.hid (HO.out.kept hb2)
            clear hb HO hb2
            have HCK := Lib.hid (l6Checked _ (shf z0 k m a2) w.heap.size w2 HO2.out hb3.size (HFI.out k m))
            unfold KPost at HCK
            go_wp2_with fail
            refine HCK.out.mono ?_
            rintro e w4 ⟨v4, r0, r1, rfl, hA4, hO4, hb6⟩
            have HA := Lib.hid (HY.out.trans hA4)
            have HO4 := Lib.hid hO4
            have hb7 := hb3.trans (hb6.mono hb3.size)
            clear hb6 HO2 HCK hA4 hO4
            go_wp2_with fail
            go_ret2
            exact ⟨_, _, _, rfl, HA.out, HO4.out, hb7⟩
set_option maxRecDepth 100000 in
set_option maxHeartbeats 3200000 in
theorem impl (v0 : Value) (z0 : List LSection.R) (a1 a2 : Int) (w : World) (h0 : IsS LSection.rec w v0 z0) (f0 : ∀ x ∈ z0, LSection.Fine x) (l0 : z0.length ≤ 1048576) :
    Calls Try.prog 22 #[v0, .int .i64 a1, .int .i64 a2] w (APost z0 a1 a2 w) := by
  have h1 := IsS.is LSection.rec h0
  have HQ := Lib.hid (hasSection v0 z0 a1 w h1 f0)
  have hS := h0
  obtain ⟨b, o, cp, rfl, hbl, hxc, hcm, hcell⟩ := h0
  have HIS := Lib.hid hS
  obtain ⟨n, hn⟩ : ∃ n, n = z0.length := ⟨_, rfl⟩
  have HN := Lib.hid hn.symm
  have HC := Lib.hid hcell
  rw [← hn] at HQ HIS hxc l0 ⊢
  unfold maxLen at hcm
  clear hn hS h1 hcell
  have HI1 := Lib.hid (show Is LSection.rec w (.slice (some ⟨b, o, none⟩) n cp) z0 from IsS.is LSection.rec HIS.out)
  have HFI := Lib.hid (fun i m => shf_fine (i := i) (m := m) (d := a2) f0)
  clear f0
  obtain ⟨i0, hi, hz0, hz1, hz2⟩ := info_parts LSection.infoK
  have HI0 := Lib.hid hi
  have HZ0 := Lib.hid (And.intro hz0 (And.intro hz1 hz2))
  clear hi hz0 hz1 hz2
  cases hq : askB z0 a1 with
  | false =>
    have HA := Lib.hid (no1 (d := a2) hq)
    rw [hq] at HQ
    clear hq
    go_enter Try.func22, Try.ntmps22
    go_wp2_with fail
    refine HQ.out.mono ?_
    rintro e w1 ⟨rfl, hb1⟩
    have HO := Lib.hid (Own.start (T := LSection.rec) (E := 34) (w := w1) hb1.size)
    have hbz := hb1.alloc hb1.size (Obj.cells #[] 34)
    go_wp2_with fail
    go_ret2
    exact ⟨_, [], false, rfl, HA.out, HO.out, hbz⟩
  | true =>
    obtain ⟨hg, k, rfl, hk⟩ := ask_good hq
    have HAsk := Lib.hid hq
    have HGd := Lib.hid hg
    have HU := Lib.hid (fun X hX => endOfParts _ z0 k X (HI1.out.below LSection.rec hX) hk)
    have hpl := prt_le z0 k hk
    have h12 := good_len hg
    rw [hq] at HQ
    rw [HN.out] at hpl h12 hk
    clear hq hg
    cases hi : inB a2 (-4) 4 with
    | false =>
      have HA := Lib.hid (no2 (z := z0) (i := (k : Int)) hi)
      have hi2 := inB_no hi
      clear hi
      by_cases h0 : a2 < -4
      · clear hi2
        go_enter Try.func22, Try.ntmps22
        go_wp2_with fail
        refine HQ.out.mono ?_
        rintro e w1 ⟨rfl, hb1⟩
        have HO := Lib.hid (Own.start (T := LSection.rec) (E := 34) (w := w1) hb1.size)
        have hbz := hb1.alloc hb1.size (Obj.cells #[] 34)
        go_wp2_with fail
        go_ret2
        exact ⟨_, [], false, rfl, HA.out, HO.out, hbz⟩
      · have h1 : 4 < a2 := by omega
        clear hi2
        go_enter Try.func22, Try.ntmps22
        go_wp2_with fail
        refine HQ.out.mono ?_
        rintro e w1 ⟨rfl, hb1⟩
        have HO := Lib.hid (Own.start (T := LSection.rec) (E := 34) (w := w1) hb1.size)
        have hbz := hb1.alloc hb1.size (Obj.cells #[] 34)
        go_wp2_with fail
        go_ret2
        exact ⟨_, [], false, rfl, HA.out, HO.out, hbz⟩
    | true =>
      obtain ⟨d0, d1⟩ := inB_yes hi
      obtain ⟨E, hE⟩ : ∃ E, k + 1 + prt z0 k = E := ⟨_, rfl⟩
      have HY := Lib.hid (yes HAsk.out hi hE)
      rw [hE] at hpl HU
      have HE := Lib.hid hE
      have HIN := Lib.hid hi
      have hkE : k < E := by omega
      clear hi hE
      have k0 : 0 ≤ (k : Int) := by omega
      go_enter Try.func22, Try.ntmps22
      go_wp2_with fail
      refine HQ.out.mono ?_
      rintro e w1 ⟨rfl, hb1⟩

      go_wp2_with fail
      refine (LSection.clone _ z0 _ (HI1.out.below LSection.rec hb1) (by have := HN.out; omega)).mono ?_
      rintro e w2 ⟨v, rfl, hO, hb2⟩
      have hbs := hb1.trans (hb2.mono hb1.size)
      obtain ⟨g, cg, rfl, hgA⟩ : ∃ g cg, v = .slice (some ⟨g, 0, none⟩) n cg ∧ w1.heap.size ≤ g ∧ g < w2.heap.size ∧ n ≤ cg ∧ cg ≤ maxLen := by
        rcases hO.shape with ⟨_, hz⟩ | ⟨g, cap, e, h1, h2, h3, h4⟩
        · rw [hz] at HN; have := HN.out; simp at this; omega
        · rw [HN.out] at e h3; exact ⟨g, cap, e, h1, h2, h3, h4⟩
      have HGB := Lib.hid (show w.heap.size ≤ g by have := hb1.size; omega)
      have HO0 := Lib.hid (show Own LSection.rec 34 w2 w.heap.size (.slice (some ⟨g, 0, none⟩) n cg) (shf z0 k k a2) by rw [shf_start]; exact hO.low hb1.size)
      have hgc : n ≤ cg := hgA.2.2.1
      have hgm := hgA.2.2.2
      unfold maxLen at hgm
      clear hO hb2 hgA
      go_wp2_with fail
      go_loopw [9] (fun t wr => ∃ m : Nat, k ≤ m ∧ m ≤ E ∧ t = .int .i64 m ∧ Hid (Own LSection.rec 34 wr w.heap.size (.slice (some ⟨g, 0, none⟩) n cg) (shf z0 k m a2)) ∧ Below w.heap.size w wr) (fun t _ => E - (intOf t).toNat)
      case atStart => exact ⟨k, Nat.le_refl _, by omega, rfl, HO0, hbs⟩
      case round =>
        clear HO0 hbs
        obtain ⟨m, hkm, hmE, rfl, HO, hb⟩ := hrel
        by_cases hlt : m < E
        · have hxm : m < z0.length := by have := HN.out; omega
          have HX := Lib.hid (List.getElem?_eq_getElem hxm)
          generalize z0[m] = X at *
          obtain ⟨e0, e1, _⟩ := ok_parts (good_at HGd.out HX.out)
          have e2 := (top_bd (bef z0 m) (bef_bd (pre_low (good_of HGd.out).2 (by have := HN.out; omega)) (by omega)).1).2
          have e3 : X.depth ≤ 4 := by omega
          clear e1 e2
          have m0 : 0 ≤ (m : Int) := by omega
          have m1 : (m : Int) < (n : Int) := by omega
          have t1 : (m : Int) < (E : Int) := by omega
          have s9 : IntKind.i64.wrap (X.depth + a2) = X.depth + a2 := IntWalk.i64_in _ (by omega)
          have s10 : -9223372036854775808 ≤ X.depth + a2 := by omega
          have s11 : X.depth + a2 ≤ 9223372036854775807 := by omega
          go_wp2_with fail
          refine (HU.out _ hb).mono ?_
          rintro e w2 ⟨rfl, hb2⟩
          have hb3 := hb.trans (hb2.mono hb.size)
          have HO2 := Lib.hid (HO.out.kept hb2)
          clear hb HO hb2
          have hf := Own.frozen (by rw [shf_len]; exact HN.out) HO2.out
          obtain ⟨q0, q1⟩ := LSection.cells (Own.at_ HO2.out m X (shf_at HX.out))
          simp only [LSection.rec_n] at q0 q1
          have HPut := Lib.hid (show Own LSection.rec 34 (w2.setCell ⟨g, m * 2, none⟩ (.int .i64 (X.depth + a2))) w.heap.size (.slice (some ⟨g, 0, none⟩) n cg) (shf z0 k (m + 1) a2) by
            rw [← shf_next HX.out hkm]
            exact Own.put (by rw [shf_len]; exact HN.out) HO2.out m 0 X ⟨X.depth + a2, X.title⟩ _ (shf_at HX.out) (by decide) rfl)
          have hb4 := hb3.setCell (p := ⟨g, m * 2, none⟩) (by have := HGB.out; show w.heap.size ≤ g; omega) (.int .i64 (X.depth + a2))
          clear HO2 hb3
          go_wp2_with fail
          go_roundw
          case rel => exact ⟨m + 1, by omega, by omega, by go_num, HPut, hb4⟩
          case measure => simp [intOf]; omega
        · obtain rfl : m = E := by omega
          skip
          go_wp2_with fail
          refine (HU.out _ hb).mono ?_
          rintro e w2 ⟨rfl, hb2⟩
          have hb3 := hb.trans (hb2.mono hb.size)
          have HO2 := Lib.hid (HO.out.kept hb2)
          clear hb HO hb2
          go_wp2_with fail
          refine (DocG.isDocument _ (shf z0 k m a2) _ HO2.out.is (HFI.out k m)).mono ?_
          rintro e w4 ⟨rfl, hb6⟩
          have HO4 := Lib.hid (HO2.out.kept hb6)
          have hb7 := hb3.trans (hb6.mono hb3.size)
          clear hb6 HO2
          cases hg : goodB (shf z0 k m a2) with
          | false =>
            have HA := Lib.hid (HY.out.trans (chk_no hg))
            clear hg
            have HO := Lib.hid (Own.start (T := LSection.rec) (E := 34) (w := w4) hb7.size)
            have hbz := hb7.alloc hb7.size (Obj.cells #[] 34)
            go_wp2_with fail
            go_ret2
            exact ⟨_, [], false, rfl, HA.out, HO.out, hbz⟩
          | true =>
            have HA := Lib.hid (HY.out.trans (chk_yes hg))
            clear hg
            go_wp2_with fail
            go_ret2
            exact ⟨_, _, true, rfl, HA.out, HO4.out, hb7⟩
end Go.Proofs.Ytmpolpeomabcfaa.ShiftSectionC
