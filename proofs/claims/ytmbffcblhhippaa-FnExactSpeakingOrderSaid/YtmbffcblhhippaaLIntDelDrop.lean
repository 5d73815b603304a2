/- slices.DeleteFunc at []int: all but one number are kept. No condition but the length. -/
import Derived.Test.YtmbffcblhhippaaIntF
import Derived.Test.YtmbffcblhhippaaAppO
import Derived.Test.YtmbffcblhhippaaJ1
import Derived.Lib.SliceRun
namespace Go.Proofs.Ytmbffcblhhippaa.LIntDelDrop
open Go Go.RowKit Bs Word Sq IntF
set_option linter.unusedVariables false
theorem closure (x m : Int) (B : Nat) (w : World) (h : w.cell? ⟨B, 0, none⟩ = some (.int .i64 m)) : Calls Try.prog 67 #[.int .i64 x, .pointer (some ⟨B, 0, none⟩)] w fun e w' => e = .returned (.bool (x == m)) ∧ w = w' := by
  go_enter Try.func67, Try.ntmps67
  go_wp2_with fail
  go_ret
  exact ⟨rfl, rfl⟩
set_option maxRecDepth 100000 in
set_option maxHeartbeats 800000 in
theorem indexFunc (v0 : Value) (z : List Int) (m : Int) (B : Nat) (w : World) (h0 : Is LInt.rec w v0 z) (hB : w.cell? ⟨B, 0, none⟩ = some (.int .i64 m)) :
    Calls Try.prog 74 #[v0, .func (.func 67) #[] #[.pointer (some ⟨B, 0, none⟩)]] w fun e w' => e = .returned (.int .i64 (ix (z.findIdx? (fun X => (X == m))))) ∧ w = w' := by
  obtain ⟨a, cp, rfl, h0⟩ := h0
  have hc := h0.at_ LInt.rec
  obtain ⟨n, hn⟩ : ∃ n, n = z.length := ⟨_, rfl⟩
  have hnb : n ≤ cp := by have := h0.1; omega
  have hn2 := h0.2.1
  unfold maxLen at hn2
  have HN := Lib.hid hn.symm
  rw [← hn]
  have hnle : n ≤ z.length := by omega
  clear hn h0
  have HCL := Lib.hid (fun x => closure x m B w hB)
  clear hB
  go_enter Try.func74, Try.ntmps74
  go_wp2_with fail
  go_loop [8] (fun i => ∃ k : Nat, k ≤ n ∧ i = .int .i64 k ∧ Hid (Sq.First (fun X => (X == m)) z k)) (fun i => n - (intOf i).toNat)
  case atStart => exact ⟨0, Nat.zero_le _, rfl, Lib.hid Sq.first_zero⟩
  case round =>
    obtain ⟨k, hk, rfl, HF⟩ := hrel
    by_cases hlt : k < n
    · have hx : k < z.length := by omega
      obtain ⟨b, o, rfl, hbl, hcell0⟩ := hc.out k z[k] (List.getElem?_eq_getElem hx)
      have q0 := LInt.cells (hcell0)
      simp only [LInt.rec_n, Nat.mul_one] at q0
      have HX := Lib.hid (List.getElem?_eq_getElem hx)
      clear hcell0
      generalize z[k] = X at *
      cases g : (X == m) with
      | true =>
        have HI := Lib.hid (Sq.first_hit HF.out HX.out g)
        go_wp2_with (go_at_call 67; refine (HCL.out X).mono ?_; rintro e w2 ⟨rfl, rfl⟩)
        go_ret
        exact ⟨ret_int (by rw [HI.out]; rfl), rfl⟩
      | false =>
        have HF2 := Lib.hid (Sq.first_next HF.out HX.out g)
        go_wp2_with (go_at_call 67; refine (HCL.out X).mono ?_; rintro e w2 ⟨rfl, rfl⟩)
        go_round
        case rel => exact ⟨k + 1, by omega, by go_num, HF2⟩
        case measure => simp [intOf]; omega
    · have HI := Lib.hid (Sq.first_none HF.out (by have := HN.out; omega))
      go_wp2_with fail
      go_ret
      exact ⟨ret_int (by rw [HI.out]; rfl), rfl⟩
/-- those that are kept -/
def kept (z : List Int) (m : Int) : List Int := z.filter (fun x => !(x == m))
theorem kept_none {z : List Int} {m : Int} (h : z.findIdx? (fun X => (X == m)) = none) : kept z m = z := by
  unfold kept
  rw [List.filter_eq_self]
  intro x hx
  rw [idx_none h x hx]; rfl
theorem kept_first {z : List Int} {m : Int} {k : Nat} (h : z.findIdx? (fun X => (X == m)) = some k) : k < z.length ∧ kept (z.take (k + 1)) m = z.take k := by
  obtain ⟨X, hx, hp, hf⟩ := idx_some h
  have hk := (List.getElem?_eq_some_iff.1 hx).1
  refine ⟨hk, ?_⟩
  have hxe : z[k] = X := (List.getElem?_eq_some_iff.1 hx).2
  unfold kept
  rw [List.take_succ_eq_append_getElem hk, List.filter_append, hxe, List.filter_cons_of_neg (by rw [hp]; decide), List.filter_nil, List.append_nil, List.filter_eq_self]
  intro x hx2
  obtain ⟨j, hj, rfl⟩ := List.getElem_of_mem hx2
  rw [List.length_take] at hj
  have := hf j z[j] (by omega) (List.getElem?_eq_getElem (by omega))
  have h9 : (z[j] == m) = false := this
  rw [List.getElem_take, h9]; rfl
theorem kept_yes {z : List Int} {m : Int} {j : Nat} {x : Int} (hx : z[j]? = some x) (h : (x == m) = false) : kept (z.take (j + 1)) m = kept (z.take j) m ++ [x] := by
  obtain ⟨hj, rfl⟩ := List.getElem?_eq_some_iff.1 hx
  unfold kept
  rw [List.take_succ_eq_append_getElem hj, List.filter_append, List.filter_cons_of_pos (by rw [h]; rfl), List.filter_nil]
theorem kept_no {z : List Int} {m : Int} {j : Nat} {x : Int} (hx : z[j]? = some x) (h : (x == m) = true) : kept (z.take (j + 1)) m = kept (z.take j) m := by
  obtain ⟨hj, rfl⟩ := List.getElem?_eq_some_iff.1 hx
  unfold kept
  rw [List.take_succ_eq_append_getElem hj, List.filter_append, List.filter_cons_of_neg (by rw [h]; decide), List.filter_nil, List.append_nil]
/-- the row while those kept are moved down: i of j kept -/
def Mid (z zz : List Int) (m : Int) (i j : Nat) : Prop := zz.length = z.length ∧ i < j ∧ zz.take i = kept (z.take j) m ∧ ∀ q, j ≤ q → zz[q]? = z[q]?
theorem mid_start {z : List Int} {m : Int} {k : Nat} (h : z.findIdx? (fun X => (X == m)) = some k) : Mid z z m k (k + 1) := ⟨rfl, Nat.lt_succ_self _, (kept_first h).2.symm, fun _ _ => rfl⟩
theorem mid_skip {z zz : List Int} {m x : Int} {i j : Nat} (h : Mid z zz m i j) (hx : z[j]? = some x) (he : (x == m) = true) : Mid z zz m i (j + 1) :=
  ⟨h.1, by have := h.2.1; omega, by rw [kept_no hx he]; exact h.2.2.1, fun q hq => h.2.2.2 q (by omega)⟩
theorem mid_put {z zz : List Int} {m x : Int} {i j : Nat} (h : Mid z zz m i j) (hx : z[j]? = some x) (he : (x == m) = false) : Mid z (zz.set i x) m (i + 1) (j + 1) := by
  obtain ⟨h1, h2, h3, h4⟩ := h
  have hj := (List.getElem?_eq_some_iff.1 hx).1
  refine ⟨by simpa using h1, by omega, ?_, fun q hq => by rw [List.getElem?_set_ne (by omega)]; exact h4 q (by omega)⟩
  rw [kept_yes hx he, ← h3]
  rw [List.take_succ_eq_append_getElem (by rw [List.length_set]; omega), List.getElem_set_self, List.take_set_of_le (Nat.le_refl _)]
theorem mid_end {z zz : List Int} {m : Int} {i j : Nat} (h : Mid z zz m i j) (hj : z.length ≤ j) : zz.take i = kept z m := by
  rw [h.2.2.1, List.take_of_length_le hj]
theorem own_prefix {w : World} {A g n c i : Nat} {zz : List Int} (h : Own LInt.rec 3 w A (.slice (some ⟨g, 0, none⟩) n c) zz) (hi : i ≤ n) : Own LInt.rec 3 w A (.slice (some ⟨g, 0, none⟩) i c) (zz.take i) := by
  obtain ⟨cur, hg, hcs, htk, hAg, hnc, hcm, hzl⟩ := own_row h
  refine own_mk (C := cur.toList) hg hAg (by rw [List.length_take]; omega) (by omega) hcm (by simpa using hcs) ⟨cur.toList.drop (i * LInt.rec.n), ?_⟩
  have e1 : flat LInt.rec (zz.take i) = cur.toList.take (i * LInt.rec.n) := by
    have hl : (flat LInt.rec (zz.take i)).length = i * LInt.rec.n := by rw [flat_len, List.length_take]; congr 1; omega
    have h3 : (cur.toList.take (zz.length * LInt.rec.n)).take (i * LInt.rec.n) = (flat LInt.rec (zz.take i) ++ flat LInt.rec (zz.drop i)).take (i * LInt.rec.n) := by
      rw [htk, ← flat_append, List.take_append_drop]
    rw [List.take_take, Nat.min_eq_left (Nat.mul_le_mul_right _ (by omega)), List.take_left' hl] at h3
    exact h3.symm
  rw [e1, List.take_append_drop]
theorem own_clear {A g n c i0 : Nat} : ∀ (vs : List Value) (i : Nat) (zz : List Int) (w : World), (∀ v ∈ vs, ∃ a : Int, v = .int .i64 a) → Own LInt.rec 3 w A (.slice (some ⟨g, 0, none⟩) n c) zz → i0 ≤ i → i + vs.length ≤ n →
    ∃ zz', Own LInt.rec 3 (w.setCells g i vs) A (.slice (some ⟨g, 0, none⟩) n c) zz' ∧ zz'.take i0 = zz.take i0 ∧ Apart g (g + 1) w (w.setCells g i vs)
  | [], i, zz, w, _, h, _, _ => ⟨zz, h, rfl, Apart.refl _ _ _⟩
  | v :: vs, i, zz, w, hv, h, h0, hn => by
    obtain ⟨a, rfl⟩ := hv v (List.mem_cons_self)
    have hzl : zz.length = n := by obtain ⟨_, _, _, _, _, _, _, hzl⟩ := own_row h; exact hzl
    simp only [List.length_cons] at hn
    have hi : i < zz.length := by rw [hzl]; omega
    have hput := Own.put (T := LInt.rec) hzl h i 0 (zz[i]'hi) a (.int .i64 a) (List.getElem?_eq_getElem hi) (by decide) rfl
    rw [show i * LInt.rec.n + 0 = i from by show i * 1 + 0 = i; omega] at hput
    obtain ⟨zz', h1, h2, h3⟩ := own_clear (i0 := i0) vs (i + 1) (zz.set i a) (w.setCell ⟨g, i, none⟩ (.int .i64 a)) (fun u hu => hv u (List.mem_cons_of_mem _ hu)) hput (by omega) (by omega)
    refine ⟨zz', h1, by rw [h2, List.take_set_of_le h0], ((Apart.refl g (g + 1) w).set (p := ⟨g, i, none⟩) (Nat.le_refl _) (Nat.lt_succ_self _) _).trans h3⟩
def Post (A g c : Nat) (z : List Int) (m : Int) (w : World) (e : Ending) (w' : World) : Prop := ∃ n', e = .returned (.slice (some ⟨g, 0, none⟩) n' c) ∧ Own LInt.rec 3 w' A (.slice (some ⟨g, 0, none⟩) n' c) (kept z m) ∧ Apart g (g + 1) w w'
set_option maxRecDepth 100000 in
set_option maxHeartbeats 1600000 in
theorem deleteFunc {A : Nat} (g n c : Nat) (z : List Int) (m : Int) (B : Nat) (w : World) (h : Own LInt.rec 3 w A (.slice (some ⟨g, 0, none⟩) n c) z) (hB : Bx w B 3 #[.int .i64 m]) (hBg : B ≠ g) (hl : n ≤ 1048577) :
    Calls Try.prog 66 #[.slice (some ⟨g, 0, none⟩) n c, .func (.func 67) #[] #[.pointer (some ⟨B, 0, none⟩)]] w (Post A g c z m w) := by
  have hBc := hB.cell 0
  simp only [List.getElem?_toArray, List.getElem?_cons_zero] at hBc
  obtain ⟨_, _, _, _, hAg, hnc, hcm, hzl⟩ := own_row h
  unfold maxLen at hcm
  have HN := Lib.hid hzl
  have HIF := Lib.hid (indexFunc _ z m B w h.is hBc)
  have HO := Lib.hid h
  have HB := Lib.hid hB
  clear h hB hzl hBc
  cases hi : z.findIdx? (fun X => (X == m)) with
  | none =>
    have HI := Lib.hid (show Calls Try.prog 74 #[.slice (some ⟨g, 0, none⟩) n c, .func (.func 67) #[] #[.pointer (some ⟨B, 0, none⟩)]] w fun e w' => e = .returned (.int .i64 (-1)) ∧ w = w' from by have h1 := HIF.out; rw [hi] at h1; exact h1)
    have HK := Lib.hid (kept_none hi)
    clear HIF hi
    go_enter Try.func66, Try.ntmps66
    go_wp2_with fail
    refine HI.out.mono ?_
    rintro e w' ⟨rfl, rfl⟩
    go_wp2_with fail
    go_ret
    exact ⟨n, rfl, by rw [HK.out]; exact HO.out, Apart.refl _ _ _⟩
  | some k =>
    have HI := Lib.hid (show Calls Try.prog 74 #[.slice (some ⟨g, 0, none⟩) n c, .func (.func 67) #[] #[.pointer (some ⟨B, 0, none⟩)]] w fun e w' => e = .returned (.int .i64 (k : Int)) ∧ w = w' from by have h1 := HIF.out; rw [hi] at h1; exact h1)
    have HM0 := Lib.hid (mid_start hi)
    have hk : k < n := by have := (kept_first hi).1; have := HN.out; omega
    have s1 : IntKind.i64.wrap ((k : Int) + 1) = (k : Int) + 1 := IntWalk.i64_in _ (by omega)
    have hne : ((k : Int) == -1) = false := by first | (simp; done) | (simp; omega)
    clear HIF hi
    go_enter Try.func66, Try.ntmps66
    go_wp2_with fail
    refine HI.out.mono ?_
    rintro e w' ⟨rfl, rfl⟩
    go_wp2_with fail
    go_loopw [5, 6] (fun s5 s6 wr => ∃ (i j : Nat) (zz : List Int), s5 = .int .i64 i ∧ s6 = .int .i64 j ∧ i < j ∧ j ≤ n ∧ Hid (Mid z zz m i j) ∧ Hid (Own LInt.rec 3 wr A (.slice (some ⟨g, 0, none⟩) n c) zz) ∧ Apart g (g + 1) w wr) (fun _ s6 _ => n - (intOf s6).toNat)
    case atStart => exact ⟨k, k + 1, z, rfl, by go_num, Nat.lt_succ_self _, by omega, HM0, HO, Apart.refl _ _ _⟩
    case round =>
      clear HM0 HO
      obtain ⟨i, j, zz, rfl, rfl, hij, hjn, HM, HO, hap⟩ := hrel
      have HZL := Lib.hid (show zz.length = n by rw [HM.out.1]; exact HN.out)
      by_cases hlt : j < n
      · have hx : j < z.length := by have := HN.out; omega
        have HX := Lib.hid (List.getElem?_eq_getElem hx)
        generalize z[j] = x at *
        have HZX := Lib.hid (show zz[j]? = some x by rw [HM.out.2.2.2 j (Nat.le_refl _)]; exact HX.out)
        have y0 := LInt.cells (HO.out.at_ j x HZX.out)
        simp only [LInt.rec_n, Nat.mul_one] at y0
        have HBr := Lib.hid (box_apart HB.out hap (by omega))
        have HCL := Lib.hid (closure x m B wr (by have := HBr.out.cell 0; simpa using this))
        have j0 : 0 ≤ (j : Int) := by omega
        have j1 : (j : Int) < (n : Int) := by omega
        cases g1 : (x == m) with
        | true =>
          have HM2 := Lib.hid (mid_skip HM.out HX.out g1)
          go_wp2_with (go_at_call 67; refine HCL.out.mono ?_; rintro e w2 ⟨rfl, rfl⟩)
          go_roundw
          case rel => exact ⟨i, j + 1, zz, rfl, by go_num, by omega, by omega, HM2, HO, hap⟩
          case measure => simp [intOf]; omega
        | false =>
          have HM2 := Lib.hid (mid_put HM.out HX.out g1)
          have hput := Own.put (T := LInt.rec) HZL.out HO.out i 0 _ x (.int .i64 x) (List.getElem?_eq_getElem (by have := HZL.out; omega)) (by decide) rfl
          rw [show i * LInt.rec.n + 0 = i from by show i * 1 + 0 = i; omega] at hput
          have HO2 := Lib.hid hput
          have i0 : 0 ≤ (i : Int) := by omega
          have i1 : (i : Int) < (n : Int) := by omega
          have fz := Own.frozen HZL.out HO.out i
          have y1 := LInt.cells (HO.out.at_ i _ (List.getElem?_eq_getElem (by have := HZL.out; omega)))
          simp only [LInt.rec_n, Nat.mul_one] at y1
          have hap2 := hap.set (p := ⟨g, i, none⟩) (Nat.le_refl _) (Nat.lt_succ_self _) (.int .i64 x)
          clear hput
          go_wp2_with (go_at_call 67; refine HCL.out.mono ?_; rintro e w2 ⟨rfl, rfl⟩)
          go_roundw
          case rel => exact ⟨i + 1, j + 1, zz.set i x, by go_num, by go_num, by omega, by omega, HM2, HO2, hap2⟩
          case measure => simp [intOf]; omega
      · obtain rfl : j = n := by omega
        have HE := Lib.hid (mid_end HM.out (by have := HN.out; omega))
        have hin : i < j := hij
        obtain ⟨zz', o1, o2, o3⟩ := own_clear (i0 := i) (List.replicate (j - i) (.int .i64 0)) i zz wr (fun v hv => ⟨0, List.eq_of_mem_replicate hv⟩) HO.out (Nat.le_refl _) (by simp; omega)
        have o1 := own_prefix o1 (i := i) (by omega)
        rw [o2, HE.out] at o1
        have HO1 := Lib.hid o1
        have HA := Lib.hid (hap.trans o3)
        have hcl : ∀ ty, (Builtin.clear_ #[22] ty #[.slice (some ⟨g, i, none⟩) (j - i) (c - i)]).run Try.prog wr = .ok (.tuple #[]) (wr.setCells g i (List.replicate (j - i) (.int .i64 0))) := fun ty => by
          refine Lib.run_clear_slice wr _ _ ty _ Try.underlying22 (fun w => by kernel_rfl) rfl rfl g i _ _ (by omega) (fun t ht => ?_) (fun t ht => Own.frozen HZL.out HO.out (i + t))
          have hz : i + t < zz.length := by have := HZL.out; omega
          have := LInt.cells (HO.out.at_ (i + t) _ (List.getElem?_eq_getElem hz))
          simp only [LInt.rec_n, Nat.mul_one] at this
          rw [this]; rfl
        have i0 : 0 ≤ (i : Int) := by omega
        have i1 : (i : Int) ≤ (j : Int) := by omega
        have i2 : (i : Int) ≤ (c : Int) := by omega
        have i3 : ¬ (c = i) := by omega
        clear o1 o2 o3
        go_wp2_with fail
        go_ret
        exact ⟨i, rfl, HO1.out, HA.out⟩
end Go.Proofs.Ytmbffcblhhippaa.LIntDelDrop
