/- slices.Grow at the nil slice, slices.Concat, at slices of Proxy. No condition but that all together are at most 1048576. -/
import Derived.Test.YtdjnaoaniokbgaaJ1
import Derived.Test.YtdjnaoaniokbgaaAppO
import Derived.Lib.AppendZerosOnto
namespace Go.Proofs.Ytdjnaoaniokbgaa.LProxy
open Go.RowKit Bs
set_option linter.unusedVariables false
theorem grow0 (w : World) : Calls Try.prog 89 #[.slice none 0 0, .int .i64 0] w fun e w' => e = .returned (.slice none 0 0) ∧ w = w' := by
  go_enter Try.func89, Try.ntmps89
  go_wp2_with fail
  go_ret
  exact ⟨rfl, rfl⟩
set_option maxHeartbeats 800000 in
theorem grow1 (n : Nat) (w : World) (h0 : 0 < n) (hn : n ≤ 1048576) :
    Calls Try.prog 89 #[.slice none 0 0, .int .i64 n] w fun e w' => ∃ v, e = .returned v ∧ Own LProxy.rec 70 w' w.heap.size v [] ∧ Below w.heap.size w w' := by
  obtain ⟨i0, hi, hz0, hz1, hz2⟩ := info_parts infoK
  have hrz := fun ty => Lib.run_append_grow_zeros (P := Try.prog) w 25 3 ty 70 i0 _ .i64 .i64 Try.underlying25 Try.underlying3 hi hz0 none 0 0 [] (run_firstCells_none w.drew i0.size 0 0 0) n h0 (by omega) (by omega) (by omega) (by rw [hz2]; omega) (by rw [Nat.zero_add, nextslicecap_zero h0, hz2]; omega)
  have hGm := grownCap_le_maxLen w (0 + n) 0 70 (by unfold maxLen; omega)
  have hGn : 0 + n ≤ grownCap w (0 + n) 0 70 := grownCap_ge w _ _ _
  obtain ⟨GC, hG⟩ : ∃ GC, GC = grownCap w (0 + n) 0 70 := ⟨_, rfl⟩
  rw [← hG] at hrz hGm hGn
  obtain ⟨CS, hCS⟩ : ∃ CS, CS = ([].toArray ++ Builtin.zeroCells (Value.cells (.agg #[.int .i64 0, .int .i64 0])) n ++ Builtin.zeroCells (Value.cells (.agg #[.int .i64 0, .int .i64 0])) (GC - (0 + n))) := ⟨_, rfl⟩
  have hsz : CS.size = GC * 2 := by
    rw [hCS]
    simp [Builtin.zeroCells, Value.cells]
    omega
  rw [← hCS] at hrz
  have HO := Lib.hid (show Own LProxy.rec 70 (w.drew.alloc (.cells CS 70)) w.heap.size (.slice (some ⟨w.heap.size, 0, none⟩) 0 GC) [] from World.ownsRow_made (base := w.heap.size) (size := 2) w.drew CS GC (Nat.le_refl _) hGm hsz)
  have hb := (Below.refl w.heap.size w).drew.alloc (Nat.le_refl _) (.cells CS 70)
  have HR := Lib.hid hrz
  unfold maxLen at hGm
  clear hi hz0 hz1 hz2 hrz hG hCS hsz
  go_enter Try.func89, Try.ntmps89
  go_wp2_with (at_builtin; refine Lib.wpList_append_run _ rfl _ _ _ _ rfl _ _ rfl rfl _ _ (HR.out _) ?_)
  go_ret
  exact ⟨_, rfl, HO.out, hb⟩
theorem grow (n : Nat) (w : World) (hn : n ≤ 1048576) :
    Calls Try.prog 89 #[.slice none 0 0, .int .i64 n] w fun e w' => ∃ v, e = .returned v ∧ Own LProxy.rec 70 w' w.heap.size v [] ∧ Below w.heap.size w w' := by
  rcases Nat.eq_zero_or_pos n with rfl | h
  · exact (grow0 w).mono fun e w' ⟨he, hw⟩ => ⟨_, he, Own.nil, by subst hw; exact Below.refl _ _⟩
  · exact grow1 n w h hn

/-- some slices, one behind the other -/
def csum (xss : List (List LProxy.R)) (k : Nat) : Nat := ((xss.take k).map List.length).sum
theorem csum_next (xss : List (List LProxy.R)) (k : Nat) (h : k < xss.length) : csum xss (k + 1) = csum xss k + (xss[k]).length := by
  unfold csum; rw [List.take_succ_eq_append_getElem h, List.map_append, List.sum_append]; simp
theorem csum_le (xss : List (List LProxy.R)) (k : Nat) : csum xss k ≤ xss.flatten.length := by
  have h : (xss.take k).flatten.length + (xss.drop k).flatten.length = xss.flatten.length := by
    rw [← List.length_append, ← List.flatten_append, List.take_append_drop]
  unfold csum
  rw [← List.length_flatten]
  omega
theorem csum_all (xss : List (List LProxy.R)) (k : Nat) (h : xss.length ≤ k) : csum xss k = xss.flatten.length := by
  unfold csum; rw [List.take_of_length_le h, List.length_flatten]
theorem flat_next (xss : List (List LProxy.R)) (k : Nat) (h : k < xss.length) : (xss.take (k + 1)).flatten = (xss.take k).flatten ++ xss[k] := by
  rw [List.take_succ_eq_append_getElem h, List.flatten_append]; simp
theorem flat_len2 (xss : List (List LProxy.R)) (k : Nat) : (xss.take k).flatten.length = csum xss k := by unfold csum; rw [List.length_flatten]
set_option maxRecDepth 100000 in
set_option maxHeartbeats 1600000 in
theorem concat (B n c : Nat) (vs : List Value) (xss : List (List LProxy.R)) (w : World) (hB : B < w.heap.size) (hnc : n ≤ c) (hc : c ≤ maxLen) (hvl : vs.length = n) (hxl : xss.length = n)
    (hcell : ∀ (j : Nat) (v : Value), vs[j]? = some v → w.cell? ⟨B, j, none⟩ = some v) (hIs : ∀ (j : Nat) (v : Value) (xs : List LProxy.R), vs[j]? = some v → xss[j]? = some xs → IsQ LProxy.rec w v xs) (hsum : xss.flatten.length ≤ 1048576) :
    Calls Try.prog 83 #[.slice (some ⟨B, 0, none⟩) n c] w fun e w' => ∃ v, e = .returned v ∧ Own LProxy.rec 70 w' w.heap.size v xss.flatten ∧ Below w.heap.size w w' := by
  obtain ⟨i0, hi, hz0, hz1, hz2⟩ := info_parts infoK
  have HI := Lib.hid hi
  have HZ := Lib.hid (And.intro hz0 (And.intro hz1 hz2))
  have HC := Lib.hid hcell
  have HS := Lib.hid hIs
  unfold maxLen at hc
  have hvn : n ≤ vs.length := by omega
  have hxn : n ≤ xss.length := by omega
  have HX := Lib.hid hxl
  obtain ⟨t, ht⟩ : ∃ t, t = xss.flatten.length := ⟨_, rfl⟩
  have HT := Lib.hid ht
  rw [← ht] at hsum
  clear hi hz0 hz1 hz2 hcell hIs hvl hxl ht
  go_enter Try.func83, Try.ntmps83
  go_wp2_with fail
  go_loop [3, 11] (fun s i => ∃ k m : Nat, k ≤ n ∧ i = .int .i64 k ∧ s = .int .i64 m ∧ m ≤ 1048576 ∧ Hid (m = csum xss k)) (fun _ i => n - (intOf i).toNat)
  case atStart => exact ⟨0, 0, Nat.zero_le _, rfl, rfl, by omega, Lib.hid (by simp [csum])⟩
  case round =>
    obtain ⟨k, m, hk, rfl, rfl, hm, HM⟩ := hrel
    by_cases hlt : k < n
    · have hv : k < vs.length := by omega
      have hx : k < xss.length := by omega
      have hq := HC.out k _ (List.getElem?_eq_getElem hv)
      have hqq := HS.out k _ _ (List.getElem?_eq_getElem hv) (List.getElem?_eq_getElem hx)
      obtain ⟨ao, l, cp, hval⟩ := isq_slice hqq
      rw [hval] at hqq
      obtain ⟨hl, hl1, hl2⟩ := isq_len hqq
      clear hqq
      have HN := Lib.hid (csum_next xss k hx)
      have h1 := csum_le xss (k + 1)
      rw [HN.out, ← HM.out, ← HT.out] at h1
      rw [hval] at hq
      clear hval
      unfold maxLen at hl2
      rw [hl] at h1
      have HL := Lib.hid hl.symm
      clear hl
      have k0 : 0 ≤ (k : Int) := by omega
      have k1 : (k : Int) < (n : Int) := by omega
      go_wp2_with fail
      go_round
      case rel => exact ⟨k + 1, m + l, by omega, by go_num, by go_num, by omega, Lib.hid (by rw [HN.out, ← HM.out, ← HL.out])⟩
      case measure => simp [intOf]; omega
    · have hkn : k = n := by omega
      have HE := Lib.hid (show m = t by rw [HM.out, HT.out, csum_all xss k (by have := HX.out; omega)])
      clear hkn
      have hmt : m = t := HE.out
      subst hmt
      go_wp2_with fail
      refine (grow m _ hsum).mono ?_
      rintro e w1 ⟨v, rfl, hv, hb1⟩
      have HO := Lib.hid hv
      clear hv HE
      go_wp2_with fail
      go_loopw [6, 27] (fun v i wr => ∃ k : Nat, k ≤ n ∧ i = .int .i64 k ∧ Hid (Own LProxy.rec 70 wr w.heap.size v (xss.take k).flatten) ∧ Below w.heap.size w wr) (fun _ i _ => n - (intOf i).toNat)
      case atStart => exact ⟨0, Nat.zero_le _, rfl, HO, hb1⟩
      case round =>
        clear HO hb1
        obtain ⟨k, hk, rfl, HO, hb⟩ := hrel
        by_cases hlt : k < n
        · have hv : k < vs.length := by omega
          have hx : k < xss.length := by omega
          have hq : wr.cell? ⟨B, k, none⟩ = some vs[k] := by rw [hb.cell (p := ⟨B, k, none⟩) hB]; exact HC.out k _ (List.getElem?_eq_getElem hv)
          have hqq := HS.out k _ _ (List.getElem?_eq_getElem hv) (List.getElem?_eq_getElem hx)
          obtain ⟨ao, l, cp, hval⟩ := isq_slice hqq
          rw [hval] at hqq
          obtain ⟨hl, hl1, hl2⟩ := isq_len hqq
          have HN := Lib.hid (csum_next xss k hx)
          have HFN := Lib.hid (flat_next xss k hx)
          have HFL := Lib.hid (flat_len2 xss k)
          have h1 := csum_le xss (k + 1)
          rw [HN.out, ← HT.out] at h1
          rw [hval] at hq
          have HAt := Lib.hid (IsQ.src (IsQ.below hqq hb)).1
          clear hval hqq
          unfold maxLen at hl2
          rw [hl] at h1
          have HL := Lib.hid hl
          clear hl
          have hfl : (xss.take k).flatten.length + l ≤ 1048576 := by have := HFL.out; omega
          have k0 : 0 ≤ (k : Int) := by omega
          have k1 : (k : Int) < (n : Int) := by omega
          have hws := hb.size
          generalize xss[k] = X at *
          go_wp2_with (at_builtin; refine wpList_append_o (T := LProxy.rec) _ rfl (.tmp 31) (.tmp 32) 25 rfl w.heap.size 70 i0 (.agg #[.int .i64 0, .int .i64 0]) 16 Try.underlying25 HI.out HZ.out.1 HZ.out.2.1 HZ.out.2.2 rfl _ _ rfl HO.out ao l cp X rfl HL.out HAt.out (by unfold maxLen; omega) (by omega) hws ?_)
          · intro v' w2 hown hgrow _ _
            have hb2 : Below w.heap.size w w2 := hb.grown hgrow hws (fun j hj => (HO.out.lt j hj).1)
            have HO2 := Lib.hid (show Own LProxy.rec 70 w2 w.heap.size v' (xss.take (k + 1)).flatten by rw [HFN.out]; exact hown)
            clear hown hgrow
            go_wp2_with fail
            go_roundw
            case rel => exact ⟨k + 1, by omega, by go_num, HO2, hb2⟩
            case measure => simp [intOf]; omega
        · have hkn : xss.take k = xss := List.take_of_length_le (by have := HX.out; omega)
          rw [hkn] at HO
          clear hkn
          go_wp2_with fail
          go_ret
          exact ⟨_, rfl, HO.out, hb⟩
theorem concat2 (X : World) (B : Nat) (v1 v2 : Value) (z1 z2 : List LProxy.R) (h1 : IsQ LProxy.rec X v1 z1) (h2 : IsQ LProxy.rec X v2 z2) (hX : X.heap[B]? = some (.cells #[v1, v2] 25)) (hsum : (z1 ++ z2).length ≤ 1048576) :
    Calls Try.prog 83 #[.slice (some ⟨B, 0, none⟩) 2 2] X fun e w' => ∃ v, e = .returned v ∧ Own LProxy.rec 70 w' X.heap.size v (z1 ++ z2) ∧ Below X.heap.size X w' := by
  have hl : [z1, z2].flatten = z1 ++ z2 := by simp
  rw [← hl] at hsum ⊢
  refine concat B 2 2 [v1, v2] [z1, z2] X (Array.getElem?_eq_some_iff.1 hX).1 (Nat.le_refl _) (by unfold maxLen; omega) rfl rfl ?_ ?_ hsum
  · intro j v hv
    rw [cell_of_row X B j _ _ (0, 0) hX]
    simpa using hv
  · intro j v xs hv hx
    match j, hv, hx with
    | 0, hv, hx =>
      obtain rfl : v1 = v := by simpa using hv
      obtain rfl : z1 = xs := by simpa using hx
      exact h1
    | 1, hv, hx =>
      obtain rfl : v2 = v := by simpa using hv
      obtain rfl : z2 = xs := by simpa using hx
      exact h2
    | j + 2, hv, hx => simp at hv
theorem concat3 (X : World) (B : Nat) (v1 v2 v3 : Value) (z1 z2 z3 : List LProxy.R) (h1 : IsQ LProxy.rec X v1 z1) (h2 : IsQ LProxy.rec X v2 z2) (h3 : IsQ LProxy.rec X v3 z3) (hX : X.heap[B]? = some (.cells #[v1, v2, v3] 25)) (hsum : (z1 ++ z2 ++ z3).length ≤ 1048576) :
    Calls Try.prog 83 #[.slice (some ⟨B, 0, none⟩) 3 3] X fun e w' => ∃ v, e = .returned v ∧ Own LProxy.rec 70 w' X.heap.size v (z1 ++ z2 ++ z3) ∧ Below X.heap.size X w' := by
  have hl : [z1, z2, z3].flatten = z1 ++ z2 ++ z3 := by simp
  rw [← hl] at hsum ⊢
  refine concat B 3 3 [v1, v2, v3] [z1, z2, z3] X (Array.getElem?_eq_some_iff.1 hX).1 (Nat.le_refl _) (by unfold maxLen; omega) rfl rfl ?_ ?_ hsum
  · intro j v hv
    rw [cell_of_row X B j _ _ (0, 0) hX]
    simpa using hv
  · intro j v xs hv hx
    match j, hv, hx with
    | 0, hv, hx =>
      obtain rfl : v1 = v := by simpa using hv
      obtain rfl : z1 = xs := by simpa using hx
      exact h1
    | 1, hv, hx =>
      obtain rfl : v2 = v := by simpa using hv
      obtain rfl : z2 = xs := by simpa using hx
      exact h2
    | 2, hv, hx =>
      obtain rfl : v3 = v := by simpa using hv
      obtain rfl : z3 = xs := by simpa using hx
      exact h3
    | j + 3, hv, hx => simp at hv
end Go.Proofs.Ytdjnaoaniokbgaa.LProxy
