/- slices.Sort and slices.Compact at []int, of a slice of the call's own (by the shelf's contracts). No condition but the length. -/
import Derived.Test.YtbaflfbidgolfaaAsc
import Derived.Test.YtbaflfbidgolfaaData
import Derived.Test.YtbaflfbidgolfaaShelf
import Derived.Sort.OwnSortedInts
namespace Go.Proofs.Ytbaflfbidgolfaa.SortI
open Go Go.RowKit Bs AscM Go.Sort
set_option linter.unusedVariables false
def le (x y : Int) : Bool := decide (x ≤ y)
/-- the row of a slice of the call's own written anew -/
theorem own_written {w : World} {A g cap n q : Nat} {os : Array Obj} {zs ts : List Int} (h : Own LInt.rec 3 w A (.slice (some ⟨g, 0, none⟩) n cap) zs) (hn : zs.length = n) (hl : ts.length = n) :
    Own LInt.rec 3 (grow (putRow (Value.int .i64) (Sort.ahead w q) g 0 ts.toArray) os) A (.slice (some ⟨g, 0, none⟩) n cap) ts ∧ Below A w (grow (putRow (Value.int .i64) (Sort.ahead w q) g 0 ts.toArray) os) := by
  have hlt := h.lt g rfl
  rcases h.2 with ⟨h0, _⟩ | ⟨g', cap', cur, hv, hAg, hb, hnc, hcm, hsz, htk⟩
  · cases h0
  · simp only [Value.slice.injEq, Option.some.injEq, Addr.mk.injEq, and_true] at hv
    obtain ⟨rfl, hlen, rfl⟩ := hv
    subst hn
    refine ⟨?_, (Below.refl A w).grown (grownBy_sortedI (w := w) (g := g) (n := q) (os := os) ts.toArray) (by omega) (fun j hj => by rw [← Option.some.inj hj]; exact hAg)⟩
    have := ownsRow_sortedI (w := w) (base := A) (os := os) (n := q) (ss := zs) (ts := ts) hl hAg hb hnc hcm hsz
    refine own_of LInt.rec (cnt := zs.length) (cells := ts.map (Value.int .i64)) ?_ hl (LInt.flat_eq ts)
    exact this
theorem holds_own {w : World} {A g cap n : Nat} {zs : List Int} (h : Own LInt.rec 3 w A (.slice (some ⟨g, 0, none⟩) n cap) zs) (hn : zs.length = n) : Holds (Value.int .i64) w g 0 zs.toArray := by
  rcases h.2 with ⟨h0, _⟩ | ⟨g', cap', cur, hv, hAg, hb, hnc, hcm, hsz, htk⟩
  · cases h0
  · simp only [Value.slice.injEq, Option.some.injEq, Addr.mk.injEq, and_true] at hv
    obtain ⟨rfl, hlen, rfl⟩ := hv
    refine holds_of_blockI hb ?_
    rw [LInt.flat_eq, LInt.rec_n, Nat.mul_one] at htk
    exact htk
/-- the head of a slice of the call's own -/
theorem own_head {w : World} {A g cap n k : Nat} {zs : List Int} (h : Own LInt.rec 3 w A (.slice (some ⟨g, 0, none⟩) n cap) zs) (hn : zs.length = n) (hk : k ≤ n) : Own LInt.rec 3 w A (.slice (some ⟨g, 0, none⟩) k cap) (zs.take k) := by
  rcases h.2 with ⟨h0, _⟩ | ⟨g', cap', cur, hv, hAg, hb, hnc, hcm, hsz, htk⟩
  · cases h0
  · simp only [Value.slice.injEq, Option.some.injEq, Addr.mk.injEq, and_true] at hv
    obtain ⟨rfl, hlen, rfl⟩ := hv
    have hkl : (zs.take k).length = k := by rw [List.length_take]; omega
    refine ⟨by rw [flat_len], .inr ⟨g, cap, cur, by rw [hkl], hAg, hb, by rw [hkl]; omega, hcm, hsz, ?_⟩⟩
    rw [hkl, LInt.flat_eq, List.map_take, LInt.rec_n, Nat.mul_one]
    rw [LInt.flat_eq, LInt.rec_n, Nat.mul_one] at htk
    rw [← htk, List.take_take, Nat.min_eq_left (by omega)]
theorem sortOwn (v : Value) (A : Nat) (zs : List Int) (w : World) (h : Own LInt.rec 3 w A v zs) (hl : zs.length ≤ 1048576) :
    Calls Try.prog 94 #[v] w fun e w' => e = .returned (.tuple #[]) ∧ Own LInt.rec 3 w' A v (zs.mergeSort le) ∧ Below A w w' := by
  rcases h.shape with ⟨rfl, rfl⟩ | ⟨g, cap, rfl, hA, hg, hc, hm⟩
  · refine (Try.slices_Sort_int_none none 0 w).mono ?_
    rintro e w' ⟨rfl, rfl⟩
    exact ⟨rfl, by simpa using h, Below.refl _ _⟩
  · refine (Try.slices_Sort_int g 0 cap zs w (holds_own h rfl) hg (by omega)).mono ?_
    rintro e w' ⟨rfl, q, os, rfl⟩
    obtain ⟨h1, h2⟩ := own_written (q := q) (os := os) (ts := zs.mergeSort le) h rfl (List.length_mergeSort _)
    exact ⟨rfl, h1, h2⟩
theorem compactOwn (v : Value) (A : Nat) (zs : List Int) (w : World) (h : Own LInt.rec 3 w A v zs) (hl : zs.length ≤ 1048576) (hcl : (Lib.compact zs).length ≤ zs.length) :
    Calls Try.prog 95 #[v] w fun e w' => ∃ u, e = .returned u ∧ Own LInt.rec 3 w' A u (Lib.compact zs) ∧ Below A w w' := by
  rcases h.shape with ⟨rfl, rfl⟩ | ⟨g, cap, rfl, hA, hg, hc, hm⟩
  · refine (Try.slices_Compact_int_empty none 0 w).mono ?_
    rintro e w' ⟨rfl, rfl⟩
    exact ⟨_, rfl, by simpa [Lib.compact, Lib.compactUpTo] using h, Below.refl _ _⟩
  · refine (Try.slices_Compact_int g 0 cap zs w (holds_own h rfl) (by omega) hc).mono ?_
    rintro e w' ⟨rfl, q, rfl⟩
    obtain ⟨h1, h2⟩ := own_written (q := q) (os := #[]) (ts := Lib.compact zs ++ List.replicate (zs.length - (Lib.compact zs).length) 0) h rfl (by rw [List.length_append, List.length_replicate]; omega)
    rw [grow_empty] at h1 h2
    have h3 := own_head h1 (by rw [List.length_append, List.length_replicate]; omega) hcl
    rw [List.take_left' rfl] at h3
    exact ⟨_, rfl, h3, h2⟩
theorem sorted_at {s : List Int} (h : s.Pairwise (fun x y => le x y = true)) {i j : Nat} (hij : i ≤ j) (hj : j < s.length) : s.toArray[i]! ≤ s.toArray[j]! := by
  have hi : i < s.length := by omega
  rw [getElem!_pos s.toArray i (by simpa using hi), getElem!_pos s.toArray j (by simpa using hj)]
  simp only [List.getElem_toArray]
  rcases Nat.lt_or_ge i j with h' | h'
  · have := List.pairwise_iff_getElem.1 h i j hi hj h'
    unfold le at this; simpa using this
  · obtain rfl : i = j := by omega
    exact Int.le_refl _
theorem compact_asc {s : List Int} (h : s.Pairwise (fun x y => le x y = true)) : ∀ m, m ≤ s.length → Asc (Lib.compactUpTo s.toArray m) ∧ ∀ x, x ∈ Lib.compactUpTo s.toArray m ↔ ∃ j, j < m ∧ s.toArray[j]! = x
  | 0, _ => ⟨trivial, fun x => by simp [Lib.compactUpTo]⟩
  | m + 1, hm => by
    obtain ⟨ha, hx⟩ := compact_asc h m (by omega)
    rw [Lib.compactUpTo_succ]
    by_cases hk : Lib.keeps s.toArray m = true
    · rw [if_pos hk]
      refine ⟨asc_append ha fun x hxm => ?_, fun x => ?_⟩
      · obtain ⟨j, hj, rfl⟩ := (hx x).1 hxm
        have h1 := sorted_at h (i := j) (j := m - 1) (by omega) (by omega)
        have h2 := sorted_at h (i := m - 1) (j := m) (by omega) (by omega)
        unfold Lib.keeps at hk
        have := of_decide_eq_true hk
        rcases this with h0 | h0
        · omega
        · omega
      · rw [List.mem_append, hx, List.mem_singleton]
        constructor
        · rintro (⟨j, hj, e⟩ | e)
          · exact ⟨j, by omega, e⟩
          · exact ⟨m, by omega, e.symm⟩
        · rintro ⟨j, hj, e⟩
          rcases Nat.lt_or_ge j m with h' | h'
          · exact .inl ⟨j, h', e⟩
          · obtain rfl : j = m := by omega
            exact .inr e.symm
    · rw [if_neg hk, List.append_nil]
      refine ⟨ha, fun x => ?_⟩
      unfold Lib.keeps at hk
      have h0 : ¬ (m = 0 ∨ s.toArray[m]! ≠ s.toArray[m - 1]!) := fun e => hk (decide_eq_true e)
      have hm0 : m ≠ 0 := fun e => h0 (.inl e)
      have he : s.toArray[m]! = s.toArray[m - 1]! := Classical.byContradiction fun e => h0 (.inr e)
      rw [hx]
      constructor
      · rintro ⟨j, hj, e⟩; exact ⟨j, by omega, e⟩
      · rintro ⟨j, hj, e⟩
        rcases Nat.lt_or_ge j m with h' | h'
        · exact ⟨j, h', e⟩
        · obtain rfl : j = m := by omega
          exact ⟨j - 1, by omega, by rw [← he]; exact e⟩
theorem compact_len (s : List Int) : (Lib.compact s).length ≤ s.length := by
  unfold Lib.compact Lib.compactUpTo
  rw [List.length_map]
  exact Nat.le_trans (List.length_filter_le _ _) (by simp)
theorem sorted_compact (zs : List Int) : Asc (Lib.compact (zs.mergeSort le)) ∧ ∀ x, x ∈ Lib.compact (zs.mergeSort le) ↔ x ∈ zs := by
  have hp : (zs.mergeSort le).Pairwise (fun x y => le x y = true) := List.pairwise_mergeSort (fun a b c h1 h2 => by unfold le at *; simp only [decide_eq_true_eq] at *; omega) (fun a b => by unfold le; simp only [Bool.or_eq_true, decide_eq_true_eq]; omega) zs
  obtain ⟨h1, h2⟩ := compact_asc hp (zs.mergeSort le).length (Nat.le_refl _)
  refine ⟨h1, fun x => ?_⟩
  rw [show Lib.compact (zs.mergeSort le) = Lib.compactUpTo (zs.mergeSort le).toArray (zs.mergeSort le).length from rfl, h2, ← List.mem_mergeSort (le := le)]
  constructor
  · rintro ⟨j, hj, e⟩
    rw [getElem!_pos _ j (by simpa using hj)] at e
    rw [← e]; simp
  · intro hx
    obtain ⟨j, hj, e⟩ := List.getElem_of_mem hx
    exact ⟨j, hj, by rw [getElem!_pos _ j (by simpa using hj)]; simpa using e⟩
end Go.Proofs.Ytbaflfbidgolfaa.SortI
