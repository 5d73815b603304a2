/- Insertion into a sorted list from its end, by a test: plain mathematics; a record stored whole. No condition. -/
import Derived.Test.YtclpdpfnlmfogaaDoorCopyW
namespace Go.Proofs.YtclpdpfnlmfogaaDoor.Srt
open Go Go.RowKit Bs
set_option linter.unusedVariables false
section
variable {α : Type} {lt : α → α → Bool}
/-- where x goes, looked for from place j downward -/
def pos (lt : α → α → Bool) (P : List α) (x : α) : Nat → Nat
  | 0 => 0
  | j + 1 => (match P[j]? with | some p => (if lt x p = true then pos lt P x j else j + 1) | none => j + 1)
def insS (lt : α → α → Bool) (P : List α) (x : α) : List α := P.take (pos lt P x P.length) ++ x :: P.drop (pos lt P x P.length)
def srt (lt : α → α → Bool) (xs : List α) : List α := xs.foldl (insS lt) []
theorem pos_le (P : List α) (x : α) : ∀ j, pos lt P x j ≤ j
  | 0 => Nat.le_refl _
  | j + 1 => by
    unfold pos
    split
    · split
      · have := pos_le P x j; omega
      · exact Nat.le_refl _
    · exact Nat.le_refl _
theorem pos_go {P : List α} {x p : α} {j : Nat} (hp : P[j]? = some p) (h : lt x p = true) : pos lt P x (j + 1) = pos lt P x j := by
  show (match P[j]? with | some p => (if lt x p = true then pos lt P x j else j + 1) | none => j + 1) = _
  rw [hp]; simp [h]
theorem pos_stop {P : List α} {x p : α} {j : Nat} (hp : P[j]? = some p) (h : lt x p = false) : pos lt P x (j + 1) = j + 1 := by
  show (match P[j]? with | some p => (if lt x p = true then pos lt P x j else j + 1) | none => j + 1) = _
  rw [hp]; simp [h]
theorem ins_len (P : List α) (x : α) : (insS lt P x).length = P.length + 1 := by
  have := pos_le (lt := lt) P x P.length
  unfold insS; simp; omega
theorem ins_at {P : List α} {x : α} {j n : Nat} (hn : P.length = n) (h : pos lt P x n = j) : insS lt P x = P.take j ++ x :: P.drop j := by
  unfold insS; rw [hn, h]
theorem srt_next {xs : List α} {k : Nat} {x : α} (h : xs[k]? = some x) : srt lt (xs.take (k + 1)) = insS lt (srt lt (xs.take k)) x := by
  obtain ⟨hk, rfl⟩ := List.getElem?_eq_some_iff.1 h
  unfold srt
  rw [List.take_succ_eq_append_getElem hk, List.foldl_append]; rfl
theorem srt_len_aux : ∀ (xs P : List α), (xs.foldl (insS lt) P).length = P.length + xs.length
  | [], P => rfl
  | x :: xs, P => by rw [List.foldl_cons, srt_len_aux xs, ins_len, List.length_cons]; omega
theorem srt_len (xs : List α) : (srt lt xs).length = xs.length := by unfold srt; rw [srt_len_aux]; simp
theorem srt_one (xs : List α) : srt lt (xs.take 1) ++ xs.drop 1 = xs := by
  cases xs with
  | nil => rfl
  | cons x xs => rfl
theorem srt_all {xs : List α} {k : Nat} (h : xs.length ≤ k) : srt lt (xs.take k) ++ xs.drop k = srt lt xs := by
  rw [List.take_of_length_le h, List.drop_eq_nil_of_le h, List.append_nil]
theorem ins_mem {P : List α} {x y : α} (h : y ∈ insS lt P x) : y = x ∨ y ∈ P := by
  unfold insS at h
  rw [List.mem_append, List.mem_cons] at h
  rcases h with h | h | h
  · exact .inr (List.mem_of_mem_take h)
  · exact .inl h
  · exact .inr (List.mem_of_mem_drop h)
theorem srt_mem_aux : ∀ (xs P : List α) (y : α), y ∈ xs.foldl (insS lt) P → y ∈ P ∨ y ∈ xs
  | [], P, y, h => .inl h
  | x :: xs, P, y, h => by
    rw [List.foldl_cons] at h
    rcases srt_mem_aux xs _ y h with h | h
    · rcases ins_mem h with rfl | h
      · exact .inr (List.mem_cons_self)
      · exact .inl h
    · exact .inr (List.mem_cons_of_mem _ h)
theorem srt_mem {xs : List α} {y : α} (h : y ∈ srt lt xs) : y ∈ xs := by
  rcases srt_mem_aux xs [] y h with h | h
  · cases h
  · exact h
/-- the list while x is carried down to place j -/
def mid (P : List α) (x : α) (R : List α) (j : Nat) : List α := P.take j ++ x :: (P.drop j ++ R)
theorem mid_len {P : List α} {x : α} {R : List α} {j : Nat} (h : j ≤ P.length) : (mid P x R j).length = P.length + 1 + R.length := by
  unfold mid; simp; omega
theorem mid_here {P : List α} {x : α} {R : List α} {j : Nat} (h : j ≤ P.length) : (mid P x R j)[j]? = some x := by
  unfold mid
  have hl : (P.take j).length = j := by rw [List.length_take]; omega
  rw [List.getElem?_append_right (by omega), hl, Nat.sub_self]; rfl
theorem mid_ahead {P : List α} {x : α} {R : List α} {j : Nat} {y : α} (h : P[j]? = some y) : (mid P x R (j + 1))[j]? = some y := by
  have hj : j < P.length := (List.getElem?_eq_some_iff.1 h).1
  unfold mid
  have hl : (P.take (j + 1)).length = j + 1 := by rw [List.length_take]; omega
  rw [List.getElem?_append_left (by omega), List.getElem?_take, if_pos (by omega)]
  exact h
theorem mid_swap {P : List α} {x : α} {R : List α} {j : Nat} {y : α} (h : P[j]? = some y) : ((mid P x R (j + 1)).set (j + 1) y).set j x = mid P x R j := by
  obtain ⟨hj, rfl⟩ := List.getElem?_eq_some_iff.1 h
  have hl : (P.take (j + 1)).length = j + 1 := by rw [List.length_take]; omega
  have hl0 : (P.take j).length = j := by rw [List.length_take]; omega
  unfold mid
  rw [List.set_append_right _ _ (by omega), hl, Nat.sub_self, List.set_cons_zero, List.take_succ_eq_append_getElem hj, List.append_assoc, List.set_append_right _ _ (by omega), hl0, Nat.sub_self]
  show P.take j ++ (x :: ([] ++ (P[j] :: (P.drop (j + 1) ++ R)))) = _
  rw [List.nil_append, ← List.cons_append, ← List.drop_eq_getElem_cons hj]
theorem mid_end (P : List α) (x : α) (R : List α) : mid P x R P.length = P ++ x :: R := by
  unfold mid; rw [List.take_length, List.drop_length, List.nil_append]
theorem mid_ins {P : List α} {x : α} {R : List α} {j n : Nat} (hn : P.length = n) (h : pos lt P x n = j) : mid P x R j = insS lt P x ++ R := by
  rw [ins_at hn h]; unfold mid; simp
end
/-- a record stored whole -/
theorem flat_set_all {α : Type} (T : Rec α) : ∀ (ys : List α) (k : Nat) (r : α), k < ys.length → flat T (ys.set k r) = spl (flat T ys) (k * T.n) (T.vals r)
  | [], k, r, h => by simp at h
  | x :: ys, 0, r, h => by
    rw [List.set_cons_zero, flat_cons, flat_cons]
    unfold spl
    rw [Nat.zero_mul, List.take_zero, List.nil_append, Nat.zero_add, T.len, List.drop_left' (T.len x)]
  | x :: ys, k + 1, r, h => by
    have hk : k < ys.length := by simpa using h
    have e0 : (k + 1) * T.n = T.n + k * T.n := by rw [Nat.succ_mul, Nat.add_comm]
    have hx := T.len x
    rw [List.set_cons_succ, flat_cons, flat_cons, flat_set_all T ys k r hk]
    unfold spl
    rw [e0, ← hx, List.take_length_add_append, Nat.add_assoc, List.drop_length_add_append]
    simp
theorem store_rec {P : Program} {α : Type} {T : Rec α} {E : TypeId} {w : World} {A g n cap : Nat} {ys : List α} (h : Own T E w A (.slice (some ⟨g, 0, none⟩) n cap) ys) (k : Nat) (hk : k < n) (r : α) :
    ∃ w2 : World, (storeCells ⟨g, k * T.n, none⟩ (T.vals r) 0).run P w = .ok () w2 ∧ Own T E w2 A (.slice (some ⟨g, 0, none⟩) n cap) (ys.set k r) ∧ Below A w w2 ∧ w2.heap.size = w.heap.size := by
  obtain ⟨cur, hg, hcs, hct, hAg, hnc, hcm, hyl⟩ := own_row h
  have hk2 : (k + 1) * T.n ≤ cap * T.n := Nat.mul_le_mul_right _ (by omega)
  rw [Nat.succ_mul] at hk2
  have hkl : k * T.n + (T.vals r).length ≤ cur.size := by rw [T.len, hcs]; exact hk2
  have hrun := run_storeCells_at P g (k * T.n) E (T.vals r) 0 cur w hg (by simpa using hkl) (T.one r)
  refine ⟨_, hrun, ?_, below_setRow (Below.refl A w) hAg _, by simp [World.setRow]⟩
  simp only [Nat.add_zero]
  have hS : cur.toList = flat T ys ++ cur.toList.drop (ys.length * T.n) := by rw [← hct, List.take_append_drop]
  have hfl := flat_len T ys
  have hk3 : (k + 1) * T.n ≤ ys.length * T.n := Nat.mul_le_mul_right _ (by omega)
  rw [Nat.succ_mul] at hk3
  refine own_mk (C := cur.toList.take (k * T.n) ++ T.vals r ++ cur.toList.drop (k * T.n + (T.vals r).length)) (setRow_heap w g cur _ E _ hg) hAg (by rw [List.length_set]; exact hyl) hnc hcm ?_ ⟨cur.toList.drop (ys.length * T.n), ?_⟩
  · have hcl : cur.toList.length = cap * T.n := by simpa using hcs
    have hv := T.len r
    simp only [List.length_append, List.length_take, List.length_drop, hv, hcl]
    omega
  · rw [flat_set_all T ys k r (by omega)]
    unfold spl
    conv => lhs; rw [hS]
    have hv := T.len r
    rw [List.take_append_of_le_length (by omega), List.drop_append_of_le_length (by omega)]
    simp
end Go.Proofs.YtclpdpfnlmfogaaDoor.Srt
