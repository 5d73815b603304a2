/- The heaviest set of proposals of which no two conflict: the mathematics. No condition. -/
import Derived.Test.YtclpdpfnlmfogaaDoorJ1
namespace Go.Proofs.YtclpdpfnlmfogaaDoor.CfH
open Go.RowKit Bs Word Am Cf CfM CfN
set_option linter.unusedVariables false
theorem bits_yes {x k : Nat} (h : x.testBit k = true) : bitsL x (k + 1) = bitsL x k ++ [k] := by
  unfold bitsL; rw [List.range_succ, List.filter_append]; simp [h]
theorem bits_no {x k : Nat} (h : x.testBit k = false) : bitsL x (k + 1) = bitsL x k := by
  unfold bitsL; rw [List.range_succ, List.filter_append]; simp [h]
theorem bits_mem {x n j : Nat} : j ∈ bitsL x n ↔ j < n ∧ x.testBit j = true := by unfold bitsL; rw [List.mem_filter, List.mem_range]
theorem bits_asc (x n : Nat) : (bitsL x n).Pairwise (· < ·) := List.Pairwise.filter _ List.pairwise_lt_range
/-- the chosen proposals, their ids, their weight -/
def pk (z : List P) (js : List Nat) : List P := js.filterMap (fun j => z[j]?)
theorem pk_snoc {z : List P} {js : List Nat} {k : Nat} {a : P} (h : z[k]? = some a) : pk z (js ++ [k]) = pk z js ++ [a] := by
  unfold pk; rw [List.filterMap_append]; simp [h]
theorem pk_len (z : List P) (js : List Nat) : (pk z js).length ≤ js.length := List.length_filterMap_le _ _
theorem pk_mem {z : List P} {js : List Nat} {x : P} (h : x ∈ pk z js) : x ∈ z := by
  obtain ⟨j, _, hj⟩ := List.mem_filterMap.1 h
  exact List.mem_of_getElem? hj
def idsOf (z : List P) (js : List Nat) : List Int := js.map (idAt z)
theorem ids_len (z : List P) (js : List Nat) : (idsOf z js).length = js.length := by simp [idsOf]
theorem ids_snoc {z : List P} {js : List Nat} {k : Nat} {a : P} (h : z[k]? = some a) : idsOf z (js ++ [k]) = idsOf z js ++ [a.id] := by simp [idsOf, id_at h]
def wtAt (z : List P) (i : Nat) : Int := ((z[i]?).map (·.weight)).getD 0
theorem wt_at {z : List P} {i : Nat} {a : P} (h : z[i]? = some a) : wtAt z i = a.weight := by unfold wtAt; rw [h]; rfl
def wts (z : List P) (js : List Nat) : Int := (js.map (wtAt z)).sum
theorem wts_nil (z : List P) : wts z [] = 0 := rfl
theorem wts_snoc {z : List P} {js : List Nat} {k : Nat} {a : P} (h : z[k]? = some a) : wts z (js ++ [k]) = wts z js + a.weight := by
  unfold wts; rw [List.map_append, List.sum_append]; simp [wt_at h]
theorem wt_bound {z : List P} (h : ∀ x ∈ z, 1 ≤ x.weight ∧ x.weight ≤ 100) (i : Nat) : 0 ≤ wtAt z i ∧ wtAt z i ≤ 100 := by
  unfold wtAt
  cases hz : z[i]? with
  | none => simp
  | some a => have := h a (List.mem_of_getElem? hz); simp; omega
theorem wts_bound {z : List P} (h : ∀ x ∈ z, 1 ≤ x.weight ∧ x.weight ≤ 100) : ∀ js : List Nat, 0 ≤ wts z js ∧ wts z js ≤ 100 * js.length
  | [] => by simp [wts]
  | j :: js => by
    have h1 := wts_bound h js
    have h2 := wt_bound h j
    have e : wts z (j :: js) = wtAt z j + wts z js := rfl
    rw [e, List.length_cons]
    omega
theorem props_wt {t : T} {l : List P} (h : propsB t l = true) : ∀ x ∈ l, 1 ≤ x.weight ∧ x.weight ≤ 100 := fun x hx => inB_yes (ok_parts (props_all h x hx)).2.1
/-- no two of a list conflict: the model's test -/
def freeRow (l : List P) (i k : Nat) : Bool := (List.range k).all fun j => !cf l i j
def freeTo2 (l : List P) (i : Nat) : Bool := (List.range i).all fun a => freeRow l a a
def freeL (l : List P) : Bool := freeTo2 l l.length
theorem freeRow_next (l : List P) (i k : Nat) : freeRow l i (k + 1) = (freeRow l i k && !cf l i k) := by
  unfold freeRow; rw [List.range_succ, List.all_append]; simp
theorem freeTo2_next (l : List P) (i : Nat) : freeTo2 l (i + 1) = (freeTo2 l i && freeRow l i i) := by
  unfold freeTo2; rw [List.range_succ, List.all_append]; simp
theorem free_bad {l : List P} {i k : Nat} (hi : i < l.length) (hk : k < i) (h : cf l i k = true) : freeL l = false := by
  unfold freeL freeTo2
  refine List.all_eq_false.2 ⟨i, List.mem_range.2 hi, ?_⟩
  unfold freeRow
  rw [show ((List.range i).all fun j => !cf l i j) = false from List.all_eq_false.2 ⟨k, List.mem_range.2 hk, by rw [h]; decide⟩]
  decide
theorem free_iff (l : List P) : freeL l = true ↔ ∀ i k, k < i → i < l.length → cf l i k = false := by
  unfold freeL freeTo2 freeRow
  simp only [List.all_eq_true, List.mem_range]
  constructor
  · intro h i k hk hi; have := h i hi k hk; simpa using this
  · intro h i hi k hk; rw [h i k hk hi]; rfl
theorem free_pairwise (l : List P) : freeL l = true ↔ l.Pairwise (fun a b => confB (ch b) (ch a) = false) := by
  rw [free_iff, List.pairwise_iff_getElem]
  constructor
  · intro h i j hi hj hij
    have := h j i hij hj
    rwa [cf_at (List.getElem?_eq_getElem hj) (List.getElem?_eq_getElem hi)] at this
  · intro h i k hk hi
    rw [cf_at (List.getElem?_eq_getElem hi) (List.getElem?_eq_getElem (by omega))]
    exact h k i (by omega) hi hk
/-- no two of a set conflict: the program's test -/
def okJ (z : List P) (x : Nat) (js : List Nat) : Bool := js.all fun i => decide (riv z i &&& x = 0)
theorem riv_meets {z : List P} {x i : Nat} : riv z i &&& x = 0 ↔ ∀ j, x.testBit j = true → rivB z i j = false := by
  constructor
  · intro h j hj
    have h2 := congrArg (fun y => y.testBit j) h
    simp only [Nat.testBit_and, Nat.zero_testBit, riv_bit, hj, Bool.and_true] at h2
    exact h2
  · intro h
    apply Nat.eq_of_testBit_eq
    intro j
    rw [Nat.testBit_and, Nat.zero_testBit, riv_bit]
    cases hj : x.testBit j with
    | false => simp
    | true => rw [h j hj]; rfl
theorem free_pick {z : List P} (hg : ∀ x ∈ z, good (ch x) = true) {x : Nat} (hx : x < 2 ^ z.length) : freeL (pk z (bitsL x z.length)) = okJ z x (bitsL x z.length) := by
  rw [Bool.eq_iff_iff, free_pairwise]
  unfold pk okJ
  rw [List.pairwise_filterMap, List.all_eq_true]
  have hlt : ∀ j, x.testBit j = true → j < z.length := fun j hj => by
    rcases Nat.lt_or_ge j z.length with h | h
    · exact h
    · rw [Nat.testBit_lt_two_pow (Nat.lt_of_lt_of_le hx (Nat.pow_le_pow_right (by decide) h))] at hj; cases hj
  constructor
  · intro h i hi
    rw [decide_eq_true_eq, riv_meets]
    intro j hj
    by_cases e : i = j
    · subst e; unfold rivB; simp
    · have hi2 := bits_mem.1 hi
      have hj2 : j ∈ bitsL x z.length := bits_mem.2 ⟨hlt j hj, hj⟩
      have hzi := List.getElem?_eq_getElem hi2.1
      have hzj := List.getElem?_eq_getElem (hlt j hj)
      unfold rivB
      rw [cf_at hzi hzj, decide_eq_true e, Bool.and_true]
      have hga := hg _ (List.getElem_mem hi2.1)
      have hgb := hg _ (List.getElem_mem (hlt j hj))
      -- the two stand in the list in ascending order
      have hp : ∀ a b, a < b → a ∈ bitsL x z.length → b ∈ bitsL x z.length → ∀ A B, z[a]? = some A → z[b]? = some B → confB (ch B) (ch A) = false := by
        intro a b hab ha hb A B hA hB
        obtain ⟨m, hm, rfl⟩ := List.getElem_of_mem ha
        obtain ⟨k, hk, rfl⟩ := List.getElem_of_mem hb
        have hmk : m < k := by
          rcases Nat.lt_trichotomy m k with h' | h' | h'
          · exact h'
          · subst h'; omega
          · have := List.pairwise_iff_getElem.1 (bits_asc x z.length) k m hk hm h'; omega
        exact List.pairwise_iff_getElem.1 h m k hm hk hmk A hA B hB
      rcases Nat.lt_or_gt_of_ne e with h' | h'
      · rw [conf_symm hga hgb]; exact hp i j h' hi hj2 _ _ hzi hzj
      · exact hp j i h' hj2 hi _ _ hzj hzi
  · intro h
    refine List.Pairwise.imp_of_mem ?_ (bits_asc x z.length)
    intro a b ha hb hab A hA B hB
    have h1 := of_decide_eq_true (h b hb)
    have h2 := riv_meets.1 h1 a (bits_mem.1 ha).2
    unfold rivB at h2
    rw [cf_at hB hA, decide_eq_true (by omega), Bool.and_true] at h2
    exact h2
theorem okJ_bad {z : List P} {x i : Nat} {js : List Nat} (hi : i ∈ js) (h : riv z i &&& x ≠ 0) : okJ z x js = false := by
  unfold okJ
  exact List.all_eq_false.2 ⟨i, hi, by rw [decide_eq_false h]; decide⟩
theorem okJ_all {z : List P} {x : Nat} {js : List Nat} (h : ∀ i ∈ js, riv z i &&& x = 0) : okJ z x js = true := by
  unfold okJ
  exact List.all_eq_true.2 fun i hi => decide_eq_true (h i hi)
/-- lexicographic order -/
def lessL : List Int → List Int → Bool
  | [], [] => false
  | [], _ :: _ => true
  | _ :: _, [] => false
  | x :: xs, y :: ys => if x = y then lessL xs ys else decide (x < y)
def cmpI (a b : Int) : Int := if a < b then -1 else if b < a then 1 else 0
def cmpL : List Int → List Int → Int
  | [], [] => 0
  | [], _ :: _ => -1
  | _ :: _, [] => 1
  | x :: xs, y :: ys => if cmpI x y = 0 then cmpL xs ys else cmpI x y
theorem cmpI_eq (x : Int) : cmpI x x = 0 := by unfold cmpI; rw [if_neg (by omega), if_neg (by omega)]
theorem cmpI_lt {x y : Int} (h : x < y) : cmpI x y = -1 := by unfold cmpI; rw [if_pos h]
theorem cmpI_gt {x y : Int} (h : y < x) : cmpI x y = 1 := by unfold cmpI; rw [if_neg (by omega), if_pos h]
theorem cmp_less : ∀ a b : List Int, decide (0 < cmpL b a) = lessL a b
  | [], [] => rfl
  | [], _ :: _ => rfl
  | _ :: _, [] => rfl
  | x :: xs, y :: ys => by
    have ih := cmp_less xs ys
    show decide (0 < if cmpI y x = 0 then cmpL ys xs else cmpI y x) = if x = y then lessL xs ys else decide (x < y)
    rcases Int.lt_trichotomy x y with h | h | h
    · rw [cmpI_gt h, if_neg (by decide), if_neg (by omega), decide_eq_true h]; rfl
    · subst h; rw [cmpI_eq, if_pos rfl, if_pos rfl]; exact ih
    · rw [cmpI_lt h, if_neg (by decide), if_neg (by omega), decide_eq_false (show ¬ x < y by omega)]; rfl
/-- the first number that is not 0 -/
def orI : List Int → Int
  | [] => 0
  | x :: xs => if x = 0 then orI xs else x
def better (ids : List Int) (s : Int) (best : List Int) (m : Int) : Bool := decide (m < s) || (decide (s = m) && (decide (ids.length < best.length) || (decide (ids.length = best.length) && lessL ids best)))
theorem or_better (ids : List Int) (s : Int) (best : List Int) (m : Int) : decide (0 < orI [cmpI s m, cmpI best.length ids.length, cmpL best ids]) = better ids s best m := by
  have hl := cmp_less ids best
  generalize cmpL best ids = c at *
  unfold better
  rw [← hl]
  unfold orI orI orI orI cmpI
  rw [Bool.eq_iff_iff]
  simp only [decide_eq_true_eq, Bool.or_eq_true, Bool.and_eq_true]
  by_cases h1 : s < m
  · rw [if_pos h1]; simp; omega
  · rw [if_neg h1]
    by_cases h2 : m < s
    · rw [if_pos h2]; simp; omega
    · rw [if_neg h2, if_pos rfl]
      by_cases h3 : (best.length : Int) < ids.length
      · rw [if_pos h3]; simp; omega
      · rw [if_neg h3]
        by_cases h4 : (ids.length : Int) < best.length
        · rw [if_pos h4]; simp; omega
        · rw [if_neg h4, if_pos rfl]
          by_cases h5 : c = 0
          · rw [if_pos h5]; simp; omega
          · rw [if_neg h5]; omega
abbrev S := List Int × Int
def stepS (z : List P) (s : S) (x : Nat) : S := if (okJ z x (bitsL x z.length) && better (idsOf z (bitsL x z.length)) (wts z (bitsL x z.length)) s.1 s.2) = true then (idsOf z (bitsL x z.length), wts z (bitsL x z.length)) else s
def upS (z : List P) (k : Nat) : S := (List.range k).foldl (stepS z) ([], 0)
def heavy (z : List P) : S := upS z (2 ^ z.length)
theorem up_zero (z : List P) : upS z 0 = ([], 0) := rfl
theorem up_next (z : List P) (k : Nat) : upS z (k + 1) = stepS z (upS z k) k := by unfold upS; rw [List.range_succ, List.foldl_append]; rfl
theorem up_yes {z : List P} {k : Nat} (h1 : okJ z k (bitsL k z.length) = true) (h2 : better (idsOf z (bitsL k z.length)) (wts z (bitsL k z.length)) (upS z k).1 (upS z k).2 = true) : upS z (k + 1) = (idsOf z (bitsL k z.length), wts z (bitsL k z.length)) := by
  rw [up_next]; unfold stepS; rw [h1, h2]; rfl
theorem up_no1 {z : List P} {k : Nat} (h1 : okJ z k (bitsL k z.length) = false) : upS z (k + 1) = upS z k := by
  rw [up_next]; unfold stepS; rw [h1]; rfl
theorem up_no2 {z : List P} {k : Nat} (h2 : better (idsOf z (bitsL k z.length)) (wts z (bitsL k z.length)) (upS z k).1 (upS z k).2 = false) : upS z (k + 1) = upS z k := by
  rw [up_next]; unfold stepS; rw [h2, Bool.and_false]; rfl
theorem up_bound {z : List P} (h : ∀ x ∈ z, 1 ≤ x.weight ∧ x.weight ≤ 100) (h8 : z.length ≤ 8) : ∀ k, (upS z k).1.length ≤ 8 ∧ 0 ≤ (upS z k).2 ∧ (upS z k).2 ≤ 800
  | 0 => by simp [up_zero]
  | k + 1 => by
    rw [up_next]
    unfold stepS
    split
    · have h1 := bits_len k z.length
      have h2 := wts_bound h (bitsL k z.length)
      simp only
      rw [ids_len]
      omega
    · exact up_bound h h8 k
end Go.Proofs.YtclpdpfnlmfogaaDoor.CfH
