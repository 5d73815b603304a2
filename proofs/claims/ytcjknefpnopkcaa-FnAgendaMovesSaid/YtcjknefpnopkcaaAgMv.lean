/- An item moved, and moved back; a list sorted by insertion ascends. Plain mathematics. -/
import Derived.Test.YtcjknefpnopkcaaMoveItemC
import Derived.Test.YtcjknefpnopkcaaOrderItemsC
namespace Go.Proofs.Ytcjknefpnopkcaa.Srt
section
variable {α : Type} {lt : α → α → Bool}
/-- each one not less than the one ahead of it -/
def Asc (lt : α → α → Bool) (P : List α) : Prop := ∀ (i : Nat) (a b : α), P[i]? = some a → P[i + 1]? = some b → lt b a = false
theorem pos_behind (P : List α) (x : α) : ∀ n i p, pos lt P x n ≤ i → i < n → P[i]? = some p → lt x p = true
  | 0, i, p, _, hi, _ => by omega
  | n + 1, i, p, h, hi, hp => by
    unfold pos at h
    cases hn : P[n]? with
    | none => rw [hn] at h; simp only at h; omega
    | some q =>
      rw [hn] at h
      simp only at h
      split at h
      · rename_i hlt
        rcases Nat.lt_or_ge i n with h' | h'
        · exact pos_behind P x n i p h h' hp
        · obtain rfl : i = n := by omega
          rw [hn] at hp; rw [← Option.some.inj hp]; exact hlt
      · omega
theorem pos_ahead (P : List α) (x : α) : ∀ n p, n ≤ P.length → 0 < pos lt P x n → P[pos lt P x n - 1]? = some p → lt x p = false
  | 0, p, _, h, _ => by simp [pos] at h
  | n + 1, p, hn, h, hp => by
    have hq := List.getElem?_eq_getElem (l := P) (i := n) (by omega)
    unfold pos at h hp
    rw [hq] at h hp
    simp only at h hp
    split at h
    · rename_i hlt
      rw [if_pos hlt] at hp
      exact pos_ahead P x n p (by omega) h hp
    · rename_i hlt
      rw [if_neg hlt, Nat.add_sub_cancel, hq] at hp
      rw [← Option.some.inj hp]; simpa using hlt
theorem ins_asc (ha : ∀ a b, lt a b = true → lt b a = false) {P : List α} {x : α} (h : Asc lt P) : Asc lt (insS lt P x) := by
  have hle := pos_le (lt := lt) P x P.length
  have hb := pos_behind (lt := lt) P x P.length
  have hd := fun p => pos_ahead (lt := lt) P x P.length p (Nat.le_refl _)
  unfold insS
  generalize pos lt P x P.length = j at *
  have at_ : ∀ i, (P.take j ++ x :: P.drop j)[i]? = if i < j then P[i]? else if i = j then some x else P[i - 1]? := fun i => by
    rw [List.getElem?_append, List.length_take, Nat.min_eq_left hle]
    split
    · rw [List.getElem?_take, if_pos (by assumption)]
    · split
      · rename_i h1 h2; rw [show i - j = 0 by omega]; rfl
      · rw [show i - j = (i - j - 1) + 1 by omega, List.getElem?_cons_succ, List.getElem?_drop]; congr 1; omega
  intro i a b h1 h2
  rw [at_] at h1 h2
  rcases Nat.lt_trichotomy (i + 1) j with hlt | heq | hgt
  · rw [if_pos (by omega)] at h1 h2; exact h i a b h1 h2
  · rw [if_pos (by omega)] at h1
    rw [if_neg (by omega), if_pos heq] at h2
    rw [← Option.some.inj h2]
    exact hd a (by omega) (by rw [show j - 1 = i by omega]; exact h1)
  · rw [if_neg (by omega), if_neg (by omega), Nat.add_sub_cancel] at h2
    rw [if_neg (by omega)] at h1
    split at h1
    · rw [← Option.some.inj h1]
      exact ha _ _ (hb i b (by omega) (List.getElem?_eq_some_iff.1 h2).1 h2)
    · exact h (i - 1) a b h1 (by rw [show i - 1 + 1 = i by omega]; exact h2)
theorem srt_asc (ha : ∀ a b, lt a b = true → lt b a = false) (xs : List α) : Asc lt (srt lt xs) := by
  have aux : ∀ (xs P : List α), Asc lt P → Asc lt (xs.foldl (insS lt) P) := by
    intro xs
    induction xs with
    | nil => intro P h; exact h
    | cons x xs ih => intro P h; exact ih _ (ins_asc ha h)
  exact aux xs [] (fun i a b h1 h2 => by simp at h1)
end
end Go.Proofs.Ytcjknefpnopkcaa.Srt
namespace Go.Proofs.Ytcjknefpnopkcaa.AgMv
open Go.RowKit Bs Word Ag AgF Sq MoveItemC
set_option linter.unusedVariables false
def sig (k t j : Nat) : Nat := if j = t then k else if j < t then (if j < k then j else j + 1) else (if j ≤ k then j - 1 else j)
theorem sig_back (k t j : Nat) : sig k t (sig t k j) = j := by
  unfold sig
  (repeat' split) <;> omega
theorem sig_inj {k t i j : Nat} (h : sig k t i = sig k t j) : i = j := by
  rw [← sig_back t k i, ← sig_back t k j, h]
theorem oth_at {z : List M} {k j : Nat} (hk : k < z.length) : (oth z k)[j]? = z[if j < k then j else j + 1]? := by
  unfold oth
  rw [List.getElem?_append, List.length_take, Nat.min_eq_left (by omega)]
  split
  · rw [List.getElem?_take, if_pos (by assumption)]
  · rw [List.getElem?_drop]; congr 1; omega
theorem mvd_at {z : List M} {k t j : Nat} {X : M} (hx : z[k]? = some X) (ht : t < z.length) : (mvd z k X t)[j]? = z[sig k t j]? := by
  have hk := (List.getElem?_eq_some_iff.1 hx).1
  have hl := oth_len hk
  unfold mvd
  rw [List.getElem?_append, List.length_take, Nat.min_eq_left (by omega)]
  rcases Nat.lt_trichotomy j t with h | h | h
  · rw [if_pos h, List.getElem?_take, if_pos h, oth_at hk]
    congr 1
    unfold sig
    (repeat' split) <;> omega
  · rw [if_neg (by omega), show j - t = 0 by omega, List.getElem?_cons_zero, ← hx]
    unfold sig
    rw [if_pos h]
  · rw [if_neg (by omega), show j - t = (j - t - 1) + 1 by omega, List.getElem?_cons_succ, List.getElem?_drop, oth_at hk]
    congr 1
    unfold sig
    (repeat' split) <;> omega
theorem mvd_back {z : List M} {k t : Nat} {X : M} (hx : z[k]? = some X) (ht : t < z.length) : mvd (mvd z k X t) t X k = z := by
  have hk := (List.getElem?_eq_some_iff.1 hx).1
  have hl : (mvd z k X t).length = z.length := by
    have := oth_len hk
    unfold mvd; simp; omega
  apply List.ext_getElem?
  intro j
  rw [mvd_at (by rw [mvd_at hx ht]; unfold sig; rw [if_pos rfl]; exact hx) (by omega), mvd_at hx ht, sig_back]

theorem good_ids {z : List M} (h : goodB z = true) {i j : Nat} {a b : M} (hne : i ≠ j) (ha : z[i]? = some a) (hb : z[j]? = some b) : a.id ≠ b.id := by
  intro e
  rcases Nat.lt_trichotomy i j with h' | h' | h'
  · have := ((good_of h).2 j (List.getElem?_eq_some_iff.1 hb).1).2 i a b h' ha hb
    unfold clash at this; rw [e] at this; simp at this
  · exact hne h'
  · have := ((good_of h).2 i (List.getElem?_eq_some_iff.1 ha).1).2 j b a h' hb ha
    unfold clash at this; rw [e] at this; simp at this
theorem mvd_good {z : List M} {k t : Nat} {X : M} (h : goodB z = true) (hx : z[k]? = some X) (ht : t < z.length) : goodB (mvd z k X t) = true := by
  have hl : (mvd z k X t).length = z.length := mvd_len (List.getElem?_eq_some_iff.1 hx).1
  refine good_yes ⟨by rw [hl]; exact good_len h, fun i hi => ⟨?_, fun j q r hj hq hr => ?_⟩⟩
  · have hi2 := List.getElem?_eq_getElem hi
    refine ⟨_, hi2, ?_⟩
    rw [mvd_at hx ht] at hi2
    exact good_at h hi2
  · rw [mvd_at hx ht] at hq hr
    have := good_ids h (i := sig k t j) (j := sig k t i) (fun e => by have := sig_inj e; omega) hq hr
    unfold clash; simpa using this
theorem mvd_idx {z : List M} {k t : Nat} {X : M} (h : goodB z = true) (hx : z[k]? = some X) (ht : t < z.length) : idx (mvd z k X t) X.id = some t := by
  have hs : (mvd z k X t)[t]? = some X := by rw [mvd_at hx ht]; unfold sig; rw [if_pos rfl]; exact hx
  refine first_hit (p := fun Y => (Y.id == X.id)) (fun j Y hj hY => ?_) hs (by simp)
  have := good_ids (mvd_good h hx ht) (i := j) (j := t) (by omega) hY hs
  simpa using this
/-- moved back, the agenda is as before -/
theorem back {z : List M} {id : Int} {k t : Nat} {X : M} (h : goodB z = true) (hi : idx z id = some k) (hx : z[k]? = some X) (ht : t < z.length) : mA (mvd z k X t) id (k : Int) = (z, true) := by
  have hk := (List.getElem?_eq_some_iff.1 hx).1
  obtain ⟨Y, hY, he, _⟩ := idx_some hi
  have hXY : Y = X := Option.some.inj (hY.symm.trans hx)
  subst hXY
  have he2 : Y.id = id := by simpa using he
  have hl : (mvd z k Y t).length = z.length := mvd_len hk
  have hs : (mvd z k Y t)[t]? = some Y := by rw [mvd_at hx ht]; unfold sig; rw [if_pos rfl]; exact hx
  rw [m_yes (mvd_good h hx ht) (by rw [hl]; exact inB_mk (by omega) (by omega)) (by rw [← he2]; exact mvd_idx h hx ht) hs, mvd_back hx ht]
end Go.Proofs.Ytcjknefpnopkcaa.AgMv
