/- Plain facts: a checksummed string with one byte changed is no checksummed string. -/
import Derived.Test.YtlenpaeaaobhhaaDoorVerify
import Derived.Test.YtlenpaeaaobhhaaDoorNumMath
namespace Go.Proofs.YtlenpaeaaobhhaaDoor.Flip
open Go.RowKit SplitMath Seal Sums Verify

theorem step_inj (h1 h2 : Int) (c : UInt8) (a0 : 0 ≤ h1) (a1 : h1 < 999979) (b0 : 0 ≤ h2) (b1 : h2 < 999979) (h : Sums.step h1 c = Sums.step h2 c) : h1 = h2 := by
  unfold Sums.step at h
  generalize (c.toNat : Int) = d at h
  omega
theorem step_byte (h : Int) (c d : UInt8) (e : Sums.step h c = Sums.step h d) : c = d := by
  unfold Sums.step at e
  have hc := c.toNat_lt
  have hd := d.toNat_lt
  apply UInt8.toNat_inj.1
  omega
theorem fold_bd : ∀ (l : List UInt8) (h : Int), 0 ≤ h ∧ h < 999979 → 0 ≤ l.foldl Sums.step h ∧ l.foldl Sums.step h < 999979 := by
  intro l
  induction l with
  | nil => intro h hh; exact hh
  | cons c l ih => intro h _; exact ih _ (step_bd h c)
theorem fold_inj : ∀ (l : List UInt8) (h1 h2 : Int), 0 ≤ h1 ∧ h1 < 999979 → 0 ≤ h2 ∧ h2 < 999979 → l.foldl Sums.step h1 = l.foldl Sums.step h2 → h1 = h2 := by
  intro l
  induction l with
  | nil => intro h1 h2 _ _ h; exact h
  | cons c l ih =>
    intro h1 h2 a b h
    exact step_inj h1 h2 c a.1 a.2 b.1 b.2 (ih _ _ (step_bd h1 c) (step_bd h2 c) h)
theorem cs_set (l : List UInt8) (k : Nat) (v : UInt8) (hk : k < l.length) (hv : l[k] ≠ v) : cs (l.set k v) ≠ cs l := by
  intro h
  have e : l = l.take k ++ l[k] :: l.drop (k + 1) := by rw [List.getElem_cons_drop, List.take_append_drop]
  have e2 : l.set k v = l.take k ++ v :: l.drop (k + 1) := by rw [List.set_eq_take_append_cons_drop, if_pos hk]
  unfold cs at h
  rw [e2] at h
  conv at h => rhs; rw [e]
  rw [List.foldl_append, List.foldl_append, List.foldl_cons, List.foldl_cons] at h
  have hb := fold_bd (l.take k) 7 (by omega)
  have := fold_inj _ _ _ (step_bd _ _) (step_bd _ _) h
  exact hv (step_byte _ _ _ this).symm
theorem itoa_inj {a b : Int} (h : Lib.itoa a = Lib.itoa b) : a = b := by
  have h1 := NumMath.atoi_itoa a
  rw [h, NumMath.atoi_itoa] at h1
  exact (Option.some.inj h1).symm
/-- the numeral of a checksum has no mark in it -/
theorem itoa_mark (l : List UInt8) : ∀ c ∈ Lib.itoa (cs l), c ≠ 35 := by
  intro c hc
  have hb := cs_bd l
  unfold Lib.itoa at hc
  rw [if_neg (by omega)] at hc
  have := NumMath.dd_all _ c hc
  rintro rfl
  revert this
  decide
theorem no_mark {l : List UInt8} (h : l.contains 35 = false) : ∀ c ∈ l, c ≠ 35 := by
  intro c hc e
  subst e
  rw [List.contains_iff_mem.2 hc] at h
  cases h
/-- the mark stands at one place -/
theorem mark_at (x : List UInt8) : (sealOf x)[x.length]? = some 35 := by
  unfold sealOf
  rw [List.getElem?_append_right (Nat.le_refl _), Nat.sub_self]
  rfl
theorem mark_only (x : List UInt8) (h : x.contains 35 = false) (i : Nat) (hi : i ≠ x.length) : (sealOf x)[i]? ≠ some 35 := by
  intro e
  unfold sealOf at e
  rcases Nat.lt_or_ge i x.length with h' | h'
  · rw [List.getElem?_append_left h'] at e
    exact no_mark h 35 (List.mem_of_getElem? e) rfl
  · rw [List.getElem?_append_right h'] at e
    obtain ⟨j, hj⟩ : ∃ j, i - x.length = j + 1 := ⟨i - x.length - 1, by omega⟩
    rw [hj, List.getElem?_cons_succ] at e
    exact itoa_mark x 35 (List.mem_of_getElem? e) rfl
theorem seal_drop (x : List UInt8) : (sealOf x).drop (x.length + 1) = Lib.itoa (cs x) := by
  unfold sealOf
  rw [List.drop_append, List.drop_of_length_le (by omega), List.nil_append]
  have : x.length + 1 - x.length = 1 := by omega
  rw [this]
  rfl
theorem seal_take (x : List UInt8) : (sealOf x).take x.length = x := by unfold sealOf; exact List.take_left
/-- ONE CHANGED BYTE IS DETECTED. -/
theorem flipped (x x1 : List UInt8) (k : Nat) (v : UInt8) (hx : x.contains 35 = false) (h1 : x1.contains 35 = false) (hk : k < (sealOf x).length) (hv : (sealOf x)[k] ≠ v) (h : sealOf x1 = (sealOf x).set k v) : False := by
  have hget : ∀ i, i ≠ k → (sealOf x1)[i]? = (sealOf x)[i]? := fun i hi => by rw [h, List.getElem?_set_ne (fun e => hi e.symm)]
  by_cases hl : x.length = x1.length
  · by_cases hkl : k < x.length
    · have ht : x1 = x.set k v := by
        have := congrArg (List.take x.length) h
        rw [List.take_set, seal_take] at this
        rw [hl, seal_take] at this
        exact this
      have hd : Lib.itoa (cs x1) = Lib.itoa (cs x) := by
        have := congrArg (List.drop (x.length + 1)) h
        rw [List.drop_set_of_lt (by omega), seal_drop] at this
        rw [hl, seal_drop] at this
        exact this
      have hx2 : x[k] ≠ v := by
        intro e
        apply hv
        have : (sealOf x)[k]? = some v := by
          unfold sealOf
          rw [List.getElem?_append_left hkl, List.getElem?_eq_getElem hkl, e]
        rw [List.getElem?_eq_getElem hk] at this
        exact Option.some.inj this
      exact cs_set x k v hkl hx2 (by rw [← ht]; exact itoa_inj hd)
    · have ht : x1 = x := by
        have := congrArg (List.take x.length) h
        rw [List.take_set, seal_take] at this
        rw [hl, seal_take] at this
        rw [this, List.set_eq_of_length_le (by omega)]
      rw [ht] at h
      apply hv
      have := congrArg (fun l : List UInt8 => l[k]?) h
      simp only [List.getElem?_set_self hk] at this
      rw [List.getElem?_eq_getElem hk] at this
      exact Option.some.inj this
  · have e1 : x.length = k := by
      refine Decidable.byContradiction fun hne => ?_
      have := hget x.length hne
      rw [mark_at] at this
      exact mark_only x1 h1 x.length hl this
    have e2 : x1.length = k := by
      refine Decidable.byContradiction fun hne => ?_
      have := hget x1.length hne
      rw [mark_at] at this
      exact mark_only x hx x1.length (fun e => hl e.symm) this.symm
    exact hl (e1.trans e2.symm)
end Go.Proofs.YtlenpaeaaobhhaaDoor.Flip
