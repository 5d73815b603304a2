/- Members in ascending order of their names: insertion from behind and from the front lead to the same list where all names differ. Plain mathematics. -/
import Derived.Test.YthhlhcojjeglkaaMem
import Derived.Test.YthhlhcojjeglkaaSrt
namespace Go.Proofs.Ythhlhcojjeglkaa.Nam
open Go Go.RowKit Bs Word Mem Srt
set_option linter.unusedVariables false
theorem less_irr : ∀ x : List UInt8, Op.bytesLess x x = false
  | [] => rfl
  | a :: x => by
    show (a < a || (a == a && Op.bytesLess x x)) = false
    rw [less_irr x]
    simp
theorem less_tri : ∀ x y : List UInt8, x ≠ y → Op.bytesLess x y = false → Op.bytesLess y x = true
  | [], [], h, _ => absurd rfl h
  | [], b :: y, _, h => by cases h
  | a :: x, [], _, _ => rfl
  | a :: x, b :: y, h, h2 => by
    show (b < a || (b == a && Op.bytesLess y x)) = true
    have h3 : (decide (a < b) || (a == b && Op.bytesLess x y)) = false := h2
    simp only [Bool.or_eq_false_iff, decide_eq_false_iff_not, Bool.and_eq_false_iff, beq_eq_false_iff_ne] at h3
    by_cases e : a = b
    · subst e
      have hxy : x ≠ y := fun e => h (by rw [e])
      have h4 : Op.bytesLess x y = false := by rcases h3.2 with h | h; exact absurd rfl h; exact h
      rw [less_tri x y hxy h4]; simp
    · have : b < a := by
        have h5 := h3.1
        rw [UInt8.lt_iff_toNat_lt] at h5 ⊢
        have h6 : a.toNat ≠ b.toNat := fun h => e (UInt8.toNat_inj.1 h)
        omega
      simp [this]
theorem less_trans : ∀ x y z : List UInt8, Op.bytesLess x y = true → Op.bytesLess y z = true → Op.bytesLess x z = true
  | x, y, [], _, h => by cases y <;> cases h
  | x, [], c :: z, h, _ => by cases x <;> cases h
  | [], b :: y, c :: z, _, _ => rfl
  | a :: x, b :: y, c :: z, h1, h2 => by
    have h3 : (decide (a < b) || (a == b && Op.bytesLess x y)) = true := h1
    have h4 : (decide (b < c) || (b == c && Op.bytesLess y z)) = true := h2
    show (decide (a < c) || (a == c && Op.bytesLess x z)) = true
    simp only [Bool.or_eq_true, decide_eq_true_eq, Bool.and_eq_true, beq_iff_eq] at h3 h4 ⊢
    rcases h3 with h3 | ⟨rfl, h3⟩
    · rcases h4 with h4 | ⟨rfl, h4⟩
      · left; rw [UInt8.lt_iff_toNat_lt] at h3 h4 ⊢; omega
      · exact .inl h3
    · rcases h4 with h4 | ⟨rfl, h4⟩
      · exact .inl h4
      · exact .inr ⟨rfl, less_trans x y z h3 h4⟩
def nlt (X Y : M) : Bool := Op.bytesLess X.name.toList Y.name.toList
theorem nlt_asym {X Y : M} (h : nlt X Y = true) : nlt Y X = false := by
  cases e : nlt Y X with
  | false => rfl
  | true =>
    have := less_trans _ _ _ h e
    rw [less_irr] at this; cases this
def Asc (S : List M) : Prop := ∀ (i j : Nat) (a b : M), i < j → S[i]? = some a → S[j]? = some b → nlt a b = true
def New (S : List M) (x : M) : Prop := ∀ y ∈ S, y.name.toList ≠ x.name.toList
/-- what pos tells -/
theorem pos_spec (S : List M) (x : M) : ∀ n, n ≤ S.length → (∀ j b, pos nlt S x n ≤ j → j < n → S[j]? = some b → nlt x b = true) ∧ (∀ p a, pos nlt S x n = p + 1 → S[p]? = some a → nlt x a = false)
  | 0, _ => ⟨fun j b _ h => by omega, fun p a h => by (have : pos nlt S x 0 = 0 := rfl); omega⟩
  | n + 1, hn => by
    have hx := List.getElem?_eq_getElem (show n < S.length by omega)
    obtain ⟨i1, i2⟩ := pos_spec S x n (by omega)
    cases e : nlt x S[n] with
    | true =>
      rw [pos_go hx e]
      refine ⟨fun j b h1 h2 hb => ?_, i2⟩
      rcases Nat.lt_or_ge j n with h | h
      · exact i1 j b h1 h hb
      · obtain rfl : j = n := by omega
        rw [hx] at hb; rw [← Option.some.inj hb]; exact e
    | false =>
      rw [pos_stop hx e]
      refine ⟨fun j b h1 h2 => by omega, fun p a hp ha => ?_⟩
      obtain rfl : n = p := by omega
      rw [hx] at ha; rw [← Option.some.inj ha]; exact e
/-- from the front: all ahead of place k are less -/
theorem front_eq {S : List M} {x : M} {k : Nat} (hs : Asc S) (hn : New S x) (hk : k ≤ S.length) (h1 : ∀ j a, j < k → S[j]? = some a → nlt a x = true) (h2 : ∀ a, S[k]? = some a → nlt a x = false) : pos nlt S x S.length = k := by
  obtain ⟨p1, p2⟩ := pos_spec S x S.length (Nat.le_refl _)
  have pl := pos_le (lt := nlt) S x S.length
  rcases Nat.lt_trichotomy (pos nlt S x S.length) k with h | h | h
  · have hx := List.getElem?_eq_getElem (show pos nlt S x S.length < S.length by omega)
    have a1 := h1 _ _ h hx
    have a2 := p1 _ _ (Nat.le_refl _) (by omega) hx
    rw [nlt_asym a1] at a2; cases a2
  · exact h
  · obtain ⟨p, hp⟩ : ∃ p, pos nlt S x S.length = p + 1 := ⟨pos nlt S x S.length - 1, by omega⟩
    have hxp := List.getElem?_eq_getElem (show p < S.length by omega)
    have hxk := List.getElem?_eq_getElem (show k < S.length by omega)
    have b1 := p2 p _ hp hxp
    have b2 := h2 _ hxk
    have b3 := less_tri _ _ (hn _ (List.getElem_mem (show k < S.length by omega))) b2
    rcases Nat.lt_or_ge k p with h' | h'
    · have b4 := hs k p _ _ h' hxk hxp
      have := less_trans _ _ _ b3 b4
      have b5 : nlt x S[p] = true := this
      rw [b1] at b5; cases b5
    · obtain rfl : k = p := by omega
      have b5 : nlt x S[k] = true := b3
      rw [b1] at b5; cases b5
theorem asc_ins {S : List M} {x : M} (hs : Asc S) (hn : New S x) : Asc (insS nlt S x) := by
  obtain ⟨p1, p2⟩ := pos_spec S x S.length (Nat.le_refl _)
  have pl := pos_le (lt := nlt) S x S.length
  obtain ⟨q, hq⟩ : ∃ q, q = pos nlt S x S.length := ⟨_, rfl⟩
  rw [← hq] at p1 p2 pl
  have less : ∀ i a, i < q → S[i]? = some a → nlt a x = true := fun i a hi ha => by
    have hxq := List.getElem?_eq_getElem (show q - 1 < S.length by omega)
    have b1 := p2 (q - 1) _ (by omega) hxq
    have b2 := less_tri _ _ (fun e => hn _ (List.getElem_mem (show q - 1 < S.length by omega)) e.symm) b1
    rcases Nat.lt_or_ge i (q - 1) with h | h
    · exact less_trans _ _ _ (hs i (q - 1) _ _ h ha hxq) b2
    · obtain rfl : i = q - 1 := by omega
      rw [hxq] at ha; rw [← Option.some.inj ha]; exact b2
  have at_ : ∀ i a, (insS nlt S x)[i]? = some a → (i < q ∧ S[i]? = some a) ∨ (i = q ∧ a = x) ∨ (q < i ∧ S[i - 1]? = some a) := fun i a h => by
    unfold insS at h
    rw [← hq] at h
    have hl : (S.take q).length = q := by rw [List.length_take]; omega
    rcases Nat.lt_trichotomy i q with h' | h' | h'
    · rw [List.getElem?_append_left (by omega), List.getElem?_take, if_pos h'] at h
      exact .inl ⟨h', h⟩
    · subst h'
      rw [List.getElem?_append_right (by omega), hl, Nat.sub_self, List.getElem?_cons_zero] at h
      exact .inr (.inl ⟨rfl, (Option.some.inj h).symm⟩)
    · rw [List.getElem?_append_right (by omega), hl, show i - q = (i - q - 1) + 1 by omega, List.getElem?_cons_succ, List.getElem?_drop, show q + (i - q - 1) = i - 1 by omega] at h
      exact .inr (.inr ⟨h', h⟩)
  intro i j a b hij ha hb
  rcases at_ i a ha with ⟨i1, i2⟩ | ⟨i1, rfl⟩ | ⟨i1, i2⟩ <;> rcases at_ j b hb with ⟨j1, j2⟩ | ⟨j1, rfl⟩ | ⟨j1, j2⟩
  · exact hs i j a b hij i2 j2
  · exact less i a i1 i2
  · exact hs i (j - 1) a b (by omega) i2 j2
  · omega
  · omega
  · exact p1 (j - 1) b (by omega) (by have := (List.getElem?_eq_some_iff.1 j2).1; omega) j2
  · omega
  · omega
  · exact hs (i - 1) (j - 1) a b (by omega) i2 j2
theorem name_of {p r : M} (h : clash p r = false) : p.name.toList ≠ r.name.toList := fun e => by
  unfold clash at h
  rw [e] at h
  simp at h
theorem good_new {z : List M} (hg : goodB z = true) {k : Nat} {x : M} (hx : z[k]? = some x) : New (srt nlt (z.take k)) x := fun y hy => by
  have hm := srt_mem hy
  obtain ⟨j, hj, rfl⟩ := List.getElem_of_mem hm
  have hjk : j < k := by rw [List.length_take] at hj; omega
  have hz : z[j]? = some (z.take k)[j] := by
    have := List.getElem?_eq_getElem hj
    rw [List.getElem?_take, if_pos hjk] at this
    exact this
  exact name_of (((good_of hg).2 k (List.getElem?_eq_some_iff.1 hx).1).2 j _ _ hjk hz hx)
theorem good_asc {z : List M} (hg : goodB z = true) : ∀ k, k ≤ z.length → Asc (srt nlt (z.take k))
  | 0, _ => fun i j a b _ ha => by simp [srt] at ha
  | k + 1, hk => by
    have hx := List.getElem?_eq_getElem (show k < z.length by omega)
    rw [srt_next hx]
    exact asc_ins (good_asc hg k (by omega)) (good_new hg hx)
def nums (z : List M) : List Int := (srt nlt z).map (fun m => m.num)
def names (z : List M) : List ByteArray := (srt nlt z).map (fun m => m.name)
end Go.Proofs.Ythhlhcojjeglkaa.Nam
