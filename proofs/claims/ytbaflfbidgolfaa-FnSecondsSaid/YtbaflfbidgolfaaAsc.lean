/- Ascending lists of numbers. Plain mathematics. -/
import Derived.Test.YtbaflfbidgolfaaData
namespace Go.Proofs.Ytbaflfbidgolfaa.AscM
set_option linter.unusedVariables false
/-- ascending lists -/
def Asc : List Int → Prop
  | [] => True
  | x :: xs => (∀ y ∈ xs, x < y) ∧ Asc xs
theorem asc_ext : ∀ {xs ys : List Int}, Asc xs → Asc ys → (∀ n, n ∈ xs ↔ n ∈ ys) → xs = ys
  | [], [], _, _, _ => rfl
  | [], y :: ys, _, _, h => by have := (h y).2 (by simp); simp at this
  | x :: xs, [], _, _, h => by have := (h x).1 (by simp); simp at this
  | x :: xs, y :: ys, hx, hy, h => by
    have e : x = y := by
      rcases List.mem_cons.1 ((h x).1 (by simp)) with e | e
      · exact e
      · rcases List.mem_cons.1 ((h y).2 (by simp)) with e' | e'
        · exact e'.symm
        · have h1 := hy.1 x e
          have h2 := hx.1 y e'
          omega
    subst e
    rw [asc_ext hx.2 hy.2 (fun n => ?_)]
    constructor
    · intro hn
      rcases List.mem_cons.1 ((h n).1 (by simp [hn])) with e | e
      · subst e; have := hx.1 n hn; omega
      · exact e
    · intro hn
      rcases List.mem_cons.1 ((h n).2 (by simp [hn])) with e | e
      · subst e; have := hy.1 n hn; omega
      · exact e
theorem asc_append : ∀ {xs : List Int} {y : Int}, Asc xs → (∀ x ∈ xs, x < y) → Asc (xs ++ [y])
  | [], y, _, _ => ⟨fun _ h => (List.not_mem_nil h).elim, trivial⟩
  | x :: xs, y, h, hl => ⟨fun z hz => by
      rcases List.mem_append.1 hz with hz | hz
      · exact h.1 z hz
      · rw [List.mem_singleton.1 hz]; exact hl x (by simp), asc_append h.2 (fun x hx => hl x (by simp [hx]))⟩
def PosAt (z : List Int) (x : Int) (k : Nat) : Prop := (∀ (j : Nat) (y : Int), j < k → z[j]? = some y → y < x) ∧ ∀ (j : Nat) (y : Int), k ≤ j → z[j]? = some y → x < y
theorem asc_lt : ∀ {z : List Int}, Asc z → ∀ {i j : Nat} {x y : Int}, i < j → z[i]? = some x → z[j]? = some y → x < y
  | [], _, i, j, x, y, _, hx, _ => by simp at hx
  | a :: z, h, 0, j + 1, x, y, _, hx, hy => by
    simp only [List.getElem?_cons_zero, Option.some.injEq] at hx
    subst hx
    exact h.1 y (List.mem_of_getElem? (by simpa using hy))
  | a :: z, h, i + 1, j + 1, x, y, hij, hx, hy => asc_lt (i := i) (j := j) h.2 (by omega) (by simpa using hx) (by simpa using hy)
theorem pos_at {z : List Int} {x X : Int} {k : Nat} (hz : Asc z) (hl : ∀ (j : Nat) (y : Int), j < k → z[j]? = some y → y < x) (hX : z[k]? = some X) (hx : x < X) : PosAt z x k := ⟨hl, fun j y hj hy => by
  rcases Nat.lt_or_ge k j with h | h
  · have := asc_lt hz h hX hy; omega
  · obtain rfl : j = k := by omega
    rw [hX] at hy; rw [← Option.some.inj hy]; exact hx⟩
theorem pos_end {z : List Int} {x : Int} {k : Nat} (hl : ∀ (j : Nat) (y : Int), j < k → z[j]? = some y → y < x) (hk : z.length ≤ k) : PosAt z x k := ⟨hl, fun j y hj hy => by have := (List.getElem?_eq_some_iff.1 hy).1; omega⟩
theorem asc_of : ∀ {z : List Int}, (∀ (i j : Nat) (x y : Int), i < j → z[i]? = some x → z[j]? = some y → x < y) → Asc z
  | [], _ => trivial
  | a :: z, h => ⟨fun y hy => by
      obtain ⟨j, hj, rfl⟩ := List.getElem_of_mem hy
      exact h 0 (j + 1) a _ (by omega) rfl (by simp [hj]), asc_of fun i j x y hij hx hy => h (i + 1) (j + 1) x y (by omega) (by simpa using hx) (by simpa using hy)⟩
theorem ins_asc {z : List Int} {x : Int} {k : Nat} (hz : Asc z) (h : PosAt z x k) : Asc (z.take k ++ [x] ++ z.drop k) := by
  have low : ∀ y ∈ z.take k, y < x := fun y hy => by
    obtain ⟨j, hj, rfl⟩ := List.getElem_of_mem hy
    rw [List.length_take] at hj
    rw [List.getElem_take]
    exact h.1 j _ (by omega) (List.getElem?_eq_getElem (by omega))
  have high : ∀ y ∈ z.drop k, x < y := fun y hy => by
    obtain ⟨j, hj, rfl⟩ := List.getElem_of_mem hy
    rw [List.length_drop] at hj
    rw [List.getElem_drop]
    exact h.2 (k + j) _ (by omega) (List.getElem?_eq_getElem (by omega))
  have app : ∀ {u v : List Int}, Asc u → Asc v → (∀ a ∈ u, ∀ b ∈ v, a < b) → Asc (u ++ v) := by
    intro u
    induction u with
    | nil => intro v _ hv _; exact hv
    | cons a u ih => intro v hu hv huv; exact ⟨fun y hy => by
        rcases List.mem_append.1 hy with hy | hy
        · exact hu.1 y hy
        · exact huv a (by simp) y hy, ih hu.2 hv (fun a ha b hb => huv a (by simp [ha]) b hb)⟩
  have ht : Asc (z.take k) := asc_of fun i j a b hij ha hb => by
    rw [List.getElem?_take] at ha hb
    split at ha <;> split at hb
    · exact asc_lt hz hij ha hb
    all_goals simp_all
  have hd : Asc (z.drop k) := asc_of fun i j a b hij ha hb => by
    rw [List.getElem?_drop] at ha hb
    exact asc_lt hz (by omega) ha hb
  refine app (asc_append ht low) hd fun a ha b hb => ?_
  rcases List.mem_append.1 ha with ha | ha
  · have := low a ha; have := high b hb; omega
  · rw [List.mem_singleton.1 ha]; exact high b hb
theorem ins_mem {z : List Int} {x m : Int} {k : Nat} : m ∈ z.take k ++ [x] ++ z.drop k ↔ m = x ∨ m ∈ z := by
  have e : m ∈ z ↔ m ∈ z.take k ∨ m ∈ z.drop k := by rw [← List.mem_append, List.take_append_drop]
  rw [e]
  simp only [List.mem_append, List.mem_singleton]
  constructor
  · rintro ((h | h) | h)
    · exact .inr (.inl h)
    · exact .inl h
    · exact .inr (.inr h)
  · rintro (h | h | h)
    · exact .inl (.inr h)
    · exact .inl (.inl h)
    · exact .inr h
theorem low_next {z : List Int} {x X : Int} {k : Nat} (hl : ∀ (j : Nat) (y : Int), j < k → z[j]? = some y → y < x) (hX : z[k]? = some X) (h : X < x) : ∀ (j : Nat) (y : Int), j < k + 1 → z[j]? = some y → y < x := fun j y hj hy => by
  rcases Nat.lt_or_ge j k with h' | h'
  · exact hl j y h' hy
  · obtain rfl : j = k := by omega
    rw [hX] at hy; rw [← Option.some.inj hy]; exact h
theorem asc_len : ∀ {z : List Int} {lo : Int} {n : Nat}, Asc z → (∀ x ∈ z, lo ≤ x ∧ x < lo + n) → z.length ≤ n
  | [], _, _, _, _ => Nat.zero_le _
  | a :: z, lo, n, h, hz => by
    have h1 := hz a (by simp)
    have h0 : 0 < n := by omega
    have := asc_len (z := z) (lo := lo + 1) (n := n - 1) h.2 (fun x hx => by have := hz x (by simp [hx]); have := h.1 x hx; omega)
    simp only [List.length_cons]; omega
end Go.Proofs.Ytbaflfbidgolfaa.AscM
