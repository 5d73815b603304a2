/- Joining what was split. -/
import Derived.Test.YtlenpaeaaobhhaaSplitMath
import Derived.Test.YtlenpaeaaobhhaaJoinMath
namespace Go.Proofs.Ytlenpaeaaobhhaa.SplitJoinMath
open Go SplitMath JoinMath

theorem spl_inv (c : UInt8) : ∀ (n : Nat) (l : List UInt8), l.length = n → (∀ x ∈ (spl l c).1, x.contains c = false) ∧ (spl l c).2.contains c = false ∧ Lib.join ((spl l c).1 ++ [(spl l c).2]) [c] = l := by
  intro n
  induction n with
  | zero =>
    intro l hl
    rw [List.length_eq_zero_iff.1 hl]
    refine ⟨(fun x hx => by cases hx), rfl, ?_⟩
    show Lib.join [[]] [c] = []
    rw [Lib.join_one]
  | succ n ih =>
    intro l hl
    rcases List.eq_nil_or_concat l with rfl | ⟨m, b, rfl⟩
    · simp at hl
    · rw [List.concat_eq_append] at hl ⊢
      obtain ⟨h1, h2, h3⟩ := ih m (by simpa using hl)
      by_cases hb : b = c
      · subst hb
        rw [spl_hit]
        refine ⟨?_, rfl, ?_⟩
        · intro x hx
          rcases List.mem_append.1 hx with hx | hx
          · exact h1 x hx
          · simp only [List.mem_singleton] at hx
            subst hx
            exact h2
        · rw [join_snoc _ _ _ (by simp), h3]
          simp
      · rw [spl_miss _ _ _ hb]
        refine ⟨h1, ?_, ?_⟩
        · rw [List.contains_eq_any_beq, List.any_append, ← List.contains_eq_any_beq, h2]
          simp
          exact fun e => hb e.symm
        · conv => rhs; rw [← h3]
          by_cases hd : (spl m c).1 = []
          · rw [hd]
            show Lib.join [(spl m c).2 ++ [b]] [c] = Lib.join [(spl m c).2] [c] ++ [b]
            rw [Lib.join_one, Lib.join_one]
          · rw [join_snoc _ _ _ hd, join_snoc _ _ _ hd]
            simp
theorem mem_tot (q : List (List UInt8)) (y : List UInt8) (h : y ∈ q) : y.length ≤ tot q := by
  induction q with
  | nil => cases h
  | cons x q ih =>
    simp only [tot, List.map_cons, List.sum_cons] at ih ⊢
    rcases List.mem_cons.1 h with rfl | h
    · omega
    · have := ih h; omega
theorem join_split (l : List UInt8) (c : UInt8) : Lib.join (splitOf l c) [c] = l := (spl_inv c l.length l rfl).2.2
theorem split_fit (l : List UInt8) (c : UInt8) (h : l.length ≤ 4000) : Fit (splitOf l c) c := by
  obtain ⟨h1, h2, h3⟩ := spl_inv c l.length l rfl
  refine ⟨by simp [splitOf], ?_, by rw [join_split]; exact h⟩
  intro x hx
  rcases List.mem_append.1 hx with hx | hx
  · exact h1 x hx
  · simp only [List.mem_singleton] at hx
    subst hx
    exact h2
end Go.Proofs.Ytlenpaeaaobhhaa.SplitJoinMath
