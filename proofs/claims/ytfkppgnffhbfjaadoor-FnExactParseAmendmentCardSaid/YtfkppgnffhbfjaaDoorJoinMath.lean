/- Joining lists of bytes; no program. -/
import Derived.Lib.Join
namespace Go.Proofs.YtfkppgnffhbfjaaDoor.JoinMath
open Go

theorem joinTail_snoc (sep : List UInt8) (r : List (List UInt8)) (x : List UInt8) : Lib.joinTail sep (r ++ [x]) = Lib.joinTail sep r ++ (sep ++ x) := by simp [Lib.joinTail]
theorem join_snoc (xs : List (List UInt8)) (x sep : List UInt8) (h : xs ≠ []) : Lib.join (xs ++ [x]) sep = Lib.join xs sep ++ sep ++ x := by
  cases xs with
  | nil => exact absurd rfl h
  | cons y r => rw [List.cons_append, Lib.join_cons, Lib.join_cons, joinTail_snoc]; simp
/-- the lengths together -/
def tot (xs : List (List UInt8)) : Nat := (xs.map List.length).sum
theorem tot_snoc (xs : List (List UInt8)) (x : List UInt8) : tot (xs ++ [x]) = tot xs + x.length := by simp [tot]
theorem tot_append (xs ys : List (List UInt8)) : tot (xs ++ ys) = tot xs + tot ys := by simp [tot]
theorem joinTail_len (sep : List UInt8) (h : sep.length = 1) : ∀ r : List (List UInt8), (Lib.joinTail sep r).length = r.length + tot r := by
  intro r
  induction r with
  | nil => rfl
  | cons x r ih =>
    have e : Lib.joinTail sep (x :: r) = (sep ++ x) ++ Lib.joinTail sep r := by simp [Lib.joinTail]
    rw [e, List.length_append, ih, List.length_append, h]
    simp [tot]
    omega
theorem join_len (xs : List (List UInt8)) (sep : List UInt8) (h : sep.length = 1) (hx : xs ≠ []) : (Lib.join xs sep).length + 1 = xs.length + tot xs := by
  cases xs with
  | nil => exact absurd rfl hx
  | cons x r =>
    rw [Lib.join_cons, List.length_append, joinTail_len sep h]
    simp [tot]
    omega
theorem tot_take_le (xs : List (List UInt8)) (k : Nat) : tot (xs.take k) ≤ tot xs := by
  have := congrArg tot (List.take_append_drop k xs)
  rw [tot_append] at this
  omega

/-- the elements that can be joined -/
def Fit (xs : List (List UInt8)) (c : UInt8) : Prop := xs ≠ [] ∧ (∀ x ∈ xs, x.contains c = false) ∧ (Lib.join xs [c]).length ≤ 4000
theorem not_fit_has {xs : List (List UInt8)} {c : UInt8} {x : List UInt8} (hx : x ∈ xs) (h : x.contains c = true) : ¬ Fit xs c := fun hf => by
  rw [hf.2.1 x hx] at h; cases h
theorem not_fit_long {xs : List (List UInt8)} {c : UInt8} {k : Nat} (h : 4000 + 1 < xs.length + tot (xs.take k)) : ¬ Fit xs c := fun hf => by
  have h1 := join_len xs [c] rfl hf.1
  have h2 := tot_take_le xs k
  have h3 := hf.2.2
  omega
theorem not_fit_join {xs : List (List UInt8)} {c : UInt8} {k : Nat} (hk : 0 < (xs.take k).length) (h : 4000 < (Lib.join (xs.take k) [c]).length) : ¬ Fit xs c := by
  have hne : xs.take k ≠ [] := by intro e; rw [e] at hk; simp at hk
  have h1 := join_len (xs.take k) [c] rfl hne
  have h2 : (xs.take k).length ≤ xs.length := List.length_take_le' _ _
  exact not_fit_long (k := k) (by omega)
end Go.Proofs.YtfkppgnffhbfjaaDoor.JoinMath
