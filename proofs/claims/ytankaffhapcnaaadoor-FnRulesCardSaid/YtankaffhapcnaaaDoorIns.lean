/- A rule put in its place: where it goes, what the list then is. Plain mathematics. -/
import Derived.Test.YtankaffhapcnaaaDoorJ1
namespace Go.Proofs.YtankaffhapcnaaaDoor.Ins
open Go.RowKit Bs
set_option linter.unusedVariables false
set_option maxRecDepth 100000
/-- all rules ahead of place k have a lesser id -/
def Less (xs : List LRule.R) (id : Int) (k : Nat) : Prop := ∀ (j : Nat) (p : LRule.R), j < k → xs[j]? = some p → p.id < id
def pos (xs : List LRule.R) (id : Int) : Nat := (xs.takeWhile fun r => decide (r.id < id)).length
theorem pos_le (xs : List LRule.R) (id : Int) : pos xs id ≤ xs.length := by
  unfold pos
  induction xs with
  | nil => simp
  | cons x xs ih => rw [List.takeWhile_cons]; split <;> simp at ih ⊢; exact ih
theorem pos_of : ∀ (xs : List LRule.R) (id : Int) (k : Nat), k ≤ xs.length → Less xs id k → (∀ p, xs[k]? = some p → ¬ p.id < id) → pos xs id = k
  | [], id, k, hk, _, _ => by simp at hk; subst hk; rfl
  | x :: xs, id, 0, _, _, h => by
    have := h x rfl
    unfold pos
    rw [List.takeWhile_cons, if_neg (by simpa using this)]
    rfl
  | x :: xs, id, k + 1, hk, hl, h => by
    have h0 := hl 0 x (Nat.succ_pos k) rfl
    have ih := pos_of xs id k (by simpa using hk) (fun j p hj hp => hl (j + 1) p (by omega) hp) (fun p hp => h p hp)
    unfold pos at ih ⊢
    rw [List.takeWhile_cons, if_pos (by simpa using h0), List.length_cons, ih]
theorem less_next {xs : List LRule.R} {id : Int} {k : Nat} {X : LRule.R} (h : Less xs id k) (hx : xs[k]? = some X) (hi : X.id < id) : Less xs id (k + 1) := fun j p hj hp => by
  rcases Nat.lt_or_ge j k with h' | h'
  · exact h j p h' hp
  · obtain rfl : j = k := by omega
    rw [hx] at hp
    rw [← Option.some.inj hp]
    exact hi
def ins (xs : List LRule.R) (r : LRule.R) : List LRule.R := xs.take (pos xs r.id) ++ [r] ++ xs.drop (pos xs r.id)
theorem ins_at (xs : List LRule.R) (r : LRule.R) (k : Nat) (hk : k ≤ xs.length) (hl : Less xs r.id k) (h : ∀ p, xs[k]? = some p → ¬ p.id < r.id) : ins xs r = xs.take k ++ [r] ++ xs.drop k := by
  unfold ins; rw [pos_of xs r.id k hk hl h]
theorem ins_len (xs : List LRule.R) (r : LRule.R) : (ins xs r).length = xs.length + 1 := by
  have := pos_le xs r.id
  unfold ins
  simp
  omega
theorem ins_fine {xs : List LRule.R} {r : LRule.R} (h : ∀ x ∈ xs, LRule.Fine x) (hr : LRule.Fine r) : ∀ x ∈ ins xs r, LRule.Fine x := by
  intro x hx
  unfold ins at hx
  simp only [List.mem_append, List.mem_singleton] at hx
  rcases hx with (hx | hx) | hx
  · exact h x (List.mem_of_mem_take hx)
  · subst hx; exact hr
  · exact h x (List.mem_of_mem_drop hx)
/-- what both answer -/
def Ans (z0 : List LRule.R) (a1 : LRule.R) (r0 : List LRule.R) (r1 : Bool) : Prop :=
  (Gd.goodB z0 = true ∧ Gd.goodB (ins z0 a1) = true ∧ r0 = ins z0 a1 ∧ r1 = true) ∨ ((Gd.goodB z0 = false ∨ Gd.goodB (ins z0 a1) = false) ∧ r0 = [] ∧ r1 = false)
theorem same {z0 : List LRule.R} {a1 : LRule.R} {r0 s0 : List LRule.R} {r1 s1 : Bool} (h : Ans z0 a1 r0 r1) (h' : Ans z0 a1 s0 s1) : r0 = s0 ∧ r1 = s1 := by
  rcases h with ⟨g1, g2, rfl, rfl⟩ | ⟨g, rfl, rfl⟩
  · rcases h' with ⟨_, _, rfl, rfl⟩ | ⟨g, _, _⟩
    · exact ⟨rfl, rfl⟩
    · rw [g1, g2] at g; simp at g
  · rcases h' with ⟨g1, g2, _, _⟩ | ⟨_, rfl, rfl⟩
    · rw [g1, g2] at g; simp at g
    · exact ⟨rfl, rfl⟩
theorem len0 {z0 : List LRule.R} {a1 : LRule.R} {r0 : List LRule.R} {r1 : Bool} (h : Ans z0 a1 r0 r1) : r0.length ≤ 1048576 := by
  rcases h with ⟨_, g2, rfl, rfl⟩ | ⟨g, rfl, rfl⟩
  · have := (Gd.good_of g2).1; omega
  · simp
def Post (z0 : List LRule.R) (a1 : LRule.R) (w : World) (e : Ending) (w' : World) : Prop :=
  ∃ v0 r0 r1, e = .returned (.tuple #[v0, .bool r1]) ∧ Ans z0 a1 r0 r1 ∧ Own LRule.rec 25 w' w.heap.size v0 r0 ∧ Below w.heap.size w w'
theorem good (v : Value) (xs : List LRule.R) (w : World) (h : Is LRule.rec w v xs) (f : ∀ x ∈ xs, LRule.Fine x) : Calls Tryd.prog 35 #[v] w (Gd.GoodPost xs w) := by
  obtain ⟨a, c, rfl, h1⟩ := h
  exact Gd.l2Good a _ c xs w rfl (RuleC.rules h1) f
theorem own_ins {w : World} {A n k : Nat} {v : Value} {z0 : List LRule.R} {a1 : LRule.R} (hn : z0.length = n) (hk : k ≤ n) (h : w.ownsRow A 25 7 v (k + 1 + (n - k)) (flat LRule.rec (z0.take k) ++ LRule.vals a1 ++ flat LRule.rec (z0.drop k))) (hi : ins z0 a1 = z0.take k ++ [a1] ++ z0.drop k) : Own LRule.rec 25 w A v (ins z0 a1) := by
  have hl : (ins z0 a1).length = k + 1 + (n - k) := by rw [ins_len]; omega
  have hf : flat LRule.rec (ins z0 a1) = flat LRule.rec (z0.take k) ++ LRule.vals a1 ++ flat LRule.rec (z0.drop k) := by
    rw [hi, flat_append, flat_append]
    congr 2
  unfold Own
  rw [hl, hf]
  exact h
end Go.Proofs.YtankaffhapcnaaaDoor.Ins
