/- Structs that hold several slices: slices read or nil, own slices in blocks of their own. No condition. -/
import Derived.Test.YtdjnaoaniokbgaaBx
namespace Go.Proofs.Ytdjnaoaniokbgaa.Bs
open Go.RowKit
set_option linter.unusedVariables false
section
variable {α : Type} {T : Rec α} {E : TypeId} {w w' : World} {A B : Nat} {v : Value} {xs : List α}
/-- nil, or a slice that reads as these records -/
def IsQ (T : Rec α) (w : World) (v : Value) (xs : List α) : Prop := (v = .slice none 0 0 ∧ xs = []) ∨ IsS T w v xs
theorem IsQ.is (h : IsQ T w v xs) : Is T w v xs := by
  rcases h with ⟨rfl, rfl⟩ | h
  · exact ⟨none, 0, rfl, Nat.le_refl _, Nat.zero_le _, .inl rfl⟩
  · exact h.is
theorem IsQ.below (h : IsQ T w v xs) (hb : Below w.heap.size w w') : IsQ T w' v xs := by
  rcases h with h | h
  · exact .inl h
  · exact .inr (IsS.below _ h hb)
theorem Own.isQ (h : Own T E w A v xs) : IsQ T w v xs := by
  rcases h.shape with h' | ⟨g, cap, e, _⟩
  · exact .inl h'
  · exact .inr (h.isS ⟨g, by rw [e]; rfl⟩)
theorem own_slice (h : Own T E w A v xs) : ∃ a n c, v = .slice a n c := by
  rcases h.shape with ⟨rfl, _⟩ | ⟨g, c, rfl, _⟩
  · exact ⟨_, _, _, rfl⟩
  · exact ⟨_, _, _, rfl⟩
/-- two values that lie in different blocks -/
def Dist (s t : Value) : Prop := ∀ k, s.ownBlock = some k → t.ownBlock ≠ some k
theorem dist_none {s : Value} : Dist (.slice none 0 0) s := fun k h => by cases h
theorem dist_none' {s : Value} : Dist s (.slice none 0 0) := fun k _ h => by cases h
theorem Dist.of_lt {s t : Value} {m : Nat} (hs : ∀ k, s.ownBlock = some k → k < m) (ht : ∀ k, t.ownBlock = some k → m ≤ k) : Dist s t := fun k h1 h2 => by
  have := hs k h1; have := ht k h2; omega
theorem Dist.of_gt {s t : Value} {m : Nat} (hs : ∀ k, s.ownBlock = some k → m ≤ k) (ht : ∀ k, t.ownBlock = some k → k < m) : Dist s t := fun k h1 h2 => by
  have := hs k h1; have := ht k h2; omega
theorem Dist.symm {s t : Value} (h : Dist s t) : Dist t s := fun k h1 h2 => h k h2 h1
theorem is_low {a : Option Addr} {c b o : Nat} (h : RowsAt T w a c xs) (e : a = some ⟨b, o, none⟩) (hne : xs ≠ []) : b < w.heap.size := by
  rcases h.2.2 with h' | ⟨b', o', e', hl, _⟩
  · exact absurd h' hne
  · rw [e] at e'
    simp only [Option.some.injEq, Addr.mk.injEq, and_true] at e'
    rw [e'.1]; exact hl
theorem is_set {a : Option Addr} {c n : Nat} (h : Is T w (.slice a n c) xs) (G i : Nat) (u : Value) (hq : ∀ b o, a = some ⟨b, o, none⟩ → xs ≠ [] → b ≠ G) : Is T (w.setCell ⟨G, i, none⟩ u) (.slice a n c) xs := by
  obtain ⟨a', c', e, h1, h2, h3⟩ := h
  simp only [Value.slice.injEq] at e
  obtain ⟨rfl, rfl, rfl⟩ := e
  refine ⟨_, _, rfl, h1, h2, ?_⟩
  by_cases hx : xs = []
  · exact .inl hx
  rcases h3 with h3 | ⟨b, o, rfl, hlt, hc⟩
  · exact .inl h3
  · refine .inr ⟨b, o, rfl, by simpa using hlt, fun j r hr => (hc j r hr).keep T fun p => ?_⟩
    have hb := hq b o rfl hx
    exact World.cell?_of_block (a := ⟨b, p, none⟩) (Below.heap_setCell w ⟨G, i, none⟩ u b hb)
/-- the narrowest range of blocks round an own slice -/
theorem own_tight {Bd : Nat} (hBd : Bd ≤ w.heap.size) (h : OwnB T E A Bd v xs w) : ∃ A' B', (A' ≤ B') ∧ (A ≤ A' ∨ A' = B') ∧ (B' ≤ Bd) ∧ OwnB T E A' B' v xs w ∧ ((∃ k, v.ownBlock = some k ∧ A' = k ∧ B' = k + 1) ∨ (v.ownBlock = none ∧ A' = B')) := by
  rcases h.1.shape with ⟨rfl, rfl⟩ | ⟨g, cap, rfl, hg1, hg2, _⟩
  · exact ⟨0, 0, Nat.le_refl _, .inr rfl, Nat.zero_le _, ⟨Own.nil, fun k hk => by cases hk⟩, .inr ⟨rfl, rfl⟩⟩
  · refine ⟨g, g + 1, Nat.le_succ _, .inl hg1, h.2 g rfl, ⟨?_, fun k hk => by cases hk; exact Nat.lt_succ_self _⟩, .inl ⟨g, rfl, rfl, rfl⟩⟩
    refine ⟨h.1.1, ?_⟩
    rcases h.1.2 with ⟨h', _⟩ | ⟨g', cap', cur, e, _, rest⟩
    · cases h'
    · simp only [Value.slice.injEq, Option.some.injEq, Addr.mk.injEq, and_true] at e
      obtain ⟨rfl, _, rfl⟩ := e
      exact .inr ⟨_, _, cur, rfl, Nat.le_refl _, rest⟩
theorem tight_apart {s t : Value} {A1 B1 A2 B2 : Nat} (hd : Dist s t) (h1 : (∃ k, s.ownBlock = some k ∧ A1 = k ∧ B1 = k + 1) ∨ (s.ownBlock = none ∧ A1 = B1)) (h2 : (∃ k, t.ownBlock = some k ∧ A2 = k ∧ B2 = k + 1) ∨ (t.ownBlock = none ∧ A2 = B2)) : B1 ≤ A2 ∨ B2 ≤ A1 := by
  rcases h1 with ⟨k, hk, rfl, rfl⟩ | ⟨_, rfl⟩ <;> rcases h2 with ⟨l, hl, rfl, rfl⟩ | ⟨_, rfl⟩
  · have : A1 ≠ A2 := fun e => hd A1 hk (by rw [hl, e])
    omega
  · omega
  · omega
  · omega
theorem apart_wide {A' B' Bd : Nat} {a b : World} (h : Apart A' B' a b) (hA : A ≤ A' ∨ A' = B') (hn : A' ≤ B') (hB : B' ≤ Bd) : Apart A Bd a b :=
  ⟨h.os, h.tape, h.output, h.size, fun j hj hn => h.block j hj (by omega)⟩
theorem own_wide {A' B' : Nat} (h : OwnB T E A' B' v xs w) (hA : A ≤ A' ∨ A' = B') : Own T E w A v xs := by
  rcases hA with hA | rfl
  · exact h.1.low hA
  · rcases h.1.shape with ⟨rfl, rfl⟩ | ⟨g, cap, rfl, hg1, _⟩
    · exact Own.nil
    · have := h.2 g rfl; omega
theorem IsQ.loc (h : IsQ T w v xs) : Loc 0 w.heap.size (fun W => IsQ T W v xs) w := by
  refine ⟨Nat.le_refl _, fun w' hz hs => ?_⟩
  rcases h with h | ⟨b, o, c, rfl, hb, h1, h2, h3⟩
  · exact .inl h
  · exact .inr ⟨b, o, c, rfl, Nat.lt_of_lt_of_le hb hz, h1, h2, fun j r hr => (h3 j r hr).keep T fun p => World.cell?_of_block (a := ⟨b, p, none⟩) (hs b (Nat.zero_le _) hb)⟩
end
end Go.Proofs.Ytdjnaoaniokbgaa.Bs
