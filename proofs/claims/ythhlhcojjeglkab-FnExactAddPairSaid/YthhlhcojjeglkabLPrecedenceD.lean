/- The struct Precedence, of which a field is a slice: the value in memory. No condition. -/
import Derived.Test.YthhlhcojjeglkabBx
import Derived.Test.YthhlhcojjeglkabLIntA2D
namespace Go.Proofs.Ythhlhcojjeglkab.LPrecedence
open Go.RowKit Bs
set_option linter.unusedVariables false
structure R where
  kinds : Int
  over : List LIntA2.R
def Is (w : World) (v : Value) (r : R) : Prop := ∃ s, v = .agg #[.int .i64 r.kinds, s] ∧ Bs.Is LIntA2.rec w s r.over
def IsS (w : World) (v : Value) (r : R) : Prop := ∃ s, v = .agg #[.int .i64 r.kinds, s] ∧ Bs.IsS LIntA2.rec w s r.over
def Own (w : World) (A : Nat) (v : Value) (r : R) : Prop := ∃ s, v = .agg #[.int .i64 r.kinds, s] ∧ Bs.Own LIntA2.rec 48 w A s r.over
/-- the slice's block lies below B -/
def Bnd (B : Nat) (v : Value) : Prop := ∀ x0 s, v = .agg #[x0, s] → ∀ k, s.ownBlock = some k → k < B
def NotNil (v : Value) : Prop := ∃ x0 s g, v = .agg #[x0, s] ∧ s.ownBlock = some g
def OwnB (A B : Nat) (v : Value) (r : R) (w : World) : Prop := Own w A v r ∧ Bnd B v
section
variable {w w' : World} {A B : Nat} {v : Value} {r : R}
theorem IsS.is (h : IsS w v r) : Is w v r := by obtain ⟨s, e, h⟩ := h; exact ⟨s, e, Bs.IsS.is _ h⟩
theorem Own.is (h : Own w A v r) : Is w v r := by obtain ⟨s, e, h⟩ := h; exact ⟨s, e, Bs.Own.is h⟩
theorem Own.isS (h : Own w A v r) (hv : NotNil v) : IsS w v r := by
  obtain ⟨s, rfl, h⟩ := h
  obtain ⟨x0, t, g, e, hg⟩ := hv
  refine ⟨s, rfl, Bs.Own.isS h ⟨g, ?_⟩⟩
  simp only [Value.agg.injEq, Array.mk.injEq, List.cons.injEq, and_true] at e
  obtain ⟨rfl, rfl⟩ := e
  exact hg
theorem Is.below (h : Is w v r) (hb : Below w.heap.size w w') : Is w' v r := by obtain ⟨s, e, h⟩ := h; exact ⟨s, e, Bs.Is.below _ h hb⟩
theorem IsS.below (h : IsS w v r) (hb : Below w.heap.size w w') : IsS w' v r := by obtain ⟨s, e, h⟩ := h; exact ⟨s, e, Bs.IsS.below _ h hb⟩
theorem Own.kept (h : Own w A v r) (hb : Below w.heap.size w w') : Own w' A v r := by obtain ⟨s, e, h⟩ := h; exact ⟨s, e, Bs.Own.kept h hb⟩
theorem Own.low {A' : Nat} (h : Own w A v r) (hA : A' ≤ A) : Own w A' v r := by obtain ⟨s, e, h⟩ := h; exact ⟨s, e, Bs.Own.low h hA⟩
theorem bnd_of {s : Value} (h : ∀ k, s.ownBlock = some k → k < B) (hv : v = .agg #[.int .i64 r.kinds, s]) : Bnd B v := by
  subst hv
  intro x0 t e k hk
  simp only [Value.agg.injEq, Array.mk.injEq, List.cons.injEq, and_true] at e
  obtain ⟨rfl, rfl⟩ := e
  exact h k hk
theorem Own.loc (h : Own w A v r) : Bs.Loc A w.heap.size (OwnB A w.heap.size v r) w := by
  obtain ⟨s, e, h⟩ := h
  refine ⟨Nat.le_refl _, fun w2 hz hs => ?_⟩
  have h2 := (Bs.Own.loc h).all w2 hz hs
  exact ⟨⟨s, e, h2.1⟩, bnd_of h2.2 e⟩
theorem Is.loc (h : Is w v r) : Bs.Loc 0 w.heap.size (fun W => Is W v r) w := by
  obtain ⟨s, e, h⟩ := h
  exact ⟨Nat.le_refl _, fun w2 hz hs => ⟨s, e, (Bs.Is.loc h).all w2 hz hs⟩⟩
theorem OwnB.slice {s : Value} (h : OwnB A B (.agg #[.int .i64 r.kinds, s]) r w) : Bs.OwnB LIntA2.rec 48 A B s r.over w := by
  obtain ⟨⟨t, e, h1⟩, h2⟩ := h
  simp only [Value.agg.injEq, Array.mk.injEq, List.cons.injEq, and_true, true_and] at e
  subst e
  exact ⟨h1, fun k hk => h2 _ _ rfl k hk⟩
theorem OwnB.loc (h : OwnB A B v r w) (hB : B ≤ w.heap.size) : Bs.Loc A B (OwnB A B v r) w := by
  obtain ⟨⟨s, e, h1⟩, h2⟩ := h
  have h3 : Bs.OwnB LIntA2.rec 48 A B s r.over w := ⟨h1, fun k hk => h2 _ _ e k hk⟩
  exact ⟨hB, fun w2 hz hs => ⟨⟨s, e, ((Bs.OwnB.loc h3 hB).all w2 hz hs).1⟩, h2⟩⟩
theorem Own.form (h : Own w A v r) : ∃ a n c, v = .agg #[.int .i64 r.kinds, .slice a n c] := by
  obtain ⟨s, rfl, h⟩ := h
  rcases h.shape with ⟨rfl, _⟩ | ⟨g, c, rfl, _⟩
  · exact ⟨_, _, _, rfl⟩
  · exact ⟨_, _, _, rfl⟩
theorem Own.zero : Own w A (.agg #[.int .i64 0, .slice none 0 0]) ⟨0, []⟩ := ⟨_, rfl, Bs.Own.nil⟩
end
end Go.Proofs.Ythhlhcojjeglkab.LPrecedence
