/- The struct Proposal, of which fields are slices: the value in memory. No condition. -/
import Derived.Test.YtclpdpfnlmfogaaCompB
import Derived.Test.YtclpdpfnlmfogaaLStringD
namespace Go.Proofs.Ytclpdpfnlmfogaa.LProposal
open Go.RowKit Bs
set_option linter.unusedVariables false
structure R where
  id : Int
  kind : Int
  pos : Int
  count : Int
  words : List LString.R
  weight : Int
def Is (w : World) (v : Value) (r : R) : Prop := ∃ s4, v = .agg #[.int .i64 r.id, .int .i64 r.kind, .int .i64 r.pos, .int .i64 r.count, s4, .int .i64 r.weight] ∧ Bs.Is LString.rec w s4 r.words
def IsQ (w : World) (v : Value) (r : R) : Prop := ∃ s4, v = .agg #[.int .i64 r.id, .int .i64 r.kind, .int .i64 r.pos, .int .i64 r.count, s4, .int .i64 r.weight] ∧ Bs.IsQ LString.rec w s4 r.words
def IsS (w : World) (v : Value) (r : R) : Prop := ∃ s4, v = .agg #[.int .i64 r.id, .int .i64 r.kind, .int .i64 r.pos, .int .i64 r.count, s4, .int .i64 r.weight] ∧ Bs.IsS LString.rec w s4 r.words
def Own (w : World) (A : Nat) (v : Value) (r : R) : Prop := ∃ s4, v = .agg #[.int .i64 r.id, .int .i64 r.kind, .int .i64 r.pos, .int .i64 r.count, s4, .int .i64 r.weight] ∧ Bs.Own LString.rec 9 w A s4 r.words
/-- the slices' blocks lie below B -/
def Bnd (B : Nat) (v : Value) : Prop := ∀ x0 x1 x2 x3 s4 x5, v = .agg #[x0, x1, x2, x3, s4, x5] → (∀ k, s4.ownBlock = some k → k < B)
def NotNil (v : Value) : Prop := ∃ x0 x1 x2 x3 s4 x5, v = .agg #[x0, x1, x2, x3, s4, x5] ∧ (∃ g, s4.ownBlock = some g)
def OwnB (A B : Nat) (v : Value) (r : R) (w : World) : Prop := Own w A v r ∧ Bnd B v
section
variable {w w' : World} {A B : Nat} {v : Value} {r : R}
theorem IsS.is (h : IsS w v r) : Is w v r := by
  obtain ⟨s4, e, h4⟩ := h
  exact ⟨s4, e, Bs.IsS.is _ h4⟩
theorem IsS.isQ (h : IsS w v r) : IsQ w v r := by
  obtain ⟨s4, e, h4⟩ := h
  exact ⟨s4, e, .inr h4⟩
theorem IsQ.is (h : IsQ w v r) : Is w v r := by
  obtain ⟨s4, e, h4⟩ := h
  exact ⟨s4, e, Bs.IsQ.is h4⟩
theorem Own.is (h : Own w A v r) : Is w v r := by
  obtain ⟨s4, e, h4⟩ := h
  exact ⟨s4, e, Bs.Own.is h4⟩
theorem Own.isQ (h : Own w A v r) : IsQ w v r := by
  obtain ⟨s4, e, h4⟩ := h
  exact ⟨s4, e, Bs.Own.isQ h4⟩
theorem Own.isS (h : Own w A v r) (hv : NotNil v) : IsS w v r := by
  obtain ⟨s4, rfl, h4⟩ := h
  obtain ⟨tx0, tx1, tx2, tx3, ts4, tx5, e, ⟨g4, k4⟩⟩ := hv
  refine ⟨s4, rfl, Bs.Own.isS h4 ⟨g4, ?_⟩⟩
  · simp only [Value.agg.injEq, Array.mk.injEq, List.cons.injEq, and_true] at e
    obtain ⟨rfl, rfl, rfl, rfl, rfl, rfl⟩ := e
    exact k4
theorem Is.below (h : Is w v r) (hb : Below w.heap.size w w') : Is w' v r := by
  obtain ⟨s4, e, h4⟩ := h
  exact ⟨s4, e, Bs.Is.below _ h4 hb⟩
theorem IsQ.below (h : IsQ w v r) (hb : Below w.heap.size w w') : IsQ w' v r := by
  obtain ⟨s4, e, h4⟩ := h
  exact ⟨s4, e, Bs.IsQ.below h4 hb⟩
theorem IsS.below (h : IsS w v r) (hb : Below w.heap.size w w') : IsS w' v r := by
  obtain ⟨s4, e, h4⟩ := h
  exact ⟨s4, e, Bs.IsS.below _ h4 hb⟩
theorem Own.kept (h : Own w A v r) (hb : Below w.heap.size w w') : Own w' A v r := by
  obtain ⟨s4, e, h4⟩ := h
  exact ⟨s4, e, Bs.Own.kept h4 hb⟩
theorem Own.low {A' : Nat} (h : Own w A v r) (hA : A' ≤ A) : Own w A' v r := by
  obtain ⟨s4, e, h4⟩ := h
  exact ⟨s4, e, Bs.Own.low h4 hA⟩
theorem bnd_of {s4 : Value} (h : (∀ k, s4.ownBlock = some k → k < B)) (hv : v = .agg #[.int .i64 r.id, .int .i64 r.kind, .int .i64 r.pos, .int .i64 r.count, s4, .int .i64 r.weight]) : Bnd B v := by
  subst hv
  intro tx0 tx1 tx2 tx3 ts4 tx5 e
  simp only [Value.agg.injEq, Array.mk.injEq, List.cons.injEq, and_true] at e
  obtain ⟨rfl, rfl, rfl, rfl, rfl, rfl⟩ := e
  exact h
theorem Own.loc (h : Own w A v r) : Bs.Loc A w.heap.size (OwnB A w.heap.size v r) w := by
  obtain ⟨s4, e, h4⟩ := h
  refine ⟨Nat.le_refl _, fun w2 hz hs => ?_⟩
  have o4 := (Bs.Own.loc h4).all w2 hz hs
  exact ⟨⟨s4, e, o4.1⟩, bnd_of (o4.2) e⟩
theorem Is.loc (h : Is w v r) : Bs.Loc 0 w.heap.size (fun W => Is W v r) w := by
  obtain ⟨s4, e, h4⟩ := h
  exact ⟨Nat.le_refl _, fun w2 hz hs => ⟨s4, e, (Bs.Is.loc h4).all w2 hz hs⟩⟩
theorem OwnB.slices (h : OwnB A B v r w) : ∃ s4, v = .agg #[.int .i64 r.id, .int .i64 r.kind, .int .i64 r.pos, .int .i64 r.count, s4, .int .i64 r.weight] ∧ Bs.OwnB LString.rec 9 A B s4 r.words w := by
  obtain ⟨⟨s4, e, h4⟩, hB⟩ := h
  have hB := hB _ _ _ _ _ _ e
  have b4 := hB
  exact ⟨s4, e, ⟨h4, b4⟩⟩
theorem OwnB.loc (h : OwnB A B v r w) (hB : B ≤ w.heap.size) : Bs.Loc A B (OwnB A B v r) w := by
  obtain ⟨s4, e, h4⟩ := OwnB.slices h
  exact ⟨hB, fun w2 hz hs => ⟨⟨s4, e, ((Bs.OwnB.loc h4 hB).all w2 hz hs).1⟩, h.2⟩⟩
theorem Own.form (h : Own w A v r) : ∃ a4 n4 c4, v = .agg #[.int .i64 r.id, .int .i64 r.kind, .int .i64 r.pos, .int .i64 r.count, .slice a4 n4 c4, .int .i64 r.weight] := by
  obtain ⟨s4, rfl, h4⟩ := h
  obtain ⟨a4, n4, c4, rfl⟩ := own_slice h4
  exact ⟨_, _, _, rfl⟩
theorem Own.zero : Own w A (.agg #[.int .i64 0, .int .i64 0, .int .i64 0, .int .i64 0, .slice none 0 0, .int .i64 0]) ⟨0, 0, 0, 0, [], 0⟩ := ⟨_, rfl, Bs.Own.nil⟩
end
end Go.Proofs.Ytclpdpfnlmfogaa.LProposal
