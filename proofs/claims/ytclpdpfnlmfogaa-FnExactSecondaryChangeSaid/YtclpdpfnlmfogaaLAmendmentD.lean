/- The struct Amendment, of which fields are slices: the value in memory. No condition. -/
import Derived.Test.YtclpdpfnlmfogaaCompB
import Derived.Test.YtclpdpfnlmfogaaLStringD
namespace Go.Proofs.Ytclpdpfnlmfogaa.LAmendment
open Go.RowKit Bs
set_option linter.unusedVariables false
structure R where
  kind : Int
  pos : Int
  count : Int
  words : List LString.R
def Is (w : World) (v : Value) (r : R) : Prop := ∃ s3, v = .agg #[.int .i64 r.kind, .int .i64 r.pos, .int .i64 r.count, s3] ∧ Bs.Is LString.rec w s3 r.words
def IsQ (w : World) (v : Value) (r : R) : Prop := ∃ s3, v = .agg #[.int .i64 r.kind, .int .i64 r.pos, .int .i64 r.count, s3] ∧ Bs.IsQ LString.rec w s3 r.words
def IsS (w : World) (v : Value) (r : R) : Prop := ∃ s3, v = .agg #[.int .i64 r.kind, .int .i64 r.pos, .int .i64 r.count, s3] ∧ Bs.IsS LString.rec w s3 r.words
def Own (w : World) (A : Nat) (v : Value) (r : R) : Prop := ∃ s3, v = .agg #[.int .i64 r.kind, .int .i64 r.pos, .int .i64 r.count, s3] ∧ Bs.Own LString.rec 9 w A s3 r.words
/-- the slices' blocks lie below B -/
def Bnd (B : Nat) (v : Value) : Prop := ∀ x0 x1 x2 s3, v = .agg #[x0, x1, x2, s3] → (∀ k, s3.ownBlock = some k → k < B)
def NotNil (v : Value) : Prop := ∃ x0 x1 x2 s3, v = .agg #[x0, x1, x2, s3] ∧ (∃ g, s3.ownBlock = some g)
def OwnB (A B : Nat) (v : Value) (r : R) (w : World) : Prop := Own w A v r ∧ Bnd B v
section
variable {w w' : World} {A B : Nat} {v : Value} {r : R}
theorem IsS.is (h : IsS w v r) : Is w v r := by
  obtain ⟨s3, e, h3⟩ := h
  exact ⟨s3, e, Bs.IsS.is _ h3⟩
theorem IsS.isQ (h : IsS w v r) : IsQ w v r := by
  obtain ⟨s3, e, h3⟩ := h
  exact ⟨s3, e, .inr h3⟩
theorem IsQ.is (h : IsQ w v r) : Is w v r := by
  obtain ⟨s3, e, h3⟩ := h
  exact ⟨s3, e, Bs.IsQ.is h3⟩
theorem Own.is (h : Own w A v r) : Is w v r := by
  obtain ⟨s3, e, h3⟩ := h
  exact ⟨s3, e, Bs.Own.is h3⟩
theorem Own.isQ (h : Own w A v r) : IsQ w v r := by
  obtain ⟨s3, e, h3⟩ := h
  exact ⟨s3, e, Bs.Own.isQ h3⟩
theorem Own.isS (h : Own w A v r) (hv : NotNil v) : IsS w v r := by
  obtain ⟨s3, rfl, h3⟩ := h
  obtain ⟨tx0, tx1, tx2, ts3, e, ⟨g3, k3⟩⟩ := hv
  refine ⟨s3, rfl, Bs.Own.isS h3 ⟨g3, ?_⟩⟩
  · simp only [Value.agg.injEq, Array.mk.injEq, List.cons.injEq, and_true] at e
    obtain ⟨rfl, rfl, rfl, rfl⟩ := e
    exact k3
theorem Is.below (h : Is w v r) (hb : Below w.heap.size w w') : Is w' v r := by
  obtain ⟨s3, e, h3⟩ := h
  exact ⟨s3, e, Bs.Is.below _ h3 hb⟩
theorem IsQ.below (h : IsQ w v r) (hb : Below w.heap.size w w') : IsQ w' v r := by
  obtain ⟨s3, e, h3⟩ := h
  exact ⟨s3, e, Bs.IsQ.below h3 hb⟩
theorem IsS.below (h : IsS w v r) (hb : Below w.heap.size w w') : IsS w' v r := by
  obtain ⟨s3, e, h3⟩ := h
  exact ⟨s3, e, Bs.IsS.below _ h3 hb⟩
theorem Own.kept (h : Own w A v r) (hb : Below w.heap.size w w') : Own w' A v r := by
  obtain ⟨s3, e, h3⟩ := h
  exact ⟨s3, e, Bs.Own.kept h3 hb⟩
theorem Own.low {A' : Nat} (h : Own w A v r) (hA : A' ≤ A) : Own w A' v r := by
  obtain ⟨s3, e, h3⟩ := h
  exact ⟨s3, e, Bs.Own.low h3 hA⟩
theorem bnd_of {s3 : Value} (h : (∀ k, s3.ownBlock = some k → k < B)) (hv : v = .agg #[.int .i64 r.kind, .int .i64 r.pos, .int .i64 r.count, s3]) : Bnd B v := by
  subst hv
  intro tx0 tx1 tx2 ts3 e
  simp only [Value.agg.injEq, Array.mk.injEq, List.cons.injEq, and_true] at e
  obtain ⟨rfl, rfl, rfl, rfl⟩ := e
  exact h
theorem Own.loc (h : Own w A v r) : Bs.Loc A w.heap.size (OwnB A w.heap.size v r) w := by
  obtain ⟨s3, e, h3⟩ := h
  refine ⟨Nat.le_refl _, fun w2 hz hs => ?_⟩
  have o3 := (Bs.Own.loc h3).all w2 hz hs
  exact ⟨⟨s3, e, o3.1⟩, bnd_of (o3.2) e⟩
theorem Is.loc (h : Is w v r) : Bs.Loc 0 w.heap.size (fun W => Is W v r) w := by
  obtain ⟨s3, e, h3⟩ := h
  exact ⟨Nat.le_refl _, fun w2 hz hs => ⟨s3, e, (Bs.Is.loc h3).all w2 hz hs⟩⟩
theorem OwnB.slices (h : OwnB A B v r w) : ∃ s3, v = .agg #[.int .i64 r.kind, .int .i64 r.pos, .int .i64 r.count, s3] ∧ Bs.OwnB LString.rec 9 A B s3 r.words w := by
  obtain ⟨⟨s3, e, h3⟩, hB⟩ := h
  have hB := hB _ _ _ _ e
  have b3 := hB
  exact ⟨s3, e, ⟨h3, b3⟩⟩
theorem OwnB.loc (h : OwnB A B v r w) (hB : B ≤ w.heap.size) : Bs.Loc A B (OwnB A B v r) w := by
  obtain ⟨s3, e, h3⟩ := OwnB.slices h
  exact ⟨hB, fun w2 hz hs => ⟨⟨s3, e, ((Bs.OwnB.loc h3 hB).all w2 hz hs).1⟩, h.2⟩⟩
theorem Own.form (h : Own w A v r) : ∃ a3 n3 c3, v = .agg #[.int .i64 r.kind, .int .i64 r.pos, .int .i64 r.count, .slice a3 n3 c3] := by
  obtain ⟨s3, rfl, h3⟩ := h
  obtain ⟨a3, n3, c3, rfl⟩ := own_slice h3
  exact ⟨_, _, _, rfl⟩
theorem Own.zero : Own w A (.agg #[.int .i64 0, .int .i64 0, .int .i64 0, .slice none 0 0]) ⟨0, 0, 0, []⟩ := ⟨_, rfl, Bs.Own.nil⟩
end
end Go.Proofs.Ytclpdpfnlmfogaa.LAmendment
