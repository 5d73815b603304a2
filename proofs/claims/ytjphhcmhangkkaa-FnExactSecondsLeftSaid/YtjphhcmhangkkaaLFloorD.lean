/- The struct Floor, of which fields are slices: the value in memory. No condition. -/
import Derived.Test.YtjphhcmhangkkaaCompB
import Derived.Test.YtjphhcmhangkkaaLIntD
import Derived.Test.YtjphhcmhangkkaaLShareD
namespace Go.Proofs.Ytjphhcmhangkkaa.LFloor
open Go.RowKit Bs
set_option linter.unusedVariables false
structure R where
  turns : Int
  seconds : Int
  speaking : Int
  waiting : List LInt.R
  shares : List LShare.R
def Is (w : World) (v : Value) (r : R) : Prop := ∃ s3 s4, v = .agg #[.int .i64 r.turns, .int .i64 r.seconds, .int .i64 r.speaking, s3, s4] ∧ Bs.Is LInt.rec w s3 r.waiting ∧ Bs.Is LShare.rec w s4 r.shares
def IsQ (w : World) (v : Value) (r : R) : Prop := ∃ s3 s4, v = .agg #[.int .i64 r.turns, .int .i64 r.seconds, .int .i64 r.speaking, s3, s4] ∧ Bs.IsQ LInt.rec w s3 r.waiting ∧ Bs.IsQ LShare.rec w s4 r.shares
def IsS (w : World) (v : Value) (r : R) : Prop := ∃ s3 s4, v = .agg #[.int .i64 r.turns, .int .i64 r.seconds, .int .i64 r.speaking, s3, s4] ∧ Bs.IsS LInt.rec w s3 r.waiting ∧ Bs.IsS LShare.rec w s4 r.shares
def Own (w : World) (A : Nat) (v : Value) (r : R) : Prop := ∃ s3 s4, v = .agg #[.int .i64 r.turns, .int .i64 r.seconds, .int .i64 r.speaking, s3, s4] ∧ Bs.Own LInt.rec 3 w A s3 r.waiting ∧ Bs.Own LShare.rec 64 w A s4 r.shares ∧ Dist s3 s4
/-- the slices' blocks lie below B -/
def Bnd (B : Nat) (v : Value) : Prop := ∀ x0 x1 x2 s3 s4, v = .agg #[x0, x1, x2, s3, s4] → (∀ k, s3.ownBlock = some k → k < B) ∧ (∀ k, s4.ownBlock = some k → k < B)
def NotNil (v : Value) : Prop := ∃ x0 x1 x2 s3 s4, v = .agg #[x0, x1, x2, s3, s4] ∧ (∃ g, s3.ownBlock = some g) ∧ (∃ g, s4.ownBlock = some g)
def OwnB (A B : Nat) (v : Value) (r : R) (w : World) : Prop := Own w A v r ∧ Bnd B v
section
variable {w w' : World} {A B : Nat} {v : Value} {r : R}
theorem IsS.is (h : IsS w v r) : Is w v r := by
  obtain ⟨s3, s4, e, h3, h4⟩ := h
  exact ⟨s3, s4, e, Bs.IsS.is _ h3, Bs.IsS.is _ h4⟩
theorem IsS.isQ (h : IsS w v r) : IsQ w v r := by
  obtain ⟨s3, s4, e, h3, h4⟩ := h
  exact ⟨s3, s4, e, .inr h3, .inr h4⟩
theorem IsQ.is (h : IsQ w v r) : Is w v r := by
  obtain ⟨s3, s4, e, h3, h4⟩ := h
  exact ⟨s3, s4, e, Bs.IsQ.is h3, Bs.IsQ.is h4⟩
theorem Own.is (h : Own w A v r) : Is w v r := by
  obtain ⟨s3, s4, e, h3, h4, d3_4⟩ := h
  exact ⟨s3, s4, e, Bs.Own.is h3, Bs.Own.is h4⟩
theorem Own.isQ (h : Own w A v r) : IsQ w v r := by
  obtain ⟨s3, s4, e, h3, h4, d3_4⟩ := h
  exact ⟨s3, s4, e, Bs.Own.isQ h3, Bs.Own.isQ h4⟩
theorem Own.isS (h : Own w A v r) (hv : NotNil v) : IsS w v r := by
  obtain ⟨s3, s4, rfl, h3, h4, d3_4⟩ := h
  obtain ⟨tx0, tx1, tx2, ts3, ts4, e, ⟨g3, k3⟩, ⟨g4, k4⟩⟩ := hv
  refine ⟨s3, s4, rfl, Bs.Own.isS h3 ⟨g3, ?_⟩, Bs.Own.isS h4 ⟨g4, ?_⟩⟩
  · simp only [Value.agg.injEq, Array.mk.injEq, List.cons.injEq, and_true] at e
    obtain ⟨rfl, rfl, rfl, rfl, rfl⟩ := e
    exact k3
  · simp only [Value.agg.injEq, Array.mk.injEq, List.cons.injEq, and_true] at e
    obtain ⟨rfl, rfl, rfl, rfl, rfl⟩ := e
    exact k4
theorem Is.below (h : Is w v r) (hb : Below w.heap.size w w') : Is w' v r := by
  obtain ⟨s3, s4, e, h3, h4⟩ := h
  exact ⟨s3, s4, e, Bs.Is.below _ h3 hb, Bs.Is.below _ h4 hb⟩
theorem IsQ.below (h : IsQ w v r) (hb : Below w.heap.size w w') : IsQ w' v r := by
  obtain ⟨s3, s4, e, h3, h4⟩ := h
  exact ⟨s3, s4, e, Bs.IsQ.below h3 hb, Bs.IsQ.below h4 hb⟩
theorem IsS.below (h : IsS w v r) (hb : Below w.heap.size w w') : IsS w' v r := by
  obtain ⟨s3, s4, e, h3, h4⟩ := h
  exact ⟨s3, s4, e, Bs.IsS.below _ h3 hb, Bs.IsS.below _ h4 hb⟩
theorem Own.kept (h : Own w A v r) (hb : Below w.heap.size w w') : Own w' A v r := by
  obtain ⟨s3, s4, e, h3, h4, d3_4⟩ := h
  exact ⟨s3, s4, e, Bs.Own.kept h3 hb, Bs.Own.kept h4 hb, d3_4⟩
theorem Own.low {A' : Nat} (h : Own w A v r) (hA : A' ≤ A) : Own w A' v r := by
  obtain ⟨s3, s4, e, h3, h4, d3_4⟩ := h
  exact ⟨s3, s4, e, Bs.Own.low h3 hA, Bs.Own.low h4 hA, d3_4⟩
theorem bnd_of {s3 s4 : Value} (h : (∀ k, s3.ownBlock = some k → k < B) ∧ (∀ k, s4.ownBlock = some k → k < B)) (hv : v = .agg #[.int .i64 r.turns, .int .i64 r.seconds, .int .i64 r.speaking, s3, s4]) : Bnd B v := by
  subst hv
  intro tx0 tx1 tx2 ts3 ts4 e
  simp only [Value.agg.injEq, Array.mk.injEq, List.cons.injEq, and_true] at e
  obtain ⟨rfl, rfl, rfl, rfl, rfl⟩ := e
  exact h
theorem Own.loc (h : Own w A v r) : Bs.Loc A w.heap.size (OwnB A w.heap.size v r) w := by
  obtain ⟨s3, s4, e, h3, h4, d3_4⟩ := h
  refine ⟨Nat.le_refl _, fun w2 hz hs => ?_⟩
  have o3 := (Bs.Own.loc h3).all w2 hz hs
  have o4 := (Bs.Own.loc h4).all w2 hz hs
  exact ⟨⟨s3, s4, e, o3.1, o4.1, d3_4⟩, bnd_of ⟨o3.2, o4.2⟩ e⟩
theorem Is.loc (h : Is w v r) : Bs.Loc 0 w.heap.size (fun W => Is W v r) w := by
  obtain ⟨s3, s4, e, h3, h4⟩ := h
  exact ⟨Nat.le_refl _, fun w2 hz hs => ⟨s3, s4, e, (Bs.Is.loc h3).all w2 hz hs, (Bs.Is.loc h4).all w2 hz hs⟩⟩
theorem OwnB.slices (h : OwnB A B v r w) : ∃ s3 s4, v = .agg #[.int .i64 r.turns, .int .i64 r.seconds, .int .i64 r.speaking, s3, s4] ∧ Bs.OwnB LInt.rec 3 A B s3 r.waiting w ∧ Bs.OwnB LShare.rec 64 A B s4 r.shares w ∧ Dist s3 s4 := by
  obtain ⟨⟨s3, s4, e, h3, h4, d3_4⟩, hB⟩ := h
  have hB := hB _ _ _ _ _ e
  obtain ⟨b3, b4⟩ := hB
  exact ⟨s3, s4, e, ⟨h3, b3⟩, ⟨h4, b4⟩, d3_4⟩
theorem OwnB.loc (h : OwnB A B v r w) (hB : B ≤ w.heap.size) : Bs.Loc A B (OwnB A B v r) w := by
  obtain ⟨s3, s4, e, h3, h4, d3_4⟩ := OwnB.slices h
  exact ⟨hB, fun w2 hz hs => ⟨⟨s3, s4, e, ((Bs.OwnB.loc h3 hB).all w2 hz hs).1, ((Bs.OwnB.loc h4 hB).all w2 hz hs).1, d3_4⟩, h.2⟩⟩
theorem Own.form (h : Own w A v r) : ∃ a3 n3 c3 a4 n4 c4, v = .agg #[.int .i64 r.turns, .int .i64 r.seconds, .int .i64 r.speaking, .slice a3 n3 c3, .slice a4 n4 c4] := by
  obtain ⟨s3, s4, rfl, h3, h4, d3_4⟩ := h
  obtain ⟨a3, n3, c3, rfl⟩ := own_slice h3
  obtain ⟨a4, n4, c4, rfl⟩ := own_slice h4
  exact ⟨_, _, _, _, _, _, rfl⟩
theorem Own.zero : Own w A (.agg #[.int .i64 0, .int .i64 0, .int .i64 0, .slice none 0 0, .slice none 0 0]) ⟨0, 0, 0, [], []⟩ := ⟨_, _, rfl, Bs.Own.nil, Bs.Own.nil, dist_none⟩
end
end Go.Proofs.Ytjphhcmhangkkaa.LFloor
