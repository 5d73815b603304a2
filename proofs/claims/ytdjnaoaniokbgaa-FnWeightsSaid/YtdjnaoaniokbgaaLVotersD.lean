/- The struct Voters, of which fields are slices: the value in memory. No condition. -/
import Derived.Test.YtdjnaoaniokbgaaCompB
import Derived.Test.YtdjnaoaniokbgaaJ1
namespace Go.Proofs.Ytdjnaoaniokbgaa.LVoters
open Go.RowKit Bs
set_option linter.unusedVariables false
structure R where
  weights : List LInt.R
  proxies : List LProxy.R
def Is (w : World) (v : Value) (r : R) : Prop := ∃ s0 s1, v = .agg #[s0, s1] ∧ Bs.Is LInt.rec w s0 r.weights ∧ Bs.Is LProxy.rec w s1 r.proxies
def IsQ (w : World) (v : Value) (r : R) : Prop := ∃ s0 s1, v = .agg #[s0, s1] ∧ Bs.IsQ LInt.rec w s0 r.weights ∧ Bs.IsQ LProxy.rec w s1 r.proxies
def IsS (w : World) (v : Value) (r : R) : Prop := ∃ s0 s1, v = .agg #[s0, s1] ∧ Bs.IsS LInt.rec w s0 r.weights ∧ Bs.IsS LProxy.rec w s1 r.proxies
def Own (w : World) (A : Nat) (v : Value) (r : R) : Prop := ∃ s0 s1, v = .agg #[s0, s1] ∧ Bs.Own LInt.rec 3 w A s0 r.weights ∧ Bs.Own LProxy.rec 70 w A s1 r.proxies ∧ Dist s0 s1
/-- the slices' blocks lie below B -/
def Bnd (B : Nat) (v : Value) : Prop := ∀ s0 s1, v = .agg #[s0, s1] → (∀ k, s0.ownBlock = some k → k < B) ∧ (∀ k, s1.ownBlock = some k → k < B)
def NotNil (v : Value) : Prop := ∃ s0 s1, v = .agg #[s0, s1] ∧ (∃ g, s0.ownBlock = some g) ∧ (∃ g, s1.ownBlock = some g)
def OwnB (A B : Nat) (v : Value) (r : R) (w : World) : Prop := Own w A v r ∧ Bnd B v
section
variable {w w' : World} {A B : Nat} {v : Value} {r : R}
theorem IsS.is (h : IsS w v r) : Is w v r := by
  obtain ⟨s0, s1, e, h0, h1⟩ := h
  exact ⟨s0, s1, e, Bs.IsS.is _ h0, Bs.IsS.is _ h1⟩
theorem IsS.isQ (h : IsS w v r) : IsQ w v r := by
  obtain ⟨s0, s1, e, h0, h1⟩ := h
  exact ⟨s0, s1, e, .inr h0, .inr h1⟩
theorem IsQ.is (h : IsQ w v r) : Is w v r := by
  obtain ⟨s0, s1, e, h0, h1⟩ := h
  exact ⟨s0, s1, e, Bs.IsQ.is h0, Bs.IsQ.is h1⟩
theorem Own.is (h : Own w A v r) : Is w v r := by
  obtain ⟨s0, s1, e, h0, h1, d0_1⟩ := h
  exact ⟨s0, s1, e, Bs.Own.is h0, Bs.Own.is h1⟩
theorem Own.isQ (h : Own w A v r) : IsQ w v r := by
  obtain ⟨s0, s1, e, h0, h1, d0_1⟩ := h
  exact ⟨s0, s1, e, Bs.Own.isQ h0, Bs.Own.isQ h1⟩
theorem Own.isS (h : Own w A v r) (hv : NotNil v) : IsS w v r := by
  obtain ⟨s0, s1, rfl, h0, h1, d0_1⟩ := h
  obtain ⟨ts0, ts1, e, ⟨g0, k0⟩, ⟨g1, k1⟩⟩ := hv
  refine ⟨s0, s1, rfl, Bs.Own.isS h0 ⟨g0, ?_⟩, Bs.Own.isS h1 ⟨g1, ?_⟩⟩
  · simp only [Value.agg.injEq, Array.mk.injEq, List.cons.injEq, and_true] at e
    obtain ⟨rfl, rfl⟩ := e
    exact k0
  · simp only [Value.agg.injEq, Array.mk.injEq, List.cons.injEq, and_true] at e
    obtain ⟨rfl, rfl⟩ := e
    exact k1
theorem Is.below (h : Is w v r) (hb : Below w.heap.size w w') : Is w' v r := by
  obtain ⟨s0, s1, e, h0, h1⟩ := h
  exact ⟨s0, s1, e, Bs.Is.below _ h0 hb, Bs.Is.below _ h1 hb⟩
theorem IsQ.below (h : IsQ w v r) (hb : Below w.heap.size w w') : IsQ w' v r := by
  obtain ⟨s0, s1, e, h0, h1⟩ := h
  exact ⟨s0, s1, e, Bs.IsQ.below h0 hb, Bs.IsQ.below h1 hb⟩
theorem IsS.below (h : IsS w v r) (hb : Below w.heap.size w w') : IsS w' v r := by
  obtain ⟨s0, s1, e, h0, h1⟩ := h
  exact ⟨s0, s1, e, Bs.IsS.below _ h0 hb, Bs.IsS.below _ h1 hb⟩
theorem Own.kept (h : Own w A v r) (hb : Below w.heap.size w w') : Own w' A v r := by
  obtain ⟨s0, s1, e, h0, h1, d0_1⟩ := h
  exact ⟨s0, s1, e, Bs.Own.kept h0 hb, Bs.Own.kept h1 hb, d0_1⟩
theorem Own.low {A' : Nat} (h : Own w A v r) (hA : A' ≤ A) : Own w A' v r := by
  obtain ⟨s0, s1, e, h0, h1, d0_1⟩ := h
  exact ⟨s0, s1, e, Bs.Own.low h0 hA, Bs.Own.low h1 hA, d0_1⟩
theorem bnd_of {s0 s1 : Value} (h : (∀ k, s0.ownBlock = some k → k < B) ∧ (∀ k, s1.ownBlock = some k → k < B)) (hv : v = .agg #[s0, s1]) : Bnd B v := by
  subst hv
  intro ts0 ts1 e
  simp only [Value.agg.injEq, Array.mk.injEq, List.cons.injEq, and_true] at e
  obtain ⟨rfl, rfl⟩ := e
  exact h
theorem Own.loc (h : Own w A v r) : Bs.Loc A w.heap.size (OwnB A w.heap.size v r) w := by
  obtain ⟨s0, s1, e, h0, h1, d0_1⟩ := h
  refine ⟨Nat.le_refl _, fun w2 hz hs => ?_⟩
  have o0 := (Bs.Own.loc h0).all w2 hz hs
  have o1 := (Bs.Own.loc h1).all w2 hz hs
  exact ⟨⟨s0, s1, e, o0.1, o1.1, d0_1⟩, bnd_of ⟨o0.2, o1.2⟩ e⟩
theorem Is.loc (h : Is w v r) : Bs.Loc 0 w.heap.size (fun W => Is W v r) w := by
  obtain ⟨s0, s1, e, h0, h1⟩ := h
  exact ⟨Nat.le_refl _, fun w2 hz hs => ⟨s0, s1, e, (Bs.Is.loc h0).all w2 hz hs, (Bs.Is.loc h1).all w2 hz hs⟩⟩
theorem OwnB.slices (h : OwnB A B v r w) : ∃ s0 s1, v = .agg #[s0, s1] ∧ Bs.OwnB LInt.rec 3 A B s0 r.weights w ∧ Bs.OwnB LProxy.rec 70 A B s1 r.proxies w ∧ Dist s0 s1 := by
  obtain ⟨⟨s0, s1, e, h0, h1, d0_1⟩, hB⟩ := h
  have hB := hB _ _ e
  obtain ⟨b0, b1⟩ := hB
  exact ⟨s0, s1, e, ⟨h0, b0⟩, ⟨h1, b1⟩, d0_1⟩
theorem OwnB.loc (h : OwnB A B v r w) (hB : B ≤ w.heap.size) : Bs.Loc A B (OwnB A B v r) w := by
  obtain ⟨s0, s1, e, h0, h1, d0_1⟩ := OwnB.slices h
  exact ⟨hB, fun w2 hz hs => ⟨⟨s0, s1, e, ((Bs.OwnB.loc h0 hB).all w2 hz hs).1, ((Bs.OwnB.loc h1 hB).all w2 hz hs).1, d0_1⟩, h.2⟩⟩
theorem Own.form (h : Own w A v r) : ∃ a0 n0 c0 a1 n1 c1, v = .agg #[.slice a0 n0 c0, .slice a1 n1 c1] := by
  obtain ⟨s0, s1, rfl, h0, h1, d0_1⟩ := h
  obtain ⟨a0, n0, c0, rfl⟩ := own_slice h0
  obtain ⟨a1, n1, c1, rfl⟩ := own_slice h1
  exact ⟨_, _, _, _, _, _, rfl⟩
theorem Own.zero : Own w A (.agg #[.slice none 0 0, .slice none 0 0]) ⟨[], []⟩ := ⟨_, _, rfl, Bs.Own.nil, Bs.Own.nil, dist_none⟩
end
end Go.Proofs.Ytdjnaoaniokbgaa.LVoters
