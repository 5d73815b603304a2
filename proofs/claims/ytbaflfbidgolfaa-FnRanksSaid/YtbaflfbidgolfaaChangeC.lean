/- ChangeRank, model and program: what both answer. -/
import Derived.Test.YtbaflfbidgolfaaRuleC
import Derived.Test.YtbaflfbidgolfaaChangeI
namespace Go.Proofs.Ytbaflfbidgolfaa.ChangeC
open Go.RowKit Bs
set_option linter.unusedVariables false
set_option maxRecDepth 100000
abbrev Ans (z0 : List LRule.R) (a1 a2 : Int) (r0 : List LRule.R) (r1 : Bool) : Prop := Change.Ans z0 a1 a2 r0 r1
theorem same {z0 : List LRule.R} {a1 a2 : Int} {r0 s0 : List LRule.R} {r1 s1 : Bool} (h : Ans z0 a1 a2 r0 r1) (h' : Ans z0 a1 a2 s0 s1) : r0 = s0 ∧ r1 = s1 := h.same h'
theorem len0 {z0 : List LRule.R} {a1 a2 : Int} {r0 : List LRule.R} {r1 : Bool} (h : Ans z0 a1 a2 r0 r1) : r0.length ≤ 1048576 := Nat.le_trans h.len (by decide)
def Post (z0 : List LRule.R) (a1 a2 : Int) (w : World) (e : Ending) (w' : World) : Prop :=
  ∃ v0 r0 r1, e = .returned (.tuple #[v0, .bool r1]) ∧ Ans z0 a1 a2 r0 r1 ∧ Own LRule.rec 63 w' w.heap.size v0 r0 ∧ Below w.heap.size w w'
theorem spec (v0 : Value) (z0 : List LRule.R) (a1 a2 : Int) (w : World) (h0 : IsS LRule.rec w v0 z0) (f0 : ∀ x ∈ z0, LRule.Fine x) (l0 : z0.length ≤ 1048576) :
    Calls Try.prog 63 #[v0, .int .i64 a1, .int .i64 a2] w (Post z0 a1 a2 w) := by
  obtain ⟨a, c, rfl, h1⟩ := IsS.is LRule.rec h0
  exact (Change.spec a _ c z0 a1 a2 w rfl (RuleC.rules h1) f0).mono fun e w' ⟨v, ys, b, he, ha, ho, hb⟩ => ⟨v, ys, b, he, ha, ho, hb⟩
theorem impl (v0 : Value) (z0 : List LRule.R) (a1 a2 : Int) (w : World) (h0 : IsS LRule.rec w v0 z0) (f0 : ∀ x ∈ z0, LRule.Fine x) (l0 : z0.length ≤ 1048576) :
    Calls Try.prog 64 #[v0, .int .i64 a1, .int .i64 a2] w (Post z0 a1 a2 w) := by
  obtain ⟨a, c, rfl, h1⟩ := IsS.is LRule.rec h0
  exact (ChangeI.impl a _ c z0 a1 a2 w rfl (RuleC.rules h1) f0).mono fun e w' ⟨v, ys, b, he, ha, ho, hb⟩ => ⟨v, ys, b, he, ha, ho, hb⟩
end Go.Proofs.Ytbaflfbidgolfaa.ChangeC
