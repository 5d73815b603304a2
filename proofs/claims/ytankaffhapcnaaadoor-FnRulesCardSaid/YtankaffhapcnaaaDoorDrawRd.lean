/- Lists of rules with short names. No condition. -/
import Derived.Test.YtankaffhapcnaaaDoorDrawR
import Derived.Test.YtankaffhapcnaaaDoorJ1
import Derived.Test.YtankaffhapcnaaaDoorAddC
namespace Go.Proofs.YtankaffhapcnaaaDoor.Draw
open Go.RowKit Cur Bs
set_option linter.unusedVariables false
def RShort (z : List LRule.R) : Prop := ∀ x ∈ z, x.name.size ≤ 11
theorem rshort_snoc {z : List LRule.R} {r : LRule.R} (h : RShort z) (hr : r.name.size ≤ 11) : RShort (z ++ [r]) := fun x hx => by
  rcases List.mem_append.1 hx with hx | hx
  · exact h x hx
  · rw [List.mem_singleton.1 hx]; exact hr
theorem rshort_ins {z : List LRule.R} {r : LRule.R} (h : RShort z) (hr : r.name.size ≤ 11) : RShort (Ins.ins z r) := fun x hx => by
  unfold Ins.ins at hx
  simp only [List.mem_append, List.mem_singleton] at hx
  rcases hx with (hx | hx) | hx
  · exact h x (List.mem_of_mem_take hx)
  · subst hx; exact hr
  · exact h x (List.mem_of_mem_drop hx)
theorem rshort_fine {z : List LRule.R} (h : RShort z) : ∀ x ∈ z, LRule.Fine x := fun x hx => by have := h x hx; show x.name.size ≤ maxLen; unfold maxLen; omega
theorem rule_fine {r : LRule.R} (h : r.name.size ≤ 11) : LRule.Fine r := by show r.name.size ≤ maxLen; unfold maxLen; omega
theorem rown_some {w : World} {A : Nat} {v : Value} {z : List LRule.R} (h : Own LRule.rec 25 w A v z) (hz : 1 ≤ z.length) : ∃ g, v.ownBlock = some g := by
  rcases h.shape with ⟨_, h0⟩ | ⟨g, cap, rfl, _⟩
  · rw [h0] at hz; simp at hz
  · exact ⟨g, rfl⟩
/-- a list of rules of the call's own -/
def RsOf (w : World) (B m : Nat) (e : Ending) (w' : World) : Prop := ∃ (v : Value) (z : List LRule.R), e = .returned v ∧ Own LRule.rec 25 w' w.heap.size v z ∧ (∃ g, v.ownBlock = some g) ∧ RShort z ∧ z.length ≤ 16 ∧ Cur w' B m ∧ w.grownBy w' (some B)
end Go.Proofs.YtankaffhapcnaaaDoor.Draw
