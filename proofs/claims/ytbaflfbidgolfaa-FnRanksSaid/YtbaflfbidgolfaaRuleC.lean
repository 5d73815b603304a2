/- Rules as records: the words of Rule and of the general rows say the same. No condition. -/
import Derived.Test.YtbaflfbidgolfaaLRuleZ
namespace Go.Proofs.Ytbaflfbidgolfaa.RuleC
open Go.RowKit Bs
set_option linter.unusedVariables false
theorem rules {w : World} {a : Option Addr} {c : Nat} {xs : List Rule.R} (h : RowsAt LRule.rec w a c xs) : Rule.RulesAt w a c xs := by
  obtain ⟨h1, h2, h3⟩ := h
  refine ⟨h1, h2, ?_⟩
  rcases h3 with h3 | ⟨b, o, rfl, hl, hc⟩
  · exact .inl h3
  · exact .inr ⟨b, o, rfl, hl, fun j r hr => LRule.cells (hc j r hr)⟩
theorem fine {xs : List Rule.R} (h : ∀ x ∈ xs, LRule.Fine x) : ∀ x ∈ xs, x.name.size ≤ maxLen := h
end Go.Proofs.Ytbaflfbidgolfaa.RuleC
