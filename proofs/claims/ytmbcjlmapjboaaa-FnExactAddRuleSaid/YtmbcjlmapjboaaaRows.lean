/-
  No cell of these rows narrows 'for every input' (looked for: loops, veiled, ifaces, maps, wideKeys, modest, calm, conditions, laid).
  DERIVED. THE GIVEN ROWS OF THIS SEAT. 7 by the template 'for every input the law returns true; each argument reads behind the call as it read before'; 0 by the template 'total and deterministic' (their statements: YtmbcjlmapjboaaaTotals.lean).
  GIVEN WITH THE SEED: the statements are not yours to turn. If you find one false, say at which input.
  Laid BY PROGRAM, IN A SANDBOX (cutbox-rows.mjs): the forced cells as the released guide's own fill.sh prints them over the translation 144b9bfa1eedbbb4… (all of the seat's roots in one cut). By AI agents, Wed Nov 11 2026. No macro, syntax, notation, axiom, sorry.
-/
import Derived.Test.YtmbcjlmapjboaaaChecked
import GoSem.Claim
import GoSem.ClaimJoined
import GoSem.ClaimMapViews
import Derived.JoinedTies
import Derived.KernelRfl
namespace Go.Proofs.Ytmbcjlmapjboaaa
/- THE CELL 'sum', in the pinned program and in every row, IS THE sha256 OF THE DUMP (.gsa) THAT YtmbcjlmapjboaaaProg.lean LOADS. Nothing in Lean hashes anything: it is a label: what it is worth is what the hold of that sum in a sandbox is worth. -/
noncomputable def Try.pinned : Pinned := { name := "ytmbcjlmapjboaaa", sum := "144b9bfa1eedbbb41dad8ec4b2360f77c3bf5ff2508cbfc0590855c48534bd13", checked := Try.checked }
namespace Rows
def none {H : Type} : Left H := { results := [], args := [] }

/-- 'laws.FnRanks': WHATEVER THE INPUT: true; the input reads as it did. -/
def fnRanksSpec : ChangeSpec := { name := "fnRanks", fn := fun _ => fun
  | [d] => { results := [.lit (.bool true)], args := [d] }
  | _ => none }
def fnRanksRow : OpenClaim := { program := "ytmbcjlmapjboaaa", sum := "144b9bfa1eedbbb41dad8ec4b2360f77c3bf5ff2508cbfc0590855c48534bd13", func := "loop.example/g00909/laws.FnRanks", spec := "fnRanks", unfollowed := true, recurses := true, apart := false }
def FnRanksSaid : Prop := fnRanksRow.holds Try.pinned (OpenSpec.ofChange fnRanksSpec)

/-- ITS FALSE NEIGHBOUR: 'it returns false'. Refute it at one input. -/
def fnRanksWrong : ChangeSpec := { name := "fnRanks", fn := fun _ => fun
  | [d] => { results := [.lit (.bool false)], args := [d] }
  | _ => none }
def FnRanksWrongFalsely : Prop := fnRanksRow.holds Try.pinned (OpenSpec.ofChange fnRanksWrong)

/-- 'laws.FnExactIsValidRule': WHATEVER THE INPUT: true; the input reads as it did. -/
def fnExactIsValidRuleSpec : ChangeSpec := { name := "fnExactIsValidRule", fn := fun _ => fun
  | [d] => { results := [.lit (.bool true)], args := [d] }
  | _ => none }
def fnExactIsValidRuleRow : OpenClaim := { program := "ytmbcjlmapjboaaa", sum := "144b9bfa1eedbbb41dad8ec4b2360f77c3bf5ff2508cbfc0590855c48534bd13", func := "loop.example/g00909/laws.FnExactIsValidRule", spec := "fnExactIsValidRule", apart := false }
def FnExactIsValidRuleSaid : Prop := fnExactIsValidRuleRow.holds Try.pinned (OpenSpec.ofChange fnExactIsValidRuleSpec)

/-- ITS FALSE NEIGHBOUR: 'it returns false'. Refute it at one input. -/
def fnExactIsValidRuleWrong : ChangeSpec := { name := "fnExactIsValidRule", fn := fun _ => fun
  | [d] => { results := [.lit (.bool false)], args := [d] }
  | _ => none }
def FnExactIsValidRuleWrongFalsely : Prop := fnExactIsValidRuleRow.holds Try.pinned (OpenSpec.ofChange fnExactIsValidRuleWrong)

/-- 'laws.FnExactIsValidRules': WHATEVER THE INPUT: true; the input reads as it did. -/
def fnExactIsValidRulesSpec : ChangeSpec := { name := "fnExactIsValidRules", fn := fun _ => fun
  | [d] => { results := [.lit (.bool true)], args := [d] }
  | _ => none }
def fnExactIsValidRulesRow : OpenClaim := { program := "ytmbcjlmapjboaaa", sum := "144b9bfa1eedbbb41dad8ec4b2360f77c3bf5ff2508cbfc0590855c48534bd13", func := "loop.example/g00909/laws.FnExactIsValidRules", spec := "fnExactIsValidRules", apart := false }
def FnExactIsValidRulesSaid : Prop := fnExactIsValidRulesRow.holds Try.pinned (OpenSpec.ofChange fnExactIsValidRulesSpec)

/-- ITS FALSE NEIGHBOUR: 'it returns false'. Refute it at one input. -/
def fnExactIsValidRulesWrong : ChangeSpec := { name := "fnExactIsValidRules", fn := fun _ => fun
  | [d] => { results := [.lit (.bool false)], args := [d] }
  | _ => none }
def FnExactIsValidRulesWrongFalsely : Prop := fnExactIsValidRulesRow.holds Try.pinned (OpenSpec.ofChange fnExactIsValidRulesWrong)

/-- 'laws.FnExactAddRule': WHATEVER THE INPUT: true; the input reads as it did. -/
def fnExactAddRuleSpec : ChangeSpec := { name := "fnExactAddRule", fn := fun _ => fun
  | [d1, d2] => { results := [.lit (.bool true)], args := [d1, d2] }
  | _ => none }
def fnExactAddRuleRow : OpenClaim := { program := "ytmbcjlmapjboaaa", sum := "144b9bfa1eedbbb41dad8ec4b2360f77c3bf5ff2508cbfc0590855c48534bd13", func := "loop.example/g00909/laws.FnExactAddRule", spec := "fnExactAddRule", apart := false }
def FnExactAddRuleSaid : Prop := fnExactAddRuleRow.holds Try.pinned (OpenSpec.ofChange fnExactAddRuleSpec)

/-- ITS FALSE NEIGHBOUR: 'it returns false'. Refute it at one input. -/
def fnExactAddRuleWrong : ChangeSpec := { name := "fnExactAddRule", fn := fun _ => fun
  | [d1, d2] => { results := [.lit (.bool false)], args := [d1, d2] }
  | _ => none }
def FnExactAddRuleWrongFalsely : Prop := fnExactAddRuleRow.holds Try.pinned (OpenSpec.ofChange fnExactAddRuleWrong)

/-- 'laws.FnExactRuleByName': WHATEVER THE INPUT: true; the input reads as it did. -/
def fnExactRuleByNameSpec : ChangeSpec := { name := "fnExactRuleByName", fn := fun _ => fun
  | [d1, d2] => { results := [.lit (.bool true)], args := [d1, d2] }
  | _ => none }
def fnExactRuleByNameRow : OpenClaim := { program := "ytmbcjlmapjboaaa", sum := "144b9bfa1eedbbb41dad8ec4b2360f77c3bf5ff2508cbfc0590855c48534bd13", func := "loop.example/g00909/laws.FnExactRuleByName", spec := "fnExactRuleByName", apart := false }
def FnExactRuleByNameSaid : Prop := fnExactRuleByNameRow.holds Try.pinned (OpenSpec.ofChange fnExactRuleByNameSpec)

/-- ITS FALSE NEIGHBOUR: 'it returns false'. Refute it at one input. -/
def fnExactRuleByNameWrong : ChangeSpec := { name := "fnExactRuleByName", fn := fun _ => fun
  | [d1, d2] => { results := [.lit (.bool false)], args := [d1, d2] }
  | _ => none }
def FnExactRuleByNameWrongFalsely : Prop := fnExactRuleByNameRow.holds Try.pinned (OpenSpec.ofChange fnExactRuleByNameWrong)

/-- 'laws.FnExactRulesAbove': WHATEVER THE INPUT: true; the input reads as it did. -/
def fnExactRulesAboveSpec : ChangeSpec := { name := "fnExactRulesAbove", fn := fun _ => fun
  | [d1, d2] => { results := [.lit (.bool true)], args := [d1, d2] }
  | _ => none }
def fnExactRulesAboveRow : OpenClaim := { program := "ytmbcjlmapjboaaa", sum := "144b9bfa1eedbbb41dad8ec4b2360f77c3bf5ff2508cbfc0590855c48534bd13", func := "loop.example/g00909/laws.FnExactRulesAbove", spec := "fnExactRulesAbove", apart := false }
def FnExactRulesAboveSaid : Prop := fnExactRulesAboveRow.holds Try.pinned (OpenSpec.ofChange fnExactRulesAboveSpec)

/-- ITS FALSE NEIGHBOUR: 'it returns false'. Refute it at one input. -/
def fnExactRulesAboveWrong : ChangeSpec := { name := "fnExactRulesAbove", fn := fun _ => fun
  | [d1, d2] => { results := [.lit (.bool false)], args := [d1, d2] }
  | _ => none }
def FnExactRulesAboveWrongFalsely : Prop := fnExactRulesAboveRow.holds Try.pinned (OpenSpec.ofChange fnExactRulesAboveWrong)

/-- 'laws.FnExactChangeRank': WHATEVER THE INPUT: true; the input reads as it did. -/
def fnExactChangeRankSpec : ChangeSpec := { name := "fnExactChangeRank", fn := fun _ => fun
  | [d1, d2, d3] => { results := [.lit (.bool true)], args := [d1, d2, d3] }
  | _ => none }
def fnExactChangeRankRow : OpenClaim := { program := "ytmbcjlmapjboaaa", sum := "144b9bfa1eedbbb41dad8ec4b2360f77c3bf5ff2508cbfc0590855c48534bd13", func := "loop.example/g00909/laws.FnExactChangeRank", spec := "fnExactChangeRank", unfollowed := true, recurses := true, apart := false }
def FnExactChangeRankSaid : Prop := fnExactChangeRankRow.holds Try.pinned (OpenSpec.ofChange fnExactChangeRankSpec)

/-- ITS FALSE NEIGHBOUR: 'it returns false'. Refute it at one input. -/
def fnExactChangeRankWrong : ChangeSpec := { name := "fnExactChangeRank", fn := fun _ => fun
  | [d1, d2, d3] => { results := [.lit (.bool false)], args := [d1, d2, d3] }
  | _ => none }
def FnExactChangeRankWrongFalsely : Prop := fnExactChangeRankRow.holds Try.pinned (OpenSpec.ofChange fnExactChangeRankWrong)

/- THE SECOND FORM. 'bulk': how many values and letters a reading holds, each counted each time it is reached (what is shared counts as often as it is met; a slice's spare places count too). A statement '..UptoSaid' is the law's where the arguments, and the package variables that the reading takes, are together of bulk at most 1048576: NARROWER than '..Said'. Prove '..Said' where nothing that the law and all that it calls make is longer than what came in: it says more and counts as full. Else prove '..UptoSaid'. A law counts once. -/
mutual
def uptoBulk {H : Type} : DataW H → Nat
  | .lit (.string bytes) => bytes.length + 1
  | .lit _ => 1
  | .nil => 1
  | .ptr d => uptoBulk d + 1
  | .slice elems spare => uptoBulkAll elems + uptoBulkAll spare + 1
  | .agg parts => uptoBulkAll parts + 1
  | .iface _ d => uptoBulk d + 1
  | .map entries => uptoBulkEntries entries + 1
  | .held _ => 1
def uptoBulkAll {H : Type} : List (DataW H) → Nat
  | [] => 0
  | d :: r => uptoBulk d + uptoBulkAll r
def uptoBulkEntries {H : Type} : List (Lit × DataW H) → Nat
  | [] => 0
  | x :: r => uptoBulkEntry x + uptoBulkEntries r
def uptoBulkEntry {H : Type} : Lit × DataW H → Nat
  | (.string bytes, d) => bytes.length + uptoBulk d + 1
  | (_, d) => uptoBulk d + 1
 end
def uptoSmall : (H : Type) → List (DataW H) → Bool := fun _ ds => decide (uptoBulkAll ds ≤ 1048576)
def OpenSpec.upto (s : _root_.Go.ChangeSpec) : _root_.Go.OpenSpec := { _root_.Go.OpenSpec.ofChange s with cond := some uptoSmall }

/-- 'laws.FnRanks', WHERE WHAT IT READS IS OF BULK AT MOST 1048576: true; the input reads as it did. -/
def fnRanksUptoRow : OpenClaim := { program := "ytmbcjlmapjboaaa", sum := "144b9bfa1eedbbb41dad8ec4b2360f77c3bf5ff2508cbfc0590855c48534bd13", func := "loop.example/g00909/laws.FnRanks", spec := "fnRanks", unfollowed := true, recurses := true, apart := false, narrowed := true }
def FnRanksUptoSaid : Prop := fnRanksUptoRow.holds Try.pinned (OpenSpec.upto fnRanksSpec)

/-- 'laws.FnExactIsValidRule', WHERE WHAT IT READS IS OF BULK AT MOST 1048576: true; the input reads as it did. -/
def fnExactIsValidRuleUptoRow : OpenClaim := { program := "ytmbcjlmapjboaaa", sum := "144b9bfa1eedbbb41dad8ec4b2360f77c3bf5ff2508cbfc0590855c48534bd13", func := "loop.example/g00909/laws.FnExactIsValidRule", spec := "fnExactIsValidRule", apart := false, narrowed := true }
def FnExactIsValidRuleUptoSaid : Prop := fnExactIsValidRuleUptoRow.holds Try.pinned (OpenSpec.upto fnExactIsValidRuleSpec)

/-- 'laws.FnExactIsValidRules', WHERE WHAT IT READS IS OF BULK AT MOST 1048576: true; the input reads as it did. -/
def fnExactIsValidRulesUptoRow : OpenClaim := { program := "ytmbcjlmapjboaaa", sum := "144b9bfa1eedbbb41dad8ec4b2360f77c3bf5ff2508cbfc0590855c48534bd13", func := "loop.example/g00909/laws.FnExactIsValidRules", spec := "fnExactIsValidRules", apart := false, narrowed := true }
def FnExactIsValidRulesUptoSaid : Prop := fnExactIsValidRulesUptoRow.holds Try.pinned (OpenSpec.upto fnExactIsValidRulesSpec)

/-- 'laws.FnExactAddRule', WHERE WHAT IT READS IS OF BULK AT MOST 1048576: true; the input reads as it did. -/
def fnExactAddRuleUptoRow : OpenClaim := { program := "ytmbcjlmapjboaaa", sum := "144b9bfa1eedbbb41dad8ec4b2360f77c3bf5ff2508cbfc0590855c48534bd13", func := "loop.example/g00909/laws.FnExactAddRule", spec := "fnExactAddRule", apart := false, narrowed := true }
def FnExactAddRuleUptoSaid : Prop := fnExactAddRuleUptoRow.holds Try.pinned (OpenSpec.upto fnExactAddRuleSpec)

/-- 'laws.FnExactRuleByName', WHERE WHAT IT READS IS OF BULK AT MOST 1048576: true; the input reads as it did. -/
def fnExactRuleByNameUptoRow : OpenClaim := { program := "ytmbcjlmapjboaaa", sum := "144b9bfa1eedbbb41dad8ec4b2360f77c3bf5ff2508cbfc0590855c48534bd13", func := "loop.example/g00909/laws.FnExactRuleByName", spec := "fnExactRuleByName", apart := false, narrowed := true }
def FnExactRuleByNameUptoSaid : Prop := fnExactRuleByNameUptoRow.holds Try.pinned (OpenSpec.upto fnExactRuleByNameSpec)

/-- 'laws.FnExactRulesAbove', WHERE WHAT IT READS IS OF BULK AT MOST 1048576: true; the input reads as it did. -/
def fnExactRulesAboveUptoRow : OpenClaim := { program := "ytmbcjlmapjboaaa", sum := "144b9bfa1eedbbb41dad8ec4b2360f77c3bf5ff2508cbfc0590855c48534bd13", func := "loop.example/g00909/laws.FnExactRulesAbove", spec := "fnExactRulesAbove", apart := false, narrowed := true }
def FnExactRulesAboveUptoSaid : Prop := fnExactRulesAboveUptoRow.holds Try.pinned (OpenSpec.upto fnExactRulesAboveSpec)

/-- 'laws.FnExactChangeRank', WHERE WHAT IT READS IS OF BULK AT MOST 1048576: true; the input reads as it did. -/
def fnExactChangeRankUptoRow : OpenClaim := { program := "ytmbcjlmapjboaaa", sum := "144b9bfa1eedbbb41dad8ec4b2360f77c3bf5ff2508cbfc0590855c48534bd13", func := "loop.example/g00909/laws.FnExactChangeRank", spec := "fnExactChangeRank", unfollowed := true, recurses := true, apart := false, narrowed := true }
def FnExactChangeRankUptoSaid : Prop := fnExactChangeRankUptoRow.holds Try.pinned (OpenSpec.upto fnExactChangeRankSpec)

end Rows
end Go.Proofs.Ytmbcjlmapjboaaa
