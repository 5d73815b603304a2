/-
  No cell of these rows narrows 'for every input' (looked for: loops, veiled, ifaces, maps, wideKeys, modest, calm, conditions, laid).
  DERIVED. THE GIVEN ROWS OF THIS SEAT. 5 by the template 'for every input the law returns true; each argument reads behind the call as it read before'; 0 by the template 'total and deterministic' (their statements: YtclpdpfnlmfogaaTotals.lean).
  GIVEN WITH THE SEED: the statements are not yours to turn. If you find one false, say at which input.
  Laid BY PROGRAM, IN A SANDBOX (cutbox-rows.mjs): the forced cells as the released guide's own fill.sh prints them over the translation aa511d8f97e0fa66… (all of the seat's roots in one cut). By AI agents, Wed Nov 11 2026. No macro, syntax, notation, axiom, sorry.
-/
import Derived.Test.YtclpdpfnlmfogaaChecked
import GoSem.Claim
import GoSem.ClaimJoined
import GoSem.ClaimMapViews
import Derived.JoinedTies
import Derived.KernelRfl
namespace Go.Proofs.Ytclpdpfnlmfogaa
/- THE CELL 'sum', in the pinned program and in every row, IS THE sha256 OF THE DUMP (.gsa) THAT YtclpdpfnlmfogaaProg.lean LOADS. Nothing in Lean hashes anything: it is a label: what it is worth is what the hold of that sum in a sandbox is worth. -/
noncomputable def Try.pinned : Pinned := { name := "ytclpdpfnlmfogaa", sum := "aa511d8f97e0fa669d5ea32ce81d69a9d3125a92dac620ae5c9a53be32001d62", checked := Try.checked }
namespace Rows
def none {H : Type} : Left H := { results := [], args := [] }

/-- 'laws.FnExactAreProposals': WHATEVER THE INPUT: true; the input reads as it did. -/
def fnExactAreProposalsSpec : ChangeSpec := { name := "fnExactAreProposals", fn := fun _ => fun
  | [d1, d2] => { results := [.lit (.bool true)], args := [d1, d2] }
  | _ => none }
def fnExactAreProposalsRow : OpenClaim := { program := "ytclpdpfnlmfogaa", sum := "aa511d8f97e0fa669d5ea32ce81d69a9d3125a92dac620ae5c9a53be32001d62", func := "loop.example/g00909/laws.FnExactAreProposals", spec := "fnExactAreProposals", apart := false }
def FnExactAreProposalsSaid : Prop := fnExactAreProposalsRow.holds Try.pinned (OpenSpec.ofChange fnExactAreProposalsSpec)

/-- ITS FALSE NEIGHBOUR: 'it returns false'. Refute it at one input. -/
def fnExactAreProposalsWrong : ChangeSpec := { name := "fnExactAreProposals", fn := fun _ => fun
  | [d1, d2] => { results := [.lit (.bool false)], args := [d1, d2] }
  | _ => none }
def FnExactAreProposalsWrongFalsely : Prop := fnExactAreProposalsRow.holds Try.pinned (OpenSpec.ofChange fnExactAreProposalsWrong)

/-- 'laws.FnExactDoConflict': WHATEVER THE INPUT: true; the input reads as it did. -/
def fnExactDoConflictSpec : ChangeSpec := { name := "fnExactDoConflict", fn := fun _ => fun
  | [d1, d2] => { results := [.lit (.bool true)], args := [d1, d2] }
  | _ => none }
def fnExactDoConflictRow : OpenClaim := { program := "ytclpdpfnlmfogaa", sum := "aa511d8f97e0fa669d5ea32ce81d69a9d3125a92dac620ae5c9a53be32001d62", func := "loop.example/g00909/laws.FnExactDoConflict", spec := "fnExactDoConflict", apart := false }
def FnExactDoConflictSaid : Prop := fnExactDoConflictRow.holds Try.pinned (OpenSpec.ofChange fnExactDoConflictSpec)

/-- ITS FALSE NEIGHBOUR: 'it returns false'. Refute it at one input. -/
def fnExactDoConflictWrong : ChangeSpec := { name := "fnExactDoConflict", fn := fun _ => fun
  | [d1, d2] => { results := [.lit (.bool false)], args := [d1, d2] }
  | _ => none }
def FnExactDoConflictWrongFalsely : Prop := fnExactDoConflictRow.holds Try.pinned (OpenSpec.ofChange fnExactDoConflictWrong)

/-- 'laws.FnExactShiftedChange': WHATEVER THE INPUT: true; the input reads as it did. -/
def fnExactShiftedChangeSpec : ChangeSpec := { name := "fnExactShiftedChange", fn := fun _ => fun
  | [d1, d2] => { results := [.lit (.bool true)], args := [d1, d2] }
  | _ => none }
def fnExactShiftedChangeRow : OpenClaim := { program := "ytclpdpfnlmfogaa", sum := "aa511d8f97e0fa669d5ea32ce81d69a9d3125a92dac620ae5c9a53be32001d62", func := "loop.example/g00909/laws.FnExactShiftedChange", spec := "fnExactShiftedChange", apart := false }
def FnExactShiftedChangeSaid : Prop := fnExactShiftedChangeRow.holds Try.pinned (OpenSpec.ofChange fnExactShiftedChangeSpec)

/-- ITS FALSE NEIGHBOUR: 'it returns false'. Refute it at one input. -/
def fnExactShiftedChangeWrong : ChangeSpec := { name := "fnExactShiftedChange", fn := fun _ => fun
  | [d1, d2] => { results := [.lit (.bool false)], args := [d1, d2] }
  | _ => none }
def FnExactShiftedChangeWrongFalsely : Prop := fnExactShiftedChangeRow.holds Try.pinned (OpenSpec.ofChange fnExactShiftedChangeWrong)

/-- 'laws.FnExactSecondaryChange': WHATEVER THE INPUT: true; the input reads as it did. -/
def fnExactSecondaryChangeSpec : ChangeSpec := { name := "fnExactSecondaryChange", fn := fun _ => fun
  | [d1, d2] => { results := [.lit (.bool true)], args := [d1, d2] }
  | _ => none }
def fnExactSecondaryChangeRow : OpenClaim := { program := "ytclpdpfnlmfogaa", sum := "aa511d8f97e0fa669d5ea32ce81d69a9d3125a92dac620ae5c9a53be32001d62", func := "loop.example/g00909/laws.FnExactSecondaryChange", spec := "fnExactSecondaryChange", apart := false }
def FnExactSecondaryChangeSaid : Prop := fnExactSecondaryChangeRow.holds Try.pinned (OpenSpec.ofChange fnExactSecondaryChangeSpec)

/-- ITS FALSE NEIGHBOUR: 'it returns false'. Refute it at one input. -/
def fnExactSecondaryChangeWrong : ChangeSpec := { name := "fnExactSecondaryChange", fn := fun _ => fun
  | [d1, d2] => { results := [.lit (.bool false)], args := [d1, d2] }
  | _ => none }
def FnExactSecondaryChangeWrongFalsely : Prop := fnExactSecondaryChangeRow.holds Try.pinned (OpenSpec.ofChange fnExactSecondaryChangeWrong)

/-- 'laws.FnExactFreeProposals': WHATEVER THE INPUT: true; the input reads as it did. -/
def fnExactFreeProposalsSpec : ChangeSpec := { name := "fnExactFreeProposals", fn := fun _ => fun
  | [d1, d2] => { results := [.lit (.bool true)], args := [d1, d2] }
  | _ => none }
def fnExactFreeProposalsRow : OpenClaim := { program := "ytclpdpfnlmfogaa", sum := "aa511d8f97e0fa669d5ea32ce81d69a9d3125a92dac620ae5c9a53be32001d62", func := "loop.example/g00909/laws.FnExactFreeProposals", spec := "fnExactFreeProposals", apart := false }
def FnExactFreeProposalsSaid : Prop := fnExactFreeProposalsRow.holds Try.pinned (OpenSpec.ofChange fnExactFreeProposalsSpec)

/-- ITS FALSE NEIGHBOUR: 'it returns false'. Refute it at one input. -/
def fnExactFreeProposalsWrong : ChangeSpec := { name := "fnExactFreeProposals", fn := fun _ => fun
  | [d1, d2] => { results := [.lit (.bool false)], args := [d1, d2] }
  | _ => none }
def FnExactFreeProposalsWrongFalsely : Prop := fnExactFreeProposalsRow.holds Try.pinned (OpenSpec.ofChange fnExactFreeProposalsWrong)

/- THE SECOND FORM. 'bulk': how many values and letters a reading holds, each counted each time it is reached (what is shared counts as often as it is met; a slice's spare places count too). A statement '..UptoSaid' is the law's where the arguments, and the package variables that the reading takes, are together of bulk at most 1048576: NARROWER than '..Said'. Prove '..Said' where nothing that the law and all that it calls make is longer than what came in: it says more and counts as full. Else prove '..UptoSaid'. A law counts once. -/
mutual
def uptoBulk {H : Type} : DataW H → Nat
  | .lit (.string bytes) => bytes.length + 1
  | .lit _ => 1
  | .nil => 1
  | .ptr d => uptoBulk d + 1
  | .slice elems spare => uptoBulkAll elems + uptoBulkAll spare + 1
  | .agg parts => uptoBulkAll parts + 1
  | .iface _ d => uptoBulk d + 1
  | .map entries => uptoBulkEntries entries + 1
  | .held _ => 1
def uptoBulkAll {H : Type} : List (DataW H) → Nat
  | [] => 0
  | d :: r => uptoBulk d + uptoBulkAll r
def uptoBulkEntries {H : Type} : List (Lit × DataW H) → Nat
  | [] => 0
  | x :: r => uptoBulkEntry x + uptoBulkEntries r
def uptoBulkEntry {H : Type} : Lit × DataW H → Nat
  | (.string bytes, d) => bytes.length + uptoBulk d + 1
  | (_, d) => uptoBulk d + 1
 end
def uptoSmall : (H : Type) → List (DataW H) → Bool := fun _ ds => decide (uptoBulkAll ds ≤ 1048576)
def OpenSpec.upto (s : _root_.Go.ChangeSpec) : _root_.Go.OpenSpec := { _root_.Go.OpenSpec.ofChange s with cond := some uptoSmall }

/-- 'laws.FnExactAreProposals', WHERE WHAT IT READS IS OF BULK AT MOST 1048576: true; the input reads as it did. -/
def fnExactAreProposalsUptoRow : OpenClaim := { program := "ytclpdpfnlmfogaa", sum := "aa511d8f97e0fa669d5ea32ce81d69a9d3125a92dac620ae5c9a53be32001d62", func := "loop.example/g00909/laws.FnExactAreProposals", spec := "fnExactAreProposals", apart := false, narrowed := true }
def FnExactAreProposalsUptoSaid : Prop := fnExactAreProposalsUptoRow.holds Try.pinned (OpenSpec.upto fnExactAreProposalsSpec)

/-- 'laws.FnExactDoConflict', WHERE WHAT IT READS IS OF BULK AT MOST 1048576: true; the input reads as it did. -/
def fnExactDoConflictUptoRow : OpenClaim := { program := "ytclpdpfnlmfogaa", sum := "aa511d8f97e0fa669d5ea32ce81d69a9d3125a92dac620ae5c9a53be32001d62", func := "loop.example/g00909/laws.FnExactDoConflict", spec := "fnExactDoConflict", apart := false, narrowed := true }
def FnExactDoConflictUptoSaid : Prop := fnExactDoConflictUptoRow.holds Try.pinned (OpenSpec.upto fnExactDoConflictSpec)

/-- 'laws.FnExactShiftedChange', WHERE WHAT IT READS IS OF BULK AT MOST 1048576: true; the input reads as it did. -/
def fnExactShiftedChangeUptoRow : OpenClaim := { program := "ytclpdpfnlmfogaa", sum := "aa511d8f97e0fa669d5ea32ce81d69a9d3125a92dac620ae5c9a53be32001d62", func := "loop.example/g00909/laws.FnExactShiftedChange", spec := "fnExactShiftedChange", apart := false, narrowed := true }
def FnExactShiftedChangeUptoSaid : Prop := fnExactShiftedChangeUptoRow.holds Try.pinned (OpenSpec.upto fnExactShiftedChangeSpec)

/-- 'laws.FnExactSecondaryChange', WHERE WHAT IT READS IS OF BULK AT MOST 1048576: true; the input reads as it did. -/
def fnExactSecondaryChangeUptoRow : OpenClaim := { program := "ytclpdpfnlmfogaa", sum := "aa511d8f97e0fa669d5ea32ce81d69a9d3125a92dac620ae5c9a53be32001d62", func := "loop.example/g00909/laws.FnExactSecondaryChange", spec := "fnExactSecondaryChange", apart := false, narrowed := true }
def FnExactSecondaryChangeUptoSaid : Prop := fnExactSecondaryChangeUptoRow.holds Try.pinned (OpenSpec.upto fnExactSecondaryChangeSpec)

/-- 'laws.FnExactFreeProposals', WHERE WHAT IT READS IS OF BULK AT MOST 1048576: true; the input reads as it did. -/
def fnExactFreeProposalsUptoRow : OpenClaim := { program := "ytclpdpfnlmfogaa", sum := "aa511d8f97e0fa669d5ea32ce81d69a9d3125a92dac620ae5c9a53be32001d62", func := "loop.example/g00909/laws.FnExactFreeProposals", spec := "fnExactFreeProposals", apart := false, narrowed := true }
def FnExactFreeProposalsUptoSaid : Prop := fnExactFreeProposalsUptoRow.holds Try.pinned (OpenSpec.upto fnExactFreeProposalsSpec)

end Rows
end Go.Proofs.Ytclpdpfnlmfogaa
