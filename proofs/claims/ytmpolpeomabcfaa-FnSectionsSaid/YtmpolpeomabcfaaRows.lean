/-
  No cell of these rows narrows 'for every input' (looked for: loops, veiled, ifaces, maps, wideKeys, modest, calm, conditions, laid).
  DERIVED. THE GIVEN ROWS OF THIS SEAT. 7 by the template 'for every input the law returns true; each argument reads behind the call as it read before'; 0 by the template 'total and deterministic' (their statements: YtmpolpeomabcfaaTotals.lean).
  GIVEN WITH THE SEED: the statements are not yours to turn. If you find one false, say at which input.
  Laid BY PROGRAM, IN A SANDBOX (cutbox-rows.mjs): the forced cells as the released guide's own fill.sh prints them over the translation 70c7e198d4f1d375… (all of the seat's roots in one cut). By AI agents, Wed Nov 11 2026. No macro, syntax, notation, axiom, sorry.
-/
import Derived.Test.YtmpolpeomabcfaaChecked
import GoSem.Claim
import GoSem.ClaimJoined
import GoSem.ClaimMapViews
import Derived.JoinedTies
import Derived.KernelRfl
namespace Go.Proofs.Ytmpolpeomabcfaa
/- THE CELL 'sum', in the pinned program and in every row, IS THE sha256 OF THE DUMP (.gsa) THAT YtmpolpeomabcfaaProg.lean LOADS. Nothing in Lean hashes anything: it is a label: what it is worth is what the hold of that sum in a sandbox is worth. -/
noncomputable def Try.pinned : Pinned := { name := "ytmpolpeomabcfaa", sum := "70c7e198d4f1d3758d114c51b902b560405331dc52a439b09dcd37c8ea5c34c7", checked := Try.checked }
namespace Rows
def none {H : Type} : Left H := { results := [], args := [] }

/-- 'laws.FnSections': WHATEVER THE INPUT: true; the input reads as it did. -/
def fnSectionsSpec : ChangeSpec := { name := "fnSections", fn := fun _ => fun
  | [d] => { results := [.lit (.bool true)], args := [d] }
  | _ => none }
def fnSectionsRow : OpenClaim := { program := "ytmpolpeomabcfaa", sum := "70c7e198d4f1d3758d114c51b902b560405331dc52a439b09dcd37c8ea5c34c7", func := "loop.example/g00909/laws.FnSections", spec := "fnSections", apart := false }
def FnSectionsSaid : Prop := fnSectionsRow.holds Try.pinned (OpenSpec.ofChange fnSectionsSpec)

/-- ITS FALSE NEIGHBOUR: 'it returns false'. Refute it at one input. -/
def fnSectionsWrong : ChangeSpec := { name := "fnSections", fn := fun _ => fun
  | [d] => { results := [.lit (.bool false)], args := [d] }
  | _ => none }
def FnSectionsWrongFalsely : Prop := fnSectionsRow.holds Try.pinned (OpenSpec.ofChange fnSectionsWrong)

/-- 'laws.FnExactIsDocument': WHATEVER THE INPUT: true; the input reads as it did. -/
def fnExactIsDocumentSpec : ChangeSpec := { name := "fnExactIsDocument", fn := fun _ => fun
  | [d] => { results := [.lit (.bool true)], args := [d] }
  | _ => none }
def fnExactIsDocumentRow : OpenClaim := { program := "ytmpolpeomabcfaa", sum := "70c7e198d4f1d3758d114c51b902b560405331dc52a439b09dcd37c8ea5c34c7", func := "loop.example/g00909/laws.FnExactIsDocument", spec := "fnExactIsDocument", apart := false }
def FnExactIsDocumentSaid : Prop := fnExactIsDocumentRow.holds Try.pinned (OpenSpec.ofChange fnExactIsDocumentSpec)

/-- ITS FALSE NEIGHBOUR: 'it returns false'. Refute it at one input. -/
def fnExactIsDocumentWrong : ChangeSpec := { name := "fnExactIsDocument", fn := fun _ => fun
  | [d] => { results := [.lit (.bool false)], args := [d] }
  | _ => none }
def FnExactIsDocumentWrongFalsely : Prop := fnExactIsDocumentRow.holds Try.pinned (OpenSpec.ofChange fnExactIsDocumentWrong)

/-- 'laws.FnExactBelongsTo': WHATEVER THE INPUT: true; the input reads as it did. -/
def fnExactBelongsToSpec : ChangeSpec := { name := "fnExactBelongsTo", fn := fun _ => fun
  | [d1, d2] => { results := [.lit (.bool true)], args := [d1, d2] }
  | _ => none }
def fnExactBelongsToRow : OpenClaim := { program := "ytmpolpeomabcfaa", sum := "70c7e198d4f1d3758d114c51b902b560405331dc52a439b09dcd37c8ea5c34c7", func := "loop.example/g00909/laws.FnExactBelongsTo", spec := "fnExactBelongsTo", apart := false }
def FnExactBelongsToSaid : Prop := fnExactBelongsToRow.holds Try.pinned (OpenSpec.ofChange fnExactBelongsToSpec)

/-- ITS FALSE NEIGHBOUR: 'it returns false'. Refute it at one input. -/
def fnExactBelongsToWrong : ChangeSpec := { name := "fnExactBelongsTo", fn := fun _ => fun
  | [d1, d2] => { results := [.lit (.bool false)], args := [d1, d2] }
  | _ => none }
def FnExactBelongsToWrongFalsely : Prop := fnExactBelongsToRow.holds Try.pinned (OpenSpec.ofChange fnExactBelongsToWrong)

/-- 'laws.FnExactPartOf': WHATEVER THE INPUT: true; the input reads as it did. -/
def fnExactPartOfSpec : ChangeSpec := { name := "fnExactPartOf", fn := fun _ => fun
  | [d1, d2] => { results := [.lit (.bool true)], args := [d1, d2] }
  | _ => none }
def fnExactPartOfRow : OpenClaim := { program := "ytmpolpeomabcfaa", sum := "70c7e198d4f1d3758d114c51b902b560405331dc52a439b09dcd37c8ea5c34c7", func := "loop.example/g00909/laws.FnExactPartOf", spec := "fnExactPartOf", apart := false }
def FnExactPartOfSaid : Prop := fnExactPartOfRow.holds Try.pinned (OpenSpec.ofChange fnExactPartOfSpec)

/-- ITS FALSE NEIGHBOUR: 'it returns false'. Refute it at one input. -/
def fnExactPartOfWrong : ChangeSpec := { name := "fnExactPartOf", fn := fun _ => fun
  | [d1, d2] => { results := [.lit (.bool false)], args := [d1, d2] }
  | _ => none }
def FnExactPartOfWrongFalsely : Prop := fnExactPartOfRow.holds Try.pinned (OpenSpec.ofChange fnExactPartOfWrong)

/-- 'laws.FnExactCutSection': WHATEVER THE INPUT: true; the input reads as it did. -/
def fnExactCutSectionSpec : ChangeSpec := { name := "fnExactCutSection", fn := fun _ => fun
  | [d1, d2] => { results := [.lit (.bool true)], args := [d1, d2] }
  | _ => none }
def fnExactCutSectionRow : OpenClaim := { program := "ytmpolpeomabcfaa", sum := "70c7e198d4f1d3758d114c51b902b560405331dc52a439b09dcd37c8ea5c34c7", func := "loop.example/g00909/laws.FnExactCutSection", spec := "fnExactCutSection", apart := false }
def FnExactCutSectionSaid : Prop := fnExactCutSectionRow.holds Try.pinned (OpenSpec.ofChange fnExactCutSectionSpec)

/-- ITS FALSE NEIGHBOUR: 'it returns false'. Refute it at one input. -/
def fnExactCutSectionWrong : ChangeSpec := { name := "fnExactCutSection", fn := fun _ => fun
  | [d1, d2] => { results := [.lit (.bool false)], args := [d1, d2] }
  | _ => none }
def FnExactCutSectionWrongFalsely : Prop := fnExactCutSectionRow.holds Try.pinned (OpenSpec.ofChange fnExactCutSectionWrong)

/-- 'laws.FnExactAddSection': WHATEVER THE INPUT: true; the input reads as it did. -/
def fnExactAddSectionSpec : ChangeSpec := { name := "fnExactAddSection", fn := fun _ => fun
  | [d1, d2, d3] => { results := [.lit (.bool true)], args := [d1, d2, d3] }
  | _ => none }
def fnExactAddSectionRow : OpenClaim := { program := "ytmpolpeomabcfaa", sum := "70c7e198d4f1d3758d114c51b902b560405331dc52a439b09dcd37c8ea5c34c7", func := "loop.example/g00909/laws.FnExactAddSection", spec := "fnExactAddSection", apart := false }
def FnExactAddSectionSaid : Prop := fnExactAddSectionRow.holds Try.pinned (OpenSpec.ofChange fnExactAddSectionSpec)

/-- ITS FALSE NEIGHBOUR: 'it returns false'. Refute it at one input. -/
def fnExactAddSectionWrong : ChangeSpec := { name := "fnExactAddSection", fn := fun _ => fun
  | [d1, d2, d3] => { results := [.lit (.bool false)], args := [d1, d2, d3] }
  | _ => none }
def FnExactAddSectionWrongFalsely : Prop := fnExactAddSectionRow.holds Try.pinned (OpenSpec.ofChange fnExactAddSectionWrong)

/-- 'laws.FnExactShiftSection': WHATEVER THE INPUT: true; the input reads as it did. -/
def fnExactShiftSectionSpec : ChangeSpec := { name := "fnExactShiftSection", fn := fun _ => fun
  | [d1, d2, d3] => { results := [.lit (.bool true)], args := [d1, d2, d3] }
  | _ => none }
def fnExactShiftSectionRow : OpenClaim := { program := "ytmpolpeomabcfaa", sum := "70c7e198d4f1d3758d114c51b902b560405331dc52a439b09dcd37c8ea5c34c7", func := "loop.example/g00909/laws.FnExactShiftSection", spec := "fnExactShiftSection", apart := false }
def FnExactShiftSectionSaid : Prop := fnExactShiftSectionRow.holds Try.pinned (OpenSpec.ofChange fnExactShiftSectionSpec)

/-- ITS FALSE NEIGHBOUR: 'it returns false'. Refute it at one input. -/
def fnExactShiftSectionWrong : ChangeSpec := { name := "fnExactShiftSection", fn := fun _ => fun
  | [d1, d2, d3] => { results := [.lit (.bool false)], args := [d1, d2, d3] }
  | _ => none }
def FnExactShiftSectionWrongFalsely : Prop := fnExactShiftSectionRow.holds Try.pinned (OpenSpec.ofChange fnExactShiftSectionWrong)

/- THE SECOND FORM. 'bulk': how many values and letters a reading holds, each counted each time it is reached (what is shared counts as often as it is met; a slice's spare places count too). A statement '..UptoSaid' is the law's where the arguments, and the package variables that the reading takes, are together of bulk at most 1048576: NARROWER than '..Said'. Prove '..Said' where nothing that the law and all that it calls make is longer than what came in: it says more and counts as full. Else prove '..UptoSaid'. A law counts once. -/
mutual
def uptoBulk {H : Type} : DataW H → Nat
  | .lit (.string bytes) => bytes.length + 1
  | .lit _ => 1
  | .nil => 1
  | .ptr d => uptoBulk d + 1
  | .slice elems spare => uptoBulkAll elems + uptoBulkAll spare + 1
  | .agg parts => uptoBulkAll parts + 1
  | .iface _ d => uptoBulk d + 1
  | .map entries => uptoBulkEntries entries + 1
  | .held _ => 1
def uptoBulkAll {H : Type} : List (DataW H) → Nat
  | [] => 0
  | d :: r => uptoBulk d + uptoBulkAll r
def uptoBulkEntries {H : Type} : List (Lit × DataW H) → Nat
  | [] => 0
  | x :: r => uptoBulkEntry x + uptoBulkEntries r
def uptoBulkEntry {H : Type} : Lit × DataW H → Nat
  | (.string bytes, d) => bytes.length + uptoBulk d + 1
  | (_, d) => uptoBulk d + 1
 end
def uptoSmall : (H : Type) → List (DataW H) → Bool := fun _ ds => decide (uptoBulkAll ds ≤ 1048576)
def OpenSpec.upto (s : _root_.Go.ChangeSpec) : _root_.Go.OpenSpec := { _root_.Go.OpenSpec.ofChange s with cond := some uptoSmall }

/-- 'laws.FnSections', WHERE WHAT IT READS IS OF BULK AT MOST 1048576: true; the input reads as it did. -/
def fnSectionsUptoRow : OpenClaim := { program := "ytmpolpeomabcfaa", sum := "70c7e198d4f1d3758d114c51b902b560405331dc52a439b09dcd37c8ea5c34c7", func := "loop.example/g00909/laws.FnSections", spec := "fnSections", apart := false, narrowed := true }
def FnSectionsUptoSaid : Prop := fnSectionsUptoRow.holds Try.pinned (OpenSpec.upto fnSectionsSpec)

/-- 'laws.FnExactIsDocument', WHERE WHAT IT READS IS OF BULK AT MOST 1048576: true; the input reads as it did. -/
def fnExactIsDocumentUptoRow : OpenClaim := { program := "ytmpolpeomabcfaa", sum := "70c7e198d4f1d3758d114c51b902b560405331dc52a439b09dcd37c8ea5c34c7", func := "loop.example/g00909/laws.FnExactIsDocument", spec := "fnExactIsDocument", apart := false, narrowed := true }
def FnExactIsDocumentUptoSaid : Prop := fnExactIsDocumentUptoRow.holds Try.pinned (OpenSpec.upto fnExactIsDocumentSpec)

/-- 'laws.FnExactBelongsTo', WHERE WHAT IT READS IS OF BULK AT MOST 1048576: true; the input reads as it did. -/
def fnExactBelongsToUptoRow : OpenClaim := { program := "ytmpolpeomabcfaa", sum := "70c7e198d4f1d3758d114c51b902b560405331dc52a439b09dcd37c8ea5c34c7", func := "loop.example/g00909/laws.FnExactBelongsTo", spec := "fnExactBelongsTo", apart := false, narrowed := true }
def FnExactBelongsToUptoSaid : Prop := fnExactBelongsToUptoRow.holds Try.pinned (OpenSpec.upto fnExactBelongsToSpec)

/-- 'laws.FnExactPartOf', WHERE WHAT IT READS IS OF BULK AT MOST 1048576: true; the input reads as it did. -/
def fnExactPartOfUptoRow : OpenClaim := { program := "ytmpolpeomabcfaa", sum := "70c7e198d4f1d3758d114c51b902b560405331dc52a439b09dcd37c8ea5c34c7", func := "loop.example/g00909/laws.FnExactPartOf", spec := "fnExactPartOf", apart := false, narrowed := true }
def FnExactPartOfUptoSaid : Prop := fnExactPartOfUptoRow.holds Try.pinned (OpenSpec.upto fnExactPartOfSpec)

/-- 'laws.FnExactCutSection', WHERE WHAT IT READS IS OF BULK AT MOST 1048576: true; the input reads as it did. -/
def fnExactCutSectionUptoRow : OpenClaim := { program := "ytmpolpeomabcfaa", sum := "70c7e198d4f1d3758d114c51b902b560405331dc52a439b09dcd37c8ea5c34c7", func := "loop.example/g00909/laws.FnExactCutSection", spec := "fnExactCutSection", apart := false, narrowed := true }
def FnExactCutSectionUptoSaid : Prop := fnExactCutSectionUptoRow.holds Try.pinned (OpenSpec.upto fnExactCutSectionSpec)

/-- 'laws.FnExactAddSection', WHERE WHAT IT READS IS OF BULK AT MOST 1048576: true; the input reads as it did. -/
def fnExactAddSectionUptoRow : OpenClaim := { program := "ytmpolpeomabcfaa", sum := "70c7e198d4f1d3758d114c51b902b560405331dc52a439b09dcd37c8ea5c34c7", func := "loop.example/g00909/laws.FnExactAddSection", spec := "fnExactAddSection", apart := false, narrowed := true }
def FnExactAddSectionUptoSaid : Prop := fnExactAddSectionUptoRow.holds Try.pinned (OpenSpec.upto fnExactAddSectionSpec)

/-- 'laws.FnExactShiftSection', WHERE WHAT IT READS IS OF BULK AT MOST 1048576: true; the input reads as it did. -/
def fnExactShiftSectionUptoRow : OpenClaim := { program := "ytmpolpeomabcfaa", sum := "70c7e198d4f1d3758d114c51b902b560405331dc52a439b09dcd37c8ea5c34c7", func := "loop.example/g00909/laws.FnExactShiftSection", spec := "fnExactShiftSection", apart := false, narrowed := true }
def FnExactShiftSectionUptoSaid : Prop := fnExactShiftSectionUptoRow.holds Try.pinned (OpenSpec.upto fnExactShiftSectionSpec)

end Rows
end Go.Proofs.Ytmpolpeomabcfaa
