/-
  No cell of these rows narrows 'for every input' (looked for: loops, veiled, ifaces, maps, wideKeys, modest, calm, conditions, laid).
  DERIVED. THE GIVEN ROWS OF THIS SEAT. 8 by the template 'for every input the law returns true; each argument reads behind the call as it read before'; 0 by the template 'total and deterministic' (their statements: YtfkppgnffhbfjaaTotals.lean).
  GIVEN WITH THE SEED: the statements are not yours to turn. If you find one false, say at which input.
  Laid BY PROGRAM, IN A SANDBOX (cutbox-rows.mjs): the forced cells as the released guide's own fill.sh prints them over the translation 00b5c7467225de3d… (all of the seat's roots in one cut). By AI agents, Wed Nov 11 2026. No macro, syntax, notation, axiom, sorry.
-/
import Derived.Test.YtfkppgnffhbfjaaChecked
import GoSem.Claim
import GoSem.ClaimJoined
import GoSem.ClaimMapViews
import Derived.JoinedTies
import Derived.KernelRfl
namespace Go.Proofs.Ytfkppgnffhbfjaa
/- THE CELL 'sum', in the pinned program and in every row, IS THE sha256 OF THE DUMP (.gsa) THAT YtfkppgnffhbfjaaProg.lean LOADS. Nothing in Lean hashes anything: it is a label: what it is worth is what the hold of that sum in a sandbox is worth. -/
noncomputable def Try.pinned : Pinned := { name := "ytfkppgnffhbfjaa", sum := "00b5c7467225de3d092967c36a76fa360810bfd166418bc1e77fe5e828e0940d", checked := Try.checked }
namespace Rows
def none {H : Type} : Left H := { results := [], args := [] }

/-- 'laws.FnExactIsText': WHATEVER THE INPUT: true; the input reads as it did. -/
def fnExactIsTextSpec : ChangeSpec := { name := "fnExactIsText", fn := fun _ => fun
  | [d] => { results := [.lit (.bool true)], args := [d] }
  | _ => none }
def fnExactIsTextRow : OpenClaim := { program := "ytfkppgnffhbfjaa", sum := "00b5c7467225de3d092967c36a76fa360810bfd166418bc1e77fe5e828e0940d", func := "loop.example/g00909/laws.FnExactIsText", spec := "fnExactIsText", apart := false }
def FnExactIsTextSaid : Prop := fnExactIsTextRow.holds Try.pinned (OpenSpec.ofChange fnExactIsTextSpec)

/-- ITS FALSE NEIGHBOUR: 'it returns false'. Refute it at one input. -/
def fnExactIsTextWrong : ChangeSpec := { name := "fnExactIsText", fn := fun _ => fun
  | [d] => { results := [.lit (.bool false)], args := [d] }
  | _ => none }
def FnExactIsTextWrongFalsely : Prop := fnExactIsTextRow.holds Try.pinned (OpenSpec.ofChange fnExactIsTextWrong)

/-- 'laws.FnExactIsValidAmendment': WHATEVER THE INPUT: true; the input reads as it did. -/
def fnExactIsValidAmendmentSpec : ChangeSpec := { name := "fnExactIsValidAmendment", fn := fun _ => fun
  | [d] => { results := [.lit (.bool true)], args := [d] }
  | _ => none }
def fnExactIsValidAmendmentRow : OpenClaim := { program := "ytfkppgnffhbfjaa", sum := "00b5c7467225de3d092967c36a76fa360810bfd166418bc1e77fe5e828e0940d", func := "loop.example/g00909/laws.FnExactIsValidAmendment", spec := "fnExactIsValidAmendment", apart := false }
def FnExactIsValidAmendmentSaid : Prop := fnExactIsValidAmendmentRow.holds Try.pinned (OpenSpec.ofChange fnExactIsValidAmendmentSpec)

/-- ITS FALSE NEIGHBOUR: 'it returns false'. Refute it at one input. -/
def fnExactIsValidAmendmentWrong : ChangeSpec := { name := "fnExactIsValidAmendment", fn := fun _ => fun
  | [d] => { results := [.lit (.bool false)], args := [d] }
  | _ => none }
def FnExactIsValidAmendmentWrongFalsely : Prop := fnExactIsValidAmendmentRow.holds Try.pinned (OpenSpec.ofChange fnExactIsValidAmendmentWrong)

/-- 'laws.FnExactFitsText': WHATEVER THE INPUT: true; the input reads as it did. -/
def fnExactFitsTextSpec : ChangeSpec := { name := "fnExactFitsText", fn := fun _ => fun
  | [d1, d2] => { results := [.lit (.bool true)], args := [d1, d2] }
  | _ => none }
def fnExactFitsTextRow : OpenClaim := { program := "ytfkppgnffhbfjaa", sum := "00b5c7467225de3d092967c36a76fa360810bfd166418bc1e77fe5e828e0940d", func := "loop.example/g00909/laws.FnExactFitsText", spec := "fnExactFitsText", apart := false }
def FnExactFitsTextSaid : Prop := fnExactFitsTextRow.holds Try.pinned (OpenSpec.ofChange fnExactFitsTextSpec)

/-- ITS FALSE NEIGHBOUR: 'it returns false'. Refute it at one input. -/
def fnExactFitsTextWrong : ChangeSpec := { name := "fnExactFitsText", fn := fun _ => fun
  | [d1, d2] => { results := [.lit (.bool false)], args := [d1, d2] }
  | _ => none }
def FnExactFitsTextWrongFalsely : Prop := fnExactFitsTextRow.holds Try.pinned (OpenSpec.ofChange fnExactFitsTextWrong)

/-- 'laws.FnExactApplyAmendment': WHATEVER THE INPUT: true; the input reads as it did. -/
def fnExactApplyAmendmentSpec : ChangeSpec := { name := "fnExactApplyAmendment", fn := fun _ => fun
  | [d1, d2] => { results := [.lit (.bool true)], args := [d1, d2] }
  | _ => none }
def fnExactApplyAmendmentRow : OpenClaim := { program := "ytfkppgnffhbfjaa", sum := "00b5c7467225de3d092967c36a76fa360810bfd166418bc1e77fe5e828e0940d", func := "loop.example/g00909/laws.FnExactApplyAmendment", spec := "fnExactApplyAmendment", apart := false }
def FnExactApplyAmendmentSaid : Prop := fnExactApplyAmendmentRow.holds Try.pinned (OpenSpec.ofChange fnExactApplyAmendmentSpec)

/-- ITS FALSE NEIGHBOUR: 'it returns false'. Refute it at one input. -/
def fnExactApplyAmendmentWrong : ChangeSpec := { name := "fnExactApplyAmendment", fn := fun _ => fun
  | [d1, d2] => { results := [.lit (.bool false)], args := [d1, d2] }
  | _ => none }
def FnExactApplyAmendmentWrongFalsely : Prop := fnExactApplyAmendmentRow.holds Try.pinned (OpenSpec.ofChange fnExactApplyAmendmentWrong)

/-- 'laws.FnExactInverseAmendment': WHATEVER THE INPUT: true; the input reads as it did. -/
def fnExactInverseAmendmentSpec : ChangeSpec := { name := "fnExactInverseAmendment", fn := fun _ => fun
  | [d1, d2] => { results := [.lit (.bool true)], args := [d1, d2] }
  | _ => none }
def fnExactInverseAmendmentRow : OpenClaim := { program := "ytfkppgnffhbfjaa", sum := "00b5c7467225de3d092967c36a76fa360810bfd166418bc1e77fe5e828e0940d", func := "loop.example/g00909/laws.FnExactInverseAmendment", spec := "fnExactInverseAmendment", apart := false }
def FnExactInverseAmendmentSaid : Prop := fnExactInverseAmendmentRow.holds Try.pinned (OpenSpec.ofChange fnExactInverseAmendmentSpec)

/-- ITS FALSE NEIGHBOUR: 'it returns false'. Refute it at one input. -/
def fnExactInverseAmendmentWrong : ChangeSpec := { name := "fnExactInverseAmendment", fn := fun _ => fun
  | [d1, d2] => { results := [.lit (.bool false)], args := [d1, d2] }
  | _ => none }
def FnExactInverseAmendmentWrongFalsely : Prop := fnExactInverseAmendmentRow.holds Try.pinned (OpenSpec.ofChange fnExactInverseAmendmentWrong)

/-- 'laws.FnExactRebuildText': WHATEVER THE INPUT: true; the input reads as it did. -/
def fnExactRebuildTextSpec : ChangeSpec := { name := "fnExactRebuildText", fn := fun _ => fun
  | [d1, d2] => { results := [.lit (.bool true)], args := [d1, d2] }
  | _ => none }
def fnExactRebuildTextRow : OpenClaim := { program := "ytfkppgnffhbfjaa", sum := "00b5c7467225de3d092967c36a76fa360810bfd166418bc1e77fe5e828e0940d", func := "loop.example/g00909/laws.FnExactRebuildText", spec := "fnExactRebuildText", apart := false }
def FnExactRebuildTextSaid : Prop := fnExactRebuildTextRow.holds Try.pinned (OpenSpec.ofChange fnExactRebuildTextSpec)

/-- ITS FALSE NEIGHBOUR: 'it returns false'. Refute it at one input. -/
def fnExactRebuildTextWrong : ChangeSpec := { name := "fnExactRebuildText", fn := fun _ => fun
  | [d1, d2] => { results := [.lit (.bool false)], args := [d1, d2] }
  | _ => none }
def FnExactRebuildTextWrongFalsely : Prop := fnExactRebuildTextRow.holds Try.pinned (OpenSpec.ofChange fnExactRebuildTextWrong)

/-- 'laws.FnExactUndoAmendments': WHATEVER THE INPUT: true; the input reads as it did. -/
def fnExactUndoAmendmentsSpec : ChangeSpec := { name := "fnExactUndoAmendments", fn := fun _ => fun
  | [d1, d2] => { results := [.lit (.bool true)], args := [d1, d2] }
  | _ => none }
def fnExactUndoAmendmentsRow : OpenClaim := { program := "ytfkppgnffhbfjaa", sum := "00b5c7467225de3d092967c36a76fa360810bfd166418bc1e77fe5e828e0940d", func := "loop.example/g00909/laws.FnExactUndoAmendments", spec := "fnExactUndoAmendments", apart := false }
def FnExactUndoAmendmentsSaid : Prop := fnExactUndoAmendmentsRow.holds Try.pinned (OpenSpec.ofChange fnExactUndoAmendmentsSpec)

/-- ITS FALSE NEIGHBOUR: 'it returns false'. Refute it at one input. -/
def fnExactUndoAmendmentsWrong : ChangeSpec := { name := "fnExactUndoAmendments", fn := fun _ => fun
  | [d1, d2] => { results := [.lit (.bool false)], args := [d1, d2] }
  | _ => none }
def FnExactUndoAmendmentsWrongFalsely : Prop := fnExactUndoAmendmentsRow.holds Try.pinned (OpenSpec.ofChange fnExactUndoAmendmentsWrong)

/-- 'laws.FnExactSingleChange': WHATEVER THE INPUT: true; the input reads as it did. -/
def fnExactSingleChangeSpec : ChangeSpec := { name := "fnExactSingleChange", fn := fun _ => fun
  | [d1, d2] => { results := [.lit (.bool true)], args := [d1, d2] }
  | _ => none }
def fnExactSingleChangeRow : OpenClaim := { program := "ytfkppgnffhbfjaa", sum := "00b5c7467225de3d092967c36a76fa360810bfd166418bc1e77fe5e828e0940d", func := "loop.example/g00909/laws.FnExactSingleChange", spec := "fnExactSingleChange", apart := false }
def FnExactSingleChangeSaid : Prop := fnExactSingleChangeRow.holds Try.pinned (OpenSpec.ofChange fnExactSingleChangeSpec)

/-- ITS FALSE NEIGHBOUR: 'it returns false'. Refute it at one input. -/
def fnExactSingleChangeWrong : ChangeSpec := { name := "fnExactSingleChange", fn := fun _ => fun
  | [d1, d2] => { results := [.lit (.bool false)], args := [d1, d2] }
  | _ => none }
def FnExactSingleChangeWrongFalsely : Prop := fnExactSingleChangeRow.holds Try.pinned (OpenSpec.ofChange fnExactSingleChangeWrong)

/- THE SECOND FORM. 'bulk': how many values and letters a reading holds, each counted each time it is reached (what is shared counts as often as it is met; a slice's spare places count too). A statement '..UptoSaid' is the law's where the arguments, and the package variables that the reading takes, are together of bulk at most 1048576: NARROWER than '..Said'. Prove '..Said' where nothing that the law and all that it calls make is longer than what came in: it says more and counts as full. Else prove '..UptoSaid'. A law counts once. -/
mutual
def uptoBulk {H : Type} : DataW H → Nat
  | .lit (.string bytes) => bytes.length + 1
  | .lit _ => 1
  | .nil => 1
  | .ptr d => uptoBulk d + 1
  | .slice elems spare => uptoBulkAll elems + uptoBulkAll spare + 1
  | .agg parts => uptoBulkAll parts + 1
  | .iface _ d => uptoBulk d + 1
  | .map entries => uptoBulkEntries entries + 1
  | .held _ => 1
def uptoBulkAll {H : Type} : List (DataW H) → Nat
  | [] => 0
  | d :: r => uptoBulk d + uptoBulkAll r
def uptoBulkEntries {H : Type} : List (Lit × DataW H) → Nat
  | [] => 0
  | x :: r => uptoBulkEntry x + uptoBulkEntries r
def uptoBulkEntry {H : Type} : Lit × DataW H → Nat
  | (.string bytes, d) => bytes.length + uptoBulk d + 1
  | (_, d) => uptoBulk d + 1
 end
def uptoSmall : (H : Type) → List (DataW H) → Bool := fun _ ds => decide (uptoBulkAll ds ≤ 1048576)
def OpenSpec.upto (s : _root_.Go.ChangeSpec) : _root_.Go.OpenSpec := { _root_.Go.OpenSpec.ofChange s with cond := some uptoSmall }

/-- 'laws.FnExactIsText', WHERE WHAT IT READS IS OF BULK AT MOST 1048576: true; the input reads as it did. -/
def fnExactIsTextUptoRow : OpenClaim := { program := "ytfkppgnffhbfjaa", sum := "00b5c7467225de3d092967c36a76fa360810bfd166418bc1e77fe5e828e0940d", func := "loop.example/g00909/laws.FnExactIsText", spec := "fnExactIsText", apart := false, narrowed := true }
def FnExactIsTextUptoSaid : Prop := fnExactIsTextUptoRow.holds Try.pinned (OpenSpec.upto fnExactIsTextSpec)

/-- 'laws.FnExactIsValidAmendment', WHERE WHAT IT READS IS OF BULK AT MOST 1048576: true; the input reads as it did. -/
def fnExactIsValidAmendmentUptoRow : OpenClaim := { program := "ytfkppgnffhbfjaa", sum := "00b5c7467225de3d092967c36a76fa360810bfd166418bc1e77fe5e828e0940d", func := "loop.example/g00909/laws.FnExactIsValidAmendment", spec := "fnExactIsValidAmendment", apart := false, narrowed := true }
def FnExactIsValidAmendmentUptoSaid : Prop := fnExactIsValidAmendmentUptoRow.holds Try.pinned (OpenSpec.upto fnExactIsValidAmendmentSpec)

/-- 'laws.FnExactFitsText', WHERE WHAT IT READS IS OF BULK AT MOST 1048576: true; the input reads as it did. -/
def fnExactFitsTextUptoRow : OpenClaim := { program := "ytfkppgnffhbfjaa", sum := "00b5c7467225de3d092967c36a76fa360810bfd166418bc1e77fe5e828e0940d", func := "loop.example/g00909/laws.FnExactFitsText", spec := "fnExactFitsText", apart := false, narrowed := true }
def FnExactFitsTextUptoSaid : Prop := fnExactFitsTextUptoRow.holds Try.pinned (OpenSpec.upto fnExactFitsTextSpec)

/-- 'laws.FnExactApplyAmendment', WHERE WHAT IT READS IS OF BULK AT MOST 1048576: true; the input reads as it did. -/
def fnExactApplyAmendmentUptoRow : OpenClaim := { program := "ytfkppgnffhbfjaa", sum := "00b5c7467225de3d092967c36a76fa360810bfd166418bc1e77fe5e828e0940d", func := "loop.example/g00909/laws.FnExactApplyAmendment", spec := "fnExactApplyAmendment", apart := false, narrowed := true }
def FnExactApplyAmendmentUptoSaid : Prop := fnExactApplyAmendmentUptoRow.holds Try.pinned (OpenSpec.upto fnExactApplyAmendmentSpec)

/-- 'laws.FnExactInverseAmendment', WHERE WHAT IT READS IS OF BULK AT MOST 1048576: true; the input reads as it did. -/
def fnExactInverseAmendmentUptoRow : OpenClaim := { program := "ytfkppgnffhbfjaa", sum := "00b5c7467225de3d092967c36a76fa360810bfd166418bc1e77fe5e828e0940d", func := "loop.example/g00909/laws.FnExactInverseAmendment", spec := "fnExactInverseAmendment", apart := false, narrowed := true }
def FnExactInverseAmendmentUptoSaid : Prop := fnExactInverseAmendmentUptoRow.holds Try.pinned (OpenSpec.upto fnExactInverseAmendmentSpec)

/-- 'laws.FnExactRebuildText', WHERE WHAT IT READS IS OF BULK AT MOST 1048576: true; the input reads as it did. -/
def fnExactRebuildTextUptoRow : OpenClaim := { program := "ytfkppgnffhbfjaa", sum := "00b5c7467225de3d092967c36a76fa360810bfd166418bc1e77fe5e828e0940d", func := "loop.example/g00909/laws.FnExactRebuildText", spec := "fnExactRebuildText", apart := false, narrowed := true }
def FnExactRebuildTextUptoSaid : Prop := fnExactRebuildTextUptoRow.holds Try.pinned (OpenSpec.upto fnExactRebuildTextSpec)

/-- 'laws.FnExactUndoAmendments', WHERE WHAT IT READS IS OF BULK AT MOST 1048576: true; the input reads as it did. -/
def fnExactUndoAmendmentsUptoRow : OpenClaim := { program := "ytfkppgnffhbfjaa", sum := "00b5c7467225de3d092967c36a76fa360810bfd166418bc1e77fe5e828e0940d", func := "loop.example/g00909/laws.FnExactUndoAmendments", spec := "fnExactUndoAmendments", apart := false, narrowed := true }
def FnExactUndoAmendmentsUptoSaid : Prop := fnExactUndoAmendmentsUptoRow.holds Try.pinned (OpenSpec.upto fnExactUndoAmendmentsSpec)

/-- 'laws.FnExactSingleChange', WHERE WHAT IT READS IS OF BULK AT MOST 1048576: true; the input reads as it did. -/
def fnExactSingleChangeUptoRow : OpenClaim := { program := "ytfkppgnffhbfjaa", sum := "00b5c7467225de3d092967c36a76fa360810bfd166418bc1e77fe5e828e0940d", func := "loop.example/g00909/laws.FnExactSingleChange", spec := "fnExactSingleChange", apart := false, narrowed := true }
def FnExactSingleChangeUptoSaid : Prop := fnExactSingleChangeUptoRow.holds Try.pinned (OpenSpec.upto fnExactSingleChangeSpec)

end Rows
end Go.Proofs.Ytfkppgnffhbfjaa
