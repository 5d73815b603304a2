/-
  DERIVED. GIVEN WITH THE SEED: THE CARDS: each row of YtclpdpfnlmfogaaDoorRows.lean that lists a variable, with what it lists TIED to the program's text (the seventh form; the later family's looks); each row that meets fmt, with fmt's text TOLD by the authors' own Lean function (tested against real Go, not proved from fmt's source: count such statements apart). THE CARD IS WHAT COUNTS. Prove the row's statement (the work); the ties are given (YtclpdpfnlmfogaaDoorTie.lean); close each card by the builder's one call (the guide's Derived/Test/ToyasCard.lean, 'card_holds'). Laid BY PROGRAM, IN A SANDBOX (cutbox-door.mjs). By AI agents, Wed Nov 11 2026. No macro, syntax, notation, axiom, sorry.
-/
import Derived.Test.YtclpdpfnlmfogaaDoorRows
import GoSem.ClaimSeven
namespace Go.Proofs.YtclpdpfnlmfogaaDoor
namespace Rows

/-- THE TIED CARD OF 'laws.FnConflicts'. -/
def fnConflictsCard : Claim7 := { stood := { row := fnConflictsRow, standIns := [], harness := (true, "0432c4dad86c66cd93d27971724a0071e36db956e8fc28532c2562e64c7d0e04"), looks := false }, kinds := [], alts := [], laidByText := true, laidKinds := [.data, .data], laidTests := true, laidLooks := .later }
def FnConflictsCardSaid : Prop := Claim7.holds Tryd.pinned (.plain (OpenSpec.ofChange fnConflictsSpec)) fnConflictsCard

/-- THE TIED CARD OF 'laws.FnProposals'. -/
def fnProposalsCard : Claim7 := { stood := { row := fnProposalsRow, standIns := [], harness := (true, "0432c4dad86c66cd93d27971724a0071e36db956e8fc28532c2562e64c7d0e04"), looks := false }, kinds := [], alts := [], laidByText := true, laidKinds := [.data, .data], laidTests := true, laidLooks := .later }
def FnProposalsCardSaid : Prop := Claim7.holds Tryd.pinned (.plain (OpenSpec.ofChange fnProposalsSpec)) fnProposalsCard

/-- THE TIED CARD OF 'laws.FnExactConflictPairs'. -/
def fnExactConflictPairsCard : Claim7 := { stood := { row := fnExactConflictPairsRow, standIns := [], harness := (true, "0432c4dad86c66cd93d27971724a0071e36db956e8fc28532c2562e64c7d0e04"), looks := false }, kinds := [], alts := [], laidByText := true, laidKinds := [.data, .data], laidTests := true, laidLooks := .later }
def FnExactConflictPairsCardSaid : Prop := Claim7.holds Tryd.pinned (.plain (OpenSpec.ofChange fnExactConflictPairsSpec)) fnExactConflictPairsCard

/-- THE TIED CARD OF 'laws.FnExactApplyTogether'. -/
def fnExactApplyTogetherCard : Claim7 := { stood := { row := fnExactApplyTogetherRow, standIns := [], harness := (true, "0432c4dad86c66cd93d27971724a0071e36db956e8fc28532c2562e64c7d0e04"), looks := false }, kinds := [], alts := [], laidByText := true, laidKinds := [.data, .data], laidTests := true, laidLooks := .later }
def FnExactApplyTogetherCardSaid : Prop := Claim7.holds Tryd.pinned (.plain (OpenSpec.ofChange fnExactApplyTogetherSpec)) fnExactApplyTogetherCard

/-- THE TIED CARD OF 'laws.FnExactHeaviestSet'. -/
def fnExactHeaviestSetCard : Claim7 := { stood := { row := fnExactHeaviestSetRow, standIns := [], harness := (true, "0432c4dad86c66cd93d27971724a0071e36db956e8fc28532c2562e64c7d0e04"), looks := false }, kinds := [], alts := [], laidByText := true, laidKinds := [.data, .data], laidTests := true, laidLooks := .later }
def FnExactHeaviestSetCardSaid : Prop := Claim7.holds Tryd.pinned (.plain (OpenSpec.ofChange fnExactHeaviestSetSpec)) fnExactHeaviestSetCard

/-- THE SECOND FORM's CARD OF 'laws.FnConflicts'. -/
def fnConflictsUptoCard : Claim7 := { stood := { row := fnConflictsUptoRow, standIns := [], harness := (true, "0432c4dad86c66cd93d27971724a0071e36db956e8fc28532c2562e64c7d0e04"), looks := false }, kinds := [], alts := [], laidByText := true, laidKinds := [.data, .data], laidTests := true, laidLooks := .later }
def FnConflictsUptoCardSaid : Prop := Claim7.holds Tryd.pinned (.plain (OpenSpec.upto fnConflictsSpec)) fnConflictsUptoCard

/-- THE SECOND FORM's CARD OF 'laws.FnProposals'. -/
def fnProposalsUptoCard : Claim7 := { stood := { row := fnProposalsUptoRow, standIns := [], harness := (true, "0432c4dad86c66cd93d27971724a0071e36db956e8fc28532c2562e64c7d0e04"), looks := false }, kinds := [], alts := [], laidByText := true, laidKinds := [.data, .data], laidTests := true, laidLooks := .later }
def FnProposalsUptoCardSaid : Prop := Claim7.holds Tryd.pinned (.plain (OpenSpec.upto fnProposalsSpec)) fnProposalsUptoCard

/-- THE SECOND FORM's CARD OF 'laws.FnExactConflictPairs'. -/
def fnExactConflictPairsUptoCard : Claim7 := { stood := { row := fnExactConflictPairsUptoRow, standIns := [], harness := (true, "0432c4dad86c66cd93d27971724a0071e36db956e8fc28532c2562e64c7d0e04"), looks := false }, kinds := [], alts := [], laidByText := true, laidKinds := [.data, .data], laidTests := true, laidLooks := .later }
def FnExactConflictPairsUptoCardSaid : Prop := Claim7.holds Tryd.pinned (.plain (OpenSpec.upto fnExactConflictPairsSpec)) fnExactConflictPairsUptoCard

/-- THE SECOND FORM's CARD OF 'laws.FnExactApplyTogether'. -/
def fnExactApplyTogetherUptoCard : Claim7 := { stood := { row := fnExactApplyTogetherUptoRow, standIns := [], harness := (true, "0432c4dad86c66cd93d27971724a0071e36db956e8fc28532c2562e64c7d0e04"), looks := false }, kinds := [], alts := [], laidByText := true, laidKinds := [.data, .data], laidTests := true, laidLooks := .later }
def FnExactApplyTogetherUptoCardSaid : Prop := Claim7.holds Tryd.pinned (.plain (OpenSpec.upto fnExactApplyTogetherSpec)) fnExactApplyTogetherUptoCard

/-- THE SECOND FORM's CARD OF 'laws.FnExactHeaviestSet'. -/
def fnExactHeaviestSetUptoCard : Claim7 := { stood := { row := fnExactHeaviestSetUptoRow, standIns := [], harness := (true, "0432c4dad86c66cd93d27971724a0071e36db956e8fc28532c2562e64c7d0e04"), looks := false }, kinds := [], alts := [], laidByText := true, laidKinds := [.data, .data], laidTests := true, laidLooks := .later }
def FnExactHeaviestSetUptoCardSaid : Prop := Claim7.holds Tryd.pinned (.plain (OpenSpec.upto fnExactHeaviestSetSpec)) fnExactHeaviestSetUptoCard
end Rows
end Go.Proofs.YtclpdpfnlmfogaaDoor
