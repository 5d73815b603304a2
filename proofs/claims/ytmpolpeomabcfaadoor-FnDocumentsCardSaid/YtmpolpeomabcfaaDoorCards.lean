/-
  DERIVED. GIVEN WITH THE SEED: THE CARDS: each row of YtmpolpeomabcfaaDoorRows.lean that lists a variable, with what it lists TIED to the program's text (the seventh form; the later family's looks); each row that meets fmt, with fmt's text TOLD by the authors' own Lean function (tested against real Go, not proved from fmt's source: count such statements apart). THE CARD IS WHAT COUNTS. Prove the row's statement (the work); the ties are given (YtmpolpeomabcfaaDoorTie.lean); close each card by the builder's one call (the guide's Derived/Test/ToyasCard.lean, 'card_holds'). Laid BY PROGRAM, IN A SANDBOX (cutbox-door.mjs). By AI agents, Wed Nov 11 2026. No macro, syntax, notation, axiom, sorry.
-/
import Derived.Test.YtmpolpeomabcfaaDoorRows
import GoSem.ClaimSeven
namespace Go.Proofs.YtmpolpeomabcfaaDoor
namespace Rows

/-- THE TIED CARD OF 'laws.FnDocuments'. -/
def fnDocumentsCard : Claim7 := { stood := { row := fnDocumentsRow, standIns := [], harness := (true, "18ab12fdd1be9e5bd6e08626b15dd0fa41854a8d4a5f63187d0687e545c2f5bd"), looks := false }, kinds := [], alts := [], laidByText := true, laidKinds := [.data, .data, .data], laidTests := true, laidLooks := .later }
def FnDocumentsCardSaid : Prop := Claim7.holds Tryd.pinned (.plain (OpenSpec.ofChange fnDocumentsSpec)) fnDocumentsCard

/-- THE TIED CARD OF 'laws.FnExactSectionNumber'. -/
def fnExactSectionNumberCard : Claim7 := { stood := { row := fnExactSectionNumberRow, standIns := [], harness := (true, "18ab12fdd1be9e5bd6e08626b15dd0fa41854a8d4a5f63187d0687e545c2f5bd"), looks := false }, kinds := [], alts := [], laidByText := true, laidKinds := [.data, .data, .data], laidTests := true, laidLooks := .later }
def FnExactSectionNumberCardSaid : Prop := Claim7.holds Tryd.pinned (.plain (OpenSpec.ofChange fnExactSectionNumberSpec)) fnExactSectionNumberCard

/-- THE TIED CARD OF 'laws.FnExactFindSection'. -/
def fnExactFindSectionCard : Claim7 := { stood := { row := fnExactFindSectionRow, standIns := [], harness := (true, "18ab12fdd1be9e5bd6e08626b15dd0fa41854a8d4a5f63187d0687e545c2f5bd"), looks := false }, kinds := [], alts := [], laidByText := true, laidKinds := [.data, .data, .data], laidTests := true, laidLooks := .later }
def FnExactFindSectionCardSaid : Prop := Claim7.holds Tryd.pinned (.plain (OpenSpec.ofChange fnExactFindSectionSpec)) fnExactFindSectionCard

/-- THE TIED CARD OF 'laws.FnExactDocumentText'. -/
def fnExactDocumentTextCard : Claim7 := { stood := { row := fnExactDocumentTextRow, standIns := [], harness := (true, "18ab12fdd1be9e5bd6e08626b15dd0fa41854a8d4a5f63187d0687e545c2f5bd"), looks := false }, kinds := [], alts := [], laidByText := true, laidKinds := [.data, .data, .data], laidTests := true, laidLooks := .later }
def FnExactDocumentTextCardSaid : Prop := Claim7.holds Tryd.pinned (.plain (OpenSpec.ofChange fnExactDocumentTextSpec)) fnExactDocumentTextCard

/-- THE TIED CARD OF 'laws.FnExactParseDocument'. -/
def fnExactParseDocumentCard : Claim7 := { stood := { row := fnExactParseDocumentRow, standIns := [], harness := (true, "18ab12fdd1be9e5bd6e08626b15dd0fa41854a8d4a5f63187d0687e545c2f5bd"), looks := false }, kinds := [], alts := [], laidByText := true, laidKinds := [.data, .data, .data], laidTests := true, laidLooks := .later }
def FnExactParseDocumentCardSaid : Prop := Claim7.holds Tryd.pinned (.plain (OpenSpec.ofChange fnExactParseDocumentSpec)) fnExactParseDocumentCard

/-- THE SECOND FORM's CARD OF 'laws.FnDocuments'. -/
def fnDocumentsUptoCard : Claim7 := { stood := { row := fnDocumentsUptoRow, standIns := [], harness := (true, "18ab12fdd1be9e5bd6e08626b15dd0fa41854a8d4a5f63187d0687e545c2f5bd"), looks := false }, kinds := [], alts := [], laidByText := true, laidKinds := [.data, .data, .data], laidTests := true, laidLooks := .later }
def FnDocumentsUptoCardSaid : Prop := Claim7.holds Tryd.pinned (.plain (OpenSpec.upto fnDocumentsSpec)) fnDocumentsUptoCard

/-- THE SECOND FORM's CARD OF 'laws.FnExactSectionNumber'. -/
def fnExactSectionNumberUptoCard : Claim7 := { stood := { row := fnExactSectionNumberUptoRow, standIns := [], harness := (true, "18ab12fdd1be9e5bd6e08626b15dd0fa41854a8d4a5f63187d0687e545c2f5bd"), looks := false }, kinds := [], alts := [], laidByText := true, laidKinds := [.data, .data, .data], laidTests := true, laidLooks := .later }
def FnExactSectionNumberUptoCardSaid : Prop := Claim7.holds Tryd.pinned (.plain (OpenSpec.upto fnExactSectionNumberSpec)) fnExactSectionNumberUptoCard

/-- THE SECOND FORM's CARD OF 'laws.FnExactFindSection'. -/
def fnExactFindSectionUptoCard : Claim7 := { stood := { row := fnExactFindSectionUptoRow, standIns := [], harness := (true, "18ab12fdd1be9e5bd6e08626b15dd0fa41854a8d4a5f63187d0687e545c2f5bd"), looks := false }, kinds := [], alts := [], laidByText := true, laidKinds := [.data, .data, .data], laidTests := true, laidLooks := .later }
def FnExactFindSectionUptoCardSaid : Prop := Claim7.holds Tryd.pinned (.plain (OpenSpec.upto fnExactFindSectionSpec)) fnExactFindSectionUptoCard

/-- THE SECOND FORM's CARD OF 'laws.FnExactDocumentText'. -/
def fnExactDocumentTextUptoCard : Claim7 := { stood := { row := fnExactDocumentTextUptoRow, standIns := [], harness := (true, "18ab12fdd1be9e5bd6e08626b15dd0fa41854a8d4a5f63187d0687e545c2f5bd"), looks := false }, kinds := [], alts := [], laidByText := true, laidKinds := [.data, .data, .data], laidTests := true, laidLooks := .later }
def FnExactDocumentTextUptoCardSaid : Prop := Claim7.holds Tryd.pinned (.plain (OpenSpec.upto fnExactDocumentTextSpec)) fnExactDocumentTextUptoCard

/-- THE SECOND FORM's CARD OF 'laws.FnExactParseDocument'. -/
def fnExactParseDocumentUptoCard : Claim7 := { stood := { row := fnExactParseDocumentUptoRow, standIns := [], harness := (true, "18ab12fdd1be9e5bd6e08626b15dd0fa41854a8d4a5f63187d0687e545c2f5bd"), looks := false }, kinds := [], alts := [], laidByText := true, laidKinds := [.data, .data, .data], laidTests := true, laidLooks := .later }
def FnExactParseDocumentUptoCardSaid : Prop := Claim7.holds Tryd.pinned (.plain (OpenSpec.upto fnExactParseDocumentSpec)) fnExactParseDocumentUptoCard
end Rows
end Go.Proofs.YtmpolpeomabcfaaDoor
