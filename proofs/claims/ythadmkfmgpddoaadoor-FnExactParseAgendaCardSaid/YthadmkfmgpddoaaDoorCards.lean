/-
  DERIVED. GIVEN WITH THE SEED: THE CARDS: each row of YthadmkfmgpddoaaDoorRows.lean that lists a variable, with what it lists TIED to the program's text (the seventh form; the later family's looks); each row that meets fmt, with fmt's text TOLD by the authors' own Lean function (tested against real Go, not proved from fmt's source: count such statements apart). THE CARD IS WHAT COUNTS. Prove the row's statement (the work); the ties are given (YthadmkfmgpddoaaDoorTie.lean); close each card by the builder's one call (the guide's Derived/Test/ToyasCard.lean, 'card_holds'). Laid BY PROGRAM, IN A SANDBOX (cutbox-door.mjs). By AI agents, Wed Nov 11 2026. No macro, syntax, notation, axiom, sorry.
-/
import Derived.Test.YthadmkfmgpddoaaDoorRows
import GoSem.ClaimSeven
namespace Go.Proofs.YthadmkfmgpddoaaDoor
namespace Rows

/-- THE TIED CARD OF 'laws.FnExactParseAgenda'. -/
def fnExactParseAgendaCard : Claim7 := { stood := { row := fnExactParseAgendaRow, standIns := [], harness := (true, "4df9aa1a5e232487be08e25f36e841057f2490c8732a62c800b24a0bec46a721"), looks := true }, kinds := [], alts := [], laidByText := true, laidKinds := [.data, .data, .data, .sentinel, .sentinel], laidTests := true, laidLooks := .later }
def FnExactParseAgendaCardSaid : Prop := Claim7.holds Tryd.pinned (.plain (OpenSpec.ofChange fnExactParseAgendaSpec)) fnExactParseAgendaCard

/-- THE SECOND FORM's CARD OF 'laws.FnExactParseAgenda'. -/
def fnExactParseAgendaUptoCard : Claim7 := { stood := { row := fnExactParseAgendaUptoRow, standIns := [], harness := (true, "4df9aa1a5e232487be08e25f36e841057f2490c8732a62c800b24a0bec46a721"), looks := true }, kinds := [], alts := [], laidByText := true, laidKinds := [.data, .data, .data, .sentinel, .sentinel], laidTests := true, laidLooks := .later }
def FnExactParseAgendaUptoCardSaid : Prop := Claim7.holds Tryd.pinned (.plain (OpenSpec.upto fnExactParseAgendaSpec)) fnExactParseAgendaUptoCard
end Rows
end Go.Proofs.YthadmkfmgpddoaaDoor
