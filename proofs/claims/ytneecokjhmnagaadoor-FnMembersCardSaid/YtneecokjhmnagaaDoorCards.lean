/-
  DERIVED. GIVEN WITH THE SEED: THE CARDS: each row of YtneecokjhmnagaaDoorRows.lean that lists a variable, with what it lists TIED to the program's text (the seventh form; the later family's looks); each row that meets fmt, with fmt's text TOLD by the authors' own Lean function (tested against real Go, not proved from fmt's source: count such statements apart). THE CARD IS WHAT COUNTS. Prove the row's statement (the work); the ties are given (YtneecokjhmnagaaDoorTie.lean); close each card by the builder's one call (the guide's Derived/Test/ToyasCard.lean, 'card_holds'). Laid BY PROGRAM, IN A SANDBOX (cutbox-door.mjs). By AI agents, Wed Nov 11 2026. No macro, syntax, notation, axiom, sorry.
-/
import Derived.Test.YtneecokjhmnagaaDoorRows
import GoSem.ClaimSeven
namespace Go.Proofs.YtneecokjhmnagaaDoor
namespace Rows

/-- THE TIED CARD OF 'laws.FnMembers'. -/
def fnMembersCard : Claim7 := { stood := { row := fnMembersRow, standIns := [], harness := (true, "f41b86a2b43e2e9ce0b9c872729e5808b6a30f10e5e01658eed65c1eded17265"), looks := true }, kinds := [], alts := [], laidByText := true, laidKinds := [.data, .data, .data, .sentinel, .sentinel], laidTests := true, laidLooks := .later }
def FnMembersCardSaid : Prop := Claim7.holds Tryd.pinned (.plain (OpenSpec.ofChange fnMembersSpec)) fnMembersCard

/-- THE TIED CARD OF 'laws.FnExactParseAgenda'. -/
def fnExactParseAgendaCard : Claim7 := { stood := { row := fnExactParseAgendaRow, standIns := [], harness := (true, "f41b86a2b43e2e9ce0b9c872729e5808b6a30f10e5e01658eed65c1eded17265"), looks := true }, kinds := [], alts := [], laidByText := true, laidKinds := [.data, .data, .data, .sentinel, .sentinel], laidTests := true, laidLooks := .later }
def FnExactParseAgendaCardSaid : Prop := Claim7.holds Tryd.pinned (.plain (OpenSpec.ofChange fnExactParseAgendaSpec)) fnExactParseAgendaCard

/-- THE SECOND FORM's CARD OF 'laws.FnMembers'. -/
def fnMembersUptoCard : Claim7 := { stood := { row := fnMembersUptoRow, standIns := [], harness := (true, "f41b86a2b43e2e9ce0b9c872729e5808b6a30f10e5e01658eed65c1eded17265"), looks := true }, kinds := [], alts := [], laidByText := true, laidKinds := [.data, .data, .data, .sentinel, .sentinel], laidTests := true, laidLooks := .later }
def FnMembersUptoCardSaid : Prop := Claim7.holds Tryd.pinned (.plain (OpenSpec.upto fnMembersSpec)) fnMembersUptoCard

/-- THE SECOND FORM's CARD OF 'laws.FnExactParseAgenda'. -/
def fnExactParseAgendaUptoCard : Claim7 := { stood := { row := fnExactParseAgendaUptoRow, standIns := [], harness := (true, "f41b86a2b43e2e9ce0b9c872729e5808b6a30f10e5e01658eed65c1eded17265"), looks := true }, kinds := [], alts := [], laidByText := true, laidKinds := [.data, .data, .data, .sentinel, .sentinel], laidTests := true, laidLooks := .later }
def FnExactParseAgendaUptoCardSaid : Prop := Claim7.holds Tryd.pinned (.plain (OpenSpec.upto fnExactParseAgendaSpec)) fnExactParseAgendaUptoCard
end Rows
end Go.Proofs.YtneecokjhmnagaaDoor
