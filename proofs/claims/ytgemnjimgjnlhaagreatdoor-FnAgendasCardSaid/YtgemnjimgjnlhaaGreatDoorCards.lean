/-
  DERIVED. GIVEN WITH THE SEED: THE CARDS: each row of YtgemnjimgjnlhaaGreatDoorRows.lean that lists a variable, with what it lists TIED to the program's text (the seventh form; the later family's looks); each row that meets fmt, with fmt's text TOLD by the authors' own Lean function (tested against real Go, not proved from fmt's source: count such statements apart). THE CARD IS WHAT COUNTS. Prove the row's statement (the work); the ties are given (YtgemnjimgjnlhaaGreatDoorTie.lean); close each card by the builder's one call (the guide's Derived/Test/ToyasCard.lean, 'card_holds'). Laid BY PROGRAM, IN A SANDBOX (cutbox-door.mjs). By AI agents, Wed Nov 11 2026. No macro, syntax, notation, axiom, sorry.
-/
import Derived.Test.YtgemnjimgjnlhaaGreatDoorRows
import GoSem.ClaimSeven
namespace Go.Proofs.YtgemnjimgjnlhaaGreatDoor
namespace Rows

/-- THE TIED CARD OF 'laws.FnHistories'. -/
def fnHistoriesCard : Claim7 := { stood := { row := fnHistoriesRow, standIns := [], harness := (true, "1cc0ec3078d78826f9b3f0db413775a06977c18e4a0ab76d0211f6b58ed3806a"), looks := true }, kinds := [], alts := [], laidByText := true, laidKinds := [.data, .data, .data, .sentinel, .sentinel], laidTests := true, laidLooks := .later }
def FnHistoriesCardSaid : Prop := Claim7.holds Tryz.pinned (.plain (OpenSpec.ofChange fnHistoriesSpec)) fnHistoriesCard

/-- THE TIED CARD OF 'laws.FnAgendas'. -/
def fnAgendasCard : Claim7 := { stood := { row := fnAgendasRow, standIns := [], harness := (true, "1cc0ec3078d78826f9b3f0db413775a06977c18e4a0ab76d0211f6b58ed3806a"), looks := true }, kinds := [], alts := [], laidByText := true, laidKinds := [.data, .data, .data, .sentinel, .sentinel], laidTests := true, laidLooks := .later }
def FnAgendasCardSaid : Prop := Claim7.holds Tryz.pinned (.plain (OpenSpec.ofChange fnAgendasSpec)) fnAgendasCard

/-- THE SECOND FORM's CARD OF 'laws.FnHistories'. -/
def fnHistoriesUptoCard : Claim7 := { stood := { row := fnHistoriesUptoRow, standIns := [], harness := (true, "1cc0ec3078d78826f9b3f0db413775a06977c18e4a0ab76d0211f6b58ed3806a"), looks := true }, kinds := [], alts := [], laidByText := true, laidKinds := [.data, .data, .data, .sentinel, .sentinel], laidTests := true, laidLooks := .later }
def FnHistoriesUptoCardSaid : Prop := Claim7.holds Tryz.pinned (.plain (OpenSpec.upto fnHistoriesSpec)) fnHistoriesUptoCard

/-- THE SECOND FORM's CARD OF 'laws.FnAgendas'. -/
def fnAgendasUptoCard : Claim7 := { stood := { row := fnAgendasUptoRow, standIns := [], harness := (true, "1cc0ec3078d78826f9b3f0db413775a06977c18e4a0ab76d0211f6b58ed3806a"), looks := true }, kinds := [], alts := [], laidByText := true, laidKinds := [.data, .data, .data, .sentinel, .sentinel], laidTests := true, laidLooks := .later }
def FnAgendasUptoCardSaid : Prop := Claim7.holds Tryz.pinned (.plain (OpenSpec.upto fnAgendasSpec)) fnAgendasUptoCard
end Rows
end Go.Proofs.YtgemnjimgjnlhaaGreatDoor
