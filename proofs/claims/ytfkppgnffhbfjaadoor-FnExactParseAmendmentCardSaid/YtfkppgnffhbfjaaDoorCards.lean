/-
  DERIVED. GIVEN WITH THE SEED: THE CARDS: each row of YtfkppgnffhbfjaaDoorRows.lean that lists a variable, with what it lists TIED to the program's text (the seventh form; the later family's looks); each row that meets fmt, with fmt's text TOLD by the authors' own Lean function (tested against real Go, not proved from fmt's source: count such statements apart). THE CARD IS WHAT COUNTS. Prove the row's statement (the work); the ties are given (YtfkppgnffhbfjaaDoorTie.lean); close each card by the builder's one call (the guide's Derived/Test/ToyasCard.lean, 'card_holds'). Laid BY PROGRAM, IN A SANDBOX (cutbox-door.mjs). By AI agents, Wed Nov 11 2026. No macro, syntax, notation, axiom, sorry.
-/
import Derived.Test.YtfkppgnffhbfjaaDoorRows
import GoSem.ClaimSeven
namespace Go.Proofs.YtfkppgnffhbfjaaDoor
namespace Rows

/-- THE TIED CARD OF 'laws.FnExactAmendmentLine'. -/
def fnExactAmendmentLineCard : Claim7 := { stood := { row := fnExactAmendmentLineRow, standIns := [], harness := (true, "eeecc7a1fe39065ddbe007af15b00b05924310fa1014b82ca9846e374f6ab7a4"), looks := true }, kinds := [], alts := [], laidByText := true, laidKinds := [.data, .data, .data], laidTests := true, laidLooks := .later }
def FnExactAmendmentLineCardSaid : Prop := Claim7.holds Tryd.pinned (.plain (OpenSpec.ofChange fnExactAmendmentLineSpec)) fnExactAmendmentLineCard

/-- THE TIED CARD OF 'laws.FnExactParseAmendment'. -/
def fnExactParseAmendmentCard : Claim7 := { stood := { row := fnExactParseAmendmentRow, standIns := [], harness := (true, "eeecc7a1fe39065ddbe007af15b00b05924310fa1014b82ca9846e374f6ab7a4"), looks := true }, kinds := [], alts := [], laidByText := true, laidKinds := [.data, .data, .data, .sentinel, .sentinel], laidTests := true, laidLooks := .later }
def FnExactParseAmendmentCardSaid : Prop := Claim7.holds Tryd.pinned (.plain (OpenSpec.ofChange fnExactParseAmendmentSpec)) fnExactParseAmendmentCard

/-- THE SECOND FORM's CARD OF 'laws.FnExactAmendmentLine'. -/
def fnExactAmendmentLineUptoCard : Claim7 := { stood := { row := fnExactAmendmentLineUptoRow, standIns := [], harness := (true, "eeecc7a1fe39065ddbe007af15b00b05924310fa1014b82ca9846e374f6ab7a4"), looks := true }, kinds := [], alts := [], laidByText := true, laidKinds := [.data, .data, .data], laidTests := true, laidLooks := .later }
def FnExactAmendmentLineUptoCardSaid : Prop := Claim7.holds Tryd.pinned (.plain (OpenSpec.upto fnExactAmendmentLineSpec)) fnExactAmendmentLineUptoCard

/-- THE SECOND FORM's CARD OF 'laws.FnExactParseAmendment'. -/
def fnExactParseAmendmentUptoCard : Claim7 := { stood := { row := fnExactParseAmendmentUptoRow, standIns := [], harness := (true, "eeecc7a1fe39065ddbe007af15b00b05924310fa1014b82ca9846e374f6ab7a4"), looks := true }, kinds := [], alts := [], laidByText := true, laidKinds := [.data, .data, .data, .sentinel, .sentinel], laidTests := true, laidLooks := .later }
def FnExactParseAmendmentUptoCardSaid : Prop := Claim7.holds Tryd.pinned (.plain (OpenSpec.upto fnExactParseAmendmentSpec)) fnExactParseAmendmentUptoCard
end Rows
end Go.Proofs.YtfkppgnffhbfjaaDoor
