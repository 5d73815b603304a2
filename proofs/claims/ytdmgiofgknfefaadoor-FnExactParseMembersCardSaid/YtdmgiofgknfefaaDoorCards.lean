/-
  DERIVED. GIVEN WITH THE SEED: THE CARDS: each row of YtdmgiofgknfefaaDoorRows.lean that lists a variable, with what it lists TIED to the program's text (the seventh form; the later family's looks); each row that meets fmt, with fmt's text TOLD by the authors' own Lean function (tested against real Go, not proved from fmt's source: count such statements apart). THE CARD IS WHAT COUNTS. Prove the row's statement (the work); the ties are given (YtdmgiofgknfefaaDoorTie.lean); close each card by the builder's one call (the guide's Derived/Test/ToyasCard.lean, 'card_holds'). Laid BY PROGRAM, IN A SANDBOX (cutbox-door.mjs). By AI agents, Wed Nov 11 2026. No macro, syntax, notation, axiom, sorry.
-/
import Derived.Test.YtdmgiofgknfefaaDoorRows
import GoSem.ClaimSeven
namespace Go.Proofs.YtdmgiofgknfefaaDoor
namespace Rows

/-- THE TIED CARD OF 'laws.FnMembers'. -/
def fnMembersCard : Claim7 := { stood := { row := fnMembersRow, standIns := [], harness := (true, "8efe4e519ed64b6e1e45ee7357371f924a78e29f22ee045c36e5d9d27e774453"), looks := true }, kinds := [], alts := [], laidByText := true, laidKinds := [.data, .data, .data, .sentinel, .sentinel], laidTests := true, laidLooks := .later }
def FnMembersCardSaid : Prop := Claim7.holds Tryd.pinned (.plain (OpenSpec.ofChange fnMembersSpec)) fnMembersCard

/-- THE TIED CARD OF 'laws.FnExactParseRules'. -/
def fnExactParseRulesCard : Claim7 := { stood := { row := fnExactParseRulesRow, standIns := [], harness := (true, "8efe4e519ed64b6e1e45ee7357371f924a78e29f22ee045c36e5d9d27e774453"), looks := true }, kinds := [], alts := [], laidByText := true, laidKinds := [.data, .data, .data, .sentinel, .sentinel], laidTests := true, laidLooks := .later }
def FnExactParseRulesCardSaid : Prop := Claim7.holds Tryd.pinned (.plain (OpenSpec.ofChange fnExactParseRulesSpec)) fnExactParseRulesCard

/-- THE TIED CARD OF 'laws.FnExactParseMembers'. -/
def fnExactParseMembersCard : Claim7 := { stood := { row := fnExactParseMembersRow, standIns := [], harness := (true, "8efe4e519ed64b6e1e45ee7357371f924a78e29f22ee045c36e5d9d27e774453"), looks := true }, kinds := [], alts := [], laidByText := true, laidKinds := [.data, .data, .data, .sentinel, .sentinel], laidTests := true, laidLooks := .later }
def FnExactParseMembersCardSaid : Prop := Claim7.holds Tryd.pinned (.plain (OpenSpec.ofChange fnExactParseMembersSpec)) fnExactParseMembersCard

/-- THE TIED CARD OF 'laws.FnExactParseAgenda'. -/
def fnExactParseAgendaCard : Claim7 := { stood := { row := fnExactParseAgendaRow, standIns := [], harness := (true, "8efe4e519ed64b6e1e45ee7357371f924a78e29f22ee045c36e5d9d27e774453"), looks := true }, kinds := [], alts := [], laidByText := true, laidKinds := [.data, .data, .data, .sentinel, .sentinel], laidTests := true, laidLooks := .later }
def FnExactParseAgendaCardSaid : Prop := Claim7.holds Tryd.pinned (.plain (OpenSpec.ofChange fnExactParseAgendaSpec)) fnExactParseAgendaCard

/-- THE SECOND FORM's CARD OF 'laws.FnMembers'. -/
def fnMembersUptoCard : Claim7 := { stood := { row := fnMembersUptoRow, standIns := [], harness := (true, "8efe4e519ed64b6e1e45ee7357371f924a78e29f22ee045c36e5d9d27e774453"), looks := true }, kinds := [], alts := [], laidByText := true, laidKinds := [.data, .data, .data, .sentinel, .sentinel], laidTests := true, laidLooks := .later }
def FnMembersUptoCardSaid : Prop := Claim7.holds Tryd.pinned (.plain (OpenSpec.upto fnMembersSpec)) fnMembersUptoCard

/-- THE SECOND FORM's CARD OF 'laws.FnExactParseRules'. -/
def fnExactParseRulesUptoCard : Claim7 := { stood := { row := fnExactParseRulesUptoRow, standIns := [], harness := (true, "8efe4e519ed64b6e1e45ee7357371f924a78e29f22ee045c36e5d9d27e774453"), looks := true }, kinds := [], alts := [], laidByText := true, laidKinds := [.data, .data, .data, .sentinel, .sentinel], laidTests := true, laidLooks := .later }
def FnExactParseRulesUptoCardSaid : Prop := Claim7.holds Tryd.pinned (.plain (OpenSpec.upto fnExactParseRulesSpec)) fnExactParseRulesUptoCard

/-- THE SECOND FORM's CARD OF 'laws.FnExactParseMembers'. -/
def fnExactParseMembersUptoCard : Claim7 := { stood := { row := fnExactParseMembersUptoRow, standIns := [], harness := (true, "8efe4e519ed64b6e1e45ee7357371f924a78e29f22ee045c36e5d9d27e774453"), looks := true }, kinds := [], alts := [], laidByText := true, laidKinds := [.data, .data, .data, .sentinel, .sentinel], laidTests := true, laidLooks := .later }
def FnExactParseMembersUptoCardSaid : Prop := Claim7.holds Tryd.pinned (.plain (OpenSpec.upto fnExactParseMembersSpec)) fnExactParseMembersUptoCard

/-- THE SECOND FORM's CARD OF 'laws.FnExactParseAgenda'. -/
def fnExactParseAgendaUptoCard : Claim7 := { stood := { row := fnExactParseAgendaUptoRow, standIns := [], harness := (true, "8efe4e519ed64b6e1e45ee7357371f924a78e29f22ee045c36e5d9d27e774453"), looks := true }, kinds := [], alts := [], laidByText := true, laidKinds := [.data, .data, .data, .sentinel, .sentinel], laidTests := true, laidLooks := .later }
def FnExactParseAgendaUptoCardSaid : Prop := Claim7.holds Tryd.pinned (.plain (OpenSpec.upto fnExactParseAgendaSpec)) fnExactParseAgendaUptoCard
end Rows
end Go.Proofs.YtdmgiofgknfefaaDoor
