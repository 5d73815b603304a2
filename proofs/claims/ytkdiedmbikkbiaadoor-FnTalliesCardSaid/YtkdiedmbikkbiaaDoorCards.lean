/-
  DERIVED. GIVEN WITH THE SEED: THE CARDS: each row of YtkdiedmbikkbiaaDoorRows.lean that lists a variable, with what it lists TIED to the program's text (the seventh form; the later family's looks); each row that meets fmt, with fmt's text TOLD by the authors' own Lean function (tested against real Go, not proved from fmt's source: count such statements apart). THE CARD IS WHAT COUNTS. Prove the row's statement (the work); the ties are given (YtkdiedmbikkbiaaDoorTie.lean); close each card by the builder's one call (the guide's Derived/Test/ToyasCard.lean, 'card_holds'). Laid BY PROGRAM, IN A SANDBOX (cutbox-door.mjs). By AI agents, Wed Nov 11 2026. No macro, syntax, notation, axiom, sorry.
-/
import Derived.Test.YtkdiedmbikkbiaaDoorRows
import GoSem.ClaimSeven
namespace Go.Proofs.YtkdiedmbikkbiaaDoor
namespace Rows

/-- THE TIED CARD OF 'laws.FnTallies'. -/
def fnTalliesCard : Claim7 := { stood := { row := fnTalliesRow, standIns := [], harness := (true, "bece3eec5905290eaedf897e4f709b885448402d203bb71a1a2c1257ff14b565"), looks := true }, kinds := [], alts := [], laidByText := true, laidKinds := [.data, .data, .data, .sentinel, .sentinel], laidTests := true, laidLooks := .later }
def FnTalliesCardSaid : Prop := Claim7.holds Tryd.pinned (.plain (OpenSpec.ofChange fnTalliesSpec)) fnTalliesCard

/-- THE TIED CARD OF 'laws.FnExactTallyText'. -/
def fnExactTallyTextCard : Claim7 := { stood := { row := fnExactTallyTextRow, standIns := [], harness := (true, "bece3eec5905290eaedf897e4f709b885448402d203bb71a1a2c1257ff14b565"), looks := true }, kinds := [], alts := [], laidByText := true, laidKinds := [.data, .data, .data], laidTests := true, laidLooks := .later }
def FnExactTallyTextCardSaid : Prop := Claim7.holds Tryd.pinned (.plain (OpenSpec.ofChange fnExactTallyTextSpec)) fnExactTallyTextCard

/-- THE TIED CARD OF 'laws.FnExactParseTally'. -/
def fnExactParseTallyCard : Claim7 := { stood := { row := fnExactParseTallyRow, standIns := [], harness := (true, "bece3eec5905290eaedf897e4f709b885448402d203bb71a1a2c1257ff14b565"), looks := true }, kinds := [], alts := [], laidByText := true, laidKinds := [.data, .data, .data, .sentinel, .sentinel], laidTests := true, laidLooks := .later }
def FnExactParseTallyCardSaid : Prop := Claim7.holds Tryd.pinned (.plain (OpenSpec.ofChange fnExactParseTallySpec)) fnExactParseTallyCard

/-- THE SECOND FORM's CARD OF 'laws.FnTallies'. -/
def fnTalliesUptoCard : Claim7 := { stood := { row := fnTalliesUptoRow, standIns := [], harness := (true, "bece3eec5905290eaedf897e4f709b885448402d203bb71a1a2c1257ff14b565"), looks := true }, kinds := [], alts := [], laidByText := true, laidKinds := [.data, .data, .data, .sentinel, .sentinel], laidTests := true, laidLooks := .later }
def FnTalliesUptoCardSaid : Prop := Claim7.holds Tryd.pinned (.plain (OpenSpec.upto fnTalliesSpec)) fnTalliesUptoCard

/-- THE SECOND FORM's CARD OF 'laws.FnExactTallyText'. -/
def fnExactTallyTextUptoCard : Claim7 := { stood := { row := fnExactTallyTextUptoRow, standIns := [], harness := (true, "bece3eec5905290eaedf897e4f709b885448402d203bb71a1a2c1257ff14b565"), looks := true }, kinds := [], alts := [], laidByText := true, laidKinds := [.data, .data, .data], laidTests := true, laidLooks := .later }
def FnExactTallyTextUptoCardSaid : Prop := Claim7.holds Tryd.pinned (.plain (OpenSpec.upto fnExactTallyTextSpec)) fnExactTallyTextUptoCard

/-- THE SECOND FORM's CARD OF 'laws.FnExactParseTally'. -/
def fnExactParseTallyUptoCard : Claim7 := { stood := { row := fnExactParseTallyUptoRow, standIns := [], harness := (true, "bece3eec5905290eaedf897e4f709b885448402d203bb71a1a2c1257ff14b565"), looks := true }, kinds := [], alts := [], laidByText := true, laidKinds := [.data, .data, .data, .sentinel, .sentinel], laidTests := true, laidLooks := .later }
def FnExactParseTallyUptoCardSaid : Prop := Claim7.holds Tryd.pinned (.plain (OpenSpec.upto fnExactParseTallySpec)) fnExactParseTallyUptoCard
end Rows
end Go.Proofs.YtkdiedmbikkbiaaDoor
