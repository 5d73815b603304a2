/-
  No cell of these rows narrows 'for every input' (looked for: loops, veiled, ifaces, maps, wideKeys, modest, calm, conditions, laid).
  DERIVED. THE GIVEN ROWS OF THIS SEAT. 4 by the template 'for every input the law returns true; each argument reads behind the call as it read before'; 0 by the template 'total and deterministic' (their statements: YtcjknefpnopkcaaTotals.lean).
  GIVEN WITH THE SEED: the statements are not yours to turn. If you find one false, say at which input.
  Laid BY PROGRAM, IN A SANDBOX (cutbox-rows.mjs): the forced cells as the released guide's own fill.sh prints them over the translation b3cb6f0893e07206… (all of the seat's roots in one cut). By AI agents, Wed Nov 11 2026. No macro, syntax, notation, axiom, sorry.
-/
import Derived.Test.YtcjknefpnopkcaaChecked
import GoSem.Claim
import GoSem.ClaimJoined
import GoSem.ClaimMapViews
import Derived.JoinedTies
import Derived.KernelRfl
namespace Go.Proofs.Ytcjknefpnopkcaa
/- THE CELL 'sum', in the pinned program and in every row, IS THE sha256 OF THE DUMP (.gsa) THAT YtcjknefpnopkcaaProg.lean LOADS. Nothing in Lean hashes anything: it is a label: what it is worth is what the hold of that sum in a sandbox is worth. -/
noncomputable def Try.pinned : Pinned := { name := "ytcjknefpnopkcaa", sum := "b3cb6f0893e072063f9d28273f47d28f4fdd95a3f143c0a03fe184cc1f3e2daf", checked := Try.checked }
namespace Rows
def none {H : Type} : Left H := { results := [], args := [] }

/-- 'laws.FnExactShortestCycle': WHATEVER THE INPUT: true; the input reads as it did. -/
def fnExactShortestCycleSpec : ChangeSpec := { name := "fnExactShortestCycle", fn := fun _ => fun
  | [d] => { results := [.lit (.bool true)], args := [d] }
  | _ => none }
def fnExactShortestCycleRow : OpenClaim := { program := "ytcjknefpnopkcaa", sum := "b3cb6f0893e072063f9d28273f47d28f4fdd95a3f143c0a03fe184cc1f3e2daf", func := "loop.example/g00909/laws.FnExactShortestCycle", spec := "fnExactShortestCycle", recurses := true, apart := false }
def FnExactShortestCycleSaid : Prop := fnExactShortestCycleRow.holds Try.pinned (OpenSpec.ofChange fnExactShortestCycleSpec)

/-- ITS FALSE NEIGHBOUR: 'it returns false'. Refute it at one input. -/
def fnExactShortestCycleWrong : ChangeSpec := { name := "fnExactShortestCycle", fn := fun _ => fun
  | [d] => { results := [.lit (.bool false)], args := [d] }
  | _ => none }
def FnExactShortestCycleWrongFalsely : Prop := fnExactShortestCycleRow.holds Try.pinned (OpenSpec.ofChange fnExactShortestCycleWrong)

/-- 'laws.FnPrecedence': WHATEVER THE INPUT: true; the input reads as it did. -/
def fnPrecedenceSpec : ChangeSpec := { name := "fnPrecedence", fn := fun _ => fun
  | [d] => { results := [.lit (.bool true)], args := [d] }
  | _ => none }
def fnPrecedenceRow : OpenClaim := { program := "ytcjknefpnopkcaa", sum := "b3cb6f0893e072063f9d28273f47d28f4fdd95a3f143c0a03fe184cc1f3e2daf", func := "loop.example/g00909/laws.FnPrecedence", spec := "fnPrecedence", recurses := true, apart := false }
def FnPrecedenceSaid : Prop := fnPrecedenceRow.holds Try.pinned (OpenSpec.ofChange fnPrecedenceSpec)

/-- ITS FALSE NEIGHBOUR: 'it returns false'. Refute it at one input. -/
def fnPrecedenceWrong : ChangeSpec := { name := "fnPrecedence", fn := fun _ => fun
  | [d] => { results := [.lit (.bool false)], args := [d] }
  | _ => none }
def FnPrecedenceWrongFalsely : Prop := fnPrecedenceRow.holds Try.pinned (OpenSpec.ofChange fnPrecedenceWrong)

/-- 'laws.FnPairs': WHATEVER THE INPUT: true; the input reads as it did. -/
def fnPairsSpec : ChangeSpec := { name := "fnPairs", fn := fun _ => fun
  | [d] => { results := [.lit (.bool true)], args := [d] }
  | _ => none }
def fnPairsRow : OpenClaim := { program := "ytcjknefpnopkcaa", sum := "b3cb6f0893e072063f9d28273f47d28f4fdd95a3f143c0a03fe184cc1f3e2daf", func := "loop.example/g00909/laws.FnPairs", spec := "fnPairs", apart := false }
def FnPairsSaid : Prop := fnPairsRow.holds Try.pinned (OpenSpec.ofChange fnPairsSpec)

/-- ITS FALSE NEIGHBOUR: 'it returns false'. Refute it at one input. -/
def fnPairsWrong : ChangeSpec := { name := "fnPairs", fn := fun _ => fun
  | [d] => { results := [.lit (.bool false)], args := [d] }
  | _ => none }
def FnPairsWrongFalsely : Prop := fnPairsRow.holds Try.pinned (OpenSpec.ofChange fnPairsWrong)

/-- 'laws.FnAgendaMoves': WHATEVER THE INPUT: true; the input reads as it did. -/
def fnAgendaMovesSpec : ChangeSpec := { name := "fnAgendaMoves", fn := fun _ => fun
  | [d] => { results := [.lit (.bool true)], args := [d] }
  | _ => none }
def fnAgendaMovesRow : OpenClaim := { program := "ytcjknefpnopkcaa", sum := "b3cb6f0893e072063f9d28273f47d28f4fdd95a3f143c0a03fe184cc1f3e2daf", func := "loop.example/g00909/laws.FnAgendaMoves", spec := "fnAgendaMoves", inPlace := ["slices.overlaps[loop.example/g00909/impl.AgendaItem]"], unfollowed := true, recurses := true, apart := false }
def FnAgendaMovesSaid : Prop := fnAgendaMovesRow.holds Try.pinned (OpenSpec.ofChange fnAgendaMovesSpec)

/-- ITS FALSE NEIGHBOUR: 'it returns false'. Refute it at one input. -/
def fnAgendaMovesWrong : ChangeSpec := { name := "fnAgendaMoves", fn := fun _ => fun
  | [d] => { results := [.lit (.bool false)], args := [d] }
  | _ => none }
def FnAgendaMovesWrongFalsely : Prop := fnAgendaMovesRow.holds Try.pinned (OpenSpec.ofChange fnAgendaMovesWrong)

/- THE SECOND FORM. 'bulk': how many values and letters a reading holds, each counted each time it is reached (what is shared counts as often as it is met; a slice's spare places count too). A statement '..UptoSaid' is the law's where the arguments, and the package variables that the reading takes, are together of bulk at most 1048576: NARROWER than '..Said'. Prove '..Said' where nothing that the law and all that it calls make is longer than what came in: it says more and counts as full. Else prove '..UptoSaid'. A law counts once. -/
mutual
def uptoBulk {H : Type} : DataW H → Nat
  | .lit (.string bytes) => bytes.length + 1
  | .lit _ => 1
  | .nil => 1
  | .ptr d => uptoBulk d + 1
  | .slice elems spare => uptoBulkAll elems + uptoBulkAll spare + 1
  | .agg parts => uptoBulkAll parts + 1
  | .iface _ d => uptoBulk d + 1
  | .map entries => uptoBulkEntries entries + 1
  | .held _ => 1
def uptoBulkAll {H : Type} : List (DataW H) → Nat
  | [] => 0
  | d :: r => uptoBulk d + uptoBulkAll r
def uptoBulkEntries {H : Type} : List (Lit × DataW H) → Nat
  | [] => 0
  | x :: r => uptoBulkEntry x + uptoBulkEntries r
def uptoBulkEntry {H : Type} : Lit × DataW H → Nat
  | (.string bytes, d) => bytes.length + uptoBulk d + 1
  | (_, d) => uptoBulk d + 1
 end
def uptoSmall : (H : Type) → List (DataW H) → Bool := fun _ ds => decide (uptoBulkAll ds ≤ 1048576)
def OpenSpec.upto (s : _root_.Go.ChangeSpec) : _root_.Go.OpenSpec := { _root_.Go.OpenSpec.ofChange s with cond := some uptoSmall }

/-- 'laws.FnExactShortestCycle', WHERE WHAT IT READS IS OF BULK AT MOST 1048576: true; the input reads as it did. -/
def fnExactShortestCycleUptoRow : OpenClaim := { program := "ytcjknefpnopkcaa", sum := "b3cb6f0893e072063f9d28273f47d28f4fdd95a3f143c0a03fe184cc1f3e2daf", func := "loop.example/g00909/laws.FnExactShortestCycle", spec := "fnExactShortestCycle", recurses := true, apart := false, narrowed := true }
def FnExactShortestCycleUptoSaid : Prop := fnExactShortestCycleUptoRow.holds Try.pinned (OpenSpec.upto fnExactShortestCycleSpec)

/-- 'laws.FnPrecedence', WHERE WHAT IT READS IS OF BULK AT MOST 1048576: true; the input reads as it did. -/
def fnPrecedenceUptoRow : OpenClaim := { program := "ytcjknefpnopkcaa", sum := "b3cb6f0893e072063f9d28273f47d28f4fdd95a3f143c0a03fe184cc1f3e2daf", func := "loop.example/g00909/laws.FnPrecedence", spec := "fnPrecedence", recurses := true, apart := false, narrowed := true }
def FnPrecedenceUptoSaid : Prop := fnPrecedenceUptoRow.holds Try.pinned (OpenSpec.upto fnPrecedenceSpec)

/-- 'laws.FnPairs', WHERE WHAT IT READS IS OF BULK AT MOST 1048576: true; the input reads as it did. -/
def fnPairsUptoRow : OpenClaim := { program := "ytcjknefpnopkcaa", sum := "b3cb6f0893e072063f9d28273f47d28f4fdd95a3f143c0a03fe184cc1f3e2daf", func := "loop.example/g00909/laws.FnPairs", spec := "fnPairs", apart := false, narrowed := true }
def FnPairsUptoSaid : Prop := fnPairsUptoRow.holds Try.pinned (OpenSpec.upto fnPairsSpec)

/-- 'laws.FnAgendaMoves', WHERE WHAT IT READS IS OF BULK AT MOST 1048576: true; the input reads as it did. -/
def fnAgendaMovesUptoRow : OpenClaim := { program := "ytcjknefpnopkcaa", sum := "b3cb6f0893e072063f9d28273f47d28f4fdd95a3f143c0a03fe184cc1f3e2daf", func := "loop.example/g00909/laws.FnAgendaMoves", spec := "fnAgendaMoves", inPlace := ["slices.overlaps[loop.example/g00909/impl.AgendaItem]"], unfollowed := true, recurses := true, apart := false, narrowed := true }
def FnAgendaMovesUptoSaid : Prop := fnAgendaMovesUptoRow.holds Try.pinned (OpenSpec.upto fnAgendaMovesSpec)

end Rows
end Go.Proofs.Ytcjknefpnopkcaa
