/-
  No cell of these rows narrows 'for every input' (looked for: loops, veiled, ifaces, maps, wideKeys, modest, calm, conditions, laid).
  DERIVED. THE GIVEN ROWS OF THIS SEAT. 5 by the template 'for every input the law returns true; each argument reads behind the call as it read before'; 0 by the template 'total and deterministic' (their statements: YtpeccfclicaegaaTotals.lean).
  GIVEN WITH THE SEED: the statements are not yours to turn. If you find one false, say at which input.
  Laid BY PROGRAM, IN A SANDBOX (cutbox-rows.mjs): the forced cells as the released guide's own fill.sh prints them over the translation 4650c5e20cf89122… (all of the seat's roots in one cut). By AI agents, Wed Nov 11 2026. No macro, syntax, notation, axiom, sorry.
-/
import Derived.Test.YtpeccfclicaegaaChecked
import GoSem.Claim
import GoSem.ClaimJoined
import GoSem.ClaimMapViews
import Derived.JoinedTies
import Derived.KernelRfl
namespace Go.Proofs.Ytpeccfclicaegaa
/- THE CELL 'sum', in the pinned program and in every row, IS THE sha256 OF THE DUMP (.gsa) THAT YtpeccfclicaegaaProg.lean LOADS. Nothing in Lean hashes anything: it is a label: what it is worth is what the hold of that sum in a sandbox is worth. -/
noncomputable def Try.pinned : Pinned := { name := "ytpeccfclicaegaa", sum := "4650c5e20cf89122f880e4f23edb2d74a762673f6e5188046904dc857775514f", checked := Try.checked }
namespace Rows
def none {H : Type} : Left H := { results := [], args := [] }

/-- 'laws.FnAgendaMoves': WHATEVER THE INPUT: true; the input reads as it did. -/
def fnAgendaMovesSpec : ChangeSpec := { name := "fnAgendaMoves", fn := fun _ => fun
  | [d] => { results := [.lit (.bool true)], args := [d] }
  | _ => none }
def fnAgendaMovesRow : OpenClaim := { program := "ytpeccfclicaegaa", sum := "4650c5e20cf89122f880e4f23edb2d74a762673f6e5188046904dc857775514f", func := "loop.example/g00909/laws.FnAgendaMoves", spec := "fnAgendaMoves", inPlace := ["slices.overlaps[loop.example/g00909/impl.AgendaItem]"], unfollowed := true, recurses := true, apart := false }
def FnAgendaMovesSaid : Prop := fnAgendaMovesRow.holds Try.pinned (OpenSpec.ofChange fnAgendaMovesSpec)

/-- ITS FALSE NEIGHBOUR: 'it returns false'. Refute it at one input. -/
def fnAgendaMovesWrong : ChangeSpec := { name := "fnAgendaMoves", fn := fun _ => fun
  | [d] => { results := [.lit (.bool false)], args := [d] }
  | _ => none }
def FnAgendaMovesWrongFalsely : Prop := fnAgendaMovesRow.holds Try.pinned (OpenSpec.ofChange fnAgendaMovesWrong)

/-- 'laws.FnExactIsValidAgenda': WHATEVER THE INPUT: true; the input reads as it did. -/
def fnExactIsValidAgendaSpec : ChangeSpec := { name := "fnExactIsValidAgenda", fn := fun _ => fun
  | [d] => { results := [.lit (.bool true)], args := [d] }
  | _ => none }
def fnExactIsValidAgendaRow : OpenClaim := { program := "ytpeccfclicaegaa", sum := "4650c5e20cf89122f880e4f23edb2d74a762673f6e5188046904dc857775514f", func := "loop.example/g00909/laws.FnExactIsValidAgenda", spec := "fnExactIsValidAgenda", unfollowed := true, recurses := true, apart := false }
def FnExactIsValidAgendaSaid : Prop := fnExactIsValidAgendaRow.holds Try.pinned (OpenSpec.ofChange fnExactIsValidAgendaSpec)

/-- ITS FALSE NEIGHBOUR: 'it returns false'. Refute it at one input. -/
def fnExactIsValidAgendaWrong : ChangeSpec := { name := "fnExactIsValidAgenda", fn := fun _ => fun
  | [d] => { results := [.lit (.bool false)], args := [d] }
  | _ => none }
def FnExactIsValidAgendaWrongFalsely : Prop := fnExactIsValidAgendaRow.holds Try.pinned (OpenSpec.ofChange fnExactIsValidAgendaWrong)

/-- 'laws.FnExactItemTimes': WHATEVER THE INPUT: true; the input reads as it did. -/
def fnExactItemTimesSpec : ChangeSpec := { name := "fnExactItemTimes", fn := fun _ => fun
  | [d1, d2] => { results := [.lit (.bool true)], args := [d1, d2] }
  | _ => none }
def fnExactItemTimesRow : OpenClaim := { program := "ytpeccfclicaegaa", sum := "4650c5e20cf89122f880e4f23edb2d74a762673f6e5188046904dc857775514f", func := "loop.example/g00909/laws.FnExactItemTimes", spec := "fnExactItemTimes", unfollowed := true, recurses := true, apart := false }
def FnExactItemTimesSaid : Prop := fnExactItemTimesRow.holds Try.pinned (OpenSpec.ofChange fnExactItemTimesSpec)

/-- ITS FALSE NEIGHBOUR: 'it returns false'. Refute it at one input. -/
def fnExactItemTimesWrong : ChangeSpec := { name := "fnExactItemTimes", fn := fun _ => fun
  | [d1, d2] => { results := [.lit (.bool false)], args := [d1, d2] }
  | _ => none }
def FnExactItemTimesWrongFalsely : Prop := fnExactItemTimesRow.holds Try.pinned (OpenSpec.ofChange fnExactItemTimesWrong)

/-- 'laws.FnExactEndOfMeeting': WHATEVER THE INPUT: true; the input reads as it did. -/
def fnExactEndOfMeetingSpec : ChangeSpec := { name := "fnExactEndOfMeeting", fn := fun _ => fun
  | [d1, d2] => { results := [.lit (.bool true)], args := [d1, d2] }
  | _ => none }
def fnExactEndOfMeetingRow : OpenClaim := { program := "ytpeccfclicaegaa", sum := "4650c5e20cf89122f880e4f23edb2d74a762673f6e5188046904dc857775514f", func := "loop.example/g00909/laws.FnExactEndOfMeeting", spec := "fnExactEndOfMeeting", unfollowed := true, recurses := true, apart := false }
def FnExactEndOfMeetingSaid : Prop := fnExactEndOfMeetingRow.holds Try.pinned (OpenSpec.ofChange fnExactEndOfMeetingSpec)

/-- ITS FALSE NEIGHBOUR: 'it returns false'. Refute it at one input. -/
def fnExactEndOfMeetingWrong : ChangeSpec := { name := "fnExactEndOfMeeting", fn := fun _ => fun
  | [d1, d2] => { results := [.lit (.bool false)], args := [d1, d2] }
  | _ => none }
def FnExactEndOfMeetingWrongFalsely : Prop := fnExactEndOfMeetingRow.holds Try.pinned (OpenSpec.ofChange fnExactEndOfMeetingWrong)

/-- 'laws.FnExactLateItems': WHATEVER THE INPUT: true; the input reads as it did. -/
def fnExactLateItemsSpec : ChangeSpec := { name := "fnExactLateItems", fn := fun _ => fun
  | [d1, d2] => { results := [.lit (.bool true)], args := [d1, d2] }
  | _ => none }
def fnExactLateItemsRow : OpenClaim := { program := "ytpeccfclicaegaa", sum := "4650c5e20cf89122f880e4f23edb2d74a762673f6e5188046904dc857775514f", func := "loop.example/g00909/laws.FnExactLateItems", spec := "fnExactLateItems", unfollowed := true, recurses := true, apart := false }
def FnExactLateItemsSaid : Prop := fnExactLateItemsRow.holds Try.pinned (OpenSpec.ofChange fnExactLateItemsSpec)

/-- ITS FALSE NEIGHBOUR: 'it returns false'. Refute it at one input. -/
def fnExactLateItemsWrong : ChangeSpec := { name := "fnExactLateItems", fn := fun _ => fun
  | [d1, d2] => { results := [.lit (.bool false)], args := [d1, d2] }
  | _ => none }
def FnExactLateItemsWrongFalsely : Prop := fnExactLateItemsRow.holds Try.pinned (OpenSpec.ofChange fnExactLateItemsWrong)

/- THE SECOND FORM. 'bulk': how many values and letters a reading holds, each counted each time it is reached (what is shared counts as often as it is met; a slice's spare places count too). A statement '..UptoSaid' is the law's where the arguments, and the package variables that the reading takes, are together of bulk at most 1048576: NARROWER than '..Said'. Prove '..Said' where nothing that the law and all that it calls make is longer than what came in: it says more and counts as full. Else prove '..UptoSaid'. A law counts once. -/
mutual
def uptoBulk {H : Type} : DataW H → Nat
  | .lit (.string bytes) => bytes.length + 1
  | .lit _ => 1
  | .nil => 1
  | .ptr d => uptoBulk d + 1
  | .slice elems spare => uptoBulkAll elems + uptoBulkAll spare + 1
  | .agg parts => uptoBulkAll parts + 1
  | .iface _ d => uptoBulk d + 1
  | .map entries => uptoBulkEntries entries + 1
  | .held _ => 1
def uptoBulkAll {H : Type} : List (DataW H) → Nat
  | [] => 0
  | d :: r => uptoBulk d + uptoBulkAll r
def uptoBulkEntries {H : Type} : List (Lit × DataW H) → Nat
  | [] => 0
  | x :: r => uptoBulkEntry x + uptoBulkEntries r
def uptoBulkEntry {H : Type} : Lit × DataW H → Nat
  | (.string bytes, d) => bytes.length + uptoBulk d + 1
  | (_, d) => uptoBulk d + 1
 end
def uptoSmall : (H : Type) → List (DataW H) → Bool := fun _ ds => decide (uptoBulkAll ds ≤ 1048576)
def OpenSpec.upto (s : _root_.Go.ChangeSpec) : _root_.Go.OpenSpec := { _root_.Go.OpenSpec.ofChange s with cond := some uptoSmall }

/-- 'laws.FnAgendaMoves', WHERE WHAT IT READS IS OF BULK AT MOST 1048576: true; the input reads as it did. -/
def fnAgendaMovesUptoRow : OpenClaim := { program := "ytpeccfclicaegaa", sum := "4650c5e20cf89122f880e4f23edb2d74a762673f6e5188046904dc857775514f", func := "loop.example/g00909/laws.FnAgendaMoves", spec := "fnAgendaMoves", inPlace := ["slices.overlaps[loop.example/g00909/impl.AgendaItem]"], unfollowed := true, recurses := true, apart := false, narrowed := true }
def FnAgendaMovesUptoSaid : Prop := fnAgendaMovesUptoRow.holds Try.pinned (OpenSpec.upto fnAgendaMovesSpec)

/-- 'laws.FnExactIsValidAgenda', WHERE WHAT IT READS IS OF BULK AT MOST 1048576: true; the input reads as it did. -/
def fnExactIsValidAgendaUptoRow : OpenClaim := { program := "ytpeccfclicaegaa", sum := "4650c5e20cf89122f880e4f23edb2d74a762673f6e5188046904dc857775514f", func := "loop.example/g00909/laws.FnExactIsValidAgenda", spec := "fnExactIsValidAgenda", unfollowed := true, recurses := true, apart := false, narrowed := true }
def FnExactIsValidAgendaUptoSaid : Prop := fnExactIsValidAgendaUptoRow.holds Try.pinned (OpenSpec.upto fnExactIsValidAgendaSpec)

/-- 'laws.FnExactItemTimes', WHERE WHAT IT READS IS OF BULK AT MOST 1048576: true; the input reads as it did. -/
def fnExactItemTimesUptoRow : OpenClaim := { program := "ytpeccfclicaegaa", sum := "4650c5e20cf89122f880e4f23edb2d74a762673f6e5188046904dc857775514f", func := "loop.example/g00909/laws.FnExactItemTimes", spec := "fnExactItemTimes", unfollowed := true, recurses := true, apart := false, narrowed := true }
def FnExactItemTimesUptoSaid : Prop := fnExactItemTimesUptoRow.holds Try.pinned (OpenSpec.upto fnExactItemTimesSpec)

/-- 'laws.FnExactEndOfMeeting', WHERE WHAT IT READS IS OF BULK AT MOST 1048576: true; the input reads as it did. -/
def fnExactEndOfMeetingUptoRow : OpenClaim := { program := "ytpeccfclicaegaa", sum := "4650c5e20cf89122f880e4f23edb2d74a762673f6e5188046904dc857775514f", func := "loop.example/g00909/laws.FnExactEndOfMeeting", spec := "fnExactEndOfMeeting", unfollowed := true, recurses := true, apart := false, narrowed := true }
def FnExactEndOfMeetingUptoSaid : Prop := fnExactEndOfMeetingUptoRow.holds Try.pinned (OpenSpec.upto fnExactEndOfMeetingSpec)

/-- 'laws.FnExactLateItems', WHERE WHAT IT READS IS OF BULK AT MOST 1048576: true; the input reads as it did. -/
def fnExactLateItemsUptoRow : OpenClaim := { program := "ytpeccfclicaegaa", sum := "4650c5e20cf89122f880e4f23edb2d74a762673f6e5188046904dc857775514f", func := "loop.example/g00909/laws.FnExactLateItems", spec := "fnExactLateItems", unfollowed := true, recurses := true, apart := false, narrowed := true }
def FnExactLateItemsUptoSaid : Prop := fnExactLateItemsUptoRow.holds Try.pinned (OpenSpec.upto fnExactLateItemsSpec)

end Rows
end Go.Proofs.Ytpeccfclicaegaa
