/-
  No cell of these rows narrows 'for every input' (looked for: loops, veiled, ifaces, maps, wideKeys, modest, calm, conditions, laid).
  DERIVED. THE GIVEN ROWS OF THIS SEAT. 6 by the template 'for every input the law returns true; each argument reads behind the call as it read before'; 0 by the template 'total and deterministic' (their statements: YtmbffcblhhippaaTotals.lean).
  GIVEN WITH THE SEED: the statements are not yours to turn. If you find one false, say at which input.
  Laid BY PROGRAM, IN A SANDBOX (cutbox-rows.mjs): the forced cells as the released guide's own fill.sh prints them over the translation cf9d2bd4bdaec3d5… (all of the seat's roots in one cut). By AI agents, Wed Nov 11 2026. No macro, syntax, notation, axiom, sorry.
-/
import Derived.Test.YtmbffcblhhippaaChecked
import GoSem.Claim
import GoSem.ClaimJoined
import GoSem.ClaimMapViews
import Derived.JoinedTies
import Derived.KernelRfl
namespace Go.Proofs.Ytmbffcblhhippaa
/- THE CELL 'sum', in the pinned program and in every row, IS THE sha256 OF THE DUMP (.gsa) THAT YtmbffcblhhippaaProg.lean LOADS. Nothing in Lean hashes anything: it is a label: what it is worth is what the hold of that sum in a sandbox is worth. -/
noncomputable def Try.pinned : Pinned := { name := "ytmbffcblhhippaa", sum := "cf9d2bd4bdaec3d5e940f5e77666cef01d68039f994a17975dd21aee3afea3b3", checked := Try.checked }
namespace Rows
def none {H : Type} : Left H := { results := [], args := [] }

/-- 'laws.FnExactAskFloor': WHATEVER THE INPUT: true; the input reads as it did. -/
def fnExactAskFloorSpec : ChangeSpec := { name := "fnExactAskFloor", fn := fun _ => fun
  | [d1, d2] => { results := [.lit (.bool true)], args := [d1, d2] }
  | _ => none }
def fnExactAskFloorRow : OpenClaim := { program := "ytmbffcblhhippaa", sum := "cf9d2bd4bdaec3d5e940f5e77666cef01d68039f994a17975dd21aee3afea3b3", func := "loop.example/g00909/laws.FnExactAskFloor", spec := "fnExactAskFloor", unfollowed := true, recurses := true, apart := false }
def FnExactAskFloorSaid : Prop := fnExactAskFloorRow.holds Try.pinned (OpenSpec.ofChange fnExactAskFloorSpec)

/-- ITS FALSE NEIGHBOUR: 'it returns false'. Refute it at one input. -/
def fnExactAskFloorWrong : ChangeSpec := { name := "fnExactAskFloor", fn := fun _ => fun
  | [d1, d2] => { results := [.lit (.bool false)], args := [d1, d2] }
  | _ => none }
def FnExactAskFloorWrongFalsely : Prop := fnExactAskFloorRow.holds Try.pinned (OpenSpec.ofChange fnExactAskFloorWrong)

/-- 'laws.FnExactNextSpeaker': WHATEVER THE INPUT: true; the input reads as it did. -/
def fnExactNextSpeakerSpec : ChangeSpec := { name := "fnExactNextSpeaker", fn := fun _ => fun
  | [d] => { results := [.lit (.bool true)], args := [d] }
  | _ => none }
def fnExactNextSpeakerRow : OpenClaim := { program := "ytmbffcblhhippaa", sum := "cf9d2bd4bdaec3d5e940f5e77666cef01d68039f994a17975dd21aee3afea3b3", func := "loop.example/g00909/laws.FnExactNextSpeaker", spec := "fnExactNextSpeaker", unfollowed := true, recurses := true, apart := false }
def FnExactNextSpeakerSaid : Prop := fnExactNextSpeakerRow.holds Try.pinned (OpenSpec.ofChange fnExactNextSpeakerSpec)

/-- ITS FALSE NEIGHBOUR: 'it returns false'. Refute it at one input. -/
def fnExactNextSpeakerWrong : ChangeSpec := { name := "fnExactNextSpeaker", fn := fun _ => fun
  | [d] => { results := [.lit (.bool false)], args := [d] }
  | _ => none }
def FnExactNextSpeakerWrongFalsely : Prop := fnExactNextSpeakerRow.holds Try.pinned (OpenSpec.ofChange fnExactNextSpeakerWrong)

/-- 'laws.FnExactSpeakFor': WHATEVER THE INPUT: true; the input reads as it did. -/
def fnExactSpeakForSpec : ChangeSpec := { name := "fnExactSpeakFor", fn := fun _ => fun
  | [d1, d2] => { results := [.lit (.bool true)], args := [d1, d2] }
  | _ => none }
def fnExactSpeakForRow : OpenClaim := { program := "ytmbffcblhhippaa", sum := "cf9d2bd4bdaec3d5e940f5e77666cef01d68039f994a17975dd21aee3afea3b3", func := "loop.example/g00909/laws.FnExactSpeakFor", spec := "fnExactSpeakFor", inPlace := ["slices.overlaps[loop.example/g00909/impl.Share]"], unfollowed := true, recurses := true, apart := false }
def FnExactSpeakForSaid : Prop := fnExactSpeakForRow.holds Try.pinned (OpenSpec.ofChange fnExactSpeakForSpec)

/-- ITS FALSE NEIGHBOUR: 'it returns false'. Refute it at one input. -/
def fnExactSpeakForWrong : ChangeSpec := { name := "fnExactSpeakFor", fn := fun _ => fun
  | [d1, d2] => { results := [.lit (.bool false)], args := [d1, d2] }
  | _ => none }
def FnExactSpeakForWrongFalsely : Prop := fnExactSpeakForRow.holds Try.pinned (OpenSpec.ofChange fnExactSpeakForWrong)

/-- 'laws.FnExactYieldFloor': WHATEVER THE INPUT: true; the input reads as it did. -/
def fnExactYieldFloorSpec : ChangeSpec := { name := "fnExactYieldFloor", fn := fun _ => fun
  | [d] => { results := [.lit (.bool true)], args := [d] }
  | _ => none }
def fnExactYieldFloorRow : OpenClaim := { program := "ytmbffcblhhippaa", sum := "cf9d2bd4bdaec3d5e940f5e77666cef01d68039f994a17975dd21aee3afea3b3", func := "loop.example/g00909/laws.FnExactYieldFloor", spec := "fnExactYieldFloor", inPlace := ["slices.overlaps[loop.example/g00909/impl.Share]"], unfollowed := true, recurses := true, apart := false }
def FnExactYieldFloorSaid : Prop := fnExactYieldFloorRow.holds Try.pinned (OpenSpec.ofChange fnExactYieldFloorSpec)

/-- ITS FALSE NEIGHBOUR: 'it returns false'. Refute it at one input. -/
def fnExactYieldFloorWrong : ChangeSpec := { name := "fnExactYieldFloor", fn := fun _ => fun
  | [d] => { results := [.lit (.bool false)], args := [d] }
  | _ => none }
def FnExactYieldFloorWrongFalsely : Prop := fnExactYieldFloorRow.holds Try.pinned (OpenSpec.ofChange fnExactYieldFloorWrong)

/-- 'laws.FnExactLeaveWaiting': WHATEVER THE INPUT: true; the input reads as it did. -/
def fnExactLeaveWaitingSpec : ChangeSpec := { name := "fnExactLeaveWaiting", fn := fun _ => fun
  | [d1, d2] => { results := [.lit (.bool true)], args := [d1, d2] }
  | _ => none }
def fnExactLeaveWaitingRow : OpenClaim := { program := "ytmbffcblhhippaa", sum := "cf9d2bd4bdaec3d5e940f5e77666cef01d68039f994a17975dd21aee3afea3b3", func := "loop.example/g00909/laws.FnExactLeaveWaiting", spec := "fnExactLeaveWaiting", unfollowed := true, recurses := true, apart := false }
def FnExactLeaveWaitingSaid : Prop := fnExactLeaveWaitingRow.holds Try.pinned (OpenSpec.ofChange fnExactLeaveWaitingSpec)

/-- ITS FALSE NEIGHBOUR: 'it returns false'. Refute it at one input. -/
def fnExactLeaveWaitingWrong : ChangeSpec := { name := "fnExactLeaveWaiting", fn := fun _ => fun
  | [d1, d2] => { results := [.lit (.bool false)], args := [d1, d2] }
  | _ => none }
def FnExactLeaveWaitingWrongFalsely : Prop := fnExactLeaveWaitingRow.holds Try.pinned (OpenSpec.ofChange fnExactLeaveWaitingWrong)

/-- 'laws.FnExactSpeakingOrder': WHATEVER THE INPUT: true; the input reads as it did. -/
def fnExactSpeakingOrderSpec : ChangeSpec := { name := "fnExactSpeakingOrder", fn := fun _ => fun
  | [d] => { results := [.lit (.bool true)], args := [d] }
  | _ => none }
def fnExactSpeakingOrderRow : OpenClaim := { program := "ytmbffcblhhippaa", sum := "cf9d2bd4bdaec3d5e940f5e77666cef01d68039f994a17975dd21aee3afea3b3", func := "loop.example/g00909/laws.FnExactSpeakingOrder", spec := "fnExactSpeakingOrder", unfollowed := true, recurses := true, apart := false }
def FnExactSpeakingOrderSaid : Prop := fnExactSpeakingOrderRow.holds Try.pinned (OpenSpec.ofChange fnExactSpeakingOrderSpec)

/-- ITS FALSE NEIGHBOUR: 'it returns false'. Refute it at one input. -/
def fnExactSpeakingOrderWrong : ChangeSpec := { name := "fnExactSpeakingOrder", fn := fun _ => fun
  | [d] => { results := [.lit (.bool false)], args := [d] }
  | _ => none }
def FnExactSpeakingOrderWrongFalsely : Prop := fnExactSpeakingOrderRow.holds Try.pinned (OpenSpec.ofChange fnExactSpeakingOrderWrong)

/- THE SECOND FORM. 'bulk': how many values and letters a reading holds, each counted each time it is reached (what is shared counts as often as it is met; a slice's spare places count too). A statement '..UptoSaid' is the law's where the arguments, and the package variables that the reading takes, are together of bulk at most 1048576: NARROWER than '..Said'. Prove '..Said' where nothing that the law and all that it calls make is longer than what came in: it says more and counts as full. Else prove '..UptoSaid'. A law counts once. -/
mutual
def uptoBulk {H : Type} : DataW H → Nat
  | .lit (.string bytes) => bytes.length + 1
  | .lit _ => 1
  | .nil => 1
  | .ptr d => uptoBulk d + 1
  | .slice elems spare => uptoBulkAll elems + uptoBulkAll spare + 1
  | .agg parts => uptoBulkAll parts + 1
  | .iface _ d => uptoBulk d + 1
  | .map entries => uptoBulkEntries entries + 1
  | .held _ => 1
def uptoBulkAll {H : Type} : List (DataW H) → Nat
  | [] => 0
  | d :: r => uptoBulk d + uptoBulkAll r
def uptoBulkEntries {H : Type} : List (Lit × DataW H) → Nat
  | [] => 0
  | x :: r => uptoBulkEntry x + uptoBulkEntries r
def uptoBulkEntry {H : Type} : Lit × DataW H → Nat
  | (.string bytes, d) => bytes.length + uptoBulk d + 1
  | (_, d) => uptoBulk d + 1
 end
def uptoSmall : (H : Type) → List (DataW H) → Bool := fun _ ds => decide (uptoBulkAll ds ≤ 1048576)
def OpenSpec.upto (s : _root_.Go.ChangeSpec) : _root_.Go.OpenSpec := { _root_.Go.OpenSpec.ofChange s with cond := some uptoSmall }

/-- 'laws.FnExactAskFloor', WHERE WHAT IT READS IS OF BULK AT MOST 1048576: true; the input reads as it did. -/
def fnExactAskFloorUptoRow : OpenClaim := { program := "ytmbffcblhhippaa", sum := "cf9d2bd4bdaec3d5e940f5e77666cef01d68039f994a17975dd21aee3afea3b3", func := "loop.example/g00909/laws.FnExactAskFloor", spec := "fnExactAskFloor", unfollowed := true, recurses := true, apart := false, narrowed := true }
def FnExactAskFloorUptoSaid : Prop := fnExactAskFloorUptoRow.holds Try.pinned (OpenSpec.upto fnExactAskFloorSpec)

/-- 'laws.FnExactNextSpeaker', WHERE WHAT IT READS IS OF BULK AT MOST 1048576: true; the input reads as it did. -/
def fnExactNextSpeakerUptoRow : OpenClaim := { program := "ytmbffcblhhippaa", sum := "cf9d2bd4bdaec3d5e940f5e77666cef01d68039f994a17975dd21aee3afea3b3", func := "loop.example/g00909/laws.FnExactNextSpeaker", spec := "fnExactNextSpeaker", unfollowed := true, recurses := true, apart := false, narrowed := true }
def FnExactNextSpeakerUptoSaid : Prop := fnExactNextSpeakerUptoRow.holds Try.pinned (OpenSpec.upto fnExactNextSpeakerSpec)

/-- 'laws.FnExactSpeakFor', WHERE WHAT IT READS IS OF BULK AT MOST 1048576: true; the input reads as it did. -/
def fnExactSpeakForUptoRow : OpenClaim := { program := "ytmbffcblhhippaa", sum := "cf9d2bd4bdaec3d5e940f5e77666cef01d68039f994a17975dd21aee3afea3b3", func := "loop.example/g00909/laws.FnExactSpeakFor", spec := "fnExactSpeakFor", inPlace := ["slices.overlaps[loop.example/g00909/impl.Share]"], unfollowed := true, recurses := true, apart := false, narrowed := true }
def FnExactSpeakForUptoSaid : Prop := fnExactSpeakForUptoRow.holds Try.pinned (OpenSpec.upto fnExactSpeakForSpec)

/-- 'laws.FnExactYieldFloor', WHERE WHAT IT READS IS OF BULK AT MOST 1048576: true; the input reads as it did. -/
def fnExactYieldFloorUptoRow : OpenClaim := { program := "ytmbffcblhhippaa", sum := "cf9d2bd4bdaec3d5e940f5e77666cef01d68039f994a17975dd21aee3afea3b3", func := "loop.example/g00909/laws.FnExactYieldFloor", spec := "fnExactYieldFloor", inPlace := ["slices.overlaps[loop.example/g00909/impl.Share]"], unfollowed := true, recurses := true, apart := false, narrowed := true }
def FnExactYieldFloorUptoSaid : Prop := fnExactYieldFloorUptoRow.holds Try.pinned (OpenSpec.upto fnExactYieldFloorSpec)

/-- 'laws.FnExactLeaveWaiting', WHERE WHAT IT READS IS OF BULK AT MOST 1048576: true; the input reads as it did. -/
def fnExactLeaveWaitingUptoRow : OpenClaim := { program := "ytmbffcblhhippaa", sum := "cf9d2bd4bdaec3d5e940f5e77666cef01d68039f994a17975dd21aee3afea3b3", func := "loop.example/g00909/laws.FnExactLeaveWaiting", spec := "fnExactLeaveWaiting", unfollowed := true, recurses := true, apart := false, narrowed := true }
def FnExactLeaveWaitingUptoSaid : Prop := fnExactLeaveWaitingUptoRow.holds Try.pinned (OpenSpec.upto fnExactLeaveWaitingSpec)

/-- 'laws.FnExactSpeakingOrder', WHERE WHAT IT READS IS OF BULK AT MOST 1048576: true; the input reads as it did. -/
def fnExactSpeakingOrderUptoRow : OpenClaim := { program := "ytmbffcblhhippaa", sum := "cf9d2bd4bdaec3d5e940f5e77666cef01d68039f994a17975dd21aee3afea3b3", func := "loop.example/g00909/laws.FnExactSpeakingOrder", spec := "fnExactSpeakingOrder", unfollowed := true, recurses := true, apart := false, narrowed := true }
def FnExactSpeakingOrderUptoSaid : Prop := fnExactSpeakingOrderUptoRow.holds Try.pinned (OpenSpec.upto fnExactSpeakingOrderSpec)

end Rows
end Go.Proofs.Ytmbffcblhhippaa
