/-
  No cell of these rows narrows 'for every input' (looked for: loops, veiled, ifaces, maps, wideKeys, modest, calm, conditions, laid).
  DERIVED. THE GIVEN ROWS OF THIS SEAT. 4 by the template 'for every input the law returns true; each argument reads behind the call as it read before'; 0 by the template 'total and deterministic' (their statements: YtpeccfclicaegabTotals.lean).
  GIVEN WITH THE SEED: the statements are not yours to turn. If you find one false, say at which input.
  Laid BY PROGRAM, IN A SANDBOX (cutbox-rows.mjs): the forced cells as the released guide's own fill.sh prints them over the translation be943ed15fe44bee… (all of the seat's roots in one cut). By AI agents, Wed Nov 11 2026. No macro, syntax, notation, axiom, sorry.
-/
import Derived.Test.YtpeccfclicaegabChecked
import GoSem.Claim
import GoSem.ClaimJoined
import GoSem.ClaimMapViews
import Derived.JoinedTies
import Derived.KernelRfl
namespace Go.Proofs.Ytpeccfclicaegab
/- THE CELL 'sum', in the pinned program and in every row, IS THE sha256 OF THE DUMP (.gsa) THAT YtpeccfclicaegabProg.lean LOADS. Nothing in Lean hashes anything: it is a label: what it is worth is what the hold of that sum in a sandbox is worth. -/
noncomputable def Try.pinned : Pinned := { name := "ytpeccfclicaegab", sum := "be943ed15fe44beeae40a3fe382ed079639c949839a479f451bc75c45a96b86e", checked := Try.checked }
namespace Rows
def none {H : Type} : Left H := { results := [], args := [] }

/-- 'laws.FnExactIdleMinutes': WHATEVER THE INPUT: true; the input reads as it did. -/
def fnExactIdleMinutesSpec : ChangeSpec := { name := "fnExactIdleMinutes", fn := fun _ => fun
  | [d1, d2] => { results := [.lit (.bool true)], args := [d1, d2] }
  | _ => none }
def fnExactIdleMinutesRow : OpenClaim := { program := "ytpeccfclicaegab", sum := "be943ed15fe44beeae40a3fe382ed079639c949839a479f451bc75c45a96b86e", func := "loop.example/g00909/laws.FnExactIdleMinutes", spec := "fnExactIdleMinutes", unfollowed := true, recurses := true, apart := false }
def FnExactIdleMinutesSaid : Prop := fnExactIdleMinutesRow.holds Try.pinned (OpenSpec.ofChange fnExactIdleMinutesSpec)

/-- ITS FALSE NEIGHBOUR: 'it returns false'. Refute it at one input. -/
def fnExactIdleMinutesWrong : ChangeSpec := { name := "fnExactIdleMinutes", fn := fun _ => fun
  | [d1, d2] => { results := [.lit (.bool false)], args := [d1, d2] }
  | _ => none }
def FnExactIdleMinutesWrongFalsely : Prop := fnExactIdleMinutesRow.holds Try.pinned (OpenSpec.ofChange fnExactIdleMinutesWrong)

/-- 'laws.FnExactMoveItem': WHATEVER THE INPUT: true; the input reads as it did. -/
def fnExactMoveItemSpec : ChangeSpec := { name := "fnExactMoveItem", fn := fun _ => fun
  | [d1, d2, d3] => { results := [.lit (.bool true)], args := [d1, d2, d3] }
  | _ => none }
def fnExactMoveItemRow : OpenClaim := { program := "ytpeccfclicaegab", sum := "be943ed15fe44beeae40a3fe382ed079639c949839a479f451bc75c45a96b86e", func := "loop.example/g00909/laws.FnExactMoveItem", spec := "fnExactMoveItem", inPlace := ["slices.overlaps[loop.example/g00909/impl.AgendaItem]"], unfollowed := true, recurses := true, apart := false }
def FnExactMoveItemSaid : Prop := fnExactMoveItemRow.holds Try.pinned (OpenSpec.ofChange fnExactMoveItemSpec)

/-- ITS FALSE NEIGHBOUR: 'it returns false'. Refute it at one input. -/
def fnExactMoveItemWrong : ChangeSpec := { name := "fnExactMoveItem", fn := fun _ => fun
  | [d1, d2, d3] => { results := [.lit (.bool false)], args := [d1, d2, d3] }
  | _ => none }
def FnExactMoveItemWrongFalsely : Prop := fnExactMoveItemRow.holds Try.pinned (OpenSpec.ofChange fnExactMoveItemWrong)

/-- 'laws.FnExactItemsUntil': WHATEVER THE INPUT: true; the input reads as it did. -/
def fnExactItemsUntilSpec : ChangeSpec := { name := "fnExactItemsUntil", fn := fun _ => fun
  | [d1, d2, d3] => { results := [.lit (.bool true)], args := [d1, d2, d3] }
  | _ => none }
def fnExactItemsUntilRow : OpenClaim := { program := "ytpeccfclicaegab", sum := "be943ed15fe44beeae40a3fe382ed079639c949839a479f451bc75c45a96b86e", func := "loop.example/g00909/laws.FnExactItemsUntil", spec := "fnExactItemsUntil", unfollowed := true, recurses := true, apart := false }
def FnExactItemsUntilSaid : Prop := fnExactItemsUntilRow.holds Try.pinned (OpenSpec.ofChange fnExactItemsUntilSpec)

/-- ITS FALSE NEIGHBOUR: 'it returns false'. Refute it at one input. -/
def fnExactItemsUntilWrong : ChangeSpec := { name := "fnExactItemsUntil", fn := fun _ => fun
  | [d1, d2, d3] => { results := [.lit (.bool false)], args := [d1, d2, d3] }
  | _ => none }
def FnExactItemsUntilWrongFalsely : Prop := fnExactItemsUntilRow.holds Try.pinned (OpenSpec.ofChange fnExactItemsUntilWrong)

/-- 'laws.FnExactOrderItems': WHATEVER THE INPUT: true; the input reads as it did. -/
def fnExactOrderItemsSpec : ChangeSpec := { name := "fnExactOrderItems", fn := fun _ => fun
  | [d] => { results := [.lit (.bool true)], args := [d] }
  | _ => none }
def fnExactOrderItemsRow : OpenClaim := { program := "ytpeccfclicaegab", sum := "be943ed15fe44beeae40a3fe382ed079639c949839a479f451bc75c45a96b86e", func := "loop.example/g00909/laws.FnExactOrderItems", spec := "fnExactOrderItems", unfollowed := true, recurses := true, apart := false }
def FnExactOrderItemsSaid : Prop := fnExactOrderItemsRow.holds Try.pinned (OpenSpec.ofChange fnExactOrderItemsSpec)

/-- ITS FALSE NEIGHBOUR: 'it returns false'. Refute it at one input. -/
def fnExactOrderItemsWrong : ChangeSpec := { name := "fnExactOrderItems", fn := fun _ => fun
  | [d] => { results := [.lit (.bool false)], args := [d] }
  | _ => none }
def FnExactOrderItemsWrongFalsely : Prop := fnExactOrderItemsRow.holds Try.pinned (OpenSpec.ofChange fnExactOrderItemsWrong)

/- THE SECOND FORM. 'bulk': how many values and letters a reading holds, each counted each time it is reached (what is shared counts as often as it is met; a slice's spare places count too). A statement '..UptoSaid' is the law's where the arguments, and the package variables that the reading takes, are together of bulk at most 1048576: NARROWER than '..Said'. Prove '..Said' where nothing that the law and all that it calls make is longer than what came in: it says more and counts as full. Else prove '..UptoSaid'. A law counts once. -/
mutual
def uptoBulk {H : Type} : DataW H → Nat
  | .lit (.string bytes) => bytes.length + 1
  | .lit _ => 1
  | .nil => 1
  | .ptr d => uptoBulk d + 1
  | .slice elems spare => uptoBulkAll elems + uptoBulkAll spare + 1
  | .agg parts => uptoBulkAll parts + 1
  | .iface _ d => uptoBulk d + 1
  | .map entries => uptoBulkEntries entries + 1
  | .held _ => 1
def uptoBulkAll {H : Type} : List (DataW H) → Nat
  | [] => 0
  | d :: r => uptoBulk d + uptoBulkAll r
def uptoBulkEntries {H : Type} : List (Lit × DataW H) → Nat
  | [] => 0
  | x :: r => uptoBulkEntry x + uptoBulkEntries r
def uptoBulkEntry {H : Type} : Lit × DataW H → Nat
  | (.string bytes, d) => bytes.length + uptoBulk d + 1
  | (_, d) => uptoBulk d + 1
 end
def uptoSmall : (H : Type) → List (DataW H) → Bool := fun _ ds => decide (uptoBulkAll ds ≤ 1048576)
def OpenSpec.upto (s : _root_.Go.ChangeSpec) : _root_.Go.OpenSpec := { _root_.Go.OpenSpec.ofChange s with cond := some uptoSmall }

/-- 'laws.FnExactIdleMinutes', WHERE WHAT IT READS IS OF BULK AT MOST 1048576: true; the input reads as it did. -/
def fnExactIdleMinutesUptoRow : OpenClaim := { program := "ytpeccfclicaegab", sum := "be943ed15fe44beeae40a3fe382ed079639c949839a479f451bc75c45a96b86e", func := "loop.example/g00909/laws.FnExactIdleMinutes", spec := "fnExactIdleMinutes", unfollowed := true, recurses := true, apart := false, narrowed := true }
def FnExactIdleMinutesUptoSaid : Prop := fnExactIdleMinutesUptoRow.holds Try.pinned (OpenSpec.upto fnExactIdleMinutesSpec)

/-- 'laws.FnExactMoveItem', WHERE WHAT IT READS IS OF BULK AT MOST 1048576: true; the input reads as it did. -/
def fnExactMoveItemUptoRow : OpenClaim := { program := "ytpeccfclicaegab", sum := "be943ed15fe44beeae40a3fe382ed079639c949839a479f451bc75c45a96b86e", func := "loop.example/g00909/laws.FnExactMoveItem", spec := "fnExactMoveItem", inPlace := ["slices.overlaps[loop.example/g00909/impl.AgendaItem]"], unfollowed := true, recurses := true, apart := false, narrowed := true }
def FnExactMoveItemUptoSaid : Prop := fnExactMoveItemUptoRow.holds Try.pinned (OpenSpec.upto fnExactMoveItemSpec)

/-- 'laws.FnExactItemsUntil', WHERE WHAT IT READS IS OF BULK AT MOST 1048576: true; the input reads as it did. -/
def fnExactItemsUntilUptoRow : OpenClaim := { program := "ytpeccfclicaegab", sum := "be943ed15fe44beeae40a3fe382ed079639c949839a479f451bc75c45a96b86e", func := "loop.example/g00909/laws.FnExactItemsUntil", spec := "fnExactItemsUntil", unfollowed := true, recurses := true, apart := false, narrowed := true }
def FnExactItemsUntilUptoSaid : Prop := fnExactItemsUntilUptoRow.holds Try.pinned (OpenSpec.upto fnExactItemsUntilSpec)

/-- 'laws.FnExactOrderItems', WHERE WHAT IT READS IS OF BULK AT MOST 1048576: true; the input reads as it did. -/
def fnExactOrderItemsUptoRow : OpenClaim := { program := "ytpeccfclicaegab", sum := "be943ed15fe44beeae40a3fe382ed079639c949839a479f451bc75c45a96b86e", func := "loop.example/g00909/laws.FnExactOrderItems", spec := "fnExactOrderItems", unfollowed := true, recurses := true, apart := false, narrowed := true }
def FnExactOrderItemsUptoSaid : Prop := fnExactOrderItemsUptoRow.holds Try.pinned (OpenSpec.upto fnExactOrderItemsSpec)

end Rows
end Go.Proofs.Ytpeccfclicaegab
