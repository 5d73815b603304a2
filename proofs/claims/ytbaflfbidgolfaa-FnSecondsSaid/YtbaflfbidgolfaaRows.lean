/-
  No cell of these rows narrows 'for every input' (looked for: loops, veiled, ifaces, maps, wideKeys, modest, calm, conditions, laid).
  DERIVED. THE GIVEN ROWS OF THIS SEAT. 13 by the template 'for every input the law returns true; each argument reads behind the call as it read before'; 0 by the template 'total and deterministic' (their statements: YtbaflfbidgolfaaTotals.lean).
  GIVEN WITH THE SEED: the statements are not yours to turn. If you find one false, say at which input.
  Laid BY PROGRAM, IN A SANDBOX (cutbox-rows.mjs): the forced cells as the released guide's own fill.sh prints them over the translation 324ed356a90a5207… (all of the seat's roots in one cut). By AI agents, Wed Nov 11 2026. No macro, syntax, notation, axiom, sorry.
-/
import Derived.Test.YtbaflfbidgolfaaChecked
import GoSem.Claim
import GoSem.ClaimJoined
import GoSem.ClaimMapViews
import Derived.JoinedTies
import Derived.KernelRfl
namespace Go.Proofs.Ytbaflfbidgolfaa
/- THE CELL 'sum', in the pinned program and in every row, IS THE sha256 OF THE DUMP (.gsa) THAT YtbaflfbidgolfaaProg.lean LOADS. Nothing in Lean hashes anything: it is a label: what it is worth is what the hold of that sum in a sandbox is worth. -/
noncomputable def Try.pinned : Pinned := { name := "ytbaflfbidgolfaa", sum := "324ed356a90a5207d63658bf227c8dd9b8c85601ff5ecf3eb4b974daa21ec71f", checked := Try.checked }
namespace Rows
def none {H : Type} : Left H := { results := [], args := [] }

/-- 'laws.FnExactArePending': WHATEVER THE INPUT: true; the input reads as it did. -/
def fnExactArePendingSpec : ChangeSpec := { name := "fnExactArePending", fn := fun _ => fun
  | [d1, d2] => { results := [.lit (.bool true)], args := [d1, d2] }
  | _ => none }
def fnExactArePendingRow : OpenClaim := { program := "ytbaflfbidgolfaa", sum := "324ed356a90a5207d63658bf227c8dd9b8c85601ff5ecf3eb4b974daa21ec71f", func := "loop.example/g00909/laws.FnExactArePending", spec := "fnExactArePending", unfollowed := true, recurses := true, apart := false }
def FnExactArePendingSaid : Prop := fnExactArePendingRow.holds Try.pinned (OpenSpec.ofChange fnExactArePendingSpec)

/-- ITS FALSE NEIGHBOUR: 'it returns false'. Refute it at one input. -/
def fnExactArePendingWrong : ChangeSpec := { name := "fnExactArePending", fn := fun _ => fun
  | [d1, d2] => { results := [.lit (.bool false)], args := [d1, d2] }
  | _ => none }
def FnExactArePendingWrongFalsely : Prop := fnExactArePendingRow.holds Try.pinned (OpenSpec.ofChange fnExactArePendingWrong)

/-- 'laws.FnExactMayBeMoved': WHATEVER THE INPUT: true; the input reads as it did. -/
def fnExactMayBeMovedSpec : ChangeSpec := { name := "fnExactMayBeMoved", fn := fun _ => fun
  | [d1, d2] => { results := [.lit (.bool true)], args := [d1, d2] }
  | _ => none }
def fnExactMayBeMovedRow : OpenClaim := { program := "ytbaflfbidgolfaa", sum := "324ed356a90a5207d63658bf227c8dd9b8c85601ff5ecf3eb4b974daa21ec71f", func := "loop.example/g00909/laws.FnExactMayBeMoved", spec := "fnExactMayBeMoved", unfollowed := true, recurses := true, apart := false }
def FnExactMayBeMovedSaid : Prop := fnExactMayBeMovedRow.holds Try.pinned (OpenSpec.ofChange fnExactMayBeMovedSpec)

/-- ITS FALSE NEIGHBOUR: 'it returns false'. Refute it at one input. -/
def fnExactMayBeMovedWrong : ChangeSpec := { name := "fnExactMayBeMoved", fn := fun _ => fun
  | [d1, d2] => { results := [.lit (.bool false)], args := [d1, d2] }
  | _ => none }
def FnExactMayBeMovedWrongFalsely : Prop := fnExactMayBeMovedRow.holds Try.pinned (OpenSpec.ofChange fnExactMayBeMovedWrong)

/-- 'laws.FnExactMoveQuestion': WHATEVER THE INPUT: true; the input reads as it did. -/
def fnExactMoveQuestionSpec : ChangeSpec := { name := "fnExactMoveQuestion", fn := fun _ => fun
  | [d1, d2, d3, d4] => { results := [.lit (.bool true)], args := [d1, d2, d3, d4] }
  | _ => none }
def fnExactMoveQuestionRow : OpenClaim := { program := "ytbaflfbidgolfaa", sum := "324ed356a90a5207d63658bf227c8dd9b8c85601ff5ecf3eb4b974daa21ec71f", func := "loop.example/g00909/laws.FnExactMoveQuestion", spec := "fnExactMoveQuestion", unfollowed := true, recurses := true, apart := false }
def FnExactMoveQuestionSaid : Prop := fnExactMoveQuestionRow.holds Try.pinned (OpenSpec.ofChange fnExactMoveQuestionSpec)

/-- ITS FALSE NEIGHBOUR: 'it returns false'. Refute it at one input. -/
def fnExactMoveQuestionWrong : ChangeSpec := { name := "fnExactMoveQuestion", fn := fun _ => fun
  | [d1, d2, d3, d4] => { results := [.lit (.bool false)], args := [d1, d2, d3, d4] }
  | _ => none }
def FnExactMoveQuestionWrongFalsely : Prop := fnExactMoveQuestionRow.holds Try.pinned (OpenSpec.ofChange fnExactMoveQuestionWrong)

/-- 'laws.FnExactSecondQuestion': WHATEVER THE INPUT: true; the input reads as it did. -/
def fnExactSecondQuestionSpec : ChangeSpec := { name := "fnExactSecondQuestion", fn := fun _ => fun
  | [d1, d2, d3] => { results := [.lit (.bool true)], args := [d1, d2, d3] }
  | _ => none }
def fnExactSecondQuestionRow : OpenClaim := { program := "ytbaflfbidgolfaa", sum := "324ed356a90a5207d63658bf227c8dd9b8c85601ff5ecf3eb4b974daa21ec71f", func := "loop.example/g00909/laws.FnExactSecondQuestion", spec := "fnExactSecondQuestion", unfollowed := true, recurses := true, apart := false }
def FnExactSecondQuestionSaid : Prop := fnExactSecondQuestionRow.holds Try.pinned (OpenSpec.ofChange fnExactSecondQuestionSpec)

/-- ITS FALSE NEIGHBOUR: 'it returns false'. Refute it at one input. -/
def fnExactSecondQuestionWrong : ChangeSpec := { name := "fnExactSecondQuestion", fn := fun _ => fun
  | [d1, d2, d3] => { results := [.lit (.bool false)], args := [d1, d2, d3] }
  | _ => none }
def FnExactSecondQuestionWrongFalsely : Prop := fnExactSecondQuestionRow.holds Try.pinned (OpenSpec.ofChange fnExactSecondQuestionWrong)

/-- 'laws.FnExactDisposeQuestion': WHATEVER THE INPUT: true; the input reads as it did. -/
def fnExactDisposeQuestionSpec : ChangeSpec := { name := "fnExactDisposeQuestion", fn := fun _ => fun
  | [d1, d2] => { results := [.lit (.bool true)], args := [d1, d2] }
  | _ => none }
def fnExactDisposeQuestionRow : OpenClaim := { program := "ytbaflfbidgolfaa", sum := "324ed356a90a5207d63658bf227c8dd9b8c85601ff5ecf3eb4b974daa21ec71f", func := "loop.example/g00909/laws.FnExactDisposeQuestion", spec := "fnExactDisposeQuestion", unfollowed := true, recurses := true, apart := false }
def FnExactDisposeQuestionSaid : Prop := fnExactDisposeQuestionRow.holds Try.pinned (OpenSpec.ofChange fnExactDisposeQuestionSpec)

/-- ITS FALSE NEIGHBOUR: 'it returns false'. Refute it at one input. -/
def fnExactDisposeQuestionWrong : ChangeSpec := { name := "fnExactDisposeQuestion", fn := fun _ => fun
  | [d1, d2] => { results := [.lit (.bool false)], args := [d1, d2] }
  | _ => none }
def FnExactDisposeQuestionWrongFalsely : Prop := fnExactDisposeQuestionRow.holds Try.pinned (OpenSpec.ofChange fnExactDisposeQuestionWrong)

/-- 'laws.FnExactWithdrawQuestion': WHATEVER THE INPUT: true; the input reads as it did. -/
def fnExactWithdrawQuestionSpec : ChangeSpec := { name := "fnExactWithdrawQuestion", fn := fun _ => fun
  | [d1, d2, d3] => { results := [.lit (.bool true)], args := [d1, d2, d3] }
  | _ => none }
def fnExactWithdrawQuestionRow : OpenClaim := { program := "ytbaflfbidgolfaa", sum := "324ed356a90a5207d63658bf227c8dd9b8c85601ff5ecf3eb4b974daa21ec71f", func := "loop.example/g00909/laws.FnExactWithdrawQuestion", spec := "fnExactWithdrawQuestion", unfollowed := true, recurses := true, apart := false }
def FnExactWithdrawQuestionSaid : Prop := fnExactWithdrawQuestionRow.holds Try.pinned (OpenSpec.ofChange fnExactWithdrawQuestionSpec)

/-- ITS FALSE NEIGHBOUR: 'it returns false'. Refute it at one input. -/
def fnExactWithdrawQuestionWrong : ChangeSpec := { name := "fnExactWithdrawQuestion", fn := fun _ => fun
  | [d1, d2, d3] => { results := [.lit (.bool false)], args := [d1, d2, d3] }
  | _ => none }
def FnExactWithdrawQuestionWrongFalsely : Prop := fnExactWithdrawQuestionRow.holds Try.pinned (OpenSpec.ofChange fnExactWithdrawQuestionWrong)

/-- 'laws.FnExactDropUnseconded': WHATEVER THE INPUT: true; the input reads as it did. -/
def fnExactDropUnsecondedSpec : ChangeSpec := { name := "fnExactDropUnseconded", fn := fun _ => fun
  | [d1, d2] => { results := [.lit (.bool true)], args := [d1, d2] }
  | _ => none }
def fnExactDropUnsecondedRow : OpenClaim := { program := "ytbaflfbidgolfaa", sum := "324ed356a90a5207d63658bf227c8dd9b8c85601ff5ecf3eb4b974daa21ec71f", func := "loop.example/g00909/laws.FnExactDropUnseconded", spec := "fnExactDropUnseconded", unfollowed := true, recurses := true, apart := false }
def FnExactDropUnsecondedSaid : Prop := fnExactDropUnsecondedRow.holds Try.pinned (OpenSpec.ofChange fnExactDropUnsecondedSpec)

/-- ITS FALSE NEIGHBOUR: 'it returns false'. Refute it at one input. -/
def fnExactDropUnsecondedWrong : ChangeSpec := { name := "fnExactDropUnseconded", fn := fun _ => fun
  | [d1, d2] => { results := [.lit (.bool false)], args := [d1, d2] }
  | _ => none }
def FnExactDropUnsecondedWrongFalsely : Prop := fnExactDropUnsecondedRow.holds Try.pinned (OpenSpec.ofChange fnExactDropUnsecondedWrong)

/-- 'laws.FnExactQuestionNames': WHATEVER THE INPUT: true; the input reads as it did. -/
def fnExactQuestionNamesSpec : ChangeSpec := { name := "fnExactQuestionNames", fn := fun _ => fun
  | [d1, d2] => { results := [.lit (.bool true)], args := [d1, d2] }
  | _ => none }
def fnExactQuestionNamesRow : OpenClaim := { program := "ytbaflfbidgolfaa", sum := "324ed356a90a5207d63658bf227c8dd9b8c85601ff5ecf3eb4b974daa21ec71f", func := "loop.example/g00909/laws.FnExactQuestionNames", spec := "fnExactQuestionNames", unfollowed := true, recurses := true, apart := false }
def FnExactQuestionNamesSaid : Prop := fnExactQuestionNamesRow.holds Try.pinned (OpenSpec.ofChange fnExactQuestionNamesSpec)

/-- ITS FALSE NEIGHBOUR: 'it returns false'. Refute it at one input. -/
def fnExactQuestionNamesWrong : ChangeSpec := { name := "fnExactQuestionNames", fn := fun _ => fun
  | [d1, d2] => { results := [.lit (.bool false)], args := [d1, d2] }
  | _ => none }
def FnExactQuestionNamesWrongFalsely : Prop := fnExactQuestionNamesRow.holds Try.pinned (OpenSpec.ofChange fnExactQuestionNamesWrong)

/-- 'laws.FnExactMoversOf': WHATEVER THE INPUT: true; the input reads as it did. -/
def fnExactMoversOfSpec : ChangeSpec := { name := "fnExactMoversOf", fn := fun _ => fun
  | [d1, d2] => { results := [.lit (.bool true)], args := [d1, d2] }
  | _ => none }
def fnExactMoversOfRow : OpenClaim := { program := "ytbaflfbidgolfaa", sum := "324ed356a90a5207d63658bf227c8dd9b8c85601ff5ecf3eb4b974daa21ec71f", func := "loop.example/g00909/laws.FnExactMoversOf", spec := "fnExactMoversOf", unfollowed := true, recurses := true, apart := false }
def FnExactMoversOfSaid : Prop := fnExactMoversOfRow.holds Try.pinned (OpenSpec.ofChange fnExactMoversOfSpec)

/-- ITS FALSE NEIGHBOUR: 'it returns false'. Refute it at one input. -/
def fnExactMoversOfWrong : ChangeSpec := { name := "fnExactMoversOf", fn := fun _ => fun
  | [d1, d2] => { results := [.lit (.bool false)], args := [d1, d2] }
  | _ => none }
def FnExactMoversOfWrongFalsely : Prop := fnExactMoversOfRow.holds Try.pinned (OpenSpec.ofChange fnExactMoversOfWrong)

/-- 'laws.FnStack': WHATEVER THE INPUT: true; the input reads as it did. -/
def fnStackSpec : ChangeSpec := { name := "fnStack", fn := fun _ => fun
  | [d] => { results := [.lit (.bool true)], args := [d] }
  | _ => none }
def fnStackRow : OpenClaim := { program := "ytbaflfbidgolfaa", sum := "324ed356a90a5207d63658bf227c8dd9b8c85601ff5ecf3eb4b974daa21ec71f", func := "loop.example/g00909/laws.FnStack", spec := "fnStack", unfollowed := true, recurses := true, apart := false }
def FnStackSaid : Prop := fnStackRow.holds Try.pinned (OpenSpec.ofChange fnStackSpec)

/-- ITS FALSE NEIGHBOUR: 'it returns false'. Refute it at one input. -/
def fnStackWrong : ChangeSpec := { name := "fnStack", fn := fun _ => fun
  | [d] => { results := [.lit (.bool false)], args := [d] }
  | _ => none }
def FnStackWrongFalsely : Prop := fnStackRow.holds Try.pinned (OpenSpec.ofChange fnStackWrong)

/-- 'laws.FnSeconds': WHATEVER THE INPUT: true; the input reads as it did. -/
def fnSecondsSpec : ChangeSpec := { name := "fnSeconds", fn := fun _ => fun
  | [d] => { results := [.lit (.bool true)], args := [d] }
  | _ => none }
def fnSecondsRow : OpenClaim := { program := "ytbaflfbidgolfaa", sum := "324ed356a90a5207d63658bf227c8dd9b8c85601ff5ecf3eb4b974daa21ec71f", func := "loop.example/g00909/laws.FnSeconds", spec := "fnSeconds", unfollowed := true, recurses := true, apart := false }
def FnSecondsSaid : Prop := fnSecondsRow.holds Try.pinned (OpenSpec.ofChange fnSecondsSpec)

/-- ITS FALSE NEIGHBOUR: 'it returns false'. Refute it at one input. -/
def fnSecondsWrong : ChangeSpec := { name := "fnSeconds", fn := fun _ => fun
  | [d] => { results := [.lit (.bool false)], args := [d] }
  | _ => none }
def FnSecondsWrongFalsely : Prop := fnSecondsRow.holds Try.pinned (OpenSpec.ofChange fnSecondsWrong)

/-- 'laws.FnExactChangeRank': WHATEVER THE INPUT: true; the input reads as it did. -/
def fnExactChangeRankSpec : ChangeSpec := { name := "fnExactChangeRank", fn := fun _ => fun
  | [d1, d2, d3] => { results := [.lit (.bool true)], args := [d1, d2, d3] }
  | _ => none }
def fnExactChangeRankRow : OpenClaim := { program := "ytbaflfbidgolfaa", sum := "324ed356a90a5207d63658bf227c8dd9b8c85601ff5ecf3eb4b974daa21ec71f", func := "loop.example/g00909/laws.FnExactChangeRank", spec := "fnExactChangeRank", unfollowed := true, recurses := true, apart := false }
def FnExactChangeRankSaid : Prop := fnExactChangeRankRow.holds Try.pinned (OpenSpec.ofChange fnExactChangeRankSpec)

/-- ITS FALSE NEIGHBOUR: 'it returns false'. Refute it at one input. -/
def fnExactChangeRankWrong : ChangeSpec := { name := "fnExactChangeRank", fn := fun _ => fun
  | [d1, d2, d3] => { results := [.lit (.bool false)], args := [d1, d2, d3] }
  | _ => none }
def FnExactChangeRankWrongFalsely : Prop := fnExactChangeRankRow.holds Try.pinned (OpenSpec.ofChange fnExactChangeRankWrong)

/-- 'laws.FnRanks': WHATEVER THE INPUT: true; the input reads as it did. -/
def fnRanksSpec : ChangeSpec := { name := "fnRanks", fn := fun _ => fun
  | [d] => { results := [.lit (.bool true)], args := [d] }
  | _ => none }
def fnRanksRow : OpenClaim := { program := "ytbaflfbidgolfaa", sum := "324ed356a90a5207d63658bf227c8dd9b8c85601ff5ecf3eb4b974daa21ec71f", func := "loop.example/g00909/laws.FnRanks", spec := "fnRanks", unfollowed := true, recurses := true, apart := false }
def FnRanksSaid : Prop := fnRanksRow.holds Try.pinned (OpenSpec.ofChange fnRanksSpec)

/-- ITS FALSE NEIGHBOUR: 'it returns false'. Refute it at one input. -/
def fnRanksWrong : ChangeSpec := { name := "fnRanks", fn := fun _ => fun
  | [d] => { results := [.lit (.bool false)], args := [d] }
  | _ => none }
def FnRanksWrongFalsely : Prop := fnRanksRow.holds Try.pinned (OpenSpec.ofChange fnRanksWrong)

/- THE SECOND FORM. 'bulk': how many values and letters a reading holds, each counted each time it is reached (what is shared counts as often as it is met; a slice's spare places count too). A statement '..UptoSaid' is the law's where the arguments, and the package variables that the reading takes, are together of bulk at most 1048576: NARROWER than '..Said'. Prove '..Said' where nothing that the law and all that it calls make is longer than what came in: it says more and counts as full. Else prove '..UptoSaid'. A law counts once. -/
mutual
def uptoBulk {H : Type} : DataW H → Nat
  | .lit (.string bytes) => bytes.length + 1
  | .lit _ => 1
  | .nil => 1
  | .ptr d => uptoBulk d + 1
  | .slice elems spare => uptoBulkAll elems + uptoBulkAll spare + 1
  | .agg parts => uptoBulkAll parts + 1
  | .iface _ d => uptoBulk d + 1
  | .map entries => uptoBulkEntries entries + 1
  | .held _ => 1
def uptoBulkAll {H : Type} : List (DataW H) → Nat
  | [] => 0
  | d :: r => uptoBulk d + uptoBulkAll r
def uptoBulkEntries {H : Type} : List (Lit × DataW H) → Nat
  | [] => 0
  | x :: r => uptoBulkEntry x + uptoBulkEntries r
def uptoBulkEntry {H : Type} : Lit × DataW H → Nat
  | (.string bytes, d) => bytes.length + uptoBulk d + 1
  | (_, d) => uptoBulk d + 1
 end
def uptoSmall : (H : Type) → List (DataW H) → Bool := fun _ ds => decide (uptoBulkAll ds ≤ 1048576)
def OpenSpec.upto (s : _root_.Go.ChangeSpec) : _root_.Go.OpenSpec := { _root_.Go.OpenSpec.ofChange s with cond := some uptoSmall }

/-- 'laws.FnExactArePending', WHERE WHAT IT READS IS OF BULK AT MOST 1048576: true; the input reads as it did. -/
def fnExactArePendingUptoRow : OpenClaim := { program := "ytbaflfbidgolfaa", sum := "324ed356a90a5207d63658bf227c8dd9b8c85601ff5ecf3eb4b974daa21ec71f", func := "loop.example/g00909/laws.FnExactArePending", spec := "fnExactArePending", unfollowed := true, recurses := true, apart := false, narrowed := true }
def FnExactArePendingUptoSaid : Prop := fnExactArePendingUptoRow.holds Try.pinned (OpenSpec.upto fnExactArePendingSpec)

/-- 'laws.FnExactMayBeMoved', WHERE WHAT IT READS IS OF BULK AT MOST 1048576: true; the input reads as it did. -/
def fnExactMayBeMovedUptoRow : OpenClaim := { program := "ytbaflfbidgolfaa", sum := "324ed356a90a5207d63658bf227c8dd9b8c85601ff5ecf3eb4b974daa21ec71f", func := "loop.example/g00909/laws.FnExactMayBeMoved", spec := "fnExactMayBeMoved", unfollowed := true, recurses := true, apart := false, narrowed := true }
def FnExactMayBeMovedUptoSaid : Prop := fnExactMayBeMovedUptoRow.holds Try.pinned (OpenSpec.upto fnExactMayBeMovedSpec)

/-- 'laws.FnExactMoveQuestion', WHERE WHAT IT READS IS OF BULK AT MOST 1048576: true; the input reads as it did. -/
def fnExactMoveQuestionUptoRow : OpenClaim := { program := "ytbaflfbidgolfaa", sum := "324ed356a90a5207d63658bf227c8dd9b8c85601ff5ecf3eb4b974daa21ec71f", func := "loop.example/g00909/laws.FnExactMoveQuestion", spec := "fnExactMoveQuestion", unfollowed := true, recurses := true, apart := false, narrowed := true }
def FnExactMoveQuestionUptoSaid : Prop := fnExactMoveQuestionUptoRow.holds Try.pinned (OpenSpec.upto fnExactMoveQuestionSpec)

/-- 'laws.FnExactSecondQuestion', WHERE WHAT IT READS IS OF BULK AT MOST 1048576: true; the input reads as it did. -/
def fnExactSecondQuestionUptoRow : OpenClaim := { program := "ytbaflfbidgolfaa", sum := "324ed356a90a5207d63658bf227c8dd9b8c85601ff5ecf3eb4b974daa21ec71f", func := "loop.example/g00909/laws.FnExactSecondQuestion", spec := "fnExactSecondQuestion", unfollowed := true, recurses := true, apart := false, narrowed := true }
def FnExactSecondQuestionUptoSaid : Prop := fnExactSecondQuestionUptoRow.holds Try.pinned (OpenSpec.upto fnExactSecondQuestionSpec)

/-- 'laws.FnExactDisposeQuestion', WHERE WHAT IT READS IS OF BULK AT MOST 1048576: true; the input reads as it did. -/
def fnExactDisposeQuestionUptoRow : OpenClaim := { program := "ytbaflfbidgolfaa", sum := "324ed356a90a5207d63658bf227c8dd9b8c85601ff5ecf3eb4b974daa21ec71f", func := "loop.example/g00909/laws.FnExactDisposeQuestion", spec := "fnExactDisposeQuestion", unfollowed := true, recurses := true, apart := false, narrowed := true }
def FnExactDisposeQuestionUptoSaid : Prop := fnExactDisposeQuestionUptoRow.holds Try.pinned (OpenSpec.upto fnExactDisposeQuestionSpec)

/-- 'laws.FnExactWithdrawQuestion', WHERE WHAT IT READS IS OF BULK AT MOST 1048576: true; the input reads as it did. -/
def fnExactWithdrawQuestionUptoRow : OpenClaim := { program := "ytbaflfbidgolfaa", sum := "324ed356a90a5207d63658bf227c8dd9b8c85601ff5ecf3eb4b974daa21ec71f", func := "loop.example/g00909/laws.FnExactWithdrawQuestion", spec := "fnExactWithdrawQuestion", unfollowed := true, recurses := true, apart := false, narrowed := true }
def FnExactWithdrawQuestionUptoSaid : Prop := fnExactWithdrawQuestionUptoRow.holds Try.pinned (OpenSpec.upto fnExactWithdrawQuestionSpec)

/-- 'laws.FnExactDropUnseconded', WHERE WHAT IT READS IS OF BULK AT MOST 1048576: true; the input reads as it did. -/
def fnExactDropUnsecondedUptoRow : OpenClaim := { program := "ytbaflfbidgolfaa", sum := "324ed356a90a5207d63658bf227c8dd9b8c85601ff5ecf3eb4b974daa21ec71f", func := "loop.example/g00909/laws.FnExactDropUnseconded", spec := "fnExactDropUnseconded", unfollowed := true, recurses := true, apart := false, narrowed := true }
def FnExactDropUnsecondedUptoSaid : Prop := fnExactDropUnsecondedUptoRow.holds Try.pinned (OpenSpec.upto fnExactDropUnsecondedSpec)

/-- 'laws.FnExactQuestionNames', WHERE WHAT IT READS IS OF BULK AT MOST 1048576: true; the input reads as it did. -/
def fnExactQuestionNamesUptoRow : OpenClaim := { program := "ytbaflfbidgolfaa", sum := "324ed356a90a5207d63658bf227c8dd9b8c85601ff5ecf3eb4b974daa21ec71f", func := "loop.example/g00909/laws.FnExactQuestionNames", spec := "fnExactQuestionNames", unfollowed := true, recurses := true, apart := false, narrowed := true }
def FnExactQuestionNamesUptoSaid : Prop := fnExactQuestionNamesUptoRow.holds Try.pinned (OpenSpec.upto fnExactQuestionNamesSpec)

/-- 'laws.FnExactMoversOf', WHERE WHAT IT READS IS OF BULK AT MOST 1048576: true; the input reads as it did. -/
def fnExactMoversOfUptoRow : OpenClaim := { program := "ytbaflfbidgolfaa", sum := "324ed356a90a5207d63658bf227c8dd9b8c85601ff5ecf3eb4b974daa21ec71f", func := "loop.example/g00909/laws.FnExactMoversOf", spec := "fnExactMoversOf", unfollowed := true, recurses := true, apart := false, narrowed := true }
def FnExactMoversOfUptoSaid : Prop := fnExactMoversOfUptoRow.holds Try.pinned (OpenSpec.upto fnExactMoversOfSpec)

/-- 'laws.FnStack', WHERE WHAT IT READS IS OF BULK AT MOST 1048576: true; the input reads as it did. -/
def fnStackUptoRow : OpenClaim := { program := "ytbaflfbidgolfaa", sum := "324ed356a90a5207d63658bf227c8dd9b8c85601ff5ecf3eb4b974daa21ec71f", func := "loop.example/g00909/laws.FnStack", spec := "fnStack", unfollowed := true, recurses := true, apart := false, narrowed := true }
def FnStackUptoSaid : Prop := fnStackUptoRow.holds Try.pinned (OpenSpec.upto fnStackSpec)

/-- 'laws.FnSeconds', WHERE WHAT IT READS IS OF BULK AT MOST 1048576: true; the input reads as it did. -/
def fnSecondsUptoRow : OpenClaim := { program := "ytbaflfbidgolfaa", sum := "324ed356a90a5207d63658bf227c8dd9b8c85601ff5ecf3eb4b974daa21ec71f", func := "loop.example/g00909/laws.FnSeconds", spec := "fnSeconds", unfollowed := true, recurses := true, apart := false, narrowed := true }
def FnSecondsUptoSaid : Prop := fnSecondsUptoRow.holds Try.pinned (OpenSpec.upto fnSecondsSpec)

/-- 'laws.FnExactChangeRank', WHERE WHAT IT READS IS OF BULK AT MOST 1048576: true; the input reads as it did. -/
def fnExactChangeRankUptoRow : OpenClaim := { program := "ytbaflfbidgolfaa", sum := "324ed356a90a5207d63658bf227c8dd9b8c85601ff5ecf3eb4b974daa21ec71f", func := "loop.example/g00909/laws.FnExactChangeRank", spec := "fnExactChangeRank", unfollowed := true, recurses := true, apart := false, narrowed := true }
def FnExactChangeRankUptoSaid : Prop := fnExactChangeRankUptoRow.holds Try.pinned (OpenSpec.upto fnExactChangeRankSpec)

/-- 'laws.FnRanks', WHERE WHAT IT READS IS OF BULK AT MOST 1048576: true; the input reads as it did. -/
def fnRanksUptoRow : OpenClaim := { program := "ytbaflfbidgolfaa", sum := "324ed356a90a5207d63658bf227c8dd9b8c85601ff5ecf3eb4b974daa21ec71f", func := "loop.example/g00909/laws.FnRanks", spec := "fnRanks", unfollowed := true, recurses := true, apart := false, narrowed := true }
def FnRanksUptoSaid : Prop := fnRanksUptoRow.holds Try.pinned (OpenSpec.upto fnRanksSpec)

end Rows
end Go.Proofs.Ytbaflfbidgolfaa
