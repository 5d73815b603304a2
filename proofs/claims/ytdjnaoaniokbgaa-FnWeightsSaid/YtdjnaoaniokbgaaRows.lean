/-
  No cell of these rows narrows 'for every input' (looked for: loops, veiled, ifaces, maps, wideKeys, modest, calm, conditions, laid).
  DERIVED. THE GIVEN ROWS OF THIS SEAT. 11 by the template 'for every input the law returns true; each argument reads behind the call as it read before'; 0 by the template 'total and deterministic' (their statements: YtdjnaoaniokbgaaTotals.lean).
  GIVEN WITH THE SEED: the statements are not yours to turn. If you find one false, say at which input.
  Laid BY PROGRAM, IN A SANDBOX (cutbox-rows.mjs): the forced cells as the released guide's own fill.sh prints them over the translation f1c4e3e0ef6b2f17… (all of the seat's roots in one cut). By AI agents, Wed Nov 11 2026. No macro, syntax, notation, axiom, sorry.
-/
import Derived.Test.YtdjnaoaniokbgaaChecked
import GoSem.Claim
import GoSem.ClaimJoined
import GoSem.ClaimMapViews
import Derived.JoinedTies
import Derived.KernelRfl
namespace Go.Proofs.Ytdjnaoaniokbgaa
/- THE CELL 'sum', in the pinned program and in every row, IS THE sha256 OF THE DUMP (.gsa) THAT YtdjnaoaniokbgaaProg.lean LOADS. Nothing in Lean hashes anything: it is a label: what it is worth is what the hold of that sum in a sandbox is worth. -/
noncomputable def Try.pinned : Pinned := { name := "ytdjnaoaniokbgaa", sum := "f1c4e3e0ef6b2f171305218f602a2922346935e1efda75339ed873094af1e537", checked := Try.checked }
namespace Rows
def none {H : Type} : Left H := { results := [], args := [] }

/-- 'laws.FnProxies': WHATEVER THE INPUT: true; the input reads as it did. -/
def fnProxiesSpec : ChangeSpec := { name := "fnProxies", fn := fun _ => fun
  | [d] => { results := [.lit (.bool true)], args := [d] }
  | _ => none }
def fnProxiesRow : OpenClaim := { program := "ytdjnaoaniokbgaa", sum := "f1c4e3e0ef6b2f171305218f602a2922346935e1efda75339ed873094af1e537", func := "loop.example/g00909/laws.FnProxies", spec := "fnProxies", unfollowed := true, recurses := true, apart := false }
def FnProxiesSaid : Prop := fnProxiesRow.holds Try.pinned (OpenSpec.ofChange fnProxiesSpec)

/-- ITS FALSE NEIGHBOUR: 'it returns false'. Refute it at one input. -/
def fnProxiesWrong : ChangeSpec := { name := "fnProxies", fn := fun _ => fun
  | [d] => { results := [.lit (.bool false)], args := [d] }
  | _ => none }
def FnProxiesWrongFalsely : Prop := fnProxiesRow.holds Try.pinned (OpenSpec.ofChange fnProxiesWrong)

/-- 'laws.FnWeights': WHATEVER THE INPUT: true; the input reads as it did. -/
def fnWeightsSpec : ChangeSpec := { name := "fnWeights", fn := fun _ => fun
  | [d] => { results := [.lit (.bool true)], args := [d] }
  | _ => none }
def fnWeightsRow : OpenClaim := { program := "ytdjnaoaniokbgaa", sum := "f1c4e3e0ef6b2f171305218f602a2922346935e1efda75339ed873094af1e537", func := "loop.example/g00909/laws.FnWeights", spec := "fnWeights", apart := false }
def FnWeightsSaid : Prop := fnWeightsRow.holds Try.pinned (OpenSpec.ofChange fnWeightsSpec)

/-- ITS FALSE NEIGHBOUR: 'it returns false'. Refute it at one input. -/
def fnWeightsWrong : ChangeSpec := { name := "fnWeights", fn := fun _ => fun
  | [d] => { results := [.lit (.bool false)], args := [d] }
  | _ => none }
def FnWeightsWrongFalsely : Prop := fnWeightsRow.holds Try.pinned (OpenSpec.ofChange fnWeightsWrong)

/-- 'laws.FnExactAreVoters': WHATEVER THE INPUT: true; the input reads as it did. -/
def fnExactAreVotersSpec : ChangeSpec := { name := "fnExactAreVoters", fn := fun _ => fun
  | [d] => { results := [.lit (.bool true)], args := [d] }
  | _ => none }
def fnExactAreVotersRow : OpenClaim := { program := "ytdjnaoaniokbgaa", sum := "f1c4e3e0ef6b2f171305218f602a2922346935e1efda75339ed873094af1e537", func := "loop.example/g00909/laws.FnExactAreVoters", spec := "fnExactAreVoters", apart := false }
def FnExactAreVotersSaid : Prop := fnExactAreVotersRow.holds Try.pinned (OpenSpec.ofChange fnExactAreVotersSpec)

/-- ITS FALSE NEIGHBOUR: 'it returns false'. Refute it at one input. -/
def fnExactAreVotersWrong : ChangeSpec := { name := "fnExactAreVoters", fn := fun _ => fun
  | [d] => { results := [.lit (.bool false)], args := [d] }
  | _ => none }
def FnExactAreVotersWrongFalsely : Prop := fnExactAreVotersRow.holds Try.pinned (OpenSpec.ofChange fnExactAreVotersWrong)

/-- 'laws.FnExactHolderFor': WHATEVER THE INPUT: true; the input reads as it did. -/
def fnExactHolderForSpec : ChangeSpec := { name := "fnExactHolderFor", fn := fun _ => fun
  | [d1, d2] => { results := [.lit (.bool true)], args := [d1, d2] }
  | _ => none }
def fnExactHolderForRow : OpenClaim := { program := "ytdjnaoaniokbgaa", sum := "f1c4e3e0ef6b2f171305218f602a2922346935e1efda75339ed873094af1e537", func := "loop.example/g00909/laws.FnExactHolderFor", spec := "fnExactHolderFor", apart := false }
def FnExactHolderForSaid : Prop := fnExactHolderForRow.holds Try.pinned (OpenSpec.ofChange fnExactHolderForSpec)

/-- ITS FALSE NEIGHBOUR: 'it returns false'. Refute it at one input. -/
def fnExactHolderForWrong : ChangeSpec := { name := "fnExactHolderFor", fn := fun _ => fun
  | [d1, d2] => { results := [.lit (.bool false)], args := [d1, d2] }
  | _ => none }
def FnExactHolderForWrongFalsely : Prop := fnExactHolderForRow.holds Try.pinned (OpenSpec.ofChange fnExactHolderForWrong)

/-- 'laws.FnExactHeldWeights': WHATEVER THE INPUT: true; the input reads as it did. -/
def fnExactHeldWeightsSpec : ChangeSpec := { name := "fnExactHeldWeights", fn := fun _ => fun
  | [d] => { results := [.lit (.bool true)], args := [d] }
  | _ => none }
def fnExactHeldWeightsRow : OpenClaim := { program := "ytdjnaoaniokbgaa", sum := "f1c4e3e0ef6b2f171305218f602a2922346935e1efda75339ed873094af1e537", func := "loop.example/g00909/laws.FnExactHeldWeights", spec := "fnExactHeldWeights", apart := false }
def FnExactHeldWeightsSaid : Prop := fnExactHeldWeightsRow.holds Try.pinned (OpenSpec.ofChange fnExactHeldWeightsSpec)

/-- ITS FALSE NEIGHBOUR: 'it returns false'. Refute it at one input. -/
def fnExactHeldWeightsWrong : ChangeSpec := { name := "fnExactHeldWeights", fn := fun _ => fun
  | [d] => { results := [.lit (.bool false)], args := [d] }
  | _ => none }
def FnExactHeldWeightsWrongFalsely : Prop := fnExactHeldWeightsRow.holds Try.pinned (OpenSpec.ofChange fnExactHeldWeightsWrong)

/-- 'laws.FnExactGiveProxy': WHATEVER THE INPUT: true; the input reads as it did. -/
def fnExactGiveProxySpec : ChangeSpec := { name := "fnExactGiveProxy", fn := fun _ => fun
  | [d1, d2, d3] => { results := [.lit (.bool true)], args := [d1, d2, d3] }
  | _ => none }
def fnExactGiveProxyRow : OpenClaim := { program := "ytdjnaoaniokbgaa", sum := "f1c4e3e0ef6b2f171305218f602a2922346935e1efda75339ed873094af1e537", func := "loop.example/g00909/laws.FnExactGiveProxy", spec := "fnExactGiveProxy", unfollowed := true, recurses := true, apart := false }
def FnExactGiveProxySaid : Prop := fnExactGiveProxyRow.holds Try.pinned (OpenSpec.ofChange fnExactGiveProxySpec)

/-- ITS FALSE NEIGHBOUR: 'it returns false'. Refute it at one input. -/
def fnExactGiveProxyWrong : ChangeSpec := { name := "fnExactGiveProxy", fn := fun _ => fun
  | [d1, d2, d3] => { results := [.lit (.bool false)], args := [d1, d2, d3] }
  | _ => none }
def FnExactGiveProxyWrongFalsely : Prop := fnExactGiveProxyRow.holds Try.pinned (OpenSpec.ofChange fnExactGiveProxyWrong)

/-- 'laws.FnExactRevokeProxy': WHATEVER THE INPUT: true; the input reads as it did. -/
def fnExactRevokeProxySpec : ChangeSpec := { name := "fnExactRevokeProxy", fn := fun _ => fun
  | [d1, d2] => { results := [.lit (.bool true)], args := [d1, d2] }
  | _ => none }
def fnExactRevokeProxyRow : OpenClaim := { program := "ytdjnaoaniokbgaa", sum := "f1c4e3e0ef6b2f171305218f602a2922346935e1efda75339ed873094af1e537", func := "loop.example/g00909/laws.FnExactRevokeProxy", spec := "fnExactRevokeProxy", unfollowed := true, recurses := true, apart := false }
def FnExactRevokeProxySaid : Prop := fnExactRevokeProxyRow.holds Try.pinned (OpenSpec.ofChange fnExactRevokeProxySpec)

/-- ITS FALSE NEIGHBOUR: 'it returns false'. Refute it at one input. -/
def fnExactRevokeProxyWrong : ChangeSpec := { name := "fnExactRevokeProxy", fn := fun _ => fun
  | [d1, d2] => { results := [.lit (.bool false)], args := [d1, d2] }
  | _ => none }
def FnExactRevokeProxyWrongFalsely : Prop := fnExactRevokeProxyRow.holds Try.pinned (OpenSpec.ofChange fnExactRevokeProxyWrong)

/-- 'laws.FnExactProxySteps': WHATEVER THE INPUT: true; the input reads as it did. -/
def fnExactProxyStepsSpec : ChangeSpec := { name := "fnExactProxySteps", fn := fun _ => fun
  | [d1, d2] => { results := [.lit (.bool true)], args := [d1, d2] }
  | _ => none }
def fnExactProxyStepsRow : OpenClaim := { program := "ytdjnaoaniokbgaa", sum := "f1c4e3e0ef6b2f171305218f602a2922346935e1efda75339ed873094af1e537", func := "loop.example/g00909/laws.FnExactProxySteps", spec := "fnExactProxySteps", apart := false }
def FnExactProxyStepsSaid : Prop := fnExactProxyStepsRow.holds Try.pinned (OpenSpec.ofChange fnExactProxyStepsSpec)

/-- ITS FALSE NEIGHBOUR: 'it returns false'. Refute it at one input. -/
def fnExactProxyStepsWrong : ChangeSpec := { name := "fnExactProxySteps", fn := fun _ => fun
  | [d1, d2] => { results := [.lit (.bool false)], args := [d1, d2] }
  | _ => none }
def FnExactProxyStepsWrongFalsely : Prop := fnExactProxyStepsRow.holds Try.pinned (OpenSpec.ofChange fnExactProxyStepsWrong)

/-- 'laws.FnExactWeightPresent': WHATEVER THE INPUT: true; the input reads as it did. -/
def fnExactWeightPresentSpec : ChangeSpec := { name := "fnExactWeightPresent", fn := fun _ => fun
  | [d1, d2] => { results := [.lit (.bool true)], args := [d1, d2] }
  | _ => none }
def fnExactWeightPresentRow : OpenClaim := { program := "ytdjnaoaniokbgaa", sum := "f1c4e3e0ef6b2f171305218f602a2922346935e1efda75339ed873094af1e537", func := "loop.example/g00909/laws.FnExactWeightPresent", spec := "fnExactWeightPresent", apart := false }
def FnExactWeightPresentSaid : Prop := fnExactWeightPresentRow.holds Try.pinned (OpenSpec.ofChange fnExactWeightPresentSpec)

/-- ITS FALSE NEIGHBOUR: 'it returns false'. Refute it at one input. -/
def fnExactWeightPresentWrong : ChangeSpec := { name := "fnExactWeightPresent", fn := fun _ => fun
  | [d1, d2] => { results := [.lit (.bool false)], args := [d1, d2] }
  | _ => none }
def FnExactWeightPresentWrongFalsely : Prop := fnExactWeightPresentRow.holds Try.pinned (OpenSpec.ofChange fnExactWeightPresentWrong)

/-- 'laws.FnExactCastVotes': WHATEVER THE INPUT: true; the input reads as it did. -/
def fnExactCastVotesSpec : ChangeSpec := { name := "fnExactCastVotes", fn := fun _ => fun
  | [d1, d2] => { results := [.lit (.bool true)], args := [d1, d2] }
  | _ => none }
def fnExactCastVotesRow : OpenClaim := { program := "ytdjnaoaniokbgaa", sum := "f1c4e3e0ef6b2f171305218f602a2922346935e1efda75339ed873094af1e537", func := "loop.example/g00909/laws.FnExactCastVotes", spec := "fnExactCastVotes", apart := false }
def FnExactCastVotesSaid : Prop := fnExactCastVotesRow.holds Try.pinned (OpenSpec.ofChange fnExactCastVotesSpec)

/-- ITS FALSE NEIGHBOUR: 'it returns false'. Refute it at one input. -/
def fnExactCastVotesWrong : ChangeSpec := { name := "fnExactCastVotes", fn := fun _ => fun
  | [d1, d2] => { results := [.lit (.bool false)], args := [d1, d2] }
  | _ => none }
def FnExactCastVotesWrongFalsely : Prop := fnExactCastVotesRow.holds Try.pinned (OpenSpec.ofChange fnExactCastVotesWrong)

/-- 'laws.FnExactDirectVotes': WHATEVER THE INPUT: true; the input reads as it did. -/
def fnExactDirectVotesSpec : ChangeSpec := { name := "fnExactDirectVotes", fn := fun _ => fun
  | [d] => { results := [.lit (.bool true)], args := [d] }
  | _ => none }
def fnExactDirectVotesRow : OpenClaim := { program := "ytdjnaoaniokbgaa", sum := "f1c4e3e0ef6b2f171305218f602a2922346935e1efda75339ed873094af1e537", func := "loop.example/g00909/laws.FnExactDirectVotes", spec := "fnExactDirectVotes", apart := false }
def FnExactDirectVotesSaid : Prop := fnExactDirectVotesRow.holds Try.pinned (OpenSpec.ofChange fnExactDirectVotesSpec)

/-- ITS FALSE NEIGHBOUR: 'it returns false'. Refute it at one input. -/
def fnExactDirectVotesWrong : ChangeSpec := { name := "fnExactDirectVotes", fn := fun _ => fun
  | [d] => { results := [.lit (.bool false)], args := [d] }
  | _ => none }
def FnExactDirectVotesWrongFalsely : Prop := fnExactDirectVotesRow.holds Try.pinned (OpenSpec.ofChange fnExactDirectVotesWrong)

/- THE SECOND FORM. 'bulk': how many values and letters a reading holds, each counted each time it is reached (what is shared counts as often as it is met; a slice's spare places count too). A statement '..UptoSaid' is the law's where the arguments, and the package variables that the reading takes, are together of bulk at most 1048576: NARROWER than '..Said'. Prove '..Said' where nothing that the law and all that it calls make is longer than what came in: it says more and counts as full. Else prove '..UptoSaid'. A law counts once. -/
mutual
def uptoBulk {H : Type} : DataW H → Nat
  | .lit (.string bytes) => bytes.length + 1
  | .lit _ => 1
  | .nil => 1
  | .ptr d => uptoBulk d + 1
  | .slice elems spare => uptoBulkAll elems + uptoBulkAll spare + 1
  | .agg parts => uptoBulkAll parts + 1
  | .iface _ d => uptoBulk d + 1
  | .map entries => uptoBulkEntries entries + 1
  | .held _ => 1
def uptoBulkAll {H : Type} : List (DataW H) → Nat
  | [] => 0
  | d :: r => uptoBulk d + uptoBulkAll r
def uptoBulkEntries {H : Type} : List (Lit × DataW H) → Nat
  | [] => 0
  | x :: r => uptoBulkEntry x + uptoBulkEntries r
def uptoBulkEntry {H : Type} : Lit × DataW H → Nat
  | (.string bytes, d) => bytes.length + uptoBulk d + 1
  | (_, d) => uptoBulk d + 1
 end
def uptoSmall : (H : Type) → List (DataW H) → Bool := fun _ ds => decide (uptoBulkAll ds ≤ 1048576)
def OpenSpec.upto (s : _root_.Go.ChangeSpec) : _root_.Go.OpenSpec := { _root_.Go.OpenSpec.ofChange s with cond := some uptoSmall }

/-- 'laws.FnProxies', WHERE WHAT IT READS IS OF BULK AT MOST 1048576: true; the input reads as it did. -/
def fnProxiesUptoRow : OpenClaim := { program := "ytdjnaoaniokbgaa", sum := "f1c4e3e0ef6b2f171305218f602a2922346935e1efda75339ed873094af1e537", func := "loop.example/g00909/laws.FnProxies", spec := "fnProxies", unfollowed := true, recurses := true, apart := false, narrowed := true }
def FnProxiesUptoSaid : Prop := fnProxiesUptoRow.holds Try.pinned (OpenSpec.upto fnProxiesSpec)

/-- 'laws.FnWeights', WHERE WHAT IT READS IS OF BULK AT MOST 1048576: true; the input reads as it did. -/
def fnWeightsUptoRow : OpenClaim := { program := "ytdjnaoaniokbgaa", sum := "f1c4e3e0ef6b2f171305218f602a2922346935e1efda75339ed873094af1e537", func := "loop.example/g00909/laws.FnWeights", spec := "fnWeights", apart := false, narrowed := true }
def FnWeightsUptoSaid : Prop := fnWeightsUptoRow.holds Try.pinned (OpenSpec.upto fnWeightsSpec)

/-- 'laws.FnExactAreVoters', WHERE WHAT IT READS IS OF BULK AT MOST 1048576: true; the input reads as it did. -/
def fnExactAreVotersUptoRow : OpenClaim := { program := "ytdjnaoaniokbgaa", sum := "f1c4e3e0ef6b2f171305218f602a2922346935e1efda75339ed873094af1e537", func := "loop.example/g00909/laws.FnExactAreVoters", spec := "fnExactAreVoters", apart := false, narrowed := true }
def FnExactAreVotersUptoSaid : Prop := fnExactAreVotersUptoRow.holds Try.pinned (OpenSpec.upto fnExactAreVotersSpec)

/-- 'laws.FnExactHolderFor', WHERE WHAT IT READS IS OF BULK AT MOST 1048576: true; the input reads as it did. -/
def fnExactHolderForUptoRow : OpenClaim := { program := "ytdjnaoaniokbgaa", sum := "f1c4e3e0ef6b2f171305218f602a2922346935e1efda75339ed873094af1e537", func := "loop.example/g00909/laws.FnExactHolderFor", spec := "fnExactHolderFor", apart := false, narrowed := true }
def FnExactHolderForUptoSaid : Prop := fnExactHolderForUptoRow.holds Try.pinned (OpenSpec.upto fnExactHolderForSpec)

/-- 'laws.FnExactHeldWeights', WHERE WHAT IT READS IS OF BULK AT MOST 1048576: true; the input reads as it did. -/
def fnExactHeldWeightsUptoRow : OpenClaim := { program := "ytdjnaoaniokbgaa", sum := "f1c4e3e0ef6b2f171305218f602a2922346935e1efda75339ed873094af1e537", func := "loop.example/g00909/laws.FnExactHeldWeights", spec := "fnExactHeldWeights", apart := false, narrowed := true }
def FnExactHeldWeightsUptoSaid : Prop := fnExactHeldWeightsUptoRow.holds Try.pinned (OpenSpec.upto fnExactHeldWeightsSpec)

/-- 'laws.FnExactGiveProxy', WHERE WHAT IT READS IS OF BULK AT MOST 1048576: true; the input reads as it did. -/
def fnExactGiveProxyUptoRow : OpenClaim := { program := "ytdjnaoaniokbgaa", sum := "f1c4e3e0ef6b2f171305218f602a2922346935e1efda75339ed873094af1e537", func := "loop.example/g00909/laws.FnExactGiveProxy", spec := "fnExactGiveProxy", unfollowed := true, recurses := true, apart := false, narrowed := true }
def FnExactGiveProxyUptoSaid : Prop := fnExactGiveProxyUptoRow.holds Try.pinned (OpenSpec.upto fnExactGiveProxySpec)

/-- 'laws.FnExactRevokeProxy', WHERE WHAT IT READS IS OF BULK AT MOST 1048576: true; the input reads as it did. -/
def fnExactRevokeProxyUptoRow : OpenClaim := { program := "ytdjnaoaniokbgaa", sum := "f1c4e3e0ef6b2f171305218f602a2922346935e1efda75339ed873094af1e537", func := "loop.example/g00909/laws.FnExactRevokeProxy", spec := "fnExactRevokeProxy", unfollowed := true, recurses := true, apart := false, narrowed := true }
def FnExactRevokeProxyUptoSaid : Prop := fnExactRevokeProxyUptoRow.holds Try.pinned (OpenSpec.upto fnExactRevokeProxySpec)

/-- 'laws.FnExactProxySteps', WHERE WHAT IT READS IS OF BULK AT MOST 1048576: true; the input reads as it did. -/
def fnExactProxyStepsUptoRow : OpenClaim := { program := "ytdjnaoaniokbgaa", sum := "f1c4e3e0ef6b2f171305218f602a2922346935e1efda75339ed873094af1e537", func := "loop.example/g00909/laws.FnExactProxySteps", spec := "fnExactProxySteps", apart := false, narrowed := true }
def FnExactProxyStepsUptoSaid : Prop := fnExactProxyStepsUptoRow.holds Try.pinned (OpenSpec.upto fnExactProxyStepsSpec)

/-- 'laws.FnExactWeightPresent', WHERE WHAT IT READS IS OF BULK AT MOST 1048576: true; the input reads as it did. -/
def fnExactWeightPresentUptoRow : OpenClaim := { program := "ytdjnaoaniokbgaa", sum := "f1c4e3e0ef6b2f171305218f602a2922346935e1efda75339ed873094af1e537", func := "loop.example/g00909/laws.FnExactWeightPresent", spec := "fnExactWeightPresent", apart := false, narrowed := true }
def FnExactWeightPresentUptoSaid : Prop := fnExactWeightPresentUptoRow.holds Try.pinned (OpenSpec.upto fnExactWeightPresentSpec)

/-- 'laws.FnExactCastVotes', WHERE WHAT IT READS IS OF BULK AT MOST 1048576: true; the input reads as it did. -/
def fnExactCastVotesUptoRow : OpenClaim := { program := "ytdjnaoaniokbgaa", sum := "f1c4e3e0ef6b2f171305218f602a2922346935e1efda75339ed873094af1e537", func := "loop.example/g00909/laws.FnExactCastVotes", spec := "fnExactCastVotes", apart := false, narrowed := true }
def FnExactCastVotesUptoSaid : Prop := fnExactCastVotesUptoRow.holds Try.pinned (OpenSpec.upto fnExactCastVotesSpec)

/-- 'laws.FnExactDirectVotes', WHERE WHAT IT READS IS OF BULK AT MOST 1048576: true; the input reads as it did. -/
def fnExactDirectVotesUptoRow : OpenClaim := { program := "ytdjnaoaniokbgaa", sum := "f1c4e3e0ef6b2f171305218f602a2922346935e1efda75339ed873094af1e537", func := "loop.example/g00909/laws.FnExactDirectVotes", spec := "fnExactDirectVotes", apart := false, narrowed := true }
def FnExactDirectVotesUptoSaid : Prop := fnExactDirectVotesUptoRow.holds Try.pinned (OpenSpec.upto fnExactDirectVotesSpec)

end Rows
end Go.Proofs.Ytdjnaoaniokbgaa
