/-
  No cell of these rows narrows 'for every input' (looked for: loops, veiled, ifaces, maps, wideKeys, modest, calm, conditions, laid).
  DERIVED. THE GIVEN ROWS OF THIS SEAT. 8 by the template 'for every input the law returns true; each argument reads behind the call as it read before'; 0 by the template 'total and deterministic' (their statements: YtkdiedmbikkbiaaTotals.lean).
  GIVEN WITH THE SEED: the statements are not yours to turn. If you find one false, say at which input.
  Laid BY PROGRAM, IN A SANDBOX (cutbox-rows.mjs): the forced cells as the released guide's own fill.sh prints them over the translation b0c61154cbac4d11… (all of the seat's roots in one cut). By AI agents, Wed Nov 11 2026. No macro, syntax, notation, axiom, sorry.
-/
import Derived.Test.YtkdiedmbikkbiaaChecked
import GoSem.Claim
import GoSem.ClaimJoined
import GoSem.ClaimMapViews
import Derived.JoinedTies
import Derived.KernelRfl
namespace Go.Proofs.Ytkdiedmbikkbiaa
/- THE CELL 'sum', in the pinned program and in every row, IS THE sha256 OF THE DUMP (.gsa) THAT YtkdiedmbikkbiaaProg.lean LOADS. Nothing in Lean hashes anything: it is a label: what it is worth is what the hold of that sum in a sandbox is worth. -/
noncomputable def Try.pinned : Pinned := { name := "ytkdiedmbikkbiaa", sum := "b0c61154cbac4d11d3b635bd0d9cf53f6ab8467325f5c28b621727f441a421aa", checked := Try.checked }
namespace Rows
def none {H : Type} : Left H := { results := [], args := [] }

/-- 'laws.FnExactIsValidTally': WHATEVER THE INPUT: true; the input reads as it did. -/
def fnExactIsValidTallySpec : ChangeSpec := { name := "fnExactIsValidTally", fn := fun _ => fun
  | [d] => { results := [.lit (.bool true)], args := [d] }
  | _ => none }
def fnExactIsValidTallyRow : OpenClaim := { program := "ytkdiedmbikkbiaa", sum := "b0c61154cbac4d11d3b635bd0d9cf53f6ab8467325f5c28b621727f441a421aa", func := "loop.example/g00909/laws.FnExactIsValidTally", spec := "fnExactIsValidTally", apart := false }
def FnExactIsValidTallySaid : Prop := fnExactIsValidTallyRow.holds Try.pinned (OpenSpec.ofChange fnExactIsValidTallySpec)

/-- ITS FALSE NEIGHBOUR: 'it returns false'. Refute it at one input. -/
def fnExactIsValidTallyWrong : ChangeSpec := { name := "fnExactIsValidTally", fn := fun _ => fun
  | [d] => { results := [.lit (.bool false)], args := [d] }
  | _ => none }
def FnExactIsValidTallyWrongFalsely : Prop := fnExactIsValidTallyRow.holds Try.pinned (OpenSpec.ofChange fnExactIsValidTallyWrong)

/-- 'laws.FnExactIsAdopted': WHATEVER THE INPUT: true; the input reads as it did. -/
def fnExactIsAdoptedSpec : ChangeSpec := { name := "fnExactIsAdopted", fn := fun _ => fun
  | [d1, d2] => { results := [.lit (.bool true)], args := [d1, d2] }
  | _ => none }
def fnExactIsAdoptedRow : OpenClaim := { program := "ytkdiedmbikkbiaa", sum := "b0c61154cbac4d11d3b635bd0d9cf53f6ab8467325f5c28b621727f441a421aa", func := "loop.example/g00909/laws.FnExactIsAdopted", spec := "fnExactIsAdopted", apart := false }
def FnExactIsAdoptedSaid : Prop := fnExactIsAdoptedRow.holds Try.pinned (OpenSpec.ofChange fnExactIsAdoptedSpec)

/-- ITS FALSE NEIGHBOUR: 'it returns false'. Refute it at one input. -/
def fnExactIsAdoptedWrong : ChangeSpec := { name := "fnExactIsAdopted", fn := fun _ => fun
  | [d1, d2] => { results := [.lit (.bool false)], args := [d1, d2] }
  | _ => none }
def FnExactIsAdoptedWrongFalsely : Prop := fnExactIsAdoptedRow.holds Try.pinned (OpenSpec.ofChange fnExactIsAdoptedWrong)

/-- 'laws.FnExactYesNeeded': WHATEVER THE INPUT: true; the input reads as it did. -/
def fnExactYesNeededSpec : ChangeSpec := { name := "fnExactYesNeeded", fn := fun _ => fun
  | [d1, d2] => { results := [.lit (.bool true)], args := [d1, d2] }
  | _ => none }
def fnExactYesNeededRow : OpenClaim := { program := "ytkdiedmbikkbiaa", sum := "b0c61154cbac4d11d3b635bd0d9cf53f6ab8467325f5c28b621727f441a421aa", func := "loop.example/g00909/laws.FnExactYesNeeded", spec := "fnExactYesNeeded", unfollowed := true, recurses := true, apart := false }
def FnExactYesNeededSaid : Prop := fnExactYesNeededRow.holds Try.pinned (OpenSpec.ofChange fnExactYesNeededSpec)

/-- ITS FALSE NEIGHBOUR: 'it returns false'. Refute it at one input. -/
def fnExactYesNeededWrong : ChangeSpec := { name := "fnExactYesNeeded", fn := fun _ => fun
  | [d1, d2] => { results := [.lit (.bool false)], args := [d1, d2] }
  | _ => none }
def FnExactYesNeededWrongFalsely : Prop := fnExactYesNeededRow.holds Try.pinned (OpenSpec.ofChange fnExactYesNeededWrong)

/-- 'laws.FnExactMostNo': WHATEVER THE INPUT: true; the input reads as it did. -/
def fnExactMostNoSpec : ChangeSpec := { name := "fnExactMostNo", fn := fun _ => fun
  | [d1, d2] => { results := [.lit (.bool true)], args := [d1, d2] }
  | _ => none }
def fnExactMostNoRow : OpenClaim := { program := "ytkdiedmbikkbiaa", sum := "b0c61154cbac4d11d3b635bd0d9cf53f6ab8467325f5c28b621727f441a421aa", func := "loop.example/g00909/laws.FnExactMostNo", spec := "fnExactMostNo", unfollowed := true, recurses := true, apart := false }
def FnExactMostNoSaid : Prop := fnExactMostNoRow.holds Try.pinned (OpenSpec.ofChange fnExactMostNoSpec)

/-- ITS FALSE NEIGHBOUR: 'it returns false'. Refute it at one input. -/
def fnExactMostNoWrong : ChangeSpec := { name := "fnExactMostNo", fn := fun _ => fun
  | [d1, d2] => { results := [.lit (.bool false)], args := [d1, d2] }
  | _ => none }
def FnExactMostNoWrongFalsely : Prop := fnExactMostNoRow.holds Try.pinned (OpenSpec.ofChange fnExactMostNoWrong)

/-- 'laws.FnExactAddTallies': WHATEVER THE INPUT: true; the input reads as it did. -/
def fnExactAddTalliesSpec : ChangeSpec := { name := "fnExactAddTallies", fn := fun _ => fun
  | [d1, d2] => { results := [.lit (.bool true)], args := [d1, d2] }
  | _ => none }
def fnExactAddTalliesRow : OpenClaim := { program := "ytkdiedmbikkbiaa", sum := "b0c61154cbac4d11d3b635bd0d9cf53f6ab8467325f5c28b621727f441a421aa", func := "loop.example/g00909/laws.FnExactAddTallies", spec := "fnExactAddTallies", apart := false }
def FnExactAddTalliesSaid : Prop := fnExactAddTalliesRow.holds Try.pinned (OpenSpec.ofChange fnExactAddTalliesSpec)

/-- ITS FALSE NEIGHBOUR: 'it returns false'. Refute it at one input. -/
def fnExactAddTalliesWrong : ChangeSpec := { name := "fnExactAddTallies", fn := fun _ => fun
  | [d1, d2] => { results := [.lit (.bool false)], args := [d1, d2] }
  | _ => none }
def FnExactAddTalliesWrongFalsely : Prop := fnExactAddTalliesRow.holds Try.pinned (OpenSpec.ofChange fnExactAddTalliesWrong)

/-- 'laws.FnExactYesShare': WHATEVER THE INPUT: true; the input reads as it did. -/
def fnExactYesShareSpec : ChangeSpec := { name := "fnExactYesShare", fn := fun _ => fun
  | [d] => { results := [.lit (.bool true)], args := [d] }
  | _ => none }
def fnExactYesShareRow : OpenClaim := { program := "ytkdiedmbikkbiaa", sum := "b0c61154cbac4d11d3b635bd0d9cf53f6ab8467325f5c28b621727f441a421aa", func := "loop.example/g00909/laws.FnExactYesShare", spec := "fnExactYesShare", apart := false }
def FnExactYesShareSaid : Prop := fnExactYesShareRow.holds Try.pinned (OpenSpec.ofChange fnExactYesShareSpec)

/-- ITS FALSE NEIGHBOUR: 'it returns false'. Refute it at one input. -/
def fnExactYesShareWrong : ChangeSpec := { name := "fnExactYesShare", fn := fun _ => fun
  | [d] => { results := [.lit (.bool false)], args := [d] }
  | _ => none }
def FnExactYesShareWrongFalsely : Prop := fnExactYesShareRow.holds Try.pinned (OpenSpec.ofChange fnExactYesShareWrong)

/-- 'laws.FnExactChairMatters': WHATEVER THE INPUT: true; the input reads as it did. -/
def fnExactChairMattersSpec : ChangeSpec := { name := "fnExactChairMatters", fn := fun _ => fun
  | [d1, d2] => { results := [.lit (.bool true)], args := [d1, d2] }
  | _ => none }
def fnExactChairMattersRow : OpenClaim := { program := "ytkdiedmbikkbiaa", sum := "b0c61154cbac4d11d3b635bd0d9cf53f6ab8467325f5c28b621727f441a421aa", func := "loop.example/g00909/laws.FnExactChairMatters", spec := "fnExactChairMatters", apart := false }
def FnExactChairMattersSaid : Prop := fnExactChairMattersRow.holds Try.pinned (OpenSpec.ofChange fnExactChairMattersSpec)

/-- ITS FALSE NEIGHBOUR: 'it returns false'. Refute it at one input. -/
def fnExactChairMattersWrong : ChangeSpec := { name := "fnExactChairMatters", fn := fun _ => fun
  | [d1, d2] => { results := [.lit (.bool false)], args := [d1, d2] }
  | _ => none }
def FnExactChairMattersWrongFalsely : Prop := fnExactChairMattersRow.holds Try.pinned (OpenSpec.ofChange fnExactChairMattersWrong)

/-- 'laws.FnExactStrictestNeed': WHATEVER THE INPUT: true; the input reads as it did. -/
def fnExactStrictestNeedSpec : ChangeSpec := { name := "fnExactStrictestNeed", fn := fun _ => fun
  | [d] => { results := [.lit (.bool true)], args := [d] }
  | _ => none }
def fnExactStrictestNeedRow : OpenClaim := { program := "ytkdiedmbikkbiaa", sum := "b0c61154cbac4d11d3b635bd0d9cf53f6ab8467325f5c28b621727f441a421aa", func := "loop.example/g00909/laws.FnExactStrictestNeed", spec := "fnExactStrictestNeed", unfollowed := true, recurses := true, apart := false }
def FnExactStrictestNeedSaid : Prop := fnExactStrictestNeedRow.holds Try.pinned (OpenSpec.ofChange fnExactStrictestNeedSpec)

/-- ITS FALSE NEIGHBOUR: 'it returns false'. Refute it at one input. -/
def fnExactStrictestNeedWrong : ChangeSpec := { name := "fnExactStrictestNeed", fn := fun _ => fun
  | [d] => { results := [.lit (.bool false)], args := [d] }
  | _ => none }
def FnExactStrictestNeedWrongFalsely : Prop := fnExactStrictestNeedRow.holds Try.pinned (OpenSpec.ofChange fnExactStrictestNeedWrong)

/- THE SECOND FORM. 'bulk': how many values and letters a reading holds, each counted each time it is reached (what is shared counts as often as it is met; a slice's spare places count too). A statement '..UptoSaid' is the law's where the arguments, and the package variables that the reading takes, are together of bulk at most 1048576: NARROWER than '..Said'. Prove '..Said' where nothing that the law and all that it calls make is longer than what came in: it says more and counts as full. Else prove '..UptoSaid'. A law counts once. -/
mutual
def uptoBulk {H : Type} : DataW H → Nat
  | .lit (.string bytes) => bytes.length + 1
  | .lit _ => 1
  | .nil => 1
  | .ptr d => uptoBulk d + 1
  | .slice elems spare => uptoBulkAll elems + uptoBulkAll spare + 1
  | .agg parts => uptoBulkAll parts + 1
  | .iface _ d => uptoBulk d + 1
  | .map entries => uptoBulkEntries entries + 1
  | .held _ => 1
def uptoBulkAll {H : Type} : List (DataW H) → Nat
  | [] => 0
  | d :: r => uptoBulk d + uptoBulkAll r
def uptoBulkEntries {H : Type} : List (Lit × DataW H) → Nat
  | [] => 0
  | x :: r => uptoBulkEntry x + uptoBulkEntries r
def uptoBulkEntry {H : Type} : Lit × DataW H → Nat
  | (.string bytes, d) => bytes.length + uptoBulk d + 1
  | (_, d) => uptoBulk d + 1
 end
def uptoSmall : (H : Type) → List (DataW H) → Bool := fun _ ds => decide (uptoBulkAll ds ≤ 1048576)
def OpenSpec.upto (s : _root_.Go.ChangeSpec) : _root_.Go.OpenSpec := { _root_.Go.OpenSpec.ofChange s with cond := some uptoSmall }

/-- 'laws.FnExactIsValidTally', WHERE WHAT IT READS IS OF BULK AT MOST 1048576: true; the input reads as it did. -/
def fnExactIsValidTallyUptoRow : OpenClaim := { program := "ytkdiedmbikkbiaa", sum := "b0c61154cbac4d11d3b635bd0d9cf53f6ab8467325f5c28b621727f441a421aa", func := "loop.example/g00909/laws.FnExactIsValidTally", spec := "fnExactIsValidTally", apart := false, narrowed := true }
def FnExactIsValidTallyUptoSaid : Prop := fnExactIsValidTallyUptoRow.holds Try.pinned (OpenSpec.upto fnExactIsValidTallySpec)

/-- 'laws.FnExactIsAdopted', WHERE WHAT IT READS IS OF BULK AT MOST 1048576: true; the input reads as it did. -/
def fnExactIsAdoptedUptoRow : OpenClaim := { program := "ytkdiedmbikkbiaa", sum := "b0c61154cbac4d11d3b635bd0d9cf53f6ab8467325f5c28b621727f441a421aa", func := "loop.example/g00909/laws.FnExactIsAdopted", spec := "fnExactIsAdopted", apart := false, narrowed := true }
def FnExactIsAdoptedUptoSaid : Prop := fnExactIsAdoptedUptoRow.holds Try.pinned (OpenSpec.upto fnExactIsAdoptedSpec)

/-- 'laws.FnExactYesNeeded', WHERE WHAT IT READS IS OF BULK AT MOST 1048576: true; the input reads as it did. -/
def fnExactYesNeededUptoRow : OpenClaim := { program := "ytkdiedmbikkbiaa", sum := "b0c61154cbac4d11d3b635bd0d9cf53f6ab8467325f5c28b621727f441a421aa", func := "loop.example/g00909/laws.FnExactYesNeeded", spec := "fnExactYesNeeded", unfollowed := true, recurses := true, apart := false, narrowed := true }
def FnExactYesNeededUptoSaid : Prop := fnExactYesNeededUptoRow.holds Try.pinned (OpenSpec.upto fnExactYesNeededSpec)

/-- 'laws.FnExactMostNo', WHERE WHAT IT READS IS OF BULK AT MOST 1048576: true; the input reads as it did. -/
def fnExactMostNoUptoRow : OpenClaim := { program := "ytkdiedmbikkbiaa", sum := "b0c61154cbac4d11d3b635bd0d9cf53f6ab8467325f5c28b621727f441a421aa", func := "loop.example/g00909/laws.FnExactMostNo", spec := "fnExactMostNo", unfollowed := true, recurses := true, apart := false, narrowed := true }
def FnExactMostNoUptoSaid : Prop := fnExactMostNoUptoRow.holds Try.pinned (OpenSpec.upto fnExactMostNoSpec)

/-- 'laws.FnExactAddTallies', WHERE WHAT IT READS IS OF BULK AT MOST 1048576: true; the input reads as it did. -/
def fnExactAddTalliesUptoRow : OpenClaim := { program := "ytkdiedmbikkbiaa", sum := "b0c61154cbac4d11d3b635bd0d9cf53f6ab8467325f5c28b621727f441a421aa", func := "loop.example/g00909/laws.FnExactAddTallies", spec := "fnExactAddTallies", apart := false, narrowed := true }
def FnExactAddTalliesUptoSaid : Prop := fnExactAddTalliesUptoRow.holds Try.pinned (OpenSpec.upto fnExactAddTalliesSpec)

/-- 'laws.FnExactYesShare', WHERE WHAT IT READS IS OF BULK AT MOST 1048576: true; the input reads as it did. -/
def fnExactYesShareUptoRow : OpenClaim := { program := "ytkdiedmbikkbiaa", sum := "b0c61154cbac4d11d3b635bd0d9cf53f6ab8467325f5c28b621727f441a421aa", func := "loop.example/g00909/laws.FnExactYesShare", spec := "fnExactYesShare", apart := false, narrowed := true }
def FnExactYesShareUptoSaid : Prop := fnExactYesShareUptoRow.holds Try.pinned (OpenSpec.upto fnExactYesShareSpec)

/-- 'laws.FnExactChairMatters', WHERE WHAT IT READS IS OF BULK AT MOST 1048576: true; the input reads as it did. -/
def fnExactChairMattersUptoRow : OpenClaim := { program := "ytkdiedmbikkbiaa", sum := "b0c61154cbac4d11d3b635bd0d9cf53f6ab8467325f5c28b621727f441a421aa", func := "loop.example/g00909/laws.FnExactChairMatters", spec := "fnExactChairMatters", apart := false, narrowed := true }
def FnExactChairMattersUptoSaid : Prop := fnExactChairMattersUptoRow.holds Try.pinned (OpenSpec.upto fnExactChairMattersSpec)

/-- 'laws.FnExactStrictestNeed', WHERE WHAT IT READS IS OF BULK AT MOST 1048576: true; the input reads as it did. -/
def fnExactStrictestNeedUptoRow : OpenClaim := { program := "ytkdiedmbikkbiaa", sum := "b0c61154cbac4d11d3b635bd0d9cf53f6ab8467325f5c28b621727f441a421aa", func := "loop.example/g00909/laws.FnExactStrictestNeed", spec := "fnExactStrictestNeed", unfollowed := true, recurses := true, apart := false, narrowed := true }
def FnExactStrictestNeedUptoSaid : Prop := fnExactStrictestNeedUptoRow.holds Try.pinned (OpenSpec.upto fnExactStrictestNeedSpec)

end Rows
end Go.Proofs.Ytkdiedmbikkbiaa
