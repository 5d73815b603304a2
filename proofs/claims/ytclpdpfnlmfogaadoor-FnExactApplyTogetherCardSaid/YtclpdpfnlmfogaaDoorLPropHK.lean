/- Slices of PropH: their type, pieces of them, append. No condition. -/
import Derived.Test.YtclpdpfnlmfogaaDoorLPropHD
import Derived.Deep.RegionHeld3
import Derived.Deep.AppendLies
import Derived.Deep.DrawnRows
namespace Go.Proofs.YtclpdpfnlmfogaaDoor.LPropH
open Go.RowKit Bs
set_option linter.unusedVariables false
theorem infoK : (Tryd.prog.info? 42).map (fun i => (i.zero, i.size, i.bytes)) = some (some (.agg #[.int .i64 0, .int .i64 0, .int .i64 0, .int .i64 0, .slice none 0 0, .int .i64 0]), 6, 64) := by kernel_rfl
theorem startB {w : World} {A g : Nat} (h : w.heap[g]? = some (.cells #[] 42 (0, 0))) (hA : A ≤ g) : w.ownsRow A 42 6 (.slice (some ⟨g, 0, none⟩) 0 0) 0 [] :=
  ⟨rfl, .inr ⟨g, 0, #[], rfl, hA, h, Nat.le_refl _, Nat.zero_le _, rfl, rfl⟩⟩
end Go.Proofs.YtclpdpfnlmfogaaDoor.LPropH
