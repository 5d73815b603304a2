/- Slices of Proxy: their type, pieces of them, append. No condition. -/
import Derived.Test.YtdjnaoaniokbgaaLProxyZ
import Derived.Deep.RegionHeld3
import Derived.Deep.AppendLies
import Derived.Deep.DrawnRows
namespace Go.Proofs.Ytdjnaoaniokbgaa.LProxy
open Go.RowKit Bs
set_option linter.unusedVariables false
theorem infoK : (Try.prog.info? 70).map (fun i => (i.zero, i.size, i.bytes)) = some (some (.agg #[.int .i64 0, .int .i64 0]), 2, 16) := by kernel_rfl
theorem startB {w : World} {A g : Nat} (h : w.heap[g]? = some (.cells #[] 70 (0, 0))) (hA : A ≤ g) : w.ownsRow A 70 2 (.slice (some ⟨g, 0, none⟩) 0 0) 0 [] :=
  ⟨rfl, .inr ⟨g, 0, #[], rfl, hA, h, Nat.le_refl _, Nat.zero_le _, rfl, rfl⟩⟩
end Go.Proofs.Ytdjnaoaniokbgaa.LProxy
