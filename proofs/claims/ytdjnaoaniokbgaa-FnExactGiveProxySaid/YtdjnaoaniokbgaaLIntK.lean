/- Slices of Int: their type, pieces of them, append. No condition. -/
import Derived.Test.YtdjnaoaniokbgaaLIntZ
import Derived.Deep.RegionHeld3
import Derived.Deep.AppendLies
import Derived.Deep.DrawnRows
namespace Go.Proofs.Ytdjnaoaniokbgaa.LInt
open Go.RowKit Bs
set_option linter.unusedVariables false
theorem infoK : (Try.prog.info? 3).map (fun i => (i.zero, i.size, i.bytes)) = some (some (.int .i64 0), 1, 8) := by kernel_rfl
theorem startB {w : World} {A g : Nat} (h : w.heap[g]? = some (.cells #[] 3 (0, 0))) (hA : A ≤ g) : w.ownsRow A 3 1 (.slice (some ⟨g, 0, none⟩) 0 0) 0 [] :=
  ⟨rfl, .inr ⟨g, 0, #[], rfl, hA, h, Nat.le_refl _, Nat.zero_le _, rfl, rfl⟩⟩
end Go.Proofs.Ytdjnaoaniokbgaa.LInt
