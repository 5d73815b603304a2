/- Slices of AgendaItem: their type, pieces of them, append. No condition. -/
import Derived.Test.YthadmkfmgpddoaaDoorLAgendaItemZ
import Derived.Deep.RegionHeld3
import Derived.Deep.AppendLies
import Derived.Deep.DrawnRows
namespace Go.Proofs.YthadmkfmgpddoaaDoor.LAgendaItem
open Go.RowKit Bs
set_option linter.unusedVariables false
theorem infoK : (Tryd.prog.info? 31).map (fun i => (i.zero, i.size, i.bytes)) = some (some (.agg #[.int .i64 0, .string ⟨#[]⟩, .int .i64 0, .int .i64 0]), 4, 40) := by kernel_rfl
theorem startB {w : World} {A g : Nat} (h : w.heap[g]? = some (.cells #[] 31 (0, 0))) (hA : A ≤ g) : w.ownsRow A 31 4 (.slice (some ⟨g, 0, none⟩) 0 0) 0 [] :=
  ⟨rfl, .inr ⟨g, 0, #[], rfl, hA, h, Nat.le_refl _, Nat.zero_le _, rfl, rfl⟩⟩
end Go.Proofs.YthadmkfmgpddoaaDoor.LAgendaItem
