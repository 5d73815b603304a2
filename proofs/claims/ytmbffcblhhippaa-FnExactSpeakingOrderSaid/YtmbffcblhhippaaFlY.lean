/- Floors: a share put where it belongs, in the model. No condition. -/
import Derived.Test.YtmbffcblhhippaaFlYn
import Derived.Test.YtmbffcblhhippaaFlYs
namespace Go.Proofs.Ytmbffcblhhippaa.FlY
open Go.RowKit Bs Word Sq IntF Fl FlA FlG FlO FlW
set_option linter.unusedVariables false
set_option maxRecDepth 100000 in
set_option maxHeartbeats 1600000 in
theorem l8With (v0 : Value) (r : F) (s : S) (w : World) (h0 : LFloor.IsQ w v0 r) (hl3 : r.waiting.length ≤ 1048577) (hl4 : r.shares.length ≤ 1048577) :
    Calls Try.prog 50 #[v0, .agg #[.int .i64 s.member, .int .i64 s.turns, .int .i64 s.seconds]] w fun e w' => ∃ v, e = .returned v ∧ LFloor.Own w' w.heap.size v (withS r s) ∧ Below w.heap.size w w' := by
  have h1 := h0
  obtain ⟨s3, s4, rfl, h3, h4⟩ := h0
  obtain ⟨a3, n3, c3, rfl⟩ := isq_slice h3
  rcases h4 with ⟨rfl, _⟩ | ⟨b, o, c, rfl, _⟩
  · exact With_nil r s w a3 n3 c3 h1 hl3 hl4
  · exact With_some b o _ c r s w a3 n3 c3 h1 hl3 hl4
end Go.Proofs.Ytmbffcblhhippaa.FlY
