/- A Proposal that came in: its cells. No condition. -/
import Derived.Test.YtclpdpfnlmfogaaDoorOpen
import Derived.Test.YtclpdpfnlmfogaaDoorJ1
import Derived.Test.YtclpdpfnlmfogaaDoorLAmendmentSO
import Derived.ProofKit
namespace Go.Proofs.YtclpdpfnlmfogaaDoor.LProposal
open Go.ChangeShapes Go.WideShapes Go.RowKit Go.Deep Opn Bs
set_option linter.unusedVariables false
def IsIn (w : World) (a4 : Option Addr) (len4 cap4 : Nat) (r : R) : Prop := LAmendment.IsIn w a4 len4 cap4 (ch r) ∧ (Lit.int .i64 r.id).wf = true ∧ (Lit.int .i64 r.weight).wf = true
theorem IsIn.is {w : World} {a4 : Option Addr} {len4 cap4 : Nat} {r : R} (h : IsIn w a4 len4 cap4 r) : Is w (.agg #[.int .i64 r.id, .int .i64 r.kind, .int .i64 r.pos, .int .i64 r.count, .slice a4 len4 cap4, .int .i64 r.weight]) r := by
  obtain ⟨s, e, h3⟩ := LAmendment.IsIn.is h.1
  simp only [Value.agg.injEq, Array.mk.injEq, List.cons.injEq, and_true] at e
  obtain ⟨_, _, _, rfl⟩ := e
  exact ⟨_, rfl, h3⟩
theorem IsIn.fine {w : World} {a4 : Option Addr} {len4 cap4 : Nat} {r : R} (h : IsIn w a4 len4 cap4 r) : Fine r := LAmendment.IsIn.fine h.1
theorem offs : ∃ fs, Tryd.prog.underlying 99 = some (.struct fs) ∧ fs.size = 3 ∧ (fs.toList.map (fun f => (f.offset, Tryd.prog.cellsOf f.type))) = [(0, 1), (1, 4), (5, 1)] ∧ fs.toList.map (fun f => f.type) = [3, 97, 3] ∧ Tryd.prog.cellsOf 99 = 6 :=
  ⟨_, Tryd.underlying99, rfl, by kernel_rfl, rfl, by kernel_rfl⟩
end Go.Proofs.YtclpdpfnlmfogaaDoor.LProposal
