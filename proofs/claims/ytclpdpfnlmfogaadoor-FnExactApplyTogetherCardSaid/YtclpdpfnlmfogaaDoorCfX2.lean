/- The conflict of two proposals that lie in a list. No condition. -/
import Derived.Test.YtclpdpfnlmfogaaDoorCfG
import Derived.Test.YtclpdpfnlmfogaaDoorCfD
import Derived.Test.YtclpdpfnlmfogaaDoorLProposalSD
namespace Go.Proofs.YtclpdpfnlmfogaaDoor.CfX2
open Go.RowKit Bs Word Am AmA AmG Cf CfD
set_option linter.unusedVariables false
theorem conf_as (v v' : Value) (a b : M) (bv : Bool) (hv : confB a b = bv) (w : World) (h0 : LAmendment.Is w v a) (h1 : LAmendment.Is w v' b) (ga : good a = true) (gb : good b = true) :
    Calls Tryd.prog 56 #[v, v'] w fun e w' => e = .returned (.bool bv) ∧ Below w.heap.size w w' := by subst hv; exact l10Conflict v v' a b w h0 h1 ga gb
theorem is_ch {w : World} {a : Option Addr} {l d : Nat} {r : P} (h : LProposal.Is w (.agg #[.int .i64 r.id, .int .i64 r.kind, .int .i64 r.pos, .int .i64 r.count, .slice a l d, .int .i64 r.weight]) r) : LAmendment.Is w (.agg #[.int .i64 r.kind, .int .i64 r.pos, .int .i64 r.count, .slice a l d]) (ch r) := CfG.is_ch h
theorem isAt {w : World} {b o : Nat} {r : P} {a : Option Addr} {l d : Nat} (h : At LProposalS.kit.row w b o (LProposalS.hd r a l d)) : w.cell? ⟨b, o + 1, none⟩ = some (.int .i64 r.kind) ∧ w.cell? ⟨b, o + 2, none⟩ = some (.int .i64 r.pos) ∧ w.cell? ⟨b, o + 3, none⟩ = some (.int .i64 r.count) ∧ w.cell? ⟨b, o + 4, none⟩ = some (.slice a l d) := ⟨(LProposalS.cells_hd h).2.1, (LProposalS.cells_hd h).2.2.1, (LProposalS.cells_hd h).2.2.2.1, (LProposalS.cells_hd h).2.2.2.2.1⟩
end Go.Proofs.YtclpdpfnlmfogaaDoor.CfX2
