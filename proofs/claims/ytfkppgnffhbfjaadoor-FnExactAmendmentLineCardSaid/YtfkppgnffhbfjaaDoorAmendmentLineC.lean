/- AmendmentLine: what it answers, on both sides. No condition. -/
import Derived.Test.YtfkppgnffhbfjaaDoorAmX
namespace Go.Proofs.YtfkppgnffhbfjaaDoor.AmendmentLineC
open Go.RowKit Bs Word Am AmL AmX
set_option linter.unusedVariables false
abbrev Ans := AmL.Ans
abbrev Post := AmX.Post
theorem same {a : M} {r0 s0 : ByteArray} {r1 s1 : Bool} (h1 : Ans a r0 r1) (h2 : Ans a s0 s1) : r0 = s0 ∧ r1 = s1 := AmL.same h1 h2
theorem spec (v0 : Value) (z0 : M) (w : World) (h0 : LAmendment.IsQ w v0 z0) (f0 : LAmendment.Fine z0) (l3 : z0.words.length ≤ 1048576) :
    Calls Tryd.prog 6 #[v0] w (Post z0 w) := specL v0 z0 w (LAmendment.IsQ.is h0) f0
theorem impl (v0 : Value) (z0 : M) (w : World) (h0 : LAmendment.IsQ w v0 z0) (f0 : LAmendment.Fine z0) (l3 : z0.words.length ≤ 1048576) :
    Calls Tryd.prog 8 #[v0] w (Post z0 w) := lineI v0 z0 w h0 f0
end Go.Proofs.YtfkppgnffhbfjaaDoor.AmendmentLineC
