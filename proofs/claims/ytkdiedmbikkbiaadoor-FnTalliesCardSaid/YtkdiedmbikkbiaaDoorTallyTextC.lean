/- TallyText: what it answers, on both sides. The laid table of the program's library must lie in memory. -/
import Derived.Test.YtkdiedmbikkbiaaDoorTalX
import Derived.Test.YtkdiedmbikkbiaaDoorLTallyZ
namespace Go.Proofs.YtkdiedmbikkbiaaDoor.TallyTextC
open Go.RowKit Bs Word Tal TalT TalX
set_option linter.unusedVariables false
abbrev Ans := TalT.TAns
abbrev Post := TalX.Post
theorem same {a0 : T} {r0 s0 : ByteArray} {r1 s1 : Bool} (h1 : Ans a0 r0 r1) (h2 : Ans a0 s0 s1) : r0 = s0 ∧ r1 = s1 := TalT.tsame h1 h2
theorem spec (a0 : T) (w : World) (f0 : LTally.Fine a0) : Calls Tryd.prog 10 #[.agg #[.int .i64 a0.yes, .int .i64 a0.no, .int .i64 a0.abstain]] w (Post a0 w) := specT a0 w
theorem impl (a0 : T) (w : World) (f0 : LTally.Fine a0) (vp : Laid.Pow w) : Calls Tryd.prog 8 #[.agg #[.int .i64 a0.yes, .int .i64 a0.no, .int .i64 a0.abstain]] w (Post a0 w) := implT a0 w vp
end Go.Proofs.YtkdiedmbikkbiaaDoor.TallyTextC
