/- ParseTally: what it answers, on both sides. The laid package variables of the program's library must lie in memory for the program. -/
import Derived.Test.YtkdiedmbikkbiaaDoorTalP
namespace Go.Proofs.YtkdiedmbikkbiaaDoor.ParseTallyC
open Go.RowKit Bs Word Tal TalT TalP
set_option linter.unusedVariables false
abbrev Ans := TalT.Ans
abbrev Post := TalP.Post
theorem same {a0 : ByteArray} {r0 s0 : T} {r1 s1 : Bool} (h1 : Ans a0 r0 r1) (h2 : Ans a0 s0 s1) : r0 = s0 ∧ r1 = s1 := TalT.same h1 h2
theorem spec (a0 : ByteArray) (w : World) (hs0 : a0.size ≤ 1048576) : Calls Tryd.prog 12 #[.string a0] w (Post a0 w) := specP a0 w hs0
theorem impl (a0 : ByteArray) (w : World) (hs0 : a0.size ≤ 1048576) (vp : Laid.Pow w) (vr : Laid.Err "strconv.ErrRange" w) (vs : Laid.Err "strconv.ErrSyntax" w) : Calls Tryd.prog 9 #[.string a0] w (Post a0 w) := implP a0 w hs0 vp vr vs
end Go.Proofs.YtkdiedmbikkbiaaDoor.ParseTallyC
