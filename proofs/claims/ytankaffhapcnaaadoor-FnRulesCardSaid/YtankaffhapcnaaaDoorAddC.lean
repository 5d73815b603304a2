/- AddRule, model and program: what both answer. -/
import Derived.Test.YtankaffhapcnaaaDoorAddI
namespace Go.Proofs.YtankaffhapcnaaaDoor.AddC
open Go.RowKit Bs Ins
set_option linter.unusedVariables false
set_option maxRecDepth 100000
abbrev Ans (z0 : List LRule.R) (a1 : LRule.R) (r0 : List LRule.R) (r1 : Bool) : Prop := Ins.Ans z0 a1 r0 r1
theorem same {z0 : List LRule.R} {a1 : LRule.R} {r0 s0 : List LRule.R} {r1 s1 : Bool} (h : Ans z0 a1 r0 r1) (h' : Ans z0 a1 s0 s1) : r0 = s0 ∧ r1 = s1 := Ins.same h h'
theorem len0 {z0 : List LRule.R} {a1 : LRule.R} {r0 : List LRule.R} {r1 : Bool} (h : Ans z0 a1 r0 r1) : r0.length ≤ 1048576 := Ins.len0 h
theorem spec (v0 : Value) (z0 : List LRule.R) (a1 : LRule.R) (w : World) (h0 : IsS LRule.rec w v0 z0) (f0 : ∀ x ∈ z0, LRule.Fine x) (l0 : z0.length ≤ 1048576) (f1 : LRule.Fine a1) :
    Calls Tryd.prog 54 #[v0, .agg #[.int .i64 a1.id, .string a1.name, .int .i64 a1.rank, .bool a1.sec, .bool a1.deb, .bool a1.am, .int .i64 a1.need]] w (Post z0 a1 w) := Add.spec v0 z0 a1 w h0 f0 l0 f1
end Go.Proofs.YtankaffhapcnaaaDoor.AddC
