/- AddRule: the program's function. -/
import Derived.Test.YtankaffhapcnaaaDoorAdd
import Derived.Test.YtankaffhapcnaaaDoorConcat
import Derived.Test.YtankaffhapcnaaaDoorJ1
namespace Go.Proofs.YtankaffhapcnaaaDoor.AddI
open Go.RowKit Bs Ins
set_option linter.unusedVariables false
set_option maxRecDepth 100000
theorem good (v : Value) (xs : List LRule.R) (w : World) (h : Is LRule.rec w v xs) (f : ∀ x ∈ xs, LRule.Fine x) : Calls Tryd.prog 16 #[v] w (Gd.GoodPost xs w) := by
  obtain ⟨a, c, rfl, h1⟩ := h
  exact GoodI.isValidRules a _ c xs w rfl (RuleC.rules h1) f
end Go.Proofs.YtankaffhapcnaaaDoor.AddI
