/- The laws' helper szPrecedence. -/
import Derived.Test.YthhlhcojjeglkabLPrecedenceD
import Derived.Test.YthhlhcojjeglkabLIntA2Z
namespace Go.Proofs.Ythhlhcojjeglkab.LPrecedence
open Go.RowKit Bs
set_option linter.unusedVariables false
def Fine (r : R) : Prop := ∀ x ∈ r.over, LIntA2.Fine x
def wt (r : R) : Nat := r.over.length + LIntA2.tot r.over
set_option maxRecDepth 100000 in
theorem sz (v : Value) (r : R) (l : Int) (w : World) (h0 : 0 ≤ l) (hl : l ≤ 1048576) (h : Is w v r) (hf : Fine r) :
    Calls Try.prog 5 #[v, .int .i64 l] w (LIntA2.Left (wt r) l w) := by
  obtain ⟨s, rfl, h⟩ := h
  obtain ⟨a, cp, rfl, h⟩ := h
  have hb := (Below.refl w.heap.size w).alloc (Nat.le_refl _) (.cells #[.int .i64 r.kinds, .slice a r.over.length cp] 24)
  have HC := Lib.hid (LIntA2.szS _ r.over l (w.alloc (.cells #[.int .i64 r.kinds, .slice a r.over.length cp] 24)) h0 hl (Bs.Is.below _ ⟨a, cp, rfl, h⟩ hb) hf)
  clear h
  have HW := Lib.hid (show wt r = r.over.length + LIntA2.tot r.over from rfl)
  go_enter Try.func5, Try.ntmps5
  go_wp2_with fail
  refine HC.out.mono ?_
  rintro e w1 ⟨hb1, x, rfl, ⟨hx0, hxl⟩ | ⟨rfl, hxl⟩⟩
  · have hb2 := hb.trans (hb1.mono hb.size)
    have HX := Lib.hid hxl
    clear hxl
    go_wp2_with fail
    go_ret
    exact ⟨hb2, -1, rfl, .inl ⟨by omega, by rw [HW.out]; exact HX.out⟩⟩
  · have hb2 := hb.trans (hb1.mono hb.size)
    go_wp2_with fail
    go_ret
    exact ⟨hb2, _, rfl, .inr ⟨by rw [HW.out]; omega, by rw [HW.out]; omega⟩⟩
end Go.Proofs.Ythhlhcojjeglkab.LPrecedence
