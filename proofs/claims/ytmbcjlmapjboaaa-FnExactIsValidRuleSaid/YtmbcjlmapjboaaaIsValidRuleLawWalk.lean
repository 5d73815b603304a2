/- FnExactIsValidRule: the law's walk, for every rule. -/
import Derived.Test.YtmbcjlmapjboaaaValid
import Derived.Test.YtmbcjlmapjboaaaHelp
import Derived.Test.YtmbcjlmapjboaaaOpenRule
namespace Go.Proofs.Ytmbcjlmapjboaaa.fnExactIsValidRule
open Go.RowKit
set_option linter.unusedVariables false
set_option maxHeartbeats 400000 in
theorem walk (a0 : Rule.R) (w : World) (sh : w.ShapedOpen Try.prog) (w0 : OpenRule.Fit a0) :
    Calls Try.prog 4 #[.agg #[.int .i64 a0.id, .string a0.name, .int .i64 a0.rank, .bool a0.sec, .bool a0.deb, .bool a0.am, .int .i64 a0.need]] w fun e w' => e = .returned (.bool true) ∧ Below w.heap.size w w' := by
  have hs := w0.1
  have HS := Lib.hid hs
  clear sh w0 hs
  by_cases hbig : 1048576 < a0.name.size
  · go_enter Try.func4, Try.ntmps4
    go_wp2_with fail
    refine (Help.szRule_no a0 _ _ (by omega) (by omega) HS.out).mono ?_
    rintro e w1 ⟨rfl, hb1⟩
    have hb2 := ((Below.refl w.heap.size w).alloc (Nat.le_refl _) _).trans (hb1.mono (by simp))
    go_wp2_with fail
    go_ret
    exact ⟨rfl, hb2⟩
  · have hsm : a0.name.size ≤ 1048576 := by omega
    have hne : (Rule.okB a0 != Rule.okB a0) = false := by simp
    clear hbig
    go_enter Try.func4, Try.ntmps4
    go_wp2_with fail
    refine (Help.szRule_yes a0 _ _ (by omega) (by omega)).mono ?_
    rintro e w1 ⟨rfl, hb1⟩
    have hb2 := ((Below.refl w.heap.size w).alloc (Nat.le_refl _) _).trans (hb1.mono (by simp))
    have hq := (Rule.At.box w a0 _).below hb1 (by simp)
    have hg : w.heap.size < w1.heap.size := by have := hb1.size; simp at this; omega
    clear hb1
    obtain ⟨q0, q1, q2, q3, q4, q5, q6⟩ := hq.head
    go_wp2_with fail
    refine (Help.toRule a0 _).mono ?_
    rintro e w2 ⟨rfl, hb3⟩
    have hq2 := hq.below hb3 hg
    have hg2 : w.heap.size < w2.heap.size := Nat.lt_of_lt_of_le hg hb3.size
    have hb4 := hb2.trans (hb3.mono hb2.size)
    clear q0 q1 q2 q3 q4 q5 q6 hb3 hq
    go_wp2_with fail
    refine (Valid.specValid a0 _ HS.out).mono ?_
    rintro e w3 ⟨rfl, hb5⟩
    have hq3 := hq2.below hb5 hg2
    have hg3 : w.heap.size < w3.heap.size := Nat.lt_of_lt_of_le hg2 hb5.size
    have hb6 := hb4.trans (hb5.mono hb4.size)
    clear hb5 hq2
    obtain ⟨q0, q1, q2, q3, q4, q5, q6⟩ := hq3.head
    go_wp2_with fail
    refine (Help.toRule a0 _).mono ?_
    rintro e w4 ⟨rfl, hb7⟩
    have hb8 := hb6.trans (hb7.mono hb6.size)
    clear q0 q1 q2 q3 q4 q5 q6 hb7 hq3
    go_wp2_with fail
    refine (Valid.implValid a0 _ HS.out).mono ?_
    rintro e w5 ⟨rfl, hb9⟩
    have hb10 := hb8.trans (hb9.mono hb8.size)
    clear hb9
    go_wp2_with fail
    go_ret
    exact ⟨rfl, hb10⟩
end Go.Proofs.Ytmbcjlmapjboaaa.fnExactIsValidRule
