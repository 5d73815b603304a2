/- FnExactJoinStrings: the law's walk, for every slice of strings and every separator. -/
import Derived.Test.YtlenpaeaaobhhaaJoinAny
import Derived.Test.YtlenpaeaaobhhaaFrame
namespace Go.Proofs.Ytlenpaeaaobhhaa.fnExactJoinStrings
open Go.RowKit Strs
set_option linter.unusedVariables false
set_option maxHeartbeats 400000 in
theorem walk (a0 : Option Addr) (len0 cap0 : Nat) (z0 : List ByteArray) (a1 : ByteArray) (w : World) (sh : w.ShapedOpen Try.prog) (w0 : Frame.IsStrs w a0 len0 cap0 z0) (w1 : a1.size ≤ maxLen) :
    Calls Try.prog 5 #[.slice a0 len0 cap0, .string a1] w fun e w' => e = .returned (.bool true) ∧ Below w.heap.size w w' := by
  clear sh
  obtain ⟨hn, hS⟩ := strsAt_of w0
  have hM : Hid (∀ x ∈ z0.take len0, x.size ≤ maxLen) := by
    intro x hx
    have hx := List.mem_of_mem_take hx
    rcases w0 with ⟨_, _, _, rfl⟩ | ⟨_, _, _, _, _, _, h⟩
    · cases hx
    · exact h x hx
  clear w0
  generalize z0.take len0 = xs at *
  have HN := Lib.hid hn
  have HS := Lib.hid hS
  clear hn hS
  unfold maxLen at w1
  by_cases hbig : 1048576 < a1.size
  · go_enter Try.func5, Try.ntmps5
    go_wp2_with fail
    go_ret
    exact ⟨rfl, Below.refl _ _⟩
  · have hsm : a1.size ≤ 1048576 := by omega
    clear hbig
    go_enter Try.func5, Try.ntmps5
    go_wp2_with fail
    refine (Strs.szStringS a0 len0 cap0 xs _ HN.out HS.out hM.out).mono ?_
    rintro e w' ⟨rfl, r, rfl, ⟨hr, _⟩ | ⟨hr, hr2, hsmall⟩⟩
    · go_wp2_with fail
      go_ret
      exact ⟨rfl, Below.refl _ _⟩
    · have hle : len0 ≤ 1048576 := by unfold Strs.Small at hsmall; omega
      have hX : Hid (∀ x ∈ xs, x.size ≤ 1048576) := fun x hx => by
        have := mem_le xs x hx
        unfold Strs.Small at hsmall
        omega
      clear hsmall
      go_wp2_with fail
      refine (Strs.toStringS a0 len0 cap0 xs _ HN.out HS.out hle).mono ?_
      rintro e w1' ⟨rfl, hc1, hb1⟩
      have HC1 := Lib.hid hc1
      clear hc1
      go_wp2_with fail
      refine (Join.spec_any _ len0 _ xs a1 _ HN.out HC1.out hX.out).mono ?_
      rintro e w2 ⟨r1, ok1, rfl, hres1, hb2⟩
      have hb12 := hb1.trans (hb2.mono hb1.size)
      have HR1 := Lib.hid hres1
      clear hres1 hb1 hb2 HC1
      go_wp2_with fail
      refine (Strs.toStringS a0 len0 cap0 xs _ HN.out (HS.out.below hb12) hle).mono ?_
      rintro e w3 ⟨rfl, hc3, hb3⟩
      have HC3 := Lib.hid hc3
      have hb13 := hb12.trans (hb3.mono hb12.size)
      clear hc3 hb12 hb3
      go_wp2_with fail
      refine (Join.impl_any _ len0 _ xs a1 _ HN.out HC3.out hle hX.out).mono ?_
      rintro e w4 ⟨r2, ok2, rfl, hres2, hb4⟩
      obtain ⟨rfl, rfl⟩ := HR1.out.uniq hres2
      have HC4 := Lib.hid (HC3.out.below hb4)
      have hb14 := hb13.trans (hb4.mono hb13.size)
      clear hres2 HC3 hb13 hb4 HR1
      cases ok2
      all_goals
        go_wp2_with fail
        refine (Strs.toStringS a0 len0 cap0 xs _ HN.out (HS.out.below hb14) hle).mono ?_
        rintro e w5 ⟨rfl, hc5, hb5⟩
        have HC5 := Lib.hid hc5
        have HC6 := Lib.hid (HC4.out.below hb5)
        have hb15 := hb14.trans (hb5.mono hb14.size)
        clear hc5 hb5 HC4
        go_wp2_with fail
        refine (Strs.eqStringS _ _ len0 _ _ xs _ HN.out HC6.out HC5.out).mono ?_
        rintro e w6 ⟨rfl, hb6⟩
        have hb16 := hb15.trans (hb6.mono hb15.size)
        clear hb15 hb6
        go_wp2_with fail
        go_ret
        exact ⟨rfl, hb16⟩
end Go.Proofs.Ytlenpaeaaobhhaa.fnExactJoinStrings
