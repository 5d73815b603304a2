/- FnExactSplitString: the law's walk, for every string and every separator. -/
import Derived.Test.YtlenpaeaaobhhaaSplitAny
import Derived.Test.YtlenpaeaaobhhaaMark
import Derived.Test.YtlenpaeaaobhhaaJoinAny
import Derived.Test.YtlenpaeaaobhhaaFrame
namespace Go.Proofs.Ytlenpaeaaobhhaa.fnExactSplitString
open Go.RowKit Strs Elems
set_option linter.unusedVariables false

theorem row_kept {w w' : World} {base g n cap : Nat} {xs : List Value} (h : Mark.RowAt w base g n cap xs) (hb : Below w.heap.size w w') : Mark.RowAt w' base g n cap xs :=
  World.ownsRow.kept (row := none) h ⟨hb.os, hb.tape, hb.output, hb.size, fun j hj _ => hb.block j hj⟩ (.inr (by simp [Value.ownBlock]))
set_option maxHeartbeats 1000000 in
theorem same (s sep : ByteArray) (l : List (List UInt8)) (ok : Bool) (hs : s.size ≤ 1048576) (hp : sep.size ≤ 1048576) (hl : l.length ≤ 4001)
    (hS : ∀ w, Calls Try.prog 17 #[.string s, .string sep] w (SplitRes w l ok)) (hI : ∀ w, Calls Try.prog 10 #[.string s, .string sep] w (SplitRes w l ok)) (w : World) :
    Calls Try.prog 4 #[.string s, .string sep] w fun e w' => e = .returned (.bool true) ∧ Below w.heap.size w w' := by
  have HS := Lib.hid hS
  have HI := Lib.hid hI
  have HX := Lib.hid (bs_len l)
  have HV := Lib.hid (vals_bs l)
  clear hS hI
  go_enter Try.func4, Try.ntmps4
  go_wp2_with fail
  refine (HS.out _).mono ?_
  rintro e w1 ⟨g1, c1, rfl, hc1, ho1, hb1⟩
  rw [HV.out] at ho1
  have HA1 := Lib.hid (strs_of_owns HX.out ho1)
  clear ho1
  go_wp2_with fail
  refine (HI.out _).mono ?_
  rintro e w2 ⟨g2, c2, rfl, hc2, ho2, hb2⟩
  have ho2' := ho2
  rw [HV.out] at ho2'
  have HA2 := Lib.hid (strs_of_owns HX.out ho2')
  have HR2 : Hid (Mark.RowAt w2 w1.heap.size g2 l.length c2 (Mark.marks 1 l.length (bs l) 0)) := by
    refine Lib.hid ?_
    rw [Mark.marks_zero]
    exact ho2'
  have HA12 := Lib.hid (HA1.out.below hb2)
  have hb12 := hb1.trans (hb2.mono hb1.size)
  clear ho2 ho2'
  generalize hn : l.length = n at *
  have HN := Lib.hid hn
  clear hn
  go_wp2_with fail
  refine (Strs.eqStringS _ _ n _ _ (bs l) _ HX.out HA2.out HA12.out).mono ?_
  rintro e w3 ⟨rfl, hb3⟩
  have HR3 := Lib.hid (row_kept HR2.out hb3)
  have hb13 : Below w1.heap.size w1 w3 := hb2.trans (hb3.mono hb2.size)
  clear HA12 HA2 HR2 hb2 hb12
  cases ok
  all_goals
    go_wp2_with fail
    refine (Mark.markStringS w1.heap.size g2 n c2 1 (bs l) _ HX.out hc2 (by omega) (by omega) hb13.size HR3.out).mono ?_
    rintro e w4 ⟨rfl, hr4, hb4, hz4⟩
    have HR4 := Lib.hid hr4
    have hb14 := hb13.trans hb4
    clear hr4 HR3 hb13 hb4
    go_wp2_with fail
    refine (Mark.heldStringS w1.heap.size g2 n c2 1 (bs l) _ HX.out hc2 (by omega) (by omega) HR4.out).mono ?_
    rintro e w5 ⟨rfl, hb5⟩
    have hb15 := hb14.trans (hb5.mono hb14.size)
    have HA5 := Lib.hid (HA1.out.below hb15)
    have HR5 := Lib.hid (row_kept HR4.out hb5)
    clear HR4 hb14 hb5
    go_wp2_with fail
    refine (HI.out _).mono ?_
    rintro e w6 ⟨g6, c6, rfl, hc6, ho6, hb6⟩
    rw [HV.out] at ho6
    rw [HN.out] at ho6 ⊢
    have HA6 := Lib.hid (strs_of_owns HX.out ho6)
    have HA16 := Lib.hid (HA5.out.below hb6)
    have HR6 := Lib.hid (row_kept HR5.out hb6)
    have hb16 := hb15.trans (hb6.mono hb15.size)
    clear ho6 HA5 HR5 hb15 hb6
    go_wp2_with fail
    refine (Strs.eqStringS _ _ n _ _ (bs l) _ HX.out HA6.out HA16.out).mono ?_
    rintro e w7 ⟨rfl, hb7⟩
    have hb17 := (hb1.trans (hb16.mono hb1.size)).trans (hb7.mono (Nat.le_trans hb1.size hb16.size))
    have HR7 := Lib.hid (row_kept HR6.out hb7)
    clear hb16 hb7 HR6 HA6 HA16
    go_wp2_with fail
    refine (Mark.heldStringS w1.heap.size g2 n c2 1 (bs l) _ HX.out hc2 (by omega) (by omega) HR7.out).mono ?_
    rintro e w8 ⟨rfl, hb8⟩
    have hb18 := hb17.trans (hb8.mono hb17.size)
    clear HR7 hb17 hb8
    go_wp2_with fail
    go_ret
    exact ⟨rfl, hb18⟩

set_option maxHeartbeats 400000 in
theorem walk (a0 : ByteArray) (a1 : ByteArray) (w : World) (sh : w.ShapedOpen Try.prog) (w0 : a0.size ≤ maxLen) (w1 : a1.size ≤ maxLen) :
    Calls Try.prog 4 #[.string a0, .string a1] w fun e w' => e = .returned (.bool true) ∧ Below w.heap.size w w' := by
  have hm := w0
  unfold maxLen at w0 w1
  by_cases h0 : 1048576 < a0.size
  · clear hm
    go_enter Try.func4, Try.ntmps4
    go_wp2_with fail
    go_ret
    exact ⟨rfl, Below.refl _ _⟩
  · by_cases h1 : 1048576 < a1.size
    · have h0' : a0.size ≤ 1048576 := by omega
      clear hm h0
      go_enter Try.func4, Try.ntmps4
      go_wp2_with fail
      go_ret
      exact ⟨rfl, Below.refl _ _⟩
    · by_cases h2 : 4000 < a0.size ∨ a1.size ≠ 1
      · exact same a0 a1 [] false (by omega) (by omega) (by simp) (spec_bad a0 a1 h2 hm) (impl_bad a0 a1 h2 hm) w
      · obtain ⟨c, rfl⟩ := Join.one_byte (s := a1) (by omega)
        have hl := SplitMath.splitOf_length a0.data.toList c
        have hz : a0.data.toList.length = a0.size := Array.length_toList
        exact same a0 _ (SplitMath.splitOf a0.data.toList c) true (by omega) (by omega) (by omega) (spec_res a0 c (by omega)) (impl_res a0 c (by omega)) w
end Go.Proofs.Ytlenpaeaaobhhaa.fnExactSplitString
