/- The indices in a set: the program. No condition. -/
import Derived.Test.YtclpdpfnlmfogaaDoorCfN
import Derived.Test.YtclpdpfnlmfogaaDoorJ1
import Derived.Test.YtclpdpfnlmfogaaDoorLIntK
import Derived.Laws.Bits64b
import Derived.IntWalk
namespace Go.Proofs.YtclpdpfnlmfogaaDoor.CfJ
open Go.RowKit Bs Word Am Cf CfM CfN
set_option linter.unusedVariables false
set_option maxRecDepth 100000 in
set_option maxHeartbeats 1600000 in
theorem indicesIn (x n : Nat) (w : World) (hn : n ≤ 8) (hx : x < 2 ^ n) (hT : Laid.T64 w) :
    Calls Tryd.prog 77 #[.int .u64 x] w fun e w' => ∃ g c, e = .returned (.slice (some ⟨g, 0, none⟩) (bitsL x n).length c) ∧ Own LInt.rec 3 w' w.heap.size (.slice (some ⟨g, 0, none⟩) (bitsL x n).length c) (ints (bitsL x n)) ∧ Below w.heap.size w w' := by
  obtain ⟨i9, hi, hz0, hz1, hz2⟩ := info_parts LInt.infoK
  have HI9 := Lib.hid hi
  have HZ9 := Lib.hid (And.intro hz0 (And.intro hz1 hz2))
  clear hi hz0 hz1 hz2
  have h8 : x < 256 := Nat.lt_of_lt_of_le hx (show 2 ^ n ≤ 2 ^ 8 from Nat.pow_le_pow_right (by decide) hn)
  have HX := Lib.hid hx
  have HTL := Lib.hid hT
  clear hT hx
  have HO := Lib.hid (Own.start (T := LInt.rec) (E := 3) (w := w) (Nat.le_refl _))
  have hb := (Below.refl w.heap.size w).alloc (Nat.le_refl _) (Obj.cells #[] 3)
  go_enter Tryd.func77, Tryd.ntmps77
  go_wp2_with fail
  go_loopw [3, 4] (fun so r wr => ∃ (y : Nat) (js : List Nat) (o : Value), o = so ∧ r = .int .u64 (y : Nat) ∧ y ≤ x ∧ js.length ≤ 64 ∧ Hid (js ++ bitsL y n = bitsL x n) ∧ Hid (Own LInt.rec 3 wr w.heap.size o (ints js)) ∧ Hid (∃ g, o.ownBlock = some g) ∧ Below w.heap.size w wr) (fun _ r _ => (intOf r).toNat)
  case atStart => exact ⟨x, [], _, rfl, rfl, Nat.le_refl _, by simp, Lib.hid rfl, HO, Lib.hid ⟨_, rfl⟩, hb⟩
  case round =>
    clear HO hb
    obtain ⟨y, js, ov, rfl, rfl, hyx, hjl, HJ, HO, HNN, hb⟩ := hrel
    by_cases hy : y = 0
    · subst hy
      have HE := Lib.hid (show js = bitsL x n by have h := HJ.out; rwa [bits_zero, List.append_nil] at h)
      have e1 : (((0 : Nat) : Int) != 0) = false := rfl
      go_wp2_with fail
      go_ret
      obtain ⟨g0, hg0⟩ := HNN.out
      have ho := HO.out
      rw [HE.out] at ho
      rcases ho.shape with ⟨rfl, _⟩ | ⟨g, c, rfl, _⟩
      · cases hg0
      · rw [ints_len] at ho ⊢
        exact ⟨g, c, rfl, ho, hb⟩
    · have e1 : ((y : Int) != 0) = true := bne_iff_ne.2 (by omega)
      have hy64 : y < 18446744073709551616 := by omega
      have HC := Lib.hid (Tz.tz y hy64 hy wr (Laid.T64.below HTL.out hb))
      have HB := Lib.hid (bits_cons hy hy64 (show y < 2 ^ n from Nat.lt_of_le_of_lt hyx HX.out))
      have HLT := Lib.hid (rest_lt hy hy64)
      have s1 : IntKind.u64.wrap ((y : Int) - 1) = ((y - 1 : Nat) : Int) := by rw [IntKind.wrap_u64]; omega
      have s2 := bits_and_u64_nat y (y - 1) hy64 (by omega)
      have hsz := hb.size
      have HJL := Lib.hid (show js.length + 1 ≤ 64 by
        have h := congrArg List.length HJ.out
        rw [HB.out, List.length_append, List.length_cons] at h
        have := bits_len x n
        omega)
      have hil := ints_len js
      have hjl2 : (ints js).length ≤ 64 := by omega
      clear hy hil
      go_wp2_with fail
      refine HC.out.mono ?_
      rintro e _ ⟨rfl, rfl⟩
      rw [show y &&& (y - 1) = rest y from rfl] at s2
      generalize Lib.ctz 64 y = C at *
      generalize rest y = Y at *
      go_wp2_with (at_builtin; refine wpList_append_own_at _ rfl (.tmp 13) (.tmp 16) 48 rfl w.heap.size 3 i9 (.int .i64 0) 1 8 Tryd.underlying48 HI9.out HZ9.out.1 HZ9.out.2.1 HZ9.out.2.2 rfl (by decide) _ _ _ rfl (Own.kept HO.out (by (repeat (first | assumption | exact Below.refl _ _ | refine Below.drew ?_ | refine Below.setCell ?_ (by first | (simp; done) | (simp; omega) | omega) _ | refine Below.alloc ?_ (by first | (simp; done) | (simp; omega) | omega) _)))) ⟨_, 0, none⟩ 1 1 [.int .i64 (C : Int)] rfl rfl ?c1 ?c2 ?c3 ?c4 ?c5 ?c6)
      try (case c1 => first | exact World.news_of_block (heap_alloc_new _ _) | exact World.news_of_block (alloc_two _ _ _))
      case c2 => first | rfl | (intro u hu; simp only [List.mem_cons, List.not_mem_nil, or_false] at hu; subst hu; rfl)
      case c3 => unfold maxLen; omega
      case c4 => omega
      case c5 => first | (simp; done) | (simp; omega) | omega
      case c6 =>
        intro v' w4 hown' hgrow hnn hat
        have hb3 : Below w.heap.size w w4 := Below.grown (by (repeat (first | assumption | exact Below.refl _ _ | refine Below.drew ?_ | refine Below.setCell ?_ (by first | (simp; done) | (simp; omega) | omega) _ | refine Below.alloc ?_ (by first | (simp; done) | (simp; omega) | omega) _))) hgrow (by first | (simp; done) | (simp; omega) | omega) (fun j hj => (HO.out.lt j hj).1)
        have HO2 := Lib.hid (show Own LInt.rec 3 w4 w.heap.size v' (ints (js ++ [C])) from own_of LInt.rec hown' (by rw [ints_snoc]; simp) (by rw [ints_snoc, flat_append]; rfl))
        have HN2 := Lib.hid (show ∃ g, v'.ownBlock = some g from by
          rcases hat with e | e
          · rw [e]; exact HNN.out
          · exact ⟨_, e⟩)
        have HJ2 := Lib.hid (show (js ++ [C]) ++ bitsL Y n = bitsL x n by rw [List.append_assoc]; show js ++ (C :: bitsL Y n) = _; rw [← HB.out]; exact HJ.out)
        have hjl3 := HJL.out
        clear hown' hgrow hat hnn
        go_wp2_with fail
        go_roundw
        case rel => exact ⟨Y, js ++ [C], _, rfl, rfl, by have := HLT.out; omega, by simp; omega, HJ2, HO2, HN2, hb3⟩
        case measure => have := HLT.out; simp [intOf]; omega
end Go.Proofs.YtclpdpfnlmfogaaDoor.CfJ
