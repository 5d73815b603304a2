/- The draw of a spoilt text. No condition. -/
import Derived.Test.YtankaffhapcnaaaDoorDrawB
import Derived.Test.YtankaffhapcnaaaDoorLive
import Derived.Test.YtankaffhapcnaaaDoorJ1
import Derived.Deep.DeepCutAuto
namespace Go.Proofs.YtankaffhapcnaaaDoor.Draw
open Go.RowKit Cur Bs
set_option linter.unusedVariables false
theorem eq_yes {a b : ByteArray} (h : (a.toList == b.toList) = true) : a = b := by
  have h1 : a.toList = b.toList := by simpa using h
  rw [ByteArray.toList_eq, ByteArray.toList_eq] at h1
  apply ByteArray.ext
  exact Array.toList_inj.1 h1
def Spoils (w : World) (B m n : Nat) (e : Ending) (w' : World) : Prop := ∃ s : ByteArray, e = .returned (.string s) ∧ s.size ≤ n ∧ Cur w' B m ∧ w.grownBy w' (some B)
set_option maxRecDepth 100000 in
set_option maxHeartbeats 1600000 in
theorem spoilt (B m : Nat) (t u : ByteArray) (w : World) (h : Cur w B m) (hm : m < 700000) (ht : t.size ≤ 60000) (h0 : 1 ≤ u.size) (h1 : u.size ≤ 60000) :
    Calls Tryd.prog 31 #[.pointer (some ⟨B, 0, none⟩), .string t, .string u] w (Spoils w B (m + 10) (t.size + 1)) := by
  have HC := Lib.hid h
  clear h
  have u0 : (1 : Int) ≤ (u.size : Int) := by omega
  by_cases hz : t = ⟨#[]⟩
  · subst hz
    go_enter Tryd.func31, Tryd.ntmps31
    go_wp2_with fail
    go_ret
    exact ⟨_, rfl, by simp [ByteArray.size_extract]; omega, HC.out.mono (by omega), grown_refl _ _⟩
  · have hpos : 0 < t.size := by
      rcases Nat.eq_zero_or_pos t.size with h | h
      · exact absurd (ByteArray.size_eq_zero_iff.1 h) hz
      · exact h
    have hl : (t.toList == []) = false := by
      cases hh : t.toList == [] with
      | false => rfl
      | true => exact absurd (eq_yes (b := ⟨#[]⟩) (by rw [hh.symm]; simp)) hz
    go_enter Tryd.func31, Tryd.ntmps31
    go_wp2_with fail
    refine (pick B m (t.size : Int) w HC.out (by omega) (by omega) (by omega)).mono ?_
    rintro e w1 ⟨i, rfl, i0, i1, hc1, hg1⟩
    obtain ⟨i, rfl⟩ := Int.eq_ofNat_of_zero_le i0
    have hi : i < t.size := by omega
    replace HC := Lib.hid hc1
    clear hc1 i0 i1
    go_wp2_with fail
    refine (pick B _ (u.size : Int) _ HC.out (by omega) (by omega) (by omega)).mono ?_
    rintro e w2 ⟨j, rfl, j0, j1, hc2, hg2⟩
    obtain ⟨j, rfl⟩ := Int.eq_ofNat_of_zero_le j0
    have hj : j < u.size := by omega
    have hju : (u.extract j u.size).size = u.size - j := by simp [ByteArray.size_extract]
    have hj2 : 1 ≤ u.size - j := by omega
    replace HC := Lib.hid hc2
    have hg12 := grown_trans hg1 hg2
    clear hc2 j0 j1 hg1 hg2
    go_upto_region 5 with fail
    go_wp2_with fail
    refine (pick B _ 3 _ HC.out (by omega) (by omega) (by omega)).mono ?_
    rintro e w3 ⟨r, rfl, r0, r1, hc3, hg3⟩
    replace HC := Lib.hid (hc3.mono (m' := m + 10) (by omega))
    have hg := grown_trans hg12 hg3
    clear hc3 hg12 hg3
    have s1 : IntKind.i64.wrap ((i : Int) + 1) = (i : Int) + 1 := IntWalk.i64_in _ (by omega)
    have hi1 : (i : Int) ≤ (t.size : Int) := by omega
    have hi2 : (i : Int) + 1 ≤ (t.size : Int) := by omega
    by_cases e0 : r = 0
    · subst e0
      skip
      go_upto_region 7 with fail
      go_quiet (fail)
      have HCq := Lib.hid (HC.out.kept (drawn_below _ nq))
      have hgq := grown_of_below hg (drawn_below _ nq)
      clear HC
      go_wp2_with fail
      go_ret
      exact ⟨_, rfl, by simp [ByteArray.size_append, ByteArray.size_extract]; omega, HCq.out, hgq⟩
    · have b0 : (r == 0) = false := by simp [e0]
      by_cases e1 : r = 1
      · subst e1
        skip
        go_upto_region 9 with fail
        go_quiet (fail)
        have HCq := Lib.hid (HC.out.kept (drawn_below _ nq))
        have hgq := grown_of_below hg (drawn_below _ nq)
        clear HC
        go_wp2_with fail
        go_ret
        exact ⟨_, rfl, by simp [ByteArray.size_append, ByteArray.size_extract]; omega, HCq.out, hgq⟩
      · have b1 : (r == 1) = false := by simp [e1]
        skip
        go_upto_region 10 with fail
        go_quiet (fail)
        have HCq := Lib.hid (HC.out.kept (drawn_below _ nq))
        have hgq := grown_of_below hg (drawn_below _ nq)
        clear HC
        go_wp2_with fail
        go_ret
        exact ⟨_, rfl, by simp [ByteArray.size_append, ByteArray.size_extract]; omega, HCq.out, hgq⟩
end Go.Proofs.YtankaffhapcnaaaDoor.Draw
