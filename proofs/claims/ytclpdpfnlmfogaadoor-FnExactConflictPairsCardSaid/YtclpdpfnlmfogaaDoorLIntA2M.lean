/- The laws' helpers markIntA2S, heldIntA2S: a slice written over, and read again. -/
import Derived.Test.YtclpdpfnlmfogaaDoorLIntA2D
import Derived.Test.YtclpdpfnlmfogaaDoorMarkT
namespace Go.Proofs.YtclpdpfnlmfogaaDoor.LIntA2
open Go.RowKit Bs
set_option linter.unusedVariables false
/-- what is written where the count stands at c -/
def mk (c : Nat) : R := ⟨(c : Int), (c : Int) + 1⟩
def marks (m : Nat) (ys : List R) (k : Nat) : List R := (List.range k).map (fun j => mk (m + 2 * j)) ++ ys.drop k
theorem marks_zero (m : Nat) (ys : List R) : marks m ys 0 = ys := by simp [marks]
theorem marks_len (m k : Nat) (ys : List R) (hk : k ≤ ys.length) : (marks m ys k).length = ys.length := by simp [marks]; omega
theorem marks_at (m k : Nat) (ys : List R) (hk : k < ys.length) : (marks m ys k)[k]? = some ys[k] := by
  unfold marks
  have hl : ((List.range k).map fun j => mk (m + 2 * j)).length = k := by simp
  rw [List.getElem?_append_right (by omega), hl, Nat.sub_self, List.getElem?_drop, Nat.add_zero, List.getElem?_eq_getElem hk]
theorem marks_set (m k : Nat) (ys : List R) (hk : k < ys.length) : (marks m ys k).set k (mk (m + 2 * k)) = marks m ys (k + 1) := by
  unfold marks
  have hl : ((List.range k).map fun j => mk (m + 2 * j)).length = k := by simp
  rw [List.set_append_right _ _ (by omega), hl, Nat.sub_self, List.drop_eq_getElem_cons hk, List.set_cons_zero, List.range_succ, List.map_append, List.append_assoc]
  rfl
theorem marks_all (m : Nat) (ys : List R) (j : Nat) (hj : j < ys.length) : (marks m ys ys.length)[j]? = some (mk (m + 2 * j)) := by
  unfold marks
  rw [List.getElem?_append_left (by simpa using hj), List.getElem?_map, List.getElem?_range hj]
  rfl
def Marked (w : World) (A B m : Nat) (v : Value) (ys : List R) (e : Ending) (w' : World) : Prop :=
  e = .returned (.int .i64 (m + 2 * ys.length : Nat)) ∧ OwnB rec 55 A B v (marks m ys ys.length) w' ∧ Apart A B w w'
theorem mark0 (A B m : Nat) (a : Option Addr) (c : Nat) (w : World) (h : OwnB rec 55 A B (.slice a 0 c) [] w) :
    Calls Tryd.prog 46 #[.slice a 0 c, .int .i64 m] w (Marked w A B m (.slice a 0 c) []) := by
  have HO := Lib.hid h
  clear h
  go_enter Tryd.func46, Tryd.ntmps46
  go_wp2_with fail
  go_loop [1, 5] (fun q i => q = .int .i64 m ∧ i = .int .i64 0) (fun _ i => 0)
  case atStart => exact ⟨rfl, rfl⟩
  case round =>
    obtain ⟨rfl, rfl⟩ := hrel
    go_wp2_with fail
    go_ret
    exact ⟨rfl, HO.out, Apart.refl _ _ _⟩
/-- a store of the first, of both numbers at a place -/
theorem put1 {w : World} {A g n cap k : Nat} {ys : List R} {Y : R} (hn : ys.length = n) (h : OwnR w A g n cap ys) (hY : ys[k]? = some Y) (c : Int) : OwnR (w.setCell ⟨g, k * 2, none⟩ (.int .i64 c)) A g n cap (ys.set k ⟨c, Y.b⟩) := by
  have h0 := Own.put hn h k 0 Y ⟨c, Y.b⟩ (.int .i64 c) hY (by decide) rfl
  rwa [rec_n, Nat.add_zero] at h0
theorem put2 {w : World} {A g n cap k : Nat} {ys : List R} {Y : R} (hn : ys.length = n) (h : OwnR w A g n cap ys) (hY : ys[k]? = some Y) (c : Int) : OwnR (w.setCell ⟨g, k * 2 + 1, none⟩ (.int .i64 c)) A g n cap (ys.set k ⟨Y.a, c⟩) := by
  have h0 := Own.put hn h k 1 Y ⟨Y.a, c⟩ (.int .i64 c) hY (by decide) rfl
  rwa [rec_n] at h0
set_option maxRecDepth 100000 in
set_option maxHeartbeats 1600000 in
theorem markS (A B m : Nat) (v : Value) (ys : List R) (w : World) (hm0 : 0 < m) (hm : m + 2 * ys.length ≤ 8000000) (h : OwnB rec 55 A B v ys w) :
    Calls Tryd.prog 46 #[v, .int .i64 m] w (Marked w A B m v ys) := by
  rcases h.1.shape with ⟨rfl, rfl⟩ | ⟨g, cap, rfl, hg1, hg2, hcap, hcm⟩
  · exact mark0 A B m _ _ w h
  have hgB : g < B := h.2 g rfl
  unfold maxLen at hcm
  have HB := Lib.hid h.2
  obtain ⟨n, hn⟩ : ∃ n, n = ys.length := ⟨_, rfl⟩
  have HN := Lib.hid hn.symm
  have HO0 := Lib.hid (show OwnR w A g n cap (marks m ys 0) by rw [marks_zero, hn]; exact h.1)
  have hln : n ≤ ys.length := by omega
  rw [← hn] at hm hcap
  rw [show ys.length = n from hn.symm]
  clear h hn
  go_enter Tryd.func46, Tryd.ntmps46
  go_wp2_with fail
  go_loopw [1, 5] (fun q i wr => ∃ k : Nat, k ≤ n ∧ i = .int .i64 k ∧ q = .int .i64 (m + 2 * k : Nat) ∧ Hid (OwnR wr A g n cap (marks m ys k)) ∧ Hid (Apart A B w wr)) (fun _ i _ => n - (intOf i).toNat)
  case atStart => exact ⟨0, Nat.zero_le _, rfl, rfl, HO0, Lib.hid (Apart.refl A B w)⟩
  case round =>
    clear HO0
    obtain ⟨k, hk, rfl, rfl, HR, HTu⟩ := hrel
    by_cases hlt : k < n
    · have hx : k < ys.length := by omega
      have HY := Lib.hid (marks_at m k ys hx)
      have HSet := Lib.hid (marks_set m k ys hx)
      have HLen := Lib.hid (show (marks m ys k).length = n by rw [marks_len m k ys (by omega)]; exact HN.out)
      obtain ⟨C, hC⟩ : ∃ C : Nat, C = m + 2 * k := ⟨_, rfl⟩
      have hC2 : C + 2 ≤ 8000000 := by omega
      have hC0 : 0 < C := by omega
      have HC := Lib.hid hC
      rw [← hC] at HSet ⊢
      clear hC
      have HK1 := Lib.hid (show k < (marks m ys k).length by rw [HLen.out]; exact hlt)
      generalize ys[k] = Y at *
      generalize hM : marks m ys k = M at *
      clear hM
      go_wp2_with fail
      go_loopw [1, 6] (fun q j ws => (q = .int .i64 (C : Nat) ∧ j = .int .i64 0 ∧ Hid (OwnR ws A g n cap M) ∧ Hid (Apart A B w ws)) ∨ (q = .int .i64 (C + 1 : Nat) ∧ j = .int .i64 1 ∧ Hid (OwnR ws A g n cap (M.set k ⟨(C : Int), Y.b⟩)) ∧ Hid (Apart A B w ws)) ∨ (q = .int .i64 (C + 2 : Nat) ∧ j = .int .i64 2 ∧ Hid (OwnR ws A g n cap (marks m ys (k + 1))) ∧ Hid (Apart A B w ws))) (fun _ j _ => 2 - (intOf j).toNat)
      case atStart => exact .inl ⟨rfl, rfl, HR, HTu⟩
      case round =>
        clear HR HTu
        rcases hrel with ⟨rfl, rfl, HR, HTu⟩ | ⟨rfl, rfl, HR, HTu⟩ | ⟨rfl, rfl, HR, HTu⟩
        · obtain ⟨q0, q1⟩ := cells (Own.at_ HR.out k _ HY.out)
          simp only [rec_n] at q0 q1
          have hf := Own.frozen HLen.out HR.out
          have HPy := Lib.hid (put1 HLen.out HR.out HY.out (C : Int))
          have HAz := Lib.hid (HTu.out.set (p := ⟨g, k * 2, none⟩) hg1 hgB (.int .i64 (C : Int)))
          go_wp2_with fail
          go_roundw
          case rel => exact .inr (.inl ⟨by go_num, by go_num, HPy, HAz⟩)
          case measure => simp [intOf]
        · have HY2 := Lib.hid (show (M.set k ⟨(C : Int), Y.b⟩)[k]? = some ⟨(C : Int), Y.b⟩ by rw [List.getElem?_set_self HK1.out])
          have HL2 := Lib.hid (show (M.set k ⟨(C : Int), Y.b⟩).length = n by rw [List.length_set]; exact HLen.out)
          obtain ⟨q0, q1⟩ := cells (Own.at_ HR.out k _ HY2.out)
          simp only [rec_n] at q0 q1
          have hf := Own.frozen HL2.out HR.out
          have HPy := Lib.hid (show OwnR (wr.setCell ⟨g, k * 2 + 1, none⟩ (.int .i64 ((C + 1 : Nat) : Int))) A g n cap (marks m ys (k + 1)) from by
            have h := put2 HL2.out HR.out HY2.out ((C + 1 : Nat) : Int)
            rw [List.set_set] at h
            rw [← HSet.out]
            exact h)
          have HAz := Lib.hid (HTu.out.set (p := ⟨g, k * 2 + 1, none⟩) hg1 hgB (.int .i64 ((C + 1 : Nat) : Int)))
          go_wp2_with fail
          go_roundw
          case rel => exact .inr (.inr ⟨by go_num, by go_num, HPy, HAz⟩)
          case measure => simp [intOf]
        · go_wp2_with fail
          go_roundw
          case rel =>
            refine ⟨k + 1, by omega, by go_num, ?_, HR, HTu⟩
            have := HC.out
            congr 1
            omega
          case measure => simp [intOf]; omega
    · obtain rfl : k = n := by omega
      go_wp2_with fail
      go_ret
      refine ⟨by rw [HN.out]; rfl, ⟨?_, HB.out⟩, HTu.out⟩
      rw [HN.out]
      exact HR.out
theorem held0 (m : Nat) (a : Option Addr) (c : Nat) (w : World) :
    Calls Tryd.prog 47 #[.slice a 0 c, .int .i64 m] w fun e w' => e = .returned (.int .i64 m) ∧ Below w.heap.size w w' := by
  go_enter Tryd.func47, Tryd.ntmps47
  go_wp2_with fail
  go_loop [1, 5] (fun q i => q = .int .i64 m ∧ i = .int .i64 0) (fun _ i => 0)
  case atStart => exact ⟨rfl, rfl⟩
  case round =>
    obtain ⟨rfl, rfl⟩ := hrel
    go_wp2_with fail
    go_ret
    exact ⟨rfl, Below.refl _ _⟩
set_option maxRecDepth 100000 in
set_option maxHeartbeats 1600000 in
theorem heldS (A m : Nat) (v : Value) (ys : List R) (w : World) (hm0 : 0 < m) (hm : m + 2 * ys.length ≤ 8000000) (h : Own rec 55 w A v (marks m ys ys.length)) :
    Calls Tryd.prog 47 #[v, .int .i64 m] w fun e w' => e = .returned (.int .i64 (m + 2 * ys.length : Nat)) ∧ Below w.heap.size w w' := by
  have hml := marks_len m ys.length ys (Nat.le_refl _)
  rcases h.shape with ⟨rfl, hz⟩ | ⟨g, cap, rfl, hg1, hg2, hcap, hcm⟩
  · rw [hz] at hml
    obtain rfl := List.eq_nil_of_length_eq_zero hml.symm
    exact held0 m _ _ w
  unfold maxLen at hcm
  obtain ⟨n, hn⟩ : ∃ n, n = ys.length := ⟨_, rfl⟩
  have HN := Lib.hid hn.symm
  rw [hml, ← hn] at hcap
  have HO := Lib.hid (show OwnR w A g n cap (marks m ys n) by rw [hml, ← hn] at h; exact h)
  rw [hml]
  rw [← hn] at hm ⊢
  have hln : n ≤ ys.length := by omega
  clear h hn hml
  go_enter Tryd.func47, Tryd.ntmps47
  go_wp2_with fail
  go_loop [1, 5] (fun q i => ∃ k : Nat, k ≤ n ∧ i = .int .i64 k ∧ q = .int .i64 (m + 2 * k : Nat)) (fun _ i => n - (intOf i).toNat)
  case atStart => exact ⟨0, Nat.zero_le _, rfl, rfl⟩
  case round =>
    obtain ⟨k, hk, rfl, rfl⟩ := hrel
    by_cases hlt : k < n
    · have hx : k < ys.length := by omega
      have HM := Lib.hid (marks_all m ys k hx)
      rw [HN.out] at HM
      have HA := Lib.hid (Own.at_ HO.out k _ HM.out)
      obtain ⟨C, hC⟩ : ∃ C : Nat, C = m + 2 * k := ⟨_, rfl⟩
      have hC2 : C + 2 ≤ 8000000 := by omega
      have hC0 : 0 < C := by omega
      have HC := Lib.hid hC
      rw [← hC] at HA ⊢
      clear hC
      have k0 : 0 ≤ (k : Int) := by omega
      have k1 : (k : Int) < (n : Int) := by omega
      have p0 : w.cell? ⟨g, k * 2, none⟩ = some (.int .i64 (C : Int)) := (cells HA.out).1
      have p1 : w.cell? ⟨g, k * 2 + 1, none⟩ = some (.int .i64 ((C : Int) + 1)) := (cells HA.out).2
      have h0 : ((C : Int) != (C : Int)) = false := by simp
      have h1 : ((C : Int) + 1 != ((C + 1 : Nat) : Int)) = false := by simp
      go_wp2_with fail
      go_loop [1, 6] (fun q j => ∃ i : Nat, i ≤ 2 ∧ q = .int .i64 (C + i : Nat) ∧ j = .int .i64 i) (fun _ j => 2 - (intOf j).toNat)
      case atStart => exact ⟨0, by omega, rfl, rfl⟩
      case round =>
        obtain ⟨i, hi, rfl, rfl⟩ := hrel
        match i, hi with
        | 0, _ =>
          go_wp2_with fail
          go_round
          case rel => exact ⟨1, by omega, by go_num, by go_num⟩
          case measure => simp [intOf]
        | 1, _ =>
          go_wp2_with fail
          go_round
          case rel => exact ⟨2, by omega, by go_num, by go_num⟩
          case measure => simp [intOf]
        | 2, _ =>
          go_wp2_with fail
          go_round
          case rel =>
            refine ⟨k + 1, by omega, by go_num, ?_⟩
            have := HC.out
            congr 1
            omega
          case measure => simp [intOf]; omega
    · obtain rfl : k = n := by omega
      go_wp2_with fail
      go_ret
      exact ⟨rfl, Below.refl _ _⟩
end Go.Proofs.YtclpdpfnlmfogaaDoor.LIntA2
