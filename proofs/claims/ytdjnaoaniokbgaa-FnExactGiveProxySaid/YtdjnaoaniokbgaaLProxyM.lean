/- The laws' helpers markProxyS, heldProxyS: a slice of records written over, and read again. -/
import Derived.Test.YtdjnaoaniokbgaaLProxyD
import Derived.Test.YtdjnaoaniokbgaaMarkT
namespace Go.Proofs.Ytdjnaoaniokbgaa.LProxy
open Go.RowKit Bs MarkT
set_option linter.unusedVariables false
/-- the record that is written where the count stands at c -/
def mk (c : Nat) : R := ⟨c, (c : Int) + 1⟩
def marks (m : Nat) (ys : List R) (k : Nat) : List R := (List.range k).map (fun j => mk (m + 2 * j)) ++ ys.drop k
theorem marks_zero (m : Nat) (ys : List R) : marks m ys 0 = ys := by simp [marks]
theorem marks_len (m k : Nat) (ys : List R) (hk : k ≤ ys.length) : (marks m ys k).length = ys.length := by simp [marks]; omega
theorem marks_at (m k : Nat) (ys : List R) (hk : k < ys.length) : (marks m ys k)[k]? = some ys[k] := by
  unfold marks
  have hl : ((List.range k).map fun j => mk (m + 2 * j)).length = k := by simp
  rw [List.getElem?_append_right (by omega), hl, Nat.sub_self, List.getElem?_drop, Nat.add_zero, List.getElem?_eq_getElem hk]
theorem marks_set (m k : Nat) (ys : List R) (hk : k < ys.length) : (marks m ys k).set k (mk (m + 2 * k)) = marks m ys (k + 1) := by
  unfold marks
  have hl : ((List.range k).map fun j => mk (m + 2 * j)).length = k := by simp
  rw [List.set_append_right _ _ (by omega), hl, Nat.sub_self, List.drop_eq_getElem_cons hk, List.set_cons_zero, List.range_succ, List.map_append, List.append_assoc]
  rfl
theorem marks_all (m : Nat) (ys : List R) (j : Nat) (hj : j < ys.length) : (marks m ys ys.length)[j]? = some (mk (m + 2 * j)) := by
  unfold marks
  rw [List.getElem?_append_left (by simpa using hj), List.getElem?_map, List.getElem?_range hj]
  rfl
theorem put0 {w : World} {A g n cap : Nat} {ys : List R} (hn : ys.length = n) (h : OwnR w A g n cap ys) (k : Nat) (r0 r : R) (hr : ys[k]? = some r0) :
    OwnR ((w.setCell ⟨g, k * 2, none⟩ (.int .i64 r.src)).setCell ⟨g, k * 2 + 1, none⟩ (.int .i64 r.dst)) A g n cap (ys.set k { r0 with src := r.src, dst := r.dst }) := by
  have hk : k < ys.length := (List.getElem?_eq_some_iff.1 hr).1
  have at_ : ∀ x : R, (ys.set k x)[k]? = some x := fun x => by simp [hk]
  have hl : ∀ x : R, (ys.set k x).length = n := fun x => by rw [List.length_set]; exact hn
  have h0 := Own.put hn h k 0 r0 ({ r0 with src := r.src }) (.int .i64 r.src) hr (by decide) rfl
  have h1 := Own.put (hl _) h0 k 1 _ ({ r0 with src := r.src, dst := r.dst }) (.int .i64 r.dst) (at_ _) (by decide) rfl
  rw [List.set_set] at h1
  exact h1
def Marked (w : World) (A B m : Nat) (v : Value) (ys : List R) (e : Ending) (w' : World) : Prop :=
  e = .returned (.int .i64 (m + 2 * ys.length : Nat)) ∧ OwnB rec 70 A B v (marks m ys ys.length) w' ∧ Apart A B w w'
theorem mark0 (A B m : Nat) (a : Option Addr) (c : Nat) (w : World) (h : OwnB rec 70 A B (.slice a 0 c) [] w) :
    Calls Try.prog 77 #[.slice a 0 c, .int .i64 m] w (Marked w A B m (.slice a 0 c) []) := by
  have HO := Lib.hid h
  clear h
  go_enter Try.func77, Try.ntmps77
  go_wp2_with fail
  go_loop [1, 5] (fun q i => q = .int .i64 m ∧ i = .int .i64 0) (fun _ i => 0)
  case atStart => exact ⟨rfl, rfl⟩
  case round =>
    obtain ⟨rfl, rfl⟩ := hrel
    go_wp2_with fail
    go_ret
    exact ⟨rfl, HO.out, Apart.refl _ _ _⟩
set_option maxHeartbeats 1600000 in
theorem markS (A B m : Nat) (v : Value) (ys : List R) (w : World) (hm0 : 0 < m) (hm : m + 2 * ys.length ≤ 8000000) (h : OwnB rec 70 A B v ys w) :
    Calls Try.prog 77 #[v, .int .i64 m] w (Marked w A B m v ys) := by
  rcases h.1.shape with ⟨rfl, rfl⟩ | ⟨g, cap, rfl, hg1, hg2, hcap, hcm⟩
  · exact mark0 A B m _ _ w h
  have hgB : g < B := h.2 g rfl
  unfold maxLen at hcm
  have HB := Lib.hid h.2
  obtain ⟨n, hn⟩ : ∃ n, n = ys.length := ⟨_, rfl⟩
  have HN := Lib.hid hn.symm
  have HO0 := Lib.hid (show OwnR w A g n cap (marks m ys 0) by rw [marks_zero, hn]; exact h.1)
  have hln : n ≤ ys.length := by omega
  rw [← hn] at hm hcap
  rw [show ys.length = n from hn.symm]
  clear h hn
  go_enter Try.func77, Try.ntmps77
  go_wp2_with fail
  go_loopw [1, 5] (fun q i wr => ∃ k : Nat, k ≤ n ∧ i = .int .i64 k ∧ q = .int .i64 (m + 2 * k : Nat) ∧ Hid (OwnR wr A g n cap (marks m ys k)) ∧ Hid (Apart A B w wr)) (fun _ i _ => n - (intOf i).toNat)
  case atStart => exact ⟨0, Nat.zero_le _, rfl, rfl, HO0, Lib.hid (Apart.refl A B w)⟩
  case round =>
    clear HO0
    obtain ⟨k, hk, rfl, rfl, HR, HTu⟩ := hrel
    by_cases hlt : k < n
    · have hx : k < ys.length := by omega
      have HY := Lib.hid (marks_at m k ys hx)
      have HSet := Lib.hid (marks_set m k ys hx)
      have HLen := Lib.hid (show (marks m ys k).length = n by rw [marks_len m k ys (by omega)]; exact HN.out)
      have HLk := Lib.hid (show k < (marks m ys k).length by rw [HLen.out]; exact hlt)
      obtain ⟨C, hC⟩ : ∃ C : Nat, C = m + 2 * k := ⟨_, rfl⟩
      have hC2 : C + 2 ≤ 8000000 := by omega
      have hC0 : 0 < C := by omega
      rw [← hC] at HSet ⊢
      have HC := Lib.hid hC
      clear hC
      generalize ys[k] = Y at *
      generalize marks m ys k = M at *
      obtain ⟨q0, q1⟩ := cells (Own.at_ HR.out k _ HY.out)
      simp only [rec_n] at q0 q1
      have hf := Own.frozen HLen.out HR.out
      have HPz := Lib.hid (put0 HLen.out HR.out k _ (mk C) HY.out)
      have HPy := Lib.hid (show OwnR _ A g n cap (marks m ys (k + 1)) from by
        have h := HPz.out
        (try simp only [List.set_set] at h)
        rw [← HSet.out]
        exact h)
      have HAz := Lib.hid (show Apart A B w _ from ((HTu.out.set (p := ⟨g, k * 2, none⟩) hg1 hgB (.int .i64 (mk C).src)).set (p := ⟨g, k * 2 + 1, none⟩) hg1 hgB (.int .i64 (mk C).dst)))
      go_wp2_with fail
      go_roundw
      case rel =>
        refine ⟨k + 1, by omega, by go_num, ?_, HPy, HAz⟩
        have := HC.out
        congr 1
        omega
      case measure => simp [intOf]; omega
    · obtain rfl : k = n := by omega
      go_wp2_with fail
      go_ret
      refine ⟨by rw [HN.out]; rfl, ⟨?_, HB.out⟩, HTu.out⟩
      rw [HN.out]
      exact HR.out
theorem held0 (m : Nat) (a : Option Addr) (c : Nat) (w : World) :
    Calls Try.prog 78 #[.slice a 0 c, .int .i64 m] w fun e w' => e = .returned (.int .i64 m) ∧ Below w.heap.size w w' := by
  go_enter Try.func78, Try.ntmps78
  go_wp2_with fail
  go_loop [1, 5] (fun q i => q = .int .i64 m ∧ i = .int .i64 0) (fun _ i => 0)
  case atStart => exact ⟨rfl, rfl⟩
  case round =>
    obtain ⟨rfl, rfl⟩ := hrel
    go_wp2_with fail
    go_ret
    exact ⟨rfl, Below.refl _ _⟩
set_option maxRecDepth 100000 in
set_option maxHeartbeats 1600000 in
theorem heldS (A m : Nat) (v : Value) (ys : List R) (w : World) (hm0 : 0 < m) (hm : m + 2 * ys.length ≤ 8000000) (h : Own rec 70 w A v (marks m ys ys.length)) :
    Calls Try.prog 78 #[v, .int .i64 m] w fun e w' => e = .returned (.int .i64 (m + 2 * ys.length : Nat)) ∧ Below w.heap.size w w' := by
  have hml := marks_len m ys.length ys (Nat.le_refl _)
  rcases h.shape with ⟨rfl, hz⟩ | ⟨g, cap, rfl, hg1, hg2, hcap, hcm⟩
  · rw [hz] at hml
    obtain rfl := List.eq_nil_of_length_eq_zero hml.symm
    exact held0 m _ _ w
  unfold maxLen at hcm
  obtain ⟨n, hn⟩ : ∃ n, n = ys.length := ⟨_, rfl⟩
  have HN := Lib.hid hn.symm
  rw [hml, ← hn] at hcap
  have HO := Lib.hid (show OwnR w A g n cap (marks m ys n) by rw [hml, ← hn] at h; exact h)
  rw [hml]
  rw [← hn] at hm ⊢
  have hln : n ≤ ys.length := by omega
  clear h hn hml
  go_enter Try.func78, Try.ntmps78
  go_wp2_with fail
  go_loopw [1, 5] (fun q i wr => ∃ k : Nat, k ≤ n ∧ i = .int .i64 k ∧ q = .int .i64 (m + 2 * k : Nat) ∧ Below w.heap.size w wr) (fun _ i _ => n - (intOf i).toNat)
  case atStart => exact ⟨0, Nat.zero_le _, rfl, rfl, Below.refl _ _⟩
  case round =>
    obtain ⟨k, hk, rfl, rfl, hb⟩ := hrel
    by_cases hlt : k < n
    · have hx : k < ys.length := by omega
      have HM := Lib.hid (marks_all m ys k hx)
      rw [HN.out] at HM
      have HA := Lib.hid ((Own.at_ HO.out k _ HM.out).below rec hb hg2)
      obtain ⟨C, hC⟩ : ∃ C : Nat, C = m + 2 * k := ⟨_, rfl⟩
      have hC2 : C + 2 ≤ 8000000 := by omega
      have hC0 : 0 < C := by omega
      rw [← hC] at HA ⊢
      have HC := Lib.hid hC
      clear hC
      have hgr : g < wr.heap.size := Nat.lt_of_lt_of_le hg2 hb.size
      have k0 : 0 ≤ (k : Int) := by omega
      have k1 : (k : Int) < (n : Int) := by omega
      have p0 : wr.cell? ⟨g, k * 2, none⟩ = some (.int .i64 (C : Int)) := (cells HA.out).1
      have p1 : wr.cell? ⟨g, k * 2 + 1, none⟩ = some (.int .i64 ((C : Int) + 1)) := (cells HA.out).2
      go_wp2_with fail
      go_roundw
      case rel =>
        refine ⟨k + 1, by omega, by go_num, ?_, hb⟩
        have := HC.out
        congr 1
        omega
      case measure => simp [intOf]; omega
    · obtain rfl : k = n := by omega
      go_wp2_with fail
      go_ret
      exact ⟨rfl, hb⟩
end Go.Proofs.Ytdjnaoaniokbgaa.LProxy
