/- The laws' helpers markAgendaItemS, heldAgendaItemS: a slice of records written over, and read again. -/
import Derived.Test.YthadmkfmgpddoaaDoorLAgendaItemD
import Derived.Test.YthadmkfmgpddoaaDoorMarkT
namespace Go.Proofs.YthadmkfmgpddoaaDoor.LAgendaItem
open Go.RowKit Bs MarkT
set_option linter.unusedVariables false
/-- the record that is written where the count stands at c -/
def mk (c : Nat) : R := ⟨c, mt (c + 1), (c : Int) + 1 + 1, (c : Int) + 1 + 1 + 1⟩
def marks (m : Nat) (ys : List R) (k : Nat) : List R := (List.range k).map (fun j => mk (m + 4 * j)) ++ ys.drop k
theorem marks_zero (m : Nat) (ys : List R) : marks m ys 0 = ys := by simp [marks]
theorem marks_len (m k : Nat) (ys : List R) (hk : k ≤ ys.length) : (marks m ys k).length = ys.length := by simp [marks]; omega
theorem marks_at (m k : Nat) (ys : List R) (hk : k < ys.length) : (marks m ys k)[k]? = some ys[k] := by
  unfold marks
  have hl : ((List.range k).map fun j => mk (m + 4 * j)).length = k := by simp
  rw [List.getElem?_append_right (by omega), hl, Nat.sub_self, List.getElem?_drop, Nat.add_zero, List.getElem?_eq_getElem hk]
theorem marks_set (m k : Nat) (ys : List R) (hk : k < ys.length) : (marks m ys k).set k (mk (m + 4 * k)) = marks m ys (k + 1) := by
  unfold marks
  have hl : ((List.range k).map fun j => mk (m + 4 * j)).length = k := by simp
  rw [List.set_append_right _ _ (by omega), hl, Nat.sub_self, List.drop_eq_getElem_cons hk, List.set_cons_zero, List.range_succ, List.map_append, List.append_assoc]
  rfl
theorem marks_all (m : Nat) (ys : List R) (j : Nat) (hj : j < ys.length) : (marks m ys ys.length)[j]? = some (mk (m + 4 * j)) := by
  unfold marks
  rw [List.getElem?_append_left (by simpa using hj), List.getElem?_map, List.getElem?_range hj]
  rfl
theorem text1 (C : Nat) (h0 : C + 1 ≤ 9000000) (hp : 0 < C) (W : World) : Calls Tryd.prog 16 #[.int .i64 ((C : Int) + 1)] W fun e w' => e = .returned (.string (mt (C + 1))) ∧ Below W.heap.size W w' := by
  have h := markText (C + 1) W (by omega) h0
  have e : ((C + 1 : Nat) : Int) = (C : Int) + 1 := by omega
  rw [e] at h
  exact h
theorem put0 {w : World} {A g n cap : Nat} {ys : List R} (hn : ys.length = n) (h : OwnR w A g n cap ys) (k : Nat) (r0 r : R) (hr : ys[k]? = some r0) :
    OwnR (w.setCell ⟨g, k * 4, none⟩ (.int .i64 r.id)) A g n cap (ys.set k { r0 with id := r.id }) := by
  have hk : k < ys.length := (List.getElem?_eq_some_iff.1 hr).1
  have at_ : ∀ x : R, (ys.set k x)[k]? = some x := fun x => by simp [hk]
  have hl : ∀ x : R, (ys.set k x).length = n := fun x => by rw [List.length_set]; exact hn
  have h0 := Own.put hn h k 0 r0 ({ r0 with id := r.id }) (.int .i64 r.id) hr (by decide) rfl
  exact h0
theorem put1 {w : World} {A g n cap : Nat} {ys : List R} (hn : ys.length = n) (h : OwnR w A g n cap ys) (k : Nat) (r0 r : R) (hr : ys[k]? = some r0) :
    OwnR (((w.setCell ⟨g, k * 4 + 1, none⟩ (.string r.title)).setCell ⟨g, k * 4 + 2, none⟩ (.int .i64 r.mins)).setCell ⟨g, k * 4 + 3, none⟩ (.int .i64 r.time)) A g n cap (ys.set k { r0 with title := r.title, mins := r.mins, time := r.time }) := by
  have hk : k < ys.length := (List.getElem?_eq_some_iff.1 hr).1
  have at_ : ∀ x : R, (ys.set k x)[k]? = some x := fun x => by simp [hk]
  have hl : ∀ x : R, (ys.set k x).length = n := fun x => by rw [List.length_set]; exact hn
  have h1 := Own.put hn h k 1 r0 ({ r0 with title := r.title }) (.string r.title) hr (by decide) rfl
  have h2 := Own.put (hl _) h1 k 2 _ ({ r0 with title := r.title, mins := r.mins }) (.int .i64 r.mins) (at_ _) (by decide) rfl
  rw [List.set_set] at h2
  have h3 := Own.put (hl _) h2 k 3 _ ({ r0 with title := r.title, mins := r.mins, time := r.time }) (.int .i64 r.time) (at_ _) (by decide) rfl
  rw [List.set_set] at h3
  exact h3
def Marked (w : World) (A B m : Nat) (v : Value) (ys : List R) (e : Ending) (w' : World) : Prop :=
  e = .returned (.int .i64 (m + 4 * ys.length : Nat)) ∧ OwnB rec 31 A B v (marks m ys ys.length) w' ∧ Apart A B w w'
theorem mark0 (A B m : Nat) (a : Option Addr) (c : Nat) (w : World) (h : OwnB rec 31 A B (.slice a 0 c) [] w) :
    Calls Tryd.prog 7 #[.slice a 0 c, .int .i64 m] w (Marked w A B m (.slice a 0 c) []) := by
  have HO := Lib.hid h
  clear h
  go_enter Tryd.func7, Tryd.ntmps7
  go_wp2_with fail
  go_loop [1, 5] (fun q i => q = .int .i64 m ∧ i = .int .i64 0) (fun _ i => 0)
  case atStart => exact ⟨rfl, rfl⟩
  case round =>
    obtain ⟨rfl, rfl⟩ := hrel
    go_wp2_with fail
    go_ret
    exact ⟨rfl, HO.out, Apart.refl _ _ _⟩
set_option maxHeartbeats 1600000 in
theorem markS (A B m : Nat) (v : Value) (ys : List R) (w : World) (hm0 : 0 < m) (hm : m + 4 * ys.length ≤ 8000000) (h : OwnB rec 31 A B v ys w) :
    Calls Tryd.prog 7 #[v, .int .i64 m] w (Marked w A B m v ys) := by
  rcases h.1.shape with ⟨rfl, rfl⟩ | ⟨g, cap, rfl, hg1, hg2, hcap, hcm⟩
  · exact mark0 A B m _ _ w h
  have hgB : g < B := h.2 g rfl
  unfold maxLen at hcm
  have HB := Lib.hid h.2
  obtain ⟨n, hn⟩ : ∃ n, n = ys.length := ⟨_, rfl⟩
  have HN := Lib.hid hn.symm
  have HO0 := Lib.hid (show OwnR w A g n cap (marks m ys 0) by rw [marks_zero, hn]; exact h.1)
  have hln : n ≤ ys.length := by omega
  rw [← hn] at hm hcap
  rw [show ys.length = n from hn.symm]
  clear h hn
  go_enter Tryd.func7, Tryd.ntmps7
  go_wp2_with fail
  go_loopw [1, 5] (fun q i wr => ∃ k : Nat, k ≤ n ∧ i = .int .i64 k ∧ q = .int .i64 (m + 4 * k : Nat) ∧ Hid (OwnR wr A g n cap (marks m ys k)) ∧ Hid (Apart A B w wr)) (fun _ i _ => n - (intOf i).toNat)
  case atStart => exact ⟨0, Nat.zero_le _, rfl, rfl, HO0, Lib.hid (Apart.refl A B w)⟩
  case round =>
    clear HO0
    obtain ⟨k, hk, rfl, rfl, HR, HTu⟩ := hrel
    by_cases hlt : k < n
    · have hx : k < ys.length := by omega
      have HY := Lib.hid (marks_at m k ys hx)
      have HSet := Lib.hid (marks_set m k ys hx)
      have HLen := Lib.hid (show (marks m ys k).length = n by rw [marks_len m k ys (by omega)]; exact HN.out)
      have HLk := Lib.hid (show k < (marks m ys k).length by rw [HLen.out]; exact hlt)
      obtain ⟨C, hC⟩ : ∃ C : Nat, C = m + 4 * k := ⟨_, rfl⟩
      have hC2 : C + 4 ≤ 8000000 := by omega
      have hC0 : 0 < C := by omega
      rw [← hC] at HSet ⊢
      have HC := Lib.hid hC
      clear hC
      generalize ys[k] = Y at *
      generalize marks m ys k = M at *
      obtain ⟨q0, q1, q2, q3⟩ := cells (Own.at_ HR.out k _ HY.out)
      simp only [rec_n] at q0 q1 q2 q3
      have hf := Own.frozen HLen.out HR.out
      have HP0 := Lib.hid (put0 HLen.out HR.out k Y (mk C) HY.out)
      have HA0 := Lib.hid (show Apart A B w _ from (HTu.out.set (p := ⟨g, k * 4, none⟩) hg1 hgB (.int .i64 (mk C).id)))
      have HT0 := Lib.hid (text1 C (by omega) hC0)
      go_wp2_with fail
      refine (HT0.out _).mono ?_
      rintro e w1 ⟨rfl, hb1⟩
      have HO1 := Lib.hid (Own.kept HP0.out hb1)
      have HAt1 := Lib.hid (show ((M.set k { Y with id := (mk C).id }))[k]? = some _ from by rw [List.getElem?_set_self HLk.out])
      have HLn1 := Lib.hid (show ((M.set k { Y with id := (mk C).id })).length = n by rw [List.length_set]; exact HLen.out)
      have HAp1 := Lib.hid (HA0.out.on hb1)
      clear hf hb1 q0 q1 q2 q3
      obtain ⟨q0, q1, q2, q3⟩ := cells (Own.at_ HO1.out k _ HAt1.out)
      simp only [rec_n] at q0 q1 q2 q3
      have hf := Own.frozen HLn1.out HO1.out
      have HPz := Lib.hid (put1 HLn1.out HO1.out k _ (mk C) HAt1.out)
      have HPy := Lib.hid (show OwnR _ A g n cap (marks m ys (k + 1)) from by
        have h := HPz.out
        simp only [List.set_set] at h
        rw [← HSet.out]
        exact h)
      have HAz := Lib.hid (show Apart A B w _ from (((HAp1.out.set (p := ⟨g, k * 4 + 1, none⟩) hg1 hgB (.string (mk C).title)).set (p := ⟨g, k * 4 + 2, none⟩) hg1 hgB (.int .i64 (mk C).mins)).set (p := ⟨g, k * 4 + 3, none⟩) hg1 hgB (.int .i64 (mk C).time)))
      go_wp2_with fail
      go_roundw
      case rel =>
        refine ⟨k + 1, by omega, by go_num, ?_, HPy, HAz⟩
        have := HC.out
        congr 1
        omega
      case measure => simp [intOf]; omega
    · obtain rfl : k = n := by omega
      go_wp2_with fail
      go_ret
      refine ⟨by rw [HN.out]; rfl, ⟨?_, HB.out⟩, HTu.out⟩
      rw [HN.out]
      exact HR.out
theorem held0 (m : Nat) (a : Option Addr) (c : Nat) (w : World) :
    Calls Tryd.prog 8 #[.slice a 0 c, .int .i64 m] w fun e w' => e = .returned (.int .i64 m) ∧ Below w.heap.size w w' := by
  go_enter Tryd.func8, Tryd.ntmps8
  go_wp2_with fail
  go_loop [1, 5] (fun q i => q = .int .i64 m ∧ i = .int .i64 0) (fun _ i => 0)
  case atStart => exact ⟨rfl, rfl⟩
  case round =>
    obtain ⟨rfl, rfl⟩ := hrel
    go_wp2_with fail
    go_ret
    exact ⟨rfl, Below.refl _ _⟩
set_option maxRecDepth 100000 in
set_option maxHeartbeats 1600000 in
theorem heldS (A m : Nat) (v : Value) (ys : List R) (w : World) (hm0 : 0 < m) (hm : m + 4 * ys.length ≤ 8000000) (h : Own rec 31 w A v (marks m ys ys.length)) :
    Calls Tryd.prog 8 #[v, .int .i64 m] w fun e w' => e = .returned (.int .i64 (m + 4 * ys.length : Nat)) ∧ Below w.heap.size w w' := by
  have hml := marks_len m ys.length ys (Nat.le_refl _)
  rcases h.shape with ⟨rfl, hz⟩ | ⟨g, cap, rfl, hg1, hg2, hcap, hcm⟩
  · rw [hz] at hml
    obtain rfl := List.eq_nil_of_length_eq_zero hml.symm
    exact held0 m _ _ w
  unfold maxLen at hcm
  obtain ⟨n, hn⟩ : ∃ n, n = ys.length := ⟨_, rfl⟩
  have HN := Lib.hid hn.symm
  rw [hml, ← hn] at hcap
  have HO := Lib.hid (show OwnR w A g n cap (marks m ys n) by rw [hml, ← hn] at h; exact h)
  rw [hml]
  rw [← hn] at hm ⊢
  have hln : n ≤ ys.length := by omega
  clear h hn hml
  go_enter Tryd.func8, Tryd.ntmps8
  go_wp2_with fail
  go_loopw [1, 5] (fun q i wr => ∃ k : Nat, k ≤ n ∧ i = .int .i64 k ∧ q = .int .i64 (m + 4 * k : Nat) ∧ Below w.heap.size w wr) (fun _ i _ => n - (intOf i).toNat)
  case atStart => exact ⟨0, Nat.zero_le _, rfl, rfl, Below.refl _ _⟩
  case round =>
    obtain ⟨k, hk, rfl, rfl, hb⟩ := hrel
    by_cases hlt : k < n
    · have hx : k < ys.length := by omega
      have HM := Lib.hid (marks_all m ys k hx)
      rw [HN.out] at HM
      have HA := Lib.hid ((Own.at_ HO.out k _ HM.out).below rec hb hg2)
      obtain ⟨C, hC⟩ : ∃ C : Nat, C = m + 4 * k := ⟨_, rfl⟩
      have hC2 : C + 4 ≤ 8000000 := by omega
      have hC0 : 0 < C := by omega
      rw [← hC] at HA ⊢
      have HC := Lib.hid hC
      clear hC
      have hgr : g < wr.heap.size := Nat.lt_of_lt_of_le hg2 hb.size
      have k0 : 0 ≤ (k : Int) := by omega
      have k1 : (k : Int) < (n : Int) := by omega
      have p0 : wr.cell? ⟨g, k * 4, none⟩ = some (.int .i64 (C : Int)) := (cells HA.out).1
      have c1 : ∀ d os, (Sort.grow (redrawn wr d) os).cell? ⟨g, k * 4 + 1, none⟩ = some (.string (mt (C + 1))) := fun d os => (cells ((grown HA.out hgr).out d os)).2.1
      have HT0 := Lib.hid (text1 C (by omega) hC0)
      go_wp2_with fail
      refine wp_region_quiet_below (by kernel_rfl) (by kernel_rfl) ?_
      repeat (go_big_quiet_step ((go_at_call 16; exact Calls.regrown_of (HT0.out _))))
      refine wpQuiet_nil ?_
      intro _ hw'
      obtain ⟨⟨dq, osq⟩, hw''⟩ := hw'
      subst hw''
      have hb2 : Below w.heap.size w (Sort.grow (redrawn wr dq) osq) := hb.trans ((below_regrown wr dq osq).mono hb.size)
      have HB1 := Lib.hid ((grown HA.out hgr).out dq osq)
      have hgr1 : g < (Sort.grow (redrawn wr dq) osq).heap.size := Nat.lt_of_lt_of_le hg2 hb2.size
      clear c1 p0 HT0
      generalize Sort.grow (redrawn wr dq) osq = wo1 at *
      have p2 : wo1.cell? ⟨g, k * 4 + 2, none⟩ = some (.int .i64 ((C : Int) + 1 + 1)) := (cells HB1.out).2.2.1
      have p3 : wo1.cell? ⟨g, k * 4 + 3, none⟩ = some (.int .i64 ((C : Int) + 1 + 1 + 1)) := (cells HB1.out).2.2.2
      go_wp2_with fail
      go_roundw
      case rel =>
        refine ⟨k + 1, by omega, by go_num, ?_, hb2⟩
        have := HC.out
        congr 1
        omega
      case measure => simp [intOf]; omega
    · obtain rfl : k = n := by omega
      go_wp2_with fail
      go_ret
      exact ⟨rfl, hb⟩
end Go.Proofs.YthadmkfmgpddoaaDoor.LAgendaItem
