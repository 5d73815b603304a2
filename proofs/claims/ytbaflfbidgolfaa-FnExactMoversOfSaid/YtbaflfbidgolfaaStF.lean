/- Rules found by their Id: the model's function, and the program's with slices.IndexFunc. No condition. -/
import Derived.Test.YtbaflfbidgolfaaSt
import Derived.BigQuiet
import Derived.IntWalk
import Derived.Deep.DeepCutAuto
namespace Go.Proofs.Ytbaflfbidgolfaa.StF
open Go.RowKit Bs Word Sq St
set_option linter.unusedVariables false
abbrev M := LRule.R
theorem ret_int {a b : Int} (h : a = b) : Ending.returned (.int .i64 a) = .returned (.int .i64 b) := by rw [h]
set_option maxHeartbeats 400000 in
theorem l2Find (v0 : Value) (z0 : List LRule.R) (a1 : Int) (w : World) (h0 : Is LRule.rec w v0 z0) :
    Calls Try.prog 92 #[v0, .int .i64 a1] w fun e w' => e = .returned (.int .i64 (ix (idx z0 a1))) ∧ w = w' := by
  obtain ⟨a, cp, rfl, h0⟩ := h0
  have hc := h0.at_ LRule.rec
  obtain ⟨n, hn⟩ : ∃ n, n = z0.length := ⟨_, rfl⟩
  have hnb : n ≤ cp := by have := h0.1; omega
  have hn2 := h0.2.1
  unfold maxLen at hn2
  have HN := Lib.hid hn.symm
  rw [← hn]
  have hnle : n ≤ z0.length := by omega
  clear hn h0
  go_enter Try.func92, Try.ntmps92
  go_wp2_with fail
  go_loop [5] (fun i => ∃ k : Nat, k ≤ n ∧ i = .int .i64 k ∧ Hid (Sq.First (fun X => (X.id == a1)) z0 k)) (fun i => n - (intOf i).toNat)
  case atStart => exact ⟨0, Nat.zero_le _, rfl, Lib.hid Sq.first_zero⟩
  case round =>
    obtain ⟨k, hk, rfl, HF⟩ := hrel
    by_cases hlt : k < n
    · have hx : k < z0.length := by omega
      obtain ⟨b, o, rfl, hbl, hcell0⟩ := hc.out k z0[k] (List.getElem?_eq_getElem hx)
      obtain ⟨q0, q1, q2, q3, q4, q5, q6⟩ := LRule.cells (hcell0)
      simp only [LRule.rec_n] at q0 q1 q2 q3 q4 q5 q6
      have HX := Lib.hid (List.getElem?_eq_getElem hx)
      clear hcell0
      generalize z0[k] = X at *
      cases g : (X.id == a1) with
      | true =>
        have HI := Lib.hid (Sq.first_hit HF.out HX.out g)
        go_wp2_with fail
        go_ret
        exact ⟨ret_int (by unfold idx; rw [HI.out]; rfl), rfl⟩
      | false =>
        have HF2 := Lib.hid (Sq.first_next HF.out HX.out g)
        go_wp2_with fail
        go_round
        case rel => exact ⟨k + 1, by omega, by go_num, HF2⟩
        case measure => simp [intOf]; omega
    · have HI := Lib.hid (Sq.first_none HF.out (by have := HN.out; omega))
      go_wp2_with fail
      go_ret
      exact ⟨ret_int (by unfold idx; rw [HI.out]; rfl), rfl⟩
theorem closure (X : M) (b : Nat) (id : Int) (w : World) (h : w.cell? ⟨b, 0, none⟩ = some (.int .i64 id)) (hl : b < w.heap.size) :
    Calls Try.prog 114 #[.agg #[.int .i64 X.id, .string X.name, .int .i64 X.rank, .bool X.sec, .bool X.deb, .bool X.am, .int .i64 X.need], .pointer (some ⟨b, 0, none⟩)] w fun e w' => e = .returned (.bool (X.id == id)) ∧ Below w.heap.size w w' := by
  have h' : ∀ o, (w.alloc o).cell? ⟨b, 0, none⟩ = some (.int .i64 id) := fun o => by
    rw [((Below.refl w.heap.size w).alloc (Nat.le_refl _) o).cell (p := ⟨b, 0, none⟩) hl]; exact h
  have hb := fun o => (Below.refl w.heap.size w).alloc (Nat.le_refl _) o
  clear h
  go_enter Try.func114, Try.ntmps114
  go_wp2_with fail
  go_ret
  exact ⟨rfl, hb _⟩
set_option maxRecDepth 100000 in
set_option maxHeartbeats 800000 in
theorem index (v0 : Value) (z0 : List M) (a1 : Int) (b : Nat) (w : World) (h0 : Is LRule.rec w v0 z0) (hb : w.cell? ⟨b, 0, none⟩ = some (.int .i64 a1)) (hbl : b < w.heap.size) :
    Calls Try.prog 113 #[v0, .func (.func 114) #[] #[.pointer (some ⟨b, 0, none⟩)]] w fun e w' => e = .returned (.int .i64 (ix (idx z0 a1))) ∧ Below w.heap.size w w' := by
  obtain ⟨a, cp, rfl, h0⟩ := h0
  have hc := h0.at_ LRule.rec
  obtain ⟨n, hn⟩ : ∃ n, n = z0.length := ⟨_, rfl⟩
  have hnb : n ≤ cp := by have := h0.1; omega
  have hn2 := h0.2.1
  unfold maxLen at hn2
  have HN := Lib.hid hn.symm
  rw [← hn]
  have hnle : n ≤ z0.length := by omega
  clear hn h0
  have HB := Lib.hid hb
  clear hb
  go_enter Try.func113, Try.ntmps113
  go_wp2_with fail
  go_loopw [8] (fun i wr => ∃ k : Nat, k ≤ n ∧ i = .int .i64 k ∧ Hid (First (fun X => (X.id == a1)) z0 k) ∧ Below w.heap.size w wr) (fun i _ => n - (intOf i).toNat)
  case atStart => exact ⟨0, Nat.zero_le _, rfl, Lib.hid first_zero, Below.refl _ _⟩
  case round =>
    obtain ⟨k, hk, rfl, HF, hbw⟩ := hrel
    by_cases hlt : k < n
    · have hx : k < z0.length := by omega
      obtain ⟨b', o, rfl, hbl', hcell0⟩ := hc.out k z0[k] (List.getElem?_eq_getElem hx)
      have HX := Lib.hid (List.getElem?_eq_getElem hx)
      obtain ⟨q0, q1, q2, q3, q4, q5, q6⟩ := LRule.cells (hcell0.below LRule.rec hbw hbl')
      simp only [LRule.rec_n] at q0 q1 q2 q3 q4 q5 q6
      have k0 : 0 ≤ (k : Int) := by omega
      have k1 : (k : Int) < (n : Int) := by omega
      have hB2 := Lib.hid (show wr.cell? ⟨b, 0, none⟩ = some (.int .i64 a1) by rw [hbw.cell (p := ⟨b, 0, none⟩) hbl]; exact HB.out)
      have hbl2 : b < wr.heap.size := Nat.lt_of_lt_of_le hbl hbw.size
      clear hcell0
      generalize z0[k] = X at *
      go_wp2_with fail
      refine (closure X b a1 _ hB2.out hbl2).mono ?_
      rintro e w1 ⟨rfl, hb1⟩
      have hb2 := hbw.trans (hb1.mono hbw.size)
      clear q0 q1 q2 q3 q4 q5 q6
      cases g : (X.id == a1) with
      | true =>
        have HI := Lib.hid (show idx z0 a1 = some k from first_hit HF.out HX.out g)
        clear g
        go_wp2_with fail
        go_ret
        exact ⟨ret_int (by rw [HI.out]; rfl), hb2⟩
      | false =>
        have HF2 := Lib.hid (first_next HF.out HX.out g)
        clear g
        go_wp2_with fail
        go_roundw
        case rel => exact ⟨k + 1, by omega, by go_num, HF2, hb2⟩
        case measure => simp [intOf]; omega
    · have HI := Lib.hid (show idx z0 a1 = none from first_none HF.out (by have := HN.out; omega))
      go_wp2_with fail
      go_ret
      exact ⟨ret_int (by rw [HI.out]; rfl), hbw⟩
theorem ruleIndex (v0 : Value) (z0 : List M) (a1 : Int) (w : World) (h0 : Is LRule.rec w v0 z0) :
    Calls Try.prog 81 #[v0, .int .i64 a1] w fun e w' => e = .returned (.int .i64 (ix (idx z0 a1))) ∧ Below w.heap.size w w' := by
  have hbx := (Below.refl w.heap.size w).alloc (Nat.le_refl _) (Obj.cells #[.int .i64 a1] 3)
  have hc : (w.alloc (Obj.cells #[.int .i64 a1] 3)).cell? ⟨w.heap.size, 0, none⟩ = some (.int .i64 a1) := cell_one_new w (.int .i64 a1) 3 0 _ rfl
  have HX := Lib.hid (index v0 z0 a1 w.heap.size _ (h0.below LRule.rec hbx) hc (by simp))
  obtain ⟨a, c, rfl, _⟩ := h0
  clear hc
  go_enter Try.func81, Try.ntmps81
  go_wp2_with fail
  refine HX.out.mono ?_
  rintro e w' ⟨rfl, hb⟩
  have hb2 := hbx.trans (hb.mono hbx.size)
  go_wp2_with fail
  go_ret
  exact ⟨rfl, hb2⟩
theorem find_at {v0 : Value} {z : List M} {n : Int} {k : Nat} {w : World} (h0 : Is LRule.rec w v0 z) (hk : idx z n = some k) :
    Calls Try.prog 92 #[v0, .int .i64 n] w fun e w' => e = .returned (.int .i64 k) ∧ w = w' := by
  have h := l2Find v0 z n w h0
  rw [hk] at h; exact h
theorem find_no {v0 : Value} {z : List M} {n : Int} {w : World} (h0 : Is LRule.rec w v0 z) (hk : idx z n = none) :
    Calls Try.prog 92 #[v0, .int .i64 n] w fun e w' => e = .returned (.int .i64 (-1)) ∧ w = w' := by
  have h := l2Find v0 z n w h0
  rw [hk] at h; exact h
theorem index_at {v0 : Value} {z : List M} {n : Int} {k : Nat} {w : World} (h0 : Is LRule.rec w v0 z) (hk : idx z n = some k) :
    Calls Try.prog 81 #[v0, .int .i64 n] w fun e w' => e = .returned (.int .i64 k) ∧ Below w.heap.size w w' := by
  have h := ruleIndex v0 z n w h0
  rw [hk] at h; exact h
theorem index_no {v0 : Value} {z : List M} {n : Int} {w : World} (h0 : Is LRule.rec w v0 z) (hk : idx z n = none) :
    Calls Try.prog 81 #[v0, .int .i64 n] w fun e w' => e = .returned (.int .i64 (-1)) ∧ Below w.heap.size w w' := by
  have h := ruleIndex v0 z n w h0
  rw [hk] at h; exact h
end Go.Proofs.Ytbaflfbidgolfaa.StF
