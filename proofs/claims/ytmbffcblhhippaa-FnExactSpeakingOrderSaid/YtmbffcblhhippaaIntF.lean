/- Slices of ints: whether one holds a number, whether it ascends. No condition. -/
import Derived.Test.YtmbffcblhhippaaJ1
import Derived.BigQuiet
import Derived.IntWalk
import Derived.Deep.DeepCutAuto
namespace Go.Proofs.Ytmbffcblhhippaa.IntF
open Go.RowKit Bs Word Sq
set_option linter.unusedVariables false
theorem ret_int {a b : Int} (h : a = b) : Ending.returned (.int .i64 a) = .returned (.int .i64 b) := by rw [h]
def hasB (xs : List Int) (x : Int) : Bool := (xs.findIdx? (fun X => (X == x))).isSome
theorem has_iff {xs : List Int} {x : Int} : hasB xs x = true ↔ x ∈ xs := by
  unfold hasB
  rw [Option.isSome_iff_ne_none, ne_eq, List.findIdx?_eq_none_iff]
  constructor
  · intro h
    apply Classical.byContradiction
    intro hx
    exact h (fun y hy => by rw [beq_eq_false_iff_ne]; intro e; subst e; exact hx hy)
  · intro h hn
    have := hn x h
    simp at this
theorem flip (xs : List Int) (x : Int) : xs.findIdx? (fun X => (x == X)) = xs.findIdx? (fun X => (X == x)) := by
  congr 1
  funext X
  rw [Bool.eq_iff_iff]
  simp only [beq_iff_eq]
  exact eq_comm
/-- all of them in a range, each greater than its neighbour -/
def RisOk (xs : List Int) (lo hi : Int) (i : Nat) : Prop := ∀ x, xs[i]? = some x → inB x lo hi = true ∧ ∀ p, 0 < i → xs[i - 1]? = some p → p < x
def RisP (xs : List Int) (lo hi : Int) : Prop := ∀ i, RisOk xs lo hi i
open Classical in
noncomputable def risB (xs : List Int) (lo hi : Int) : Bool := decide (RisP xs lo hi)
open Classical in
theorem ris_yes {xs : List Int} {lo hi : Int} (h : RisP xs lo hi) : risB xs lo hi = true := decide_eq_true h
open Classical in
theorem ris_no {xs : List Int} {lo hi : Int} (h : ¬ RisP xs lo hi) : risB xs lo hi = false := decide_eq_false h
open Classical in
theorem ris_of {xs : List Int} {lo hi : Int} (h : risB xs lo hi = true) : RisP xs lo hi := of_decide_eq_true h
/-- what the test at a place tells: true is bad -/
def Head (xs : List Int) (lo hi : Int) (i : Nat) (v : Bool) : Prop := (v = true → risB xs lo hi = false) ∧ (v = false → RisOk xs lo hi i)
theorem head_bad {xs : List Int} {lo hi : Int} {i : Nat} (h : ¬ RisOk xs lo hi i) : Head xs lo hi i true := ⟨fun _ => ris_no (fun g => h (g i)), (fun h => by cases h)⟩
theorem head_fine {xs : List Int} {lo hi : Int} {i : Nat} (h : RisOk xs lo hi i) : Head xs lo hi i false := ⟨(fun h => by cases h), fun _ => h⟩
theorem ris_next {xs : List Int} {lo hi : Int} {k : Nat} (hs : ∀ i, i < k → RisOk xs lo hi i) (h : RisOk xs lo hi k) : ∀ i, i < k + 1 → RisOk xs lo hi i := fun i hi => by
  rcases Nat.lt_or_ge i k with h' | h'
  · exact hs i h'
  · rwa [show i = k by omega]
set_option maxHeartbeats 400000 in
theorem l1Has (v0 : Value) (z0 : List LInt.R) (a1 : Int) (w : World) (h0 : Is LInt.rec w v0 z0) :
    Calls Try.prog 33 #[v0, .int .i64 a1] w fun e w' => e = .returned (.bool (hasB z0 a1)) ∧ w = w' := by
  obtain ⟨a, cp, rfl, h0⟩ := h0
  have hc := h0.at_ LInt.rec
  obtain ⟨n, hn⟩ : ∃ n, n = z0.length := ⟨_, rfl⟩
  have hnb : n ≤ cp := by have := h0.1; omega
  have hn2 := h0.2.1
  unfold maxLen at hn2
  have HN := Lib.hid hn.symm
  rw [← hn]
  have hnle : n ≤ z0.length := by omega
  clear hn h0
  go_enter Try.func33, Try.ntmps33
  go_wp2_with fail
  go_loop [5] (fun i => ∃ k : Nat, k ≤ n ∧ i = .int .i64 k ∧ Hid (Sq.First (fun X => (X == a1)) z0 k)) (fun i => n - (intOf i).toNat)
  case atStart => exact ⟨0, Nat.zero_le _, rfl, Lib.hid Sq.first_zero⟩
  case round =>
    obtain ⟨k, hk, rfl, HF⟩ := hrel
    by_cases hlt : k < n
    · have hx : k < z0.length := by omega
      obtain ⟨b, o, rfl, hbl, hcell0⟩ := hc.out k z0[k] (List.getElem?_eq_getElem hx)
      have q0 := LInt.cells (hcell0)
      simp only [LInt.rec_n, Nat.mul_one] at q0
      have HX := Lib.hid (List.getElem?_eq_getElem hx)
      clear hcell0
      generalize z0[k] = X at *
      cases g : (X == a1) with
      | true =>
        have HI := Lib.hid (Sq.first_hit HF.out HX.out g)
        go_wp2_with fail
        go_ret
        exact ⟨ret_bool (by unfold hasB; rw [HI.out]; rfl), rfl⟩
      | false =>
        have HF2 := Lib.hid (Sq.first_next HF.out HX.out g)
        go_wp2_with fail
        go_round
        case rel => exact ⟨k + 1, by omega, by go_num, HF2⟩
        case measure => simp [intOf]; omega
    · have HI := Lib.hid (Sq.first_none HF.out (by have := HN.out; omega))
      go_wp2_with fail
      go_ret
      exact ⟨ret_bool (by unfold hasB; rw [HI.out]; rfl), rfl⟩
set_option maxHeartbeats 400000 in
theorem index (v0 : Value) (z0 : List LInt.R) (a1 : Int) (w : World) (h0 : Is LInt.rec w v0 z0) :
    Calls Try.prog 70 #[v0, .int .i64 a1] w fun e w' => e = .returned (.int .i64 (ix (z0.findIdx? (fun X => (X == a1))))) ∧ w = w' := by
  obtain ⟨a, cp, rfl, h0⟩ := h0
  have hc := h0.at_ LInt.rec
  obtain ⟨n, hn⟩ : ∃ n, n = z0.length := ⟨_, rfl⟩
  have hnb : n ≤ cp := by have := h0.1; omega
  have hn2 := h0.2.1
  unfold maxLen at hn2
  have HN := Lib.hid hn.symm
  rw [← hn]
  have hnle : n ≤ z0.length := by omega
  clear hn h0
  go_enter Try.func70, Try.ntmps70
  go_wp2_with fail
  go_loop [8] (fun i => ∃ k : Nat, k ≤ n ∧ i = .int .i64 k ∧ Hid (Sq.First (fun X => (a1 == X)) z0 k)) (fun i => n - (intOf i).toNat)
  case atStart => exact ⟨0, Nat.zero_le _, rfl, Lib.hid Sq.first_zero⟩
  case round =>
    obtain ⟨k, hk, rfl, HF⟩ := hrel
    by_cases hlt : k < n
    · have hx : k < z0.length := by omega
      obtain ⟨b, o, rfl, hbl, hcell0⟩ := hc.out k z0[k] (List.getElem?_eq_getElem hx)
      have q0 := LInt.cells (hcell0)
      simp only [LInt.rec_n, Nat.mul_one] at q0
      have HX := Lib.hid (List.getElem?_eq_getElem hx)
      clear hcell0
      generalize z0[k] = X at *
      cases g : (a1 == X) with
      | true =>
        have HI := Lib.hid (Sq.first_hit HF.out HX.out g)
        go_wp2_with fail
        go_ret
        exact ⟨ret_int (by rw [← flip, HI.out]; rfl), rfl⟩
      | false =>
        have HF2 := Lib.hid (Sq.first_next HF.out HX.out g)
        go_wp2_with fail
        go_round
        case rel => exact ⟨k + 1, by omega, by go_num, HF2⟩
        case measure => simp [intOf]; omega
    · have HI := Lib.hid (Sq.first_none HF.out (by have := HN.out; omega))
      go_wp2_with fail
      go_ret
      exact ⟨ret_int (by rw [← flip, HI.out]; rfl), rfl⟩
theorem contains (v0 : Value) (z0 : List Int) (a1 : Int) (w : World) (h0 : Is LInt.rec w v0 z0) :
    Calls Try.prog 55 #[v0, .int .i64 a1] w fun e w' => e = .returned (.bool (hasB z0 a1)) ∧ w = w' := by
  have HI := Lib.hid (index v0 z0 a1 w h0)
  have HD := Lib.hid (show decide (0 ≤ ix (z0.findIdx? (fun X => (X == a1)))) = hasB z0 a1 by
    unfold hasB
    cases z0.findIdx? (fun X => (X == a1)) with
    | none => rfl
    | some k => show decide ((0 : Int) ≤ (k : Int)) = true; exact decide_eq_true (by omega))
  obtain ⟨a, c, rfl, _⟩ := h0
  generalize ix (z0.findIdx? (fun X => (X == a1))) = J at *
  go_enter Try.func55, Try.ntmps55
  go_wp2_with fail
  refine HI.out.mono ?_
  rintro e w' ⟨rfl, rfl⟩
  go_wp2_with fail
  go_ret
  exact ⟨ret_bool HD.out, rfl⟩
end Go.Proofs.Ytmbffcblhhippaa.IntF
