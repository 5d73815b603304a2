/- Slices of ints: whether one holds a number, whether it ascends. No condition. -/
import Derived.Test.YtdjnaoaniokbgaaJ1
import Derived.BigQuiet
import Derived.IntWalk
import Derived.Deep.DeepCutAuto
namespace Go.Proofs.Ytdjnaoaniokbgaa.IntF
open Go.RowKit Bs Word Sq
set_option linter.unusedVariables false
theorem ret_int {a b : Int} (h : a = b) : Ending.returned (.int .i64 a) = .returned (.int .i64 b) := by rw [h]
def hasB (xs : List Int) (x : Int) : Bool := (xs.findIdx? (fun X => (X == x))).isSome
theorem has_iff {xs : List Int} {x : Int} : hasB xs x = true ↔ x ∈ xs := by
  unfold hasB
  rw [Option.isSome_iff_ne_none, ne_eq, List.findIdx?_eq_none_iff]
  constructor
  · intro h
    apply Classical.byContradiction
    intro hx
    exact h (fun y hy => by rw [beq_eq_false_iff_ne]; intro e; subst e; exact hx hy)
  · intro h hn
    have := hn x h
    simp at this
theorem flip (xs : List Int) (x : Int) : xs.findIdx? (fun X => (x == X)) = xs.findIdx? (fun X => (X == x)) := by
  congr 1
  funext X
  rw [Bool.eq_iff_iff]
  simp only [beq_iff_eq]
  exact eq_comm
/-- all of them in a range, each greater than its neighbour -/
def RisOk (xs : List Int) (lo hi : Int) (i : Nat) : Prop := ∀ x, xs[i]? = some x → inB x lo hi = true ∧ ∀ p, 0 < i → xs[i - 1]? = some p → p < x
def RisP (xs : List Int) (lo hi : Int) : Prop := ∀ i, RisOk xs lo hi i
open Classical in
noncomputable def risB (xs : List Int) (lo hi : Int) : Bool := decide (RisP xs lo hi)
open Classical in
theorem ris_yes {xs : List Int} {lo hi : Int} (h : RisP xs lo hi) : risB xs lo hi = true := decide_eq_true h
open Classical in
theorem ris_no {xs : List Int} {lo hi : Int} (h : ¬ RisP xs lo hi) : risB xs lo hi = false := decide_eq_false h
open Classical in
theorem ris_of {xs : List Int} {lo hi : Int} (h : risB xs lo hi = true) : RisP xs lo hi := of_decide_eq_true h
/-- what the test at a place tells: true is bad -/
def Head (xs : List Int) (lo hi : Int) (i : Nat) (v : Bool) : Prop := (v = true → risB xs lo hi = false) ∧ (v = false → RisOk xs lo hi i)
theorem head_bad {xs : List Int} {lo hi : Int} {i : Nat} (h : ¬ RisOk xs lo hi i) : Head xs lo hi i true := ⟨fun _ => ris_no (fun g => h (g i)), (fun h => by cases h)⟩
theorem head_fine {xs : List Int} {lo hi : Int} {i : Nat} (h : RisOk xs lo hi i) : Head xs lo hi i false := ⟨(fun h => by cases h), fun _ => h⟩
theorem ris_next {xs : List Int} {lo hi : Int} {k : Nat} (hs : ∀ i, i < k → RisOk xs lo hi i) (h : RisOk xs lo hi k) : ∀ i, i < k + 1 → RisOk xs lo hi i := fun i hi => by
  rcases Nat.lt_or_ge i k with h' | h'
  · exact hs i h'
  · rwa [show i = k by omega]
set_option maxRecDepth 100000 in
set_option maxHeartbeats 1600000 in
theorem l1Rising (v0 : Value) (z0 : List Int) (lo hi : Int) (w : World) (h0 : Is LInt.rec w v0 z0) :
    Calls Try.prog 71 #[v0, .int .i64 lo, .int .i64 hi] w fun e w' => e = .returned (.bool (risB z0 lo hi)) ∧ Below w.heap.size w w' := by
  obtain ⟨a, cp, rfl, h0⟩ := h0
  have hc := h0.at_ LInt.rec
  obtain ⟨n, hn⟩ : ∃ n, n = z0.length := ⟨_, rfl⟩
  have hnb : n ≤ cp := by have := h0.1; omega
  have hn2 := h0.2.1
  unfold maxLen at hn2
  have HN := Lib.hid hn.symm
  rw [← hn]
  have hnle : n ≤ z0.length := by omega
  clear hn h0
  go_enter Try.func71, Try.ntmps71
  go_wp2_with fail
  go_loopw [7] (fun i wr => ∃ k : Nat, k ≤ n ∧ i = .int .i64 k ∧ Below w.heap.size w wr ∧ Hid (∀ i, i < k → RisOk z0 lo hi i)) (fun i _ => n - (intOf i).toNat)
  case atStart => exact ⟨0, Nat.zero_le _, rfl, Below.refl _ _, Lib.hid (fun i hi => by omega)⟩
  case round =>
    obtain ⟨k, hk, rfl, hb, HS⟩ := hrel
    by_cases hlt : k < n
    · have hx : k < z0.length := by omega
      obtain ⟨b, o, rfl, hbl, hcell0⟩ := hc.out k z0[k] (List.getElem?_eq_getElem hx)
      have q0 := LInt.cells (hcell0.below LInt.rec hb hbl)
      simp only [LInt.rec_n, Nat.mul_one] at q0
      have HX := Lib.hid (List.getElem?_eq_getElem hx)
      clear hcell0
      generalize z0[k] = X at *
      go_wp2_with fail
      go_cut [37] (fun t wx => ∃ v : Bool, t = .bool v ∧ Hid (Head z0 lo hi k v) ∧ Below wr.heap.size wr wx)
      case first =>
        have k0 : 0 ≤ (k : Int) := by omega
        have k1 : (k : Int) < (n : Int) := by omega
        cases g1 : inB X lo hi with
        | false =>
          have HV := Lib.hid (show Head z0 lo hi k true from head_bad (fun h => by have := (h X HX.out).1; rw [g1] at this; cases this))
          have H1 := Lib.hid (fun W => in_as X lo hi false g1 W)
          clear g1
          go_quiet ((go_at_call 69; exact quiet_eq (H1.out _)))
          go_wp2_with fail
          go_meet
          exact ⟨true, rfl, HV, drawn_below _ _⟩
        | true =>
          have HG1 := Lib.hid g1
          have H1 := Lib.hid (fun W => in_as X lo hi true g1 W)
          clear g1
          by_cases hz : k = 0
          · have HV := Lib.hid (show Head z0 lo hi k false from head_fine (fun x hx => by rw [HX.out] at hx; rw [← Option.some.inj hx]; exact ⟨HG1.out, fun p h0 => by omega⟩))
            have hd : decide (0 < (k : Int)) = false := by simp; omega
            have hd2 : decide (0 < k) = false := by simp; omega
            clear hz
            go_quiet ((go_at_call 69; exact quiet_eq (H1.out _)))
            go_wp2_with fail
            go_meet
            exact ⟨false, rfl, HV, drawn_below _ _⟩
          · have h0 : 0 < k := by omega
            have hd : decide (0 < (k : Int)) = true := by simp; omega
            have hxp : k - 1 < z0.length := by omega
            obtain ⟨b', o', he, hbl', hcell0'⟩ := hc.out (k - 1) z0[k - 1] (List.getElem?_eq_getElem hxp)
            simp only [Option.some.injEq, Addr.mk.injEq, and_true] at he
            obtain ⟨rfl, rfl⟩ := he
            have HY := Lib.hid (List.getElem?_eq_getElem hxp)
            have y0 := LInt.cells (hcell0'.below LInt.rec hb hbl)
            simp only [LInt.rec_n, Nat.mul_one] at y0
            clear hz hbl' hcell0'
            generalize z0[k - 1] = Y at *
            have HV := Lib.hid (show Head z0 lo hi k (decide (X ≤ Y)) from ⟨fun hxy => (head_bad (fun h => by have := (h X HX.out).2 Y h0 HY.out; have := of_decide_eq_true hxy; omega)).1 rfl, fun hxy x hx => by rw [HX.out] at hx; rw [← Option.some.inj hx]; exact ⟨HG1.out, fun p _ hp => by have := of_decide_eq_false hxy; rw [HY.out] at hp; rw [← Option.some.inj hp]; omega⟩⟩)
            have s1 : IntKind.i64.wrap ((k : Int) - 1) = (k : Int) - 1 := IntWalk.i64_in _ (by omega)
            have s2 : ((k : Int) - 1).toNat = k - 1 := by omega
            have s3 : 0 ≤ (k : Int) - 1 := by omega
            have s4 : (k : Int) - 1 < (n : Int) := by omega
            go_quiet ((go_at_call 69; exact quiet_eq (H1.out _)))
            go_wp2_with fail
            go_meet
            exact ⟨_, rfl, HV, drawn_below _ _⟩
      case rest =>
        obtain ⟨v, rfl, HV, hbv⟩ := hcut
        have hb2 := hb.trans (hbv.mono hb.size)
        cases v with
        | true =>
          have HB := Lib.hid (show risB z0 lo hi = false from HV.out.1 rfl)
          go_wp2_with fail
          go_ret
          exact ⟨ret_bool HB.out.symm, hb2⟩
        | false =>
          have HN2 := Lib.hid (ris_next HS.out (HV.out.2 rfl))
          go_wp2_with fail
          go_roundw
          case rel => exact ⟨k + 1, by omega, by go_num, hb2, HN2⟩
          case measure => simp [intOf]; omega
    · have HB := Lib.hid (ris_yes (show RisP z0 lo hi from fun i x hx => HS.out i (by have := (List.getElem?_eq_some_iff.1 hx).1; have := HN.out; omega) x hx))
      go_wp2_with fail
      go_ret
      exact ⟨ret_bool HB.out.symm, hb⟩
end Go.Proofs.Ytdjnaoaniokbgaa.IntF
