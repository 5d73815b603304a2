/- FnRanks: the law's own comparisons. No condition. -/
import Derived.Test.YtbaflfbidgolfaaLRuleE
import Derived.Test.YtbaflfbidgolfaaLIntE
import Derived.Test.YtbaflfbidgolfaaLRuleK
import Derived.Test.YtbaflfbidgolfaaLIntK
import Derived.Test.YtbaflfbidgolfaaBase
import Derived.Test.YtbaflfbidgolfaaSq
import Derived.Test.YtbaflfbidgolfaaIntF
namespace Go.Proofs.Ytbaflfbidgolfaa.RanV
open Go.RowKit Bs Word Sq IntF
set_option linter.unusedVariables false
set_option maxHeartbeats 400000 in
theorem vBig (a : Option Addr) (len cap : Nat) (w : World) : Calls Try.prog 50 #[.slice a len cap] w fun e w' => e = .returned (.bool (decide ((65536 : Int) < len))) ∧ w = w' := by
  go_enter Try.func50, Try.ntmps50
  go_wp2_with fail
  go_ret
  exact ⟨rfl, rfl⟩
set_option maxRecDepth 100000 in
set_option maxHeartbeats 800000 in
/-- two slices of the same rules -/
theorem vRules (v v' : Value) (xs : List LRule.R) (w : World) (h : Is LRule.rec w v xs) (h' : Is LRule.rec w v' xs) :
    Calls Try.prog 69 #[v, v'] w fun e w' => e = .returned (.bool true) ∧ Below w.heap.size w w' := by
  obtain ⟨a, cp, rfl, h⟩ := h
  obtain ⟨a', cp', rfl, h'⟩ := h'
  have hc := h.at_ LRule.rec
  have hc' := h'.at_ LRule.rec
  obtain ⟨n, hn⟩ : ∃ n, n = xs.length := ⟨_, rfl⟩
  have hnb : n ≤ cp := by have := h.1; omega
  have hnb' : n ≤ cp' := by have := h'.1; omega
  have h2 := h.2.1
  have h2' := h'.2.1
  unfold maxLen at h2 h2'
  rw [← hn]
  have hle : n ≤ xs.length := by omega
  clear hn h h'
  have hne : ((n : Int) != (n : Int)) = false := by simp
  go_enter Try.func69, Try.ntmps69
  go_wp2_with fail
  go_loopw [5] (fun i wr => ∃ k : Nat, k ≤ n ∧ i = .int .i64 k ∧ Below w.heap.size w wr) (fun i _ => n - (intOf i).toNat)
  case atStart => exact ⟨0, Nat.zero_le _, rfl, Below.refl _ _⟩
  case round =>
    obtain ⟨k, hk, rfl, hb⟩ := hrel
    by_cases hlt : k < n
    · have hx : k < xs.length := by omega
      obtain ⟨b, o, rfl, hbl, hcell0⟩ := hc.out k xs[k] (List.getElem?_eq_getElem hx)
      obtain ⟨b', o', rfl, hbl', hcell0'⟩ := hc'.out k xs[k] (List.getElem?_eq_getElem hx)
      obtain ⟨c0, c1, c2, c3, c4, c5, c6⟩ := LRule.cells (hcell0.below LRule.rec hb hbl)
      obtain ⟨d0, d1, d2, d3, d4, d5, d6⟩ := LRule.cells (hcell0'.below LRule.rec hb hbl')
      simp only [LRule.rec_n] at c0 c1 c2 c3 c4 c5 c6 d0 d1 d2 d3 d4 d5 d6
      clear hcell0 hcell0'
      generalize xs[k] = X at *
      have k0 : 0 ≤ (k : Int) := by omega
      have k1 : (k : Int) < (n : Int) := by omega
      go_wp2_with fail
      go_quiet (fail)
      have hb2 : Below w.heap.size w (wr.drewN nq) := hb.trans ((drawn_below _ _).mono hb.size)
      go_wp2_with fail
      go_roundw
      case rel => exact ⟨k + 1, by omega, by go_num, hb2⟩
      case measure => simp [intOf]; omega
    · go_wp2_with fail
      go_ret
      exact ⟨rfl, hb⟩
set_option maxRecDepth 100000 in
set_option maxHeartbeats 800000 in
/-- two slices of the same numbers -/
theorem vInts (v v' : Value) (xs : List Int) (w : World) (h : Is LInt.rec w v xs) (h' : Is LInt.rec w v' xs) :
    Calls Try.prog 53 #[v, v'] w fun e w' => e = .returned (.bool true) ∧ Below w.heap.size w w' := by
  obtain ⟨a, cp, rfl, h⟩ := h
  obtain ⟨a', cp', rfl, h'⟩ := h'
  have hc := h.at_ LInt.rec
  have hc' := h'.at_ LInt.rec
  obtain ⟨n, hn⟩ : ∃ n, n = xs.length := ⟨_, rfl⟩
  have hnb : n ≤ cp := by have := h.1; omega
  have hnb' : n ≤ cp' := by have := h'.1; omega
  have h2 := h.2.1
  have h2' := h'.2.1
  unfold maxLen at h2 h2'
  rw [← hn]
  have hle : n ≤ xs.length := by omega
  clear hn h h'
  have hne : ((n : Int) != (n : Int)) = false := by simp
  go_enter Try.func53, Try.ntmps53
  go_wp2_with fail
  go_loopw [5] (fun i wr => ∃ k : Nat, k ≤ n ∧ i = .int .i64 k ∧ Below w.heap.size w wr) (fun i _ => n - (intOf i).toNat)
  case atStart => exact ⟨0, Nat.zero_le _, rfl, Below.refl _ _⟩
  case round =>
    obtain ⟨k, hk, rfl, hb⟩ := hrel
    by_cases hlt : k < n
    · have hx : k < xs.length := by omega
      obtain ⟨b, o, rfl, hbl, hcell0⟩ := hc.out k xs[k] (List.getElem?_eq_getElem hx)
      obtain ⟨b', o', rfl, hbl', hcell0'⟩ := hc'.out k xs[k] (List.getElem?_eq_getElem hx)
      have c0 := LInt.cells (hcell0.below LInt.rec hb hbl)
      have d0 := LInt.cells (hcell0'.below LInt.rec hb hbl')
      simp only [LInt.rec_n, Nat.mul_one] at c0 d0
      clear hcell0 hcell0'
      generalize xs[k] = X at *
      have k0 : 0 ≤ (k : Int) := by omega
      have k1 : (k : Int) < (n : Int) := by omega
      go_wp2_with fail
      go_quiet (fail)
      have hb2 : Below w.heap.size w (wr.drewN nq) := hb.trans ((drawn_below _ _).mono hb.size)
      go_wp2_with fail
      go_roundw
      case rel => exact ⟨k + 1, by omega, by go_num, hb2⟩
      case measure => simp [intOf]; omega
    · go_wp2_with fail
      go_ret
      exact ⟨rfl, hb⟩
set_option maxHeartbeats 400000 in
theorem vHas (v0 : Value) (z0 : List LInt.R) (a1 : Int) (w : World) (h0 : Is LInt.rec w v0 z0) :
    Calls Try.prog 54 #[v0, .int .i64 a1] w fun e w' => e = .returned (.bool (hasB z0 a1)) ∧ w = w' := by
  obtain ⟨a, cp, rfl, h0⟩ := h0
  have hc := h0.at_ LInt.rec
  obtain ⟨n, hn⟩ : ∃ n, n = z0.length := ⟨_, rfl⟩
  have hnb : n ≤ cp := by have := h0.1; omega
  have hn2 := h0.2.1
  unfold maxLen at hn2
  have HN := Lib.hid hn.symm
  rw [← hn]
  have hnle : n ≤ z0.length := by omega
  clear hn h0
  go_enter Try.func54, Try.ntmps54
  go_wp2_with fail
  go_loop [5] (fun i => ∃ k : Nat, k ≤ n ∧ i = .int .i64 k ∧ Hid (Sq.First (fun X => (X == a1)) z0 k)) (fun i => n - (intOf i).toNat)
  case atStart => exact ⟨0, Nat.zero_le _, rfl, Lib.hid Sq.first_zero⟩
  case round =>
    obtain ⟨k, hk, rfl, HF⟩ := hrel
    by_cases hlt : k < n
    · have hx : k < z0.length := by omega
      obtain ⟨b, o, rfl, hbl, hcell0⟩ := hc.out k z0[k] (List.getElem?_eq_getElem hx)
      have q0 := LInt.cells (hcell0)
      simp only [LInt.rec_n, Nat.mul_one] at q0
      have HX := Lib.hid (List.getElem?_eq_getElem hx)
      clear hcell0
      generalize z0[k] = X at *
      cases g : (X == a1) with
      | true =>
        have HI := Lib.hid (Sq.first_hit HF.out HX.out g)
        go_wp2_with fail
        go_ret
        exact ⟨ret_bool (by unfold hasB; rw [HI.out]; rfl), rfl⟩
      | false =>
        have HF2 := Lib.hid (Sq.first_next HF.out HX.out g)
        go_wp2_with fail
        go_round
        case rel => exact ⟨k + 1, by omega, by go_num, HF2⟩
        case measure => simp [intOf]; omega
    · have HI := Lib.hid (Sq.first_none HF.out (by have := HN.out; omega))
      go_wp2_with fail
      go_ret
      exact ⟨ret_bool (by unfold hasB; rw [HI.out]; rfl), rfl⟩
end Go.Proofs.Ytbaflfbidgolfaa.RanV
