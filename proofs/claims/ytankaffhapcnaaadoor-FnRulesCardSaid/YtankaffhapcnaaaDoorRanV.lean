/- FnRanks: the law's own comparisons. No condition. -/
import Derived.Test.YtankaffhapcnaaaDoorJ1
import Derived.Test.YtankaffhapcnaaaDoorLIntE
import Derived.Test.YtankaffhapcnaaaDoorLIntK
import Derived.Test.YtankaffhapcnaaaDoorSq
import Derived.Test.YtankaffhapcnaaaDoorIntF
namespace Go.Proofs.YtankaffhapcnaaaDoor.RanV
open Go.RowKit Bs Word Sq IntF
set_option linter.unusedVariables false
set_option maxHeartbeats 400000 in
theorem vBig (a : Option Addr) (len cap : Nat) (w : World) : Calls Tryd.prog 4 #[.slice a len cap] w fun e w' => e = .returned (.bool (decide ((65536 : Int) < len))) ∧ w = w' := by
  go_enter Tryd.func4, Tryd.ntmps4
  go_wp2_with fail
  go_ret
  exact ⟨rfl, rfl⟩
set_option maxRecDepth 100000 in
set_option maxHeartbeats 800000 in
/-- two slices of the same rules -/
theorem vRules (v v' : Value) (xs : List LRule.R) (w : World) (h : Is LRule.rec w v xs) (h' : Is LRule.rec w v' xs) :
    Calls Tryd.prog 17 #[v, v'] w fun e w' => e = .returned (.bool true) ∧ Below w.heap.size w w' := by
  obtain ⟨a, cp, rfl, h⟩ := h
  obtain ⟨a', cp', rfl, h'⟩ := h'
  have hc := h.at_ LRule.rec
  have hc' := h'.at_ LRule.rec
  obtain ⟨n, hn⟩ : ∃ n, n = xs.length := ⟨_, rfl⟩
  have hnb : n ≤ cp := by have := h.1; omega
  have hnb' : n ≤ cp' := by have := h'.1; omega
  have h2 := h.2.1
  have h2' := h'.2.1
  unfold maxLen at h2 h2'
  rw [← hn]
  have hle : n ≤ xs.length := by omega
  clear hn h h'
  have hne : ((n : Int) != (n : Int)) = false := by simp
  go_enter Tryd.func17, Tryd.ntmps17
  go_wp2_with fail
  go_loopw [5] (fun i wr => ∃ k : Nat, k ≤ n ∧ i = .int .i64 k ∧ Below w.heap.size w wr) (fun i _ => n - (intOf i).toNat)
  case atStart => exact ⟨0, Nat.zero_le _, rfl, Below.refl _ _⟩
  case round =>
    obtain ⟨k, hk, rfl, hb⟩ := hrel
    by_cases hlt : k < n
    · have hx : k < xs.length := by omega
      obtain ⟨b, o, rfl, hbl, hcell0⟩ := hc.out k xs[k] (List.getElem?_eq_getElem hx)
      obtain ⟨b', o', rfl, hbl', hcell0'⟩ := hc'.out k xs[k] (List.getElem?_eq_getElem hx)
      obtain ⟨c0, c1, c2, c3, c4, c5, c6⟩ := LRule.cells (hcell0.below LRule.rec hb hbl)
      obtain ⟨d0, d1, d2, d3, d4, d5, d6⟩ := LRule.cells (hcell0'.below LRule.rec hb hbl')
      simp only [LRule.rec_n] at c0 c1 c2 c3 c4 c5 c6 d0 d1 d2 d3 d4 d5 d6
      clear hcell0 hcell0'
      generalize xs[k] = X at *
      have k0 : 0 ≤ (k : Int) := by omega
      have k1 : (k : Int) < (n : Int) := by omega
      go_wp2_with fail
      go_quiet (fail)
      have hb2 : Below w.heap.size w (wr.drewN nq) := hb.trans ((drawn_below _ _).mono hb.size)
      go_wp2_with fail
      go_roundw
      case rel => exact ⟨k + 1, by omega, by go_num, hb2⟩
      case measure => simp [intOf]; omega
    · go_wp2_with fail
      go_ret
      exact ⟨rfl, hb⟩
end Go.Proofs.YtankaffhapcnaaaDoor.RanV
