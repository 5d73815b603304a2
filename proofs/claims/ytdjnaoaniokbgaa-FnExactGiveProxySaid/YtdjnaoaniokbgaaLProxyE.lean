/- The laws' helpers eqProxy, eqProxyS at two values of the same records. -/
import Derived.Test.YtdjnaoaniokbgaaLProxyD
namespace Go.Proofs.Ytdjnaoaniokbgaa.LProxy
open Go.RowKit Bs
set_option linter.unusedVariables false
set_option maxHeartbeats 800000 in
theorem eq (r : R) (w : World) :
    Calls Try.prog 87 #[.agg #[.int .i64 r.src, .int .i64 r.dst], .agg #[.int .i64 r.src, .int .i64 r.dst]] w fun e w' => e = .returned (.bool true) ∧ Below w.heap.size w w' := by
  have h0 : (r.src != r.src) = false := by simp
  have h1 : (r.dst != r.dst) = false := by simp
  go_enter Try.func87, Try.ntmps87
  go_wp2_with fail
  go_ret
  exact ⟨rfl, ((Below.refl _ _).alloc (Nat.le_refl _) _).alloc (by simp) _⟩
set_option maxHeartbeats 800000 in
theorem eqS (v v' : Value) (xs : List R) (w : World) (h : Is rec w v xs) (h' : Is rec w v' xs) :
    Calls Try.prog 76 #[v, v'] w fun e w' => e = .returned (.bool true) ∧ Below w.heap.size w w' := by
  obtain ⟨a, cp, rfl, h⟩ := h
  obtain ⟨a', cp', rfl, h'⟩ := h'
  have hc := h.at_ rec
  have hc' := h'.at_ rec
  obtain ⟨n, hn⟩ : ∃ n, n = xs.length := ⟨_, rfl⟩
  have hnb : n ≤ cp := by have := h.1; omega
  have hnb' : n ≤ cp' := by have := h'.1; omega
  have h2 := h.2.1
  have h2' := h'.2.1
  unfold maxLen at h2 h2'
  rw [← hn]
  have hle : n ≤ xs.length := by omega
  clear hn h h'
  have hne : ((n : Int) != (n : Int)) = false := by simp
  go_enter Try.func76, Try.ntmps76
  go_wp2_with fail
  go_loopw [5] (fun i wr => ∃ k : Nat, k ≤ n ∧ i = .int .i64 k ∧ Below w.heap.size w wr) (fun i _ => n - (intOf i).toNat)
  case atStart => exact ⟨0, Nat.zero_le _, rfl, Below.refl _ _⟩
  case round =>
    obtain ⟨k, hk, rfl, hb⟩ := hrel
    by_cases hlt : k < n
    · have hx : k < xs.length := by omega
      obtain ⟨b, o, rfl, hbl, hcell0⟩ := hc.out k xs[k] (List.getElem?_eq_getElem hx)
      obtain ⟨b', o', rfl, hbl', hcell0'⟩ := hc'.out k xs[k] (List.getElem?_eq_getElem hx)
      have HG := grown (hcell0.below rec hb hbl) (Nat.lt_of_lt_of_le hbl hb.size)
      have HG' := grown (hcell0'.below rec hb hbl') (Nat.lt_of_lt_of_le hbl' hb.size)
      clear hcell0 hcell0'
      generalize xs[k] = X at *
      have c0 := fun d os => (cells (HG.out d os)).1
      have c1 := fun d os => (cells (HG.out d os)).2
      have d0 := fun d os => (cells (HG'.out d os)).1
      have d1 := fun d os => (cells (HG'.out d os)).2
      have k0 : 0 ≤ (k : Int) := by omega
      have k1 : (k : Int) < (n : Int) := by omega
      simp only [rec_n] at c0 c1 d0 d1
      clear HG HG'
      go_wp2_with fail
      refine wp_region_quiet_below (by kernel_rfl) (by kernel_rfl) ?_
      repeat (quiet_step ((go_at_call 87; exact Calls.regrown_of (eq X _))))
      refine wpQuiet_nil ?_
      intro _ hw'
      obtain ⟨⟨dq, osq⟩, hw''⟩ := hw'
      subst hw''
      have hb2 : Below w.heap.size w (Sort.grow (redrawn wr dq) osq) := hb.trans ((below_regrown wr dq osq).mono hb.size)
      clear c0 c1 d0 d1
      go_wp2_with fail
      go_roundw
      case rel => exact ⟨k + 1, by omega, by go_num, hb2⟩
      case measure => simp [intOf]; omega
    · go_wp2_with fail
      go_ret
      exact ⟨rfl, hb⟩
end Go.Proofs.Ytdjnaoaniokbgaa.LProxy
