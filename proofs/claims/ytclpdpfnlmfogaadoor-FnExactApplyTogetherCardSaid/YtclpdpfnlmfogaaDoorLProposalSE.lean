/- The laws' helper eqProposalS at two values of the same content. No condition. -/
import Derived.Test.YtclpdpfnlmfogaaDoorLProposalSD
import Derived.Test.YtclpdpfnlmfogaaDoorLProposalE
import Derived.Lib.QuietBelow
namespace Go.Proofs.YtclpdpfnlmfogaaDoor.LProposalS
open Go Go.RowKit Bs
set_option linter.unusedVariables false
set_option maxRecDepth 100000 in
set_option maxHeartbeats 800000 in
theorem eqS (v v' : Value) (xs : List R) (w : World) (h : Is w v xs) (h' : Is w v' xs) :
    Calls Tryd.prog 43 #[v, v'] w fun e w' => e = .returned (.bool true) ∧ Below w.heap.size w w' := by
  have hc := get h
  have hc' := get h'
  obtain ⟨a, cp, rfl, hnb, h2⟩ := h.form
  obtain ⟨a', cp', rfl, hnb', h2'⟩ := h'.form
  unfold maxLen at h2 h2'
  obtain ⟨n, hn⟩ : ∃ n, n = xs.length := ⟨_, rfl⟩
  have HN := Lib.hid hn.symm
  rw [← hn] at hc hc' hnb hnb' ⊢
  have hle : n ≤ xs.length := by omega
  clear hn h h'
  have hne : ((n : Int) != (n : Int)) = false := by simp
  go_enter Tryd.func43, Tryd.ntmps43
  go_wp2_with fail
  go_loopw [5] (fun i wr => ∃ k : Nat, k ≤ n ∧ i = .int .i64 k ∧ Below w.heap.size w wr) (fun i _ => n - (intOf i).toNat)
  case atStart => exact ⟨0, Nat.zero_le _, rfl, Below.refl _ _⟩
  case round =>
    obtain ⟨k, hk, rfl, hb⟩ := hrel
    by_cases hlt : k < n
    · have hx : k < xs.length := by omega
      obtain ⟨b, o, c, x, y, z, he, hbl, hat, hI⟩ := hc.out k xs[k] (List.getElem?_eq_getElem hx)
      simp only [Value.slice.injEq] at he
      obtain ⟨rfl, -, rfl⟩ := he
      obtain ⟨b', o', c', x', y', z', he', hbl', hat', hI'⟩ := hc'.out k xs[k] (List.getElem?_eq_getElem hx)
      simp only [Value.slice.injEq] at he'
      obtain ⟨rfl, -, rfl⟩ := he'
      have c0 := fun d os => (cells_hd (hat.below kit.row (hb.trans ((below_regrown wr d os).mono hb.size)) hbl)).1
      have c1 := fun d os => (cells_hd (hat.below kit.row (hb.trans ((below_regrown wr d os).mono hb.size)) hbl)).2.1
      have c2 := fun d os => (cells_hd (hat.below kit.row (hb.trans ((below_regrown wr d os).mono hb.size)) hbl)).2.2.1
      have c3 := fun d os => (cells_hd (hat.below kit.row (hb.trans ((below_regrown wr d os).mono hb.size)) hbl)).2.2.2.1
      have c4 := fun d os => (cells_hd (hat.below kit.row (hb.trans ((below_regrown wr d os).mono hb.size)) hbl)).2.2.2.2.1
      have c5 := fun d os => (cells_hd (hat.below kit.row (hb.trans ((below_regrown wr d os).mono hb.size)) hbl)).2.2.2.2.2
      have d0 := fun d os => (cells_hd (hat'.below kit.row (hb.trans ((below_regrown wr d os).mono hb.size)) hbl')).1
      have d1 := fun d os => (cells_hd (hat'.below kit.row (hb.trans ((below_regrown wr d os).mono hb.size)) hbl')).2.1
      have d2 := fun d os => (cells_hd (hat'.below kit.row (hb.trans ((below_regrown wr d os).mono hb.size)) hbl')).2.2.1
      have d3 := fun d os => (cells_hd (hat'.below kit.row (hb.trans ((below_regrown wr d os).mono hb.size)) hbl')).2.2.2.1
      have d4 := fun d os => (cells_hd (hat'.below kit.row (hb.trans ((below_regrown wr d os).mono hb.size)) hbl')).2.2.2.2.1
      have d5 := fun d os => (cells_hd (hat'.below kit.row (hb.trans ((below_regrown wr d os).mono hb.size)) hbl')).2.2.2.2.2
      have HI := Lib.hid (fun W2 (hb2 : Below w.heap.size w W2) => LProposal.eq _ _ _ W2 (LProposal.Is.below hI hb2) (LProposal.Is.below hI' hb2))
      clear hat hat' hI hI'
      generalize xs[k] = X at *
      have k0 : 0 ≤ (k : Int) := by omega
      have k1 : (k : Int) < (n : Int) := by omega
      go_wp2_with fail
      refine wp_region_quiet_below (by kernel_rfl) (by kernel_rfl) ?_
      repeat (go_big_quiet_step ((go_at_call 86; exact Calls.regrown_of (HI.out _ (hb.trans ((below_regrown wr _ _).mono hb.size))))))
      refine wpQuiet_nil ?_
      intro _ hw'
      obtain ⟨⟨dq, osq⟩, hw''⟩ := hw'
      subst hw''
      have hb2 : Below w.heap.size w (Sort.grow (redrawn wr dq) osq) := hb.trans ((below_regrown wr dq osq).mono hb.size)
      clear c0 d0 c1 d1 c2 d2 c3 d3 c4 d4 c5 d5
      go_wp2_with fail
      go_roundw
      case rel => exact ⟨k + 1, by omega, by go_num, hb2⟩
      case measure => simp [intOf]; omega
    · go_wp2_with fail
      go_ret
      exact ⟨rfl, hb⟩
end Go.Proofs.YtclpdpfnlmfogaaDoor.LProposalS
