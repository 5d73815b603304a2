/- The laws' helper szStringS. No condition. -/
import Derived.Test.YtclpdpfnlmfogaaLStringZ
namespace Go.Proofs.Ytclpdpfnlmfogaa.LString
open Go.RowKit Bs
set_option linter.unusedVariables false
/-- what is left behind something of a weight -/
def Left (t : Nat) (l : Int) (w : World) (e : Ending) (w' : World) : Prop := Below w.heap.size w w' ∧ ∃ x : Int, e = .returned (.int .i64 x) ∧ ((x < 0 ∧ l < t) ∨ (x = l - t ∧ (t : Int) ≤ l))
set_option maxHeartbeats 800000 in
theorem szS (v : Value) (xs : List R) (l : Int) (w : World) (h0 : 0 ≤ l) (hl : l ≤ 1048576) (h : Is rec w v xs) (hsm : ∀ x ∈ xs, Fine x) :
    Calls Try.prog 8 #[v, .int .i64 l] w (Left (xs.length + tot xs) l w) := by
  obtain ⟨a, cp, rfl, h⟩ := h
  have hc := h.at_ rec
  obtain ⟨n, hn⟩ : ∃ n, n = xs.length := ⟨_, rfl⟩
  have hnb : n ≤ cp := by have := h.1; omega
  have h2 := h.2.1
  unfold maxLen at h2
  have HN := Lib.hid hn.symm
  have HSM := Lib.hid hsm
  rw [← hn]
  have hle : n ≤ xs.length := by omega
  clear hn hsm h
  by_cases hbig : l < n
  · go_enter Try.func8, Try.ntmps8
    go_wp2_with fail
    go_ret
    exact ⟨Below.refl _ _, -1, rfl, .inl ⟨by omega, by omega⟩⟩
  · go_enter Try.func8, Try.ntmps8
    go_wp2_with fail
    go_loop [1, 5] (fun q i => ∃ k t : Nat, k ≤ n ∧ i = .int .i64 k ∧ q = .int .i64 (l - (n : Int) - t) ∧ (n : Int) + t ≤ l ∧ Hid (t = tot (xs.take k))) (fun _ i => n - (intOf i).toNat)
    case atStart => exact ⟨0, 0, Nat.zero_le _, rfl, by simp, by omega, rfl⟩
    case round =>
      obtain ⟨k, t, hk, rfl, rfl, hT, HT⟩ := hrel
      by_cases hlt : k < n
      · have hx : k < xs.length := by omega
        obtain ⟨b, o, rfl, hbl, hcell⟩ := hc.out k xs[k] (List.getElem?_eq_getElem hx)
        have q0 := cells hcell
        simp only [rec_n, Nat.mul_one] at q0
        have hxs := HSM.out xs[k] (List.getElem_mem hx)
        unfold Fine maxLen at hxs
        have HTN := Lib.hid (tot_next xs k hx)
        have HTL := Lib.hid (tot_take_le xs (k + 1))
        clear hcell
        by_cases hb2 : l < n + (t + wt xs[k] : Nat)
        · have HB := Lib.hid (show l < ((n + tot xs : Nat) : Int) by
            have h1 := HTL.out
            rw [HTN.out, ← HT.out] at h1
            omega)
          unfold wt at hb2
          generalize xs[k] = X at *
          go_wp2_with fail
          go_ret
          exact ⟨Below.refl _ _, -1, rfl, .inl ⟨by omega, HB.out⟩⟩
        · have HT2 := Lib.hid (show t + wt xs[k] = tot (xs.take (k + 1)) by rw [HTN.out, ← HT.out])
          unfold wt at hb2 HT2
          generalize xs[k] = X at *
          go_wp2_with fail
          go_round
          case rel => exact ⟨k + 1, t + X.size, by omega, by go_num, by go_num, by omega, HT2⟩
          case measure => simp [intOf]; omega
      · have hkn : xs.take k = xs := List.take_of_length_le (by rw [HN.out]; omega)
        have HF := Lib.hid (show t = tot xs by rw [HT.out, hkn])
        clear hkn
        go_wp2_with fail
        go_ret
        exact ⟨Below.refl _ _, _, rfl, .inr ⟨by rw [← HF.out]; omega, by rw [← HF.out]; omega⟩⟩
end Go.Proofs.Ytclpdpfnlmfogaa.LString
