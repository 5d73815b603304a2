/- The laws' helper szIntS. No condition. -/
import Derived.Test.YtdjnaoaniokbgaaLIntZ
namespace Go.Proofs.Ytdjnaoaniokbgaa.LInt
open Go.RowKit Bs
set_option linter.unusedVariables false
/-- what is left behind something of a weight -/
def Left (t : Nat) (l : Int) (w : World) (e : Ending) (w' : World) : Prop := Below w.heap.size w w' ∧ ∃ x : Int, e = .returned (.int .i64 x) ∧ ((x < 0 ∧ l < t) ∨ (x = l - t ∧ (t : Int) ≤ l))
set_option maxHeartbeats 400000 in
theorem szS (v : Value) (xs : List R) (l : Int) (w : World) (h0 : 0 ≤ l) (hl : l ≤ 1048576) (h : Is rec w v xs) (hsm : ∀ x ∈ xs, Fine x) :
    Calls Try.prog 73 #[v, .int .i64 l] w (Left (xs.length + tot xs) l w) := by
  obtain ⟨a, cp, rfl, h⟩ := h
  have hc := h.at_ rec
  obtain ⟨n, hn⟩ : ∃ n, n = xs.length := ⟨_, rfl⟩
  have hnb : n ≤ cp := by have := h.1; omega
  have h2 := h.2.1
  unfold maxLen at h2
  have HN := Lib.hid hn.symm
  have HSM := Lib.hid hsm
  rw [← hn]
  have hle : n ≤ xs.length := by omega
  clear hn hsm h
  by_cases hbig : l < n
  · go_enter Try.func73, Try.ntmps73
    go_wp2_with fail
    go_ret
    exact ⟨Below.refl _ _, -1, rfl, .inl ⟨by omega, by omega⟩⟩
  · have HT := Lib.hid (show tot xs = 0 from by clear h0 hl hc hle HN HSM h2 hnb hbig; induction xs with | nil => rfl | cons x t ih => (simp only [tot, List.map_cons, List.sum_cons] at ih ⊢; rw [ih]; rfl))
    go_enter Try.func73, Try.ntmps73
    go_wp2_with fail
    go_ret
    exact ⟨Below.refl _ _, _, rfl, .inr ⟨by rw [HT.out]; omega, by rw [HT.out]; omega⟩⟩
end Go.Proofs.Ytdjnaoaniokbgaa.LInt
