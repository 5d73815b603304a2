/- The laws' helpers szRule, szRuleS: how much a value takes of what is left. -/
import Derived.Test.YtbaflfbidgolfaaLRuleD
namespace Go.Proofs.Ytbaflfbidgolfaa.LRule
open Go.RowKit Bs
set_option linter.unusedVariables false
def wt (r : R) : Nat := r.name.size
def Fine (r : R) : Prop := r.name.size ≤ maxLen
def tot (xs : List R) : Nat := (xs.map wt).sum
theorem tot_next (xs : List R) (k : Nat) (h : k < xs.length) : tot (xs.take (k + 1)) = tot (xs.take k) + wt xs[k] := by
  rw [List.take_succ_eq_append_getElem h]; unfold tot; rw [List.map_append, List.sum_append]; simp
theorem tot_take_le (xs : List R) (k : Nat) : tot (xs.take k) ≤ tot xs := by
  have := congrArg tot (List.take_append_drop k xs)
  have e : ∀ a b : List R, tot (a ++ b) = tot a + tot b := fun a b => by simp [tot]
  rw [e] at this
  omega
theorem mem_le (xs : List R) (x : R) (h : x ∈ xs) : wt x ≤ tot xs := by
  induction xs with
  | nil => cases h
  | cons y ys ih =>
    simp only [tot, List.map_cons, List.sum_cons] at ih ⊢
    rcases List.mem_cons.1 h with rfl | h
    · omega
    · have := ih h; omega
/-- what is left behind something of a weight -/
def Left (t : Nat) (l : Int) (w : World) (e : Ending) (w' : World) : Prop := Below w.heap.size w w' ∧ ∃ x : Int, e = .returned (.int .i64 x) ∧ ((x < 0 ∧ l < t) ∨ (x = l - t ∧ (t : Int) ≤ l))
set_option maxHeartbeats 400000 in
theorem sz (r : R) (l : Int) (w : World) (h0 : 0 ≤ l) (hl : l ≤ 1048576) (hf : Fine r) :
    Calls Try.prog 76 #[.agg #[.int .i64 r.id, .string r.name, .int .i64 r.rank, .bool r.sec, .bool r.deb, .bool r.am, .int .i64 r.need], .int .i64 l] w (Left (wt r) l w) := by
  have hb := fun o => (Below.refl w.heap.size w).alloc (Nat.le_refl _) o
  have HW := Lib.hid (show wt r = r.name.size from rfl)
  unfold Fine maxLen at hf
  by_cases g0 : ((r.name.size : Nat) : Int) ≤ l
  · go_enter Try.func76, Try.ntmps76
    go_wp2_with fail
    go_ret
    exact ⟨hb _, _, rfl, .inr ⟨by have := HW.out; omega, by have := HW.out; omega⟩⟩
  · go_enter Try.func76, Try.ntmps76
    go_wp2_with fail
    go_ret
    exact ⟨hb _, -1, rfl, .inl ⟨by omega, by have := HW.out; omega⟩⟩
set_option maxHeartbeats 400000 in
theorem szS (v : Value) (xs : List R) (l : Int) (w : World) (h0 : 0 ≤ l) (hl : l ≤ 1048576) (h : Is rec w v xs) (hsm : ∀ x ∈ xs, Fine x) :
    Calls Try.prog 16 #[v, .int .i64 l] w (Left (xs.length + tot xs) l w) := by
  obtain ⟨a, cp, rfl, h⟩ := h
  have hc := h.at_ rec
  obtain ⟨n, hn⟩ : ∃ n, n = xs.length := ⟨_, rfl⟩
  have hnb : n ≤ cp := by have := h.1; omega
  have h2 := h.2.1
  unfold maxLen at h2
  have HN := Lib.hid hn.symm
  have HSM := Lib.hid hsm
  rw [← hn]
  have hle : n ≤ xs.length := by omega
  clear hn hsm h
  by_cases hbig : l < n
  · go_enter Try.func16, Try.ntmps16
    go_wp2_with fail
    go_ret
    exact ⟨Below.refl _ _, -1, rfl, .inl ⟨by omega, by omega⟩⟩
  · go_enter Try.func16, Try.ntmps16
    go_wp2_with fail
    go_loopw [1, 5] (fun q i wr => ∃ k t : Nat, k ≤ n ∧ i = .int .i64 k ∧ q = .int .i64 (l - (n : Int) - t) ∧ (n : Int) + t ≤ l ∧ Hid (t = tot (xs.take k)) ∧ Below w.heap.size w wr) (fun _ i _ => n - (intOf i).toNat)
    case atStart => exact ⟨0, 0, Nat.zero_le _, rfl, by simp, by omega, rfl, Below.refl _ _⟩
    case round =>
      obtain ⟨k, t, hk, rfl, rfl, hT, HT, hb⟩ := hrel
      by_cases hlt : k < n
      · have hx : k < xs.length := by omega
        obtain ⟨b, o, rfl, hbl, hcell⟩ := hc.out k xs[k] (List.getElem?_eq_getElem hx)
        obtain ⟨q0, q1, q2, q3, q4, q5, q6⟩ := cells (hcell.below rec hb hbl)
        simp only [rec_n] at q0 q1 q2 q3 q4 q5 q6
        have hxs := Lib.hid (HSM.out xs[k] (List.getElem_mem hx))
        have HTN := Lib.hid (tot_next xs k hx)
        have HTL := Lib.hid (tot_take_le xs (k + 1))
        clear hcell
        generalize xs[k] = X at *
        go_wp2_with fail
        refine (sz X _ _ (by omega) (by omega) hxs.out).mono ?_
        rintro e w1 ⟨hb1, x, rfl, ⟨hx0, hxl⟩ | ⟨rfl, hxl⟩⟩
        · have hb3 := hb.trans (hb1.mono hb.size)
          have HB := Lib.hid (show l < ((n + tot xs : Nat) : Int) by
            have h1 := HTL.out
            rw [HTN.out, ← HT.out] at h1
            omega)
          clear hxl
          go_wp2_with fail
          go_ret
          exact ⟨hb3, -1, rfl, .inl ⟨by omega, HB.out⟩⟩
        · have hb3 := hb.trans (hb1.mono hb.size)
          have h6 : l - (n : Int) - (t : Int) - (wt X : Int) = l - (n : Int) - ((t + wt X : Nat) : Int) := by omega
          rw [h6]
          have h7 : (n : Int) + ((t + wt X : Nat) : Int) ≤ l := by omega
          have HT2 := Lib.hid (show t + wt X = tot (xs.take (k + 1)) by rw [HTN.out, ← HT.out])
          clear h6 hxl
          generalize t + wt X = t2 at *
          go_wp2_with fail
          go_roundw
          case rel => exact ⟨k + 1, t2, by omega, by go_num, rfl, h7, HT2, hb3⟩
          case measure => simp [intOf]; omega
      · have hkn : xs.take k = xs := List.take_of_length_le (by rw [HN.out]; omega)
        have HF := Lib.hid (show t = tot xs by rw [HT.out, hkn])
        clear hkn
        go_wp2_with fail
        go_ret
        exact ⟨hb, _, rfl, .inr ⟨by rw [← HF.out]; omega, by rw [← HF.out]; omega⟩⟩
end Go.Proofs.Ytbaflfbidgolfaa.LRule
