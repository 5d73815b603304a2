/- The laws' helper szProposalS. No condition. -/
import Derived.Test.YtclpdpfnlmfogaaDoorLProposalSD
import Derived.Test.YtclpdpfnlmfogaaDoorJ1
namespace Go.Proofs.YtclpdpfnlmfogaaDoor.LProposalS
open Go Go.RowKit Bs
set_option linter.unusedVariables false
abbrev Fine (r : R) : Prop := LProposal.Fine r
def tot (xs : List R) : Nat := (xs.map LProposal.wt).sum
theorem tot_next (xs : List R) (k : Nat) (h : k < xs.length) : tot (xs.take (k + 1)) = tot (xs.take k) + LProposal.wt xs[k] := by
  rw [List.take_succ_eq_append_getElem h]; unfold tot; rw [List.map_append, List.sum_append]; simp
theorem tot_take_le (xs : List R) (k : Nat) : tot (xs.take k) ≤ tot xs := by
  have := congrArg tot (List.take_append_drop k xs)
  have e : ∀ a b : List R, tot (a ++ b) = tot a + tot b := fun a b => by simp [tot]
  rw [e] at this
  omega
theorem mem_le (xs : List R) (x : R) (h : x ∈ xs) : LProposal.wt x ≤ tot xs := by
  induction xs with
  | nil => cases h
  | cons y ys ih =>
    simp only [tot, List.map_cons, List.sum_cons] at ih ⊢
    rcases List.mem_cons.1 h with rfl | h
    · omega
    · have := ih h; omega
/-- no struct's slice is longer than the weight -/
theorem len_le {xs : List R} {x : R} (h : x ∈ xs) : x.words.length ≤ tot xs := by
  have := mem_le xs x h
  have e : LProposal.wt x = x.words.length + LString.tot x.words := rfl
  omega
/-- what the marks count -/
def cnt (xs : List R) : Nat := (xs.map (fun r => 5 + r.words.length)).sum
theorem cnt_le : ∀ xs : List R, cnt xs ≤ 5 * xs.length + tot xs
  | [] => Nat.zero_le _
  | x :: xs => by
    have ih := cnt_le xs
    have e : LProposal.wt x = x.words.length + LString.tot x.words := rfl
    simp only [cnt, tot, List.map_cons, List.sum_cons, List.length_cons] at ih ⊢
    omega
theorem cnt_next (xs : List R) (k : Nat) (h : k < xs.length) : cnt (xs.take (k + 1)) = cnt (xs.take k) + (5 + xs[k].words.length) := by
  rw [List.take_succ_eq_append_getElem h]; unfold cnt; rw [List.map_append, List.sum_append]; simp
theorem cnt_take_le (xs : List R) (k : Nat) : cnt (xs.take k) ≤ cnt xs := by
  have := congrArg cnt (List.take_append_drop k xs)
  have e : ∀ a b : List R, cnt (a ++ b) = cnt a + cnt b := fun a b => by simp [cnt]
  rw [e] at this
  omega
def Left (t : Nat) (l : Int) (w : World) (e : Ending) (w' : World) : Prop := Below w.heap.size w w' ∧ ∃ x : Int, e = .returned (.int .i64 x) ∧ ((x < 0 ∧ l < t) ∨ (x = l - t ∧ (t : Int) ≤ l))
set_option maxHeartbeats 800000 in
theorem szS (v : Value) (xs : List R) (l : Int) (w : World) (h0 : 0 ≤ l) (hl : l ≤ 1048576) (h : Is w v xs) (hsm : ∀ x ∈ xs, Fine x) :
    Calls Tryd.prog 38 #[v, .int .i64 l] w (Left (xs.length + tot xs) l w) := by
  have hc := get h
  obtain ⟨a, cp, rfl, hnb, h2⟩ := h.form
  unfold maxLen at h2
  obtain ⟨n, hn⟩ : ∃ n, n = xs.length := ⟨_, rfl⟩
  have HN := Lib.hid hn.symm
  have HSM := Lib.hid hsm
  rw [← hn] at hc hnb ⊢
  have hle : n ≤ xs.length := by omega
  clear hn hsm h
  by_cases hbig : l < n
  · go_enter Tryd.func38, Tryd.ntmps38
    go_wp2_with fail
    go_ret
    exact ⟨Below.refl _ _, -1, rfl, .inl ⟨by omega, by omega⟩⟩
  · go_enter Tryd.func38, Tryd.ntmps38
    go_wp2_with fail
    go_loopw [1, 5] (fun q i wr => ∃ k t : Nat, k ≤ n ∧ i = .int .i64 k ∧ q = .int .i64 (l - (n : Int) - t) ∧ (n : Int) + t ≤ l ∧ Hid (t = tot (xs.take k)) ∧ Below w.heap.size w wr) (fun _ i _ => n - (intOf i).toNat)
    case atStart => exact ⟨0, 0, Nat.zero_le _, rfl, by simp, by omega, rfl, Below.refl _ _⟩
    case round =>
      obtain ⟨k, t, hk, rfl, rfl, hT, HT, hb⟩ := hrel
      by_cases hlt : k < n
      · have hx : k < xs.length := by omega
        obtain ⟨b, o, c, x, y, z, he, hbl, hat, hI⟩ := hc.out k xs[k] (List.getElem?_eq_getElem hx)
        simp only [Value.slice.injEq] at he
        obtain ⟨rfl, -, rfl⟩ := he
        obtain ⟨q0, q1, q2, q3, q4, q5⟩ := cells_hd (hat.below kit.row hb hbl)
        have hxs := Lib.hid (HSM.out xs[k] (List.getElem_mem hx))
        have HTN := Lib.hid (tot_next xs k hx)
        have HTL := Lib.hid (tot_take_le xs (k + 1))
        have HI := Lib.hid (LProposal.Is.below hI hb)
        clear hat hI
        generalize xs[k] = X at *
        go_wp2_with fail
        refine (LProposal.sz _ X _ _ (by omega) (by omega) HI.out hxs.out).mono ?_
        rintro e w1 ⟨hb1, x, rfl, ⟨hx0, hxl⟩ | ⟨rfl, hxl⟩⟩
        · have hb3 := hb.trans (hb1.mono hb.size)
          have HB := Lib.hid (show l < ((n + tot xs : Nat) : Int) by
            have h1 := HTL.out
            rw [HTN.out, ← HT.out] at h1
            omega)
          clear hxl
          go_wp2_with fail
          go_ret
          exact ⟨hb3, -1, rfl, .inl ⟨by omega, HB.out⟩⟩
        · have hb3 := hb.trans (hb1.mono hb.size)
          have h6 : l - (n : Int) - (t : Int) - (LProposal.wt X : Int) = l - (n : Int) - ((t + LProposal.wt X : Nat) : Int) := by omega
          rw [h6]
          have h7 : (n : Int) + ((t + LProposal.wt X : Nat) : Int) ≤ l := by omega
          have HT2 := Lib.hid (show t + LProposal.wt X = tot (xs.take (k + 1)) by rw [HTN.out, ← HT.out])
          clear h6 hxl
          generalize t + LProposal.wt X = t2 at *
          go_wp2_with fail
          go_roundw
          case rel => exact ⟨k + 1, t2, by omega, by go_num, rfl, h7, HT2, hb3⟩
          case measure => simp [intOf]; omega
      · have hkn : xs.take k = xs := List.take_of_length_le (by rw [HN.out]; omega)
        have HF := Lib.hid (show t = tot xs by rw [HT.out, hkn])
        clear hkn
        go_wp2_with fail
        go_ret
        exact ⟨hb, _, rfl, .inr ⟨by rw [← HF.out]; omega, by rw [← HF.out]; omega⟩⟩
end Go.Proofs.YtclpdpfnlmfogaaDoor.LProposalS
