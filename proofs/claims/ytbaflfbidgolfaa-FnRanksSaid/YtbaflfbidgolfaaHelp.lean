/- Rules in memory: what a law's helpers szRule, toRule, eqRule and those of their slices do with them. No condition but the sizes that the law itself tests. -/
import Derived.Test.YtbaflfbidgolfaaRule
import Derived.Deep.Fields
namespace Go.Proofs.Ytbaflfbidgolfaa.Help
open Go.RowKit Rule
set_option linter.unusedVariables false

theorem szRule_yes (r : R) (l : Int) (w : World) (h : (r.name.size : Int) ≤ l) (hl : l ≤ 1048576) :
    Calls Try.prog 76 #[.agg #[.int .i64 r.id, .string r.name, .int .i64 r.rank, .bool r.sec, .bool r.deb, .bool r.am, .int .i64 r.need], .int .i64 l] w fun e w' => e = .returned (.int .i64 (l - r.name.size)) ∧ Below w.heap.size w w' := by
  go_enter Try.func76, Try.ntmps76
  go_wp2_with fail
  go_ret
  exact ⟨rfl, (Below.refl _ _).alloc (Nat.le_refl _) _⟩
theorem szRule_no (r : R) (l : Int) (w : World) (h : l < (r.name.size : Int)) (h0 : 0 ≤ l) (hs : r.name.size ≤ maxLen) :
    Calls Try.prog 76 #[.agg #[.int .i64 r.id, .string r.name, .int .i64 r.rank, .bool r.sec, .bool r.deb, .bool r.am, .int .i64 r.need], .int .i64 l] w fun e w' => e = .returned (.int .i64 (-1)) ∧ Below w.heap.size w w' := by
  unfold maxLen at hs
  go_enter Try.func76, Try.ntmps76
  go_wp2_with fail
  go_ret
  exact ⟨rfl, (Below.refl _ _).alloc (Nat.le_refl _) _⟩

def tot (xs : List R) : Nat := (xs.map fun r => r.name.size).sum
theorem tot_next (xs : List R) (k : Nat) (h : k < xs.length) : tot (xs.take (k + 1)) = tot (xs.take k) + (xs[k]).name.size := by
  rw [List.take_succ_eq_append_getElem h]; unfold tot; rw [List.map_append, List.sum_append]; simp
theorem tot_take_le (xs : List R) (k : Nat) : tot (xs.take k) ≤ tot xs := by
  have := congrArg tot (List.take_append_drop k xs)
  have e : ∀ a b : List R, tot (a ++ b) = tot a + tot b := fun a b => by simp [tot]
  rw [e] at this
  omega
theorem mem_le (xs : List R) (x : R) (h : x ∈ xs) : x.name.size ≤ tot xs := by
  induction xs with
  | nil => cases h
  | cons y ys ih =>
    simp only [tot, List.map_cons, List.sum_cons] at ih ⊢
    rcases List.mem_cons.1 h with rfl | h
    · omega
    · have := ih h; omega
def Small (n : Nat) (xs : List R) : Prop := n + tot xs ≤ 1048576
def SZ (n : Nat) (xs : List R) (w : World) (e : Ending) (w' : World) : Prop := Below w.heap.size w w' ∧ ∃ r : Int, e = .returned (.int .i64 r) ∧ ((r < 0 ∧ ¬ Small n xs) ∨ (0 ≤ r ∧ r = 1048576 - n - tot xs ∧ Small n xs))

set_option maxHeartbeats 400000 in
theorem szRuleS (a : Option Addr) (n cp : Nat) (xs : List R) (w : World) (hn : xs.length = n) (h : RulesAt w a cp xs) (hsm : ∀ x ∈ xs, x.name.size ≤ maxLen) :
    Calls Try.prog 16 #[.slice a n cp, .int .i64 1048576] w (SZ n xs w) := by
  have hc := h.at_
  obtain ⟨h1, h2, h3⟩ := h
  unfold maxLen at h2
  have HN := Lib.hid hn
  have HSM := Lib.hid hsm
  have hnb : n ≤ cp := by omega
  clear hn hsm h1 h3
  by_cases hbig : 1048576 < n
  · go_enter Try.func16, Try.ntmps16
    go_wp2_with fail
    go_ret
    exact ⟨Below.refl _ _, -1, rfl, .inl ⟨by omega, by unfold Small; omega⟩⟩
  · go_enter Try.func16, Try.ntmps16
    go_wp2_with fail
    go_loopw [1, 5] (fun l i wr => ∃ k T : Nat, k ≤ n ∧ i = .int .i64 k ∧ l = .int .i64 (1048576 - (n : Int) - T) ∧ n + T ≤ 1048576 ∧ Hid (T = tot (xs.take k)) ∧ Below w.heap.size w wr) (fun _ i _ => n - (intOf i).toNat)
    case atStart => exact ⟨0, 0, Nat.zero_le _, rfl, by simp, by omega, rfl, Below.refl _ _⟩
    case round =>
      obtain ⟨k, T, hk, rfl, rfl, hT, HT, hb⟩ := hrel
      by_cases hlt : k < n
      · have hx : k < xs.length := by rw [HN.out]; exact hlt
        obtain ⟨b, o, rfl, hbl, hcell⟩ := hc.out k xs[k] (List.getElem?_eq_getElem hx)
        have hcell2 := hcell.below hb hbl
        have hxs := Lib.hid (HSM.out xs[k] (List.getElem_mem hx))
        have HTN := Lib.hid (tot_next xs k hx)
        clear hcell
        obtain ⟨q0, q1, q2, q3, q4, q5, q6⟩ := hcell2
        by_cases hb2 : 1048576 < n + (T + (xs[k]).name.size)
        · have HB := Lib.hid (show ¬ Small n xs by
            have h1 := tot_take_le xs (k + 1)
            rw [HTN.out, ← HT.out] at h1
            unfold Small
            omega)
          generalize xs[k] = X at *
          go_wp2_with fail
          refine (szRule_no X _ _ (by omega) (by omega) hxs.out).mono ?_
          rintro e w1 ⟨rfl, hb1⟩
          have hb3 := hb.trans (hb1.mono hb.size)
          go_wp2_with fail
          go_ret
          exact ⟨hb3, -1, rfl, .inl ⟨by omega, HB.out⟩⟩
        · generalize xs[k] = X at *
          go_wp2_with fail
          refine (szRule_yes X _ _ (by omega) (by omega)).mono ?_
          rintro e w1 ⟨rfl, hb1⟩
          have hb3 := hb.trans (hb1.mono hb.size)
          go_wp2_with fail
          go_roundw
          case rel => exact ⟨k + 1, T + X.name.size, by omega, by go_num, by go_num, by omega, by show _ = _; rw [HTN.out, ← HT.out], hb3⟩
          case measure => simp [intOf]; omega
      · have hkn : xs.take k = xs := List.take_of_length_le (by rw [HN.out]; omega)
        have HF := Lib.hid (show Small n xs by unfold Small; rw [← hkn, ← HT.out]; exact hT)
        have HE := Lib.hid (show (1048576 : Int) - n - T = 1048576 - n - tot xs by rw [HT.out, hkn])
        clear hkn
        go_wp2_with fail
        go_ret
        exact ⟨hb, _, rfl, .inr ⟨by omega, HE.out, HF.out⟩⟩

set_option maxHeartbeats 400000 in
theorem toRule (r : R) (w : World) :
    Calls Try.prog 78 #[.agg #[.int .i64 r.id, .string r.name, .int .i64 r.rank, .bool r.sec, .bool r.deb, .bool r.am, .int .i64 r.need]] w fun e w' => e = .returned (.agg #[.int .i64 r.id, .string r.name, .int .i64 r.rank, .bool r.sec, .bool r.deb, .bool r.am, .int .i64 r.need]) ∧ Below w.heap.size w w' := by
  go_enter Try.func78, Try.ntmps78
  go_wp2_with fail
  refine bodyPost_ret (v := .agg #[.int .i64 r.id, .string r.name, .int .i64 r.rank, .bool r.sec, .bool r.deb, .bool r.am, .int .i64 r.need]) (by simp [results, Try.results78, go_sem]) rfl ⟨rfl, ?_⟩
  exact (((Below.refl _ _).alloc (Nat.le_refl _) _).alloc (by simp) _).alloc (by simp; omega) _

set_option maxHeartbeats 800000 in
/-- two values of the same rule -/
theorem eqRule (r : R) (w : World) :
    Calls Try.prog 84 #[.agg #[.int .i64 r.id, .string r.name, .int .i64 r.rank, .bool r.sec, .bool r.deb, .bool r.am, .int .i64 r.need], .agg #[.int .i64 r.id, .string r.name, .int .i64 r.rank, .bool r.sec, .bool r.deb, .bool r.am, .int .i64 r.need]] w fun e w' => e = .returned (.bool true) ∧ Below w.heap.size w w' := by
  have h1 : (r.id != r.id) = false := by simp
  have h2 : (r.name.toList != r.name.toList) = false := by simp
  have h3 : (r.rank != r.rank) = false := by simp
  have h4 : (r.sec != r.sec) = false := by simp
  have h5 : (r.deb != r.deb) = false := by simp
  have h6 : (r.am != r.am) = false := by simp
  have h7 : (r.need != r.need) = false := by simp
  go_enter Try.func84, Try.ntmps84
  go_wp2_with fail
  go_ret
  exact ⟨rfl, ((Below.refl _ _).alloc (Nat.le_refl _) _).alloc (by simp) _⟩
end Go.Proofs.Ytbaflfbidgolfaa.Help
