/- Votes and what they need: the model's and the program's tests. No condition but that numbers of votes do not overflow. -/
import Derived.Test.YtankaffhapcnaaaTal
import Derived.Test.YtankaffhapcnaaaBx
namespace Go.Proofs.Ytankaffhapcnaaa.TalS
open Go.RowKit Bs Word Tal
set_option linter.unusedVariables false
theorem l11Votes (n : Int) (v : Bool) (h : votes n = v) (w : World) : Calls Try.prog 121 #[.int .i64 n] w fun e w' => e = .returned (.bool v) ∧ w = w' := by
  have HI := Lib.hid (fun W => in_as n 0 1000 v h W)
  go_enter Try.func121, Try.ntmps121
  go_wp2_with fail
  refine (HI.out _).mono ?_
  rintro e w' ⟨rfl, rfl⟩
  go_wp2_with fail
  go_ret
  exact ⟨rfl, rfl⟩
theorem l11Need (n : Int) (v : Bool) (h : need n = v) (w : World) : Calls Try.prog 120 #[.int .i64 n] w fun e w' => e = .returned (.bool v) ∧ w = w' := by
  have HI := Lib.hid (fun W => in_as n 1 3 v h W)
  go_enter Try.func120, Try.ntmps120
  go_wp2_with fail
  refine (HI.out _).mono ?_
  rintro e w' ⟨rfl, rfl⟩
  go_wp2_with fail
  go_ret
  exact ⟨rfl, rfl⟩
theorem areVotes (n : Int) (v : Bool) (h : votes n = v) (w : World) : Calls Try.prog 115 #[.int .i64 n] w fun e w' => e = .returned (.bool v) ∧ w = w' := by
  cases v with
  | true =>
    obtain ⟨h1, h2⟩ := votes_yes h
    clear h
    go_enter Try.func115, Try.ntmps115
    go_wp2_with fail
    go_ret
    exact ⟨rfl, rfl⟩
  | false =>
    have hn := votes_no h
    clear h
    by_cases h1 : 0 ≤ n
    · have h2 : ¬ n ≤ 1000 := by omega
      clear hn
      go_enter Try.func115, Try.ntmps115
      go_wp2_with fail
      go_ret
      exact ⟨rfl, rfl⟩
    · clear hn
      go_enter Try.func115, Try.ntmps115
      go_wp2_with fail
      go_ret
      exact ⟨rfl, rfl⟩
def needS (n : Int) : ByteArray := if n = 1 then ⟨#[109, 97, 106, 111, 114, 105, 116, 121]⟩ else if n = 2 then ⟨#[116, 119, 111, 45, 116, 104, 105, 114, 100, 115]⟩ else if n = 3 then ⟨#[97, 108, 108]⟩ else ⟨#[]⟩
theorem needWord (n : Int) (w : World) : Calls Try.prog 145 #[.int .i64 n] w fun e w' => e = .returned (.string (needS n)) ∧ w = w' := by
  by_cases h1 : n = 1
  · subst h1
    go_enter Try.func145, Try.ntmps145
    go_wp2_with fail
    go_ret
    exact ⟨rfl, rfl⟩
  by_cases h2 : n = 2
  · subst h2
    go_enter Try.func145, Try.ntmps145
    go_wp2_with fail
    go_ret
    exact ⟨rfl, rfl⟩
  by_cases h3 : n = 3
  · subst h3
    go_enter Try.func145, Try.ntmps145
    go_wp2_with fail
    go_ret
    exact ⟨rfl, rfl⟩
  have HE := Lib.hid (show needS n = ⟨#[]⟩ by unfold needS; rw [if_neg h1, if_neg h2, if_neg h3])
  have d1 : (n == 1) = false := by simpa using h1
  have d2 : (n == 2) = false := by simpa using h2
  have d3 : (n == 3) = false := by simpa using h3
  clear h1 h2 h3
  go_enter Try.func145, Try.ntmps145
  go_wp2_with fail
  go_ret
  exact ⟨by rw [HE.out]; rfl, rfl⟩
theorem isNeed (n : Int) (v : Bool) (h : need n = v) (w : World) : Calls Try.prog 114 #[.int .i64 n] w fun e w' => e = .returned (.bool v) ∧ w = w' := by
  have HN := Lib.hid (fun W => needWord n W)
  cases v with
  | true =>
    rcases need_yes h with rfl | rfl | rfl
    all_goals
      clear h
      go_enter Try.func114, Try.ntmps114
      go_wp2_with fail
      refine (HN.out _).mono ?_
      rintro e w' ⟨rfl, rfl⟩
      simp only [needS]
      go_wp2_with fail
      go_ret
      exact ⟨rfl, rfl⟩
  | false =>
    obtain ⟨h1, h2, h3⟩ := need_no h
    have HE := Lib.hid (show needS n = ⟨#[]⟩ by unfold needS; rw [if_neg h1, if_neg h2, if_neg h3])
    clear h h1 h2 h3
    go_enter Try.func114, Try.ntmps114
    go_wp2_with fail
    refine (HN.out _).mono ?_
    rintro e w' ⟨rfl, rfl⟩
    rw [HE.out]
    go_wp2_with fail
    go_ret
    exact ⟨rfl, rfl⟩
theorem l11Enough (k y n : Int) (v : Bool) (h : en k y n = v) (hy : 0 ≤ y ∧ y ≤ 5000) (hn : 0 ≤ n ∧ n ≤ 5000) (hk : need k = true) (w : World) : Calls Try.prog 122 #[.int .i64 k, .int .i64 y, .int .i64 n] w fun e w' => e = .returned (.bool v) ∧ w = w' := by
  have w1 : IntKind.i64.wrap (y + n) = y + n := IntWalk.i64_in _ (by omega)
  have w2 : IntKind.i64.wrap (2 * n) = 2 * n := IntWalk.i64_in _ (by omega)
  rcases need_yes hk with rfl | rfl | rfl
  · rw [en1] at h
    clear hk
    cases v
    all_goals
      have h' := h
      simp only [decide_eq_true_eq, decide_eq_false_iff_not] at h'
      clear h
      go_enter Try.func122, Try.ntmps122
      go_wp2_with fail
      go_ret
      exact ⟨by simp, rfl⟩
  · rw [en2] at h
    clear hk
    by_cases h1 : 0 < y + n
    · by_cases h2 : 2 * n ≤ y
      · obtain rfl : v = true := by rw [← h]; exact decide_eq_true ⟨h1, h2⟩
        clear h
        go_enter Try.func122, Try.ntmps122
        go_wp2_with fail
        go_ret
        exact ⟨rfl, rfl⟩
      · obtain rfl : v = false := by rw [← h]; exact decide_eq_false (fun h => h2 h.2)
        clear h
        go_enter Try.func122, Try.ntmps122
        go_wp2_with fail
        go_ret
        exact ⟨rfl, rfl⟩
    · obtain rfl : v = false := by rw [← h]; exact decide_eq_false (fun h => h1 h.1)
      clear h
      go_enter Try.func122, Try.ntmps122
      go_wp2_with fail
      go_ret
      exact ⟨rfl, rfl⟩
  · rw [en3] at h
    clear hk
    by_cases h1 : 0 < y
    · by_cases h2 : n = 0
      · obtain rfl : v = true := by rw [← h]; exact decide_eq_true ⟨h1, h2⟩
        subst h2
        clear h
        go_enter Try.func122, Try.ntmps122
        go_wp2_with fail
        go_ret
        exact ⟨rfl, rfl⟩
      · obtain rfl : v = false := by rw [← h]; exact decide_eq_false (fun h => h2 h.2)
        have d : (n == 0) = false := by simpa using h2
        clear h
        go_enter Try.func122, Try.ntmps122
        go_wp2_with fail
        go_ret
        exact ⟨rfl, rfl⟩
    · obtain rfl : v = false := by rw [← h]; exact decide_eq_false (fun h => h1 h.1)
      clear h
      go_enter Try.func122, Try.ntmps122
      go_wp2_with fail
      go_ret
      exact ⟨rfl, rfl⟩
/-- what the program's test answers at whatever numbers -/
def car (k y n : Int) : Bool := if IntKind.i64.wrap (y + n) = 0 then false else if k = 1 then decide (n < y) else if k = 2 then decide (IntKind.i64.wrap (2 * IntKind.i64.wrap (y + n)) ≤ IntKind.i64.wrap (3 * y)) else if k = 3 then decide (n = 0) else false
theorem car_en {k y n : Int} (hk : need k = true) (hy : 0 ≤ y ∧ y ≤ 5000) (hn : 0 ≤ n ∧ n ≤ 5000) : car k y n = en k y n := by
  have w1 : IntKind.i64.wrap (y + n) = y + n := IntWalk.i64_in _ (by omega)
  have w2 : IntKind.i64.wrap (2 * (y + n)) = 2 * (y + n) := IntWalk.i64_in _ (by omega)
  have w3 : IntKind.i64.wrap (3 * y) = 3 * y := IntWalk.i64_in _ (by omega)
  unfold car
  rw [w1, w2, w3]
  rcases need_yes hk with rfl | rfl | rfl
  · rw [en1]
    by_cases h : y + n = 0
    · rw [if_pos h]; exact (decide_eq_false (by omega)).symm
    · rw [if_neg h, if_pos rfl]
  · rw [en2]
    by_cases h : y + n = 0
    · rw [if_pos h]; exact (decide_eq_false (by omega)).symm
    · rw [if_neg h, if_neg (by decide), if_pos rfl]
      exact decide_eq_decide.2 ⟨fun h => by omega, fun h => by omega⟩
  · rw [en3]
    by_cases h : y + n = 0
    · rw [if_pos h]; exact (decide_eq_false (by omega)).symm
    · rw [if_neg h, if_neg (by decide), if_neg (by decide), if_pos rfl]
      exact decide_eq_decide.2 ⟨fun h => by omega, fun h => by omega⟩
theorem isCarried (k y n : Int) (v : Bool) (h : car k y n = v) (w : World) : Calls Try.prog 119 #[.int .i64 k, .int .i64 y, .int .i64 n] w fun e w' => e = .returned (.bool v) ∧ w = w' := by
  unfold car at h
  generalize hs : IntKind.i64.wrap (y + n) = s at h
  generalize ht : IntKind.i64.wrap (3 * y) = t at h
  generalize hu : IntKind.i64.wrap (2 * s) = u at h
  by_cases h0 : s = 0
  · rw [if_pos h0] at h
    subst h0 h
    go_enter Try.func119, Try.ntmps119
    go_wp2_with fail
    go_ret
    exact ⟨rfl, rfl⟩
  rw [if_neg h0] at h
  have d0 : (s == 0) = false := by simpa using h0
  by_cases h1 : k = 1
  · rw [if_pos h1] at h
    subst h1 h
    clear h0
    go_enter Try.func119, Try.ntmps119
    go_wp2_with fail
    go_ret
    exact ⟨rfl, rfl⟩
  rw [if_neg h1] at h
  have d1 : (k == 1) = false := by simpa using h1
  by_cases h2 : k = 2
  · rw [if_pos h2] at h
    subst h2 h
    clear h0 h1 d1
    go_enter Try.func119, Try.ntmps119
    go_wp2_with fail
    go_ret
    exact ⟨rfl, rfl⟩
  rw [if_neg h2] at h
  have d2 : (k == 2) = false := by simpa using h2
  by_cases h3 : k = 3
  · rw [if_pos h3] at h
    subst h3 h
    clear h0 h1 h2 d1 d2
    go_enter Try.func119, Try.ntmps119
    go_wp2_with fail
    go_ret
    exact ⟨by first | rfl | simp, rfl⟩
  rw [if_neg h3] at h
  have d3 : (k == 3) = false := by simpa using h3
  subst h
  clear h0 h1 h2 h3
  go_enter Try.func119, Try.ntmps119
  go_wp2_with fail
  go_ret
  exact ⟨rfl, rfl⟩
end Go.Proofs.Ytankaffhapcnaaa.TalS
