/- Votes and what they need: the model's and the program's tests. No condition but that numbers of votes do not overflow. -/
import Derived.Test.YtkdiedmbikkbiaaDoorTal
import Derived.Test.YtkdiedmbikkbiaaDoorBx
namespace Go.Proofs.YtkdiedmbikkbiaaDoor.TalS
open Go.RowKit Bs Word Tal
set_option linter.unusedVariables false
theorem l11Votes (n : Int) (v : Bool) (h : votes n = v) (w : World) : Calls Tryd.prog 40 #[.int .i64 n] w fun e w' => e = .returned (.bool v) ∧ w = w' := by
  have HI := Lib.hid (fun W => in_as n 0 1000 v h W)
  go_enter Tryd.func40, Tryd.ntmps40
  go_wp2_with fail
  refine (HI.out _).mono ?_
  rintro e w' ⟨rfl, rfl⟩
  go_wp2_with fail
  go_ret
  exact ⟨rfl, rfl⟩
theorem areVotes (n : Int) (v : Bool) (h : votes n = v) (w : World) : Calls Tryd.prog 35 #[.int .i64 n] w fun e w' => e = .returned (.bool v) ∧ w = w' := by
  cases v with
  | true =>
    obtain ⟨h1, h2⟩ := votes_yes h
    clear h
    go_enter Tryd.func35, Tryd.ntmps35
    go_wp2_with fail
    go_ret
    exact ⟨rfl, rfl⟩
  | false =>
    have hn := votes_no h
    clear h
    by_cases h1 : 0 ≤ n
    · have h2 : ¬ n ≤ 1000 := by omega
      clear hn
      go_enter Tryd.func35, Tryd.ntmps35
      go_wp2_with fail
      go_ret
      exact ⟨rfl, rfl⟩
    · clear hn
      go_enter Tryd.func35, Tryd.ntmps35
      go_wp2_with fail
      go_ret
      exact ⟨rfl, rfl⟩
def needS (n : Int) : ByteArray := if n = 1 then ⟨#[109, 97, 106, 111, 114, 105, 116, 121]⟩ else if n = 2 then ⟨#[116, 119, 111, 45, 116, 104, 105, 114, 100, 115]⟩ else if n = 3 then ⟨#[97, 108, 108]⟩ else ⟨#[]⟩
/-- what the program's test answers at whatever numbers -/
def car (k y n : Int) : Bool := if IntKind.i64.wrap (y + n) = 0 then false else if k = 1 then decide (n < y) else if k = 2 then decide (IntKind.i64.wrap (2 * IntKind.i64.wrap (y + n)) ≤ IntKind.i64.wrap (3 * y)) else if k = 3 then decide (n = 0) else false
theorem car_en {k y n : Int} (hk : need k = true) (hy : 0 ≤ y ∧ y ≤ 5000) (hn : 0 ≤ n ∧ n ≤ 5000) : car k y n = en k y n := by
  have w1 : IntKind.i64.wrap (y + n) = y + n := IntWalk.i64_in _ (by omega)
  have w2 : IntKind.i64.wrap (2 * (y + n)) = 2 * (y + n) := IntWalk.i64_in _ (by omega)
  have w3 : IntKind.i64.wrap (3 * y) = 3 * y := IntWalk.i64_in _ (by omega)
  unfold car
  rw [w1, w2, w3]
  rcases need_yes hk with rfl | rfl | rfl
  · rw [en1]
    by_cases h : y + n = 0
    · rw [if_pos h]; exact (decide_eq_false (by omega)).symm
    · rw [if_neg h, if_pos rfl]
  · rw [en2]
    by_cases h : y + n = 0
    · rw [if_pos h]; exact (decide_eq_false (by omega)).symm
    · rw [if_neg h, if_neg (by decide), if_pos rfl]
      exact decide_eq_decide.2 ⟨fun h => by omega, fun h => by omega⟩
  · rw [en3]
    by_cases h : y + n = 0
    · rw [if_pos h]; exact (decide_eq_false (by omega)).symm
    · rw [if_neg h, if_neg (by decide), if_neg (by decide), if_pos rfl]
      exact decide_eq_decide.2 ⟨fun h => by omega, fun h => by omega⟩
end Go.Proofs.YtkdiedmbikkbiaaDoor.TalS
