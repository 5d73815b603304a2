/- Members of the assembly: the model's and the program's test. No condition. -/
import Derived.Test.YtjphhcmhangkkaaWord
namespace Go.Proofs.Ytjphhcmhangkkaa.Mbr
open Go.RowKit Word
set_option linter.unusedVariables false
theorem l7Member (x : Int) (v : Bool) (h : inB x 1 99 = v) (w : World) : Calls Try.prog 49 #[.int .i64 x] w fun e w' => e = .returned (.bool v) ∧ w = w' := by
  have HI := Lib.hid (fun W => in_as x 1 99 v h W)
  go_enter Try.func49, Try.ntmps49
  go_wp2_with fail
  refine (HI.out _).mono ?_
  rintro e w' ⟨rfl, rfl⟩
  go_wp2_with fail
  go_ret
  exact ⟨rfl, rfl⟩
theorem member (x : Int) (v : Bool) (h : inB x 1 99 = v) (w : World) : Calls Try.prog 66 #[.int .i64 x] w fun e w' => e = .returned (.bool v) ∧ w = w' := by
  cases v with
  | true =>
    obtain ⟨h1, h2⟩ := inB_yes h
    clear h
    go_enter Try.func66, Try.ntmps66
    go_wp2_with fail
    go_ret
    exact ⟨rfl, rfl⟩
  | false =>
    have hn := inB_no h
    clear h
    by_cases h1 : 1 ≤ x
    · have h2 : ¬ x ≤ 99 := by omega
      clear hn
      go_enter Try.func66, Try.ntmps66
      go_wp2_with fail
      go_ret
      exact ⟨rfl, rfl⟩
    · clear hn
      go_enter Try.func66, Try.ntmps66
      go_wp2_with fail
      go_ret
      exact ⟨rfl, rfl⟩
end Go.Proofs.Ytjphhcmhangkkaa.Mbr
