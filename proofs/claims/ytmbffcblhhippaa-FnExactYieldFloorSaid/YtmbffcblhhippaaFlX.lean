/- Floors: the zero floor; bounds of shares; lengths. No condition. -/
import Derived.Test.YtmbffcblhhippaaFlG
import Derived.Test.YtmbffcblhhippaaFlB
namespace Go.Proofs.Ytmbffcblhhippaa.FlX
open Go.RowKit Bs Word Sq IntF Fl FlA FlG FlB
set_option linter.unusedVariables false
def zeroF : F := ⟨0, 0, 0, [], []⟩
theorem field_seconds (x : S) (w : World) : (Instr.field 60 (.agg #[.int .i64 x.member, .int .i64 x.turns, .int .i64 x.seconds]) 2).run Try.prog w = .ok (.int .i64 x.seconds) w := by kernel_rfl
theorem share_in {f : F} (h : ShP f) (ht : 0 ≤ f.turns) (hs : 0 ≤ f.seconds) (m : Int) : (0 ≤ (share f.shares m).turns ∧ (share f.shares m).turns ≤ f.turns) ∧ 0 ≤ (share f.shares m).seconds ∧ (share f.shares m).seconds ≤ f.seconds := by
  unfold share
  cases e : got (fun X => (X.member == m)) f.shares with
  | none => exact ⟨⟨Int.le_refl _, ht⟩, Int.le_refl _, hs⟩
  | some X =>
    obtain ⟨hm, _⟩ := got_some e
    obtain ⟨i, hi, rfl⟩ := List.getElem_of_mem hm
    have h1 := (h i _ (List.getElem?_eq_getElem hi)).1
    unfold okS at h1
    rw [Bool.and_eq_true, Bool.and_eq_true] at h1
    exact ⟨inB_yes h1.2.1, inB_yes h1.2.2⟩
theorem good_in {f : F} (h : good f = true) (m : Int) : ShP f ∧ (1 ≤ f.turns ∧ f.turns ≤ 3) ∧ (1 ≤ f.seconds ∧ f.seconds ≤ 3600) ∧ (0 ≤ (share f.shares m).turns ∧ (share f.shares m).turns ≤ f.turns) ∧ 0 ≤ (share f.shares m).seconds ∧ (share f.shares m).seconds ≤ f.seconds := by
  obtain ⟨h1, h2, h3, _⟩ := good_parts h
  have h1 := inB_yes h1
  have h2 := inB_yes h2
  exact ⟨sh_of h3, h1, h2, share_in (sh_of h3) (by omega) (by omega) m⟩
theorem good_lens {f : F} (h : good f = true) : f.waiting.length ≤ 10 ∧ f.shares.length ≤ 99 := ⟨(good_parts h).2.2.2.1, sh_len (good_sh h)⟩
end Go.Proofs.Ytmbffcblhhippaa.FlX
