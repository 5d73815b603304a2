/- Proxies: the zero voters; lengths. No condition. -/
import Derived.Test.YtdjnaoaniokbgaaVoP
namespace Go.Proofs.Ytdjnaoaniokbgaa.VoX
open Go.RowKit Bs Word Sq IntF Vo VoA VoN VoB VoP
set_option linter.unusedVariables false
def zeroV : V := ⟨[], []⟩
theorem lens {v : V} (h : GP v) : v.weights.length ≤ 12 ∧ v.proxies.length ≤ 12 := ⟨h.n, by have := p_len h.p; have := h.n; omega⟩
theorem given_lens {v : V} {m t : Int} (h : GP v) : (given v m t).weights.length ≤ 1048576 ∧ (given v m t).proxies.length ≤ 1048576 := by
  have h1 := lens h
  have h2 := put_len v.proxies ⟨m, t⟩
  exact ⟨by show v.weights.length ≤ _; omega, by show (put v.proxies ⟨m, t⟩).length ≤ _; omega⟩
theorem put_no {z : List P} {m t : Int} (h : has z m = false) : z.take (pos z m) ++ [(⟨m, t⟩ : P)] ++ z.drop (pos z m) = put z ⟨m, t⟩ := by
  show _ = z.take (pos z m) ++ (⟨m, t⟩ : P) :: z.drop (if has z m then pos z m + 1 else pos z m)
  rw [h]; simp
theorem put_yes {z : List P} {m t : Int} (h : has z m = true) : z.take (pos z m) ++ [(⟨m, t⟩ : P)] ++ z.drop (pos z m + 1) = put z ⟨m, t⟩ := by
  show _ = z.take (pos z m) ++ (⟨m, t⟩ : P) :: z.drop (if has z m then pos z m + 1 else pos z m)
  rw [h]; simp
theorem oth_yes {v : V} {m : Int} (hp : PP v) (h : has v.proxies m = true) : v.proxies.take (pos v.proxies m) ++ [] ++ v.proxies.drop (pos v.proxies m + 1) = others v.proxies m := by
  rw [others_eq (sorted_of hp), h, List.append_nil]; rfl
theorem has_in {v : V} {m : Int} (hp : PP v) (h : has v.proxies m = true) : inB m 0 ((v.weights.length : Int) - 1) = true := by
  obtain ⟨X, hX, rfl⟩ := has_get h
  have := (hp _ X hX).1
  unfold okP at this
  rw [Bool.and_eq_true] at this
  exact this.1
theorem others_len (z : List P) (m : Int) : (others z m).length ≤ z.length := List.length_filter_le _ _
end Go.Proofs.Ytdjnaoaniokbgaa.VoX
