/- A slice of ints that came in: its cells. No condition. -/
import Derived.Test.YtdjnaoaniokbgaaOpen
import Derived.Test.YtdjnaoaniokbgaaLIntD
import Derived.Test.YtdjnaoaniokbgaaLIntZ
import Derived.ProofKit
namespace Go.Proofs.Ytdjnaoaniokbgaa.LInt
open Go.ChangeShapes Go.WideShapes Go.RowKit Go.Deep Opn Bs
set_option linter.unusedVariables false
/-- what a value that came in fulfils -/
def Fit (r : R) : Prop := Fine r ∧ (Lit.int .i64 r).wf = true
theorem fine_of {r : R} (h : Fit r) : Fine r := h.1
section
variable {H : Type} {enc : TypeId × Value → H} {w : World} {base : Nat} {spare : Nat → Bool} {held : Bool}
theorem one {fuel : Nat} {v : Value} {y : DataW H × List MemPlace} (h : DataW.trod enc Try.prog w base spare held fuel 3 [v] = some y) : ∃ r : R, v = .int .i64 r ∧ Fit r := by
  have ht : Try.prog.underlying 3 = some (.int .i64) := Try.underlying3
  obtain ⟨n, hc, _, hw⟩ := DataW.trod_int ht h; simp only [List.cons.injEq, and_true] at hc; exact ⟨n, hc, ⟨trivial, hw⟩⟩
/-- A slice of them that came in. -/
def IsIn (w : World) (a : Option Addr) (len cap : Nat) (xs : List R) : Prop := xs.length = len ∧ RowsAt rec w a cap xs ∧ ∀ x ∈ xs, Fit x
theorem open_many {fuel : Nat} {a : Option Addr} {len cap : Nat} {x : DataW H × List MemPlace} (hu : Try.prog.underlying 24 = some (.slice 3)) (h : DataW.trod enc Try.prog w base spare held fuel 24 [.slice a len cap] = some x) :
    ∃ xs : List R, IsIn w a len cap xs := by
  have hC : Try.prog.cellsOf 3 = 1 := by kernel_rfl
  rcases open_slice hu h with ⟨h0, _⟩ | ⟨b, l, c, m, n, D, Pl, hcs, hb, hl, hm, hmm, hx, hi⟩
  · simp only [List.cons.injEq, Value.slice.injEq, and_true] at h0
    obtain ⟨rfl, rfl, rfl⟩ := h0
    exact ⟨[], rfl, ⟨Nat.le_refl _, Nat.zero_le _, .inl rfl⟩, fun x hx => by cases hx⟩
  · simp only [List.cons.injEq, Value.slice.injEq, and_true] at hcs
    obtain ⟨rfl, rfl, rfl⟩ := hcs
    have key : ∀ i, i < len → ∃ r : R, Fit r ∧ w.cell? (b.add i) = some (.int .i64 r) := by
      intro i hi'
      have him' : i < m := by rw [hmm]; split <;> omega
      obtain ⟨vs, hc, ht'⟩ := hi i him'
      obtain ⟨_, hcl, hat⟩ := World.cells?_some hc
      rw [hC] at hcl hat
      have h0 := hat 0 (by omega)
      match vs, hcl with
      | [v], _ =>
        obtain ⟨r, rfl, fit⟩ := one ht'
        refine ⟨r, fit, ?_⟩
        rw [Go.Deep.add_add, Nat.mul_one, Nat.add_zero] at h0
        exact h0
    have build : ∀ m, m ≤ len → ∃ xs : List R, xs.length = m ∧ (∀ x ∈ xs, Fit x) ∧ ∀ i r, xs[i]? = some r → w.cell? (b.add i) = some (.int .i64 r) := by
      intro m
      induction m with
      | zero => intro _; exact ⟨[], rfl, (fun x hx => by cases hx), (fun i r hr => by simp at hr)⟩
      | succ m ih =>
        intro hm'
        obtain ⟨xs, h1, h2, h3⟩ := ih (by omega)
        obtain ⟨r, fit, hc⟩ := key m (by omega)
        refine ⟨xs ++ [r], by simp [h1], fun x hx => ?_, fun i q hq => ?_⟩
        · rcases List.mem_append.1 hx with hx | hx
          · exact h2 x hx
          · rw [List.mem_singleton.1 hx]; exact fit
        · by_cases hi : i < xs.length
          · rw [List.getElem?_append_left hi] at hq
            exact h3 i q hq
          · rw [List.getElem?_append_right (by omega)] at hq
            have hi0 : i - xs.length = 0 := by
              rcases Nat.eq_zero_or_pos (i - xs.length) with h' | h'
              · exact h'
              · rw [List.getElem?_eq_none (by simp; omega)] at hq; cases hq
            rw [hi0] at hq
            simp only [List.getElem?_cons_zero, Option.some.injEq] at hq
            subst hq
            obtain rfl : i = m := by omega
            exact hc
    obtain ⟨xs, h1, h2, h3⟩ := build len (Nat.le_refl _)
    refine ⟨xs, h1, ⟨by omega, hm, ?_⟩, h2⟩
    by_cases h0 : xs = []
    · exact .inl h0
    · have hp : 0 < xs.length := List.length_pos_iff.2 h0
      have hc0 := h3 0 xs[0] (List.getElem?_eq_getElem hp)
      obtain ⟨bb, off, spot⟩ := b
      have hspot : spot = none := by simpa [Addr.add] using World.cell?_spot hc0
      subst hspot
      refine .inr ⟨bb, off, rfl, ?_, fun j r hr => at_of ?_⟩
      · have := cell_lt hc0
        simpa [Addr.add] using this
      · have := h3 j r hr
        rw [Go.WideShapes.add_plain] at this
        rw [rec_n, Nat.mul_one]
        exact this
theorem IsIn.is {w : World} {a : Option Addr} {len cap : Nat} {xs : List R} (h : IsIn w a len cap xs) : Is rec w (.slice a len cap) xs := ⟨a, cap, by rw [h.1], h.2.1⟩
end
end Go.Proofs.Ytdjnaoaniokbgaa.LInt
