/- A Proxy and a slice of them that came in: their cells. No condition. -/
import Derived.Test.YtdjnaoaniokbgaaOpen
import Derived.Test.YtdjnaoaniokbgaaLProxyD
import Derived.Test.YtdjnaoaniokbgaaLProxyZ
import Derived.ProofKit
namespace Go.Proofs.Ytdjnaoaniokbgaa.LProxy
open Go.ChangeShapes Go.WideShapes Go.RowKit Go.Deep Opn Bs
set_option linter.unusedVariables false
def kinds : List K := [.i64, .i64]
theorem laws_kinds : ∃ fs, Try.prog.underlying 96 = some (.struct fs) ∧ oneCellFields Try.prog fs = true ∧ Try.prog.cellsOf 96 = fs.size ∧ kindsB Try.prog fs kinds :=
  ⟨_, Try.underlying96, by kernel_rfl, by kernel_rfl, by unfold kindsB; kernel_rfl⟩
/-- what a record that came in fulfils -/
def Fit (r : R) : Prop := Fine r ∧ (Lit.int .i64 r.src).wf = true ∧ (Lit.int .i64 r.dst).wf = true
theorem fine_of {r : R} (h : Fit r) : Fine r := h.1
theorem of_vals {vs : List Value} (hl : vs.length = kinds.length) (h : ∀ (j : Nat) (k : K), kinds[j]? = some k → ∃ v, vs[j]? = some v ∧ k.is v) : ∃ r : R, vs = vals r ∧ Fit r := by
  obtain ⟨v0, e0, n0, rfl, u0⟩ := h 0 .i64 rfl
  obtain ⟨v1, e1, n1, rfl, u1⟩ := h 1 .i64 rfl
  match vs, hl with
  | [x0, x1], _ =>
    simp only [List.getElem?_cons_zero, List.getElem?_cons_succ, Option.some.injEq] at e0 e1
    subst e0 e1
    exact ⟨⟨n0, n1⟩, rfl, ⟨trivial, u0, u1⟩⟩
section
variable {H : Type} {enc : TypeId × Value → H} {w : World} {base : Nat} {spare : Nat → Bool} {held : Bool}
set_option maxRecDepth 100000 in
theorem open_one {r : Reach} {b0 : Nat} {v : Value} {d : DataW H} {p : List MemPlace} (hv : Value.okWide Try.prog w r b0 96 v) (h : DataW.Trod enc Try.prog w base spare held 96 v d p) :
    ∃ r : R, v = .agg #[.int .i64 r.src, .int .i64 r.dst] ∧ Fit r := by
  obtain ⟨fs, hs, hone, hC, hk⟩ := laws_kinds
  obtain ⟨cs, rfl, hsz⟩ := okWide_struct hs hv
  obtain ⟨fuel, hf⟩ := h
  obtain ⟨hl, hall⟩ := struct_is hs hone hC hk hf
  obtain ⟨r, hr, fit⟩ := of_vals hl hall
  refine ⟨r, ?_, fit⟩
  have hc : cs.toList = vals r := by simpa [Value.cells] using hr
  obtain ⟨l⟩ := cs
  simp only at hc
  rw [hc]
  rfl
/-- A slice of records that came in. -/
def IsIn (w : World) (a : Option Addr) (len cap : Nat) (xs : List R) : Prop := xs.length = len ∧ RowsAt rec w a cap xs ∧ ∀ x ∈ xs, Fit x
theorem open_many {fuel : Nat} {a : Option Addr} {len cap : Nat} {x : DataW H × List MemPlace} (hu : Try.prog.underlying 49 = some (.slice 96)) (h : DataW.trod enc Try.prog w base spare held fuel 49 [.slice a len cap] = some x) :
    ∃ xs : List R, IsIn w a len cap xs := by
  obtain ⟨fs, hs, hone, hC, hk⟩ := laws_kinds
  rcases slice_is hu hs hone hC hk h with h0 | ⟨b, l, c, hcs, hl, hm, hall⟩
  · simp only [List.cons.injEq, Value.slice.injEq, and_true] at h0
    obtain ⟨rfl, rfl, rfl⟩ := h0
    exact ⟨[], rfl, ⟨Nat.le_refl _, Nat.zero_le _, .inl rfl⟩, fun x hx => by cases hx⟩
  · simp only [List.cons.injEq, Value.slice.injEq, and_true] at hcs
    obtain ⟨rfl, rfl, rfl⟩ := hcs
    have key : ∀ i, i < len → ∃ r : R, Fit r ∧ ∀ j, j < 2 → w.cell? (b.add (i * 2 + j)) = (vals r)[j]? := by
      intro i hi
      obtain ⟨vs, hvl, hvk, hcell⟩ := hall i hi
      obtain ⟨r, hr, fit⟩ := of_vals hvl hvk
      subst hr
      exact ⟨r, fit, fun j hj => hcell j hj⟩
    have build : ∀ m, m ≤ len → ∃ xs : List R, xs.length = m ∧ (∀ x ∈ xs, Fit x) ∧ ∀ i r, xs[i]? = some r → ∀ j, j < 2 → w.cell? (b.add (i * 2 + j)) = (vals r)[j]? := by
      intro m
      induction m with
      | zero => intro _; exact ⟨[], rfl, (fun x hx => by cases hx), (fun i r hr => by simp at hr)⟩
      | succ m ih =>
        intro hm'
        obtain ⟨xs, h1, h2, h3⟩ := ih (by omega)
        obtain ⟨r, fit, hc⟩ := key m (by omega)
        refine ⟨xs ++ [r], by simp [h1], fun x hx => ?_, fun i q hq => ?_⟩
        · rcases List.mem_append.1 hx with hx | hx
          · exact h2 x hx
          · rw [List.mem_singleton.1 hx]; exact fit
        · by_cases hi : i < xs.length
          · rw [List.getElem?_append_left hi] at hq
            exact h3 i q hq
          · rw [List.getElem?_append_right (by omega)] at hq
            have hi0 : i - xs.length = 0 := by
              rcases Nat.eq_zero_or_pos (i - xs.length) with h' | h'
              · exact h'
              · rw [List.getElem?_eq_none (by simp; omega)] at hq; cases hq
            rw [hi0] at hq
            simp only [List.getElem?_cons_zero, Option.some.injEq] at hq
            subst hq
            obtain rfl : i = m := by omega
            exact hc
    obtain ⟨xs, h1, h2, h3⟩ := build len (Nat.le_refl _)
    refine ⟨xs, h1, ⟨by omega, hm, ?_⟩, h2⟩
    by_cases h0 : xs = []
    · exact .inl h0
    · have hp : 0 < xs.length := List.length_pos_iff.2 h0
      have hc0 := h3 0 xs[0] (List.getElem?_eq_getElem hp) 0 (by omega)
      obtain ⟨bb, off, spot⟩ := b
      have hspot : spot = none := by simpa [Addr.add] using World.cell?_spot hc0
      subst hspot
      refine .inr ⟨bb, off, rfl, ?_, fun j r hr i v hv => ?_⟩
      · have := cell_lt hc0
        simpa [Addr.add] using this
      · have hi : i < 2 := (List.getElem?_eq_some_iff.1 hv).1
        have hv' : (vals r)[i]? = some v := hv
        have := h3 j r hr i hi
        rw [Go.WideShapes.add_plain, hv'] at this
        rw [Nat.add_assoc]
        exact this
theorem IsIn.is {w : World} {a : Option Addr} {len cap : Nat} {xs : List R} (h : IsIn w a len cap xs) : Is rec w (.slice a len cap) xs := ⟨a, cap, by rw [h.1], h.2.1⟩
end
end Go.Proofs.Ytdjnaoaniokbgaa.LProxy
