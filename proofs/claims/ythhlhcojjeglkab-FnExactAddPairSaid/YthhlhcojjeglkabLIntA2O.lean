/- A slice of pairs of ints that came in: its cells. No condition. -/
import Derived.Test.YthhlhcojjeglkabOpen
import Derived.Test.YthhlhcojjeglkabLIntA2D
import Derived.Test.YthhlhcojjeglkabLIntA2Z
import Derived.ProofKit
import Derived.OpenShut
namespace Go.Proofs.Ythhlhcojjeglkab.LIntA2
open Go.ChangeShapes Go.WideShapes Go.RowKit Go.Deep Opn Bs
set_option linter.unusedVariables false
def Fit (r : R) : Prop := (Lit.int .i64 r.a).wf = true ∧ (Lit.int .i64 r.b).wf = true
theorem fine_of {r : R} (h : Fit r) : Fine r := trivial
section
variable {H : Type} {enc : TypeId × Value → H} {w : World} {base : Nat} {spare : Nat → Bool} {held : Bool}
set_option maxRecDepth 100000 in
theorem pair_is {fuel : Nat} {cs : List Value} {x : DataW H × List MemPlace} (h : DataW.trod enc Try.prog w base spare held fuel 48 cs = some x) : ∃ r : R, cs = vals r ∧ Fit r := by
  obtain ⟨xs, m, rfl, _, hl, hxl, hall⟩ := DataW.trod_array Try.underlying48 h
  have hc : Try.prog.cellsOf 3 = 1 := by kernel_rfl
  have hC : Try.prog.cellsOf 48 = 2 := by kernel_rfl
  rw [hC] at hl
  match cs, hl with
  | [c0, c1], _ =>
    match xs, hxl with
    | [x0, x1], _ =>
      have h0 := hall 0 (by omega)
      have h1 := hall 1 (by omega)
      rw [hc] at h0 h1
      simp only [Nat.zero_mul, List.drop_zero, List.take_succ_cons, List.take_zero, List.getElem?_cons_zero] at h0
      simp only [Nat.one_mul, List.drop_succ_cons, List.drop_zero, List.take_succ_cons, List.take_zero, List.getElem?_cons_succ, List.getElem?_cons_zero] at h1
      obtain ⟨a, ha, _, wa⟩ := DataW.trod_int Try.underlying3 h0
      obtain ⟨b, hb, _, wb⟩ := DataW.trod_int Try.underlying3 h1
      simp only [List.cons.injEq, and_true] at ha hb
      exact ⟨⟨a, b⟩, by rw [ha, hb]; rfl, wa, wb⟩
/-- A slice of records that came in. -/
def IsIn (w : World) (a : Option Addr) (len cap : Nat) (xs : List R) : Prop := xs.length = len ∧ RowsAt rec w a cap xs ∧ ∀ x ∈ xs, Fit x
set_option maxRecDepth 100000 in
theorem open_many {fuel : Nat} {a : Option Addr} {len cap : Nat} {x : DataW H × List MemPlace} (h : DataW.trod enc Try.prog w base spare held fuel 22 [.slice a len cap] = some x) :
    ∃ xs : List R, IsIn w a len cap xs := by
  rcases open_slice Try.underlying22 h with ⟨h0, _⟩ | ⟨b, l, c, m, n, D, Pl, hcs, hb, hl, hm, hmm, hx, hi⟩
  · simp only [List.cons.injEq, Value.slice.injEq, and_true] at h0
    obtain ⟨rfl, rfl, rfl⟩ := h0
    exact ⟨[], rfl, ⟨Nat.le_refl _, Nat.zero_le _, .inl rfl⟩, fun x hx => by cases hx⟩
  · simp only [List.cons.injEq, Value.slice.injEq, and_true] at hcs
    obtain ⟨rfl, rfl, rfl⟩ := hcs
    have hC : Try.prog.cellsOf 48 = 2 := by kernel_rfl
    have key : ∀ i, i < len → ∃ r : R, Fit r ∧ ∀ j, j < 2 → w.cell? (b.add (i * 2 + j)) = (vals r)[j]? := by
      intro i hi'
      have him' : i < m := by rw [hmm]; split <;> omega
      obtain ⟨vs, hc, ht'⟩ := hi i him'
      obtain ⟨r, rfl, fit⟩ := pair_is ht'
      obtain ⟨_, hcl, hat⟩ := World.cells?_some hc
      rw [hC] at hat
      refine ⟨r, fit, fun j hj => ?_⟩
      have := hat j hj
      rw [Go.Deep.add_add] at this
      exact this
    have build : ∀ m, m ≤ len → ∃ xs : List R, xs.length = m ∧ (∀ x ∈ xs, Fit x) ∧ ∀ i r, xs[i]? = some r → ∀ j, j < 2 → w.cell? (b.add (i * 2 + j)) = (vals r)[j]? := by
      intro m
      induction m with
      | zero => intro _; exact ⟨[], rfl, (fun x hx => by cases hx), (fun i r hr => by simp at hr)⟩
      | succ m ih =>
        intro hm'
        obtain ⟨xs, h1, h2, h3⟩ := ih (by omega)
        obtain ⟨r, fit, hc⟩ := key m (by omega)
        refine ⟨xs ++ [r], by simp [h1], fun x hx => ?_, fun i q hq => ?_⟩
        · rcases List.mem_append.1 hx with hx | hx
          · exact h2 x hx
          · rw [List.mem_singleton.1 hx]; exact fit
        · by_cases hi : i < xs.length
          · rw [List.getElem?_append_left hi] at hq
            exact h3 i q hq
          · rw [List.getElem?_append_right (by omega)] at hq
            have hi0 : i - xs.length = 0 := by
              rcases Nat.eq_zero_or_pos (i - xs.length) with h' | h'
              · exact h'
              · rw [List.getElem?_eq_none (by simp; omega)] at hq; cases hq
            rw [hi0] at hq
            simp only [List.getElem?_cons_zero, Option.some.injEq] at hq
            subst hq
            obtain rfl : i = m := by omega
            exact hc
    obtain ⟨xs, h1, h2, h3⟩ := build len (Nat.le_refl _)
    refine ⟨xs, h1, ⟨by omega, hm, ?_⟩, h2⟩
    by_cases h0 : xs = []
    · exact .inl h0
    · have hp : 0 < xs.length := List.length_pos_iff.2 h0
      have hc0 := h3 0 xs[0] (List.getElem?_eq_getElem hp) 0 (by omega)
      obtain ⟨bb, off, spot⟩ := b
      have hspot : spot = none := by simpa [Addr.add] using World.cell?_spot hc0
      subst hspot
      refine .inr ⟨bb, off, rfl, ?_, fun j r hr i v hv => ?_⟩
      · have := cell_lt hc0
        simpa [Addr.add] using this
      · have hi : i < 2 := (List.getElem?_eq_some_iff.1 hv).1
        have hv' : (vals r)[i]? = some v := hv
        have := h3 j r hr i hi
        rw [Go.WideShapes.add_plain, hv'] at this
        rw [Nat.add_assoc]
        exact this
theorem IsIn.is {w : World} {a : Option Addr} {len cap : Nat} {xs : List R} (h : IsIn w a len cap xs) : Is rec w (.slice a len cap) xs := ⟨a, cap, by rw [h.1], h.2.1⟩
end
end Go.Proofs.Ythhlhcojjeglkab.LIntA2
