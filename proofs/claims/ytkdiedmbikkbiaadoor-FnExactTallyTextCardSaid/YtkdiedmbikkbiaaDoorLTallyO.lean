/- A Tally and a slice of them that came in: their cells. No condition. -/
import Derived.Test.YtkdiedmbikkbiaaDoorOpen
import Derived.Test.YtkdiedmbikkbiaaDoorLTallyD
import Derived.Test.YtkdiedmbikkbiaaDoorLTallyZ
import Derived.ProofKit
namespace Go.Proofs.YtkdiedmbikkbiaaDoor.LTally
open Go.ChangeShapes Go.WideShapes Go.RowKit Go.Deep Opn Bs
set_option linter.unusedVariables false
def kinds : List K := [.i64, .i64, .i64]
theorem laws_kinds : ∃ fs, Tryd.prog.underlying 37 = some (.struct fs) ∧ oneCellFields Tryd.prog fs = true ∧ Tryd.prog.cellsOf 37 = fs.size ∧ kindsB Tryd.prog fs kinds :=
  ⟨_, Tryd.underlying37, by kernel_rfl, by kernel_rfl, by unfold kindsB; kernel_rfl⟩
/-- what a record that came in fulfils -/
def Fit (r : R) : Prop := Fine r ∧ (Lit.int .i64 r.yes).wf = true ∧ (Lit.int .i64 r.no).wf = true ∧ (Lit.int .i64 r.abstain).wf = true
theorem fine_of {r : R} (h : Fit r) : Fine r := h.1
theorem of_vals {vs : List Value} (hl : vs.length = kinds.length) (h : ∀ (j : Nat) (k : K), kinds[j]? = some k → ∃ v, vs[j]? = some v ∧ k.is v) : ∃ r : R, vs = vals r ∧ Fit r := by
  obtain ⟨v0, e0, n0, rfl, u0⟩ := h 0 .i64 rfl
  obtain ⟨v1, e1, n1, rfl, u1⟩ := h 1 .i64 rfl
  obtain ⟨v2, e2, n2, rfl, u2⟩ := h 2 .i64 rfl
  match vs, hl with
  | [x0, x1, x2], _ =>
    simp only [List.getElem?_cons_zero, List.getElem?_cons_succ, Option.some.injEq] at e0 e1 e2
    subst e0 e1 e2
    exact ⟨⟨n0, n1, n2⟩, rfl, ⟨trivial, u0, u1, u2⟩⟩
section
variable {H : Type} {enc : TypeId × Value → H} {w : World} {base : Nat} {spare : Nat → Bool} {held : Bool}
set_option maxRecDepth 100000 in
theorem open_one {r : Reach} {b0 : Nat} {v : Value} {d : DataW H} {p : List MemPlace} (hv : Value.okWide Tryd.prog w r b0 37 v) (h : DataW.Trod enc Tryd.prog w base spare held 37 v d p) :
    ∃ r : R, v = .agg #[.int .i64 r.yes, .int .i64 r.no, .int .i64 r.abstain] ∧ Fit r := by
  obtain ⟨fs, hs, hone, hC, hk⟩ := laws_kinds
  obtain ⟨cs, rfl, hsz⟩ := okWide_struct hs hv
  obtain ⟨fuel, hf⟩ := h
  obtain ⟨hl, hall⟩ := struct_is hs hone hC hk hf
  obtain ⟨r, hr, fit⟩ := of_vals hl hall
  refine ⟨r, ?_, fit⟩
  have hc : cs.toList = vals r := by simpa [Value.cells] using hr
  obtain ⟨l⟩ := cs
  simp only at hc
  rw [hc]
  rfl
/-- A slice of records that came in. -/
def IsIn (w : World) (a : Option Addr) (len cap : Nat) (xs : List R) : Prop := xs.length = len ∧ RowsAt rec w a cap xs ∧ ∀ x ∈ xs, Fit x
theorem IsIn.is {w : World} {a : Option Addr} {len cap : Nat} {xs : List R} (h : IsIn w a len cap xs) : Is rec w (.slice a len cap) xs := ⟨a, cap, by rw [h.1], h.2.1⟩
end
end Go.Proofs.YtkdiedmbikkbiaaDoor.LTally
