/- A Precedence that came in: its cells. No condition. -/
import Derived.Test.YthhlhcojjeglkabOpen
import Derived.Test.YthhlhcojjeglkabLPrecedenceD
import Derived.Test.YthhlhcojjeglkabLPrecedenceZ
import Derived.Test.YthhlhcojjeglkabLIntA2O
import Derived.ProofKit
namespace Go.Proofs.Ythhlhcojjeglkab.LPrecedence
open Go.ChangeShapes Go.WideShapes Go.RowKit Go.Deep Opn Bs
set_option linter.unusedVariables false
/-- what one that came in fulfils -/
def IsIn (w : World) (a : Option Addr) (len cap : Nat) (r : R) : Prop := LIntA2.IsIn w a len cap r.over ∧ (Lit.int .i64 r.kinds).wf = true
theorem IsIn.is {w : World} {a : Option Addr} {len cap : Nat} {r : R} (h : IsIn w a len cap r) : Is w (.agg #[.int .i64 r.kinds, .slice a len cap]) r := ⟨_, rfl, h.1.is⟩
theorem IsIn.fine {w : World} {a : Option Addr} {len cap : Nat} {r : R} (h : IsIn w a len cap r) : Fine r := fun x hx => LIntA2.fine_of (h.1.2.2 x hx)
theorem IsIn.len {w : World} {a : Option Addr} {len cap : Nat} {r : R} (h : IsIn w a len cap r) : r.over.length = len := h.1.1
section
variable {H : Type} {enc : TypeId × Value → H} {w : World} {base : Nat} {spare : Nat → Bool} {held : Bool}
theorem offs : ∃ fs, Try.prog.underlying 24 = some (.struct fs) ∧ fs.size = 2 ∧ (fs.toList.map (fun f => (f.offset, Try.prog.cellsOf f.type))) = [(0, 1), (1, 1)] ∧ fs.toList.map (fun f => f.type) = [3, 22] ∧ Try.prog.cellsOf 24 = 2 :=
  ⟨_, Try.underlying24, rfl, by kernel_rfl, rfl, by kernel_rfl⟩
set_option maxRecDepth 100000 in
theorem open_one {rr : Reach} {b0 : Nat} {v : Value} {d : DataW H} {p : List MemPlace} (hv : Value.okWide Try.prog w rr b0 24 v) (h : DataW.Trod enc Try.prog w base spare held 24 v d p) :
    ∃ (a : Option Addr) (len cap : Nat) (r : R), v = .agg #[.int .i64 r.kinds, .slice a len cap] ∧ IsIn w a len cap r := by
  obtain ⟨fs, hs, hsz, hof, hty, hC⟩ := offs
  obtain ⟨cs, rfl, hcz⟩ := okWide_struct hs hv
  obtain ⟨fuel, hf0⟩ := h
  obtain ⟨ys, m, _, _, hlen, hyl, hf⟩ := DataW.trod_struct hs hf0
  have hcl : (Value.agg cs).cells.toList.length = 2 := by rw [hlen, hC]
  have hce : (Value.agg cs).cells = cs := by simp [Value.cells]
  rw [hce] at hf hcl
  obtain ⟨fl⟩ := fs
  obtain ⟨cl⟩ := cs
  simp only at hf hcl hsz hof hty
  match fl, hsz with
  | [f0, f1], _ =>
    match cl, hcl with
    | [c0, c1], _ =>
      simp only [List.map_cons, List.map_nil, List.cons.injEq, Prod.mk.injEq, and_true] at hof hty
      obtain ⟨⟨o0, k0⟩, ⟨o1, k1⟩⟩ := hof
      obtain ⟨t0, t1⟩ := hty
      have hy : ys.length = 2 := hyl
      have g0 := hf 0 f0 rfl
      rw [o0, k0, t0, List.getElem?_eq_getElem (by omega)] at g0
      simp only [List.drop_zero, List.take_succ_cons, List.take_zero] at g0
      have g1 := hf 1 f1 rfl
      rw [o1, k1, t1, List.getElem?_eq_getElem (by omega)] at g1
      simp only [List.drop_succ_cons, List.drop_zero, List.take_succ_cons, List.take_zero] at g1
      obtain ⟨n0, e0, _, u0⟩ := DataW.trod_int Try.underlying3 g0
      simp only [List.cons.injEq, and_true] at e0
      subst e0
      have hsl : ∃ a len cap, c1 = .slice a len cap := by
        rcases open_slice Try.underlying22 g1 with ⟨h0, _⟩ | ⟨b, l, c, _, _, _, _, hcs, _⟩
        · simp only [List.cons.injEq, and_true] at h0
          exact ⟨_, _, _, h0⟩
        · simp only [List.cons.injEq, and_true] at hcs
          exact ⟨_, _, _, hcs⟩
      obtain ⟨a, len, cap, rfl⟩ := hsl
      obtain ⟨xs, hxs⟩ := LIntA2.open_many g1
      exact ⟨a, len, cap, ⟨n0, xs⟩, rfl, ⟨hxs, u0⟩⟩
end
end Go.Proofs.Ythhlhcojjeglkab.LPrecedence
