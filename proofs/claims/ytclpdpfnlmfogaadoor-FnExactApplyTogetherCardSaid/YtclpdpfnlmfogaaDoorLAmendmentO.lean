/- A Amendment that came in: its cells. No condition. -/
import Derived.Test.YtclpdpfnlmfogaaDoorOpen
import Derived.Test.YtclpdpfnlmfogaaDoorJ1
import Derived.Test.YtclpdpfnlmfogaaDoorLStringO
import Derived.ProofKit
namespace Go.Proofs.YtclpdpfnlmfogaaDoor.LAmendment
open Go.ChangeShapes Go.WideShapes Go.RowKit Go.Deep Opn Bs
set_option linter.unusedVariables false
/-- what one that came in fulfils -/
def IsIn (w : World) (a3 : Option Addr) (len3 cap3 : Nat) (r : R) : Prop := LString.IsIn w a3 len3 cap3 r.words ∧ (Lit.int .i64 r.kind).wf = true ∧ (Lit.int .i64 r.pos).wf = true ∧ (Lit.int .i64 r.count).wf = true
theorem IsIn.is {w : World} {a3 : Option Addr} {len3 cap3 : Nat} {r : R} (h : IsIn w a3 len3 cap3 r) : Is w (.agg #[.int .i64 r.kind, .int .i64 r.pos, .int .i64 r.count, .slice a3 len3 cap3]) r := ⟨_, rfl, (h.1).is⟩
theorem IsIn.fine {w : World} {a3 : Option Addr} {len3 cap3 : Nat} {r : R} (h : IsIn w a3 len3 cap3 r) : Fine r := ((fun x hx => LString.fine_of ((h.1).2.2 x hx)))
theorem IsIn.len3 {w : World} {a3 : Option Addr} {len3 cap3 : Nat} {r : R} (h : IsIn w a3 len3 cap3 r) : r.words.length = len3 := (h.1).1
section
variable {H : Type} {enc : TypeId × Value → H} {w : World} {base : Nat} {spare : Nat → Bool} {held : Bool}
theorem offs : ∃ fs, Tryd.prog.underlying 97 = some (.struct fs) ∧ fs.size = 4 ∧ (fs.toList.map (fun f => (f.offset, Tryd.prog.cellsOf f.type))) = [(0, 1), (1, 1), (2, 1), (3, 1)] ∧ fs.toList.map (fun f => f.type) = [3, 3, 3, 24] ∧ Tryd.prog.cellsOf 97 = 4 :=
  ⟨_, Tryd.underlying97, rfl, by kernel_rfl, rfl, by kernel_rfl⟩
set_option maxRecDepth 100000 in
theorem open_one {rr : Reach} {b0 : Nat} {v : Value} {d : DataW H} {p : List MemPlace} (hv : Value.okWide Tryd.prog w rr b0 97 v) (h : DataW.Trod enc Tryd.prog w base spare held 97 v d p) :
    ∃ (a3 : Option Addr) (len3 cap3 : Nat) (r : R), v = .agg #[.int .i64 r.kind, .int .i64 r.pos, .int .i64 r.count, .slice a3 len3 cap3] ∧ IsIn w a3 len3 cap3 r := by
  obtain ⟨fs, hs, hsz, hof, hty, hC⟩ := offs
  obtain ⟨cs, rfl, hcz⟩ := okWide_struct hs hv
  obtain ⟨fuel, hf0⟩ := h
  obtain ⟨ys, m, _, _, hlen, hyl, hf⟩ := DataW.trod_struct hs hf0
  have hcl : (Value.agg cs).cells.toList.length = 4 := by rw [hlen, hC]
  have hce : (Value.agg cs).cells = cs := by simp [Value.cells]
  rw [hce] at hf hcl
  obtain ⟨fl⟩ := fs
  obtain ⟨cl⟩ := cs
  simp only at hf hcl hsz hof hty
  match fl, hsz with
  | [f0, f1, f2, f3], _ =>
    match cl, hcl with
    | [c0, c1, c2, c3], _ =>
      simp only [List.map_cons, List.map_nil, List.cons.injEq, Prod.mk.injEq, and_true] at hof hty
      obtain ⟨⟨o0, k0⟩, ⟨o1, k1⟩, ⟨o2, k2⟩, ⟨o3, k3⟩⟩ := hof
      obtain ⟨t0, t1, t2, t3⟩ := hty
      have hy : ys.length = 4 := hyl
      have g0 := hf 0 f0 rfl
      rw [o0, k0, t0, List.getElem?_eq_getElem (by omega)] at g0
      simp only [List.drop_zero, List.take_succ_cons, List.take_zero] at g0
      have g1 := hf 1 f1 rfl
      rw [o1, k1, t1, List.getElem?_eq_getElem (by omega)] at g1
      simp only [List.drop_succ_cons, List.drop_zero, List.take_succ_cons, List.take_zero] at g1
      have g2 := hf 2 f2 rfl
      rw [o2, k2, t2, List.getElem?_eq_getElem (by omega)] at g2
      simp only [List.drop_succ_cons, List.drop_zero, List.take_succ_cons, List.take_zero] at g2
      have g3 := hf 3 f3 rfl
      rw [o3, k3, t3, List.getElem?_eq_getElem (by omega)] at g3
      simp only [List.drop_succ_cons, List.drop_zero, List.take_succ_cons, List.take_zero] at g3
      obtain ⟨n0, e0, _, u0⟩ := DataW.trod_int Tryd.underlying3 g0
      simp only [List.cons.injEq, and_true] at e0
      subst e0
      obtain ⟨n1, e1, _, u1⟩ := DataW.trod_int Tryd.underlying3 g1
      simp only [List.cons.injEq, and_true] at e1
      subst e1
      obtain ⟨n2, e2, _, u2⟩ := DataW.trod_int Tryd.underlying3 g2
      simp only [List.cons.injEq, and_true] at e2
      subst e2
      obtain ⟨a3, len3, cap3, rfl⟩ : ∃ a len cap, c3 = .slice a len cap := by
        rcases open_slice Tryd.underlying24 g3 with ⟨h0, _⟩ | ⟨b, l, c, _, _, _, _, hcs, _⟩
        · simp only [List.cons.injEq, and_true] at h0
          exact ⟨_, _, _, h0⟩
        · simp only [List.cons.injEq, and_true] at hcs
          exact ⟨_, _, _, hcs⟩
      obtain ⟨xs3, hxs3⟩ := LString.open_many Tryd.underlying24 g3
      exact ⟨a3, len3, cap3, ⟨n0, n1, n2, xs3⟩, rfl, ⟨hxs3, u0, u1, u2⟩⟩
end
end Go.Proofs.YtclpdpfnlmfogaaDoor.LAmendment
