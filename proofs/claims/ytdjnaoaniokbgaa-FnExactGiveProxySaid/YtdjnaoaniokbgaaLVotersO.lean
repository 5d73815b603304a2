/- A Voters that came in: its cells. No condition. -/
import Derived.Test.YtdjnaoaniokbgaaOpen
import Derived.Test.YtdjnaoaniokbgaaLVotersD
import Derived.Test.YtdjnaoaniokbgaaLVotersZ
import Derived.Test.YtdjnaoaniokbgaaLIntO
import Derived.Test.YtdjnaoaniokbgaaLProxyO
import Derived.ProofKit
namespace Go.Proofs.Ytdjnaoaniokbgaa.LVoters
open Go.ChangeShapes Go.WideShapes Go.RowKit Go.Deep Opn Bs
set_option linter.unusedVariables false
/-- what one that came in fulfils -/
def IsIn (w : World) (a0 : Option Addr) (len0 cap0 : Nat) (a1 : Option Addr) (len1 cap1 : Nat) (r : R) : Prop := LInt.IsIn w a0 len0 cap0 r.weights ∧ LProxy.IsIn w a1 len1 cap1 r.proxies
theorem IsIn.is {w : World} {a0 : Option Addr} {len0 cap0 : Nat} {a1 : Option Addr} {len1 cap1 : Nat} {r : R} (h : IsIn w a0 len0 cap0 a1 len1 cap1 r) : Is w (.agg #[.slice a0 len0 cap0, .slice a1 len1 cap1]) r := ⟨_, _, rfl, (h.1).is, (h.2).is⟩
theorem IsIn.fine {w : World} {a0 : Option Addr} {len0 cap0 : Nat} {a1 : Option Addr} {len1 cap1 : Nat} {r : R} (h : IsIn w a0 len0 cap0 a1 len1 cap1 r) : Fine r := ⟨(fun x hx => LInt.fine_of ((h.1).2.2 x hx)), (fun x hx => LProxy.fine_of ((h.2).2.2 x hx))⟩
theorem IsIn.len0 {w : World} {a0 : Option Addr} {len0 cap0 : Nat} {a1 : Option Addr} {len1 cap1 : Nat} {r : R} (h : IsIn w a0 len0 cap0 a1 len1 cap1 r) : r.weights.length = len0 := (h.1).1
theorem IsIn.len1 {w : World} {a0 : Option Addr} {len0 cap0 : Nat} {a1 : Option Addr} {len1 cap1 : Nat} {r : R} (h : IsIn w a0 len0 cap0 a1 len1 cap1 r) : r.proxies.length = len1 := (h.2).1
section
variable {H : Type} {enc : TypeId × Value → H} {w : World} {base : Nat} {spare : Nat → Bool} {held : Bool}
theorem offs : ∃ fs, Try.prog.underlying 51 = some (.struct fs) ∧ fs.size = 2 ∧ (fs.toList.map (fun f => (f.offset, Try.prog.cellsOf f.type))) = [(0, 1), (1, 1)] ∧ fs.toList.map (fun f => f.type) = [24, 49] ∧ Try.prog.cellsOf 51 = 2 :=
  ⟨_, Try.underlying51, rfl, by kernel_rfl, rfl, by kernel_rfl⟩
set_option maxRecDepth 100000 in
theorem open_one {rr : Reach} {b0 : Nat} {v : Value} {d : DataW H} {p : List MemPlace} (hv : Value.okWide Try.prog w rr b0 51 v) (h : DataW.Trod enc Try.prog w base spare held 51 v d p) :
    ∃ (a0 : Option Addr) (len0 cap0 : Nat) (a1 : Option Addr) (len1 cap1 : Nat) (r : R), v = .agg #[.slice a0 len0 cap0, .slice a1 len1 cap1] ∧ IsIn w a0 len0 cap0 a1 len1 cap1 r := by
  obtain ⟨fs, hs, hsz, hof, hty, hC⟩ := offs
  obtain ⟨cs, rfl, hcz⟩ := okWide_struct hs hv
  obtain ⟨fuel, hf0⟩ := h
  obtain ⟨ys, m, _, _, hlen, hyl, hf⟩ := DataW.trod_struct hs hf0
  have hcl : (Value.agg cs).cells.toList.length = 2 := by rw [hlen, hC]
  have hce : (Value.agg cs).cells = cs := by simp [Value.cells]
  rw [hce] at hf hcl
  obtain ⟨fl⟩ := fs
  obtain ⟨cl⟩ := cs
  simp only at hf hcl hsz hof hty
  match fl, hsz with
  | [f0, f1], _ =>
    match cl, hcl with
    | [c0, c1], _ =>
      simp only [List.map_cons, List.map_nil, List.cons.injEq, Prod.mk.injEq, and_true] at hof hty
      obtain ⟨⟨o0, k0⟩, ⟨o1, k1⟩⟩ := hof
      obtain ⟨t0, t1⟩ := hty
      have hy : ys.length = 2 := hyl
      have g0 := hf 0 f0 rfl
      rw [o0, k0, t0, List.getElem?_eq_getElem (by omega)] at g0
      simp only [List.drop_zero, List.take_succ_cons, List.take_zero] at g0
      have g1 := hf 1 f1 rfl
      rw [o1, k1, t1, List.getElem?_eq_getElem (by omega)] at g1
      simp only [List.drop_succ_cons, List.drop_zero, List.take_succ_cons, List.take_zero] at g1
      obtain ⟨a0, len0, cap0, rfl⟩ : ∃ a len cap, c0 = .slice a len cap := by
        rcases open_slice Try.underlying24 g0 with ⟨h0, _⟩ | ⟨b, l, c, _, _, _, _, hcs, _⟩
        · simp only [List.cons.injEq, and_true] at h0
          exact ⟨_, _, _, h0⟩
        · simp only [List.cons.injEq, and_true] at hcs
          exact ⟨_, _, _, hcs⟩
      obtain ⟨xs0, hxs0⟩ := LInt.open_many Try.underlying24 g0
      obtain ⟨a1, len1, cap1, rfl⟩ : ∃ a len cap, c1 = .slice a len cap := by
        rcases open_slice Try.underlying49 g1 with ⟨h0, _⟩ | ⟨b, l, c, _, _, _, _, hcs, _⟩
        · simp only [List.cons.injEq, and_true] at h0
          exact ⟨_, _, _, h0⟩
        · simp only [List.cons.injEq, and_true] at hcs
          exact ⟨_, _, _, hcs⟩
      obtain ⟨xs1, hxs1⟩ := LProxy.open_many Try.underlying49 g1
      exact ⟨a0, len0, cap0, a1, len1, cap1, ⟨xs0, xs1⟩, rfl, ⟨hxs0, hxs1⟩⟩
end
end Go.Proofs.Ytdjnaoaniokbgaa.LVoters
