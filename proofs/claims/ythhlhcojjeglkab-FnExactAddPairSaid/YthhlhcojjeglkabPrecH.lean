/- Precedences: what the tests at a place tell. No condition. -/
import Derived.Test.YthhlhcojjeglkabPrecB
import Derived.Test.YthhlhcojjeglkabLPrecedenceZ
namespace Go.Proofs.Ythhlhcojjeglkab.PrecG
open Go.RowKit Bs Word PrecM PrecB
set_option linter.unusedVariables false
def Post (r : LPrecedence.R) (w : World) (e : Ending) (w' : World) : Prop := e = .returned (.bool (goodB r.kinds r.over)) ∧ Below w.heap.size w w'
/-- what the tests at a place tell: true is bad -/
def Head (K : Int) (z : List M) (k : Nat) (v : Bool) : Prop := (v = true → goodB K z = false) ∧ (v = false → Step K z k)
theorem head_bad {K : Int} {z : List M} {k : Nat} {X : M} (hX : z[k]? = some X) (h : ¬ Step K z k) : Head K z k true := ⟨fun _ => no_step (List.getElem?_eq_some_iff.1 hX).1 h, (fun h => by cases h)⟩
theorem head_not {K : Int} {z : List M} {k : Nat} {X : M} (hX : z[k]? = some X) (h : okB K X = false) : Head K z k true := head_bad hX fun ⟨x, hx, ok, _⟩ => by
  rw [hX] at hx; rw [← Option.some.inj hx, h] at ok; cases ok
theorem head_first {K : Int} {z : List M} {X : M} (hX : z[0]? = some X) (h : okB K X = true) : Head K z 0 false := ⟨(fun h => by cases h), fun _ => ⟨X, hX, h, fun p h0 => by omega⟩⟩
theorem head_next {K : Int} {z : List M} {k : Nat} {X Y : M} (hX : z[k]? = some X) (h : okB K X = true) (h0 : 0 < k) (hY : z[k - 1]? = some Y) : Head K z k (!lexB Y X) := by
  constructor
  · intro hl
    refine (head_bad hX fun ⟨x, hx, _, hp⟩ => ?_).1 rfl
    rw [hX] at hx
    have := hp Y h0 hY
    rw [← Option.some.inj hx] at this
    rw [this] at hl; cases hl
  · intro hl
    refine ⟨X, hX, h, fun p _ hp => ?_⟩
    rw [hY] at hp
    rw [← Option.some.inj hp]
    simpa using hl
theorem ok_a {K : Int} {X : M} (h : inK K X.a = false) : okB K X = false := by unfold okB; rw [h]; rfl
theorem ok_b {K : Int} {X : M} (h : inK K X.b = false) : okB K X = false := by unfold okB; rw [h, Bool.and_false]; rfl
theorem ok_c {K : Int} {X : M} (h : (X.a == X.b) = true) : okB K X = false := by unfold okB; rw [bne, h, Bool.not_true, Bool.and_false]
theorem ok_y {K : Int} {X : M} (h1 : inK K X.a = true) (h2 : inK K X.b = true) (h3 : (X.a == X.b) = false) : okB K X = true := by unfold okB; rw [h1, h2, bne, h3]; rfl
theorem in_k {K n : Int} : inB n 0 (K - 1) = inK K n := by
  unfold inB inK
  rw [← Bool.decide_and]
  congr 1
  rw [eq_iff_iff]
  constructor
  · rintro ⟨a, b⟩; exact ⟨a, by omega⟩
  · rintro ⟨a, b⟩; exact ⟨a, by omega⟩
theorem in_kind (K x : Int) (w : World) : Calls Try.prog 33 #[.int .i64 x, .int .i64 0, .int .i64 (K - 1)] w fun e w' => e = .returned (.bool (inK K x)) ∧ w = w' :=
  in_as x 0 (K - 1) (inK K x) in_k w
theorem Bxall {w : World} {G : Nat} {t : TypeId} {cs : Array Value} (h : Bx w G t cs) (d : Nat) (os : Array Obj) (i : Nat) : (Sort.grow (redrawn w d) os).cell? ⟨G, i, none⟩ = cs[i]? := (h.kept (below_regrown w d os)).cell i
end Go.Proofs.Ythhlhcojjeglkab.PrecG
