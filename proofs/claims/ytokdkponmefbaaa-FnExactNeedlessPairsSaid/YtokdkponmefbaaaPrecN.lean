/- Precedences: pairs that follow from the others. Plain mathematics. -/
import Derived.Test.YtokdkponmefbaaaPrecS
import Derived.Test.YtokdkponmefbaaaIntF
namespace Go.Proofs.Ytokdkponmefbaaa.PrecN
open Go.RowKit Bs PrecM PrecG PrecR PrecS IntF
set_option linter.unusedVariables false
/-- all pairs but the one at i -/
def less (z : List M) (i : Nat) : List M := z.take i ++ z.drop (i + 1)
theorem less_sub {z : List M} {i : Nat} : ∀ x ∈ less z i, x ∈ z := fun x hx => by
  rcases List.mem_append.1 hx with hx | hx
  · exact List.mem_of_mem_take hx
  · exact List.mem_of_mem_drop hx
noncomputable def needB (z : List M) (i : Nat) (x : M) : Bool := yieldsB (less z i) x.a x.b
noncomputable def ndl (z : List M) : Nat → List M
  | 0 => []
  | i + 1 => ndl z i ++ (match z[i]? with | some x => if needB z i x = true then [x] else [] | none => [])
theorem ndl_yes {z : List M} {i : Nat} {x : M} (hx : z[i]? = some x) (h : needB z i x = true) : ndl z (i + 1) = ndl z i ++ [x] := by rw [ndl, hx]; simp [h]
theorem ndl_no {z : List M} {i : Nat} {x : M} (hx : z[i]? = some x) (h : needB z i x = false) : ndl z (i + 1) = ndl z i := by rw [ndl, hx]; simp [h]
theorem ndl_len (z : List M) : ∀ i, (ndl z i).length ≤ i
  | 0 => Nat.le_refl _
  | i + 1 => by
    have ih := ndl_len z i
    rw [ndl, List.length_append]
    cases z[i]? with
    | none => simp; omega
    | some x =>
      simp only
      split
      · simp; omega
      · simp; omega
theorem less_len {z : List M} {i n : Nat} (hn : z.length = n) (hi : i < n) : (less z i).length = n - 1 := by unfold less; simp; omega
noncomputable def nA (r : LPrecedence.R) : List M × Bool := if (goodB r.kinds r.over && soundB r.kinds r.over) = true then (ndl r.over r.over.length, true) else ([], false)
theorem n_bad {r : LPrecedence.R} (h : (goodB r.kinds r.over && soundB r.kinds r.over) = false) : nA r = ([], false) := by unfold nA; rw [h]; rfl
theorem n_good {r : LPrecedence.R} (h : (goodB r.kinds r.over && soundB r.kinds r.over) = true) : nA r = (ndl r.over r.over.length, true) := by unfold nA; rw [h]; rfl
def Ans (z0 : LPrecedence.R) (r0 : List LIntA2.R) (r1 : Bool) : Prop := nA z0 = (r0, r1)
theorem same {z0 : LPrecedence.R} {r0 s0 : List LIntA2.R} {r1 s1 : Bool} (h : Ans z0 r0 r1) (h' : Ans z0 s0 s1) : r0 = s0 ∧ r1 = s1 := by have := h.symm.trans h'; simpa using this
theorem len0 {z0 : LPrecedence.R} {r0 : List LIntA2.R} {r1 : Bool} (h : Ans z0 r0 r1) : r0.length ≤ 1048576 := by
  unfold Ans nA at h
  split at h
  · rename_i hg
    simp only [Prod.mk.injEq] at h
    rw [Bool.and_eq_true] at hg
    have h8 := (good_of hg.1).2.2.1
    have := ndl_len z0.over z0.over.length
    rw [← h.1]
    omega
  · simp only [Prod.mk.injEq] at h; rw [← h.1]; simp
def Post (z0 : LPrecedence.R) (w : World) (e : Ending) (w' : World) : Prop := ∃ v0 r0 r1, e = .returned (.tuple #[v0, .bool r1]) ∧ Ans z0 r0 r1 ∧ Own LIntA2.rec 37 w' w.heap.size v0 r0 ∧ Below w.heap.size w w'
theorem has_need {K : Nat} {z : List M} {i : Nat} {x : M} (hz : In K z) (hx : x ∈ z) : hasB (reach K (less z i) x.a) x.b = needB z i x := by
  rw [Bool.eq_iff_iff, has_iff, mem_reach]
  unfold needB
  rw [yields_iff]
  exact ⟨fun h => h.2, fun h => ⟨(hz x hx).2, h⟩⟩
end Go.Proofs.Ytokdkponmefbaaa.PrecN
