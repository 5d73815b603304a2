/- RanksOf: what model and program answer. -/
import Derived.Test.YtokdkponmefbaaaPrecK
import Derived.Test.YtokdkponmefbaaaPrecS
import Derived.Test.YtokdkponmefbaaaLIntT
import Derived.StillTailTactics
namespace Go.Proofs.Ytokdkponmefbaaa.PrecK
open Go.RowKit Bs Word PrecM PrecB PrecG PrecS PrecO IntF
set_option linter.unusedVariables false
theorem ranks_len (k : Nat) (z : List M) : (ranks k z).length = k := by unfold ranks; simp
noncomputable def kA (r : LPrecedence.R) : List Int × Bool := if (goodB r.kinds r.over && soundB r.kinds r.over) = true then (ranks r.kinds.toNat r.over, true) else ([], false)
theorem k_bad {r : LPrecedence.R} (h : (goodB r.kinds r.over && soundB r.kinds r.over) = false) : kA r = ([], false) := by unfold kA; rw [h]; rfl
theorem k_good {z : List M} {k : Nat} (h : (goodB (k : Int) z && soundB (k : Int) z) = true) : kA ⟨(k : Int), z⟩ = (ranks k z, true) := by unfold kA; simp only; rw [h]; rfl
def KAns (z0 : LPrecedence.R) (r0 : List Int) (r1 : Bool) : Prop := kA z0 = (r0, r1)
theorem ksame {z0 : LPrecedence.R} {r0 s0 : List Int} {r1 s1 : Bool} (h : KAns z0 r0 r1) (h' : KAns z0 s0 s1) : r0 = s0 ∧ r1 = s1 := by have := h.symm.trans h'; simpa using this
theorem klen0 {z0 : LPrecedence.R} {r0 : List Int} {r1 : Bool} (h : KAns z0 r0 r1) : r0.length ≤ 1048576 := by
  unfold KAns kA at h
  split at h
  · rename_i hg
    simp only [Prod.mk.injEq] at h
    rw [Bool.and_eq_true] at hg
    have h8 := (good_of hg.1).2.1
    rw [← h.1, ranks_len]
    omega
  · simp only [Prod.mk.injEq] at h; rw [← h.1]; simp
def KPost (z0 : LPrecedence.R) (w : World) (e : Ending) (w' : World) : Prop := ∃ v0 r0 r1, e = .returned (.tuple #[v0, .bool r1]) ∧ KAns z0 r0 r1 ∧ Own LInt.rec 3 w' w.heap.size v0 r0 ∧ Below w.heap.size w w'
theorem most (x y : Int) (w : World) : Calls Try.prog 69 #[.int .i64 x, .int .i64 y] w fun e w' => e = .returned (.int .i64 (max x y)) ∧ w' = w := by
  by_cases h : y < x
  · have HE := Lib.hid (show x = max x y by omega)
    go_enter Try.func69, Try.ntmps69
    go_wp2_with fail
    go_ret
    exact ⟨IntF.ret_int HE.out, rfl⟩
  · have HE := Lib.hid (show y = max x y by omega)
    go_enter Try.func69, Try.ntmps69
    go_wp2_with fail
    go_ret
    exact ⟨IntF.ret_int HE.out, rfl⟩
/-- the cell of an entry -/
theorem own_cell {w : World} {A g n cap : Nat} {ys : List Int} (h : LInt.OwnR w A g n cap ys) {j : Nat} {v : Int} (hv : ys[j]? = some v) : w.cell? ⟨g, j, none⟩ = some (.int .i64 v) := by
  have := LInt.cells (Own.at_ h j v hv)
  simpa only [LInt.rec_n, Nat.mul_one] using this
theorem at_low {k : Nat} {z : List M} {r : List Int} (h : Low k z r) {n : Nat} (hn : n < k) : ∃ v, r[n]? = some v := ⟨_, List.getElem?_eq_getElem (by rw [h.len]; exact hn)⟩
end Go.Proofs.Ytokdkponmefbaaa.PrecK
