/- The single change between two texts: the mathematics. No condition. -/
import Derived.Test.YtfkppgnffhbfjaaAm
namespace Go.Proofs.Ytfkppgnffhbfjaa.AmS
open Go.RowKit Bs Word Am
set_option linter.unusedVariables false
/-- how many words at the beginning are the same -/
def pre : T → T → Nat
  | x :: xs, y :: ys => if x = y then pre xs ys + 1 else 0
  | [], _ => 0
  | _ :: _, [] => 0
theorem pre_le : ∀ a b : T, pre a b ≤ a.length ∧ pre a b ≤ b.length
  | [], _ => ⟨Nat.le_refl _, Nat.zero_le _⟩
  | _ :: _, [] => ⟨Nat.zero_le _, Nat.le_refl _⟩
  | x :: xs, y :: ys => by
    unfold pre
    have := pre_le xs ys
    by_cases h : x = y
    · rw [if_pos h]; simp; omega
    · rw [if_neg h]; simp
theorem pre_step : ∀ (a b : T) (k : Nat) (X Y : ByteArray), k ≤ pre a b → a[k]? = some X → b[k]? = some Y → (X = Y → k + 1 ≤ pre a b) ∧ (X ≠ Y → pre a b = k)
  | [], _, k, X, Y, _, h, _ => by simp at h
  | _ :: _, [], k, X, Y, _, _, h => by simp at h
  | x :: xs, y :: ys, 0, X, Y, _, hx, hy => by
    simp only [List.getElem?_cons_zero, Option.some.injEq] at hx hy
    subst hx hy
    unfold pre
    exact ⟨fun h => by rw [if_pos h]; omega, fun h => by rw [if_neg h]⟩
  | x :: xs, y :: ys, k + 1, X, Y, hk, hx, hy => by
    rw [List.getElem?_cons_succ] at hx hy
    unfold pre at hk ⊢
    by_cases h : x = y
    · rw [if_pos h] at hk ⊢
      have := pre_step xs ys k X Y (by omega) hx hy
      exact ⟨fun e => by have := this.1 e; omega, fun e => by have := this.2 e; omega⟩
    · rw [if_neg h] at hk
      omega
theorem pre_end {a b : T} {k : Nat} (h : k ≤ pre a b) (hk : a.length ≤ k ∨ b.length ≤ k) : pre a b = k := by
  have := pre_le a b; omega
theorem pre_self : ∀ a : T, pre a a = a.length
  | [] => rfl
  | x :: xs => by unfold pre; rw [if_pos rfl, pre_self xs]; rfl
/-- how many of the others at the end are the same -/
def suf (a b : T) : Nat := pre (a.drop (pre a b)).reverse (b.drop (pre a b)).reverse
theorem rev_at {a : T} {p e : Nat} (h : p + e < a.length) : (a.drop p).reverse[e]? = a[a.length - 1 - e]? := by
  rw [List.getElem?_reverse (by rw [List.length_drop]; omega), List.length_drop, List.getElem?_drop]
  congr 1
  omega
theorem suf_step {a b : T} {e : Nat} {X Y : ByteArray} (he : e ≤ suf a b) (h1 : pre a b + e < a.length) (h2 : pre a b + e < b.length) (hx : a[a.length - 1 - e]? = some X) (hy : b[b.length - 1 - e]? = some Y) : (X = Y → e + 1 ≤ suf a b) ∧ (X ≠ Y → suf a b = e) :=
  pre_step _ _ e X Y he (by rw [rev_at h1]; exact hx) (by rw [rev_at h2]; exact hy)
theorem suf_le (a b : T) : pre a b + suf a b ≤ a.length ∧ pre a b + suf a b ≤ b.length := by
  have h := pre_le (a.drop (pre a b)).reverse (b.drop (pre a b)).reverse
  have h2 := pre_le a b
  rw [List.length_reverse, List.length_reverse, List.length_drop, List.length_drop] at h
  have e : suf a b = pre (a.drop (pre a b)).reverse (b.drop (pre a b)).reverse := rfl
  omega
theorem suf_end {a b : T} {e : Nat} (h : e ≤ suf a b) (hk : a.length ≤ pre a b + e ∨ b.length ≤ pre a b + e) : suf a b = e := by
  have := suf_le a b; omega
def change (a b : T) : M := mkKind (pre a b) ((a.length - pre a b - suf a b : Nat) : Int) ((b.drop (pre a b)).take (b.length - pre a b - suf a b))
theorem words_mem {a b : T} {X : ByteArray} (h : X ∈ (change a b).words) : X ∈ b := List.mem_of_mem_drop (List.mem_of_mem_take h)
theorem change_self (a : T) : good (change a a) = false := by
  have h : change a a = ⟨1, (a.length : Nat), 0, []⟩ := by
    unfold change
    rw [pre_self, List.drop_of_length_le (Nat.le_refl _), List.take_nil, show a.length - a.length - suf a a = 0 by omega]
    rfl
  rw [h]
  refine good_kind' ?_
  rfl
where good_kind' {m : M} (h : kindB m.kind m.count m.words.length = false) : good m = false := by unfold good; rw [h]; simp
def Ans (a b : T) (r0 : M) (r1 : Bool) : Prop := (r0, r1) = if (textB a && (textB b && good (change a b))) = true then (change a b, true) else (zeroM, false)
theorem same {a b : T} {r0 s0 : M} {r1 s1 : Bool} (h1 : Ans a b r0 r1) (h2 : Ans a b s0 s1) : r0 = s0 ∧ r1 = s1 := by
  have h := h1.trans h2.symm
  exact ⟨congrArg Prod.fst h, congrArg Prod.snd h⟩
theorem yes {a b : T} (h1 : textB a = true) (h2 : textB b = true) (h3 : good (change a b) = true) : Ans a b (change a b) true := by unfold Ans; rw [h1, h2, h3]; rfl
theorem no {a b : T} (h : (textB a && (textB b && good (change a b))) = false) : Ans a b zeroM false := by unfold Ans; rw [h]; rfl
theorem len0 {a b : T} {r0 : M} {r1 : Bool} (h : Ans a b r0 r1) : r0.words.length ≤ 1048576 := by
  unfold Ans at h
  split at h
  · rename_i hc
    rw [Bool.and_eq_true, Bool.and_eq_true] at hc
    have := congrArg Prod.fst h
    simp only at this
    subst this
    have := good_lens hc.2.2
    omega
  · have := congrArg Prod.fst h; simp only at this; subst this; simp [zeroM]
end Go.Proofs.Ytfkppgnffhbfjaa.AmS
