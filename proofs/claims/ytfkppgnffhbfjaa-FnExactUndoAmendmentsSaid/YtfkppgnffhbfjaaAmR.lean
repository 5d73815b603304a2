/- Lists of amendments: the mathematics. No condition. -/
import Derived.Test.YtfkppgnffhbfjaaAm
namespace Go.Proofs.Ytfkppgnffhbfjaa.AmR
open Go.RowKit Bs Word Am
set_option linter.unusedVariables false
def goodL (l : List M) : Bool := decide (l.length ≤ 8) && l.all good
theorem goodL_len {l : List M} (h : goodL l = true) : l.length ≤ 8 := by unfold goodL at h; rw [Bool.and_eq_true] at h; exact of_decide_eq_true h.1
theorem goodL_all {l : List M} (h : goodL l = true) : ∀ x ∈ l, good x = true := by unfold goodL at h; rw [Bool.and_eq_true] at h; exact List.all_eq_true.1 h.2
theorem goodL_mk {l : List M} (h1 : l.length ≤ 8) (h2 : ∀ x ∈ l, good x = true) : goodL l = true := by unfold goodL; rw [decide_eq_true h1, List.all_eq_true.2 h2]; rfl
theorem goodL_long {l : List M} (h : ¬ l.length ≤ 8) : goodL l = false := by unfold goodL; rw [decide_eq_false h]; rfl
theorem goodL_bad {l : List M} {k : Nat} {x : M} (hx : l[k]? = some x) (h : good x = false) : goodL l = false := by
  unfold goodL
  rw [Bool.and_eq_false_iff]
  exact .inr (List.all_eq_false.2 ⟨x, List.mem_of_getElem? hx, by rw [h]; decide⟩)
def UptoL (l : List M) (k : Nat) : Prop := ∀ i x, i < k → l[i]? = some x → good x = true
theorem uptoL_zero (l : List M) : UptoL l 0 := fun i x h => by omega
theorem uptoL_next {l : List M} {k : Nat} {x : M} (h : UptoL l k) (hx : l[k]? = some x) (hw : good x = true) : UptoL l (k + 1) := fun i y hi hy => by
  rcases Nat.lt_or_ge i k with h' | h'
  · exact h i y h' hy
  · obtain rfl : i = k := by omega
    rw [hx] at hy; rw [← Option.some.inj hy]; exact hw
theorem uptoL_all {l : List M} {k : Nat} (h : UptoL l k) (hk : l.length ≤ k) (hm : l.length ≤ 8) : goodL l = true := goodL_mk hm fun x hx => by
  obtain ⟨i, hi, rfl⟩ := List.getElem_of_mem hx
  exact h i _ (by omega) (List.getElem?_eq_getElem hi)
/-- the text rebuilt, and how many amendments fitted -/
def rb : T → List M → Nat → T × Nat
  | t, [], k => (t, k)
  | t, a :: l, k => if fits t a = true then rb (apply t a) l (k + 1) else (t, k)
theorem rb_step {t : T} {l : List M} {k : Nat} {a : M} (ha : l[k]? = some a) (hf : fits t a = true) : rb t (l.drop k) k = rb (apply t a) (l.drop (k + 1)) (k + 1) := by
  have hk : k < l.length := (List.getElem?_eq_some_iff.1 ha).1
  rw [List.getElem?_eq_getElem hk] at ha
  rw [List.drop_eq_getElem_cons hk, Option.some.inj ha]
  show (if _ then _ else _) = _
  rw [if_pos hf]
theorem rb_stop {t : T} {l : List M} {k : Nat} {a : M} (ha : l[k]? = some a) (hf : fits t a = false) : rb t (l.drop k) k = (t, k) := by
  have hk : k < l.length := (List.getElem?_eq_some_iff.1 ha).1
  rw [List.getElem?_eq_getElem hk] at ha
  rw [List.drop_eq_getElem_cons hk, Option.some.inj ha]
  show (if _ then _ else _) = _
  rw [hf]; rfl
theorem rb_end {t : T} {l : List M} {k : Nat} (h : l.length ≤ k) : rb t (l.drop k) k = (t, k) := by rw [List.drop_of_length_le h]; rfl
theorem rb_text : ∀ (l : List M) (t : T) (k : Nat), textB t = true → (∀ x ∈ l, good x = true) → textB (rb t l k).1 = true
  | [], t, k, h, _ => h
  | a :: l, t, k, h, hl => by
    unfold rb
    by_cases hf : fits t a = true
    · rw [if_pos hf]
      exact rb_text l _ _ (apply_text h (hl a (List.mem_cons_self)) hf) (fun x hx => hl x (List.mem_cons_of_mem _ hx))
    · rw [if_neg hf]; exact h
def Ans (z0 : T) (z1 : List M) (r0 : T) (r1 : Int) (r2 : Bool) : Prop := (r0, r1, r2) = if (textB z0 && goodL z1) = true then ((rb z0 z1 0).1, (((rb z0 z1 0).2 : Nat) : Int), true) else (([] : T), 0, false)
theorem same {z0 : T} {z1 : List M} {r0 s0 : T} {r1 s1 : Int} {r2 s2 : Bool} (h1 : Ans z0 z1 r0 r1 r2) (h2 : Ans z0 z1 s0 s1 s2) : r0 = s0 ∧ r1 = s1 ∧ r2 = s2 := by
  have h := h1.trans h2.symm
  exact ⟨congrArg Prod.fst h, congrArg (fun x => x.2.1) h, congrArg (fun x => x.2.2) h⟩
theorem yes {z0 : T} {z1 : List M} {t : T} {k : Nat} (h1 : textB z0 = true) (h2 : goodL z1 = true) (h : rb z0 z1 0 = (t, k)) : Ans z0 z1 t (k : Int) true := by unfold Ans; rw [h1, h2, h]; rfl
theorem no {z0 : T} {z1 : List M} (h : (textB z0 && goodL z1) = false) : Ans z0 z1 [] 0 false := by unfold Ans; rw [h]; rfl
theorem len0 {z0 : T} {z1 : List M} {r0 : T} {r1 : Int} {r2 : Bool} (h : Ans z0 z1 r0 r1 r2) : r0.length ≤ 1048576 := by
  unfold Ans at h
  split at h
  · rename_i hc
    rw [Bool.and_eq_true] at hc
    have := congrArg Prod.fst h
    simp only at this
    subst this
    have := words_len (rb_text z1 z0 0 hc.1 (goodL_all hc.2))
    omega
  · have := congrArg Prod.fst h; simp only at this; subst this; simp
end Go.Proofs.Ytfkppgnffhbfjaa.AmR
