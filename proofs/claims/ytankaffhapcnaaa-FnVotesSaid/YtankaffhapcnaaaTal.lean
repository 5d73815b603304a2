/- Votes and what they need: what adopts a motion. Plain mathematics. -/
import Derived.Test.YtankaffhapcnaaaWord
import Derived.Test.YtankaffhapcnaaaLTallyD
namespace Go.Proofs.Ytankaffhapcnaaa.Tal
open Go Go.RowKit Bs Word
set_option linter.unusedVariables false
abbrev T := LTally.R
def votes (n : Int) : Bool := inB n 0 1000
def good (t : T) : Bool := votes t.yes && (votes t.no && votes t.abstain)
def need (n : Int) : Bool := inB n 1 3
theorem votes_yes {n : Int} (h : votes n = true) : 0 ≤ n ∧ n ≤ 1000 := inB_yes h
theorem votes_no {n : Int} (h : votes n = false) : ¬ (0 ≤ n ∧ n ≤ 1000) := inB_no h
theorem need_yes {n : Int} (h : need n = true) : n = 1 ∨ n = 2 ∨ n = 3 := by have := inB_yes h; omega
theorem need_no {n : Int} (h : need n = false) : n ≠ 1 ∧ n ≠ 2 ∧ n ≠ 3 := by have := inB_no h; omega
theorem good_parts {t : T} (h : good t = true) : (0 ≤ t.yes ∧ t.yes ≤ 1000) ∧ (0 ≤ t.no ∧ t.no ≤ 1000) ∧ (0 ≤ t.abstain ∧ t.abstain ≤ 1000) := by
  unfold good at h
  simp only [Bool.and_eq_true] at h
  exact ⟨votes_yes h.1, votes_yes h.2.1, votes_yes h.2.2⟩
theorem good_mk {t : T} (h : (0 ≤ t.yes ∧ t.yes ≤ 1000) ∧ (0 ≤ t.no ∧ t.no ≤ 1000) ∧ (0 ≤ t.abstain ∧ t.abstain ≤ 1000)) : good t = true := by
  unfold good votes
  rw [inB_mk h.1.1 h.1.2, inB_mk h.2.1.1 h.2.1.2, inB_mk h.2.2.1 h.2.2.2]; rfl
theorem good_iff (t : T) : good t = true ↔ (0 ≤ t.yes ∧ t.yes ≤ 1000) ∧ (0 ≤ t.no ∧ t.no ≤ 1000) ∧ (0 ≤ t.abstain ∧ t.abstain ≤ 1000) := ⟨good_parts, good_mk⟩
theorem not_good {t : T} (h : ¬ ((0 ≤ t.yes ∧ t.yes ≤ 1000) ∧ (0 ≤ t.no ∧ t.no ≤ 1000) ∧ (0 ≤ t.abstain ∧ t.abstain ≤ 1000))) : good t = false := by
  cases hg : good t with
  | false => rfl
  | true => exact absurd (good_parts hg) h
/-- so many votes adopt a motion with this need -/
def en (k y n : Int) : Bool := if k = 1 then decide (n < y) else if k = 2 then decide (0 < y + n ∧ 2 * n ≤ y) else decide (0 < y ∧ n = 0)
theorem en1 (y n : Int) : en 1 y n = decide (n < y) := rfl
theorem en2 (y n : Int) : en 2 y n = decide (0 < y + n ∧ 2 * n ≤ y) := rfl
theorem en3 (y n : Int) : en 3 y n = decide (0 < y ∧ n = 0) := rfl
/-- with more No than Yes nothing is adopted -/
theorem en_above {k y n : Int} (hk : need k = true) (hy : 0 ≤ y) (h : y < n) : en k y n = false := by
  rcases need_yes hk with rfl | rfl | rfl
  · rw [en1]; exact decide_eq_false (by omega)
  · rw [en2]; exact decide_eq_false (by omega)
  · rw [en3]; exact decide_eq_false (by omega)
/-- the least number of Yes -/
def YesAns (k n r0 : Int) (r1 : Bool) : Prop := ((need k && votes n) = false ∧ r0 = 0 ∧ r1 = false) ∨ ((need k && votes n) = true ∧ ((r1 = true ∧ 0 ≤ r0 ∧ r0 ≤ 2001 ∧ en k r0 n = true ∧ ∀ y, 0 ≤ y → y < r0 → en k y n = false) ∨ (r1 = false ∧ r0 = 0 ∧ ∀ y, 0 ≤ y → y ≤ 2001 → en k y n = false)))
theorem yes_same {k n r0 s0 : Int} {r1 s1 : Bool} (h : YesAns k n r0 r1) (g : YesAns k n s0 s1) : r0 = s0 ∧ r1 = s1 := by
  rcases h with ⟨h0, rfl, rfl⟩ | ⟨h0, h⟩
  · rcases g with ⟨_, rfl, rfl⟩ | ⟨g0, _⟩
    · exact ⟨rfl, rfl⟩
    · rw [h0] at g0; exact absurd g0 (by simp)
  · rcases g with ⟨g0, _⟩ | ⟨_, g⟩
    · rw [h0] at g0; exact absurd g0 (by simp)
    · rcases h with ⟨rfl, h1, h2, h3, h4⟩ | ⟨rfl, rfl, h4⟩
      · rcases g with ⟨rfl, g1, g2, g3, g4⟩ | ⟨rfl, rfl, g4⟩
        · refine ⟨?_, rfl⟩
          rcases Int.lt_trichotomy r0 s0 with hl | hl | hl
          · have := g4 r0 h1 hl; rw [h3] at this; exact absurd this (by simp)
          · exact hl
          · have := h4 s0 g1 hl; rw [g3] at this; exact absurd this (by simp)
        · have := g4 r0 h1 h2; rw [h3] at this; exact absurd this (by simp)
      · rcases g with ⟨rfl, g1, g2, g3, g4⟩ | ⟨rfl, rfl, g4⟩
        · have := h4 s0 g1 g2; rw [g3] at this; exact absurd this (by simp)
        · exact ⟨rfl, rfl⟩
/-- the greatest number of No -/
def NoAns (k y r0 : Int) (r1 : Bool) : Prop := ((need k && votes y) = false ∧ r0 = 0 ∧ r1 = false) ∨ ((need k && votes y) = true ∧ ((r1 = true ∧ 0 ≤ r0 ∧ r0 ≤ 1000 ∧ en k y r0 = true ∧ ∀ n, r0 < n → n ≤ 1000 → en k y n = false) ∨ (r1 = false ∧ r0 = 0 ∧ ∀ n, 0 ≤ n → n ≤ 1000 → en k y n = false)))
theorem no_same {k y r0 s0 : Int} {r1 s1 : Bool} (h : NoAns k y r0 r1) (g : NoAns k y s0 s1) : r0 = s0 ∧ r1 = s1 := by
  rcases h with ⟨h0, rfl, rfl⟩ | ⟨h0, h⟩
  · rcases g with ⟨_, rfl, rfl⟩ | ⟨g0, _⟩
    · exact ⟨rfl, rfl⟩
    · rw [h0] at g0; exact absurd g0 (by simp)
  · rcases g with ⟨g0, _⟩ | ⟨_, g⟩
    · rw [h0] at g0; exact absurd g0 (by simp)
    · rcases h with ⟨rfl, h1, h2, h3, h4⟩ | ⟨rfl, rfl, h4⟩
      · rcases g with ⟨rfl, g1, g2, g3, g4⟩ | ⟨rfl, rfl, g4⟩
        · refine ⟨?_, rfl⟩
          rcases Int.lt_trichotomy r0 s0 with hl | hl | hl
          · have := h4 s0 hl g2; rw [g3] at this; exact absurd this (by simp)
          · exact hl
          · have := g4 r0 hl h2; rw [h3] at this; exact absurd this (by simp)
        · have := g4 r0 h1 h2; rw [h3] at this; exact absurd this (by simp)
      · rcases g with ⟨rfl, g1, g2, g3, g4⟩ | ⟨rfl, rfl, g4⟩
        · have := h4 s0 g1 g2; rw [g3] at this; exact absurd this (by simp)
        · exact ⟨rfl, rfl⟩
/-- the greatest need up to k that adopts -/
def strict (t : T) : Int := if en 3 t.yes t.no = true then 3 else if en 2 t.yes t.no = true then 2 else if en 1 t.yes t.no = true then 1 else 0
def strictTo (t : T) (k : Nat) : Int := if 3 ≤ k ∧ en 3 t.yes t.no = true then 3 else if 2 ≤ k ∧ en 2 t.yes t.no = true then 2 else if 1 ≤ k ∧ en 1 t.yes t.no = true then 1 else 0
theorem strict_all (t : T) : strictTo t 3 = strict t := by simp [strictTo, strict]
theorem strict_zero (t : T) : strictTo t 0 = 0 := by simp [strictTo]
theorem strict_hit (t : T) (k : Nat) (hk : k < 3) (h : en ((k : Int) + 1) t.yes t.no = true) : strictTo t (k + 1) = (k : Int) + 1 := by
  match k, hk with
  | 0, _ => simp only [strictTo]; simp [show en 1 t.yes t.no = true from h]
  | 1, _ => simp only [strictTo]; simp [show en 2 t.yes t.no = true from h]
  | 2, _ => simp only [strictTo]; simp [show en 3 t.yes t.no = true from h]
theorem strict_miss (t : T) (k : Nat) (hk : k < 3) (h : en ((k : Int) + 1) t.yes t.no = false) : strictTo t (k + 1) = strictTo t k := by
  match k, hk with
  | 0, _ => simp [strictTo, show en 1 t.yes t.no = false from h]
  | 1, _ => simp [strictTo, show en 2 t.yes t.no = false from h]
  | 2, _ => simp [strictTo, show en 3 t.yes t.no = false from h]
def sum (a b : T) : T := ⟨a.yes + b.yes, a.no + b.no, a.abstain + b.abstain⟩
def zero : T := ⟨0, 0, 0⟩
def addA (a b : T) : T × Bool := if good a = true ∧ good b = true ∧ good (sum a b) = true then (sum a b, true) else (zero, false)
/-- a share in lowest terms -/
def shareA (t : T) : Int × Int × Bool := if good t = true ∧ t.yes + t.no ≠ 0 then (t.yes / (Int.gcd t.yes (t.yes + t.no) : Nat), (t.yes + t.no) / (Int.gcd t.yes (t.yes + t.no) : Nat), true) else (0, 0, false)
def chairA (k : Int) (t : T) : Bool × Bool := if need k = true ∧ good t = true ∧ t.yes ≠ 1000 ∧ t.no ≠ 1000 then (en k (t.yes + 1) t.no && !en k t.yes (t.no + 1), true) else (false, false)
def adoptA (k : Int) (t : T) : Bool × Bool := if need k = true ∧ good t = true then (en k t.yes t.no, true) else (false, false)
end Go.Proofs.Ytankaffhapcnaaa.Tal
