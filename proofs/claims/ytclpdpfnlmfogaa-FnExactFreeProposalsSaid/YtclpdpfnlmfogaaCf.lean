/- Conflicts of amendments: the mathematics. No condition. -/
import Derived.Test.YtclpdpfnlmfogaaJ1
import Derived.Test.YtclpdpfnlmfogaaAm
namespace Go.Proofs.Ytclpdpfnlmfogaa.Cf
open Go.RowKit Bs Word Am
set_option linter.unusedVariables false
abbrev P := LProposal.R
abbrev ch := LProposal.ch
def mostI (a b : Int) : Int := if b < a then a else b
def leastI (a b : Int) : Int := if a < b then a else b
def insB (a : M) : Bool := decide (0 < a.words.length)
def insideB (p : Int) (a : M) : Bool := decide (a.pos < p) && decide (p < a.pos + a.count)
def overB (a b : M) : Bool := decide (mostI a.pos b.pos < leastI (a.pos + a.count) (b.pos + b.count))
def confB (a b : M) : Bool := overB a b || ((insB a && insideB a.pos b || insB b && insideB b.pos a) || (insB a && insB b && decide (a.pos = b.pos)))
def progB (a b : M) : Bool :=
  if a.pos = b.pos then (decide (0 < a.count) && decide (0 < b.count)) || (decide (0 < a.words.length) && decide (0 < b.words.length))
  else if b.pos < a.pos then decide (a.pos < b.pos + b.count) else decide (b.pos < a.pos + a.count)
theorem good_shape {a : M} (h : good a = true) : (a.count = 0 ∧ 0 < a.words.length) ∨ (1 ≤ a.count ∧ a.words.length = 0) ∨ (1 ≤ a.count ∧ 0 < a.words.length) := by
  rcases kind_cases (good_parts h).2.2.1 with ⟨_, h1, h2⟩ | ⟨_, h1, h2⟩ | ⟨_, h1, h2⟩
  · exact .inl ⟨h1, h2⟩
  · exact .inr (.inl ⟨h1.1, h2⟩)
  · exact .inr (.inr ⟨h1.1, h2⟩)
theorem conf_iff (a b : M) : confB a b = true ↔ (mostI a.pos b.pos < leastI (a.pos + a.count) (b.pos + b.count) ∨ (0 < a.words.length ∧ b.pos < a.pos ∧ a.pos < b.pos + b.count) ∨ (0 < b.words.length ∧ a.pos < b.pos ∧ b.pos < a.pos + a.count) ∨ (0 < a.words.length ∧ 0 < b.words.length ∧ a.pos = b.pos)) := by
  unfold confB overB insB insideB
  simp only [Bool.or_eq_true, Bool.and_eq_true, decide_eq_true_eq]
  constructor
  · rintro (h | (⟨h1, h2, h3⟩ | ⟨h1, h2, h3⟩) | ⟨⟨h1, h2⟩, h3⟩)
    · exact .inl h
    · exact .inr (.inl ⟨h1, h2, h3⟩)
    · exact .inr (.inr (.inl ⟨h1, h2, h3⟩))
    · exact .inr (.inr (.inr ⟨h1, h2, h3⟩))
  · rintro (h | ⟨h1, h2, h3⟩ | ⟨h1, h2, h3⟩ | ⟨h1, h2, h3⟩)
    · exact .inl h
    · exact .inr (.inl (.inl ⟨h1, h2, h3⟩))
    · exact .inr (.inl (.inr ⟨h1, h2, h3⟩))
    · exact .inr (.inr ⟨⟨h1, h2⟩, h3⟩)
theorem prog_iff (a b : M) : progB a b = true ↔ (a.pos = b.pos ∧ ((0 < a.count ∧ 0 < b.count) ∨ (0 < a.words.length ∧ 0 < b.words.length))) ∨ (b.pos < a.pos ∧ a.pos < b.pos + b.count) ∨ (a.pos < b.pos ∧ b.pos < a.pos + a.count) := by
  unfold progB
  split
  · simp only [Bool.or_eq_true, Bool.and_eq_true, decide_eq_true_eq]; omega
  · split
    · simp only [decide_eq_true_eq]; omega
    · simp only [decide_eq_true_eq]; omega
/-- the program's test and the model's, at valid amendments -/
theorem conf_prog {a b : M} (ha : good a = true) (hb : good b = true) : progB a b = confB a b := by
  rw [Bool.eq_iff_iff, prog_iff, conf_iff]
  unfold mostI leastI
  rcases good_shape ha with h1 | h1 | h1 <;> rcases good_shape hb with h2 | h2 | h2 <;> (split <;> split <;> omega)
theorem prog_symm (a b : M) : progB a b = progB b a := by
  rw [Bool.eq_iff_iff, prog_iff, prog_iff]; omega
theorem conf_symm {a b : M} (ha : good a = true) (hb : good b = true) : confB a b = confB b a := by rw [← conf_prog ha hb, prog_symm, conf_prog hb ha]
theorem conf_over {a b : M} (h : overB a b = true) : confB a b = true := by unfold confB; rw [h]; rfl
theorem conf_in {a b : M} (h0 : overB a b = false) (h : (insB a && insideB a.pos b || insB b && insideB b.pos a) = true) : confB a b = true := by unfold confB; rw [h0, h]; rfl
theorem conf_last {a b : M} (h0 : overB a b = false) (h : (insB a && insideB a.pos b || insB b && insideB b.pos a) = false) : confB a b = (insB a && insB b && decide (a.pos = b.pos)) := by unfold confB; rw [h0, h]; rfl
/-- a list of proposals for a text -/
def okP (t : T) (p : P) : Bool := inB p.id 1 99 && (inB p.weight 1 100 && (good (ch p) && fits t (ch p)))
def listB (t : T) : Int → List P → Bool
  | _, [] => true
  | b, x :: xs => (okP t x && decide (b < x.id)) && listB t x.id xs
def propsB (t : T) (l : List P) : Bool := (textB t && decide (l.length ≤ 8)) && listB t 0 l
def prevId (l : List P) (k : Nat) : Int := if k = 0 then 0 else ((l[k - 1]?).map (·.id)).getD 0
theorem prev_zero (l : List P) : prevId l 0 = 0 := rfl
theorem prev_next {l : List P} {k : Nat} {x : P} (h : l[k]? = some x) : prevId l (k + 1) = x.id := by
  unfold prevId; rw [if_neg (by omega), Nat.add_sub_cancel, h]; rfl
/-- what is left to be tested at place k -/
def LeftP (t : T) (l : List P) (k : Nat) : Prop := listB t 0 l = listB t (prevId l k) (l.drop k)
theorem left_zero (t : T) (l : List P) : LeftP t l 0 := by unfold LeftP; rw [prev_zero]; rfl
theorem left_here {t : T} {l : List P} {k : Nat} {x : P} (h : LeftP t l k) (hx : l[k]? = some x) : listB t 0 l = ((okP t x && decide (prevId l k < x.id)) && listB t x.id (l.drop (k + 1))) := by
  have hk : k < l.length := (List.getElem?_eq_some_iff.1 hx).1
  rw [List.getElem?_eq_getElem hk] at hx
  unfold LeftP at h
  rw [h, List.drop_eq_getElem_cons hk, Option.some.inj hx]
  rfl
theorem left_next {t : T} {l : List P} {k : Nat} {x : P} (h : LeftP t l k) (hx : l[k]? = some x) (h1 : okP t x = true) (h2 : prevId l k < x.id) : LeftP t l (k + 1) := by
  unfold LeftP
  rw [left_here h hx, h1, decide_eq_true h2, prev_next hx]
  rfl
theorem left_bad {t : T} {l : List P} {k : Nat} {x : P} (h : LeftP t l k) (hx : l[k]? = some x) (h1 : okP t x = false) : listB t 0 l = false := by rw [left_here h hx, h1]; rfl
theorem left_bad2 {t : T} {l : List P} {k : Nat} {x : P} (h : LeftP t l k) (hx : l[k]? = some x) (h2 : ¬ prevId l k < x.id) : listB t 0 l = false := by rw [left_here h hx, decide_eq_false h2, Bool.and_false]; rfl
theorem left_end {t : T} {l : List P} {k : Nat} (h : LeftP t l k) (hk : l.length ≤ k) : listB t 0 l = true := by
  unfold LeftP at h; rw [h, List.drop_of_length_le hk]; rfl
theorem ok1 {t : T} {p : P} (h : inB p.id 1 99 = false) : okP t p = false := by unfold okP; rw [h]; rfl
theorem ok2 {t : T} {p : P} (h : inB p.weight 1 100 = false) : okP t p = false := by unfold okP; rw [h]; simp
theorem ok3 {t : T} {p : P} (h : good (ch p) = false) : okP t p = false := by unfold okP; rw [h]; simp
theorem ok4 {t : T} {p : P} (h : fits t (ch p) = false) : okP t p = false := by unfold okP; rw [h]; simp
theorem ok5 {t : T} {p : P} (h1 : inB p.id 1 99 = true) (h2 : inB p.weight 1 100 = true) (h3 : good (ch p) = true) (h4 : fits t (ch p) = true) : okP t p = true := by unfold okP; rw [h1, h2, h3, h4]; rfl
theorem ok_parts {t : T} {p : P} (h : okP t p = true) : inB p.id 1 99 = true ∧ inB p.weight 1 100 = true ∧ good (ch p) = true ∧ fits t (ch p) = true := by
  unfold okP at h; simp only [Bool.and_eq_true] at h; exact ⟨h.1, h.2.1, h.2.2.1, h.2.2.2⟩
theorem prev_pos {t : T} {l : List P} {k : Nat} (h : ∀ i x, i < k → l[i]? = some x → okP t x = true) (hk : k ≤ l.length) (hk0 : 0 < k) : 1 ≤ prevId l k := by
  obtain ⟨m, rfl⟩ : ∃ m, k = m + 1 := ⟨k - 1, by omega⟩
  have hm := List.getElem?_eq_getElem (show m < l.length by omega)
  rw [prev_next hm]
  exact (inB_yes (ok_parts (h m _ (by omega) hm)).1).1
theorem list_all : ∀ {t : T} {l : List P} {b : Int}, listB t b l = true → ∀ x ∈ l, okP t x = true
  | t, [], b, _, x, hx => by cases hx
  | t, y :: ys, b, h, x, hx => by
    unfold listB at h
    rw [Bool.and_eq_true, Bool.and_eq_true] at h
    rcases List.mem_cons.1 hx with rfl | hx
    · exact h.1.1
    · exact list_all h.2 x hx
theorem list_above : ∀ {t : T} {l : List P} {b : Int}, listB t b l = true → ∀ x ∈ l, b < x.id
  | t, [], b, _, x, hx => by cases hx
  | t, y :: ys, b, h, x, hx => by
    unfold listB at h
    rw [Bool.and_eq_true, Bool.and_eq_true] at h
    have hy := of_decide_eq_true h.1.2
    rcases List.mem_cons.1 hx with rfl | hx
    · exact hy
    · have := list_above h.2 x hx; omega
theorem list_asc : ∀ {t : T} {l : List P} {b : Int}, listB t b l = true → l.Pairwise (fun x y => x.id < y.id)
  | t, [], b, _ => List.Pairwise.nil
  | t, y :: ys, b, h => by
    unfold listB at h
    rw [Bool.and_eq_true, Bool.and_eq_true] at h
    exact List.Pairwise.cons (fun x hx => list_above h.2 x hx) (list_asc h.2)
theorem props_parts {t : T} {l : List P} (h : propsB t l = true) : textB t = true ∧ l.length ≤ 8 ∧ listB t 0 l = true := by
  unfold propsB at h; rw [Bool.and_eq_true, Bool.and_eq_true] at h; exact ⟨h.1.1, of_decide_eq_true h.1.2, h.2⟩
theorem props_mk {t : T} {l : List P} (h1 : textB t = true) (h2 : l.length ≤ 8) : propsB t l = listB t 0 l := by unfold propsB; rw [h1, decide_eq_true h2]; rfl
theorem props1 {t : T} {l : List P} (h1 : textB t = false) : propsB t l = false := by unfold propsB; rw [h1]; rfl
theorem props2 {t : T} {l : List P} (h2 : ¬ l.length ≤ 8) : propsB t l = false := by unfold propsB; rw [decide_eq_false h2]; simp
theorem props_all {t : T} {l : List P} (h : propsB t l = true) : ∀ x ∈ l, okP t x = true := list_all (props_parts h).2.2
theorem props_good {t : T} {l : List P} (h : propsB t l = true) : ∀ x ∈ l, good (ch x) = true := fun x hx => (ok_parts (props_all h x hx)).2.2.1
theorem fine_ch {p : P} (h : LProposal.Fine p) : LAmendment.Fine (ch p) := h
end Go.Proofs.Ytclpdpfnlmfogaa.Cf
