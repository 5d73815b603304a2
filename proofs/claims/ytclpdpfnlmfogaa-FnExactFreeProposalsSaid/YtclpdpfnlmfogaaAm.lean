/- Amendments: words, texts, what fits a text, what is made of it: the mathematics. No condition. -/
import Derived.Test.YtclpdpfnlmfogaaJ1
import Derived.Test.YtclpdpfnlmfogaaWord
namespace Go.Proofs.Ytclpdpfnlmfogaa.Am
open Go.RowKit Bs Word
set_option linter.unusedVariables false
abbrev M := LAmendment.R
abbrev T := List ByteArray
def wordsB (l : T) (most : Nat) : Bool := decide (l.length ≤ most) && l.all isWordB
def textB (l : T) : Bool := wordsB l 20
/-- kind, number of words struck, words put in -/
def kindB (k c : Int) (n : Nat) : Bool :=
  if k = 1 then decide (c = 0) && decide (0 < n) else if k = 2 then inB c 1 5 && decide (n = 0) else if k = 3 then inB c 1 5 && decide (0 < n) else false
def good (a : M) : Bool := inB a.pos 0 20 && (wordsB a.words 5 && kindB a.kind a.count a.words.length)
theorem words_len {l : T} {m : Nat} (h : wordsB l m = true) : l.length ≤ m := by
  unfold wordsB at h; rw [Bool.and_eq_true] at h; exact of_decide_eq_true h.1
theorem words_all {l : T} {m : Nat} (h : wordsB l m = true) : ∀ x ∈ l, isWordB x = true := by
  unfold wordsB at h; rw [Bool.and_eq_true] at h; exact List.all_eq_true.1 h.2
theorem words_mk {l : T} {m : Nat} (h1 : l.length ≤ m) (h2 : ∀ x ∈ l, isWordB x = true) : wordsB l m = true := by
  unfold wordsB; rw [decide_eq_true h1, List.all_eq_true.2 h2]; rfl
theorem words_long {l : T} {m : Nat} (h : ¬ l.length ≤ m) : wordsB l m = false := by unfold wordsB; rw [decide_eq_false h]; rfl
theorem words_bad {l : T} {m k : Nat} {x : ByteArray} (hx : l[k]? = some x) (h : isWordB x = false) : wordsB l m = false := by
  unfold wordsB
  rw [Bool.and_eq_false_iff]
  refine .inr (List.all_eq_false.2 ⟨x, List.mem_of_getElem? hx, by rw [h]; decide⟩)
theorem words_split {l : T} {m : Nat} (h : wordsB l m = false) (h1 : l.length ≤ m) : ∃ x ∈ l, isWordB x = false := by
  unfold wordsB at h
  rw [decide_eq_true h1, Bool.true_and] at h
  obtain ⟨x, hx, h⟩ := List.all_eq_false.1 h
  exact ⟨x, hx, by simpa using h⟩
/-- all words up to place k -/
def Upto (l : T) (k : Nat) : Prop := ∀ i x, i < k → l[i]? = some x → isWordB x = true
theorem upto_zero (l : T) : Upto l 0 := fun i x h => by omega
theorem upto_next {l : T} {k : Nat} {x : ByteArray} (h : Upto l k) (hx : l[k]? = some x) (hw : isWordB x = true) : Upto l (k + 1) := fun i y hi hy => by
  rcases Nat.lt_or_ge i k with h' | h'
  · exact h i y h' hy
  · obtain rfl : i = k := by omega
    rw [hx] at hy; rw [← Option.some.inj hy]; exact hw
theorem upto_all {l : T} {k m : Nat} (h : Upto l k) (hk : l.length ≤ k) (hm : l.length ≤ m) : wordsB l m = true := words_mk hm fun x hx => by
  obtain ⟨i, hi, rfl⟩ := List.getElem_of_mem hx
  exact h i _ (by omega) (List.getElem?_eq_getElem hi)
theorem words_size {l : T} {m : Nat} (h : wordsB l m = true) : ∀ x ∈ l, x.size ≤ 10 := fun x hx => by
  have := words_all h x hx
  unfold isWordB at this
  rw [Bool.and_eq_true, Bool.and_eq_true] at this
  exact of_decide_eq_true this.1.2
theorem kind_cases {k c : Int} {n : Nat} (h : kindB k c n = true) : (k = 1 ∧ c = 0 ∧ 0 < n) ∨ (k = 2 ∧ (1 ≤ c ∧ c ≤ 5) ∧ n = 0) ∨ (k = 3 ∧ (1 ≤ c ∧ c ≤ 5) ∧ 0 < n) := by
  unfold kindB at h
  split at h
  · rw [Bool.and_eq_true] at h; exact .inl ⟨by assumption, of_decide_eq_true h.1, of_decide_eq_true h.2⟩
  · split at h
    · rw [Bool.and_eq_true] at h; exact .inr (.inl ⟨by assumption, inB_yes h.1, of_decide_eq_true h.2⟩)
    · split at h
      · rw [Bool.and_eq_true] at h; exact .inr (.inr ⟨by assumption, inB_yes h.1, of_decide_eq_true h.2⟩)
      · cases h
theorem good_parts {a : M} (h : good a = true) : (0 ≤ a.pos ∧ a.pos ≤ 20) ∧ wordsB a.words 5 = true ∧ kindB a.kind a.count a.words.length = true ∧ (0 ≤ a.count ∧ a.count ≤ 5) := by
  unfold good at h
  rw [Bool.and_eq_true, Bool.and_eq_true] at h
  refine ⟨inB_yes h.1, h.2.1, h.2.2, ?_⟩
  rcases kind_cases h.2.2 with ⟨_, h0, _⟩ | ⟨_, h0, _⟩ | ⟨_, h0, _⟩
  · omega
  · omega
  · omega
theorem good_lens {a : M} (h : good a = true) : a.words.length ≤ 5 := words_len (good_parts h).2.1
theorem good1 {a : M} (h : inB a.pos 0 20 = false) : good a = false := by unfold good; rw [h]; rfl
theorem good2 {a : M} (h : wordsB a.words 5 = false) : good a = false := by unfold good; rw [h]; simp
theorem good3 {a : M} (h1 : inB a.pos 0 20 = true) (h2 : wordsB a.words 5 = true) : good a = kindB a.kind a.count a.words.length := by unfold good; rw [h1, h2]; simp
theorem good_kind {a : M} (h1 : inB a.pos 0 20 = true) (h : kindB a.kind a.count a.words.length = false) : good a = false := by unfold good; rw [h]; simp
/-- the words that an amendment strikes -/
def cut (t : T) (a : M) : T := (t.drop a.pos.toNat).take a.count.toNat
def fitsN (t : T) (a : M) : Bool := decide (a.pos + a.count ≤ t.length) && decide ((t.length : Int) - a.count + a.words.length ≤ 20)
def fits (t : T) (a : M) : Bool := fitsN t a && !decide (cut t a = a.words)
def apply (t : T) (a : M) : T := t.take a.pos.toNat ++ a.words ++ t.drop (a.pos.toNat + a.count.toNat)
def mkKind (p c : Int) (ws : T) : M := ⟨if c = 0 then 1 else if ws.length = 0 then 2 else 3, p, c, ws⟩
def inverse (t : T) (a : M) : M := mkKind a.pos a.words.length (cut t a)
def zeroM : M := ⟨0, 0, 0, []⟩
theorem fits_parts {t : T} {a : M} (h : fits t a = true) : a.pos + a.count ≤ t.length ∧ (t.length : Int) - a.count + a.words.length ≤ 20 ∧ cut t a ≠ a.words := by
  unfold fits fitsN at h
  rw [Bool.and_eq_true, Bool.and_eq_true] at h
  exact ⟨of_decide_eq_true h.1.1, of_decide_eq_true h.1.2, by simpa using h.2⟩
theorem fits1 {t : T} {a : M} (h : ¬ a.pos + a.count ≤ t.length) : fits t a = false := by unfold fits fitsN; rw [decide_eq_false h]; rfl
theorem fits2 {t : T} {a : M} (h : ¬ (t.length : Int) - a.count + a.words.length ≤ 20) : fits t a = false := by unfold fits fitsN; rw [decide_eq_false h]; simp
theorem fits3 {t : T} {a : M} (h1 : a.pos + a.count ≤ t.length) (h2 : (t.length : Int) - a.count + a.words.length ≤ 20) : fits t a = !decide (cut t a = a.words) := by
  unfold fits fitsN; rw [decide_eq_true h1, decide_eq_true h2]; simp
theorem cut_len {t : T} {a : M} (h0 : 0 ≤ a.pos) (hc : 0 ≤ a.count) (h1 : a.pos + a.count ≤ t.length) : (cut t a).length = a.count.toNat := by
  unfold cut; rw [List.length_take, List.length_drop]; omega
theorem apply_len {t : T} {a : M} (h0 : 0 ≤ a.pos) (hc : 0 ≤ a.count) (h1 : a.pos + a.count ≤ t.length) : ((apply t a).length : Int) = t.length - a.count + a.words.length := by
  unfold apply; rw [List.length_append, List.length_append, List.length_take, List.length_drop]; omega
/-- the text made by an amendment that fits is a text -/
theorem apply_text {t : T} {a : M} (ht : textB t = true) (ha : good a = true) (h : fits t a = true) : textB (apply t a) = true := by
  obtain ⟨h1, h2, _⟩ := fits_parts h
  obtain ⟨hp, hw, _, hc⟩ := good_parts ha
  refine words_mk (by have := apply_len hp.1 hc.1 h1; omega) fun x hx => ?_
  unfold apply at hx
  rcases List.mem_append.1 hx with hx | hx
  · rcases List.mem_append.1 hx with hx | hx
    · exact words_all ht x (List.mem_of_mem_take hx)
    · exact words_all hw x hx
  · exact words_all ht x (List.mem_of_mem_drop hx)
theorem cut_words {t : T} {a : M} (ht : textB t = true) : ∀ x ∈ cut t a, isWordB x = true := fun x hx => words_all ht x (List.mem_of_mem_drop (List.mem_of_mem_take hx))
theorem kind_mk {c : Int} {n : Nat} (h0 : 0 ≤ c) (h5 : c ≤ 5) (hn : n ≤ 5) (h : c ≠ 0 ∨ n ≠ 0) : kindB (if c = 0 then 1 else if n = 0 then 2 else 3) c n = true := by
  unfold kindB
  by_cases hc : c = 0
  · subst hc
    simp
    omega
  · rw [if_neg hc]
    by_cases hz : n = 0
    · subst hz
      simp [inB]
      omega
    · rw [if_neg hz]
      simp [inB]
      omega
theorem mk_good {p c : Int} {ws : T} (hp : 0 ≤ p ∧ p ≤ 20) (hw : wordsB ws 5 = true) (h0 : 0 ≤ c) (h5 : c ≤ 5) (h : c ≠ 0 ∨ ws.length ≠ 0) : good (mkKind p c ws) = true := by
  unfold good mkKind
  rw [Bool.and_eq_true, Bool.and_eq_true]
  exact ⟨inB_mk hp.1 hp.2, hw, kind_mk h0 h5 (words_len hw) h⟩
theorem mk_self {a : M} (h : good a = true) : mkKind a.pos a.count a.words = a := by
  obtain ⟨k, p, c, ws⟩ := a
  have hk := kind_cases (good_parts h).2.2.1
  unfold mkKind
  simp only [LAmendment.R.mk.injEq, and_true]
  rcases hk with ⟨h1, h2, h3⟩ | ⟨h1, h2, h3⟩ | ⟨h1, h2, h3⟩
  · simp only at h1 h2; rw [if_pos h2]; exact h1.symm
  · simp only at h1 h2 h3; rw [if_neg (by omega), if_pos h3]; exact h1.symm
  · simp only at h1 h2 h3; rw [if_neg (by omega), if_neg (by omega)]; exact h1.symm
/-- the inverse is valid -/
theorem inverse_good {t : T} {a : M} (ht : textB t = true) (ha : good a = true) (h : fits t a = true) : good (inverse t a) = true := by
  obtain ⟨h1, h2, _⟩ := fits_parts h
  obtain ⟨hp, hw, hk, hc⟩ := good_parts ha
  have hl := cut_len hp.1 hc.1 h1
  have hwl := words_len hw
  refine mk_good hp (words_mk (by omega) (cut_words ht)) (by omega) (by omega) ?_
  rcases kind_cases hk with ⟨_, h4, h5⟩ | ⟨_, h4, h5⟩ | ⟨_, h4, h5⟩
  · left; omega
  · right; omega
  · left; omega
/-- the inverse fits the amended text and leads back -/
theorem inverse_cut {t : T} {a : M} (hp : 0 ≤ a.pos) (hc : 0 ≤ a.count) (h1 : a.pos + a.count ≤ t.length) : cut (apply t a) (inverse t a) = a.words := by
  have hl : (t.take a.pos.toNat).length = a.pos.toNat := by rw [List.length_take]; omega
  unfold cut apply inverse mkKind
  simp only [Int.toNat_natCast]
  rw [List.append_assoc, List.drop_append_of_le_length (by omega), List.drop_of_length_le (by omega), List.nil_append, List.take_append_of_le_length (Nat.le_refl _), List.take_of_length_le (Nat.le_refl _)]
theorem inverse_back {t : T} {a : M} (hp : 0 ≤ a.pos) (hc : 0 ≤ a.count) (h1 : a.pos + a.count ≤ t.length) : apply (apply t a) (inverse t a) = t := by
  have hl : (t.take a.pos.toNat).length = a.pos.toNat := by rw [List.length_take]; omega
  have hl2 : (t.take a.pos.toNat ++ a.words).length = a.pos.toNat + a.words.length := by rw [List.length_append]; omega
  have e1 : (apply t a).take a.pos.toNat = t.take a.pos.toNat := by unfold apply; rw [List.append_assoc]; exact List.take_left' hl
  have e2 : (apply t a).drop (a.pos.toNat + a.words.length) = t.drop (a.pos.toNat + a.count.toNat) := List.drop_left' hl2
  show (apply t a).take a.pos.toNat ++ cut t a ++ (apply t a).drop (a.pos.toNat + (a.words.length : Int).toNat) = t
  rw [Int.toNat_natCast, e1, e2]
  unfold cut
  rw [← List.drop_drop, List.append_assoc, List.take_append_drop, List.take_append_drop]
theorem inverse_fits {t : T} {a : M} (ht : textB t = true) (ha : good a = true) (h : fits t a = true) : fits (apply t a) (inverse t a) = true := by
  obtain ⟨h1, h2, h3⟩ := fits_parts h
  obtain ⟨hp, hw, hk, hc⟩ := good_parts ha
  have hl := apply_len hp.1 hc.1 h1
  have hlc := cut_len hp.1 hc.1 h1
  have htl := words_len ht
  have e : cut (apply t a) (inverse t a) = a.words := inverse_cut hp.1 hc.1 h1
  rw [fits3]
  · rw [e]
    simp only [Bool.not_eq_true', decide_eq_false_iff_not]
    exact fun h => h3 h.symm
  · show a.pos + (a.words.length : Int) ≤ _
    omega
  · show _ - (a.words.length : Int) + ((cut t a).length : Int) ≤ 20
    omega
end Go.Proofs.Ytclpdpfnlmfogaa.Am
