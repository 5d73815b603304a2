/- Splitting a list of bytes at a byte; no program. -/
import Derived.Lib.IndexMore
import Derived.Lib.IndexBytes
import Derived.Lib.IndexLaws
namespace Go.Proofs.YtgemnjimgjnlhaaGreatDoor.SplitMath
open Go

def splStep (c : UInt8) (p : List (List UInt8) × List UInt8) (b : UInt8) : List (List UInt8) × List UInt8 :=
  if b = c then (p.1 ++ [p.2], []) else (p.1, p.2 ++ [b])
/-- what is finished, and the piece in hand -/
def spl (l : List UInt8) (c : UInt8) : List (List UInt8) × List UInt8 := l.foldl (splStep c) ([], [])
def splitOf (l : List UInt8) (c : UInt8) : List (List UInt8) := (spl l c).1 ++ [(spl l c).2]
theorem spl_snoc (l : List UInt8) (c b : UInt8) : spl (l ++ [b]) c = splStep c (spl l c) b := by unfold spl; rw [List.foldl_append]; rfl
theorem spl_hit (l : List UInt8) (c : UInt8) : spl (l ++ [c]) c = ((spl l c).1 ++ [(spl l c).2], []) := by rw [spl_snoc]; unfold splStep; rw [if_pos rfl]
theorem spl_miss (l : List UInt8) (c b : UInt8) (h : b ≠ c) : spl (l ++ [b]) c = ((spl l c).1, (spl l c).2 ++ [b]) := by rw [spl_snoc]; unfold splStep; rw [if_neg h]
theorem spl_suffix (c : UInt8) : ∀ l : List UInt8, ∃ pre, l = pre ++ (spl l c).2 := by
  intro l
  have h : ∀ (n : Nat) (l : List UInt8), l.length = n → ∃ pre, l = pre ++ (spl l c).2 := by
    intro n
    induction n with
    | zero => intro l hl; exact ⟨[], by rw [List.length_eq_zero_iff.1 hl]; rfl⟩
    | succ n ih =>
      intro l hl
      rcases List.eq_nil_or_concat l with rfl | ⟨m, b, rfl⟩
      · simp at hl
      · obtain ⟨pre, hp⟩ := ih m (by simpa using hl)
        by_cases hb : b = c
        · subst hb; rw [List.concat_eq_append, spl_hit]; exact ⟨m ++ [b], by simp⟩
        · rw [List.concat_eq_append, spl_miss _ _ _ hb]; exact ⟨pre, by rw [← List.append_assoc, ← hp]⟩
  exact h l.length l rfl
theorem spl_count (c : UInt8) (l : List UInt8) : (spl l c).1.length ≤ l.length := by
  have h : ∀ (l : List UInt8) (p : List (List UInt8) × List UInt8), (l.foldl (splStep c) p).1.length ≤ p.1.length + l.length := by
    intro l
    induction l with
    | nil => intro p; simp
    | cons b l ih =>
      intro p
      have := ih (splStep c p b)
      have h2 : (splStep c p b).1.length ≤ p.1.length + 1 := by unfold splStep; split <;> simp
      rw [List.foldl_cons, List.length_cons]
      omega
  have := h l ([], [])
  simpa [spl] using this
theorem spl_cur_le (c : UInt8) (l : List UInt8) : (spl l c).2.length ≤ l.length := by
  obtain ⟨pre, h⟩ := spl_suffix c l
  have := congrArg List.length h
  rw [List.length_append] at this
  omega
/-- the piece in hand is a cut of the string -/
theorem spl_cur (c : UInt8) (l : List UInt8) (k : Nat) (hk : k ≤ l.length) :
    (l.drop (k - (spl (l.take k) c).2.length)).take (k - (k - (spl (l.take k) c).2.length)) = (spl (l.take k) c).2 := by
  obtain ⟨pre, h⟩ := spl_suffix c (l.take k)
  generalize (spl (l.take k) c).2 = cur at h ⊢
  have hl := congrArg List.length h
  rw [List.length_append, List.length_take, Nat.min_eq_left hk] at hl
  have e1 : k - cur.length = pre.length := by omega
  rw [e1]
  have e2 : l = pre ++ (cur ++ l.drop k) := by
    rw [← List.append_assoc, ← h, List.take_append_drop]
  have e3 : k - pre.length = cur.length := by omega
  rw [e3]
  conv => lhs; rw [e2]
  rw [List.drop_left, List.take_left]
/-- the first piece -/
def first (l : List UInt8) (c : UInt8) : List UInt8 := l.takeWhile (fun b => b != c)
theorem fold_keep (c : UInt8) : ∀ (l : List UInt8) (p : List (List UInt8) × List UInt8), ∃ d', (l.foldl (splStep c) p).1 = p.1 ++ d' := by
  intro l
  induction l with
  | nil => intro p; exact ⟨[], by simp⟩
  | cons b l ih =>
    intro p
    rw [List.foldl_cons]
    obtain ⟨d', h⟩ := ih (splStep c p b)
    by_cases hb : b = c
    · have e : splStep c p b = (p.1 ++ [p.2], []) := by unfold splStep; rw [if_pos hb]
      rw [e] at h ⊢
      exact ⟨p.2 :: d', by rw [h]; simp⟩
    · have e : splStep c p b = (p.1, p.2 ++ [b]) := by unfold splStep; rw [if_neg hb]
      rw [e] at h ⊢
      exact ⟨d', h⟩
theorem head_aux (c : UInt8) : ∀ (l cur : List UInt8), ((l.foldl (splStep c) ([], cur)).1 ++ [(l.foldl (splStep c) ([], cur)).2])[0]? = some (cur ++ first l c) := by
  intro l
  induction l with
  | nil => intro cur; simp [first]
  | cons b l ih =>
    intro cur
    rw [List.foldl_cons]
    by_cases hb : b = c
    · have e : splStep c ([], cur) b = ([cur], []) := by unfold splStep; rw [if_pos hb]; rfl
      have hf : first (b :: l) c = [] := by unfold first; rw [List.takeWhile_cons, hb]; simp
      rw [e, hf]
      obtain ⟨d', h⟩ := fold_keep c l ([cur], [])
      rw [h]
      simp
    · have e : splStep c ([], cur) b = ([], cur ++ [b]) := by unfold splStep; rw [if_neg hb]
      have hf : first (b :: l) c = b :: first l c := by unfold first; rw [List.takeWhile_cons, if_pos (by simpa using hb)]
      rw [e, ih, hf]
      simp
theorem splitOf_head (l : List UInt8) (c : UInt8) : (splitOf l c)[0]? = some (first l c) := by
  have := head_aux c l []
  simpa [splitOf, spl] using this
theorem first_length (l : List UInt8) (c : UInt8) : (first l c).length ≤ l.length := by
  unfold first
  exact (List.takeWhile_prefix _).length_le
theorem first_has (l : List UInt8) (c : UInt8) : (first l c).contains c = false := by
  unfold first
  rw [List.contains_eq_any_beq]
  induction l with
  | nil => rfl
  | cons b l ih =>
    rw [List.takeWhile_cons]
    split
    · rename_i h
      rw [List.any_cons, ih, Bool.or_false]
      have : b ≠ c := by simpa using h
      simp
      exact fun e => this e.symm
    · rfl
theorem index_first (l : List UInt8) (c : UInt8) : (0 ≤ Lib.indexByte l c → l.take (Lib.indexByte l c).toNat = first l c) ∧ (¬ 0 ≤ Lib.indexByte l c → first l c = l) := by
  induction l with
  | nil => simp [first]
  | cons b l ih =>
    have hge := Lib.indexByte_ge l c
    by_cases hb : b = c
    · subst hb
      have e : Lib.indexByte (b :: l) b = 0 := by simp [Lib.indexByte]
      rw [e]
      simp [first]
    · have hf : first (b :: l) c = b :: first l c := by unfold first; rw [List.takeWhile_cons, if_pos (by simpa using hb)]
      by_cases h0 : 0 ≤ Lib.indexByte l c
      · have e : Lib.indexByte (b :: l) c = Lib.indexByte l c + 1 := by
          simp only [Lib.indexByte]
          simp [hb]
          omega
        rw [e, hf]
        refine ⟨fun _ => ?_, fun h => absurd (by omega) h⟩
        have : (Lib.indexByte l c + 1).toNat = (Lib.indexByte l c).toNat + 1 := by omega
        rw [this, List.take_succ_cons, ih.1 h0]
      · have e : Lib.indexByte (b :: l) c = -1 := by
          simp only [Lib.indexByte]
          simp [hb]
          omega
        rw [e, hf]
        refine ⟨fun h => absurd h (by omega), fun _ => ?_⟩
        rw [ih.2 h0]
end Go.Proofs.YtgemnjimgjnlhaaGreatDoor.SplitMath
