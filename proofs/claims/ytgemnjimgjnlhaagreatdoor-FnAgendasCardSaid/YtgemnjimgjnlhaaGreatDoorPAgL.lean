/- What a text of items says: its lines, read back. Mathematics, no program. -/
import Derived.Test.YtgemnjimgjnlhaaGreatDoorPAg
import Derived.Test.YtgemnjimgjnlhaaGreatDoorAgendaTextC
import Derived.Test.YtgemnjimgjnlhaaGreatDoorSplitL
namespace Go.Proofs.YtgemnjimgjnlhaaGreatDoor.PAgL
open Go SplitMath SplitL NumMath Word Ag AgX PCut PAg
set_option linter.unusedVariables false
abbrev M := LAgendaItem.R
abbrev textB := AgendaTextC.textM
def ln (r : M) : List UInt8 := (lineM r).data.toList
theorem p_uniq {l : List UInt8} {r r' : M} (h : P l r) (h' : P l r') : r = r' := P_uniq h h'
theorem ln_clean {r : M} (h : okB r = true) : ∀ b ∈ ln r, b ≠ 10 := by
  obtain ⟨p1, p2, p3, p4⟩ := ok_parts h
  intro b hb
  unfold ln at hb
  rw [line_list] at hb
  simp only [List.mem_append] at hb
  rcases hb with hb | hb | hb | hb | hb | hb | hb
  · exact digit_ne (itoa_digits _ (by omega) b hb) (by decide)
  · revert b; decide
  · exact word_ne p2 10 (by decide) b hb
  · revert b; decide
  · exact digit_ne (itoa_digits _ (by omega) b hb) (by decide)
  · revert b; decide
  · unfold restL at hb
    by_cases e : r.time = -1
    · rw [if_pos e] at hb; rw [List.mem_singleton.1 hb]; decide
    · rw [if_neg e] at hb
      have hT := ok_time h e
      unfold clockL at hb
      simp only [List.mem_append] at hb
      rcases hb with hb | (hb | hb | hb) | hb
      · revert b; decide
      · exact D_clean (by omega) (by omega) 10 (by decide) b hb
      · rw [List.mem_singleton.1 hb]; decide
      · exact D_clean (by omega) (by omega) 10 (by decide) b hb
      · rw [List.mem_singleton.1 hb]; decide
theorem rest_len {t : Int} (h : t = -1 ∨ (0 ≤ t ∧ t ≤ 1439)) : (restL t).length ≤ 19 := by
  unfold restL
  rcases h with e | h
  · rw [if_pos e]; decide
  · rw [if_neg (by omega)]
    obtain ⟨a, b, _, _, _, d1⟩ := D_two (n := t / 60) (by omega) (by omega)
    obtain ⟨c, d, _, _, _, d2⟩ := D_two (n := t % 60) (by omega) (by omega)
    unfold clockL
    rw [d1, d2]
    exact Nat.le_refl _
theorem line_len {r : M} (h : okB r = true) : (lineM r).size ≤ 42 := by
  obtain ⟨p1, p2, p3, p4⟩ := ok_parts h
  have e : (lineM r).size = (lineM r).data.toList.length := (Array.length_toList (xs := (lineM r).data)).symm
  have h1 := itoa_len 2 r.id (by omega) (by decide) (by omega)
  have h2 := itoa_len 3 r.mins (by omega) (by decide) (by omega)
  have h3 := rest_len (ok_t h)
  have h4 : r.title.data.toList.length ≤ 10 := by
    unfold isWordB at p2
    rw [Bool.and_eq_true, Bool.and_eq_true] at p2
    have := of_decide_eq_true p2.1.2
    rw [Array.length_toList]; exact this
  rw [e, line_list]
  simp only [List.length_append, List.length_cons, List.length_nil]
  omega
theorem fold_list : ∀ (xs : List M) (a : ByteArray), (xs.foldl (fun s r => s ++ lineM r ++ ⟨#[10]⟩) a).data.toList = a.data.toList ++ ended 10 (xs.map ln)
  | [], a => by simp [ended]
  | x :: xs, a => by
    rw [List.foldl_cons, fold_list xs, List.map_cons, ended_cons]
    simp [ln]
theorem text_list (xs : List M) : (textB xs).data.toList = ended 10 (xs.map ln) := by
  have := fold_list xs ⟨#[]⟩
  simpa [textB, AgendaTextC.textM] using this
theorem all_ok {xs : List M} (h : goodB xs = true) : ∀ x ∈ xs, okB x = true := AgendaTextC.all_ok h
theorem text_split {xs : List M} (h : goodB xs = true) : splitOf (textB xs).data.toList 10 = xs.map ln ++ [[]] := by
  rw [text_list]
  refine split_ended 10 _ fun y hy b hb => ?_
  obtain ⟨x, hx, rfl⟩ := List.mem_map.1 hy
  exact ln_clean (all_ok h x hx) b hb
theorem reads_of {xs : List M} (h : goodB xs = true) : Reads P (xs.map ln) xs := ⟨by simp, fun i l r hl hr => by
  rw [List.getElem?_map, hr] at hl
  simp only [Option.map_some, Option.some.injEq] at hl
  exact ⟨all_ok h r (List.mem_of_getElem? hr), hl⟩⟩
theorem size_le : ∀ xs : List M, (∀ x ∈ xs, okB x = true) → (ended 10 (xs.map ln)).length ≤ 55 * xs.length
  | [], _ => by simp [ended]
  | x :: xs, h => by
    have ih := size_le xs (fun y hy => h y (by simp [hy]))
    have := line_len (h x (by simp))
    have e : (ln x).length = (lineM x).size := Array.length_toList
    rw [List.map_cons, ended_cons, List.length_append, List.length_cons, List.length_cons, e]
    omega
/-- what both answer: the valid list whose text it is, or none -/
def Ans (s : ByteArray) (r0 : List M) (r1 : Bool) : Prop :=
  (r1 = true ∧ goodB r0 = true ∧ textB r0 = s) ∨ ((r1 = false ∧ r0 = []) ∧ ∀ q : List M, goodB q = true → textB q ≠ s)
theorem found {s : ByteArray} {q : List M} (hg : goodB q = true) (ht : textB q = s) : s.size ≤ 600 ∧ splitOf s.data.toList 10 = q.map ln ++ [[]] := by
  subst ht
  have h8 := (good_of hg).1
  have h1 := size_le q (all_ok hg)
  rw [← text_list] at h1
  have e : (textB q).data.toList.length = (textB q).size := Array.length_toList
  rw [e] at h1
  exact ⟨by omega, text_split hg⟩
theorem text_inj {q q' : List M} (hg : goodB q = true) (hg' : goodB q' = true) (h : textB q = textB q') : q = q' := by
  have h1 := text_split hg
  have h2 := text_split hg'
  rw [h, h2] at h1
  have e := (List.append_inj' h1 rfl).1
  have r1 := reads_of hg
  have r2 := reads_of hg'
  rw [e] at r2
  exact reads_uniq (P := P) (fun _ _ _ a b => p_uniq a b) r1 r2
theorem same {s : ByteArray} {r0 s0 : List M} {r1 s1 : Bool} (h : Ans s r0 r1) (h' : Ans s s0 s1) : r0 = s0 ∧ r1 = s1 := by
  rcases h with ⟨rfl, g, t⟩ | ⟨⟨rfl, rfl⟩, n⟩ <;> rcases h' with ⟨rfl, g', t'⟩ | ⟨⟨rfl, rfl⟩, n'⟩
  · exact ⟨text_inj g g' (t.trans t'.symm), rfl⟩
  · exact absurd t (n' _ g)
  · exact absurd t' (n _ g')
  · exact ⟨rfl, rfl⟩
theorem len0 {s : ByteArray} {r0 : List M} {r1 : Bool} (h : Ans s r0 r1) : r0.length ≤ 1048576 := by
  rcases h with ⟨_, g, _⟩ | ⟨⟨_, rfl⟩, _⟩
  · have := (good_of g).1; omega
  · simp
theorem ans_none {s : ByteArray} (h : ∀ q : List M, goodB q = true → textB q ≠ s) : Ans s [] false := .inr ⟨⟨rfl, rfl⟩, h⟩
theorem ans_yes {s : ByteArray} {q : List M} (h : goodB q = true) (t : textB q = s) : Ans s q true := .inl ⟨rfl, h, t⟩
/-- lines that were read are the text's -/
theorem lines_of {ls : List (List UInt8)} {xs : List M} (h : Reads P ls xs) : xs.map ln = ls := by
  apply List.ext_getElem?
  intro i
  rw [List.getElem?_map]
  rcases Nat.lt_or_ge i ls.length with hi | hi
  · have hx : i < xs.length := by rw [← h.1]; exact hi
    rw [List.getElem?_eq_getElem hx, List.getElem?_eq_getElem hi]
    exact congrArg some (h.2 i _ _ (List.getElem?_eq_getElem hi) (List.getElem?_eq_getElem hx)).2
  · rw [List.getElem?_eq_none (by rw [← h.1]; exact hi), List.getElem?_eq_none hi]; rfl
theorem text_of {s : ByteArray} {ls : List (List UInt8)} {xs : List M} (hs : splitOf s.data.toList 10 = ls ++ [[]]) (h : Reads P ls xs) : textB xs = s := by
  apply ByteArray.ext
  apply Array.toList_inj.1
  rw [text_list, lines_of h, ← unsplit hs]
/-- the list that was read is the only one that can have the text -/
theorem only {s : ByteArray} {ls : List (List UInt8)} {z : List UInt8} {xs : List M} (hs : splitOf s.data.toList 10 = ls ++ [z]) (hx : Reads P ls xs) (hn : ¬ (goodB xs = true ∧ textB xs = s)) : Ans s [] false :=
  ans_none fun q hg ht => by
    have h2 := (found hg ht).2
    rw [hs] at h2
    have e := (List.append_inj' h2 rfl).1
    have hr := reads_of hg
    rw [← e] at hr
    have := reads_uniq (P := P) (fun _ _ _ a b => p_uniq a b) hx hr
    subst this
    exact hn ⟨hg, ht⟩
/-- a line that is none's -/
theorem bad_line {s : ByteArray} {ls : List (List UInt8)} {z l : List UInt8} {k : Nat} (hs : splitOf s.data.toList 10 = ls ++ [z]) (hl : ls[k]? = some l) (hn : ∀ q, ¬ P l q) : Ans s [] false :=
  ans_none fun q hg ht => by
    have h2 := (found hg ht).2
    rw [hs] at h2
    have e := (List.append_inj' h2 rfl).1
    have hr := reads_of hg
    rw [← e] at hr
    obtain ⟨r, _, hp⟩ := reads_at hr hl
    exact hn r hp
end Go.Proofs.YtgemnjimgjnlhaaGreatDoor.PAgL
