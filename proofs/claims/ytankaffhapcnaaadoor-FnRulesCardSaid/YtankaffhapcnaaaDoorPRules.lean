/- What a text of rules says: its lines, read back. Mathematics, no program. -/
import Derived.Test.YtankaffhapcnaaaDoorJ1
import Derived.Test.YtankaffhapcnaaaDoorText
namespace Go.Proofs.YtankaffhapcnaaaDoor.PRules
open Go SplitMath SplitL NumMath PRule
set_option linter.unusedVariables false
abbrev M := LRule.R
abbrev textB := Text.textB
/-- a line, read: the valid rule whose line it is -/
def P (l : List UInt8) (r : M) : Prop := Rule.okB r = true ∧ (Line.lineB r).data.toList = l
def ln (r : M) : List UInt8 := (Line.lineB r).data.toList
theorem ln_eq {r r' : M} (h : ln r = ln r') : Line.lineB r = Line.lineB r' := by
  apply ByteArray.ext
  exact Array.toList_inj.1 h
theorem p_uniq {l : List UInt8} {r r' : M} (h : P l r) (h' : P l r') : r = r' := line_inj h.1 h'.1 (ln_eq (h.2.trans h'.2.symm))
theorem mem_tail : ∀ (ws : List (List UInt8)) (b : UInt8), b ∈ Lib.joinTail [32] ws → b = 32 ∨ ∃ y ∈ ws, b ∈ y
  | [], b, h => by simp [Lib.joinTail] at h
  | y :: ws, b, h => by
    have e : Lib.joinTail [32] (y :: ws) = 32 :: (y ++ Lib.joinTail [32] ws) := by simp [Lib.joinTail]
    rw [e] at h
    simp only [List.mem_cons, List.mem_append] at h
    rcases h with h | h | h
    · exact .inl h
    · exact .inr ⟨y, by simp, h⟩
    · rcases mem_tail ws b h with h | ⟨z, hz, hb⟩
      · exact .inl h
      · exact .inr ⟨z, by simp [hz], hb⟩
theorem itoa_clean10 (n : Int) (h : 0 ≤ n) : ∀ b ∈ Lib.itoa n, b ≠ 10 := by
  have e : Lib.itoa n = Lib.decDigits n.toNat := by unfold Lib.itoa; rw [if_neg (by omega)]
  rw [e]
  intro b hb
  have := dd_all _ b hb
  rintro rfl
  revert this
  decide
theorem word_clean10 {s : ByteArray} (h : Rule.isWordB s = true) : ∀ b ∈ s.data.toList, b ≠ 10 := by
  unfold Rule.isWordB at h
  simp only [Bool.and_eq_true] at h
  have h2 := h.2
  unfold Rule.allAz at h2
  rw [List.all_eq_true] at h2
  intro b hb
  have := h2 b hb
  rintro rfl
  revert this
  decide
theorem need_clean10 {n : Int} (h : n = 1 ∨ n = 2 ∨ n = 3) : ∀ b ∈ wNeed n, b ≠ 10 := by
  rcases h with rfl | rfl | rfl <;> decide
theorem traits_clean10 (r : M) : ∀ y ∈ traits r, ∀ b ∈ y, b ≠ 10 := by
  unfold traits
  cases r.sec <;> cases r.deb <;> cases r.am <;> decide
theorem words_clean10 {r : M} (h : Rule.okB r = true) : ∀ y ∈ wordsR r, ∀ b ∈ y, b ≠ 10 := by
  obtain ⟨h1, h2, h3, h4, h5, h6, h7⟩ := Line.ok_parts h
  intro y hy
  unfold wordsR at hy
  simp only [List.mem_cons, List.mem_append, List.not_mem_nil, or_false] at hy
  rcases hy with rfl | rfl | rfl | rfl | hy | rfl | rfl
  · exact itoa_clean10 _ (by omega)
  · exact word_clean10 (ok_word h)
  · decide
  · exact itoa_clean10 _ (by omega)
  · exact traits_clean10 r y hy
  · decide
  · exact need_clean10 (need_cases h)
theorem ln_clean {r : M} (h : Rule.okB r = true) : ∀ b ∈ ln r, b ≠ 10 := by
  intro b hb
  unfold ln at hb
  rw [line_join] at hb
  rcases List.mem_append.1 hb with hb | hb
  · exact words_clean10 h _ (by unfold wordsR; simp) b hb
  · rcases mem_tail _ b hb with rfl | ⟨y, hy, hb⟩
    · decide
    · exact words_clean10 h y (by unfold wordsR; exact List.mem_cons_of_mem _ hy) b hb
theorem fold_list : ∀ (xs : List M) (a : ByteArray), (xs.foldl (fun s r => s ++ Line.lineB r ++ ⟨#[10]⟩) a).data.toList = a.data.toList ++ ended 10 (xs.map ln)
  | [], a => by simp [ended]
  | x :: xs, a => by
    rw [List.foldl_cons, fold_list xs, List.map_cons, ended_cons]
    simp [ln]
theorem text_list (xs : List M) : (textB xs).data.toList = ended 10 (xs.map ln) := by
  have := fold_list xs ⟨#[]⟩
  simpa [textB, Text.textB] using this
theorem all_ok {xs : List M} (h : Gd.goodB xs = true) : ∀ x ∈ xs, Rule.okB x = true := Text.all_ok h
theorem text_split {xs : List M} (h : Gd.goodB xs = true) : splitOf (textB xs).data.toList 10 = xs.map ln ++ [[]] := by
  rw [text_list]
  refine split_ended 10 _ fun y hy b hb => ?_
  obtain ⟨x, hx, rfl⟩ := List.mem_map.1 hy
  exact ln_clean (all_ok h x hx) b hb
theorem reads_of {xs : List M} (h : Gd.goodB xs = true) : Reads P (xs.map ln) xs := ⟨by simp, fun i l r hl hr => by
  rw [List.getElem?_map, hr] at hl
  simp only [Option.map_some, Option.some.injEq] at hl
  exact ⟨all_ok h r (List.mem_of_getElem? hr), hl⟩⟩
theorem size_le : ∀ xs : List M, (∀ x ∈ xs, Rule.okB x = true) → (ended 10 (xs.map ln)).length ≤ 55 * xs.length
  | [], _ => by simp [ended]
  | x :: xs, h => by
    have ih := size_le xs (fun y hy => h y (by simp [hy]))
    have := line_len (h x (by simp))
    have e : (ln x).length = (Line.lineB x).size := Array.length_toList
    rw [List.map_cons, ended_cons, List.length_append, List.length_cons, List.length_cons, e]
    omega
/-- what both answer: the valid list whose text it is, or none -/
def Ans (s : ByteArray) (r0 : List M) (r1 : Bool) : Prop :=
  (r1 = true ∧ Gd.goodB r0 = true ∧ textB r0 = s) ∨ ((r1 = false ∧ r0 = []) ∧ ∀ q : List M, Gd.goodB q = true → textB q ≠ s)
theorem found {s : ByteArray} {q : List M} (hg : Gd.goodB q = true) (ht : textB q = s) : s.size ≤ 700 ∧ splitOf s.data.toList 10 = q.map ln ++ [[]] := by
  subst ht
  have h8 := (Gd.good_of hg).1
  have h1 := size_le q (all_ok hg)
  rw [← text_list] at h1
  have e : (textB q).data.toList.length = (textB q).size := Array.length_toList
  rw [e] at h1
  exact ⟨by omega, text_split hg⟩
theorem text_inj {q q' : List M} (hg : Gd.goodB q = true) (hg' : Gd.goodB q' = true) (h : textB q = textB q') : q = q' := by
  have h1 := text_split hg
  have h2 := text_split hg'
  rw [h, h2] at h1
  have e := (List.append_inj' h1 rfl).1
  have r1 := reads_of hg
  have r2 := reads_of hg'
  rw [e] at r2
  exact reads_uniq (P := P) (fun _ _ _ a b => p_uniq a b) r1 r2
theorem same {s : ByteArray} {r0 s0 : List M} {r1 s1 : Bool} (h : Ans s r0 r1) (h' : Ans s s0 s1) : r0 = s0 ∧ r1 = s1 := by
  rcases h with ⟨rfl, g, t⟩ | ⟨⟨rfl, rfl⟩, n⟩ <;> rcases h' with ⟨rfl, g', t'⟩ | ⟨⟨rfl, rfl⟩, n'⟩
  · exact ⟨text_inj g g' (t.trans t'.symm), rfl⟩
  · exact absurd t (n' _ g)
  · exact absurd t' (n _ g')
  · exact ⟨rfl, rfl⟩
theorem len0 {s : ByteArray} {r0 : List M} {r1 : Bool} (h : Ans s r0 r1) : r0.length ≤ 1048576 := by
  rcases h with ⟨_, g, _⟩ | ⟨⟨_, rfl⟩, _⟩
  · have := (Gd.good_of g).1; omega
  · simp
theorem ans_none {s : ByteArray} (h : ∀ q : List M, Gd.goodB q = true → textB q ≠ s) : Ans s [] false := .inr ⟨⟨rfl, rfl⟩, h⟩
theorem ans_yes {s : ByteArray} {q : List M} (h : Gd.goodB q = true) (t : textB q = s) : Ans s q true := .inl ⟨rfl, h, t⟩
/-- lines that were read are the text's -/
theorem lines_of {ls : List (List UInt8)} {xs : List M} (h : Reads P ls xs) : xs.map ln = ls := by
  apply List.ext_getElem?
  intro i
  rw [List.getElem?_map]
  rcases Nat.lt_or_ge i ls.length with hi | hi
  · have hx : i < xs.length := by rw [← h.1]; exact hi
    rw [List.getElem?_eq_getElem hx, List.getElem?_eq_getElem hi]
    exact congrArg some (h.2 i _ _ (List.getElem?_eq_getElem hi) (List.getElem?_eq_getElem hx)).2
  · rw [List.getElem?_eq_none (by rw [← h.1]; exact hi), List.getElem?_eq_none hi]; rfl
theorem text_of {s : ByteArray} {ls : List (List UInt8)} {xs : List M} (hs : splitOf s.data.toList 10 = ls ++ [[]]) (h : Reads P ls xs) : textB xs = s := by
  apply ByteArray.ext
  apply Array.toList_inj.1
  rw [text_list, lines_of h, ← unsplit hs]
/-- the list that was read is the only one that can have the text -/
theorem only {s : ByteArray} {ls : List (List UInt8)} {z : List UInt8} {xs : List M} (hs : splitOf s.data.toList 10 = ls ++ [z]) (hx : Reads P ls xs) (hn : ¬ (Gd.goodB xs = true ∧ textB xs = s)) : Ans s [] false :=
  ans_none fun q hg ht => by
    have h2 := (found hg ht).2
    rw [hs] at h2
    have e := (List.append_inj' h2 rfl).1
    have hr := reads_of hg
    rw [← e] at hr
    have := reads_uniq (P := P) (fun _ _ _ a b => p_uniq a b) hx hr
    subst this
    exact hn ⟨hg, ht⟩
/-- a line that is none's -/
theorem bad_line {s : ByteArray} {ls : List (List UInt8)} {z l : List UInt8} {k : Nat} (hs : splitOf s.data.toList 10 = ls ++ [z]) (hl : ls[k]? = some l) (hn : ∀ q, ¬ P l q) : Ans s [] false :=
  ans_none fun q hg ht => by
    have h2 := (found hg ht).2
    rw [hs] at h2
    have e := (List.append_inj' h2 rfl).1
    have hr := reads_of hg
    rw [← e] at hr
    obtain ⟨r, _, hp⟩ := reads_at hr hl
    exact hn r hp
end Go.Proofs.YtankaffhapcnaaaDoor.PRules
