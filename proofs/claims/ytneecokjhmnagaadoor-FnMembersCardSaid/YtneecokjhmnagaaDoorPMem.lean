/- What a text of members says: its lines, read back, as the program and as the model read them. Mathematics, no program. -/
import Derived.Test.YtneecokjhmnagaaDoorMLine
import Derived.Test.YtneecokjhmnagaaDoorSplitL
import Derived.Test.YtneecokjhmnagaaDoorNumMath
namespace Go.Proofs.YtneecokjhmnagaaDoor.PMem
open Go SplitMath SplitL NumMath Mem MLine
set_option linter.unusedVariables false
/-- a member whose line can be read back -/
def Q (r : M) : Prop := (-999999 ≤ r.num ∧ r.num ≤ 999999) ∧ (0 ≤ r.off ∧ r.off ≤ 3) ∧ ∀ b ∈ r.name.data.toList, b ≠ 32
def ln (r : M) : List UInt8 := (lineM r).data.toList
def P (l : List UInt8) (r : M) : Prop := Q r ∧ ln r = l
def wO (o : Int) : List UInt8 := (offW o).data.toList
theorem num_list (n : Int) : (num n).data.toList = Lib.itoa n := by unfold num; simp
theorem off_cases {o : Int} (h : 0 ≤ o ∧ o ≤ 3) : o = 0 ∨ o = 1 ∨ o = 2 ∨ o = 3 := by omega
theorem off_list {o : Int} (h : 1 ≤ o ∧ o ≤ 3) : (offT o).data.toList = 32 :: wO o := by
  have : o = 1 ∨ o = 2 ∨ o = 3 := by omega
  rcases this with rfl | rfl | rfl <;> rfl
theorem off_zero : (offT 0).data.toList = [] := rfl
theorem wO_clean {o : Int} (c : UInt8) (hc : c = 32 ∨ c = 10) (h : 0 ≤ o ∧ o ≤ 3) : ∀ b ∈ wO o, b ≠ c := by
  rcases off_cases h with rfl | rfl | rfl | rfl <;> rcases hc with rfl | rfl <;> decide
theorem ln_list (r : M) : ln r = Lib.itoa r.num ++ 32 :: (r.name.data.toList ++ (offT r.off).data.toList) := by
  unfold ln lineM
  simp [num_list]
theorem itoa_clean (n : Int) (c : UInt8) (hc : isD c = false) (hm : c ≠ 45) : ∀ b ∈ Lib.itoa n, b ≠ c := by
  intro b hb
  unfold Lib.itoa at hb
  split at hb
  · rcases List.mem_cons.1 hb with rfl | hb
    · exact fun e => hm e.symm
    · have := dd_all _ b hb
      rintro rfl
      rw [hc] at this; cases this
  · have := dd_all _ b hb
    rintro rfl
    rw [hc] at this; cases this
theorem split_zero {r : M} (h : Q r) (h0 : r.off = 0) : splitOf (ln r) 32 = [Lib.itoa r.num, r.name.data.toList] := by
  rw [ln_list, h0, off_zero, List.append_nil, splitOf_cut _ _ _ (itoa_clean _ 32 (by decide) (by decide)), splitOf_none _ _ h.2.2]
theorem split_off {r : M} (h : Q r) (h0 : r.off ≠ 0) : splitOf (ln r) 32 = [Lib.itoa r.num, r.name.data.toList, wO r.off] := by
  have ho : 1 ≤ r.off ∧ r.off ≤ 3 := by have := h.2.1; omega
  rw [ln_list, off_list ho, splitOf_cut _ _ _ (itoa_clean _ 32 (by decide) (by decide)), splitOf_cut _ _ _ h.2.2, splitOf_none _ _ (wO_clean 32 (.inl rfl) h.2.1)]
theorem numeral {r : M} (h : Q r) : Numeral (Lib.itoa r.num) r.num := ⟨h.1.1, h.1.2, rfl⟩
theorem wO_inj {o o' : Int} (h : 1 ≤ o ∧ o ≤ 3) (h' : 1 ≤ o' ∧ o' ≤ 3) (e : wO o = wO o') : o = o' := by
  have a : o = 1 ∨ o = 2 ∨ o = 3 := by omega
  have b : o' = 1 ∨ o' = 2 ∨ o' = 3 := by omega
  rcases a with rfl | rfl | rfl <;> rcases b with rfl | rfl | rfl <;> first | rfl | (exfalso; revert e; decide)
theorem rec_ext {r r' : M} (h1 : r.num = r'.num) (h2 : r.name = r'.name) (h3 : r.off = r'.off) : r = r' := by
  cases r; cases r'; simp only at h1 h2 h3; rw [h1, h2, h3]
theorem name_ext {a b : ByteArray} (h : a.data.toList = b.data.toList) : a = b := by apply ByteArray.ext; exact Array.toList_inj.1 h
theorem p_uniq {l : List UInt8} {r r' : M} (h : P l r) (h' : P l r') : r = r' := by
  obtain ⟨q, rfl⟩ := h
  obtain ⟨q', e⟩ := h'
  have n1 := numeral q
  have n2 := numeral q'
  by_cases a : r.off = 0 <;> by_cases b : r'.off = 0
  · have s1 := split_zero q a
    have s2 := split_zero q' b
    rw [e, s1] at s2
    simp only [List.cons.injEq, and_true] at s2
    rw [s2.1] at n1
    exact rec_ext (n1.uniq n2) (name_ext s2.2) (a.trans b.symm)
  · have s1 := split_zero q a
    have s2 := split_off q' b
    rw [e, s1] at s2
    simp at s2
  · have s1 := split_off q a
    have s2 := split_zero q' b
    rw [e, s1] at s2
    simp at s2
  · have s1 := split_off q a
    have s2 := split_off q' b
    rw [e, s1] at s2
    simp only [List.cons.injEq, and_true] at s2
    rw [s2.1] at n1
    exact rec_ext (n1.uniq n2) (name_ext s2.2.1) (wO_inj (by have := q.2.1; omega) (by have := q'.2.1; omega) s2.2.2)
theorem ok_q {r : M} (h : okB r = true) : Q r := by
  obtain ⟨h1, h2, h3⟩ := ok_parts h
  refine ⟨by omega, h3, ?_⟩
  unfold Word.isWordB at h2
  simp only [Bool.and_eq_true] at h2
  have h4 := h2.2
  unfold Word.allAz at h4
  rw [List.all_eq_true] at h4
  intro b hb
  have := h4 b hb
  rintro rfl
  revert this
  decide
theorem ln_clean {r : M} (h : okB r = true) : ∀ b ∈ ln r, b ≠ 10 := by
  obtain ⟨h1, h2, h3⟩ := ok_parts h
  unfold Word.isWordB at h2
  simp only [Bool.and_eq_true] at h2
  have h4 := h2.2
  unfold Word.allAz at h4
  rw [List.all_eq_true] at h4
  intro b hb
  rw [ln_list] at hb
  simp only [List.mem_append, List.mem_cons] at hb
  rcases hb with hb | rfl | hb | hb
  · exact itoa_clean _ 10 (by decide) (by decide) b hb
  · decide
  · have := h4 b hb
    rintro rfl
    revert this
    decide
  · by_cases h0 : r.off = 0
    · rw [h0, off_zero] at hb; cases hb
    · rw [off_list (by omega)] at hb
      rcases List.mem_cons.1 hb with rfl | hb
      · decide
      · exact wO_clean 10 (.inr rfl) h3 b hb
/-- the last of the offices whose word w is, as the program looks for it -/
def offI (has : Bool) (w : List UInt8) (k : Nat) (o : Int) : Int := if has = true ∧ w = wO k then k else o
/-- the office as the program finds it -/
def lastO (has : Bool) (w : List UInt8) : Nat → Int
  | 0 => 0
  | k + 1 => offI has w (k + 1) (lastO has w k)
theorem lastO_no {w : List UInt8} : ∀ k, lastO false w k = 0
  | 0 => rfl
  | k + 1 => by rw [lastO, lastO_no k]; simp [offI]
theorem lastO_yes {o : Int} (h : 1 ≤ o ∧ o ≤ 3) : lastO true (wO o) 3 = o := by
  have : o = 1 ∨ o = 2 ∨ o = 3 := by omega
  rcases this with rfl | rfl | rfl <;> decide
theorem lastO_bd {has : Bool} {w : List UInt8} : ∀ k, k ≤ 3 → 0 ≤ lastO has w k ∧ lastO has w k ≤ 3
  | 0, _ => by simp [lastO]
  | k + 1, h => by
    have := lastO_bd (has := has) (w := w) k (by omega)
    unfold lastO offI
    split <;> omega
/-- what the program reads is the member whose line it is -/
theorem impl_found {s w0 w1 w2 : List UInt8} {has : Bool} {ws : List (List UInt8)} {n : Int} {q : M} (hs : splitOf s 32 = ws) (h0 : ws[0]? = some w0) (h1 : ws[1]? = some w1) (hh : has = decide (2 < ws.length)) (h2 : has = true → ws[2]? = some w2) (hn : Numeral w0 n ∨ ((∀ v, ¬ Numeral w0 v) ∧ n = 0)) (hq : P s q) : (⟨n, ⟨w1.toArray⟩, lastO has w2 3⟩ : M) = q := by
  obtain ⟨q1, rfl⟩ := hq
  by_cases a : q.off = 0
  · have s1 := split_zero q1 a
    rw [hs] at s1
    subst s1
    simp only [List.getElem?_cons_zero, List.getElem?_cons_succ, Option.some.injEq] at h0 h1
    subst h0 h1
    have e : has = false := by rw [hh]; rfl
    subst e
    rw [lastO_no]
    refine rec_ext ?_ (by simp) a.symm
    rcases hn with hn | ⟨hn, _⟩
    · exact hn.uniq (numeral q1)
    · exact absurd (numeral q1) (hn _)
  · have s1 := split_off q1 a
    rw [hs] at s1
    subst s1
    simp only [List.getElem?_cons_zero, List.getElem?_cons_succ, Option.some.injEq] at h0 h1
    subst h0 h1
    have e : has = true := by rw [hh]; rfl
    have h3 := h2 e
    simp only [List.getElem?_cons_zero, List.getElem?_cons_succ, Option.some.injEq] at h3
    subst h3 e
    rw [lastO_yes (by have := q1.2.1; omega)]
    refine rec_ext ?_ (by simp) rfl
    rcases hn with hn | ⟨hn, _⟩
    · exact hn.uniq (numeral q1)
    · exact absurd (numeral q1) (hn _)
theorem few_words {s : List UInt8} (h : ¬ 2 ≤ (splitOf s 32).length) : ∀ q, ¬ P s q := fun q hq => by
  obtain ⟨q1, rfl⟩ := hq
  by_cases a : q.off = 0
  · rw [split_zero q1 a] at h; simp at h
  · rw [split_off q1 a] at h; simp at h
/-- a piece is clean of what splits -/
theorem piece_clean {c : UInt8} (l : List UInt8) : ∀ y ∈ splitOf l c, ∀ b ∈ y, b ≠ c := by
  suffices h : ∀ r : List UInt8, (∀ y ∈ (spl r.reverse c).1, ∀ b ∈ y, b ≠ c) ∧ ∀ b ∈ (spl r.reverse c).2, b ≠ c by
    have := h l.reverse
    rw [List.reverse_reverse] at this
    intro y hy
    unfold splitOf at hy
    rcases List.mem_append.1 hy with hy | hy
    · exact this.1 y hy
    · rw [List.mem_singleton.1 hy]; exact this.2
  intro r
  induction r with
  | nil => exact ⟨(fun y hy => by cases hy), (fun b hb => by cases hb)⟩
  | cons b r ih =>
    rw [List.reverse_cons]
    by_cases hb : b = c
    · subst hb
      rw [spl_hit]
      refine ⟨fun y hy => ?_, (fun x hx => by cases hx)⟩
      rcases List.mem_append.1 hy with hy | hy
      · exact ih.1 y hy
      · rw [List.mem_singleton.1 hy]; exact ih.2
    · rw [spl_miss _ _ _ hb]
      refine ⟨ih.1, fun x hx => ?_⟩
      rcases List.mem_append.1 hx with hx | hx
      · exact ih.2 x hx
      · rw [List.mem_singleton.1 hx]; exact hb
/-- the office as the model finds it: the first under which the line is the member's -/
def firstO (n : Int) (nm : ByteArray) (l : List UInt8) : Int :=
  if ln ⟨n, nm, 1⟩ = l then 1 else if ln ⟨n, nm, 2⟩ = l then 2 else if ln ⟨n, nm, 3⟩ = l then 3 else 0
theorem firstO_at {n : Int} {nm : ByteArray} {l : List UInt8} {k : Nat} (hk : 1 ≤ k ∧ k ≤ 3) (h : ln ⟨n, nm, (k : Int)⟩ = l) (hb : ∀ o : Nat, 1 ≤ o → o < k → ln ⟨n, nm, (o : Int)⟩ ≠ l) : firstO n nm l = k := by
  have : k = 1 ∨ k = 2 ∨ k = 3 := by omega
  unfold firstO
  rcases this with rfl | rfl | rfl
  · have h1 : ln ⟨n, nm, (1 : Int)⟩ = l := h
    rw [if_pos h1]; rfl
  · have h1 : ¬ ln ⟨n, nm, (1 : Int)⟩ = l := hb 1 (by omega) (by omega)
    have h2 : ln ⟨n, nm, (2 : Int)⟩ = l := h
    rw [if_neg h1, if_pos h2]; rfl
  · have h1 : ¬ ln ⟨n, nm, (1 : Int)⟩ = l := hb 1 (by omega) (by omega)
    have h2 : ¬ ln ⟨n, nm, (2 : Int)⟩ = l := hb 2 (by omega) (by omega)
    have h3 : ln ⟨n, nm, (3 : Int)⟩ = l := h
    rw [if_neg h1, if_neg h2, if_pos h3]; rfl
theorem firstO_none {n : Int} {nm : ByteArray} {l : List UInt8} (hb : ∀ o : Nat, 1 ≤ o → o < 4 → ln ⟨n, nm, (o : Int)⟩ ≠ l) : firstO n nm l = 0 := by
  have h1 : ¬ ln ⟨n, nm, (1 : Int)⟩ = l := hb 1 (by omega) (by omega)
  have h2 : ¬ ln ⟨n, nm, (2 : Int)⟩ = l := hb 2 (by omega) (by omega)
  have h3 : ¬ ln ⟨n, nm, (3 : Int)⟩ = l := hb 3 (by omega) (by omega)
  unfold firstO
  rw [if_neg h1, if_neg h2, if_neg h3]
/-- a line, read as the model reads it -/
def RdS (l : List UInt8) (r : M) : Prop :=
  (∃ w0 w1, splitOf l 32 = [w0, w1] ∧ Numeral w0 r.num ∧ r.name = ⟨w1.toArray⟩ ∧ r.off = 0) ∨
  (∃ w0 w1 w2, splitOf l 32 = [w0, w1, w2] ∧ Numeral w0 r.num ∧ r.name = ⟨w1.toArray⟩ ∧ r.off = firstO r.num r.name l)
theorem rdS_uniq {l : List UInt8} {r r' : M} (h : RdS l r) (h' : RdS l r') : r = r' := by
  rcases h with ⟨a, b, e, n, m, o⟩ | ⟨a, b, c, e, n, m, o⟩ <;> rcases h' with ⟨a', b', e', n', m', o'⟩ | ⟨a', b', c', e', n', m', o'⟩
  · rw [e] at e'
    simp only [List.cons.injEq, and_true] at e'
    obtain ⟨rfl, rfl⟩ := e'
    exact rec_ext (n.uniq n') (m.trans m'.symm) (o.trans o'.symm)
  · rw [e] at e'; simp at e'
  · rw [e] at e'; simp at e'
  · rw [e] at e'
    simp only [List.cons.injEq, and_true] at e'
    obtain ⟨rfl, rfl, rfl⟩ := e'
    have h1 := n.uniq n'
    have h2 := m.trans m'.symm
    exact rec_ext h1 h2 (by rw [o, o', h1, h2])
theorem rdS_of {q : M} (h : Q q) : RdS (ln q) q := by
  by_cases a : q.off = 0
  · exact .inl ⟨_, _, split_zero h a, numeral h, by simp, a⟩
  · refine .inr ⟨_, _, _, split_off h a, numeral h, by simp, ?_⟩
    have ho := h.2.1
    have key : ∀ o : Int, 0 ≤ o ∧ o ≤ 3 → ln ⟨q.num, q.name, o⟩ = ln q → o = q.off := fun o h1 h2 => by
      have := p_uniq (l := ln q) (r := ⟨q.num, q.name, o⟩) (r' := q) ⟨⟨h.1, h1, h.2.2⟩, h2⟩ ⟨h, rfl⟩
      rw [← this]
    have self : ln ⟨q.num, q.name, q.off⟩ = ln q := rfl
    unfold firstO
    split
    · rename_i h1; exact (key 1 (by omega) h1).symm
    · split
      · rename_i h1; exact (key 2 (by omega) h1).symm
      · split
        · rename_i h1; exact (key 3 (by omega) h1).symm
        · rename_i h1 h2 h3
          exfalso
          have : q.off = 1 ∨ q.off = 2 ∨ q.off = 3 := by omega
          rcases this with e | e | e <;> rw [e] at self <;> first | exact h1 self | exact h2 self | exact h3 self
/-- the whole text -/
theorem fold_list : ∀ (xs : List M) (a : ByteArray), (xs.foldl (fun s r => s ++ lineM r ++ ⟨#[10]⟩) a).data.toList = a.data.toList ++ ended 10 (xs.map ln)
  | [], a => by simp [ended]
  | x :: xs, a => by
    rw [List.foldl_cons, fold_list xs, List.map_cons, ended_cons]
    simp [ln]
theorem text_list (xs : List M) : (textM xs).data.toList = ended 10 (xs.map ln) := by
  have := fold_list xs ⟨#[]⟩
  simpa [textM] using this
theorem text_split {xs : List M} (h : goodB xs = true) : splitOf (textM xs).data.toList 10 = xs.map ln ++ [[]] := by
  rw [text_list]
  refine split_ended 10 _ fun y hy b hb => ?_
  obtain ⟨x, hx, rfl⟩ := List.mem_map.1 hy
  exact ln_clean (all_ok h x hx) b hb
theorem reads_of {xs : List M} (h : goodB xs = true) : Reads P (xs.map ln) xs := ⟨by simp, fun i l r hl hr => by
  rw [List.getElem?_map, hr] at hl
  simp only [Option.map_some, Option.some.injEq] at hl
  exact ⟨ok_q (all_ok h r (List.mem_of_getElem? hr)), hl⟩⟩
theorem reads_S {xs : List M} (h : goodB xs = true) : Reads RdS (xs.map ln) xs := ⟨by simp, fun i l r hl hr => by
  rw [List.getElem?_map, hr] at hl
  simp only [Option.map_some, Option.some.injEq] at hl
  rw [← hl]
  exact rdS_of (ok_q (all_ok h r (List.mem_of_getElem? hr)))⟩
theorem ln_len {r : M} (h : okB r = true) : (ln r).length ≤ 32 := by
  obtain ⟨h1, h2, h3⟩ := ok_parts h
  have hw := word_size h2
  have e1 : (Lib.itoa r.num).length ≤ 2 := by
    unfold Lib.itoa
    rw [if_neg (by omega), Lib.decDigits_length]
    exact nDigits_le 2 _ (by omega) (by omega)
  have e2 : (offT r.off).size ≤ 12 := off_size _
  have e3 : (offT r.off).data.toList.length = (offT r.off).size := Array.length_toList
  have e4 : r.name.data.toList.length = r.name.size := Array.length_toList
  rw [ln_list, List.length_append, List.length_cons, List.length_append, e3, e4]
  omega
theorem size_le : ∀ xs : List M, (∀ x ∈ xs, okB x = true) → (ended 10 (xs.map ln)).length ≤ 33 * xs.length
  | [], _ => by simp [ended]
  | x :: xs, h => by
    have ih := size_le xs (fun y hy => h y (by simp [hy]))
    have := ln_len (h x (by simp))
    rw [List.map_cons, ended_cons, List.length_append, List.length_cons, List.length_cons]
    omega
def Ans (s : ByteArray) (r0 : List M) (r1 : Bool) : Prop :=
  (r1 = true ∧ goodB r0 = true ∧ textM r0 = s) ∨ ((r1 = false ∧ r0 = []) ∧ ∀ q : List M, goodB q = true → textM q ≠ s)
theorem found {s : ByteArray} {q : List M} (hg : goodB q = true) (ht : textM q = s) : s.size ≤ 400 ∧ splitOf s.data.toList 10 = q.map ln ++ [[]] := by
  subst ht
  have h8 := (good_of hg).1
  have h1 := size_le q (all_ok hg)
  rw [← text_list] at h1
  have e : (textM q).data.toList.length = (textM q).size := Array.length_toList
  rw [e] at h1
  exact ⟨by omega, text_split hg⟩
theorem text_inj {q q' : List M} (hg : goodB q = true) (hg' : goodB q' = true) (h : textM q = textM q') : q = q' := by
  have h1 := text_split hg
  have h2 := text_split hg'
  rw [h, h2] at h1
  have e := (List.append_inj' h1 rfl).1
  have r1 := reads_of hg
  have r2 := reads_of hg'
  rw [e] at r2
  exact reads_uniq (P := P) (fun _ _ _ a b => p_uniq a b) r1 r2
theorem same {s : ByteArray} {r0 s0 : List M} {r1 s1 : Bool} (h : Ans s r0 r1) (h' : Ans s s0 s1) : r0 = s0 ∧ r1 = s1 := by
  rcases h with ⟨rfl, g, t⟩ | ⟨⟨rfl, rfl⟩, n⟩ <;> rcases h' with ⟨rfl, g', t'⟩ | ⟨⟨rfl, rfl⟩, n'⟩
  · exact ⟨text_inj g g' (t.trans t'.symm), rfl⟩
  · exact absurd t (n' _ g)
  · exact absurd t' (n _ g')
  · exact ⟨rfl, rfl⟩
theorem len0 {s : ByteArray} {r0 : List M} {r1 : Bool} (h : Ans s r0 r1) : r0.length ≤ 1048576 := by
  rcases h with ⟨_, g, _⟩ | ⟨⟨_, rfl⟩, _⟩
  · have := (good_of g).1; omega
  · simp
theorem ans_none {s : ByteArray} (h : ∀ q : List M, goodB q = true → textM q ≠ s) : Ans s [] false := .inr ⟨⟨rfl, rfl⟩, h⟩
theorem ans_yes {s : ByteArray} {q : List M} (h : goodB q = true) (t : textM q = s) : Ans s q true := .inl ⟨rfl, h, t⟩
theorem lines_of {ls : List (List UInt8)} {xs : List M} (h : Reads P ls xs) : xs.map ln = ls := by
  apply List.ext_getElem?
  intro i
  rw [List.getElem?_map]
  rcases Nat.lt_or_ge i ls.length with hi | hi
  · have hx : i < xs.length := by rw [← h.1]; exact hi
    rw [List.getElem?_eq_getElem hx, List.getElem?_eq_getElem hi]
    exact congrArg some (h.2 i _ _ (List.getElem?_eq_getElem hi) (List.getElem?_eq_getElem hx)).2
  · rw [List.getElem?_eq_none (by rw [← h.1]; exact hi), List.getElem?_eq_none hi]; rfl
theorem text_of {s : ByteArray} {ls : List (List UInt8)} {xs : List M} (hs : splitOf s.data.toList 10 = ls ++ [[]]) (h : Reads P ls xs) : textM xs = s := by
  apply name_ext
  rw [text_list, lines_of h, ← unsplit hs]
theorem only {s : ByteArray} {ls : List (List UInt8)} {z : List UInt8} {xs : List M} (hs : splitOf s.data.toList 10 = ls ++ [z]) (hx : Reads RdS ls xs) (hn : ¬ (goodB xs = true ∧ textM xs = s)) : Ans s [] false :=
  ans_none fun q hg ht => by
    have h2 := (found hg ht).2
    rw [hs] at h2
    have e := (List.append_inj' h2 rfl).1
    have hr := reads_S hg
    rw [← e] at hr
    have := reads_uniq (P := RdS) (fun _ _ _ a b => rdS_uniq a b) hx hr
    subst this
    exact hn ⟨hg, ht⟩
theorem bad_line {s : ByteArray} {ls : List (List UInt8)} {z l : List UInt8} {k : Nat} (hs : splitOf s.data.toList 10 = ls ++ [z]) (hl : ls[k]? = some l) (hn : ∀ q, ¬ RdS l q) : Ans s [] false :=
  ans_none fun q hg ht => by
    have h2 := (found hg ht).2
    rw [hs] at h2
    have e := (List.append_inj' h2 rfl).1
    have hr := reads_S hg
    rw [← e] at hr
    obtain ⟨r, _, hp⟩ := reads_at hr hl
    exact hn r hp
end Go.Proofs.YtneecokjhmnagaaDoor.PMem
