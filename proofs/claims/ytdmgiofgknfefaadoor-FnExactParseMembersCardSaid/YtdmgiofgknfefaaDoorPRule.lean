/- What a rule's line says: read back word by word, as the program and as the model read it; no program. -/
import Derived.Test.YtdmgiofgknfefaaDoorLine
import Derived.Test.YtdmgiofgknfefaaDoorSplitCut
import Derived.Test.YtdmgiofgknfefaaDoorNumMath
import Derived.Lib.Join
namespace Go.Proofs.YtdmgiofgknfefaaDoor.PRule
open Go SplitMath NumMath
set_option linter.unusedVariables false

/-- words that are joined are split again -/
theorem split_join (c : UInt8) : ∀ (r : List (List UInt8)) (x : List UInt8), (∀ y ∈ x :: r, ∀ b ∈ y, b ≠ c) → splitOf (x ++ Lib.joinTail [c] r) c = x :: r
  | [], x, h => by
    have e : x ++ Lib.joinTail [c] [] = x := by simp [Lib.joinTail]
    rw [e]
    exact splitOf_none x c (h x (by simp))
  | y :: r, x, h => by
    have e : x ++ Lib.joinTail [c] (y :: r) = x ++ c :: (y ++ Lib.joinTail [c] r) := by simp [Lib.joinTail]
    rw [e, splitOf_cut x _ c (h x (by simp)), split_join c r y (fun z hz => h z (by simp only [List.mem_cons] at hz ⊢; exact .inr hz))]

def wSec : List UInt8 := [115, 101, 99, 111, 110, 100]
def wDeb : List UInt8 := [100, 101, 98, 97, 116, 101]
def wAm : List UInt8 := [97, 109, 101, 110, 100]
def wBy : List UInt8 := [98, 121]
def wRank : List UInt8 := [114, 97, 110, 107]
def wIf (b : Bool) (x : List UInt8) : List (List UInt8) := match b with
  | true => [x]
  | false => []
def wNeed (n : Int) : List UInt8 := (Valid.needS n).data.toList
/-- the words behind the rank -/
def traits (r : LRule.R) : List (List UInt8) := wIf r.sec wSec ++ (wIf r.deb wDeb ++ wIf r.am wAm)
def wordsR (r : LRule.R) : List (List UInt8) := Lib.itoa r.id :: r.name.data.toList :: wRank :: Lib.itoa r.rank :: (traits r ++ [wBy, wNeed r.need])

theorem num_list (n : Int) : (Line.num n).data.toList = Lib.itoa n := by unfold Line.num; rfl
theorem need_cases {r : LRule.R} (h : Rule.okB r = true) : r.need = 1 ∨ r.need = 2 ∨ r.need = 3 := by
  have := Line.ok_parts h
  omega
theorem line_join (r : LRule.R) : (Line.lineB r).data.toList = Lib.itoa r.id ++ Lib.joinTail [32] (r.name.data.toList :: wRank :: Lib.itoa r.rank :: (traits r ++ [wBy, wNeed r.need])) := by
  obtain ⟨i, nm, rk, s, d, a, nd⟩ := r
  cases s <;> cases d <;> cases a <;>
    simp [Line.lineB, Line.mid, Line.addIf, Line.front, ByteArray.data_append, num_list, traits, wIf, Lib.joinTail, wSec, wDeb, wAm, wBy, wRank, wNeed]
theorem itoa_clean (n : Int) (h : 0 ≤ n) : ∀ b ∈ Lib.itoa n, b ≠ 32 := by
  have e : Lib.itoa n = Lib.decDigits n.toNat := by unfold Lib.itoa; rw [if_neg (by omega)]
  rw [e]
  intro b hb
  have := dd_all _ b hb
  rintro rfl
  revert this
  decide
theorem word_clean {s : ByteArray} (h : Rule.isWordB s = true) : ∀ b ∈ s.data.toList, b ≠ 32 := by
  unfold Rule.isWordB at h
  simp only [Bool.and_eq_true] at h
  have h2 := h.2
  unfold Rule.allAz at h2
  rw [List.all_eq_true] at h2
  intro b hb
  have := h2 b hb
  rintro rfl
  revert this
  decide
theorem ok_word {r : LRule.R} (h : Rule.okB r = true) : Rule.isWordB r.name = true := (of_decide_eq_true h).2.1
theorem need_clean {n : Int} (h : n = 1 ∨ n = 2 ∨ n = 3) : ∀ b ∈ wNeed n, b ≠ 32 := by
  rcases h with rfl | rfl | rfl <;> decide
theorem traits_clean (r : LRule.R) : ∀ y ∈ traits r, ∀ b ∈ y, b ≠ 32 := by
  obtain ⟨i, nm, rk, s, d, a, nd⟩ := r
  cases s <;> cases d <;> cases a <;> (simp only [traits]; decide)
theorem words_clean {r : LRule.R} (h : Rule.okB r = true) : ∀ y ∈ wordsR r, ∀ b ∈ y, b ≠ 32 := by
  obtain ⟨h1, h2, h3, h4, h5, h6, h7⟩ := Line.ok_parts h
  intro y hy
  simp only [wordsR, List.mem_cons, List.mem_append, List.not_mem_nil, or_false] at hy
  rcases hy with rfl | rfl | rfl | rfl | hy | rfl | rfl
  · exact itoa_clean _ (by omega)
  · exact word_clean (ok_word h)
  · decide
  · exact itoa_clean _ (by omega)
  · exact traits_clean r y hy
  · decide
  · exact need_clean (need_cases h)
/-- the words of a valid rule's line -/
theorem split_line {r : LRule.R} (h : Rule.okB r = true) : splitOf (Line.lineB r).data.toList 32 = wordsR r := by
  rw [line_join]
  exact split_join 32 _ _ (words_clean h)

/-- one word behind the rank, as the program takes it -/
def needOf (w : List UInt8) (n : Int) : Int := if w = wNeed 3 then 3 else if w = wNeed 2 then 2 else if w = wNeed 1 then 1 else n
def trait (r : LRule.R) (w : List UInt8) : LRule.R :=
  if w = wSec then { r with sec := true } else if w = wDeb then { r with deb := true } else if w = wAm then { r with am := true } else r
def withT (r : LRule.R) (w : List UInt8) : LRule.R := { trait r w with need := needOf w (trait r w).need }
/-- the program's reading of the words behind the rank -/
def readF (i : Int) (nm : ByteArray) (rk : Int) (ws : List (List UInt8)) : LRule.R := ws.foldl withT ⟨i, nm, rk, false, false, false, 0⟩
/-- the model's reading of the traits; the last word tells the need -/
def readG (i : Int) (nm : ByteArray) (rk : Int) (ws : List (List UInt8)) (last : List UInt8) : LRule.R := ws.foldl trait ⟨i, nm, rk, false, false, false, needOf last 0⟩
theorem readF_words {r : LRule.R} (h : Rule.okB r = true) : readF r.id r.name r.rank ((wordsR r).drop 4) = r := by
  have hn := need_cases h
  obtain ⟨i, nm, rk, s, d, a, nd⟩ := r
  simp only at hn
  rcases hn with rfl | rfl | rfl <;> cases s <;> cases d <;> cases a <;> rfl
theorem len_words (r : LRule.R) : (wordsR r).length = 6 + (traits r).length ∧ (traits r).length ≤ 3 := by
  obtain ⟨i, nm, rk, s, d, a, nd⟩ := r
  cases s <;> cases d <;> cases a <;> exact ⟨rfl, by simp [traits, wIf]⟩
theorem readG_words {r : LRule.R} (h : Rule.okB r = true) : readG r.id r.name r.rank (((wordsR r).drop 4).take ((wordsR r).length - 6)) (wNeed r.need) = r := by
  have hn := need_cases h
  obtain ⟨i, nm, rk, s, d, a, nd⟩ := r
  simp only at hn
  rcases hn with rfl | rfl | rfl <;> cases s <;> cases d <;> cases a <;> rfl
theorem last_word (r : LRule.R) : (wordsR r)[(wordsR r).length - 1]? = some (wNeed r.need) := by
  obtain ⟨i, nm, rk, s, d, a, nd⟩ := r
  cases s <;> cases d <;> cases a <;> rfl
theorem num_id {r : LRule.R} (h : Rule.okB r = true) : Numeral (Lib.itoa r.id) r.id ∧ Numeral (Lib.itoa r.rank) r.rank := by
  obtain ⟨h1, h2, h3, h4, h5, h6, h7⟩ := Line.ok_parts h
  exact ⟨⟨by omega, by omega, rfl⟩, ⟨by omega, by omega, rfl⟩⟩
theorem itoa_len (k : Nat) (n : Int) (h0 : 0 ≤ n) (hk : 1 ≤ k) (h1 : n.toNat < 10 ^ k) : (Lib.itoa n).length ≤ k := by
  have e : Lib.itoa n = Lib.decDigits n.toNat := by unfold Lib.itoa; rw [if_neg (by omega)]
  rw [e, Lib.decDigits_length]
  exact nDigits_le k _ hk h1
/-- a valid rule's line is no longer than 54 bytes -/
theorem line_len {r : LRule.R} (h : Rule.okB r = true) : (Line.lineB r).size ≤ 54 := by
  obtain ⟨h1, h2, h3, h4, h5, h6, h7⟩ := Line.ok_parts h
  have hn := need_cases h
  obtain ⟨i, nm, rk, s, d, a, nd⟩ := r
  simp only at h1 h2 h3 h4 h5 hn
  have a1 : (Line.num i).size ≤ 2 := by
    have := itoa_len 2 i (by omega) (by omega) (by omega)
    show (Lib.itoa i).toArray.size ≤ 2
    simpa using this
  have a2 : (Line.num rk).size ≤ 1 := by
    have := itoa_len 1 rk (by omega) (by omega) (by omega)
    show (Lib.itoa rk).toArray.size ≤ 1
    simpa using this
  have z1 : (ByteArray.mk #[32]).size = 1 := rfl
  have z2 : (ByteArray.mk #[32, 114, 97, 110, 107, 32]).size = 6 := rfl
  have z3 : (ByteArray.mk #[32, 115, 101, 99, 111, 110, 100]).size = 7 := rfl
  have z4 : (ByteArray.mk #[32, 100, 101, 98, 97, 116, 101]).size = 7 := rfl
  have z5 : (ByteArray.mk #[32, 97, 109, 101, 110, 100]).size = 6 := rfl
  have z6 : (ByteArray.mk #[32, 98, 121, 32]).size = 4 := rfl
  have z7 : (Valid.needS nd).size ≤ 10 := by rcases hn with rfl | rfl | rfl <;> decide
  cases s <;> cases d <;> cases a <;>
    (simp only [Line.lineB, Line.mid, Line.addIf, Line.front, ByteArray.size_append]; omega)
/-- A text is the line of one valid rule at most. -/
theorem line_inj {r r' : LRule.R} (h : Rule.okB r = true) (h' : Rule.okB r' = true) (e : Line.lineB r = Line.lineB r') : r = r' := by
  have e2 := (split_line h).symm.trans ((congrArg (fun s : ByteArray => splitOf s.data.toList 32) e).trans (split_line h'))
  have f1 := readF_words h
  have f2 := readF_words h'
  have e3 : Lib.itoa r.id = Lib.itoa r'.id := congrArg (fun l => l.headD []) e2
  have e4 : r.name.data.toList = r'.name.data.toList := congrArg (fun l => (l.drop 1).headD []) e2
  have e5 : Lib.itoa r.rank = Lib.itoa r'.rank := congrArg (fun l => (l.drop 3).headD []) e2
  have i1 : r.id = r'.id := by have := (num_id h').1; rw [← e3] at this; exact (num_id h).1.uniq this
  have i2 : r.rank = r'.rank := by have := (num_id h').2; rw [← e5] at this; exact (num_id h).2.uniq this
  have i3 : r.name = r'.name := ByteArray.ext (Array.toList_inj.1 e4)
  rw [← f1, ← f2, i1, i2, i3, e2]
/-- The answer to a text: the valid rule whose line it is, or none. -/
def Ans (s : ByteArray) (r : LRule.R) (ok : Bool) : Prop :=
  (ok = true ∧ Rule.okB r = true ∧ Line.lineB r = s) ∨ ((ok = false ∧ r = ⟨0, ⟨#[]⟩, 0, false, false, false, 0⟩) ∧ ∀ q : LRule.R, Rule.okB q = true → Line.lineB q ≠ s)
theorem Ans.same {s : ByteArray} {r r' : LRule.R} {o o' : Bool} (h : Ans s r o) (h' : Ans s r' o') : r = r' ∧ o = o' := by
  rcases h with ⟨h1, h2, h3⟩ | ⟨⟨h1, h2⟩, h3⟩ <;> rcases h' with ⟨g1, g2, g3⟩ | ⟨⟨g1, g2⟩, g3⟩
  · exact ⟨line_inj h2 g2 (h3.trans g3.symm), by rw [h1, g1]⟩
  · exact absurd h3 (g3 _ h2)
  · exact absurd g3 (h3 _ g2)
  · exact ⟨by rw [h2, g2], by rw [h1, g1]⟩
/-- What a reading may go wrong with: it is then no valid rule's line. -/
theorem none_words {s : ByteArray} {ws : List (List UInt8)} (hw : splitOf s.data.toList 32 = ws) (h : ¬ (6 ≤ ws.length ∧ ws.length ≤ 9)) : ∀ q : LRule.R, Rule.okB q = true → Line.lineB q ≠ s := by
  rintro q hq rfl
  have := (split_line hq).symm.trans hw
  have hl := len_words q
  rw [this] at hl
  exact h (by omega)
theorem none_long {s : ByteArray} (h : 80 < s.size) : ∀ q : LRule.R, Rule.okB q = true → Line.lineB q ≠ s := by
  rintro q hq rfl
  have := line_len hq
  omega
theorem none_num {s : ByteArray} {ws : List (List UInt8)} {x y : List UInt8} (hw : splitOf s.data.toList 32 = ws) (hx : ws[0]? = some x) (hy : ws[3]? = some y) (h : (∀ v, ¬ Numeral x v) ∨ (∀ v, ¬ Numeral y v)) : ∀ q : LRule.R, Rule.okB q = true → Line.lineB q ≠ s := by
  rintro q hq rfl
  have e := (split_line hq).symm.trans hw
  rw [← e] at hx hy
  have e1 : Lib.itoa q.id = x := Option.some.inj hx
  have e2 : Lib.itoa q.rank = y := Option.some.inj hy
  have := num_id hq
  rcases h with h | h
  · exact h q.id (e1 ▸ this.1)
  · exact h q.rank (e2 ▸ this.2)
/-- The program's reading of a text finds the rule whose line it is. -/
theorem impl_found {s : ByteArray} {q : LRule.R} {i rk : Int} {nm : ByteArray} {x z y : List UInt8} {u : List (List UInt8)} (hw : splitOf s.data.toList 32 = x :: nm.data.toList :: z :: y :: u) (hi : Numeral x i ∨ ((∀ v, ¬ Numeral x v) ∧ i = 0)) (hr : Numeral y rk ∨ ((∀ v, ¬ Numeral y v) ∧ rk = 0)) (hq : Rule.okB q = true) (hl : Line.lineB q = s) : readF i nm rk u = q := by
  subst hl
  have e := (split_line hq).symm.trans hw
  simp only [wordsR, List.cons.injEq] at e
  obtain ⟨e1, e2, _, e4, e5⟩ := e
  have hn := num_id hq
  have i1 : i = q.id := by
    rcases hi with hi | ⟨hi, _⟩
    · rw [← e1] at hi; exact hi.uniq hn.1
    · exact absurd (e1 ▸ hn.1) (hi _)
  have i2 : rk = q.rank := by
    rcases hr with hr | ⟨hr, _⟩
    · rw [← e4] at hr; exact hr.uniq hn.2
    · exact absurd (e4 ▸ hn.2) (hr _)
  have i3 : nm = q.name := ByteArray.ext (Array.toList_inj.1 e2.symm)
  have f := readF_words hq
  have d : (wordsR q).drop 4 = u := e5
  rw [d] at f
  rw [i1, i2, i3, f]
theorem spec_found {s : ByteArray} {q : LRule.R} {i rk : Int} {nm : ByteArray} {x y last : List UInt8} {ws : List (List UInt8)} (hw : splitOf s.data.toList 32 = ws) (h0 : ws[0]? = some x) (h1 : ws[1]? = some nm.data.toList) (h3 : ws[3]? = some y) (hz : ws[ws.length - 1]? = some last) (hi : Numeral x i) (hr : Numeral y rk) (hq : Rule.okB q = true) (hl : Line.lineB q = s) : readG i nm rk ((ws.drop 4).take (ws.length - 6)) last = q := by
  subst hl
  have e := (split_line hq).symm.trans hw
  subst e
  have hn := num_id hq
  have e1 : Lib.itoa q.id = x := Option.some.inj h0
  have e2 : q.name.data.toList = nm.data.toList := Option.some.inj h1
  have e4 : Lib.itoa q.rank = y := Option.some.inj h3
  have e5 : wNeed q.need = last := Option.some.inj ((last_word q).symm.trans hz)
  have i1 : i = q.id := by rw [← e1] at hi; exact hi.uniq hn.1
  have i2 : rk = q.rank := by rw [← e4] at hr; exact hr.uniq hn.2
  have i3 : nm = q.name := ByteArray.ext (Array.toList_inj.1 e2.symm)
  have f := readG_words hq
  rw [e5] at f
  rw [i1, i2, i3, f]
/-- Closing lemma of both: what was read is a valid rule with this line, or there is none. -/
theorem ans_yes {s : ByteArray} {r : LRule.R} (h : Rule.okB r = true) (hl : Line.lineB r = s) : Ans s r true := .inl ⟨rfl, h, hl⟩
theorem ans_no {s : ByteArray} {r : LRule.R} (hf : ∀ q : LRule.R, Rule.okB q = true → Line.lineB q = s → r = q) (h : ¬ (Rule.okB r = true ∧ Line.lineB r = s)) : Ans s ⟨0, ⟨#[]⟩, 0, false, false, false, 0⟩ false :=
  .inr ⟨⟨rfl, rfl⟩, fun q hq hl => h (by rw [hf q hq hl]; exact ⟨hq, hl⟩)⟩
theorem ans_none {s : ByteArray} (h : ∀ q : LRule.R, Rule.okB q = true → Line.lineB q ≠ s) : Ans s ⟨0, ⟨#[]⟩, 0, false, false, false, 0⟩ false := .inr ⟨⟨rfl, rfl⟩, h⟩
end Go.Proofs.YtdmgiofgknfefaaDoor.PRule
