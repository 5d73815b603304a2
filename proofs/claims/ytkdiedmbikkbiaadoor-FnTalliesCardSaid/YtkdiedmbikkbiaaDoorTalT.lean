/- The text of a tally: its words, and that it is read back. Plain mathematics. -/
import Derived.Test.YtkdiedmbikkbiaaDoorTal
import Derived.Test.YtkdiedmbikkbiaaDoorSplitCut
import Derived.Test.YtkdiedmbikkbiaaDoorRv
import Derived.Lib.Join
import Derived.Lib.ItoaLen
namespace Go.Proofs.YtkdiedmbikkbiaaDoor.TalT
open Go Go.RowKit Bs Tal SplitMath NumMath Rv
set_option linter.unusedVariables false
def num (n : Int) : ByteArray := ⟨(Lib.itoa n).toArray⟩
theorem num_list (n : Int) : (num n).data.toList = Lib.itoa n := rfl
theorem itoa_len (k : Nat) (n : Int) (h0 : 0 ≤ n) (hk : 1 ≤ k) (h1 : n.toNat < 10 ^ k) : (Lib.itoa n).length ≤ k := by
  have e : Lib.itoa n = Lib.decDigits n.toNat := by unfold Lib.itoa; rw [if_neg (by omega)]
  rw [e, Lib.decDigits_length]
  exact nDigits_le k _ hk h1
theorem num_size (n : Int) (h0 : 0 ≤ n) (h1 : n ≤ 1000) : (num n).size ≤ 4 := by
  have := itoa_len 4 n h0 (by omega) (by omega)
  show (Lib.itoa n).toArray.size ≤ 4
  simpa using this
def front (t : T) : ByteArray := num t.yes ++ ⟨#[32, 121, 101, 115, 44, 32]⟩ ++ num t.no ++ ⟨#[32, 110, 111]⟩
def tail (a : Int) : ByteArray := if 0 < a then ⟨#[44, 32]⟩ ++ num a ++ ⟨#[32, 97, 98, 115, 116, 97, 105, 110]⟩ else ⟨#[]⟩
def line (t : T) : ByteArray := front t ++ tail t.abstain
def wYes : List UInt8 := [121, 101, 115, 44]
def wNo : List UInt8 := [110, 111]
def wNoC : List UInt8 := [110, 111, 44]
def wAb : List UInt8 := [97, 98, 115, 116, 97, 105, 110]
def words (t : T) : List (List UInt8) := if 0 < t.abstain then [Lib.itoa t.yes, wYes, Lib.itoa t.no, wNoC, Lib.itoa t.abstain, wAb] else [Lib.itoa t.yes, wYes, Lib.itoa t.no, wNo]
theorem split_join (c : UInt8) : ∀ (r : List (List UInt8)) (x : List UInt8), (∀ y ∈ x :: r, ∀ b ∈ y, b ≠ c) → splitOf (x ++ Lib.joinTail [c] r) c = x :: r
  | [], x, h => by
    have e : x ++ Lib.joinTail [c] [] = x := by simp [Lib.joinTail]
    rw [e]
    exact splitOf_none x c (h x (by simp))
  | y :: r, x, h => by
    have e : x ++ Lib.joinTail [c] (y :: r) = x ++ c :: (y ++ Lib.joinTail [c] r) := by simp [Lib.joinTail]
    rw [e, splitOf_cut x _ c (h x (by simp)), split_join c r y (fun z hz => h z (by simp only [List.mem_cons] at hz ⊢; exact .inr hz))]
theorem itoa_clean (n : Int) (h : 0 ≤ n) : ∀ b ∈ Lib.itoa n, b ≠ 32 := by
  have e : Lib.itoa n = Lib.decDigits n.toNat := by unfold Lib.itoa; rw [if_neg (by omega)]
  rw [e]
  intro b hb
  have := dd_all _ b hb
  rintro rfl
  revert this
  decide
/-- the words of a valid tally's text -/
theorem split_line {t : T} (h : good t = true) : splitOf (line t).data.toList 32 = words t := by
  obtain ⟨⟨h1, _⟩, ⟨h2, _⟩, ⟨h3, _⟩⟩ := good_parts h
  have c1 := itoa_clean t.yes h1
  have c2 := itoa_clean t.no h2
  have c3 := itoa_clean t.abstain h3
  by_cases hp : 0 < t.abstain
  · have e : (line t).data.toList = Lib.itoa t.yes ++ Lib.joinTail [32] [wYes, Lib.itoa t.no, wNoC, Lib.itoa t.abstain, wAb] := by
      unfold line front tail
      rw [if_pos hp]
      simp [ByteArray.data_append, num_list, Lib.joinTail, wYes, wNoC, wAb]
    rw [e, split_join]
    · unfold words; rw [if_pos hp]
    · intro y hy
      simp only [List.mem_cons, List.not_mem_nil, or_false] at hy
      rcases hy with rfl | rfl | rfl | rfl | rfl | rfl
      · exact c1
      · decide
      · exact c2
      · decide
      · exact c3
      · decide
  · have e : (line t).data.toList = Lib.itoa t.yes ++ Lib.joinTail [32] [wYes, Lib.itoa t.no, wNo] := by
      unfold line front tail
      rw [if_neg hp]
      simp [ByteArray.data_append, num_list, Lib.joinTail, wYes, wNo]
    rw [e, split_join]
    · unfold words; rw [if_neg hp]
    · intro y hy
      simp only [List.mem_cons, List.not_mem_nil, or_false] at hy
      rcases hy with rfl | rfl | rfl | rfl
      · exact c1
      · decide
      · exact c2
      · decide
theorem front_size {t : T} (h : good t = true) : (front t).size ≤ 17 := by
  obtain ⟨⟨h1, h1'⟩, ⟨h2, h2'⟩, _⟩ := good_parts h
  have a1 := num_size t.yes h1 h1'
  have a2 := num_size t.no h2 h2'
  unfold front
  simp only [ByteArray.size_append]
  have z1 : (ByteArray.mk #[32, 121, 101, 115, 44, 32]).size = 6 := rfl
  have z2 : (ByteArray.mk #[32, 110, 111]).size = 3 := rfl
  omega
theorem tail_size (a : Int) (h : a ≤ 1000) : (tail a).size ≤ 14 := by
  unfold tail
  split
  · have := num_size a (by omega) h
    simp only [ByteArray.size_append]
    have z1 : (ByteArray.mk #[44, 32]).size = 2 := rfl
    have z2 : (ByteArray.mk #[32, 97, 98, 115, 116, 97, 105, 110]).size = 8 := rfl
    omega
  · decide
theorem line_size {t : T} (h : good t = true) : (line t).size ≤ 31 := by
  have h1 := front_size h
  have h2 := tail_size t.abstain (good_parts h).2.2.2
  unfold line
  rw [ByteArray.size_append]; omega
/-- what the words are read as -/
noncomputable def wd (ws : List (List UInt8)) (k : Nat) : List UInt8 := ws.getD k []
noncomputable def rd (ws : List (List UInt8)) : T := ⟨rv (wd ws 0), rv (wd ws 2), if 4 < ws.length then rv (wd ws 4) else 0⟩
theorem num_of (n : Int) (h : 0 ≤ n ∧ n ≤ 1000) : Numeral (Lib.itoa n) n := ⟨by omega, by omega, rfl⟩
/-- a valid tally's words are read as the tally -/
theorem rd_words {t : T} (h : good t = true) : rd (words t) = t ∧ ((words t).length = 4 ∨ (words t).length = 6) ∧ rb (wd (words t) 0) = true ∧ rb (wd (words t) 2) = true ∧ (4 < (words t).length → rb (wd (words t) 4) = true) := by
  obtain ⟨h1, h2, h3⟩ := good_parts h
  have n1 := rv_of (num_of t.yes h1)
  have n2 := rv_of (num_of t.no h2)
  have n3 := rv_of (num_of t.abstain h3)
  by_cases hp : 0 < t.abstain
  · have e : words t = [Lib.itoa t.yes, wYes, Lib.itoa t.no, wNoC, Lib.itoa t.abstain, wAb] := by unfold words; rw [if_pos hp]
    rw [e]
    refine ⟨?_, .inr rfl, n1.2, n2.2, fun _ => n3.2⟩
    unfold rd
    rw [if_pos (by simp)]
    show (⟨rv (Lib.itoa t.yes), rv (Lib.itoa t.no), rv (Lib.itoa t.abstain)⟩ : T) = t
    rw [n1.1, n2.1, n3.1]
  · have e : words t = [Lib.itoa t.yes, wYes, Lib.itoa t.no, wNo] := by unfold words; rw [if_neg hp]
    have hz : t.abstain = 0 := by omega
    rw [e]
    refine ⟨?_, .inl rfl, n1.2, n2.2, fun h => absurd h (by simp)⟩
    unfold rd
    rw [if_neg (by simp)]
    show (⟨rv (Lib.itoa t.yes), rv (Lib.itoa t.no), 0⟩ : T) = t
    rw [n1.1, n2.1, ← hz]
/-- The answer to a text: the valid tally whose text it is, or none. -/
def Ans (s : ByteArray) (r : T) (ok : Bool) : Prop := (ok = true ∧ good r = true ∧ line r = s) ∨ ((ok = false ∧ r = zero) ∧ ∀ q : T, good q = true → line q ≠ s)
theorem found {s : ByteArray} {q : T} (hq : good q = true) (hl : line q = s) : splitOf s.data.toList 32 = words q ∧ rd (splitOf s.data.toList 32) = q := by
  subst hl
  have e := split_line hq
  exact ⟨e, by rw [e]; exact (rd_words hq).1⟩
theorem same {s : ByteArray} {r r' : T} {o o' : Bool} (h : Ans s r o) (h' : Ans s r' o') : r = r' ∧ o = o' := by
  rcases h with ⟨h1, h2, h3⟩ | ⟨⟨h1, h2⟩, h3⟩ <;> rcases h' with ⟨g1, g2, g3⟩ | ⟨⟨g1, g2⟩, g3⟩
  · exact ⟨(found h2 h3).2.symm.trans (found g2 g3).2, by rw [h1, g1]⟩
  · exact absurd h3 (g3 _ h2)
  · exact absurd g3 (h3 _ g2)
  · exact ⟨by rw [h2, g2], by rw [h1, g1]⟩
theorem none_of {s : ByteArray} (h : ∀ q : T, good q = true → line q = s → False) : Ans s zero false := .inr ⟨⟨rfl, rfl⟩, fun q hq hl => h q hq hl⟩
theorem none_len {s : ByteArray} (h : 50 < s.size) : Ans s zero false := none_of fun q hq hl => by have := line_size hq; rw [hl] at this; omega
theorem none_words {s : ByteArray} {ws : List (List UInt8)} (hw : splitOf s.data.toList 32 = ws) (h : ¬ (ws.length = 4 ∨ ws.length = 6)) : Ans s zero false := none_of fun q hq hl => h (by rw [← hw, (found hq hl).1]; exact (rd_words hq).2.1)
theorem none_b0 {s : ByteArray} {ws : List (List UInt8)} (hw : splitOf s.data.toList 32 = ws) (h : rb (wd ws 0) = false) : Ans s zero false := none_of fun q hq hl => by rw [← hw, (found hq hl).1, (rd_words hq).2.2.1] at h; cases h
theorem none_b2 {s : ByteArray} {ws : List (List UInt8)} (hw : splitOf s.data.toList 32 = ws) (h : rb (wd ws 2) = false) : Ans s zero false := none_of fun q hq hl => by rw [← hw, (found hq hl).1, (rd_words hq).2.2.2.1] at h; cases h
theorem none_b4 {s : ByteArray} {ws : List (List UInt8)} (hw : splitOf s.data.toList 32 = ws) (hn : 4 < ws.length) (h : rb (wd ws 4) = false) : Ans s zero false := none_of fun q hq hl => by rw [← hw, (found hq hl).1] at h hn; rw [(rd_words hq).2.2.2.2 hn] at h; cases h
theorem none_good {s : ByteArray} {ws : List (List UInt8)} (hw : splitOf s.data.toList 32 = ws) (h : good (rd ws) = false) : Ans s zero false := none_of fun q hq hl => by rw [← hw, (found hq hl).2, hq] at h; cases h
theorem none_line {s : ByteArray} {ws : List (List UInt8)} (hw : splitOf s.data.toList 32 = ws) (h : line (rd ws) ≠ s) : Ans s zero false := none_of fun q hq hl => h (by rw [← hw, (found hq hl).2]; exact hl)
theorem yes_of {s : ByteArray} {r : T} (hg : good r = true) (h : line r = s) : Ans s r true := .inl ⟨rfl, hg, h⟩
/-- the text -/
def TAns (t : T) (r0 : ByteArray) (r1 : Bool) : Prop := (r0, r1) = if good t = true then (line t, true) else (⟨#[]⟩, false)
theorem tsame {t : T} {r0 s0 : ByteArray} {r1 s1 : Bool} (h1 : TAns t r0 r1) (h2 : TAns t s0 s1) : r0 = s0 ∧ r1 = s1 := by
  have h := h1.trans h2.symm
  exact ⟨congrArg Prod.fst h, congrArg Prod.snd h⟩
theorem tyes {t : T} (h : good t = true) : TAns t (line t) true := by unfold TAns; rw [if_pos h]
theorem tno {t : T} (h : good t = false) : TAns t ⟨#[]⟩ false := by unfold TAns; rw [h]; rfl
theorem app_nil (s : ByteArray) : s ++ (⟨#[]⟩ : ByteArray) = s := by apply ByteArray.ext; simp
theorem app_assoc (a b c : ByteArray) : a ++ b ++ c = a ++ (b ++ c) := ByteArray.append_assoc
end Go.Proofs.YtkdiedmbikkbiaaDoor.TalT
