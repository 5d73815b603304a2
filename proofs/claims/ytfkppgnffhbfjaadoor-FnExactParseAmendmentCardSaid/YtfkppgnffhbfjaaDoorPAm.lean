/- What an amendment's line says: split as the model reads it (PAm), cut as the program reads it (PAmQ); no program. -/
import Derived.Test.YtfkppgnffhbfjaaDoorAmL
import Derived.Test.YtfkppgnffhbfjaaDoorSplitCut
import Derived.Test.YtfkppgnffhbfjaaDoorNumMath
import Derived.Lib.Join
import Derived.Lib.IndexMore
import Derived.Lib.IndexLaws
namespace Go.Proofs.YtfkppgnffhbfjaaDoor.PAm
open Go SplitMath NumMath Am AmL
set_option linter.unusedVariables false

/-- words that are joined are split again -/
theorem split_join (c : UInt8) : ∀ (r : List (List UInt8)) (x : List UInt8), (∀ y ∈ x :: r, ∀ b ∈ y, b ≠ c) → splitOf (x ++ Lib.joinTail [c] r) c = x :: r
  | [], x, h => by
    have e : x ++ Lib.joinTail [c] [] = x := by simp [Lib.joinTail]
    rw [e]
    exact splitOf_none x c (h x (by simp))
  | y :: r, x, h => by
    have e : x ++ Lib.joinTail [c] (y :: r) = x ++ c :: (y ++ Lib.joinTail [c] r) := by simp [Lib.joinTail]
    rw [e, splitOf_cut x _ c (h x (by simp)), split_join c r y (fun z hz => h z (by simp only [List.mem_cons] at hz ⊢; exact .inr hz))]

/-- bytes of a numeral that is not negative -/
theorem itoa_digits (n : Int) (h : 0 ≤ n) : ∀ b ∈ Lib.itoa n, isD b = true := by
  have e : Lib.itoa n = Lib.decDigits n.toNat := by unfold Lib.itoa; rw [if_neg (by omega)]
  rw [e]
  exact dd_all _
theorem digit_ne {b c : UInt8} (h : isD b = true) (hc : isD c = false) : b ≠ c := by rintro rfl; rw [h] at hc; cases hc
theorem word_ne {s : ByteArray} (h : Word.isWordB s = true) (c : UInt8) (hc : Word.az c = false) : ∀ b ∈ s.data.toList, b ≠ c := by
  unfold Word.isWordB at h
  simp only [Bool.and_eq_true] at h
  have h2 := h.2
  unfold Word.allAz at h2
  rw [List.all_eq_true] at h2
  intro b hb
  have := h2 b hb
  rintro rfl
  rw [this] at hc; cases hc
/-- an amendment's verb, count, place, words, as lists of bytes -/
def vb (a : M) : List UInt8 := (verb a.kind).data.toList
def at2 : List UInt8 := [97, 116]
def cw (a : M) : List (List UInt8) := if 0 < a.count then [Lib.itoa a.count] else []
/-- the words of the front -/
def fw (a : M) : List (List UInt8) := vb a :: (cw a ++ [at2, Lib.itoa a.pos])
def fr (a : M) : List UInt8 := vb a ++ Lib.joinTail [32] (cw a ++ [at2, Lib.itoa a.pos])
def tl (a : M) : List UInt8 := if a.words.length = 0 then [] else 58 :: Lib.joinTail [32] (L a.words)
theorem num_list (n : Int) : (num n).data.toList = Lib.itoa n := by unfold num; rfl
theorem front_list (a : M) : (front a).data.toList = fr a := by
  unfold front fr cw vb cntT
  by_cases h : 0 < a.count
  · rw [if_pos h, if_pos h]
    simp [ByteArray.data_append, num_list, Lib.joinTail, sp, sAt, at2]
  · rw [if_neg h, if_neg h]
    simp [ByteArray.data_append, num_list, Lib.joinTail, sAt, at2]
theorem jn_list (xs : T) (h : xs.length ≠ 0) : 32 :: (jn xs).data.toList = Lib.joinTail [32] (L xs) := by
  cases xs with
  | nil => exact absurd rfl h
  | cons x r =>
    unfold jn L
    rw [List.map_cons, Lib.join_cons]
    simp [Lib.joinTail]
theorem line_list (a : M) : (line a).data.toList = fr a ++ tl a := by
  unfold line tl
  rw [ByteArray.data_append, Array.toList_append, front_list]
  by_cases h : a.words.length = 0
  · rw [if_pos h, tail_none _ h]
  · rw [if_neg h, tail_all _ h, ByteArray.data_append, Array.toList_append, ← jn_list _ h]
    rfl
theorem kind3 {a : M} (h : good a = true) : a.kind = 1 ∨ a.kind = 2 ∨ a.kind = 3 := by
  obtain ⟨_, _, h, _⟩ := good_parts h
  rcases kind_cases h with h | h | h
  · exact .inl h.1
  · exact .inr (.inl h.1)
  · exact .inr (.inr h.1)
theorem vb_low {a : M} (h : good a = true) : ∀ b ∈ vb a, b ≠ 32 ∧ b ≠ 58 := by
  unfold vb
  rcases kind3 h with e | e | e <;> rw [e] <;> decide
theorem fw_low {a : M} (h : good a = true) : ∀ y ∈ fw a, ∀ b ∈ y, b ≠ 32 ∧ b ≠ 58 := by
  obtain ⟨⟨p1, p2⟩, _, _, c1, c2⟩ := good_parts h
  intro y hy
  simp only [fw, cw, List.mem_cons, List.mem_append, List.not_mem_nil, or_false] at hy
  rcases hy with rfl | hy | rfl | rfl
  · exact vb_low h
  · split at hy
    · simp only [List.mem_singleton] at hy
      subst hy
      exact fun b hb => ⟨digit_ne (itoa_digits _ c1 b hb) (by decide), digit_ne (itoa_digits _ c1 b hb) (by decide)⟩
    · cases hy
  · decide
  · exact fun b hb => ⟨digit_ne (itoa_digits _ p1 b hb) (by decide), digit_ne (itoa_digits _ p1 b hb) (by decide)⟩
theorem split_front {a : M} (h : good a = true) : splitOf (fr a) 32 = fw a := split_join 32 _ _ fun y hy b hb => (fw_low h y hy b hb).1
theorem joinTail_low {c : UInt8} (h : c ≠ 32) : ∀ r : List (List UInt8), (∀ y ∈ r, ∀ b ∈ y, b ≠ c) → ∀ b ∈ Lib.joinTail [32] r, b ≠ c
  | [], _, b, hb => by simp [Lib.joinTail] at hb
  | y :: r, hr, b, hb => by
    have e : Lib.joinTail [32] (y :: r) = 32 :: (y ++ Lib.joinTail [32] r) := by simp [Lib.joinTail]
    rw [e, List.mem_cons, List.mem_append] at hb
    rcases hb with rfl | hb | hb
    · exact fun e => h e.symm
    · exact hr y (by simp) b hb
    · exact joinTail_low h r (fun z hz => hr z (by simp [hz])) b hb
theorem fr_low {a : M} (h : good a = true) : ∀ b ∈ fr a, b ≠ 58 := by
  intro b hb
  unfold fr at hb
  rw [List.mem_append] at hb
  rcases hb with hb | hb
  · exact (vb_low h b hb).2
  · exact joinTail_low (by decide) _ (fun y hy b hb => (fw_low h y (by unfold fw; exact List.mem_cons_of_mem _ hy) b hb).2) b hb
theorem L_low {a : M} (h : good a = true) (c : UInt8) (hc : Word.az c = false) : ∀ y ∈ L a.words, ∀ b ∈ y, b ≠ c := by
  intro y hy
  unfold L at hy
  obtain ⟨x, hx, rfl⟩ := List.mem_map.1 hy
  exact word_ne (words_all (good_parts h).2.1 x hx) c hc
/-- the halves of a valid amendment's line -/
def halves (a : M) : List (List UInt8) := if a.words.length = 0 then [fr a] else [fr a, Lib.joinTail [32] (L a.words)]
theorem split_line {a : M} (h : good a = true) : splitOf (line a).data.toList 58 = halves a := by
  rw [line_list]
  unfold halves tl
  by_cases hw : a.words.length = 0
  · rw [if_pos hw, if_pos hw, List.append_nil]
    exact splitOf_none _ _ (fr_low h)
  · rw [if_neg hw, if_neg hw, splitOf_cut _ _ _ (fr_low h)]
    rw [splitOf_none _ _ (joinTail_low (by decide) _ (L_low h 58 (by decide)))]
/-- what stands behind the colon, split at spaces -/
theorem split_tail {a : M} (h : good a = true) : splitOf (Lib.joinTail [32] (L a.words)) 32 = [] :: L a.words := by
  have := split_join 32 (L a.words) [] (fun y hy => by
    rcases List.mem_cons.1 hy with rfl | hy
    · intro b hb; cases hb
    · exact L_low h 32 (by decide) y hy)
  simpa using this
theorem mk_self {a : M} (h : good a = true) : mkKind a.pos a.count a.words = a := by
  obtain ⟨_, _, hk, _⟩ := good_parts h
  obtain ⟨k, p, c, ws⟩ := a
  simp only at hk ⊢
  rcases kind_cases hk with ⟨rfl, rfl, h3⟩ | ⟨rfl, h2, h3⟩ | ⟨rfl, h2, h3⟩
  · rfl
  · unfold mkKind; rw [if_neg (by omega), if_pos h3]
  · unfold mkKind; rw [if_neg (by omega), if_neg (by omega)]
theorem itoa_len (k : Nat) (n : Int) (h0 : 0 ≤ n) (hk : 1 ≤ k) (h1 : n.toNat < 10 ^ k) : (Lib.itoa n).length ≤ k := by
  have e : Lib.itoa n = Lib.decDigits n.toNat := by unfold Lib.itoa; rw [if_neg (by omega)]
  rw [e, Lib.decDigits_length]
  exact nDigits_le k _ hk h1
/-- a valid amendment's line is no longer than 71 bytes -/
theorem line_len {a : M} (h : good a = true) : (line a).size ≤ 71 := by
  obtain ⟨⟨p1, p2⟩, hw, _, c1, c2⟩ := good_parts h
  have a1 : (num a.count).size ≤ 1 := by
    have := itoa_len 1 a.count (by omega) (by omega) (by omega)
    show (Lib.itoa a.count).toArray.size ≤ 1
    simpa using this
  have a2 : (num a.pos).size ≤ 2 := by
    have := itoa_len 2 a.pos (by omega) (by omega) (by omega)
    show (Lib.itoa a.pos).toArray.size ≤ 2
    simpa using this
  have a3 : (cntT a.count).size ≤ 2 := by
    unfold cntT
    split
    · rw [ByteArray.size_append, show sp.size = 1 from rfl]; omega
    · decide
  have a4 := verb_size a.kind
  have a5 := tail_size a.words (words_size hw) a.words.length (Nat.le_refl _)
  have a6 := words_len hw
  have z : sAt.size = 4 := rfl
  unfold line front
  simp only [ByteArray.size_append]
  omega
/-- a line of any valid amendment: its pieces, as the model takes them -/
theorem m_found {s : ByteArray} {q : M} (hq : good q = true) (hl : line q = s) : s.size ≤ 71 ∧ splitOf s.data.toList 58 = halves q := by
  subst hl
  exact ⟨line_len hq, split_line hq⟩
theorem halves_zero (q : M) : (halves q)[0]? = some (fr q) := by unfold halves; split <;> rfl
theorem halves_len (q : M) : (halves q).length ≤ 2 := by unfold halves; split <;> simp
theorem fw_len (q : M) : (fw q).length = if 0 < q.count then 4 else 3 := by unfold fw cw; split <;> rfl
theorem fw_cnt {q : M} (h : 0 < q.count) : (fw q)[1]? = some (Lib.itoa q.count) := by unfold fw cw; rw [if_pos h]; rfl
theorem fw_pos (q : M) : (fw q)[(fw q).length - 1]? = some (Lib.itoa q.pos) := by unfold fw cw; split <;> rfl
def bs (l : List (List UInt8)) : T := l.map fun x => ⟨x.toArray⟩
theorem bs_L (xs : T) : bs (L xs) = xs := by unfold bs L; rw [List.map_map]; simp [Function.comp_def]
/-- the words behind the colon -/
def phrase (H : List (List UInt8)) : T := match H[1]? with
  | none => []
  | some y => bs ((splitOf y 32).drop 1)
theorem phrase_found {q : M} (h : good q = true) : phrase (halves q) = q.words := by
  unfold halves
  by_cases hw : q.words.length = 0
  · rw [if_pos hw]
    exact (List.length_eq_zero_iff.1 hw).symm
  · rw [if_neg hw]
    show bs ((splitOf (Lib.joinTail [32] (L q.words)) 32).drop 1) = q.words
    rw [split_tail h]
    exact bs_L _
theorem num_pos {q : M} (h : good q = true) : Numeral (Lib.itoa q.pos) q.pos ∧ Numeral (Lib.itoa q.count) q.count := by
  obtain ⟨⟨p1, p2⟩, _, _, c1, c2⟩ := good_parts h
  exact ⟨⟨by omega, by omega, rfl⟩, ⟨by omega, by omega, rfl⟩⟩
/-- An amendment is found by its line. -/
theorem line_inj {q r : M} (hq : good q = true) (hr : good r = true) (e : line q = line r) : q = r := by
  have e1 : halves q = halves r := (split_line hq).symm.trans ((congrArg (fun s : ByteArray => splitOf s.data.toList 58) e).trans (split_line hr))
  have e2 : q.words = r.words := by rw [← phrase_found hq, e1, phrase_found hr]
  have e3 : fr q = fr r := by
    have := (halves_zero q).symm.trans ((congrArg (fun l : List (List UInt8) => l[0]?) e1).trans (halves_zero r))
    exact Option.some.inj this
  have e4 : fw q = fw r := by rw [← split_front hq, e3, split_front hr]
  have e5 : q.pos = r.pos := by
    have := (fw_pos q).symm.trans ((congrArg (fun l : List (List UInt8) => l[l.length - 1]?) e4).trans (fw_pos r))
    have h2 := (num_pos hr).1
    rw [← Option.some.inj this] at h2
    exact (num_pos hq).1.uniq h2
  have e6 : q.count = r.count := by
    have hl := congrArg List.length e4
    rw [fw_len, fw_len] at hl
    obtain ⟨_, _, _, c1, c2⟩ := good_parts hq
    obtain ⟨_, _, _, d1, d2⟩ := good_parts hr
    by_cases h1 : 0 < q.count
    · by_cases h2 : 0 < r.count
      · have := (fw_cnt h1).symm.trans ((congrArg (fun l : List (List UInt8) => l[1]?) e4).trans (fw_cnt h2))
        have h3 := (num_pos hr).2
        rw [← Option.some.inj this] at h3
        exact (num_pos hq).2.uniq h3
      · rw [if_pos h1, if_neg h2] at hl; omega
    · by_cases h2 : 0 < r.count
      · rw [if_neg h1, if_pos h2] at hl; omega
      · omega
  rw [← mk_self hq, ← mk_self hr, e5, e6, e2]
/-- The answer to a text: the valid amendment whose line it is, or none. -/
def Ans (s : ByteArray) (r : M) (ok : Bool) : Prop :=
  (ok = true ∧ good r = true ∧ line r = s) ∨ ((ok = false ∧ r = zeroM) ∧ ∀ q : M, good q = true → line q ≠ s)
theorem Ans.same {s : ByteArray} {r r' : M} {o o' : Bool} (h : Ans s r o) (h' : Ans s r' o') : r = r' ∧ o = o' := by
  rcases h with ⟨h1, h2, h3⟩ | ⟨⟨h1, h2⟩, h3⟩ <;> rcases h' with ⟨g1, g2, g3⟩ | ⟨⟨g1, g2⟩, g3⟩
  · exact ⟨line_inj h2 g2 (h3.trans g3.symm), by rw [h1, g1]⟩
  · exact absurd h3 (g3 _ h2)
  · exact absurd g3 (h3 _ g2)
  · exact ⟨by rw [h2, g2], by rw [h1, g1]⟩
theorem ans_yes {s : ByteArray} {r : M} (h : good r = true) (hl : line r = s) : Ans s r true := .inl ⟨rfl, h, hl⟩
theorem ans_no {s : ByteArray} {r : M} (hf : ∀ q : M, good q = true → line q = s → r = q) (h : ¬ (good r = true ∧ line r = s)) : Ans s zeroM false :=
  .inr ⟨⟨rfl, rfl⟩, fun q hq hl => h (by rw [hf q hq hl]; exact ⟨hq, hl⟩)⟩
theorem ans_none {s : ByteArray} (h : ∀ q : M, good q = true → line q ≠ s) : Ans s zeroM false := .inr ⟨⟨rfl, rfl⟩, h⟩
/-- too long, too many halves, too many words -/
theorem none_bail {s : ByteArray} {x0 : List UInt8} (h0 : (splitOf s.data.toList 58)[0]? = some x0) (h : 100 < s.size ∨ 2 < (splitOf s.data.toList 58).length ∨ ((splitOf x0 32).length ≠ 3 ∧ (splitOf x0 32).length ≠ 4)) : ∀ q : M, good q = true → line q ≠ s := by
  intro q hq hl
  obtain ⟨m1, m2⟩ := m_found hq hl
  rw [m2] at h h0
  have e0 : x0 = fr q := Option.some.inj (h0.symm.trans (halves_zero q))
  rw [e0, split_front hq, fw_len] at h
  have := halves_len q
  rcases h with h | h | h
  · omega
  · omega
  · split at h <;> omega
/-- the model's reading gives the amendment whose line it is -/
theorem spec_found {s : ByteArray} {q : M} {x0 y z : List UInt8} {c p : Int} (h0 : (splitOf s.data.toList 58)[0]? = some x0) (hc : ((splitOf x0 32).length = 4 ∧ (splitOf x0 32)[1]? = some y ∧ (Numeral y c ∨ ((∀ v, ¬ Numeral y v) ∧ c = 0))) ∨ ((splitOf x0 32).length = 3 ∧ c = 0))
    (hz : (splitOf x0 32)[(splitOf x0 32).length - 1]? = some z) (hp : Numeral z p ∨ ((∀ v, ¬ Numeral z v) ∧ p = 0)) (hq : good q = true) (hl : line q = s) :
    mkKind p c (phrase (splitOf s.data.toList 58)) = q ∧ Numeral z p ∧ ((splitOf x0 32).length = 4 → Numeral y c) := by
  obtain ⟨m1, m2⟩ := m_found hq hl
  rw [m2] at h0 ⊢
  have e0 : x0 = fr q := Option.some.inj (h0.symm.trans (halves_zero q))
  rw [e0, split_front hq] at hc hz ⊢
  obtain ⟨n1, n2⟩ := num_pos hq
  have ez : z = Lib.itoa q.pos := Option.some.inj (hz.symm.trans (fw_pos q))
  have hP : Numeral z p := by
    rcases hp with hp | ⟨hp, _⟩
    · exact hp
    · exact absurd (ez ▸ n1) (hp _)
  have ep : p = q.pos := by rw [ez] at hP; exact hP.uniq n1
  obtain ⟨_, _, _, c1, c2⟩ := good_parts hq
  rw [fw_len] at hc ⊢
  rcases hc with ⟨h4, hy, hC⟩ | ⟨h3, hC⟩
  · have h5 : 0 < q.count := by
      rcases Int.lt_or_le 0 q.count with h | h
      · exact h
      · rw [if_neg (by omega)] at h4; omega
    have ey : y = Lib.itoa q.count := Option.some.inj (hy.symm.trans (fw_cnt h5))
    have hN : Numeral y c := by
      rcases hC with hC | ⟨hC, _⟩
      · exact hC
      · exact absurd (ey ▸ n2) (hC _)
    have ec : c = q.count := by rw [ey] at hN; exact hN.uniq n2
    exact ⟨by rw [ep, ec, phrase_found hq, mk_self hq], hP, fun _ => hN⟩
  · have h5 : ¬ 0 < q.count := by
      intro h
      rw [if_pos h] at h3; omega
    have ec : c = q.count := by omega
    exact ⟨by rw [ep, ec, phrase_found hq, mk_self hq], hP, fun h => by omega⟩
end Go.Proofs.YtfkppgnffhbfjaaDoor.PAm
namespace Go.Proofs.YtfkppgnffhbfjaaDoor.PAmQ
open Go SplitMath NumMath Am AmL PAm
set_option linter.unusedVariables false
def sepC : List UInt8 := [58, 32]
def sepA : List UInt8 := [32, 97, 116, 32]
theorem cut_of {x y sep : List UInt8} (h : ∀ j, j < x.length → Lib.occAt (x ++ (sep ++ y)) sep j = false) : Lib.cut (x ++ (sep ++ y)) sep = (x, y, true) := by
  have hi : Lib.index (x ++ (sep ++ y)) sep = x.length := Lib.index_first (by simp) (by simp [Lib.occAt]) h
  unfold Lib.cut
  rw [hi, if_pos (by omega)]
  have e1 : ((x.length : Int)).toNat = x.length := by omega
  rw [e1]
  simp [List.drop_append]
theorem cut_at {x y t : List UInt8} {c : UInt8} (h : ∀ b ∈ x, b ≠ c) : Lib.cut (x ++ ((c :: t) ++ y)) (c :: t) = (x, y, true) := cut_of fun j hj => by
  cases ho : Lib.occAt (x ++ ((c :: t) ++ y)) (c :: t) j with
  | false => rfl
  | true =>
    have h1 := Lib.occAt_head rfl ho
    rw [List.getElem?_append_left hj] at h1
    exact absurd rfl (h c (List.mem_of_getElem? h1))
theorem cut_none {x t : List UInt8} {c : UInt8} (h : ∀ b ∈ x, b ≠ c) : Lib.cut x (c :: t) = (x, [], false) := by
  have hi : Lib.index x (c :: t) = -1 := Lib.index_none fun j hj => by
    cases ho : Lib.occAt x (c :: t) j with
    | false => rfl
    | true => exact absurd rfl (h c (List.mem_of_getElem? (Lib.occAt_head rfl ho)))
  unfold Lib.cut
  rw [hi, if_neg (by decide)]
/-- a verb and a count, then the place: the first mark is the place's -/
theorem cut_mark {v d y : List UInt8} (hv : ∀ b ∈ v, b ≠ 32) (hd : d = [] ∨ ∃ g, d = 32 :: g ∧ g ≠ [] ∧ ∀ b ∈ g, b ≠ 32 ∧ b ≠ 97) : Lib.cut ((v ++ d) ++ (sepA ++ y)) sepA = (v ++ d, y, true) := cut_of fun j hj => by
  cases ho : Lib.occAt ((v ++ d) ++ (sepA ++ y)) sepA j with
  | false => rfl
  | true =>
    have h1 := Lib.occAt_head (c := 32) (t := [97, 116, 32]) rfl ho
    have h2 := Lib.occAt_second (c0 := 32) (c1 := 97) (t := [116, 32]) rfl ho
    rcases Nat.lt_or_ge j v.length with hjv | hjv
    · rw [List.getElem?_append_left hj, List.getElem?_append_left hjv] at h1
      exact absurd rfl (hv 32 (List.mem_of_getElem? h1))
    · rcases hd with rfl | ⟨g, rfl, hg, hn⟩
      · simp at hj; omega
      · rw [List.getElem?_append_left hj, List.getElem?_append_right hjv] at h1
        obtain ⟨i, hi⟩ : ∃ i, i = j - v.length := ⟨_, rfl⟩
        rw [← hi] at h1
        have hgl : 0 < g.length := List.length_pos_iff.2 hg
        rcases Nat.eq_zero_or_pos i with h0 | h0
        · rw [List.getElem?_append_left (by simp; omega), List.getElem?_append_right (by omega)] at h2
          have e : j + 1 - v.length = 0 + 1 := by omega
          rw [e, List.getElem?_cons_succ] at h2
          exact absurd rfl (hn 97 (List.mem_of_getElem? h2)).2
        · obtain ⟨k, rfl⟩ : ∃ k, i = k + 1 := ⟨i - 1, by omega⟩
          rw [List.getElem?_cons_succ] at h1
          exact absurd rfl (hn 32 (List.mem_of_getElem? h1)).1
/-- the count with its space -/
def dl (a : M) : List UInt8 := if 0 < a.count then 32 :: Lib.itoa a.count else []
def cl (a : M) : List UInt8 := if 0 < a.count then Lib.itoa a.count else []
theorem itoa_ne (n : Int) (h : 0 ≤ n) : Lib.itoa n ≠ [] := by
  have e : Lib.itoa n = Lib.decDigits n.toNat := by unfold Lib.itoa; rw [if_neg (by omega)]
  rw [e]
  intro e2
  have := dd_len_pos n.toNat
  rw [e2] at this
  exact absurd this (by decide)
theorem fr_mark (a : M) : fr a = (vb a ++ dl a) ++ (sepA ++ Lib.itoa a.pos) := by
  unfold fr cw dl
  by_cases h : 0 < a.count
  · rw [if_pos h, if_pos h]; simp [Lib.joinTail, at2, sepA]
  · rw [if_neg h, if_neg h]; simp [Lib.joinTail, at2, sepA]
theorem cut_front {a : M} (h : good a = true) : Lib.cut (fr a) sepA = (vb a ++ dl a, Lib.itoa a.pos, true) := by
  obtain ⟨_, _, _, c1, c2⟩ := good_parts h
  rw [fr_mark]
  refine cut_mark (fun b hb => (vb_low h b hb).1) ?_
  unfold dl
  by_cases hc : 0 < a.count
  · rw [if_pos hc]
    exact .inr ⟨_, rfl, itoa_ne _ c1, fun b hb => ⟨digit_ne (itoa_digits _ c1 b hb) (by decide), digit_ne (itoa_digits _ c1 b hb) (by decide)⟩⟩
  · rw [if_neg hc]; exact .inl rfl
theorem cut_verb {a : M} (h : good a = true) : ∃ o, Lib.cut (vb a ++ dl a) [32] = (vb a, cl a, o) := by
  unfold dl cl
  by_cases hc : 0 < a.count
  · rw [if_pos hc, if_pos hc]
    exact ⟨_, cut_at (t := []) (fun b hb => (vb_low h b hb).1)⟩
  · rw [if_neg hc, if_neg hc, List.append_nil]
    exact ⟨_, cut_none (t := []) (fun b hb => (vb_low h b hb).1)⟩
theorem cut_line {a : M} (h : good a = true) : Lib.cut (line a).data.toList sepC = if a.words.length = 0 then (fr a, [], false) else (fr a, (jn a.words).data.toList, true) := by
  rw [line_list]
  unfold tl
  by_cases hw : a.words.length = 0
  · rw [if_pos hw, if_pos hw, List.append_nil]
    exact cut_none (t := [32]) (fr_low h)
  · rw [if_neg hw, if_neg hw, ← jn_list _ hw]
    exact cut_at (t := [32]) (fr_low h)
/-- the words of what stands behind the mark -/
theorem split_jn {a : M} (h : good a = true) (hw : a.words.length ≠ 0) : splitOf (jn a.words).data.toList 32 = L a.words ∧ (jn a.words).size ≤ 71 := by
  have h1 := split_tail h
  rw [← jn_list _ hw] at h1
  have h2 := splitOf_cut [] (jn a.words).data.toList 32 (fun x hx => by cases hx)
  have h3 := line_len h
  have h4 : (line a).size = (line a).data.toList.length := (Array.length_toList (xs := (line a).data)).symm
  rw [line_list] at h4
  unfold tl at h4
  rw [if_neg hw, ← jn_list _ hw, List.length_append, List.length_cons, List.length_cons] at h4
  have h5 : (jn a.words).data.toList.length = (jn a.words).size := Array.length_toList
  refine ⟨?_, by omega⟩
  rw [List.nil_append] at h2
  rw [h2] at h1
  exact (List.cons.inj h1).2
/-- the kind that a verb names, the last of the first k -/
def kindOf (v : List UInt8) : Nat → Int
  | 0 => 0
  | k + 1 => if v = (verb ((k + 1 : Nat) : Int)).data.toList then ((k + 1 : Nat) : Int) else kindOf v k
theorem kind_found {a : M} (h : good a = true) : kindOf (vb a) 3 = a.kind := by
  unfold vb
  rcases kind3 h with e | e | e <;> rw [e] <;> decide
/-- The program's reading finds the amendment whose line it is. -/
theorem impl_found {s f1 ph f2 at_ v cn : ByteArray} {hw o2 o3 : Bool} {p c : Int} {ws : T} {q : M}
    (h1 : Lib.cut s.data.toList sepC = (f1.data.toList, ph.data.toList, hw)) (h2 : Lib.cut f1.data.toList sepA = (f2.data.toList, at_.data.toList, o2)) (h3 : Lib.cut f2.data.toList [32] = (v.data.toList, cn.data.toList, o3))
    (hp : Numeral at_.data.toList p ∨ ((∀ v, ¬ Numeral at_.data.toList v) ∧ p = 0)) (hc : Numeral cn.data.toList c ∨ ((∀ v, ¬ Numeral cn.data.toList v) ∧ c = 0))
    (hws : (hw = true ∧ (ph.size ≤ 4000 → ws = bs (splitOf ph.data.toList 32))) ∨ (hw = false ∧ ws = [])) (hq : good q = true) (hl : line q = s) :
    (⟨kindOf v.data.toList 3, p, c, ws⟩ : M) = q := by
  subst hl
  rw [cut_line hq] at h1
  obtain ⟨n1, n2⟩ := num_pos hq
  obtain ⟨_, _, _, c1, c2⟩ := good_parts hq
  have e1 : f1.data.toList = fr q ∧ ws = q.words := by
    by_cases hz : q.words.length = 0
    · rw [if_pos hz] at h1
      simp only [Prod.mk.injEq] at h1
      obtain ⟨a1, a2, a3⟩ := h1
      refine ⟨a1.symm, ?_⟩
      rcases hws with ⟨b1, _⟩ | ⟨_, b2⟩
      · rw [b1] at a3; cases a3
      · rw [b2]; exact (List.length_eq_zero_iff.1 hz).symm
    · rw [if_neg hz] at h1
      simp only [Prod.mk.injEq] at h1
      obtain ⟨a1, a2, a3⟩ := h1
      refine ⟨a1.symm, ?_⟩
      have ep : jn q.words = ph := ByteArray.ext (Array.toList_inj.1 a2)
      obtain ⟨s1, s2⟩ := split_jn hq hz
      rw [ep] at s1 s2
      rcases hws with ⟨_, b2⟩ | ⟨b1, _⟩
      · rw [b2 (by omega), s1, bs_L]
      · rw [b1] at a3; cases a3
  rw [e1.1, cut_front hq] at h2
  simp only [Prod.mk.injEq] at h2
  obtain ⟨a1, a2, _⟩ := h2
  obtain ⟨o, hv⟩ := cut_verb hq
  rw [← a1, hv] at h3
  simp only [Prod.mk.injEq] at h3
  obtain ⟨b1, b2, _⟩ := h3
  have ep : p = q.pos := by
    rcases hp with hp | ⟨hp, _⟩
    · rw [← a2] at hp; exact hp.uniq n1
    · exact absurd (a2 ▸ n1) (hp _)
  have ec : c = q.count := by
    unfold cl at b2
    by_cases hz : 0 < q.count
    · rw [if_pos hz] at b2
      rcases hc with hc | ⟨hc, _⟩
      · rw [← b2] at hc; exact hc.uniq n2
      · exact absurd (b2 ▸ n2) (hc _)
    · rw [if_neg hz] at b2
      rcases hc with hc | ⟨_, hc⟩
      · rw [← b2] at hc
        have : 0 < (Lib.itoa c).length := by
          rcases Int.lt_or_le c 0 with h | h
          · unfold Lib.itoa; rw [if_pos h]; simp
          · exact List.length_pos_iff.2 (itoa_ne c h)
        rw [hc.2.2] at this
        exact absurd this (by decide)
      · omega
  rw [← b1, kind_found hq, ep, ec, e1.2]
end Go.Proofs.YtfkppgnffhbfjaaDoor.PAmQ
