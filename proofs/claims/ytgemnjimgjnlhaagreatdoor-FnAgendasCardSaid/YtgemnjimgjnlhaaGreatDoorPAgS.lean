/- An item's line in words, as the model reads it. Mathematics alone. -/
import Derived.Test.YtgemnjimgjnlhaaGreatDoorPAg
namespace Go.Proofs.YtgemnjimgjnlhaaGreatDoor.PAgS
open Go SplitMath NumMath Word Ag AgX PCut PAg
set_option linter.unusedVariables false
def tailW (t : Int) : List (List UInt8) := if t = -1 then [[109, 105, 110, 41]] else [[109, 105, 110, 44], [110, 111, 116], [98, 101, 102, 111, 114, 101], clockL t ++ [41]]
def W (q : M) : List (List UInt8) := (Lib.itoa q.id ++ [46]) :: q.title.data.toList :: (40 :: Lib.itoa q.mins) :: tailW q.time
theorem line_words (q : M) : (lineM q).data.toList = (Lib.itoa q.id ++ [46]) ++ Lib.joinTail [32] (q.title.data.toList :: (40 :: Lib.itoa q.mins) :: tailW q.time) := by
  rw [line_list]
  unfold restL tailW
  by_cases h : q.time = -1
  · rw [if_pos h, if_pos h]
    simp [Lib.joinTail]
  · rw [if_neg h, if_neg h]
    simp [Lib.joinTail, pre]
theorem clock_clean {t : Int} (h0 : 0 ≤ t) (h1 : t ≤ 1439) : ∀ b ∈ clockL t ++ [41], b ≠ 32 := by
  intro b hb
  unfold clockL at hb
  simp only [List.mem_append, List.mem_singleton] at hb
  rcases hb with (hb | rfl | hb) | rfl
  · exact D_clean (by omega) (by omega) 32 (by decide) b hb
  · decide
  · exact D_clean (by omega) (by omega) 32 (by decide) b hb
  · decide
theorem words_clean {q : M} (h : okB q = true) : ∀ y ∈ W q, ∀ b ∈ y, b ≠ 32 := by
  obtain ⟨p1, p2, p3, p4⟩ := ok_parts h
  intro y hy
  unfold W at hy
  rcases List.mem_cons.1 hy with rfl | hy
  · intro b hb
    rcases List.mem_append.1 hb with hb | hb
    · exact digit_ne (itoa_digits _ (by omega) b hb) (by decide)
    · rw [List.mem_singleton.1 hb]; decide
  · rcases List.mem_cons.1 hy with rfl | hy
    · exact word_ne p2 32 (by decide)
    · rcases List.mem_cons.1 hy with rfl | hy
      · intro b hb
        rcases List.mem_cons.1 hb with rfl | hb
        · decide
        · exact digit_ne (itoa_digits _ (by omega) b hb) (by decide)
      · unfold tailW at hy
        by_cases e : q.time = -1
        · rw [if_pos e] at hy
          rw [List.mem_singleton.1 hy]; decide
        · rw [if_neg e] at hy
          have hT := ok_time h e
          simp only [List.mem_cons, List.not_mem_nil, or_false] at hy
          rcases hy with rfl | rfl | rfl | rfl
          · decide
          · decide
          · decide
          · exact clock_clean hT.1 hT.2
theorem split_line {q : M} (h : okB q = true) : splitOf (lineM q).data.toList 32 = W q := by
  rw [line_words]
  exact split_join 32 _ _ (words_clean h)
def dgv (a b : UInt8) : Int := if a.toNat < 48 ∨ 57 < a.toNat ∨ b.toNat < 48 ∨ 57 < b.toNat then 99 else 10 * ((a.toNat : Int) - 48) + ((b.toNat : Int) - 48)
theorem dgv_bd (a b : UInt8) : 0 ≤ dgv a b ∧ dgv a b ≤ 99 := by
  unfold dgv
  split <;> omega
theorem dgv_two : ∀ a : Nat, a < 10 → ∀ b : Nat, b < 10 → dgv (UInt8.ofNat (48 + a)) (UInt8.ofNat (48 + b)) = 10 * (a : Int) + b := by decide
def at2 (y : List UInt8) (k : Nat) : Int := dgv (y.getD k 0) (y.getD (k + 1) 0)
theorem at_clock {t : Int} (h0 : 0 ≤ t) (h1 : t ≤ 1439) : (clockL t ++ [41]).length = 6 ∧ 60 * at2 (clockL t ++ [41]) 0 + at2 (clockL t ++ [41]) 3 = t := by
  obtain ⟨a, b, ha, hb, e1, d1⟩ := D_two (n := t / 60) (by omega) (by omega)
  obtain ⟨c, d, hc, hd, e2, d2⟩ := D_two (n := t % 60) (by omega) (by omega)
  unfold clockL
  rw [d1, d2]
  refine ⟨rfl, ?_⟩
  show 60 * dgv (UInt8.ofNat (48 + a)) (UInt8.ofNat (48 + b)) + dgv (UInt8.ofNat (48 + c)) (UInt8.ofNat (48 + d)) = t
  rw [dgv_two a ha b hb, dgv_two c hc d hd]
  omega
/-- the time that the words say -/
def TimeS (ws : List (List UInt8)) (t : Int) : Prop := (ws.length ≠ 7 → t = -1) ∧ ∀ y, ws[6]? = some y → ws.length = 7 → y.length = 6 → t = 60 * at2 y 0 + at2 y 3
theorem W_len (q : M) : (W q).length = if q.time = -1 then 4 else 7 := by unfold W tailW; split <;> rfl
theorem W_six {q : M} (h : q.time ≠ -1) : (W q)[6]? = some (clockL q.time ++ [41]) := by unfold W tailW; rw [if_neg h]; rfl
theorem words_ok {l : List UInt8} {ws : List (List UInt8)} (hws : splitOf l 32 = ws) {q : M} (hq : P l q) : (ws.length = 4 ∨ ws.length = 7) ∧ (∀ y, ws[0]? = some y → 2 ≤ y.length) ∧ (∀ y, ws[2]? = some y → 2 ≤ y.length) := by
  obtain ⟨hok, rfl⟩ := hq
  rw [split_line hok] at hws
  subst hws
  obtain ⟨p1, p2, p3, p4⟩ := ok_parts hok
  have n1 := List.length_pos_iff.2 (itoa_ne q.id (by omega))
  have n2 := List.length_pos_iff.2 (itoa_ne q.mins (by omega))
  refine ⟨by rw [W_len]; split <;> simp, fun y hy => ?_, fun y hy => ?_⟩
  · obtain rfl := Option.some.inj (show some (Lib.itoa q.id ++ [46]) = some y from hy)
    simp; omega
  · obtain rfl := Option.some.inj (show some (40 :: Lib.itoa q.mins) = some y from hy)
    simp; omega
theorem num_yes {l : List UInt8} {ws : List (List UInt8)} (hws : splitOf l 32 = ws) {y0 y2 : List UInt8} (h0 : ws[0]? = some y0) (h2 : ws[2]? = some y2) {q : M} (hq : P l q) : y0.take (y0.length - 1) = Lib.itoa q.id ∧ y2.drop 1 = Lib.itoa q.mins ∧ Numeral (Lib.itoa q.id) q.id ∧ Numeral (Lib.itoa q.mins) q.mins := by
  obtain ⟨hok, rfl⟩ := hq
  rw [split_line hok] at hws
  subst hws
  obtain ⟨p1, p2, p3, p4⟩ := ok_parts hok
  obtain rfl := Option.some.inj (show some (Lib.itoa q.id ++ [46]) = some y0 from h0)
  obtain rfl := Option.some.inj (show some (40 :: Lib.itoa q.mins) = some y2 from h2)
  exact ⟨by simp, rfl, ⟨by omega, by omega, rfl⟩, ⟨by omega, by omega, rfl⟩⟩
theorem spec_found {l : List UInt8} {ws : List (List UInt8)} (hws : splitOf l 32 = ws) {y0 y1 y2 : List UInt8} (h0 : ws[0]? = some y0) (h1 : ws[1]? = some y1) (h2 : ws[2]? = some y2) {i m t : Int} (hi : NumOf (y0.take (y0.length - 1)) i) (hm : NumOf (y2.drop 1) m) (ht : TimeS ws t) {ti : ByteArray} (hti : ti.data.toList = y1) : ∀ q, P l q → (⟨i, ti, m, t⟩ : M) = q := fun q hq => by
  obtain ⟨a1, a2, _, _⟩ := num_yes hws h0 h2 hq
  rw [a1] at hi
  rw [a2] at hm
  obtain ⟨hok, rfl⟩ := hq
  rw [split_line hok] at hws
  subst hws
  obtain ⟨p1, p2, p3, p4⟩ := ok_parts hok
  have e1 := num_of (by omega) (by omega) hi
  have e3 := num_of (by omega) (by omega) hm
  have e2 : ti = q.title := ByteArray.ext (Array.toList_inj.1 (hti.trans (Option.some.inj (show some q.title.data.toList = some y1 from h1)).symm))
  have e4 : t = q.time := by
    by_cases e : q.time = -1
    · rw [e]; exact ht.1 (by rw [W_len, if_pos e]; decide)
    · have hT := ok_time hok e
      have hA := at_clock hT.1 hT.2
      exact (ht.2 _ (W_six e) (by rw [W_len, if_neg e]) hA.1).trans hA.2
  rw [e1, e2, e3, e4]
open Classical in
noncomputable def rv (l : List UInt8) : Int := if h : ∃ v, Numeral l v then h.choose else 0
open Classical in
noncomputable def rb (l : List UInt8) : Bool := decide (∃ v, Numeral l v)
theorem rv_num (l : List UInt8) : NumOf l (rv l) := by
  unfold rv
  by_cases h : ∃ v, Numeral l v
  · rw [dif_pos h]; exact .inl h.choose_spec
  · rw [dif_neg h]; exact .inr ⟨fun v hv => h ⟨v, hv⟩, rfl⟩
theorem rv_bd (l : List UInt8) : -999999 ≤ rv l ∧ rv l ≤ 999999 := by
  rcases rv_num l with h | ⟨_, h⟩
  · exact ⟨h.1, h.2.1⟩
  · omega
open Classical in
theorem rb_no {l : List UInt8} (h : rb l = false) (v : Int) : ¬ Numeral l v := fun hv => by
  unfold rb at h
  rw [decide_eq_true ⟨v, hv⟩] at h; cases h
open Classical in
theorem rv_of {l : List UInt8} {v : Int} (h : Numeral l v) : rv l = v ∧ rb l = true := by
  refine ⟨?_, by unfold rb; exact decide_eq_true ⟨v, h⟩⟩
  rcases rv_num l with h2 | ⟨h2, _⟩
  · exact h2.uniq h
  · exact absurd h (h2 v)
open Classical in
theorem rv_none {l : List UInt8} (h : ∀ v, ¬ Numeral l v) : rv l = 0 ∧ rb l = false := by
  refine ⟨?_, by unfold rb; exact decide_eq_false (fun ⟨v, hv⟩ => h v hv)⟩
  rcases rv_num l with h2 | ⟨_, h2⟩
  · exact absurd h2 (h _)
  · exact h2
/-- one item is an agenda -/
theorem good_one (r : M) : goodB [r] = okB r := by
  cases h : okB r with
  | false => exact no_ok (i := 0) rfl h
  | true =>
    refine good_yes ⟨by simp, fun i hi => ?_⟩
    obtain rfl : i = 0 := by simpa using hi
    exact ⟨⟨r, rfl, h⟩, fun k q r' hk => by omega⟩
end Go.Proofs.YtgemnjimgjnlhaaGreatDoor.PAgS
