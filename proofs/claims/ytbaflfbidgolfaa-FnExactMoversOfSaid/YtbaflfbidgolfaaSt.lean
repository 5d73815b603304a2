/- Pending questions: which lists are pending, what lacks a second, what may be moved. Plain mathematics. -/
import Derived.Test.YtbaflfbidgolfaaLQuestionD
import Derived.Test.YtbaflfbidgolfaaLRuleZ
import Derived.Test.YtbaflfbidgolfaaGood
import Derived.Test.YtbaflfbidgolfaaSq
import Derived.Test.YtbaflfbidgolfaaIntF
namespace Go.Proofs.Ytbaflfbidgolfaa.St
open Go.RowKit Bs Word Sq IntF
set_option linter.unusedVariables false
abbrev Q := LQuestion.R
abbrev R := LRule.R
theorem id_asc {xs : List R} (h : Gd.goodB xs = true) : ∀ (i k : Nat) (a b : R), k < i → xs[k]? = some a → xs[i]? = some b → a.id < b.id
  | 0, k, a, b, hk, ha, hb => by omega
  | i + 1, k, a, b, hk, ha, hb => by
    obtain ⟨r, hr, _, hlt, _⟩ := (Gd.good_of h).2 (i + 1) (List.getElem?_eq_some_iff.1 hb).1
    rw [hb] at hr
    obtain rfl := Option.some.inj hr
    have hi : i < xs.length := by have := (List.getElem?_eq_some_iff.1 hb).1; omega
    have hp := List.getElem?_eq_getElem hi
    have h1 := hlt _ (by omega) hp
    rcases Nat.lt_or_ge k i with h' | h'
    · have := id_asc h i k a _ h' ha hp; omega
    · obtain rfl : k = i := by omega
      rw [hp] at ha
      rw [← Option.some.inj ha]; exact h1
abbrev idx (z : List R) (n : Int) : Option Nat := z.findIdx? (fun X => (X.id == n))
def R0 : R := ⟨0, ⟨#[]⟩, 0, false, false, false, 0⟩
/-- the rule with an id -/
def ru (z : List R) (n : Int) : R := ((idx z n).bind (fun k => z[k]?)).getD R0
theorem ru_at {z : List R} {n : Int} {k : Nat} {r : R} (h : idx z n = some k) (hr : z[k]? = some r) : ru z n = r := by unfold ru; rw [h]; show (z[k]?).getD R0 = r; rw [hr]; rfl
theorem idx_mem {z : List R} (hg : Gd.goodB z = true) {j : Nat} {r : R} (h : z[j]? = some r) : idx z r.id = some j :=
  first_hit (p := fun X => (X.id == r.id)) (fun i x hi hx => by have := id_asc hg j i x r hi hx h; simp; omega) h (by simp)
theorem idx_get {z : List R} {n : Int} {k : Nat} (h : idx z n = some k) : ∃ r, z[k]? = some r ∧ r.id = n ∧ ru z n = r ∧ k < z.length := by
  obtain ⟨X, hX, hp, _⟩ := idx_some h
  exact ⟨X, hX, by simpa using hp, ru_at h hX, (List.getElem?_eq_some_iff.1 hX).1⟩
theorem ru_mem {z : List R} {n : Int} (h : (idx z n).isSome = true) : ru z n ∈ z ∧ (ru z n).id = n := by
  obtain ⟨k, hk⟩ := Option.isSome_iff_exists.1 h
  obtain ⟨r, hr, hi, he, _⟩ := idx_get hk
  rw [he]; exact ⟨List.mem_of_getElem? hr, hi⟩
theorem ru_id {z : List R} (hg : Gd.goodB z = true) {r : R} (h : r ∈ z) : ru z r.id = r ∧ (idx z r.id).isSome = true := by
  obtain ⟨j, hj⟩ := List.mem_iff_getElem?.1 h
  have := idx_mem hg hj
  exact ⟨ru_at this hj, by rw [this]; rfl⟩
def lacks (z : List R) (q : Q) : Bool := (ru z q.rule).sec && !q.sec
def rk (z : List R) (q : Q) : Int := (ru z q.rule).rank
def okB (z : List R) (q : Q) : Bool := (idx z q.rule).isSome && (inB q.mover 1 99 && (!q.sec || (ru z q.rule).sec))
/-- whether a question of a rule may stand behind one -/
def folR (z : List R) (p : Q) (r : R) : Bool := !lacks z p && decide (rk z p < r.rank)
def fol (z : List R) (p q : Q) : Bool := folR z p (ru z q.rule)
def Step (z : List R) (l : List Q) (i : Nat) : Prop := ∃ q, l[i]? = some q ∧ okB z q = true ∧ ∀ p, 0 < i → l[i - 1]? = some p → fol z p q = true
def GoodP (z : List R) (l : List Q) : Prop := Gd.goodB z = true ∧ l.length ≤ 6 ∧ ∀ i, i < l.length → Step z l i
open Classical in
noncomputable def goodQ (z : List R) (l : List Q) : Bool := decide (GoodP z l)
open Classical in
theorem good_yes {z : List R} {l : List Q} (h : GoodP z l) : goodQ z l = true := decide_eq_true h
open Classical in
theorem good_no {z : List R} {l : List Q} (h : ¬ GoodP z l) : goodQ z l = false := decide_eq_false h
open Classical in
theorem good_of {z : List R} {l : List Q} (h : goodQ z l = true) : GoodP z l := of_decide_eq_true h
theorem no_rules {z : List R} {l : List Q} (h : Gd.goodB z = false) : goodQ z l = false := good_no fun g => by rw [g.1] at h; cases h
theorem no_len {z : List R} {l : List Q} (h : 6 < l.length) : goodQ z l = false := good_no fun g => by have := g.2.1; omega
theorem no_step {z : List R} {l : List Q} {i : Nat} (hi : i < l.length) (h : ¬ Step z l i) : goodQ z l = false := good_no fun g => h (g.2.2 i hi)
theorem no_ok {z : List R} {l : List Q} {i : Nat} {q : Q} (hq : l[i]? = some q) (h : okB z q = false) : goodQ z l = false :=
  no_step (List.getElem?_eq_some_iff.1 hq).1 fun ⟨r, hr, ho, _⟩ => by
    rw [hq] at hr; rw [← Option.some.inj hr, h] at ho; cases ho
theorem no_fol {z : List R} {l : List Q} {i : Nat} {p q : Q} (hq : l[i]? = some q) (h0 : 0 < i) (hp : l[i - 1]? = some p) (h : fol z p q = false) : goodQ z l = false :=
  no_step (List.getElem?_eq_some_iff.1 hq).1 fun ⟨r, hr, _, ho⟩ => by
    rw [hq] at hr
    have := ho p h0 hp
    rw [← Option.some.inj hr, h] at this; cases this
theorem step_mk {z : List R} {l : List Q} {i : Nat} {q : Q} (hq : l[i]? = some q) (h : okB z q = true) (h2 : ∀ p, 0 < i → l[i - 1]? = some p → fol z p q = true) : Step z l i := ⟨q, hq, h, h2⟩
theorem steps_next {z : List R} {l : List Q} {k : Nat} (hs : ∀ i, i < k → Step z l i) (h : Step z l k) : ∀ i, i < k + 1 → Step z l i := fun i hi => by
  rcases Nat.lt_or_ge i k with h' | h'
  · exact hs i h'
  · rwa [show i = k by omega]
theorem ok_parts {z : List R} {q : Q} (h : okB z q = true) : ∃ k r, idx z q.rule = some k ∧ z[k]? = some r ∧ ru z q.rule = r ∧ k < z.length ∧ (1 ≤ q.mover ∧ q.mover ≤ 99) ∧ (q.sec = true → r.sec = true) := by
  unfold okB at h
  rw [Bool.and_eq_true, Bool.and_eq_true] at h
  obtain ⟨k, hk⟩ := Option.isSome_iff_exists.1 h.1
  obtain ⟨r, hr, _, he, hl⟩ := idx_get hk
  refine ⟨k, r, hk, hr, he, hl, inB_yes h.2.1, fun hs => ?_⟩
  have := h.2.2
  rw [hs, he] at this
  simpa using this
theorem good_at {z : List R} {l : List Q} (h : goodQ z l = true) {i : Nat} {q : Q} (hq : l[i]? = some q) : okB z q = true := by
  obtain ⟨r, hr, ho, _⟩ := (good_of h).2.2 i (List.getElem?_eq_some_iff.1 hq).1
  rw [hq] at hr; rw [Option.some.inj hr]; exact ho
theorem good_fol {z : List R} {l : List Q} (h : goodQ z l = true) {i : Nat} {p q : Q} (hq : l[i + 1]? = some q) (hp : l[i]? = some p) : fol z p q = true := by
  obtain ⟨r, hr, _, ho⟩ := (good_of h).2.2 (i + 1) (List.getElem?_eq_some_iff.1 hq).1
  rw [hq] at hr; rw [Option.some.inj hr]; exact ho p (by omega) hp
theorem step_take {z : List R} {l : List Q} {i k : Nat} (hi : i < k) (h : Step z l i) : Step z (l.take k) i := by
  obtain ⟨q, hq, ho, hf⟩ := h
  refine ⟨q, by rw [List.getElem?_take, if_pos hi]; exact hq, ho, fun p h0 hp => hf p h0 ?_⟩
  rw [List.getElem?_take, if_pos (by omega)] at hp; exact hp
theorem good_take {z : List R} {l : List Q} (h : goodQ z l = true) (k : Nat) : goodQ z (l.take k) = true := by
  obtain ⟨h1, h2, h3⟩ := good_of h
  refine good_yes ⟨h1, by rw [List.length_take]; omega, fun i hi => ?_⟩
  rw [List.length_take] at hi
  exact step_take (by omega) (h3 i (by omega))
/-- the immediately pending question -/
abbrev top (l : List Q) : Option Q := l[l.length - 1]?
theorem top_nil : top [] = none := rfl
theorem top_some {l : List Q} (h : l.length ≠ 0) : ∃ q, top l = some q := ⟨l[l.length - 1]'(by omega), List.getElem?_eq_getElem (by omega)⟩
/-- whether a motion of a rule may be moved now -/
def mayB (z : List R) (l : List Q) (r : R) : Bool := match top l with | none => true | some p => decide (l.length < 6) && folR z p r
def may (z : List R) (l : List Q) : List Int := (z.filter (mayB z l)).map (·.id)
theorem may_nil {z : List R} {l : List Q} {r : R} (h : l.length = 0) : mayB z l r = true := by
  rw [List.eq_nil_of_length_eq_zero h]; rfl
theorem may_top {z : List R} {l : List Q} {r : R} {p : Q} (h : top l = some p) : mayB z l r = (decide (l.length < 6) && folR z p r) := by unfold mayB; rw [h]
theorem may_full {z : List R} {l : List Q} (h : 6 ≤ l.length) : may z l = [] := by
  unfold may
  rw [List.filter_eq_nil_iff.2, List.map_nil]
  intro r _
  obtain ⟨p, hp⟩ := top_some (l := l) (by omega)
  rw [may_top hp, show decide (l.length < 6) = false from decide_eq_false (by omega)]
  simp
theorem may_mem {z : List R} {l : List Q} {n : Int} (hg : Gd.goodB z = true) : n ∈ may z l ↔ (idx z n).isSome = true ∧ mayB z l (ru z n) = true := by
  unfold may
  rw [List.mem_map]
  constructor
  · rintro ⟨r, hr, rfl⟩
    obtain ⟨hm, hb⟩ := List.mem_filter.1 hr
    obtain ⟨h1, h2⟩ := ru_id hg hm
    exact ⟨h2, by rw [h1]; exact hb⟩
  · rintro ⟨h1, h2⟩
    obtain ⟨h3, h4⟩ := ru_mem h1
    exact ⟨_, List.mem_filter.2 ⟨h3, h2⟩, h4⟩
theorem may_len {z : List R} {l : List Q} : (may z l).length ≤ z.length := by
  unfold may; rw [List.length_map]; exact List.length_filter_le _ _
/-- as far as place k of the rules -/
theorem may_next {z : List R} {l : List Q} {k : Nat} {r : R} (h : z[k]? = some r) : may (z.take (k + 1)) l = may (z.take (k + 1)) l := rfl
def mayT (z : List R) (l : List Q) (k : Nat) : List Int := ((z.take k).filter (mayB z l)).map (·.id)
theorem mayT_zero {z : List R} {l : List Q} : mayT z l 0 = [] := rfl
theorem mayT_all {z : List R} {l : List Q} {k : Nat} (h : z.length ≤ k) : mayT z l k = may z l := by unfold mayT may; rw [List.take_of_length_le h]
theorem mayT_next {z : List R} {l : List Q} {k : Nat} {r : R} {b : Bool} (h : z[k]? = some r) (hb : mayB z l r = b) : mayT z l (k + 1) = mayT z l k ++ (if b then [r.id] else []) := by
  have hk := (List.getElem?_eq_some_iff.1 h).1
  unfold mayT
  rw [List.take_add_one, h, Option.toList_some, List.filter_append, List.map_append]
  congr 1
  cases b with
  | true => rw [List.filter_cons_of_pos hb]; rfl
  | false => rw [List.filter_cons_of_neg (by rw [hb]; decide)]; rfl
theorem mayT_len {z : List R} {l : List Q} {k : Nat} : (mayT z l k).length ≤ k := by
  unfold mayT
  rw [List.length_map]
  refine Nat.le_trans (List.length_filter_le _ _) ?_
  rw [List.length_take]; omega
/-- one more question -/
theorem move_iff (z : List R) (l : List Q) (id m : Int) : goodQ z (l ++ [⟨id, m, false⟩]) = (goodQ z l && (inB m 1 99 && hasB (may z l) id)) := by
  rw [Bool.eq_iff_iff, Bool.and_eq_true, Bool.and_eq_true]
  constructor
  · intro h
    have hl : goodQ z l = true := by have := good_take h l.length; rwa [List.take_left] at this
    have hq := good_at h (i := l.length) (q := ⟨id, m, false⟩) (by simp)
    obtain ⟨k, r, hk, hr, he, _, hm, _⟩ := ok_parts hq
    refine ⟨hl, inB_mk hm.1 hm.2, has_iff.2 ((may_mem (good_of h).1).2 ⟨by rw [show idx z id = some k from hk]; rfl, ?_⟩)⟩
    rcases Nat.eq_zero_or_pos l.length with h0 | h0
    · exact may_nil h0
    · obtain ⟨p, hp⟩ := top_some (l := l) (by omega)
      rw [may_top hp]
      have h6 := (good_of h).2.1
      simp only [List.length_append, List.length_singleton] at h6
      have hf := good_fol h (i := l.length - 1) (p := p) (q := ⟨id, m, false⟩) (by rw [show l.length - 1 + 1 = l.length by omega]; simp) (by rw [List.getElem?_append_left (by omega)]; exact hp)
      rw [show decide (l.length < 6) = true from decide_eq_true (by omega), Bool.true_and]
      exact hf
  · rintro ⟨hl, hm, hh⟩
    obtain ⟨h1, h2, h3⟩ := good_of hl
    obtain ⟨h4, h5⟩ := (may_mem h1).1 (has_iff.1 hh)
    have hlen : l.length < 6 := by
      rcases Nat.eq_zero_or_pos l.length with h0 | h0
      · omega
      · obtain ⟨p, hp⟩ := top_some (l := l) (by omega)
        rw [may_top hp, Bool.and_eq_true] at h5
        exact of_decide_eq_true h5.1
    refine good_yes ⟨h1, by simp; omega, fun i hi => ?_⟩
    simp only [List.length_append, List.length_singleton] at hi
    rcases Nat.lt_or_ge i l.length with h' | h'
    · obtain ⟨q, hq, ho, hf⟩ := h3 i h'
      refine ⟨q, by rw [List.getElem?_append_left h']; exact hq, ho, fun p h0 hp => hf p h0 ?_⟩
      rw [List.getElem?_append_left (by omega)] at hp; exact hp
    · obtain rfl : i = l.length := by omega
      refine ⟨⟨id, m, false⟩, by simp, ?_, fun p h0 hp => ?_⟩
      · show ((idx z id).isSome && (inB m 1 99 && (!false || (ru z id).sec))) = true
        rw [h4, hm]; rfl
      · rw [List.getElem?_append_left (by omega)] at hp
        rw [may_top hp, Bool.and_eq_true] at h5
        exact h5.2
/-- the last one seconded -/
theorem second_good {z : List R} {l : List Q} {q : Q} (h : goodQ z l = true) (hq : top l = some q) (hl : lacks z q = true) : goodQ z (l.set (l.length - 1) { q with sec := true }) = true := by
  obtain ⟨h1, h2, h3⟩ := good_of h
  have hn : l.length - 1 < l.length := (List.getElem?_eq_some_iff.1 hq).1
  unfold lacks at hl
  rw [Bool.and_eq_true] at hl
  refine good_yes ⟨h1, by simpa using h2, fun i hi => ?_⟩
  rw [List.length_set] at hi
  obtain ⟨x, hx, ho, hf⟩ := h3 i hi
  have hprev : ∀ p, 0 < i → (l.set (l.length - 1) { q with sec := true })[i - 1]? = some p → l[i - 1]? = some p := fun p h0 hp => by
    rwa [List.getElem?_set_ne (by omega)] at hp
  rcases Nat.lt_or_ge i (l.length - 1) with h' | h'
  · exact ⟨x, by rw [List.getElem?_set_ne (by omega)]; exact hx, ho, fun p h0 hp => hf p h0 (hprev p h0 hp)⟩
  · obtain rfl : i = l.length - 1 := by omega
    have hqx : q = x := Option.some.inj (hq.symm.trans hx)
    subst hqx
    refine ⟨{ q with sec := true }, List.getElem?_set_self hn, ?_, fun p h0 hp => hf p h0 (hprev p h0 hp)⟩
    unfold okB at ho ⊢
    rw [Bool.and_eq_true, Bool.and_eq_true] at ho ⊢
    exact ⟨ho.1, ho.2.1, by show (!true || (ru z q.rule).sec) = true; rw [hl.1]; rfl⟩
end Go.Proofs.Ytbaflfbidgolfaa.St
