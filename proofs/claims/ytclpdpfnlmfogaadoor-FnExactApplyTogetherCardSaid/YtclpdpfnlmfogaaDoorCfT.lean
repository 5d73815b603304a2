/- Proposals applied together: the mathematics. No condition. -/
import Derived.Test.YtclpdpfnlmfogaaDoorCfH
import Derived.Test.YtclpdpfnlmfogaaDoorJ1
import Derived.Test.YtclpdpfnlmfogaaDoorSrt
namespace Go.Proofs.YtclpdpfnlmfogaaDoor.CfT
open Go.RowKit Bs Word Am Cf CfM CfH CfQ Srt
set_option linter.unusedVariables false
section
variable {α : Type} {lt : α → α → Bool}
theorem ins_perm (P : List α) (x : α) : (insS lt P x).Perm (x :: P) := by
  have h := List.perm_middle (a := x) (l₁ := P.take (pos lt P x P.length)) (l₂ := P.drop (pos lt P x P.length))
  rw [List.take_append_drop] at h
  exact h
theorem srt_perm_aux : ∀ (xs P : List α), (xs.foldl (insS lt) P).Perm (P ++ xs)
  | [], P => by simp
  | x :: xs, P => by
    rw [List.foldl_cons]
    exact (srt_perm_aux xs _).trans (((ins_perm P x).append_right xs).trans List.perm_middle.symm)
theorem srt_perm (xs : List α) : (srt lt xs).Perm xs := by
  have h := srt_perm_aux (lt := lt) xs []
  simpa [srt] using h
theorem pos_after {P : List α} {x : α} : ∀ j i p, pos lt P x j ≤ i → i < j → P[i]? = some p → lt x p = true
  | 0, i, p, _, h, _ => by omega
  | j + 1, i, p, h1, h2, hp => by
    cases e : P[j]? with
    | none =>
      have : pos lt P x (j + 1) = j + 1 := by
        show (match P[j]? with | some p => (if lt x p = true then pos lt P x j else j + 1) | none => j + 1) = _
        rw [e]
      omega
    | some q =>
      cases hl : lt x q with
      | false => rw [pos_stop e hl] at h1; omega
      | true =>
        rw [pos_go e hl] at h1
        by_cases hi : i = j
        · subst hi; rw [e] at hp; rw [← Option.some.inj hp]; exact hl
        · exact pos_after j i p h1 (by omega) hp
theorem pos_before {P : List α} {x : α} : ∀ j m, j ≤ P.length → pos lt P x j = m + 1 → ∃ p, P[m]? = some p ∧ lt x p = false
  | 0, m, _, h => by simp [pos] at h
  | j + 1, m, hj, h => by
    have e := List.getElem?_eq_getElem (show j < P.length by omega)
    cases hl : lt x P[j] with
    | false => rw [pos_stop e hl] at h; obtain rfl : j = m := by omega
               exact ⟨_, e, hl⟩
    | true => rw [pos_go e hl] at h; exact pos_before j m (by omega) h
theorem ins_sorted (tr : ∀ a b c, lt b a = false → lt c b = false → lt c a = false) (asy : ∀ a b, lt a b = true → lt b a = false) {P : List α} {x : α} (hP : P.Pairwise (fun a b => lt b a = false)) : (insS lt P x).Pairwise (fun a b => lt b a = false) := by
  have hA := pos_after (lt := lt) (P := P) (x := x) P.length
  have hB := pos_before (lt := lt) (P := P) (x := x) P.length
  have hl := pos_le (lt := lt) P x P.length
  unfold insS
  generalize pos lt P x P.length = j at *
  have hP2 := hP
  rw [← List.take_append_drop j P, List.pairwise_append] at hP2
  obtain ⟨h1, h2, h3⟩ := hP2
  rw [List.pairwise_append, List.pairwise_cons]
  have key : ∀ a ∈ P.take j, lt x a = false := fun a ha => by
    cases j with
    | zero => simp at ha
    | succ m =>
      obtain ⟨p, hp, hx⟩ := hB m (Nat.le_refl _) rfl
      obtain ⟨hm, rfl⟩ := List.getElem?_eq_some_iff.1 hp
      rw [List.take_succ_eq_append_getElem hm, List.mem_append, List.mem_singleton] at ha
      rcases ha with ha | rfl
      · have hP3 := hP
        rw [← List.take_append_drop m P, List.pairwise_append] at hP3
        refine tr _ _ _ (hP3.2.2 a ha P[m] ?_) hx
        rw [List.drop_eq_getElem_cons hm]
        exact List.mem_cons_self
      · exact hx
  refine ⟨h1, ⟨fun b hb => ?_, h2⟩, fun a ha b hb => ?_⟩
  · obtain ⟨i, hi, he⟩ := List.getElem_of_mem hb
    have h4 : P[j + i]? = some b := by
      rw [← List.getElem?_drop, List.getElem?_eq_getElem hi, he]
    exact asy _ _ (hA (j + i) b (by omega) (List.getElem?_eq_some_iff.1 h4).1 h4)
  · rcases List.mem_cons.1 hb with rfl | hb
    · exact key a ha
    · exact h3 a ha b hb
theorem srt_sorted_aux (tr : ∀ a b c, lt b a = false → lt c b = false → lt c a = false) (asy : ∀ a b, lt a b = true → lt b a = false) : ∀ (xs P : List α), P.Pairwise (fun a b => lt b a = false) → (xs.foldl (insS lt) P).Pairwise (fun a b => lt b a = false)
  | [], P, h => h
  | x :: xs, P, h => by rw [List.foldl_cons]; exact srt_sorted_aux tr asy xs _ (ins_sorted tr asy h)
theorem srt_sorted (tr : ∀ a b c, lt b a = false → lt c b = false → lt c a = false) (asy : ∀ a b, lt a b = true → lt b a = false) (xs : List α) : (srt lt xs).Pairwise (fun a b => lt b a = false) := srt_sorted_aux tr asy xs [] List.Pairwise.nil
variable {β : Type} {lt' : β → β → Bool}
theorem pos_map (f : α → β) (h : ∀ a b, lt' (f a) (f b) = lt a b) (P : List α) (x : α) : ∀ j, pos lt' (P.map f) (f x) j = pos lt P x j
  | 0 => rfl
  | j + 1 => by
    show (match (P.map f)[j]? with | some p => (if lt' (f x) p = true then pos lt' (P.map f) (f x) j else j + 1) | none => j + 1) = (match P[j]? with | some p => (if lt x p = true then pos lt P x j else j + 1) | none => j + 1)
    rw [List.getElem?_map, pos_map f h P x j]
    cases P[j]? with
    | none => rfl
    | some p => simp only [Option.map_some, h]
theorem ins_map (f : α → β) (h : ∀ a b, lt' (f a) (f b) = lt a b) (P : List α) (x : α) : insS lt' (P.map f) (f x) = (insS lt P x).map f := by
  unfold insS
  rw [List.length_map, pos_map f h]
  simp
theorem srt_map_aux (f : α → β) (h : ∀ a b, lt' (f a) (f b) = lt a b) : ∀ (xs P : List α), (xs.map f).foldl (insS lt') (P.map f) = (xs.foldl (insS lt) P).map f
  | [], P => rfl
  | x :: xs, P => by rw [List.map_cons, List.foldl_cons, List.foldl_cons, ins_map f h]; exact srt_map_aux f h xs _
theorem srt_map (f : α → β) (h : ∀ a b, lt' (f a) (f b) = lt a b) (xs : List α) : srt lt' (xs.map f) = (srt lt xs).map f := srt_map_aux f h xs []
theorem pw_all {R : α → α → Prop} (hs : ∀ {a b}, R a b → R b a) : ∀ {l : List α}, l.Pairwise R → ∀ x ∈ l, ∀ y ∈ l, R x y ∨ x = y
  | [], _, x, hx, _, _ => by cases hx
  | a :: l, h, x, hx, y, hy => by
    rw [List.pairwise_cons] at h
    rcases List.mem_cons.1 hx with e1 | hx' <;> rcases List.mem_cons.1 hy with e2 | hy'
    · exact .inr (e1.trans e2.symm)
    · rw [e1]; exact .inl (h.1 y hy')
    · rw [e2]; exact .inl (hs (h.1 x hx'))
    · exact pw_all hs h.2 x hx' y hy'
end
/-- the order in which the program applies them -/
def ltI (p c q d : Int) : Bool := decide (orI [CmpI.cmpI q p, CmpI.cmpI d c] < 0)
def ltP (X Y : P) : Bool := ltI X.pos X.count Y.pos Y.count
theorem lt_iff {p c q d : Int} : ltI p c q d = true ↔ q < p ∨ (q = p ∧ d < c) := by
  unfold ltI
  rw [decide_eq_true_eq]
  unfold orI orI orI CmpI.cmpI
  by_cases h1 : q < p
  · rw [if_pos h1]; simp; omega
  · rw [if_neg h1]
    by_cases h2 : p < q
    · rw [if_pos h2]; simp; omega
    · rw [if_neg h2, if_pos rfl]
      by_cases h3 : d < c
      · rw [if_pos h3]; simp; omega
      · rw [if_neg h3]
        by_cases h4 : c < d
        · rw [if_pos h4]; simp; omega
        · rw [if_neg h4]; simp; omega
theorem lt_no {X Y : P} : ltP X Y = false ↔ ¬ (Y.pos < X.pos ∨ (Y.pos = X.pos ∧ Y.count < X.count)) := by
  rw [← Bool.not_eq_true]
  exact not_congr lt_iff
def splice (t : T) (x : P) : T := t.take x.pos.toNat ++ x.words ++ t.drop (x.pos + x.count).toNat
def fin (t : T) (S : List P) : T := S.foldl splice t
abbrev Ch (S : List P) : Prop := S.Pairwise (fun x y => y.pos + y.count ≤ x.pos)
theorem splice_app {a b : T} {y : P} (h0 : 0 ≤ y.pos) (h1 : 0 ≤ y.count) (h2 : y.pos + y.count ≤ a.length) : splice (a ++ b) y = splice a y ++ b := by
  unfold splice
  rw [List.take_append_of_le_length (by omega), List.drop_append_of_le_length (by omega)]
  simp only [List.append_assoc]
theorem splice_low {a : T} {y : P} (h0 : 0 ≤ y.pos) (h1 : 0 ≤ y.count) (h2 : y.pos + y.count ≤ a.length) : y.pos ≤ (splice a y).length ∧ (splice a y).length ≤ a.length + y.words.length := by
  unfold splice
  simp only [List.length_append, List.length_take, List.length_drop]
  omega
theorem fin_app : ∀ (S : List P) (a b : T), Ch S → (∀ x ∈ S, 0 ≤ x.pos ∧ 0 ≤ x.count ∧ x.pos + x.count ≤ a.length) → fin (a ++ b) S = fin a S ++ b
  | [], a, b, _, _ => rfl
  | y :: S, a, b, hc, hf => by
    obtain ⟨h0, h1, h2⟩ := hf y List.mem_cons_self
    have hc' := List.pairwise_cons.1 hc
    show fin (splice (a ++ b) y) S = fin (splice a y) S ++ b
    rw [splice_app h0 h1 h2]
    refine fin_app S _ b hc'.2 fun x hx => ⟨(hf x (List.mem_cons_of_mem _ hx)).1, (hf x (List.mem_cons_of_mem _ hx)).2.1, ?_⟩
    have := hc'.1 x hx
    have := (splice_low h0 h1 h2).1
    omega
theorem fin_next {t : T} {S : List P} {k : Nat} {y : P} (h : S[k]? = some y) : fin t (S.take (k + 1)) = splice (fin t (S.take k)) y := by
  obtain ⟨hk, rfl⟩ := List.getElem?_eq_some_iff.1 h
  unfold fin
  rw [List.take_succ_eq_append_getElem hk, List.foldl_append]
  rfl
theorem fin_all {t : T} {S : List P} {k : Nat} (h : S.length ≤ k) : fin t (S.take k) = fin t S := by rw [List.take_of_length_le h]
/-- each one fits what the ones before it made -/
theorem fit_next {t : T} {S : List P} (hc : Ch S) (hf : ∀ x ∈ S, 0 ≤ x.pos ∧ 0 ≤ x.count ∧ x.pos + x.count ≤ t.length ∧ x.words.length ≤ 5) : ∀ k, (∀ y, S[k]? = some y → y.pos + y.count ≤ ((fin t (S.take k)).length : Int)) ∧ (k ≤ S.length → (fin t (S.take k)).length ≤ t.length + k * 5)
  | 0 => ⟨fun y hy => (hf y (List.mem_of_getElem? hy)).2.2.1, fun _ => by simp [fin]⟩
  | k + 1 => by
    obtain ⟨ih1, ih2⟩ := fit_next hc hf k
    by_cases hk : k < S.length
    · have hx := List.getElem?_eq_getElem hk
      have hX := hf _ (List.getElem_mem hk)
      rw [fin_next hx]
      have hlo := splice_low hX.1 hX.2.1 (ih1 _ hx)
      refine ⟨fun y hy => ?_, fun h => ?_⟩
      · obtain ⟨hk1, rfl⟩ := List.getElem?_eq_some_iff.1 hy
        have := List.pairwise_iff_getElem.1 hc k (k + 1) hk hk1 (by omega)
        omega
      · have := ih2 (by omega)
        omega
    · exact ⟨fun y hy => absurd (List.getElem?_eq_some_iff.1 hy).1 (by omega), fun h => by omega⟩
abbrev St := T × Int
/-- the model: at place c -/
def stepM (c : Int) (s : St) (x : P) : St := if x.pos = c then (s.1 ++ x.words, mostI s.2 (c + x.count)) else s
def elt (t : T) (k : Nat) (s : St) : St := if k < t.length ∧ s.2 ≤ k then (s.1 ++ (t[k]?).toList, s.2) else s
def gst (t : T) (L : List P) : Nat → St
  | 0 => ([], 0)
  | k + 1 => elt t k (L.foldl (stepM k) (gst t L k))
def together (t : T) (L : List P) : T := (gst t L (t.length + 1)).1
theorem step_yes {c : Int} {s : St} {x : P} (h : x.pos = c) : stepM c s x = (s.1 ++ x.words, mostI s.2 (c + x.count)) := by unfold stepM; rw [if_pos h]
theorem step_no {c : Int} {s : St} {x : P} (h : ¬ x.pos = c) : stepM c s x = s := by unfold stepM; rw [if_neg h]
theorem most_comm (s a b : Int) : mostI (mostI s a) b = mostI (mostI s b) a := by
  unfold mostI
  repeat' split
  all_goals omega
theorem comm {x y : P} (h : progB (ch x) (ch y) = false ∨ x = y) (c : Int) (s : St) : stepM c (stepM c s x) y = stepM c (stepM c s y) x := by
  rcases h with h | rfl
  · by_cases hx : x.pos = c
    · by_cases hy : y.pos = c
      · rw [step_yes hx, step_yes hy, step_yes hy, step_yes hx]
        have hw : x.words = [] ∨ y.words = [] := by
          by_cases e1 : x.words = []
          · exact .inl e1
          · by_cases e2 : y.words = []
            · exact .inr e2
            · have l1 := List.length_pos_iff.2 e1
              have l2 := List.length_pos_iff.2 e2
              have : progB (ch x) (ch y) = true := (prog_iff _ _).2 (.inl ⟨show x.pos = y.pos by omega, .inr ⟨l1, l2⟩⟩)
              rw [h] at this; cases this
        refine Prod.ext ?_ (most_comm _ _ _)
        show (s.1 ++ x.words) ++ y.words = (s.1 ++ y.words) ++ x.words
        rcases hw with e | e <;> rw [e] <;> simp
      · rw [step_no hy, step_no hy]
    · rw [step_no hx, step_no hx]
  · rfl
theorem gst_perm {t : T} {L L' : List P} (hp : L.Perm L') (hc : ∀ x ∈ L, ∀ y ∈ L, progB (ch x) (ch y) = false ∨ x = y) : ∀ k, gst t L k = gst t L' k
  | 0 => rfl
  | k + 1 => by
    show elt t k _ = elt t k _
    rw [gst_perm hp hc k, List.Perm.foldl_eq' hp (fun x hx y hy z => comm (hc x hx y hy) k z)]
theorem fold_no {c : Int} : ∀ {S : List P} {s : St}, (∀ y ∈ S, ¬ y.pos = c) → S.foldl (stepM c) s = s
  | [], s, _ => rfl
  | y :: S, s, h => by rw [List.foldl_cons, step_no (h y List.mem_cons_self)]; exact fold_no fun z hz => h z (List.mem_cons_of_mem _ hz)
theorem skip_le {c q : Int} : ∀ {S : List P} {s : St}, s.2 ≤ q → (∀ y ∈ S, y.pos + y.count ≤ q) → (S.foldl (stepM c) s).2 ≤ q
  | [], s, h, _ => h
  | y :: S, s, h, hy => by
    rw [List.foldl_cons]
    refine skip_le ?_ fun z hz => hy z (List.mem_cons_of_mem _ hz)
    have := hy y List.mem_cons_self
    by_cases e : y.pos = c
    · rw [step_yes e]; show mostI s.2 (c + y.count) ≤ q; unfold mostI; split <;> omega
    · rw [step_no e]; exact h
theorem elt_two {t : T} {k : Nat} {s : St} : (elt t k s).2 = s.2 := by unfold elt; split <;> rfl
theorem gst_skip {t : T} {S : List P} {q : Int} (h0 : 0 ≤ q) (h : ∀ y ∈ S, y.pos + y.count ≤ q) : ∀ k, (gst t S k).2 ≤ q
  | 0 => h0
  | k + 1 => by show (elt t k _).2 ≤ q; rw [elt_two]; exact skip_le (gst_skip h0 h k) h
theorem elt_run {t B : T} {k e : Nat} : elt t k (B ++ (t.take k).drop e, (e : Int)) = (B ++ (t.take (k + 1)).drop e, (e : Int)) := by
  unfold elt
  split
  · rename_i h
    have h1 : e ≤ k := by have := h.2; simp only at this; omega
    rw [List.take_succ_eq_append_getElem h.1, List.drop_append_of_le_length (by rw [List.length_take]; omega), List.getElem?_eq_getElem h.1, ← List.append_assoc]
    rfl
  · rename_i h
    by_cases hk : k < t.length
    · have h2 : ¬ (e : Int) ≤ k := fun h' => h ⟨hk, h'⟩
      rw [List.drop_eq_nil_of_le (by rw [List.length_take]; omega), List.drop_eq_nil_of_le (by rw [List.length_take]; omega)]
    · rw [List.take_of_length_le (by omega), List.take_of_length_le (by omega)]
theorem together_cons {t : T} {x : P} {S : List P} (h0 : 0 ≤ x.pos) (h1 : 0 ≤ x.count) (h2 : x.pos + x.count ≤ t.length) (hS : ∀ y ∈ S, y.pos ≤ x.pos ∧ y.pos + y.count ≤ x.pos) (hc : ∀ a ∈ x :: S, ∀ b ∈ x :: S, progB (ch a) (ch b) = false ∨ a = b) :
    together t (x :: S) = together (t.take x.pos.toNat) S ++ (x.words ++ t.drop (x.pos + x.count).toNat) := by
  obtain ⟨p, hp⟩ : ∃ p : Nat, x.pos = p := ⟨x.pos.toNat, by omega⟩
  obtain ⟨e, he⟩ : ∃ e : Nat, x.pos + x.count = e := ⟨(x.pos + x.count).toNat, by omega⟩
  have ep : x.pos.toNat = p := by omega
  have ee : (x.pos + x.count).toNat = e := by omega
  rw [ep, ee]
  have hal : (t.take p).length = p := by rw [List.length_take]; omega
  have hA : ∀ k, k ≤ p → gst t (x :: S) k = gst (t.take p) S k := fun k => by
    induction k with
    | zero => intro _; rfl
    | succ k ih =>
      intro hk
      show elt t k ((x :: S).foldl (stepM k) (gst t (x :: S) k)) = elt (t.take p) k (S.foldl (stepM k) (gst (t.take p) S k))
      rw [ih (by omega), List.foldl_cons, step_no (by omega)]
      unfold elt
      rw [hal, List.getElem?_take, if_pos (show k < p by omega)]
      have i1 : k < t.length := by omega
      have i2 : k < p := by omega
      simp only [i1, i2, true_and]
  have hB : gst (t.take p) S (p + 1) = S.foldl (stepM p) (gst (t.take p) S p) := by
    show elt (t.take p) p _ = _
    unfold elt
    rw [if_neg (fun h => by have := h.1; omega)]
  have hsk : (gst (t.take p) S (p + 1)).2 ≤ (p : Int) := gst_skip (by omega) (fun y hy => by have := (hS y hy).2; omega) _
  have hG : gst t (x :: S) (p + 1) = elt t p ((gst (t.take p) S (p + 1)).1 ++ x.words, (e : Int)) := by
    show elt t p ((x :: S).foldl (stepM p) (gst t (x :: S) p)) = _
    rw [hA p (Nat.le_refl _), List.Perm.foldl_eq' (List.perm_append_singleton x S).symm (fun a ha b hb z => comm (hc a ha b hb) p z), List.foldl_append, ← hB]
    show elt t p (stepM p _ x) = _
    rw [step_yes hp]
    have : mostI (gst (t.take p) S (p + 1)).2 ((p : Int) + x.count) = (e : Int) := by unfold mostI; split <;> omega
    rw [this]
  have hE : ∀ j, gst t (x :: S) (p + 1 + j) = (((gst (t.take p) S (p + 1)).1 ++ x.words) ++ (t.take (p + 1 + j)).drop e, (e : Int)) := fun j => by
    induction j with
    | zero =>
      have h := elt_run (t := t) (B := (gst (t.take p) S (p + 1)).1 ++ x.words) (k := p) (e := e)
      rw [List.drop_eq_nil_of_le (show (t.take p).length ≤ e by omega), List.append_nil] at h
      exact hG.trans h
    | succ j ih =>
      show elt t (p + 1 + j) ((x :: S).foldl (stepM ((p + 1 + j : Nat) : Int)) (gst t (x :: S) (p + 1 + j))) = _
      rw [ih, fold_no (fun y hy => by
        rcases List.mem_cons.1 hy with rfl | hy
        · omega
        · have := (hS y hy).1; omega)]
      exact elt_run
  unfold together
  rw [hal]
  obtain ⟨j, hj⟩ : ∃ j, t.length + 1 = p + 1 + j := ⟨t.length - p, by omega⟩
  have hT : t.take (p + 1 + j) = t := List.take_of_length_le (by omega)
  rw [hj, hE j, hT, List.append_assoc]
theorem gst_nil {t : T} : ∀ k, gst t [] k = (t.take k, 0)
  | 0 => by simp [gst]
  | k + 1 => by
    show elt t k (gst t [] k) = _
    rw [gst_nil k]
    have h := elt_run (t := t) (B := []) (k := k) (e := 0)
    simpa using h
theorem fin_together : ∀ (S : List P) (t : T), Ch S → (∀ x ∈ S, 0 ≤ x.pos ∧ 0 ≤ x.count ∧ x.pos + x.count ≤ t.length) → (∀ a ∈ S, ∀ b ∈ S, progB (ch a) (ch b) = false ∨ a = b) → fin t S = together t S
  | [], t, _, _, _ => by unfold together; rw [gst_nil, List.take_of_length_le (by omega)]; rfl
  | x :: S, t, hc, hf, hn => by
    obtain ⟨h0, h1, h2⟩ := hf x List.mem_cons_self
    have hc' := List.pairwise_cons.1 hc
    have hS : ∀ y ∈ S, y.pos ≤ x.pos ∧ y.pos + y.count ≤ x.pos := fun y hy => by
      have := hc'.1 y hy
      have := (hf y (List.mem_cons_of_mem _ hy)).2.1
      omega
    rw [together_cons h0 h1 h2 hS hn]
    show fin (splice t x) S = _
    have e : splice t x = t.take x.pos.toNat ++ (x.words ++ t.drop (x.pos + x.count).toNat) := by unfold splice; rw [List.append_assoc]
    have hl : ((t.take x.pos.toNat).length : Int) = x.pos := by rw [List.length_take]; omega
    have hf2 : ∀ y ∈ S, 0 ≤ y.pos ∧ 0 ≤ y.count ∧ y.pos + y.count ≤ (t.take x.pos.toNat).length := fun y hy => by
      have := hf y (List.mem_cons_of_mem _ hy)
      have := (hS y hy).2
      rw [hl]
      omega
    rw [e, fin_app S _ _ hc'.2 hf2, fin_together S _ hc'.2 hf2 (fun a ha b hb => hn a (List.mem_cons_of_mem _ ha) b (List.mem_cons_of_mem _ hb))]
theorem facts {t : T} {z : List P} (h : propsB t z = true) : ∀ x ∈ z, 0 ≤ x.pos ∧ 0 ≤ x.count ∧ x.pos + x.count ≤ t.length ∧ x.words.length ≤ 5 := fun x hx => by
  have hg := props_good h x hx
  have hf := (ok_parts (props_all h x hx)).2.2.2
  unfold fits fitsN at hf
  simp only [Bool.and_eq_true, decide_eq_true_eq] at hf
  have h1 := good_parts hg
  exact ⟨h1.1.1, h1.2.2.2.1, hf.1.1, good_lens hg⟩
theorem free_prog {t : T} {z : List P} (h : propsB t z = true) (hf : freeL z = true) : z.Pairwise (fun a b => progB (ch a) (ch b) = false) := by
  refine List.Pairwise.imp_of_mem ?_ ((free_pairwise z).1 hf)
  intro a b ha hb hab
  rw [prog_symm, conf_prog (props_good h b hb) (props_good h a ha)]
  exact hab
theorem srt_facts {t : T} {z : List P} (h : propsB t z = true) (hf : freeL z = true) : Ch (srt ltP z) ∧ (∀ x ∈ srt ltP z, 0 ≤ x.pos ∧ 0 ≤ x.count ∧ x.pos + x.count ≤ t.length ∧ x.words.length ≤ 5) ∧ fin t (srt ltP z) = together t z := by
  have hp := srt_perm (lt := ltP) z
  have hpr := free_prog h hf
  have hpr2 := (List.Perm.pairwise_iff (fun {a b} (h : progB (ch a) (ch b) = false) => (prog_symm (ch b) (ch a)).trans h) hp).2 hpr
  have hmem : ∀ x ∈ srt ltP z, x ∈ z := fun x hx => srt_mem hx
  have hfa := fun x hx => facts h x (hmem x hx)
  have hso : (srt ltP z).Pairwise (fun a b => ltP b a = false) := srt_sorted (fun a b c h1 h2 => by rw [lt_no] at *; omega) (fun a b h1 => by
    have h1 : ltI a.pos a.count b.pos b.count = true := h1
    rw [lt_iff] at h1
    rw [lt_no]
    omega) z
  have hch : Ch (srt ltP z) := by
    refine List.Pairwise.imp_of_mem ?_ (hpr2.and hso)
    intro a b ha hb hab
    obtain ⟨h1, h2⟩ := hab
    rw [lt_no] at h2
    have h3 : ¬ progB (ch a) (ch b) = true := by rw [h1]; decide
    rw [prog_iff] at h3
    have fa := hfa a ha
    have fb := hfa b hb
    have h4 : ¬ (a.pos = b.pos ∧ (0 < a.count ∧ 0 < b.count)) := fun hh => h3 (.inl ⟨hh.1, .inl hh.2⟩)
    have h5 : ¬ (b.pos < a.pos ∧ a.pos < b.pos + b.count) := fun hh => h3 (.inr (.inl hh))
    omega
  have hcm := pw_all (fun {a b} (h : progB (ch a) (ch b) = false) => (prog_symm (ch b) (ch a)).trans h) hpr2
  refine ⟨hch, hfa, ?_⟩
  rw [fin_together _ t hch (fun x hx => ⟨(hfa x hx).1, (hfa x hx).2.1, (hfa x hx).2.2.1⟩) hcm]
  unfold together
  rw [gst_perm hp hcm]
/-- the program asks for the pairs that conflict -/
theorem pairs_free (z : List P) : (pairs z).length = 0 ↔ ∀ i j, i < j → j < z.length → cf z i j = false := by
  rw [List.length_eq_zero_iff]
  unfold pairs rows
  rw [List.flatMap_eq_nil_iff]
  constructor
  · intro h i j hij hj
    have h1 := h i (List.mem_range.2 (by omega))
    unfold row rowTo at h1
    rw [List.map_eq_nil_iff, List.filter_eq_nil_iff] at h1
    have h2 := h1 j (List.mem_range.2 hj)
    rw [decide_eq_true hij, Bool.true_and] at h2
    simpa using h2
  · intro h i hi
    unfold row rowTo
    rw [List.map_eq_nil_iff, List.filter_eq_nil_iff]
    intro j hj
    have hj := List.mem_range.1 hj
    by_cases hij : i < j
    · rw [h i j hij hj]; simp
    · rw [decide_eq_false hij]; simp
end Go.Proofs.YtclpdpfnlmfogaaDoor.CfT
