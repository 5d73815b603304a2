/- Proxies: all weights are held; those present; a proxy given and revoked. Plain mathematics. -/
import Derived.Test.YtdjnaoaniokbgaaVoJ
import Derived.Test.YtdjnaoaniokbgaaVoX
namespace Go.Proofs.Ytdjnaoaniokbgaa.VoM
open Go.RowKit Bs Word Sq IntF Vo VoJ VoX VoH
set_option linter.unusedVariables false
def tot : List Int → Int
  | [] => 0
  | x :: l => x + tot l
theorem tot_app : ∀ (a b : List Int), tot (a ++ b) = tot a + tot b
  | [], b => by show tot b = 0 + tot b; omega
  | x :: a, b => by show x + tot (a ++ b) = x + tot a + tot b; rw [tot_app a b]; omega
theorem tot_take {l : List Int} {k : Nat} {x : Int} (hx : l[k]? = some x) : tot (l.take (k + 1)) = tot (l.take k) + x := by
  rw [List.take_add_one, hx, tot_app]; show _ + (x + 0) = _; omega
theorem tot_set : ∀ (l : List Int) (i : Nat) (x : Int), i < l.length → tot (l.set i (l.getD i 0 + x)) = tot l + x
  | [], i, x, h => by simp at h
  | y :: l, 0, x, _ => by show (y + x) + tot l = y + tot l + x; omega
  | y :: l, i + 1, x, h => by
    have := tot_set l i x (by simpa using h)
    show y + tot (l.set i (l.getD i 0 + x)) = y + tot l + x
    omega
theorem tot_rep (n : Nat) : tot (List.replicate n 0) = 0 := by
  induction n with
  | zero => rfl
  | succ n ih => rw [List.replicate_succ]; show 0 + tot _ = 0; omega
theorem tot_held {v : V} (h : GP v) : ∀ k, k ≤ v.weights.length → tot (held v k) = tot (v.weights.take k)
  | 0, _ => by show tot (List.replicate _ 0) = 0; exact tot_rep _
  | k + 1, hk => by
    have hx := List.getElem?_eq_getElem (show k < v.weights.length by omega)
    have hh := holder_in h.p h.e (i := (k : Nat)) (by omega) (by omega)
    rw [← held_next hx, tot_set _ _ _ (by rw [held_len]; omega), tot_held h k (by omega), tot_take hx]
theorem tot_hd {v : V} (h : GP v) : tot (hd v) = tot v.weights := by
  have := tot_held h _ (Nat.le_refl _)
  rwa [List.take_length] at this
theorem tot_tall {v : V} {z : List Int} (hz : z.length = v.weights.length) (hc : CastP z) : ∀ k, k ≤ z.length → tot (tall v z k) = tot ((hd v).take k)
  | 0, _ => rfl
  | k + 1, hk => by
    have hx := List.getElem?_eq_getElem (show k < z.length by omega)
    have hy := List.getElem?_eq_getElem (show k < (hd v).length by rw [hd_len]; omega)
    have hb := inB_yes (hc k _ hx)
    rw [← tall_next hx hy, tot_set _ _ _ (by rw [tall_len]; omega), tot_tall hz hc k (by omega), tot_take hy]
theorem cast_sum {v : V} {z : List Int} (h : GP v) (hz : z.length = v.weights.length) (hc : CastP z) : tot (tall v z z.length) = tot v.weights := by
  rw [tot_tall hz hc _ (Nat.le_refl _), List.take_of_length_le (by rw [hd_len]; omega), tot_hd h]
/-- who has a proxy holds nothing -/
theorem held_no {v : V} (h : GP v) {i : Nat} (hi : ¬ nxt v.proxies i < 0) : ∀ k, k ≤ v.weights.length → (held v k).getD i 0 = 0
  | 0, _ => by
    show (List.replicate v.weights.length (0 : Int)).getD i 0 = 0
    rw [List.getD_eq_getElem?_getD, List.getElem?_replicate]
    split <;> rfl
  | k + 1, hk => by
    have hh := holder_in h.p h.e (i := (k : Nat)) (by omega) (by omega)
    have hn := (ends_way (ends_all h.e (k : Nat))).2.2
    have hne : (holder v.proxies (k : Nat)).toNat ≠ i := fun e => by
      apply hi
      rw [show ((i : Nat) : Int) = holder v.proxies (k : Nat) by omega]; exact hn
    show (bump (held v k) (holder v.proxies (k : Nat)) (wt v k)).getD i 0 = 0
    unfold bump
    rw [List.getD_eq_getElem?_getD, List.getElem?_set_ne hne, ← List.getD_eq_getElem?_getD]
    exact held_no h hi k (by omega)
def psl (v : V) : List Int → Int
  | [] => 0
  | x :: z => (hd v).getD x.toNat 0 + psl v z
theorem psl_app (v : V) : ∀ (a b : List Int), psl v (a ++ b) = psl v a + psl v b
  | [], b => by show psl v b = 0 + psl v b; omega
  | x :: a, b => by show _ + psl v (a ++ b) = _ + psl v a + psl v b; rw [psl_app v a b]; omega
theorem psum_psl (v : V) (z : List Int) : ∀ k, k ≤ z.length → psum v z k = psl v (z.take k)
  | 0, _ => rfl
  | k + 1, hk => by
    have hx := List.getElem?_eq_getElem (show k < z.length by omega)
    rw [psum_next hx, psum_psl v z k (by omega), List.take_add_one, hx, psl_app]
    show _ = _ + (_ + 0)
    omega
theorem psum_all (v : V) (z : List Int) : psum v z z.length = psl v z := by rw [psum_psl v z _ (Nat.le_refl _), List.take_length]
theorem psl_direct {v : V} (h : GP v) : ∀ k, k ≤ v.weights.length → psl v (direct v k) = tot ((hd v).take k)
  | 0, _ => rfl
  | k + 1, hk => by
    have hy := List.getElem?_eq_getElem (show k < (hd v).length by rw [hd_len]; omega)
    have hg : (hd v).getD k 0 = (hd v)[k]'(by rw [hd_len]; omega) := by rw [List.getD_eq_getElem?_getD, hy]; rfl
    rw [tot_take hy, ← hg, ← psl_direct h k (by omega)]
    show psl v (direct v k ++ _) = _
    rw [psl_app]
    by_cases hn : nxt v.proxies k < 0
    · rw [if_pos hn]; show _ + ((hd v).getD ((k : Nat) : Int).toNat 0 + 0) = _; rw [Int.toNat_natCast]; omega
    · rw [if_neg hn, show (hd v).getD k 0 = 0 from held_no h hn _ (Nat.le_refl _)]; rfl
theorem direct_sum {v : V} (h : GP v) : psum v (direct v v.weights.length) (direct v v.weights.length).length = tot v.weights := by
  rw [psum_all, psl_direct h _ (Nat.le_refl _), List.take_of_length_le (by rw [hd_len]; omega), tot_hd h]
theorem tot_nonneg : ∀ (l : List Int), (∀ x ∈ l, 0 ≤ x) → 0 ≤ tot l
  | [], _ => Int.le_refl _
  | x :: l, h => by
    have h1 := h x (List.mem_cons_self ..)
    have h2 := tot_nonneg l (fun y hy => h y (List.mem_cons_of_mem _ hy))
    show 0 ≤ x + tot l; omega
theorem tot_drop : ∀ (l : List Int), (∀ x ∈ l, 0 ≤ x) → ∀ a b, a ≤ b → tot (l.drop b) ≤ tot (l.drop a)
  | [], _, a, b, _ => by simp
  | x :: l, h, 0, b, _ => by
    cases b with
    | zero => exact Int.le_refl _
    | succ b =>
      have h2 := tot_drop l (fun y hy => h y (List.mem_cons_of_mem _ hy)) 0 b (Nat.zero_le _)
      have h1 := h x (List.mem_cons_self ..)
      show tot (l.drop b) ≤ x + tot l
      rw [List.drop_zero] at h2; omega
  | x :: l, h, a + 1, b, hab => by
    cases b with
    | zero => omega
    | succ b => exact tot_drop l (fun y hy => h y (List.mem_cons_of_mem _ hy)) a b (by omega)
theorem drop_at {l : List Int} {k : Nat} (h : k < l.length) : tot (l.drop k) = l.getD k 0 + tot (l.drop (k + 1)) := by
  rw [List.drop_eq_getElem_cons h, List.getD_eq_getElem?_getD, List.getElem?_eq_getElem h]; rfl
def Ch (n : Nat) : Nat → List Int → Prop
  | _, [] => True
  | lo, x :: t => (lo : Int) ≤ x ∧ x < n ∧ Ch n (x.toNat + 1) t
theorem ch_of {n : Nat} : ∀ (z : List Int) (lo : Nat), (∀ (i : Nat) (x : Int), z[i]? = some x → (0 ≤ x ∧ x < n) ∧ (∀ p, 0 < i → z[i - 1]? = some p → p < x) ∧ (i = 0 → (lo : Int) ≤ x)) → Ch n lo z
  | [], lo, _ => trivial
  | x :: t, lo, h => by
    have h0 := h 0 x rfl
    refine ⟨h0.2.2 rfl, h0.1.2, ch_of t _ fun i y hy => ?_⟩
    have h1 := h (i + 1) y (by simpa using hy)
    refine ⟨h1.1, fun p hi hp => h1.2.1 p (by omega) ?_, fun hi => ?_⟩
    · cases i with
      | zero => omega
      | succ i => simpa using hp
    · subst hi
      have := h1.2.1 x (by omega) rfl
      have := h0.1.1
      omega
theorem ch_le {v : V} (h : ∀ x ∈ hd v, 0 ≤ x) : ∀ (z : List Int) (lo : Nat), Ch v.weights.length lo z → psl v z ≤ tot ((hd v).drop lo)
  | [], lo, _ => tot_nonneg _ (fun x hx => h x (List.mem_of_mem_drop hx))
  | x :: t, lo, ⟨h1, h2, h3⟩ => by
    have ih := ch_le h t _ h3
    have hx : x.toNat < (hd v).length := by rw [hd_len]; omega
    have e := drop_at hx
    have hd_ := tot_drop (hd v) h lo x.toNat (by omega)
    show (hd v).getD x.toNat 0 + psl v t ≤ _
    omega
theorem hd_nonneg {v : V} (h : GP v) : ∀ x ∈ hd v, 0 ≤ x := fun x hx => by
  obtain ⟨i, hi⟩ := List.getElem?_of_mem hx
  have := (hd_in h i).1
  rw [List.getD_eq_getElem?_getD, hi] at this
  exact this
theorem present_le {v : V} {z : List Int} (h : GP v) (hr : risB z 0 ((v.weights.length : Int) - 1) = true) : psum v z z.length ≤ tot v.weights := by
  rw [psum_all, ← tot_hd h]
  refine ch_le (hd_nonneg h) z 0 (ch_of z 0 fun i x hx => ?_)
  have h1 := ris_of hr i x hx
  have h2 := inB_yes h1.1
  exact ⟨by omega, h1.2, fun _ => by omega⟩
theorem direct_at (v : V) : ∀ (k i : Nat) (x : Int), (direct v k)[i]? = some x → (0 ≤ x ∧ x < k) ∧ ∀ p, 0 < i → (direct v k)[i - 1]? = some p → p < x
  | 0, i, x, h => by simp [direct] at h
  | k + 1, i, x, h => by
    have hD : direct v (k + 1) = direct v k ++ (if nxt v.proxies k < 0 then [(k : Int)] else []) := rfl
    rw [hD] at h ⊢
    rcases Nat.lt_or_ge i (direct v k).length with h' | h'
    · rw [List.getElem?_append_left h'] at h
      have ih := direct_at v k i x h
      refine ⟨by omega, fun p hi hp => ?_⟩
      rw [List.getElem?_append_left (by omega)] at hp
      exact ih.2 p hi hp
    · rw [List.getElem?_append_right h'] at h
      by_cases hn : nxt v.proxies k < 0
      · rw [if_pos hn] at h
        have hi : i - (direct v k).length = 0 := by
          rcases Nat.eq_zero_or_pos (i - (direct v k).length) with e | e
          · exact e
          · rw [List.getElem?_eq_none (by simp; omega)] at h; cases h
        rw [hi] at h
        have hx : (k : Int) = x := by simpa using h
        subst hx
        refine ⟨by omega, fun p h0 hp => ?_⟩
        rw [List.getElem?_append_left (by omega)] at hp
        have := (direct_at v k (i - 1) p hp).1
        omega
      · rw [if_neg hn] at h; simp at h
theorem direct_ris (v : V) : risB (direct v v.weights.length) 0 ((v.weights.length : Int) - 1) = true := ris_yes fun i x hx => by
  have h := direct_at v _ i x hx
  exact ⟨inB_mk (by omega) (by omega), h.2⟩
theorem direct_mem (v : V) : ∀ (k : Nat) (x : Int), x ∈ direct v k ↔ (0 ≤ x ∧ x < k) ∧ nxt v.proxies x < 0
  | 0, x => by
    constructor
    · intro h; cases h
    · rintro ⟨h, _⟩; omega
  | k + 1, x => by
    show x ∈ direct v k ++ _ ↔ _
    rw [List.mem_append, direct_mem v k x]
    by_cases hn : nxt v.proxies k < 0
    · rw [if_pos hn, List.mem_singleton]
      constructor
      · rintro (⟨h1, h2⟩ | rfl)
        · exact ⟨by omega, h2⟩
        · exact ⟨by omega, hn⟩
      · rintro ⟨h1, h2⟩
        by_cases e : x = k
        · exact .inr e
        · exact .inl ⟨by omega, h2⟩
    · rw [if_neg hn]
      constructor
      · rintro (⟨h1, h2⟩ | h)
        · exact ⟨by omega, h2⟩
        · cases h
      · rintro ⟨h1, h2⟩
        refine .inl ⟨⟨h1.1, ?_⟩, h2⟩
        by_cases e : x = k
        · rw [e] at h2; exact absurd h2 hn
        · omega
theorem has_direct (v : V) {x : Int} (h0 : 0 ≤ x) (h1 : x < v.weights.length) : hasB (direct v v.weights.length) x = decide (nxt v.proxies x < 0) := by
  rw [Bool.eq_iff_iff, has_iff, direct_mem, decide_eq_true_eq]
  exact ⟨fun h => h.2, fun h => ⟨⟨h0, h1⟩, h⟩⟩
theorem steps_zero {ps : List P} {i : Int} (h : VEnds ps i) : steps ps i = 0 ↔ nxt ps i < 0 := by
  obtain ⟨h1, h2, h3⟩ := ends_way h
  constructor
  · intro e
    rw [e] at h2
    have h2' : i = holder ps i := h2
    rw [← h2'] at h3; exact h3
  · intro e; unfold steps; rw [go_end e]
theorem holder_self {ps : List P} {i : Int} (h : VEnds ps i) : holder ps i = i ↔ steps ps i = 0 := by
  obtain ⟨h1, h2, h3⟩ := ends_way h
  constructor
  · intro e
    rcases Nat.eq_zero_or_pos (steps ps i) with h' | h'
    · exact h'
    · exact absurd (show it ps 0 i = it ps (steps ps i) i by rw [h2, e]; rfl) (ends_apart h1 (by rw [h2]; exact h3) h' (Nat.le_refl _))
  · intro e
    rw [e] at h2
    exact h2.symm
/-- one step leads to the same holder -/
theorem holder_next {ps : List P} {i : Int} (h : VEnds ps i) (h' : VEnds ps (nxt ps i)) (hn : ¬ nxt ps i < 0) : holder ps i = holder ps (nxt ps i) := by
  obtain ⟨a1, a2, a3⟩ := ends_way h
  obtain ⟨b1, b2, b3⟩ := ends_way h'
  have ha : ¬ steps ps i = 0 := fun e => hn ((steps_zero h).1 e)
  obtain ⟨s, hs⟩ : ∃ s, steps ps i = s + 1 := ⟨steps ps i - 1, by omega⟩
  rw [hs] at a1 a2
  rw [it_front] at a2
  have hA : ∀ j, j < s → ¬ nxt ps (it ps j (nxt ps i)) < 0 := fun j hj => by have := a1 (j + 1) (by omega); rwa [it_front] at this
  have e : s = steps ps (nxt ps i) := by
    rcases Nat.lt_trichotomy s (steps ps (nxt ps i)) with g | g | g
    · exact absurd (show nxt ps (it ps s (nxt ps i)) < 0 by rw [a2]; exact a3) (b1 s g)
    · exact g
    · exact absurd (show nxt ps (it ps (steps ps (nxt ps i)) (nxt ps i)) < 0 by rw [b2]; exact b3) (hA _ g)
  rw [← a2, e, b2]
theorem nxt_put {v : V} {m t : Int} (h : GP (given v m t)) : nxt (put v.proxies ⟨m, t⟩) m = t :=
  nxt_hit (X := ⟨m, t⟩) (k := pos v.proxies m) (fun j Y hj hy => by
    have hl : (v.proxies.take (pos v.proxies m)).length = pos v.proxies m := by rw [List.length_take]; have := pos_le v.proxies m; omega
    unfold put at hy
    rw [List.getElem?_append_left (by show j < (v.proxies.take (pos v.proxies m)).length; omega), List.getElem?_take, if_pos hj] at hy
    have := pos_lt hy hj
    simp; omega) (put_at v.proxies ⟨m, t⟩) (by simp)
theorem given_in {v : V} {m t : Int} (h : GP (given v m t)) : (0 ≤ m ∧ m < v.weights.length) ∧ 0 ≤ t ∧ t < v.weights.length := ok_in (h.p _ _ (put_at v.proxies ⟨m, t⟩)).1
theorem given_holder {v : V} {m t : Int} (h : GP (given v m t)) : holder (given v m t).proxies m = holder (given v m t).proxies t := by
  have hn := nxt_put h
  have ht := (given_in h).2
  have := holder_next (ends_all h.e m) (ends_all h.e _) (show ¬ nxt (given v m t).proxies m < 0 by show ¬ nxt (put v.proxies ⟨m, t⟩) m < 0; rw [hn]; omega)
  rw [this]
  show holder (put v.proxies ⟨m, t⟩) (nxt (put v.proxies ⟨m, t⟩) m) = _
  rw [hn]; rfl
theorem given_has {v : V} {m t : Int} (h : GP (given v m t)) : has (given v m t).proxies m = true := by
  cases hh : has (given v m t).proxies m with
  | true => rfl
  | false =>
    have h1 := (nxt_has h.p m).2 hh
    have h2 : nxt (given v m t).proxies m = t := nxt_put h
    have := (given_in h).2.1
    omega
-- ---------------------------------------------------------------- a proxy revoked
theorem nxt_others (z : List P) (m i : Int) : nxt (others z m) i = if i = m then -1 else nxt z i := by
  induction z with
  | nil => split <;> rfl
  | cons X z ih =>
    have hc : ∀ (l : List P) (j : Int), nxt (X :: l) j = if X.src = j then X.dst else nxt l j := fun l j => by
      by_cases e : X.src = j
      · rw [if_pos e]; exact nxt_hit (k := 0) first_zero rfl (by simpa using e)
      · rw [if_neg e]
        unfold nxt got
        rw [List.findIdx?_cons, if_neg (by simpa using e)]
        cases (l.findIdx? fun X => X.src == j) with
        | none => rfl
        | some k => rfl
    unfold others at ih ⊢
    rw [List.filter_cons]
    by_cases e : X.src = m
    · rw [if_neg (by simpa using e), ih, hc]
      by_cases hi : i = m
      · rw [if_pos hi, if_pos hi]
      · rw [if_neg hi, if_neg hi, if_neg (by omega)]
    · rw [if_pos (by simpa using e), hc, hc, ih]
      by_cases hx : X.src = i
      · rw [if_pos hx, if_pos hx, if_neg (by omega)]
      · rw [if_neg hx, if_neg hx]
theorem revoked_good {v : V} {m : Int} (h : GP v) : GP (revoked v m) := by
  have hs := sorted_of h.p
  refine ⟨h.w, fun i X hX => ?_, h.n, ?_⟩
  · have hm : X ∈ v.proxies := (List.mem_filter.1 (List.mem_of_getElem? (show (others v.proxies m)[i]? = some X from hX))).1
    obtain ⟨j, hj⟩ := List.getElem?_of_mem hm
    refine ⟨(h.p j X hj).1, fun p h0 hp => ?_⟩
    have hpw : (others v.proxies m).Pairwise (fun a b => a.src < b.src) := by
      refine List.Pairwise.filter _ ?_
      rw [List.pairwise_iff_getElem]
      intro a b ha hb hab
      exact hs b _ (List.getElem?_eq_getElem hb) a _ hab (List.getElem?_eq_getElem ha)
    rw [List.pairwise_iff_getElem] at hpw
    obtain ⟨hi, rfl⟩ := List.getElem?_eq_some_iff.1 (show (others v.proxies m)[i]? = some X from hX)
    obtain ⟨hi', rfl⟩ := List.getElem?_eq_some_iff.1 (show (others v.proxies m)[i - 1]? = some p from hp)
    exact hpw (i - 1) i hi' hi (by omega)
  · have hall : ∀ i, VEnds (others v.proxies m) i := fun i => by
      refine Classical.byContradiction fun hne => ?_
      have hA := (circle hne).1
      have hit : ∀ k, it (others v.proxies m) k i = it v.proxies k i := by
        intro k
        induction k with
        | zero => rfl
        | succ k ih =>
          have h1 := hA (k + 1) k (by omega)
          show nxt (others v.proxies m) (it (others v.proxies m) k i) = nxt v.proxies (it v.proxies k i)
          rw [nxt_others] at h1 ⊢
          split at h1
          · exact absurd (show (-1 : Int) < 0 by omega) h1
          · rename_i hm; rw [if_neg hm, ih]
      obtain ⟨b1, b2, b3⟩ := ends_way (ends_all h.e i)
      have h1 := hA (steps v.proxies i + 1) (steps v.proxies i) (by omega)
      rw [hit, b2, nxt_others] at h1
      split at h1
      · exact h1 (by omega)
      · exact h1 b3
    exact fun i X hX => hall X.src
theorem revoked_holder {v : V} {m : Int} : holder (revoked v m).proxies m = m := by
  have : nxt (others v.proxies m) m < 0 := by rw [nxt_others, if_pos rfl]; omega
  show holder (others v.proxies m) m = m
  unfold holder; rw [go_end this]
end Go.Proofs.Ytdjnaoaniokbgaa.VoM
