/- FnSections: the mathematics, the law's own comparisons. -/
import Derived.Test.YtmpolpeomabcfaaCutSectionC
import Derived.Test.YtmpolpeomabcfaaAddSectionC
import Derived.Test.YtmpolpeomabcfaaShiftSectionC
import Derived.Test.YtmpolpeomabcfaaBelongsToC
import Derived.Test.YtmpolpeomabcfaaPartOfC
import Derived.BigQuiet
namespace Go.Proofs.Ytmpolpeomabcfaa.SecM
open Go.RowKit Bs Word Doc
set_option linter.unusedVariables false
theorem tw_stop (p : M → Bool) : ∀ (l : List M) (r : M), l[(l.takeWhile p).length]? = some r → p r = false
  | [], r, h => by simp at h
  | x :: l, r, h => by
    rw [List.takeWhile_cons] at h
    by_cases hp : p x = true
    · rw [if_pos hp, List.length_cons, List.getElem?_cons_succ] at h
      exact tw_stop p l r h
    · rw [if_neg hp] at h
      simp only [List.length_nil, List.getElem?_cons_zero, Option.some.injEq] at h
      rw [← h]; simpa using hp
theorem tw_ge (p : M → Bool) : ∀ (l : List M) (k : Nat), (∀ m, m < k → ∃ r, l[m]? = some r ∧ p r = true) → k ≤ (l.takeWhile p).length
  | l, 0, _ => Nat.zero_le _
  | [], k + 1, h => by obtain ⟨r, hr, _⟩ := h 0 (by omega); simp at hr
  | x :: l, k + 1, h => by
    obtain ⟨r, hr, hp⟩ := h 0 (by omega)
    simp only [List.getElem?_cons_zero, Option.some.injEq] at hr
    rw [List.takeWhile_cons, if_pos (by rw [hr]; exact hp), List.length_cons]
    have := tw_ge p l k (fun m hm => by
      obtain ⟨r, hr, hp⟩ := h (m + 1) (by omega)
      exact ⟨r, by rwa [List.getElem?_cons_succ] at hr, hp⟩)
    omega
theorem tw_in (p : M → Bool) : ∀ (l : List M) (m : Nat), m < (l.takeWhile p).length → ∃ r, l[m]? = some r ∧ p r = true
  | [], m, h => by simp at h
  | x :: l, m, h => by
    rw [List.takeWhile_cons] at h
    by_cases hp : p x = true
    · rw [if_pos hp, List.length_cons] at h
      cases m with
      | zero => exact ⟨x, by simp, hp⟩
      | succ m =>
        obtain ⟨r, hr, hq⟩ := tw_in p l m (by omega)
        exact ⟨r, by rw [List.getElem?_cons_succ]; exact hr, hq⟩
    · rw [if_neg hp] at h; simp at h
theorem prt_stop {z : List M} {k : Nat} {X : M} (h : z[k + 1 + prt z k]? = some X) : X.depth ≤ dep z k := by
  have := tw_stop (deeper (dep z k)) (z.drop (k + 1)) X (by rw [List.getElem?_drop]; exact h)
  unfold deeper at this
  have := of_decide_eq_false this
  omega
theorem prt_in {z : List M} {k m : Nat} (h1 : k < m) (h2 : m < k + 1 + prt z k) : m < z.length ∧ dep z k < dep z m := by
  obtain ⟨r, hr, hp⟩ := tw_in (deeper (dep z k)) (z.drop (k + 1)) (m - k - 1) (by unfold prt at h2; omega)
  rw [List.getElem?_drop, show k + 1 + (m - k - 1) = m by omega] at hr
  unfold deeper at hp
  exact ⟨(List.getElem?_eq_some_iff.1 hr).1, by rw [dep_at hr]; exact of_decide_eq_true hp⟩
theorem prt_ge {z : List M} {k E : Nat} (h : ∀ m, k < m → m < E → m < z.length ∧ dep z k < dep z m) : E - (k + 1) ≤ prt z k := by
  unfold prt
  refine tw_ge _ _ _ (fun m hm => ?_)
  have := h (k + 1 + m) (by omega) (by omega)
  have hr := List.getElem?_eq_getElem this.1
  refine ⟨_, by rw [List.getElem?_drop]; exact hr, ?_⟩
  unfold deeper
  have h2 := this.2
  rw [dep_at hr] at h2
  exact decide_eq_true h2
/-- what is left behind a cut is a document -/
theorem cut_good {z : List M} {k : Nat} (hg : goodB z = true) (hk : k < z.length) : goodB (z.take k ++ z.drop (k + 1 + prt z k)) = true := by
  have hl := prt_le z k hk
  have h12 := good_len hg
  refine good_yes ⟨by simp; omega, fun i r hi hr => ?_⟩
  have htl : (z.take k).length = k := by rw [List.length_take]; omega
  rcases Nat.lt_or_ge i k with h1 | h1
  · have e : (z.take k ++ z.drop (k + 1 + prt z k))[i]? = z[i]? := by rw [List.getElem?_append_left (by omega), List.getElem?_take, if_pos h1]
    rw [e] at hr
    have hb : bef (z.take k ++ z.drop (k + 1 + prt z k)) i = bef z i := by
      cases i with
      | zero => rfl
      | succ i =>
        show dep _ i = dep z i
        unfold dep
        rw [List.getElem?_append_left (by omega), List.getElem?_take, if_pos (by omega)]
    rw [hb]; exact good_at hg hr
  · have e : (z.take k ++ z.drop (k + 1 + prt z k))[i]? = z[k + 1 + prt z k + (i - k)]? := by rw [List.getElem?_append_right (by omega), htl, List.getElem?_drop]
    rw [e] at hr
    have h2 := good_at hg hr
    rcases Nat.lt_or_ge k i with h3 | h3
    · have hb : bef (z.take k ++ z.drop (k + 1 + prt z k)) i = bef z (k + 1 + prt z k + (i - k)) := by
        obtain ⟨j, rfl⟩ : ∃ j, i = j + 1 := ⟨i - 1, by omega⟩
        rw [show k + 1 + prt z k + (j + 1 - k) = (k + 1 + prt z k + (j - k)) + 1 by omega]
        show dep _ j = dep z _
        unfold dep
        rw [List.getElem?_append_right (by omega), htl, List.getElem?_drop]
      rw [hb]; exact h2
    · obtain rfl : i = k := by omega
      rw [Nat.sub_self, Nat.add_zero] at hr
      have hd := prt_stop hr
      have hx := good_at hg (List.getElem?_eq_getElem hk)
      have hb : bef (z.take i ++ z.drop (i + 1 + prt z i)) i = bef z i := by
        cases i with
        | zero => rfl
        | succ i =>
          show dep _ i = dep z i
          unfold dep
          rw [List.getElem?_append_left (by omega), List.getElem?_take, if_pos (by omega)]
      have p1 := ok_parts h2
      have p2 := ok_parts hx
      rw [dep_at (List.getElem?_eq_getElem hk)] at hd
      rw [hb]
      unfold okB
      rw [inB_mk p1.1 (by omega), p1.2.2]; rfl
theorem cut_told {z r0 : List M} {i : Int} (h : CutSectionC.Ans z i r0 true) : goodB z = true ∧ goodB r0 = true ∧ ∃ k : Nat, i = k ∧ k < z.length ∧ r0 = z.take k ++ z.drop (k + 1 + prt z k) := by
  unfold CutSectionC.Ans CutSectionC.anA at h
  split at h
  · rename_i hq
    obtain ⟨hg, k, rfl, hk⟩ := ask_good hq
    simp only [Prod.mk.injEq, and_true] at h
    refine ⟨hg, ?_, k, rfl, hk, h.symm⟩
    rw [← h]; exact cut_good hg hk
  · simp at h
theorem cut_part {z r0 : List M} {i x : Int} {r1 b : Bool} (h : CutSectionC.Ans z i r0 r1) (h' : PartOfC.Ans z i x b) : b = r1 ∧ (r1 = true → x = (prt z i.toNat : Nat)) := by
  unfold CutSectionC.Ans CutSectionC.anA at h
  unfold PartOfC.Ans PartOfC.anA at h'
  split at h
  · rename_i hq
    rw [if_pos hq] at h'
    simp only [Prod.mk.injEq] at h h'
    exact ⟨h'.2.symm.trans h.2, fun _ => h'.1.symm⟩
  · rename_i hq
    rw [if_neg hq] at h'
    simp only [Prod.mk.injEq] at h h'
    exact ⟨h'.2.symm.trans h.2, fun e => by rw [← h.2] at e; cases e⟩
theorem cut_len {z r0 : List M} {i x : Int} (h : CutSectionC.Ans z i r0 true) (hx : x = (prt z i.toNat : Nat)) : (r0.length : Int) = (z.length : Int) - x - 1 ∧ 0 ≤ x ∧ x + 1 ≤ (z.length : Int) := by
  obtain ⟨hg, _, k, rfl, hk, rfl⟩ := cut_told h
  have hl := prt_le z k hk
  rw [hx, show ((k : Int)).toNat = k from rfl]
  simp only [List.length_append, List.length_take, List.length_drop]
  omega
theorem chk_told {z r0 : List M} (h : DocK.chk z = (r0, true)) : goodB z = true ∧ r0 = z := by
  unfold DocK.chk at h
  split at h
  · rename_i hg; simp only [Prod.mk.injEq, and_true] at h; exact ⟨hg, h.symm⟩
  · simp at h
theorem add_told {z r0 : List M} {i : Int} {s : M} (h : AddSectionC.Ans z i s r0 true) : goodB r0 = true ∧ ∃ k : Nat, i = k ∧ r0[k]? = some s := by
  unfold AddSectionC.Ans AddSectionC.anA at h
  split at h
  · rename_i hq
    rw [Bool.and_eq_true] at hq
    have hi := inB_yes hq.2
    obtain ⟨k, rfl⟩ := Int.eq_ofNat_of_zero_le hi.1
    obtain ⟨hg, rfl⟩ := chk_told h
    refine ⟨hg, k, rfl, ?_⟩
    show (AddSectionC.addd z k s)[k]? = some s
    unfold AddSectionC.addd
    have htl : (z.take k).length = k := by rw [List.length_take]; omega
    rw [List.append_assoc, List.getElem?_append_right (by omega), htl, Nat.sub_self]; rfl
  · simp at h
theorem shift_told {z r0 : List M} {i d : Int} (h : ShiftSectionC.Ans z i d r0 true) : goodB z = true ∧ goodB r0 = true ∧ (-4 ≤ d ∧ d ≤ 4) ∧ ∃ k : Nat, i = k ∧ k < z.length ∧ r0 = ShiftSectionC.shf z k (k + 1 + prt z k) d := by
  unfold ShiftSectionC.Ans ShiftSectionC.anA at h
  split at h
  · rename_i hq
    rw [Bool.and_eq_true] at hq
    obtain ⟨hg, k, rfl, hk⟩ := ask_good hq.1
    obtain ⟨hg2, rfl⟩ := chk_told h
    exact ⟨hg, hg2, inB_yes hq.2, k, rfl, hk, rfl⟩
  · simp at h
open ShiftSectionC in
theorem dep_shf {z : List M} {i m : Nat} {d : Int} {j : Nat} (hj : j < z.length) : dep (shf z i m d) j = if i ≤ j ∧ j < m then dep z j + d else dep z j := by
  unfold dep
  rw [shf_get, List.getElem?_eq_getElem hj]
  simp only [Option.map_some, Option.getD_some]
  split <;> rfl
open ShiftSectionC in
theorem part_more {z : List M} {k : Nat} {d : Int} (hk : k < z.length) : prt z k ≤ prt (shf z k (k + 1 + prt z k) d) k := by
  have h : (k + 1 + prt z k) - (k + 1) ≤ prt (shf z k (k + 1 + prt z k) d) k := prt_ge fun m h1 h2 => by
    have := prt_in h1 h2
    rw [shf_len, dep_shf hk, dep_shf this.1, if_pos (by omega), if_pos (by omega)]
    exact ⟨this.1, by omega⟩
  omega
open ShiftSectionC in
theorem back {z : List M} {k E : Nat} {d : Int} : shf (shf z k E d) k E (-d) = z := by
  apply List.ext_getElem?
  intro j
  rw [shf_get, shf_get]
  cases h : z[j]? with
  | none => rfl
  | some X =>
    rw [Option.map_some, Option.map_some]
    by_cases hc : k ≤ j ∧ j < E
    · rw [if_pos hc, if_pos hc]
      cases X; simp only [Option.some.injEq, LSection.R.mk.injEq, and_true]; omega
    · rw [if_neg hc, if_neg hc]
theorem ask_yes {z : List M} {k : Nat} (hg : goodB z = true) (hk : k < z.length) : askB z k = true := by
  unfold askB; rw [hg, inB_mk (by omega) (by omega)]; rfl
theorem part_is {z : List M} {k : Nat} {x : Int} {b : Bool} (hg : goodB z = true) (hk : k < z.length) (h : PartOfC.Ans z k x b) : x = (prt z k : Nat) ∧ b = true := by
  unfold PartOfC.Ans at h
  rw [PartOfC.yes (ask_yes hg hk)] at h
  simp only [Prod.mk.injEq] at h
  exact ⟨h.1.symm, h.2.symm⟩
open ShiftSectionC in
theorem shift_back {z r0 : List M} {k : Nat} {d : Int} {b : Bool} (hg : goodB z = true) (hg2 : goodB (shf z k (k + 1 + prt z k) d) = true) (hk : k < z.length) (hd : -4 ≤ d ∧ d ≤ 4) (he : prt (shf z k (k + 1 + prt z k) d) k = prt z k)
    (h : ShiftSectionC.Ans (shf z k (k + 1 + prt z k) d) k (-d) r0 b) : r0 = z ∧ b = true := by
  unfold ShiftSectionC.Ans at h
  rw [yes (ask_yes hg2 (by rw [shf_len]; exact hk)) (inB_mk (by omega) (by omega)) (by rw [he])] at h
  rw [back, DocK.chk_yes hg] at h
  simp only [Prod.mk.injEq] at h
  exact ⟨h.1.symm, h.2.symm⟩
theorem rBig (a : Option Addr) (len cap : Nat) (w : World) : Calls Try.prog 10 #[.slice a len cap] w fun e w' => e = .returned (.bool (decide ((65536 : Int) < len))) ∧ w = w' := by
  go_enter Try.func10, Try.ntmps10
  go_wp2_with fail
  go_ret
  exact ⟨rfl, rfl⟩
set_option maxRecDepth 100000 in
set_option maxHeartbeats 800000 in
/-- two slices of the same members -/
theorem rSections (v v' : Value) (xs : List M) (w : World) (h : Is LSection.rec w v xs) (h' : Is LSection.rec w v' xs) :
    Calls Try.prog 14 #[v, v'] w fun e w' => e = .returned (.bool true) ∧ Below w.heap.size w w' := by
  obtain ⟨a, cp, rfl, h⟩ := h
  obtain ⟨a', cp', rfl, h'⟩ := h'
  have hc := h.at_ LSection.rec
  have hc' := h'.at_ LSection.rec
  obtain ⟨n, hn⟩ : ∃ n, n = xs.length := ⟨_, rfl⟩
  have hnb : n ≤ cp := by have := h.1; omega
  have hnb' : n ≤ cp' := by have := h'.1; omega
  have h2 := h.2.1
  have h2' := h'.2.1
  unfold maxLen at h2 h2'
  rw [← hn]
  have hle : n ≤ xs.length := by omega
  clear hn h h'
  have hne : ((n : Int) != (n : Int)) = false := by simp
  go_enter Try.func14, Try.ntmps14
  go_wp2_with fail
  go_loopw [5] (fun i wr => ∃ k : Nat, k ≤ n ∧ i = .int .i64 k ∧ Below w.heap.size w wr) (fun i _ => n - (intOf i).toNat)
  case atStart => exact ⟨0, Nat.zero_le _, rfl, Below.refl _ _⟩
  case round =>
    obtain ⟨k, hk, rfl, hb⟩ := hrel
    by_cases hlt : k < n
    · have hx : k < xs.length := by omega
      obtain ⟨b, o, rfl, hbl, hcell0⟩ := hc.out k xs[k] (List.getElem?_eq_getElem hx)
      obtain ⟨b', o', rfl, hbl', hcell0'⟩ := hc'.out k xs[k] (List.getElem?_eq_getElem hx)
      obtain ⟨c0, c1⟩ := LSection.cells (hcell0.below LSection.rec hb hbl)
      obtain ⟨d0, d1⟩ := LSection.cells (hcell0'.below LSection.rec hb hbl')
      simp only [LSection.rec_n] at c0 c1 d0 d1
      clear hcell0 hcell0'
      generalize xs[k] = X at *
      have k0 : 0 ≤ (k : Int) := by omega
      have k1 : (k : Int) < (n : Int) := by omega
      go_wp2_with fail
      go_quiet (fail)
      have hb2 : Below w.heap.size w (wr.drewN nq) := hb.trans ((drawn_below _ _).mono hb.size)
      go_wp2_with fail
      go_roundw
      case rel => exact ⟨k + 1, by omega, by go_num, hb2⟩
      case measure => simp [intOf]; omega
    · go_wp2_with fail
      go_ret
      exact ⟨rfl, hb⟩
end Go.Proofs.Ytmpolpeomabcfaa.SecM
