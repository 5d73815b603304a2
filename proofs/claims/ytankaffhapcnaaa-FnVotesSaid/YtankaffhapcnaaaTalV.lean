/- FnVotes: what the law compares. Plain mathematics. -/
import Derived.Test.YtankaffhapcnaaaYesNeededC
import Derived.Test.YtankaffhapcnaaaMostNoC
import Derived.Test.YtankaffhapcnaaaIsAdoptedC
import Derived.Test.YtankaffhapcnaaaStrictestNeedC
import Derived.Test.YtankaffhapcnaaaChairMattersC
import Derived.Test.YtankaffhapcnaaaIsValidTallyC
namespace Go.Proofs.Ytankaffhapcnaaa.TalV
open Go Go.RowKit Tal
set_option linter.unusedVariables false
theorem and_parts {k n : Int} (h : (need k && votes n) = true) : need k = true ∧ votes n = true := by simpa using h
/-- what the votes that are needed do -/
theorem needed {k n y most : Int} {a one b two three : Bool} (h : YesNeededC.Ans k n y true) (hy : y ≤ 1000) (h1 : IsAdoptedC.Ans k ⟨y, n, 0⟩ a one) (h2 : IsAdoptedC.Ans k ⟨y - 1, n, 0⟩ b two) (h3 : MostNoC.Ans k y most three) :
    one = true ∧ a = true ∧ (two = true → b = false) ∧ three = true ∧ n ≤ most := by
  rcases h with ⟨_, _, h⟩ | ⟨hkn, ⟨_, hy0, _, hen, hmin⟩ | ⟨h, _⟩⟩
  · cases h
  · obtain ⟨hk, hn⟩ := and_parts hkn
    have hv := votes_yes hn
    have g1 : good ⟨y, n, 0⟩ = true := good_mk ⟨⟨hy0, hy⟩, hv, ⟨by simp, by simp⟩⟩
    have e1 : adoptA k ⟨y, n, 0⟩ = (true, true) := by unfold adoptA; rw [if_pos ⟨hk, g1⟩, hen]
    have e2 := h1.symm.trans e1
    have ea : a = true := congrArg Prod.fst e2
    have eo : one = true := congrArg Prod.snd e2
    refine ⟨eo, ea, fun ht => ?_, ?_⟩
    · subst ht
      unfold IsAdoptedC.Ans adoptA at h2
      split at h2
      · rename_i hg
        have hy1 := (good_parts hg.2).1.1
        simp only at hy1
        simp only [Prod.mk.injEq, and_true] at h2
        rw [← h2]
        exact hmin (y - 1) hy1 (by omega)
      · simp at h2
    · rcases h3 with ⟨h3, _, _⟩ | ⟨_, ⟨ht, h0, h5, h6, h7⟩ | ⟨ht, h0, h7⟩⟩
      · have hvy : votes y = true := Word.inB_mk hy0 hy
        rw [hk, hvy] at h3; cases h3
      · refine ⟨ht, ?_⟩
        rcases Int.lt_or_le most n with hl | hl
        · have := h7 n hl hv.2
          rw [hen] at this; cases this
        · exact hl
      · have := h7 n hv.1 hv.2
        rw [hen] at this; cases this
  · cases h
theorem en_mono {y n : Int} (hy : 0 ≤ y) (hn : 0 ≤ n) : (en 3 y n = true → en 2 y n = true) ∧ (en 2 y n = true → en 1 y n = true) := by
  rw [en1, en2, en3]
  simp only [decide_eq_true_eq]
  omega
/-- a need adopts exactly up to the strictest one -/
theorem strictest {k s : Int} {t : T} {a fine known : Bool} (h : IsAdoptedC.Ans k t a fine) (g : StrictestNeedC.Ans t s known) : known = good t ∧ (fine = true → a = decide (k ≤ s)) := by
  unfold StrictestNeedC.Ans StrictestNeedC.strictA at g
  unfold IsAdoptedC.Ans adoptA at h
  cases hg : good t with
  | false =>
    rw [hg] at g h
    simp only [Bool.false_eq_true, if_false, and_false, Prod.mk.injEq] at g h
    exact ⟨g.2.symm, fun hf => by rw [← h.2] at hf; cases hf⟩
  | true =>
    rw [if_pos hg] at g
    simp only [Prod.mk.injEq] at g
    refine ⟨g.2.symm, fun hf => ?_⟩
    subst hf
    split at h
    · rename_i hk
      simp only [Prod.mk.injEq, and_true] at h
      obtain ⟨h1, h2, _⟩ := good_parts hg
      obtain ⟨m1, m2⟩ := en_mono h1.1 h2.1
      rw [← h, ← g.1]
      unfold strict
      rcases need_yes hk.1 with rfl | rfl | rfl
      · cases e3 : en 3 t.yes t.no <;> cases e2 : en 2 t.yes t.no <;> cases e1 : en 1 t.yes t.no <;> simp_all
      · cases e3 : en 3 t.yes t.no <;> cases e2 : en 2 t.yes t.no <;> cases e1 : en 1 t.yes t.no <;> simp_all
      · cases e3 : en 3 t.yes t.no <;> cases e2 : en 2 t.yes t.no <;> cases e1 : en 1 t.yes t.no <;> simp_all
    · simp at h
/-- where the chair matters and the motion is adopted by a majority, it is by one vote -/
theorem chair {k : Int} {t : T} {a fine m some : Bool} (h : IsAdoptedC.Ans k t a fine) (g : ChairMattersC.Ans k t m some) (hm : m = true) (ha : a = true) (hk : k = 1) : t.yes = t.no + 1 ∧ 0 ≤ t.no ∧ t.no ≤ 1000 := by
  subst hm ha hk
  unfold ChairMattersC.Ans chairA at g
  unfold IsAdoptedC.Ans adoptA at h
  split at g
  · rename_i hg
    split at h
    · simp only [Prod.mk.injEq] at g h
      have g1 := g.1
      have h1 := h.1
      simp only [en1, Bool.and_eq_true, decide_eq_true_eq, Bool.not_eq_true', decide_eq_false_iff_not] at g1 h1
      obtain ⟨_, h2, _⟩ := good_parts hg.2.1
      exact ⟨by omega, h2.1, h2.2⟩
    · simp at h
  · simp at g
end Go.Proofs.Ytankaffhapcnaaa.TalV
