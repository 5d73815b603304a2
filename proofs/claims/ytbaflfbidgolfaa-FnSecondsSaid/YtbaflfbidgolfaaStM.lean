/- FnStack, FnSeconds: what a question that was moved or seconded leads to. Plain mathematics. -/
import Derived.Test.YtbaflfbidgolfaaData
import Derived.Test.YtbaflfbidgolfaaMoveQuestionC
import Derived.Test.YtbaflfbidgolfaaSecondQuestionC
import Derived.Test.YtbaflfbidgolfaaDisposeQuestionC
import Derived.Test.YtbaflfbidgolfaaWithdrawQuestionC
import Derived.Test.YtbaflfbidgolfaaDropUnsecondedC
import Derived.Test.YtbaflfbidgolfaaQuestionNamesC
import Derived.Test.YtbaflfbidgolfaaMoversOfC
namespace Go.Proofs.Ytbaflfbidgolfaa.StM
open Go.RowKit Bs Word Sq St StF StL StG StA IntF
set_option linter.unusedVariables false
theorem move_yes {z : List R} {l r0 : List Q} {x y : Int} (h : MoveQuestionC.Ans z l x y r0 true) : r0 = l ++ [⟨x, y, false⟩] ∧ goodQ z r0 = true ∧ goodQ z l = true ∧ hasB (may z l) x = true := by
  unfold MoveQuestionC.Ans mvA at h
  split at h
  · rename_i hg
    simp only [Prod.mk.injEq, and_true] at h
    subst h
    have h2 := hg
    rw [move_iff, Bool.and_eq_true, Bool.and_eq_true] at h2
    exact ⟨rfl, hg, h2.1, h2.2.2⟩
  · simp at h
theorem may_of {z : List R} {l : List Q} {r0 : List Int} {r1 : Bool} (hg : goodQ z l = true) (h : MayBeMovedC.Ans z l r0 r1) : r0 = may z l ∧ r1 = true := by
  unfold MayBeMovedC.Ans at h; rw [mayA_yes hg] at h; simp only [Prod.mk.injEq] at h; exact ⟨h.1.symm, h.2.symm⟩
theorem names_of {z : List R} {l : List Q} {r0 : List ByteArray} {r1 : Bool} (hg : goodQ z l = true) (h : QuestionNamesC.Ans z l r0 r1) : r0 = nms z l ∧ r1 = true := by
  unfold QuestionNamesC.Ans at h; rw [nmA_yes hg] at h; simp only [Prod.mk.injEq] at h; exact ⟨h.1.symm, h.2.symm⟩
theorem movers_of {z : List R} {l : List Q} {r0 : List Int} {r1 : Bool} {x y : Int} (hg : goodQ z (l ++ [⟨x, y, false⟩]) = true) (h : MoversOfC.Ans z (l ++ [⟨x, y, false⟩]) r0 r1) : r1 = true ∧ hasB r0 y = true := by
  rcases h with ⟨g, _⟩ | ⟨_, h1, _, hm⟩
  · rw [hg] at g; cases g
  · refine ⟨h1, has_iff.2 ((hm y).2 ?_)⟩
    unfold MoversOfC.mv
    simp
theorem back_of {z : List R} {l r0 : List Q} {x y : Int} {r1 : Bool} (hg : goodQ z (l ++ [⟨x, y, false⟩]) = true) (h : WithdrawQuestionC.Ans z (l ++ [⟨x, y, false⟩]) y r0 r1) : r0 = l ∧ r1 = true := by
  have ht : top (l ++ [(⟨x, y, false⟩ : Q)]) = some ⟨x, y, false⟩ := by unfold top; simp
  unfold WithdrawQuestionC.Ans at h
  rw [wdA_some hg (la_top ht (by simp))] at h
  simp only [Prod.mk.injEq] at h
  refine ⟨?_, h.2.symm⟩
  rw [← h.1]
  simp
theorem name_got {z : List R} {r q : R} {b : Bool} (hg : Gd.goodB z = true) (hr : r ∈ z) (h : ByName.Ans z r.name q b) : q = r ∧ b = true := by
  obtain ⟨i, hi, he⟩ := List.getElem_of_mem hr
  obtain ⟨h1, h2⟩ := h.same (.hit hg i r (by rw [List.getElem?_eq_getElem hi, he]) rfl)
  exact ⟨h1, h2⟩
theorem nms_at {z : List R} {l : List Q} {k : Nat} {q : Q} (h : l[k]? = some q) : (nms z l)[k]? = some (ru z q.rule).name := by
  unfold nms; rw [List.getElem?_map, h]; rfl
theorem nms_len {z : List R} {l : List Q} : (nms z l).length = l.length := by unfold nms; rw [List.length_map]
theorem ru_in {z : List R} {l : List Q} {k : Nat} {q : Q} (hg : goodQ z l = true) (h : l[k]? = some q) : ru z q.rule ∈ z := by
  obtain ⟨j, r, hj, hr, he, _⟩ := ok_parts (good_at hg h)
  rw [he]; exact List.mem_of_getElem? hr
theorem rank_lt {z : List R} {l : List Q} {k : Nat} {p q : Q} (hg : goodQ z l = true) (hp : l[k]? = some p) (hq : l[k + 1]? = some q) : (ru z p.rule).rank < (ru z q.rule).rank := by
  have := good_fol hg hq hp
  unfold fol folR at this
  rw [Bool.and_eq_true] at this
  exact of_decide_eq_true this.2
/-- what seconding tells -/
structure Sec (z : List R) (l : List Q) (m : Int) (r0 : List Q) (p : Q) : Prop where
  good : goodQ z l = true
  top_ : top l = some p
  lack : lacks z p = true
  set_ : r0 = l.set (l.length - 1) { p with sec := true }
  good' : goodQ z r0 = true
  top' : top r0 = some { p with sec := true }
  fine : lacks z { p with sec := true } = false
theorem second_yes {z : List R} {l r0 : List Q} {m : Int} (h : SecondQuestionC.Ans z l m r0 true) : ∃ p, Sec z l m r0 p := by
  unfold SecondQuestionC.Ans scA at h
  split at h
  · rename_i hg
    rw [Bool.and_eq_true, Bool.and_eq_true] at hg
    simp only [Prod.mk.injEq, and_true] at h
    have hn : l.length ≠ 0 := fun e => by rw [secB_nil e] at hg; exact absurd hg.2.2 (by decide)
    obtain ⟨p, hp⟩ := top_some hn
    rw [secB_top hp, Bool.and_eq_true] at hg
    have hs : r0 = l.set (l.length - 1) { p with sec := true } := by rw [← h, sec1_top hp]
    have hlt : l.length - 1 < l.length := by omega
    refine ⟨p, hg.1, hp, hg.2.2.1, hs, by rw [hs]; exact second_good hg.1 hp hg.2.2.1, ?_, ?_⟩
    · rw [hs]; unfold top; rw [List.length_set, List.getElem?_set_self hlt]
    · unfold lacks; simp
  · simp at h
theorem early {z : List R} {l r0 a : List Q} {m : Int} {p b : Q} {c : Bool} (h : Sec z l m r0 p) (hd : DisposeQuestionC.Ans z l a b c) : c = false := by
  unfold DisposeQuestionC.Ans at hd; rw [dsA_lack h.top_ h.lack] at hd; simp only [Prod.mk.injEq] at hd; exact hd.2.2.symm
theorem sec_len {z : List R} {l r0 : List Q} {m : Int} {p : Q} (h : Sec z l m r0 p) : r0.length = l.length ∧ 0 < l.length := by
  refine ⟨by rw [h.set_, List.length_set], ?_⟩
  have := (List.getElem?_eq_some_iff.1 h.top_).1; omega
theorem sec_take {z : List R} {l r0 : List Q} {m : Int} {p : Q} (h : Sec z l m r0 p) : r0.take (r0.length - 1) = l.take (l.length - 1) := by
  rw [h.set_, List.length_set, List.take_set_of_le (Nat.le_refl _)]
theorem late {z : List R} {l r0 a : List Q} {m : Int} {p b : Q} {c : Bool} (h : Sec z l m r0 p) (hd : DisposeQuestionC.Ans z r0 a b c) : a = l.take (l.length - 1) ∧ b.sec = true ∧ c = true := by
  unfold DisposeQuestionC.Ans at hd
  rw [dsA_yes h.good' h.top' h.fine, sec_take h] at hd
  simp only [Prod.mk.injEq] at hd
  exact ⟨hd.1.symm, by rw [← hd.2.1], hd.2.2.symm⟩
theorem drop_one {z : List R} {l r0 a : List Q} {m : Int} {p : Q} {c : Bool} (h : Sec z l m r0 p) (hd : DropUnsecondedC.Ans z l a c) : a = l.take (l.length - 1) ∧ c = true := by
  unfold DropUnsecondedC.Ans at hd
  rw [drA_yes h.good, drp_yes (by rw [lackT_top h.top_, h.lack])] at hd
  simp only [Prod.mk.injEq] at hd
  exact ⟨hd.1.symm, hd.2.symm⟩
theorem drop_none {z : List R} {l r0 a : List Q} {m : Int} {p : Q} {c : Bool} (h : Sec z l m r0 p) (hd : DropUnsecondedC.Ans z r0 a c) : a = r0 ∧ c = true := by
  unfold DropUnsecondedC.Ans at hd
  rw [drA_yes h.good', drp_no (by rw [lackT_top h.top', h.fine]), List.take_length] at hd
  simp only [Prod.mk.injEq] at hd
  exact ⟨hd.1.symm, hd.2.symm⟩
theorem again_no {z : List R} {l r0 a : List Q} {m k : Int} {p : Q} {c : Bool} (h : Sec z l m r0 p) (hd : SecondQuestionC.Ans z r0 k a c) : c = false := by
  unfold SecondQuestionC.Ans at hd
  rw [scA_no (by rw [secB_top h.top', h.fine]; simp)] at hd
  simp only [Prod.mk.injEq] at hd
  exact hd.2.symm
theorem top_cells {w : World} {g n c : Nat} {l M : List Q} {x y : Int} (h : IsS LQuestion.rec w (.slice (some ⟨g, 0, none⟩) (n + 1) c) M) (hM : l ++ [(⟨x, y, false⟩ : Q)] = M) (hn : l.length = n) :
    w.cell? ⟨g, n * 3, none⟩ = some (.int .i64 x) ∧ w.cell? ⟨g, n * 3 + 1, none⟩ = some (.int .i64 y) ∧ w.cell? ⟨g, n * 3 + 2, none⟩ = some (.bool false) := by
  obtain ⟨b', o', c', e, _, _, _, hc⟩ := h
  simp only [Value.slice.injEq, Option.some.injEq, Addr.mk.injEq, and_true] at e
  obtain ⟨⟨rfl, rfl⟩, _, rfl⟩ := e
  have := LQuestion.cells (hc n ⟨x, y, false⟩ (by rw [← hM, ← hn]; simp))
  simpa only [LQuestion.rec_n, Nat.zero_add] using this
theorem names_form {w : World} {A n : Nat} {v : Value} {z : List R} {l M : List Q} {x y : Int} (h : Own LString.rec 9 w A v (nms z M)) (hM : l ++ [(⟨x, y, false⟩ : Q)] = M) (hn : l.length = n) : ∃ g c, v = .slice (some ⟨g, 0, none⟩) (n + 1) c ∧ n + 1 ≤ c ∧ c ≤ maxLen := by
  have hl : (nms z M).length = n + 1 := by rw [nms_len, ← hM, List.length_append, hn]; rfl
  rcases h.shape with ⟨_, h0⟩ | ⟨g, c, e, _, _, h1, h2⟩
  · rw [h0] at hl; simp at hl
  · rw [hl] at e h1; exact ⟨g, c, e, h1, h2⟩
theorem nameI (v : Value) (z : List LRule.R) (nm : ByteArray) (w : World) (h0 : Is LRule.rec w v z) (f0 : ∀ x ∈ z, LRule.Fine x) :
    Calls Try.prog 55 #[v, .string nm] w (ByName.Post z nm w) := by
  obtain ⟨a, c, rfl, h1⟩ := h0
  exact ByName.impl a _ c z nm w rfl (RuleC.rules h1) f0
/-- what is disposed of leaves a list of pending questions -/
theorem rest_good {z : List R} {l a : List Q} {b : Q} (h : DisposeQuestionC.Ans z l a b true) : goodQ z a = true := by
  unfold DisposeQuestionC.Ans dsA at h
  split at h
  · simp at h
  · split at h
    · rename_i hg
      rw [Bool.and_eq_true] at hg
      simp only [Prod.mk.injEq] at h
      rw [← h.1]; exact good_take hg.1 _
    · simp at h
end Go.Proofs.Ytbaflfbidgolfaa.StM
