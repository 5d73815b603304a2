/- FnAgendaMoves: what a move that was told, and an order, lead to. Plain mathematics. -/
import Derived.Test.YtcjknefpnopkcaaAgMv
namespace Go.Proofs.Ytcjknefpnopkcaa.AgMw
open Go.RowKit Bs Word Ag AgF Sq MoveItemC Srt
set_option linter.unusedVariables false
/-- a move that was told: the item k with this id went to t -/
structure Mv (z : List M) (id : Int) (t k : Nat) (X : M) (r : List M) : Prop where
  good : goodB z = true
  tl : t < z.length
  idx_ : idx z id = some k
  at_ : z[k]? = some X
  id_ : X.id = id
  r_ : r = mvd z k X t
theorem told {z : List M} {id tq : Int} {r : List M} (h : mA z id tq = (r, true)) : ∃ (t k : Nat) (X : M), tq = (t : Int) ∧ Mv z id t k X r := by
  cases hg : goodB z with
  | false => rw [m_bad hg] at h; simp at h
  | true =>
    cases hb : inB tq 0 ((z.length : Int) - 1) with
    | false => rw [m_out hb] at h; simp at h
    | true =>
      cases hi : idx z id with
      | none => rw [m_none hi] at h; simp at h
      | some k =>
        obtain ⟨X, hX, he, _⟩ := idx_some hi
        have hq := inB_yes hb
        obtain ⟨t, rfl⟩ := Int.eq_ofNat_of_zero_le hq.1
        rw [m_yes hg hb hi hX] at h
        simp only [Prod.mk.injEq, and_true] at h
        exact ⟨t, k, X, rfl, hg, by omega, hi, hX, by simpa using he, h.symm⟩
theorem Mv.len {z : List M} {id : Int} {t k : Nat} {X : M} {r : List M} (h : Mv z id t k X r) : r.length = z.length := by
  rw [h.r_]; exact mvd_len (List.getElem?_eq_some_iff.1 h.at_).1
theorem Mv.back {z : List M} {id : Int} {t k : Nat} {X : M} {r : List M} (h : Mv z id t k X r) : mA r id (k : Int) = (z, true) := by
  rw [h.r_]; exact AgMv.back h.good h.idx_ h.at_ h.tl
theorem Mv.there {z : List M} {id : Int} {t k : Nat} {X : M} {r : List M} (h : Mv z id t k X r) : r[t]? = some X := by
  rw [h.r_, AgMv.mvd_at h.at_ h.tl]
  unfold AgMv.sig
  rw [if_pos rfl]; exact h.at_
/-- the only one with this id is k -/
theorem Mv.only {z : List M} {id : Int} {t k : Nat} {X : M} {r : List M} (h : Mv z id t k X r) {i : Nat} {Y : M} (hi : z[i]? = some Y) : (Y.id == id) = decide (i = k) := by
  by_cases e : i = k
  · subst e
    have : Y = X := Option.some.inj (hi.symm.trans h.at_)
    rw [this, h.id_]; simp
  · have := AgMv.good_ids h.good e hi h.at_
    rw [h.id_] at this
    simp [e, this]
theorem Mv.fine {z : List M} {id : Int} {t k : Nat} {X : M} {r : List M} (h : Mv z id t k X r) (hf : ∀ x ∈ z, LAgendaItem.Fine x) : ∀ x ∈ r, LAgendaItem.Fine x := fun Y hY => by
  obtain ⟨j, hj, rfl⟩ := List.getElem_of_mem hY
  have e := List.getElem?_eq_getElem hj
  have e2 := e
  simp only [h.r_] at e2 ⊢
  rw [AgMv.mvd_at h.at_ h.tl] at e2
  exact hf _ (List.mem_of_getElem? e2)
theorem srt_len {α : Type} (lt : α → α → Bool) (xs : List α) : (srt lt xs).length = xs.length := by
  have aux : ∀ (xs P : List α), (xs.foldl (insS lt) P).length = P.length + xs.length := by
    intro xs
    induction xs with
    | nil => intro P; simp
    | cons x xs ih =>
      intro P
      rw [List.foldl_cons, ih]
      have := pos_le (lt := lt) P x P.length
      unfold insS
      simp
      omega
  have h := aux xs []
  show (xs.foldl (insS lt) []).length = xs.length
  rw [h]; simp
/-- an ordered agenda: as long as it was, and its times ascend -/
theorem ordered {z r : List M} {b : Bool} (h : OrderItemsC.Ans z r b) : (b = true → r.length = z.length) ∧ ∀ (i : Nat) (x y : M), r[i]? = some x → r[i + 1]? = some y → x.time ≤ y.time := by
  unfold OrderItemsC.Ans at h
  cases hg : goodB z with
  | false =>
    rw [OrderItemsC.o_no hg] at h
    simp only [Prod.mk.injEq] at h
    obtain ⟨rfl, rfl⟩ := h
    exact ⟨fun e => by simp at e, fun i x y hx _ => by simp at hx⟩
  | true =>
    rw [OrderItemsC.o_yes hg] at h
    simp only [Prod.mk.injEq] at h
    obtain ⟨rfl, rfl⟩ := h
    refine ⟨fun _ => srt_len _ _, fun i x y hx hy => ?_⟩
    have ha := srt_asc (lt := LAgendaItemSortOrder.lt) (fun a b hab => by rw [OrderItemsC.lt_eq] at hab ⊢; simp at hab ⊢; omega) z i x y hx hy
    rw [OrderItemsC.lt_eq] at ha
    simp at ha
    exact ha
end Go.Proofs.Ytcjknefpnopkcaa.AgMw
