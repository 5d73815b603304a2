/- A region that draws its order and whose last operations wait for all others: its first part is walked by itself, under a condition that the last ones need not keep. No condition. -/
import Derived.Test.YtdjnaoaniokbgaaHeld
namespace Go.Proofs.Ytdjnaoaniokbgaa.Bs
open Go.RowKit
set_option linter.unusedVariables false
section
variable {P : Program} {md : Region.Mode} {Q : Exit → Act → World → Prop}
/-- what is asked where the first part ends -/
def thenQ (Q : Exit → Act → World → Prop) (R : Act → World → Prop) : Exit → Act → World → Prop := fun e => match e with
  | .normal => R
  | e => Q e
theorem wp_then {R next : Act → World → Prop} {o : Oper} {a : Act} {w : World} (h : o.wp P a w next (thenQ Q R)) : o.wp P a w next Q := by
  unfold Oper.wp at *
  generalize (execOp a.eval o).run P w = r at *
  cases r with
  | ok n w' => cases n <;> exact h
  | halt x w' => cases x <;> exact h
theorem wpAny_more {ops : Array Oper} : ∀ (k : Nat) (listed : Array Bool) (a : Act) (w : World), wpAny P md ops Q k listed a w → wpAny P md ops Q (k + 1) listed a w
  | 0, listed, a, w, h => ⟨fun _ => h.2, fun i hi => by rw [h.1] at hi; cases hi⟩
  | k + 1, listed, a, w, h => ⟨h.1, fun i hi => wpOp_mono (fun a' w' h' => wpAny_more k _ a' w' h') (h.2 i hi)⟩
theorem wpAny_much {ops : Array Oper} (k : Nat) (listed : Array Bool) (a : Act) (w : World) (h : wpAny P md ops Q k listed a w) : ∀ f, wpAny P md ops Q (f + k) listed a w
  | 0 => by rw [Nat.zero_add]; exact h
  | f + 1 => by rw [Nat.succ_add]; exact wpAny_more _ _ _ _ (wpAny_much k listed a w h f)
/-- the operations of A wait for elder ones of A alone, and pass nothing over -/
def headB (md : Region.Mode) (A : Array Oper) : Bool := (List.range A.size).all fun i => match A[i]? with
  | none => true
  | some o => o.guard.isNone && o.after.all fun e => !Region.binds md e || decide (e.on < i)
/-- those behind wait for each of the first n -/
def restB (md : Region.Mode) (ops : Array Oper) (n : Nat) : Bool := (List.range ops.size).all fun i => decide (i < n) || match ops[i]? with
  | none => true
  | some o => (List.range n).all fun j => o.after.any fun e => Region.binds md e && e.on == j
theorem headB_of {A : Array Oper} (h : headB md A = true) {i : Nat} {o : Oper} (ho : A[i]? = some o) : o.guard = none ∧ ∀ e ∈ o.after, Region.binds md e = true → e.on < i := by
  unfold headB at h
  rw [List.all_eq_true] at h
  have h1 := h i (List.mem_range.2 (Array.getElem?_eq_some_iff.1 ho).1)
  simp only [ho, Bool.and_eq_true, Option.isNone_iff_eq_none, Array.all_eq_true_iff_forall_mem, Bool.or_eq_true, Bool.not_eq_true', decide_eq_true_eq] at h1
  exact ⟨h1.1, fun e he hb => (h1.2 e he).resolve_left (by rw [hb]; simp)⟩
theorem restB_of {ops : Array Oper} {n : Nat} (h : restB md ops n = true) {i : Nat} {o : Oper} (ho : ops[i]? = some o) (hi : n ≤ i) {j : Nat} (hj : j < n) : ∃ e ∈ o.after, Region.binds md e = true ∧ e.on = j := by
  unfold restB at h
  rw [List.all_eq_true] at h
  have h1 := h i (List.mem_range.2 (Array.getElem?_eq_some_iff.1 ho).1)
  simp only [ho, Bool.or_eq_true, decide_eq_true_eq, List.all_eq_true] at h1
  have h2 := h1.resolve_left (by omega) j (List.mem_range.2 hj)
  obtain ⟨e, he, hx⟩ := Array.any_eq_true'.1 h2
  rw [Bool.and_eq_true, beq_iff_eq] at hx
  exact ⟨e, he, hx⟩
def pad (listed : Array Bool) (m : Nat) : Array Bool := listed ++ Array.replicate m false
theorem pad_lt {listed : Array Bool} {m i : Nat} (d : Bool) (h : i < listed.size) : (pad listed m).getD i d = listed.getD i d := by
  unfold pad
  rw [Array.getD_eq_getD_getElem?, Array.getElem?_append_left h, ← Array.getD_eq_getD_getElem?]
theorem pad_ge {listed : Array Bool} {m i : Nat} (d : Bool) (h : listed.size ≤ i) (h2 : i < listed.size + m) : (pad listed m).getD i d = false := by
  unfold pad
  rw [Array.getD_eq_getD_getElem?, Array.getElem?_append_right h, Array.getElem?_replicate, if_pos (by omega)]; rfl
theorem pad_set {listed : Array Bool} {m i : Nat} (h : i < listed.size) : (pad listed m).setIfInBounds i true = pad (listed.setIfInBounds i true) m := by
  unfold pad
  rw [Array.setIfInBounds_append_left h]
/-- while the first part is not done nothing else may come up -/
theorem ready_pad {A ops : Array Oper} {listed : Array Bool} (hA : ∀ i, i < A.size → ops[i]? = A[i]?) (hle : A.size ≤ ops.size) (hh : headB md A = true) (hr : restB md ops A.size = true) (hl : listed.size = A.size) {j : Nat} (hj : j < A.size) (hjl : listed.getD j false = false) :
    Region.ready md ops (pad listed (ops.size - A.size)) = Region.ready md A listed := by
  unfold Region.ready
  have e : ops.size = A.size + (ops.size - A.size) := by omega
  rw [e, List.range_add, List.filter_append]
  rw [show A.size + (ops.size - A.size) - A.size = ops.size - A.size by omega]
  have h2 : (List.map (fun x => A.size + x) (List.range (ops.size - A.size))).filter (fun i => !(pad listed (ops.size - A.size)).getD i true && ((ops[i]?).map (·.after.all fun e => !Region.binds md e || (pad listed (ops.size - A.size)).getD e.on false)).getD false) = [] := by
    rw [List.filter_eq_nil_iff]
    intro i hi
    obtain ⟨x, hx, rfl⟩ := List.mem_map.1 hi
    have hx2 := List.mem_range.1 hx
    obtain ⟨o, ho⟩ : ∃ o, ops[A.size + x]? = some o := ⟨_, Array.getElem?_eq_getElem (by omega)⟩
    obtain ⟨e, he, hb, hon⟩ := restB_of hr ho (Nat.le_add_right _ _) hj
    simp only [ho, Option.map_some, Option.getD_some, Bool.and_eq_true, not_and, Bool.not_eq_true]
    intro _
    rw [← Bool.not_eq_true, Array.all_eq_true_iff_forall_mem]
    intro hall
    have := hall e he
    rw [hb, hon, pad_lt false (by omega), hjl] at this
    cases this
  rw [h2, List.append_nil]
  refine List.filter_congr fun i hi => ?_
  have hi2 := List.mem_range.1 hi
  rw [pad_lt true (by omega), hA i hi2]
  congr 1
  cases ho : A[i]? with
  | none => rfl
  | some o =>
    simp only [Option.map_some, Option.getD_some]
    have hd := (headB_of hh ho).2
    rw [Bool.eq_iff_iff, Array.all_eq_true_iff_forall_mem, Array.all_eq_true_iff_forall_mem]
    refine forall_congr' fun e => forall_congr' fun he => ?_
    cases hb : Region.binds md e with
    | false => simp
    | true => rw [pad_lt false (by have := hd e he hb; omega)]
/-- if nothing of the first part may come up it is done -/
theorem ready_done {A : Array Oper} {listed : Array Bool} (hh : headB md A = true) (hl : listed.size = A.size) (h : Region.ready md A listed = []) : ∀ j, j < A.size → listed.getD j false = true := by
  intro j
  induction j using Nat.strongRecOn with
  | _ j ih =>
    intro hj
    cases hc : listed.getD j false with
    | true => rfl
    | false =>
      exfalso
      obtain ⟨o, ho⟩ : ∃ o, A[j]? = some o := ⟨_, Array.getElem?_eq_getElem hj⟩
      have hm : j ∈ Region.ready md A listed := by
        unfold Region.ready
        rw [List.mem_filter]
        refine ⟨List.mem_range.2 hj, ?_⟩
        rw [ho, Bool.and_eq_true]
        refine ⟨?_, ?_⟩
        · rw [Array.getD_eq_getD_getElem?, Array.getElem?_eq_getElem (by omega)] at hc ⊢
          rw [show listed[j] = false from hc]; rfl
        · show o.after.all _ = true
          rw [Array.all_eq_true_iff_forall_mem]
          intro e he
          cases hb : Region.binds md e with
          | false => rfl
          | true =>
            have h1 := (headB_of hh ho).2 e he hb
            rw [ih e.on h1 (by omega)]; rfl
      rw [h] at hm
      cases hm
theorem listed_all {listed : Array Bool} (h : ∀ j, j < listed.size → listed.getD j false = true) : listed = Array.replicate listed.size true := by
  apply Array.ext
  · simp
  · intro i h1 h2
    have := h i h1
    rw [Array.getD_eq_getD_getElem?, Array.getElem?_eq_getElem h1] at this
    rw [Array.getElem_replicate]; exact this
theorem wpOp_pre {A ops : Array Oper} {R K : Act → World → Prop} {i : Nat} {a : Act} {w : World} (hA : ops[i]? = A[i]?) (hi : i < A.size) (hh : headB md A = true) (h : wpOp P A (thenQ Q R) i K a w) : wpOp P ops Q i K a w := by
  obtain ⟨o, ho⟩ : ∃ o, A[i]? = some o := ⟨_, Array.getElem?_eq_getElem hi⟩
  have hg := (headB_of hh ho).1
  unfold wpOp at *
  rw [hA, ho]
  rw [ho] at h
  have hw : ∀ f, Region.wanted o f = true := fun f => by simp [Region.wanted, hg]
  simp only [hw, if_true] at h ⊢
  exact h.imp wp_then (fun h => ⟨h.1, h.2⟩)
theorem wpAny_pre {A ops : Array Oper} (hA : ∀ i, i < A.size → ops[i]? = A[i]?) (hle : A.size ≤ ops.size) (hh : headB md A = true) (hr : restB md ops A.size = true) (k : Nat) : ∀ (fuel : Nat) (listed : Array Bool) (a : Act) (w : World), listed.size = A.size →
    wpAny P md A (thenQ Q (fun a w => wpAny P md ops Q k (pad (Array.replicate A.size true) (ops.size - A.size)) a w)) fuel listed a w → wpAny P md ops Q (fuel + k) (pad listed (ops.size - A.size)) a w
  | 0, listed, a, w, hl, h => by
    have hd := ready_done hh hl h.1
    have hE : listed = Array.replicate A.size true := by rw [← hl]; exact listed_all (fun j hj => hd j (by omega))
    rw [hE, Nat.zero_add]; exact h.2
  | fuel + 1, listed, a, w, hl, h => by
    by_cases hx : ∃ j, j < A.size ∧ listed.getD j false = false
    · obtain ⟨j, hj, hjl⟩ := hx
      have hre := ready_pad hA hle hh hr hl hj hjl
      rw [show fuel + 1 + k = (fuel + k) + 1 by omega]
      refine ⟨fun h0 => ?_, fun i hi => ?_⟩
      · rw [hre] at h0
        have := ready_done hh hl h0 j hj
        rw [hjl] at this; cases this
      · rw [hre] at hi
        have hi2 : i < A.size := by
          unfold Region.ready at hi
          exact List.mem_range.1 (List.mem_filter.1 hi).1
        refine wpOp_pre (hA i hi2) hi2 hh (wpOp_mono (fun a' w' h' => ?_) (h.2 i hi))
        rw [pad_set (by omega)]
        exact wpAny_pre hA hle hh hr k fuel _ a' w' (by simpa using hl) h'
    · have hd : ∀ j, j < A.size → listed.getD j false = true := fun j hj => by
        cases hc : listed.getD j false with
        | true => rfl
        | false => exact absurd ⟨j, hj, hc⟩ hx
      have hE : listed = Array.replicate A.size true := by rw [← hl]; exact listed_all (fun j hj => hd j (by omega))
      have h0 : Region.ready md A listed = [] := by
        unfold Region.ready
        rw [List.filter_eq_nil_iff]
        intro i hi
        have hi2 := List.mem_range.1 hi
        have := hd i hi2
        rw [Array.getD_eq_getD_getElem?, Array.getElem?_eq_getElem (by omega)] at this
        rw [Array.getD_eq_getD_getElem?, Array.getElem?_eq_getElem (by omega), show listed[i] = true from this]; simp
      have h1 := h.1 h0
      rw [hE]
      exact wpAny_much k _ a w h1 (fuel + 1)
/-- the law -/
theorem wp_region_pre {id : Nat} {ops : Array Oper} {a : Act} {w : World} {S : World → Prop} (A : Array Oper) (hm : P.follows .mixedOrders = true) (hA : ∀ i, i < A.size → ops[i]? = A[i]?) (hle : A.size ≤ ops.size) (hh : headB .any A = true) (hr : restB .any ops A.size = true) (hS : S w.drew)
    (h : S w.drew → wpAnyH P .any A (thenQ Q (fun a w => wpAny P .any ops Q (ops.size - A.size) (pad (Array.replicate A.size true) (ops.size - A.size)) a w)) S A.size (Array.replicate A.size false) a w.drew) : (Code.region id ops true).wp P Q a w := by
  refine wp_region_any hm ?_
  have h1 := wpAny_pre hA hle hh hr (ops.size - A.size) A.size (Array.replicate A.size false) a w.drew (by simp) (wpAny_of_held _ _ _ _ (h hS))
  have e : pad (Array.replicate A.size false) (ops.size - A.size) = Array.replicate ops.size false := by
    unfold pad
    rw [Array.replicate_append_replicate, show A.size + (ops.size - A.size) = ops.size by omega]
  rw [e, show A.size + (ops.size - A.size) = ops.size by omega] at h1
  exact h1
def anyW : World → Prop := fun _ => True
/-- the law, the first n operations written as a list; what follows them is handed on closed -/
theorem wp_region_preN {id : Nat} {ops : Array Oper} {a : Act} {w : World} {S : World → Prop} (n m : Nat) (hsz : ops.size = n + m) (hm : P.follows .mixedOrders = true) (hh : headB .any (ops.toList.take n).toArray = true) (hr : restB .any ops n = true) (hS : S w.drew)
    (h : ∀ R : Act → World → Prop, Hid (∀ a w, (anyW w → wpAnyH P .any ops Q anyW m (pad (Array.replicate n true) m) a w) → R a w) → S w.drew → wpAnyH P .any (ops.toList.take n).toArray (thenQ Q R) S n (Array.replicate n false) a w.drew) : (Code.region id ops true).wp P Q a w := by
  have hs : (ops.toList.take n).toArray.size = n := by simp; omega
  have e1 : ops.size - n = m := by omega
  refine wp_region_pre (S := S) (ops.toList.take n).toArray hm (fun i hi => ?_) (by rw [hs]; omega) hh (by rw [hs]; exact hr) hS (fun hS' => ?_)
  · rw [hs] at hi
    simp [hi]
  · rw [hs, e1]
    exact h _ (Lib.hid (fun a w h => wpAny_of_held _ _ _ _ (h trivial))) hS'
end
end Go.Proofs.Ytdjnaoaniokbgaa.Bs
