/- Members: which are valid, one and in a list. The model's and the program's tests of one member. No condition but that a name is no longer than a string can be. -/
import Derived.Test.YtdmgiofgknfefaaDoorWord
import Derived.Test.YtdmgiofgknfefaaDoorLMemberZ
namespace Go.Proofs.YtdmgiofgknfefaaDoor.Mem
open Go.RowKit Bs Word
set_option linter.unusedVariables false

abbrev M := LMember.R
def okB (r : M) : Bool := (inB r.num 1 99 && isWordB r.name) && inB r.off 0 3
/-- the later one r does not go with the earlier one p -/
def clash (p r : M) : Bool := (p.name.toList == r.name.toList) || (r.off != 0 && p.off == r.off)
/-- the head of a place: valid, and behind its neighbour -/
def HeadOk (xs : List M) (i : Nat) : Prop := ∃ r, xs[i]? = some r ∧ okB r = true ∧ ∀ p, 0 < i → xs[i - 1]? = some p → p.num < r.num
def Step (xs : List M) (i : Nat) : Prop := HeadOk xs i ∧ ∀ k q r, k < i → xs[k]? = some q → xs[i]? = some r → clash q r = false
def GoodP (xs : List M) : Prop := xs.length ≤ 12 ∧ ∀ i, i < xs.length → Step xs i
open Classical in
noncomputable def goodB (xs : List M) : Bool := decide (GoodP xs)
open Classical in
theorem good_yes {xs : List M} (h : GoodP xs) : goodB xs = true := decide_eq_true h
open Classical in
theorem good_no {xs : List M} (h : ¬ GoodP xs) : goodB xs = false := decide_eq_false h
open Classical in
theorem good_of {xs : List M} (h : goodB xs = true) : GoodP xs := of_decide_eq_true h
theorem no_len {xs : List M} (h : 12 < xs.length) : goodB xs = false := good_no fun g => by have := g.1; omega
theorem no_ok {xs : List M} {i : Nat} {r : M} (hr : xs[i]? = some r) (h : okB r = false) : goodB xs = false := good_no fun g => by
  obtain ⟨⟨r', hr', ho, _⟩, _⟩ := g.2 i (List.getElem?_eq_some_iff.1 hr).1
  rw [hr] at hr'; rw [← Option.some.inj hr', h] at ho; cases ho
theorem no_asc {xs : List M} {i : Nat} {r p : M} (hr : xs[i]? = some r) (h0 : 0 < i) (hp : xs[i - 1]? = some p) (h : r.num ≤ p.num) : goodB xs = false := good_no fun g => by
  obtain ⟨⟨r', hr', _, ho⟩, _⟩ := g.2 i (List.getElem?_eq_some_iff.1 hr).1
  rw [hr] at hr'
  have := ho p h0 hp
  rw [← Option.some.inj hr'] at this
  omega
theorem no_clash {xs : List M} {i k : Nat} {r q : M} (hr : xs[i]? = some r) (hk : k < i) (hq : xs[k]? = some q) (h : clash q r = true) : goodB xs = false := good_no fun g => by
  have := (g.2 i (List.getElem?_eq_some_iff.1 hr).1).2 k q r hk hq hr
  rw [h] at this; cases this
theorem steps_next {xs : List M} {k : Nat} (hs : ∀ i, i < k → Step xs i) (h : Step xs k) : ∀ i, i < k + 1 → Step xs i := fun i hi => by
  rcases Nat.lt_or_ge i k with h' | h'
  · exact hs i h'
  · rwa [show i = k by omega]
theorem clash_next {xs : List M} {m : Nat} {X P : M} (h : ∀ j q, j < m → xs[j]? = some q → clash q X = false) (hp : xs[m]? = some P) (hc : clash P X = false) : ∀ j q, j < m + 1 → xs[j]? = some q → clash q X = false := fun j q hj hq => by
  rcases Nat.lt_or_ge j m with h' | h'
  · exact h j q h' hq
  · obtain rfl : j = m := by omega
    rw [hp] at hq; rw [← Option.some.inj hq]; exact hc
theorem step_mk {xs : List M} {k : Nat} {X : M} (hx : xs[k]? = some X) (h1 : HeadOk xs k) (h2 : ∀ j q, j < k → xs[j]? = some q → clash q X = false) : Step xs k :=
  ⟨h1, fun j q r hj hq hr => by rw [hx] at hr; rw [← Option.some.inj hr]; exact h2 j q hj hq⟩
/-- what a place's first test tells: true is bad -/
def Head (xs : List M) (i : Nat) (v : Bool) : Prop := (v = true → goodB xs = false) ∧ (v = false → HeadOk xs i)
theorem head_bad {xs : List M} {i : Nat} (h : goodB xs = false) : Head xs i true := ⟨fun _ => h, (fun h => by cases h)⟩
theorem head_fine {xs : List M} {i : Nat} (h : HeadOk xs i) : Head xs i false := ⟨(fun h => by cases h), fun _ => h⟩
theorem ok_parts {r : M} (h : okB r = true) : (1 ≤ r.num ∧ r.num ≤ 99) ∧ isWordB r.name = true ∧ (0 ≤ r.off ∧ r.off ≤ 3) := by
  unfold okB at h
  simp only [Bool.and_eq_true] at h
  exact ⟨inB_yes h.1.1, h.1.2, inB_yes h.2⟩

theorem l3Office (x : Int) (w : World) : Calls Tryd.prog 81 #[.int .i64 x] w fun e w' => e = .returned (.bool (inB x 0 3)) ∧ w = w' := by
  have HI := Lib.hid (fun W => in_as x 0 3 _ rfl W)
  go_enter Tryd.func81, Tryd.ntmps81
  go_wp2_with fail
  refine (HI.out _).mono ?_
  rintro e w' ⟨rfl, rfl⟩
  go_wp2_with fail
  go_ret
  exact ⟨rfl, rfl⟩
theorem isOffice (x : Int) (w : World) : Calls Tryd.prog 83 #[.int .i64 x] w fun e w' => e = .returned (.bool (inB x 0 3)) ∧ w = w' := by
  by_cases h0 : 0 ≤ x
  · have HD := Lib.hid (show decide (x ≤ 3) = inB x 0 3 by unfold inB; by_cases h : x ≤ 3 <;> simp [h, h0])
    go_enter Tryd.func83, Tryd.ntmps83
    go_wp2_with fail
    go_ret
    exact ⟨ret_bool HD.out, rfl⟩
  · have HD := Lib.hid (show inB x 0 3 = false from inB_not (fun h => h0 h.1))
    go_enter Tryd.func83, Tryd.ntmps83
    go_wp2_with fail
    go_ret
    exact ⟨ret_bool HD.out.symm, rfl⟩
theorem office_as (x : Int) (v : Bool) (h : inB x 0 3 = v) (w : World) : Calls Tryd.prog 81 #[.int .i64 x] w fun e w' => e = .returned (.bool v) ∧ w = w' := by
  subst h; exact l3Office x w
theorem ioffice_as (x : Int) (v : Bool) (h : inB x 0 3 = v) (w : World) : Calls Tryd.prog 83 #[.int .i64 x] w fun e w' => e = .returned (.bool v) ∧ w = w' := by
  subst h; exact isOffice x w
set_option maxHeartbeats 800000 in
theorem isValidMember (r : M) (w : World) (hs : r.name.size ≤ maxLen) :
    Calls Tryd.prog 46 #[.agg #[.int .i64 r.num, .string r.name, .int .i64 r.off]] w fun e w' => e = .returned (.bool (okB r)) ∧ Below w.heap.size w w' := by
  have HS := Lib.hid hs
  have hb := (Below.refl w.heap.size w).alloc (Nat.le_refl _) (Obj.cells #[.int .i64 r.num, .string r.name, .int .i64 r.off] 66)
  clear hs
  by_cases a1 : 1 ≤ r.num
  · by_cases a2 : r.num ≤ 99
    · cases h2 : isWordB r.name with
      | true =>
        have HO := Lib.hid (show okB r = inB r.off 0 3 by unfold okB; rw [inB_mk a1 a2, h2]; rfl)
        have HW := Lib.hid (fun W => iword_as r.name true h2 HS.out W)
        clear h2
        go_enter Tryd.func46, Tryd.ntmps46
        go_wp2_with fail
        refine (HW.out _).mono ?_
        rintro e w' ⟨rfl, rfl⟩
        go_wp2_with fail
        refine (isOffice _ _).mono ?_
        rintro e w' ⟨rfl, rfl⟩
        go_wp2_with fail
        go_ret
        exact ⟨ret_bool HO.out.symm, hb⟩
      | false =>
        have HO := Lib.hid (show okB r = false by unfold okB; rw [h2, Bool.and_false]; rfl)
        have HW := Lib.hid (fun W => iword_as r.name false h2 HS.out W)
        clear h2
        go_enter Tryd.func46, Tryd.ntmps46
        go_wp2_with fail
        refine (HW.out _).mono ?_
        rintro e w' ⟨rfl, rfl⟩
        go_wp2_with fail
        go_ret
        exact ⟨ret_bool HO.out.symm, hb⟩
    · have HO := Lib.hid (show okB r = false by unfold okB; rw [inB_not (fun h => a2 h.2)]; rfl)
      go_enter Tryd.func46, Tryd.ntmps46
      go_wp2_with fail
      go_ret
      exact ⟨ret_bool HO.out.symm, hb⟩
  · have HO := Lib.hid (show okB r = false by unfold okB; rw [inB_not (fun h => a1 h.1)]; rfl)
    go_enter Tryd.func46, Tryd.ntmps46
    go_wp2_with fail
    go_ret
    exact ⟨ret_bool HO.out.symm, hb⟩
end Go.Proofs.YtdmgiofgknfefaaDoor.Mem
