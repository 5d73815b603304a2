/- Agendas: which are valid, one item and a list. The model's and the program's tests of one item. No condition but that titles are no longer than strings can be. -/
import Derived.Test.YthadmkfmgpddoaaDoorWord
import Derived.Test.YthadmkfmgpddoaaDoorLAgendaItemZ
namespace Go.Proofs.YthadmkfmgpddoaaDoor.Ag
open Go.RowKit Bs Word
set_option linter.unusedVariables false

abbrev M := LAgendaItem.R
def okT (t : Int) : Bool := (t == -1) || inB t 0 1439
def okB (r : M) : Bool := ((inB r.id 1 99 && isWordB r.title) && inB r.mins 1 240) && okT r.time
/-- the later one r does not go with the earlier one p -/
def clash (p r : M) : Bool := p.id == r.id
def HeadOk (xs : List M) (i : Nat) : Prop := ∃ r, xs[i]? = some r ∧ okB r = true
def Step (xs : List M) (i : Nat) : Prop := HeadOk xs i ∧ ∀ k q r, k < i → xs[k]? = some q → xs[i]? = some r → clash q r = false
def GoodP (xs : List M) : Prop := xs.length ≤ 10 ∧ ∀ i, i < xs.length → Step xs i
open Classical in
noncomputable def goodB (xs : List M) : Bool := decide (GoodP xs)
open Classical in
theorem good_yes {xs : List M} (h : GoodP xs) : goodB xs = true := decide_eq_true h
open Classical in
theorem good_no {xs : List M} (h : ¬ GoodP xs) : goodB xs = false := decide_eq_false h
open Classical in
theorem good_of {xs : List M} (h : goodB xs = true) : GoodP xs := of_decide_eq_true h
theorem no_len {xs : List M} (h : 10 < xs.length) : goodB xs = false := good_no fun g => by have := g.1; omega
theorem no_ok {xs : List M} {i : Nat} {r : M} (hr : xs[i]? = some r) (h : okB r = false) : goodB xs = false := good_no fun g => by
  obtain ⟨⟨r', hr', ho⟩, _⟩ := g.2 i (List.getElem?_eq_some_iff.1 hr).1
  rw [hr] at hr'; rw [← Option.some.inj hr', h] at ho; cases ho
theorem no_clash {xs : List M} {i k : Nat} {r q : M} (hr : xs[i]? = some r) (hk : k < i) (hq : xs[k]? = some q) (h : clash q r = true) : goodB xs = false := good_no fun g => by
  have := (g.2 i (List.getElem?_eq_some_iff.1 hr).1).2 k q r hk hq hr
  rw [h] at this; cases this
theorem steps_next {xs : List M} {k : Nat} (hs : ∀ i, i < k → Step xs i) (h : Step xs k) : ∀ i, i < k + 1 → Step xs i := fun i hi => by
  rcases Nat.lt_or_ge i k with h' | h'
  · exact hs i h'
  · rwa [show i = k by omega]
theorem clash_next {xs : List M} {m : Nat} {X P : M} (h : ∀ j q, j < m → xs[j]? = some q → clash q X = false) (hp : xs[m]? = some P) (hc : clash P X = false) : ∀ j q, j < m + 1 → xs[j]? = some q → clash q X = false := fun j q hj hq => by
  rcases Nat.lt_or_ge j m with h' | h'
  · exact h j q h' hq
  · obtain rfl : j = m := by omega
    rw [hp] at hq; rw [← Option.some.inj hq]; exact hc
theorem step_mk {xs : List M} {k : Nat} {X : M} (hx : xs[k]? = some X) (h1 : HeadOk xs k) (h2 : ∀ j q, j < k → xs[j]? = some q → clash q X = false) : Step xs k :=
  ⟨h1, fun j q r hj hq hr => by rw [hx] at hr; rw [← Option.some.inj hr]; exact h2 j q hj hq⟩
theorem ok_parts {r : M} (h : okB r = true) : (1 ≤ r.id ∧ r.id ≤ 99) ∧ isWordB r.title = true ∧ (1 ≤ r.mins ∧ r.mins ≤ 240) ∧ (-1 ≤ r.time ∧ r.time ≤ 1439) := by
  unfold okB okT at h
  simp only [Bool.and_eq_true, Bool.or_eq_true, beq_iff_eq] at h
  refine ⟨inB_yes h.1.1.1, h.1.1.2, inB_yes h.1.2, ?_⟩
  rcases h.2 with h | h
  · omega
  · have := inB_yes h; omega
/-- what a good list's items are like -/
theorem good_at {xs : List M} (h : goodB xs = true) {k : Nat} {X : M} (hx : xs[k]? = some X) : okB X = true := by
  obtain ⟨⟨r, hr, ho⟩, _⟩ := (good_of h).2 k (List.getElem?_eq_some_iff.1 hx).1
  rw [hx] at hr; rw [Option.some.inj hr]; exact ho
theorem good_len {xs : List M} (h : goodB xs = true) : xs.length ≤ 10 := (good_of h).1

theorem l5Minute (x : Int) (w : World) : Calls Tryd.prog 22 #[.int .i64 x] w fun e w' => e = .returned (.bool (inB x 0 1439)) ∧ w = w' := by
  have HI := Lib.hid (fun W => in_as x 0 1439 _ rfl W)
  go_enter Tryd.func22, Tryd.ntmps22
  go_wp2_with fail
  refine (HI.out _).mono ?_
  rintro e w' ⟨rfl, rfl⟩
  go_wp2_with fail
  go_ret
  exact ⟨rfl, rfl⟩
theorem isMinute (x : Int) (w : World) : Calls Tryd.prog 41 #[.int .i64 x] w fun e w' => e = .returned (.bool (inB x 0 1439)) ∧ w = w' := by
  by_cases h0 : 0 ≤ x
  · have HD := Lib.hid (show decide (x < 1440) = inB x 0 1439 by unfold inB; by_cases h : x < 1440 <;> simp [h, h0] <;> omega)
    go_enter Tryd.func41, Tryd.ntmps41
    go_wp2_with fail
    go_ret
    exact ⟨ret_bool HD.out, rfl⟩
  · have HD := Lib.hid (show inB x 0 1439 = false from inB_not (fun h => h0 h.1))
    go_enter Tryd.func41, Tryd.ntmps41
    go_wp2_with fail
    go_ret
    exact ⟨ret_bool HD.out.symm, rfl⟩
theorem min_as (x : Int) (v : Bool) (h : inB x 0 1439 = v) (w : World) : Calls Tryd.prog 22 #[.int .i64 x] w fun e w' => e = .returned (.bool v) ∧ w = w' := by
  subst h; exact l5Minute x w
theorem imin_as (x : Int) (v : Bool) (h : inB x 0 1439 = v) (w : World) : Calls Tryd.prog 41 #[.int .i64 x] w fun e w' => e = .returned (.bool v) ∧ w = w' := by
  subst h; exact isMinute x w
set_option maxHeartbeats 800000 in
theorem isValidItem (r : M) (w : World) (hs : r.title.size ≤ maxLen) :
    Calls Tryd.prog 29 #[.agg #[.int .i64 r.id, .string r.title, .int .i64 r.mins, .int .i64 r.time]] w fun e w' => e = .returned (.bool (okB r)) ∧ Below w.heap.size w w' := by
  have HS := Lib.hid hs
  have hb := (Below.refl w.heap.size w).alloc (Nat.le_refl _) (Obj.cells #[.int .i64 r.id, .string r.title, .int .i64 r.mins, .int .i64 r.time] 31)
  clear hs
  by_cases a1 : 1 ≤ r.id
  · by_cases a2 : r.id ≤ 99
    · cases h2 : isWordB r.title with
      | false =>
        have HO := Lib.hid (show okB r = false by unfold okB; rw [h2, Bool.and_false]; rfl)
        have HW := Lib.hid (fun W => iword_as r.title false h2 HS.out W)
        clear h2
        go_enter Tryd.func29, Tryd.ntmps29
        go_wp2_with fail
        refine (HW.out _).mono ?_
        rintro e w' ⟨rfl, rfl⟩
        go_wp2_with fail
        go_ret
        exact ⟨ret_bool HO.out.symm, hb⟩
      | true =>
        have HW := Lib.hid (fun W => iword_as r.title true h2 HS.out W)
        have h3 : (inB r.id 1 99 && isWordB r.title) = true := by rw [inB_mk a1 a2, h2]; rfl
        clear h2
        by_cases b1 : 1 ≤ r.mins
        · by_cases b2 : r.mins ≤ 240
          · cases c1 : (r.time == -1) with
            | true =>
              have HO := Lib.hid (show okB r = true by unfold okB okT; rw [h3, inB_mk b1 b2, c1]; rfl)
              clear h3
              go_enter Tryd.func29, Tryd.ntmps29
              go_wp2_with fail
              refine (HW.out _).mono ?_
              rintro e w' ⟨rfl, rfl⟩
              go_wp2_with fail
              go_ret
              exact ⟨ret_bool HO.out.symm, hb⟩
            | false =>
              have HO := Lib.hid (show okB r = inB r.time 0 1439 by unfold okB okT; rw [h3, inB_mk b1 b2, c1]; rfl)
              clear h3
              go_enter Tryd.func29, Tryd.ntmps29
              go_wp2_with fail
              refine (HW.out _).mono ?_
              rintro e w' ⟨rfl, rfl⟩
              go_wp2_with fail
              refine (isMinute _ _).mono ?_
              rintro e w' ⟨rfl, rfl⟩
              go_wp2_with fail
              go_ret
              exact ⟨ret_bool HO.out.symm, hb⟩
          · have HO := Lib.hid (show okB r = false by unfold okB; rw [inB_not (x := r.mins) (fun h => b2 h.2), Bool.and_false]; rfl)
            clear h3
            go_enter Tryd.func29, Tryd.ntmps29
            go_wp2_with fail
            refine (HW.out _).mono ?_
            rintro e w' ⟨rfl, rfl⟩
            go_wp2_with fail
            go_ret
            exact ⟨ret_bool HO.out.symm, hb⟩
        · have HO := Lib.hid (show okB r = false by unfold okB; rw [inB_not (x := r.mins) (fun h => b1 h.1), Bool.and_false]; rfl)
          clear h3
          go_enter Tryd.func29, Tryd.ntmps29
          go_wp2_with fail
          refine (HW.out _).mono ?_
          rintro e w' ⟨rfl, rfl⟩
          go_wp2_with fail
          go_ret
          exact ⟨ret_bool HO.out.symm, hb⟩
    · have HO := Lib.hid (show okB r = false by unfold okB; rw [inB_not (x := r.id) (fun h => a2 h.2)]; rfl)
      go_enter Tryd.func29, Tryd.ntmps29
      go_wp2_with fail
      go_ret
      exact ⟨ret_bool HO.out.symm, hb⟩
  · have HO := Lib.hid (show okB r = false by unfold okB; rw [inB_not (x := r.id) (fun h => a1 h.1)]; rfl)
    go_enter Tryd.func29, Tryd.ntmps29
    go_wp2_with fail
    go_ret
    exact ⟨ret_bool HO.out.symm, hb⟩
end Go.Proofs.YthadmkfmgpddoaaDoor.Ag
