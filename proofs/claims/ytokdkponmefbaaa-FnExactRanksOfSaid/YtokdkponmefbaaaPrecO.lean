/- Precedences: the smallest order of the kinds. Plain mathematics. -/
import Derived.Test.YtokdkponmefbaaaPrecM
import Derived.Test.YtokdkponmefbaaaIntF
import Derived.Test.YtokdkponmefbaaaLPrecedenceD
namespace Go.Proofs.Ytokdkponmefbaaa.PrecO
open Go.RowKit Bs PrecM IntF
set_option linter.unusedVariables false
/-- a kind may stand next -/
def Ready (z : List M) (xs : List Int) (n : Int) : Prop := n ∉ xs ∧ ∀ x ∈ z, x.b = n → x.a ∈ xs
open Classical in
noncomputable def readyB (z : List M) (xs : List Int) (n : Int) : Bool := decide (Ready z xs n)
open Classical in
theorem ready_iff {z : List M} {xs : List Int} {n : Int} : readyB z xs n = true ↔ Ready z xs n := decide_eq_true_iff
theorem ready_no {z : List M} {xs : List Int} {n : Int} : readyB z xs n = false ↔ ¬ Ready z xs n := by rw [← ready_iff]; simp
theorem least {P : Nat → Prop} : ∀ n, P n → ∃ m, P m ∧ m ≤ n ∧ ∀ i, i < m → ¬ P i := by
  intro n
  induction n using Nat.strongRecOn with
  | ind n ih =>
    intro h
    by_cases hl : ∃ i, i < n ∧ P i
    · obtain ⟨i, hi, hp⟩ := hl
      obtain ⟨m, h1, h2, h3⟩ := ih i hi hp
      exact ⟨m, h1, by omega, h3⟩
    · exact ⟨n, h, Nat.le_refl _, fun i hi hp => hl ⟨i, hi, hp⟩⟩
theorem filter_lt {p q : Int → Bool} : ∀ {xs : List Int}, (∀ x, p x = true → q x = true) → (∃ x ∈ xs, q x = true ∧ p x = false) → (xs.filter p).length < (xs.filter q).length
  | [], _, ⟨x, hx, _⟩ => by cases hx
  | a :: xs, h, ⟨x, hx, hq, hp⟩ => by
    have hle : (xs.filter p).length ≤ (xs.filter q).length := by
      clear hx hq hp
      induction xs with
      | nil => exact Nat.le_refl _
      | cons b xs ih =>
        rw [List.filter_cons, List.filter_cons]
        cases hb : p b with
        | true => rw [h b hb]; simpa using ih
        | false =>
          cases q b with
          | true => simp; omega
          | false => simpa using ih
    rcases List.mem_cons.1 hx with rfl | hx
    · rw [List.filter_cons, List.filter_cons, hq, hp]; simp; omega
    · have ih := filter_lt h ⟨x, hx, hq, hp⟩
      rw [List.filter_cons, List.filter_cons]
      cases hb : p a with
      | true => rw [h a hb]; simpa using ih
      | false =>
        cases q a with
        | true => simp; omega
        | false => simpa using ih
theorem sub_len : ∀ {zs us : List Int}, Asc zs → (∀ m ∈ zs, m ∈ us) → zs.length ≤ us.length
  | [], _, _, _ => Nat.zero_le _
  | a :: zs, us, h, hs => by
    have ha := hs a (by simp)
    have ih := sub_len (zs := zs) (us := us.erase a) h.2 (fun m hm => by
      have hne : m ≠ a := fun e => by have := h.1 m hm; omega
      exact (List.mem_erase_of_ne hne).2 (hs m (by simp [hm])))
    have hl := List.length_erase_of_mem ha
    have := List.length_pos_of_mem ha
    simp only [List.length_cons]; omega
/-- without a cycle there is a kind that may stand next -/
theorem ready_ex {k : Nat} {z : List M} {xs : List Int} (hz : In k z) (hs : ∀ c : Int, ¬ TC z c c) (hl : xs.length < k) : ∃ n : Nat, n < k ∧ Ready z xs n := by
  obtain ⟨n, hn, hx⟩ : ∃ n ∈ kinds k, n ∉ xs := by
    apply Classical.byContradiction
    intro h
    have := sub_len (asc_kinds k) (us := xs) (fun m hm => Classical.byContradiction fun hm' => h ⟨m, hm, hm'⟩)
    unfold kinds at this
    simp at this
    omega
  have key : ∀ (q : Nat) (n : Int), n ∈ kinds k → n ∉ xs → ((kinds k).filter (fun c => yieldsB z c n)).length ≤ q → ∃ n : Nat, n < k ∧ Ready z xs n := by
    intro q
    induction q with
    | zero =>
      intro n hn hx hq
      have hn2 := mem_kinds.1 hn
      refine ⟨n.toNat, by omega, ?_⟩
      rw [show ((n.toNat : Nat) : Int) = n by omega]
      refine ⟨hx, fun x hxz hb => Classical.byContradiction fun _ => ?_⟩
      have hm : x.a ∈ (kinds k).filter (fun c => yieldsB z c n) := List.mem_filter.2 ⟨mem_kinds.2 (hz x hxz).1, by rw [yields_iff, ← hb]; exact .one hxz⟩
      have := List.length_pos_of_mem hm
      omega
    | succ q ih =>
      intro n hn hx hq
      by_cases hr : Ready z xs n
      · have hn2 := mem_kinds.1 hn
        exact ⟨n.toNat, by omega, by rw [show ((n.toNat : Nat) : Int) = n by omega]; exact hr⟩
      · obtain ⟨x, hxz, hb, hxa⟩ : ∃ x ∈ z, x.b = n ∧ x.a ∉ xs := by
          apply Classical.byContradiction
          intro h
          exact hr ⟨hx, fun x hxz hb => Classical.byContradiction fun ha => h ⟨x, hxz, hb, ha⟩⟩
        refine ih x.a (mem_kinds.2 (hz x hxz).1) hxa ?_
        have hlt := filter_lt (p := fun c => yieldsB z c x.a) (q := fun c => yieldsB z c n) (xs := kinds k)
          (fun c hc => by rw [yields_iff] at hc ⊢; rw [← hb]; exact .tail hc hxz)
          ⟨x.a, mem_kinds.2 (hz x hxz).1, by rw [yields_iff, ← hb]; exact .one hxz, by
            cases h : yieldsB z x.a x.a with
            | false => rfl
            | true => exact absurd (yields_iff.1 h) (hs _)⟩
        omega
  exact key _ n hn hx (Nat.le_refl _)
open Classical in
noncomputable def nxt (z : List M) (xs : List Int) : Nat := if h : ∃ n : Nat, Ready z xs n then (least (P := fun n : Nat => Ready z xs n) h.choose h.choose_spec).choose else 0
theorem nxt_eq {z : List M} {xs : List Int} {m : Nat} (h : Ready z xs m) (hm : ∀ i : Nat, i < m → ¬ Ready z xs i) : nxt z xs = m := by
  have hex : ∃ n : Nat, Ready z xs n := ⟨m, h⟩
  unfold nxt
  rw [dif_pos hex]
  obtain ⟨h1, _, h3⟩ := (least (P := fun n : Nat => Ready z xs n) hex.choose hex.choose_spec).choose_spec
  generalize (least (P := fun n : Nat => Ready z xs n) hex.choose hex.choose_spec).choose = y at *
  rcases Nat.lt_trichotomy y m with h' | h' | h'
  · exact absurd h1 (hm y h')
  · exact h'
  · exact absurd h (h3 m h')
/-- the next kind is there, below the number of kinds -/
theorem nxt_ok {k : Nat} {z : List M} {xs : List Int} (hz : In k z) (hs : ∀ c : Int, ¬ TC z c c) (hl : xs.length < k) : nxt z xs < k ∧ Ready z xs (nxt z xs) ∧ ∀ i : Nat, i < nxt z xs → ¬ Ready z xs i := by
  obtain ⟨n, hn, hr⟩ := ready_ex hz hs hl
  obtain ⟨m, h1, h2, h3⟩ := least (P := fun n : Nat => Ready z xs n) n hr
  rw [nxt_eq h1 h3]
  exact ⟨by omega, h1, h3⟩
noncomputable def ord (z : List M) : Nat → List Int
  | 0 => []
  | m + 1 => ord z m ++ [(nxt z (ord z m) : Int)]
theorem ord_len (z : List M) : ∀ m, (ord z m).length = m
  | 0 => rfl
  | m + 1 => by rw [ord, List.length_append, ord_len z m]; rfl
def lenV : Value → Nat
  | .slice _ n _ => n
  | _ => 0
theorem lenV_own {w : World} {A : Nat} {v : Value} {xs : List Int} (h : Own LInt.rec 3 w A v xs) : lenV v = xs.length := by
  rcases h.shape with ⟨rfl, rfl⟩ | ⟨g, cap, rfl, _⟩ <;> rfl
theorem shape_of {w : World} {A : Nat} {v : Value} {xs : List Int} (h : Own LInt.rec 3 w A v xs) : ∃ a c, v = .slice a xs.length c := by
  rcases h.shape with ⟨rfl, rfl⟩ | ⟨g, cap, rfl, _⟩
  · exact ⟨_, _, rfl⟩
  · exact ⟨_, _, rfl⟩
noncomputable def oA (r : LPrecedence.R) : List Int × Bool := if (goodB r.kinds r.over && soundB r.kinds r.over) = true then (ord r.over r.kinds.toNat, true) else ([], false)
theorem o_bad {r : LPrecedence.R} (h : (goodB r.kinds r.over && soundB r.kinds r.over) = false) : oA r = ([], false) := by unfold oA; rw [h]; rfl
theorem o_good {z : List M} {k : Nat} (h : (goodB (k : Int) z && soundB (k : Int) z) = true) : oA ⟨(k : Int), z⟩ = (ord z k, true) := by unfold oA; simp only; rw [h]; rfl
def Ans (z0 : LPrecedence.R) (r0 : List Int) (r1 : Bool) : Prop := oA z0 = (r0, r1)
theorem same {z0 : LPrecedence.R} {r0 s0 : List Int} {r1 s1 : Bool} (h : Ans z0 r0 r1) (h' : Ans z0 s0 s1) : r0 = s0 ∧ r1 = s1 := by have := h.symm.trans h'; simpa using this
theorem len0 {z0 : LPrecedence.R} {r0 : List Int} {r1 : Bool} (h : Ans z0 r0 r1) : r0.length ≤ 1048576 := by
  unfold Ans oA at h
  split at h
  · rename_i hg
    simp only [Prod.mk.injEq] at h
    rw [Bool.and_eq_true] at hg
    have h8 := (good_of hg.1).2.1
    rw [← h.1, ord_len]
    omega
  · simp only [Prod.mk.injEq] at h; rw [← h.1]; simp
def Post (z0 : LPrecedence.R) (w : World) (e : Ending) (w' : World) : Prop := ∃ v0 r0 r1, e = .returned (.tuple #[v0, .bool r1]) ∧ Ans z0 r0 r1 ∧ Own LInt.rec 3 w' w.heap.size v0 r0 ∧ Below w.heap.size w w'
/-- the pairs so far are at rest -/
def Rest (z : List M) (xs : List Int) (n : Int) (j : Nat) : Prop := ∀ (t : Nat) (x : M), t < j → z[t]? = some x → x.b = n → x.a ∈ xs
theorem rest_next {z : List M} {xs : List Int} {n : Int} {j : Nat} {X : M} (h : Rest z xs n j) (hX : z[j]? = some X) (hr : X.b = n → X.a ∈ xs) : Rest z xs n (j + 1) := fun t x ht hx => by
  rcases Nat.lt_or_ge t j with h' | h'
  · exact h t x h' hx
  · obtain rfl : t = j := by omega
    rw [hX] at hx; rw [← Option.some.inj hx]; exact hr
theorem rest_all {z : List M} {xs : List Int} {n : Int} {j : Nat} (h : Rest z xs n j) (hj : z.length ≤ j) : ∀ x ∈ z, x.b = n → x.a ∈ xs := fun x hx => by
  obtain ⟨i, hi, rfl⟩ := List.getElem_of_mem hx
  exact h i _ (by omega) (List.getElem?_eq_getElem hi)
theorem ready_bad {z : List M} {xs : List Int} {n : Int} {X : M} (hX : X ∈ z) (hb : X.b = n) (ha : X.a ∉ xs) : readyB z xs n = false := ready_no.2 fun h => ha (h.2 X hX hb)
theorem ready_end {z : List M} {xs : List Int} {n : Int} (h : ∀ x ∈ z, x.b = n → x.a ∈ xs) : readyB z xs n = !hasB xs n := by
  rw [Bool.eq_iff_iff, ready_iff, Bool.not_eq_true', ← Bool.not_eq_true, has_iff]
  exact ⟨fun g => g.1, fun g => ⟨g, h⟩⟩
end Go.Proofs.Ytokdkponmefbaaa.PrecO
