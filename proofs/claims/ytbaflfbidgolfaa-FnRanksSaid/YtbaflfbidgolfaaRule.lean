/- Rules: their cells; slices of them in memory; which are valid. No condition. -/
import Derived.Test.YtbaflfbidgolfaaRows
import Derived.Test.YtbaflfbidgolfaaFrame
import Derived.WalkKit
import Derived.WalkSpells
import Derived.WalkSmall
import Derived.Lib.Hide
import Derived.Lib.QuietBelow
import Derived.Deep.QuietTactic
import Derived.BigQuiet
namespace Go.Proofs.Ytbaflfbidgolfaa.Rule
open Go.RowKit
set_option linter.unusedVariables false

structure R where
  id : Int
  name : ByteArray
  rank : Int
  sec : Bool
  deb : Bool
  am : Bool
  need : Int
def R.vals (r : R) : List Value := [.int .i64 r.id, .string r.name, .int .i64 r.rank, .bool r.sec, .bool r.deb, .bool r.am, .int .i64 r.need]
/-- the cells of several rules, one behind the other -/
def flat (xs : List R) : List Value := xs.flatMap R.vals
theorem flat_len : ∀ xs : List R, (flat xs).length = xs.length * 7
  | [] => rfl
  | x :: xs => by
    show (x.vals ++ flat xs).length = _
    rw [List.length_append, flat_len xs, List.length_cons, Nat.add_mul, Nat.one_mul, Nat.add_comm]
    rfl
theorem flat_append (xs ys : List R) : flat (xs ++ ys) = flat xs ++ flat ys := by simp [flat]
theorem flat_at : ∀ (xs : List R) (k j : Nat) (r : R), xs[k]? = some r → j < 7 → (flat xs)[k * 7 + j]? = r.vals[j]?
  | [], k, j, r, h, _ => by simp at h
  | x :: xs, 0, j, r, h, hj => by
    simp only [List.getElem?_cons_zero, Option.some.injEq] at h
    subst h
    show (x.vals ++ flat xs)[0 * 7 + j]? = _
    rw [Nat.zero_mul, Nat.zero_add, List.getElem?_append_left (by simpa [R.vals] using hj)]
  | x :: xs, k + 1, j, r, h, hj => by
    rw [List.getElem?_cons_succ] at h
    show (x.vals ++ flat xs)[(k + 1) * 7 + j]? = _
    have hl : x.vals.length = 7 := rfl
    rw [List.getElem?_append_right (by rw [hl]; omega), hl]
    have e : (k + 1) * 7 + j - 7 = k * 7 + j := by omega
    rw [e]
    exact flat_at xs k j r h hj
theorem flat_take (xs : List R) (k : Nat) : flat (xs.take k) = (flat xs).take (k * 7) := by
  induction xs generalizing k with
  | nil => simp [flat]
  | cons x xs ih =>
    cases k with
    | zero => simp [flat]
    | succ k =>
      rw [List.take_succ_cons]
      show x.vals ++ flat (xs.take k) = (x.vals ++ flat xs).take _
      have hl : x.vals.length = 7 := rfl
      rw [ih, List.take_append, List.take_of_length_le (l := x.vals) (by rw [hl]; omega), hl]
      congr 2
      omega
/-- the seven cells of a rule -/
def At (w : World) (b p : Nat) (r : R) : Prop :=
  w.cell? ⟨b, p, none⟩ = some (.int .i64 r.id) ∧ w.cell? ⟨b, p + 1, none⟩ = some (.string r.name) ∧ w.cell? ⟨b, p + 2, none⟩ = some (.int .i64 r.rank) ∧
  w.cell? ⟨b, p + 3, none⟩ = some (.bool r.sec) ∧ w.cell? ⟨b, p + 4, none⟩ = some (.bool r.deb) ∧ w.cell? ⟨b, p + 5, none⟩ = some (.bool r.am) ∧ w.cell? ⟨b, p + 6, none⟩ = some (.int .i64 r.need)
theorem At.keep {w w' : World} {b p : Nat} {r : R} (h : At w b p r) (hk : ∀ o, w'.cell? ⟨b, o, none⟩ = w.cell? ⟨b, o, none⟩) : At w' b p r := by
  unfold At at h ⊢
  simp only [hk]
  exact h
theorem At.below {w w' : World} {b p B : Nat} {r : R} (h : At w b p r) (hb : Below B w w') (hl : b < B) : At w' b p r := h.keep fun o => hb.cell (p := ⟨b, o, none⟩) hl
theorem At.regrown {w : World} {b p : Nat} {r : R} (h : At w b p r) (hl : b < w.heap.size) (d : Nat) (os : Array Obj) : At (Sort.grow (redrawn w d) os) b p r := h.below (below_regrown w d os) hl
theorem At.of_cells {w : World} {b p : Nat} {r : R} (h : ∀ j v, r.vals[j]? = some v → w.cell? ⟨b, p + j, none⟩ = some v) : At w b p r :=
  ⟨h 0 _ rfl, h 1 _ rfl, h 2 _ rfl, h 3 _ rfl, h 4 _ rfl, h 5 _ rfl, h 6 _ rfl⟩
/-- the cells of a rule that lies at a block's head -/
theorem At.head {w : World} {b : Nat} {r : R} (h : At w b 0 r) : w.cell? ⟨b, 0, none⟩ = some (.int .i64 r.id) ∧ w.cell? ⟨b, 1, none⟩ = some (.string r.name) ∧ w.cell? ⟨b, 2, none⟩ = some (.int .i64 r.rank) ∧
  w.cell? ⟨b, 3, none⟩ = some (.bool r.sec) ∧ w.cell? ⟨b, 4, none⟩ = some (.bool r.deb) ∧ w.cell? ⟨b, 5, none⟩ = some (.bool r.am) ∧ w.cell? ⟨b, 6, none⟩ = some (.int .i64 r.need) := by
  unfold At at h
  simpa only [Nat.zero_add] using h
/-- a rule that was boxed -/
theorem At.box (w : World) (r : R) (t : TypeId) : At (w.alloc (.cells #[.int .i64 r.id, .string r.name, .int .i64 r.rank, .bool r.sec, .bool r.deb, .bool r.am, .int .i64 r.need] t)) w.heap.size 0 r := by
  unfold At
  simp [go_sem]
theorem cell_lt {w : World} {p : Addr} {v : Value} (h : w.cell? p = some v) : p.block < w.heap.size := by
  rcases Nat.lt_or_ge p.block w.heap.size with h' | h'
  · exact h'
  · simp [World.cell?, Array.getElem?_eq_none h'] at h

/-- A slice of rules lies in memory. -/
def RulesAt (w : World) (a : Option Addr) (c : Nat) (xs : List R) : Prop :=
  xs.length ≤ c ∧ c ≤ maxLen ∧ (xs = [] ∨ ∃ b o, a = some ⟨b, o, none⟩ ∧ b < w.heap.size ∧ ∀ j r, xs[j]? = some r → At w b (o + j * 7) r)
theorem RulesAt.below {w w' : World} {a : Option Addr} {c : Nat} {xs : List R} (h : RulesAt w a c xs) (hb : Below w.heap.size w w') : RulesAt w' a c xs := by
  obtain ⟨h1, h2, h3⟩ := h
  refine ⟨h1, h2, ?_⟩
  rcases h3 with h3 | ⟨b, o, rfl, hlt, hc⟩
  · exact .inl h3
  · exact .inr ⟨b, o, rfl, Nat.lt_of_lt_of_le hlt hb.size, fun j r hr => (hc j r hr).below hb hlt⟩
/-- the rule at a place: where it lies -/
theorem RulesAt.at_ {w : World} {a : Option Addr} {c : Nat} {xs : List R} (h : RulesAt w a c xs) : Hid (∀ j r, xs[j]? = some r → ∃ b o, a = some ⟨b, o, none⟩ ∧ b < w.heap.size ∧ At w b (o + j * 7) r) := by
  obtain ⟨_, _, h3⟩ := h
  intro j r hr
  rcases h3 with rfl | ⟨b, o, rfl, hl, hc⟩
  · simp at hr
  · exact ⟨b, o, rfl, hl, hc j r hr⟩
/-- A row of rules of the call's own is a slice of rules in memory. -/
theorem rules_of_owns {w : World} {base E n cap : Nat} {a : Option Addr} {xs : List R} (hn : xs.length = n) (h : w.ownsRow base E 7 (.slice a n cap) n (flat xs)) : RulesAt w a cap xs := by
  rcases h.2 with ⟨h', h0⟩ | ⟨g, cap', cur, h', _, hg, hnc, hcm, _, _⟩
  · simp only [Value.slice.injEq] at h'
    obtain ⟨rfl, rfl, rfl⟩ := h'
    exact ⟨by omega, Nat.zero_le _, .inl (List.eq_nil_of_length_eq_zero hn)⟩
  · simp only [Value.slice.injEq, true_and] at h'
    obtain ⟨rfl, rfl⟩ := h'
    refine ⟨by omega, hcm, .inr ⟨g, 0, rfl, (Array.getElem?_eq_some_iff.1 hg).1, fun j r hr => At.of_cells fun i v hv => ?_⟩⟩
    have hi : i < 7 := by
      rcases Nat.lt_or_ge i 7 with h7 | h7
      · exact h7
      · rw [List.getElem?_eq_none (by exact h7)] at hv; cases hv
    have hc := h.cells (g := g) rfl (j * 7 + i) v (by rw [flat_at xs j i r hr hi]; exact hv)
    rw [Go.WideShapes.add_plain] at hc
    rw [show 0 + j * 7 + i = 0 + (j * 7 + i) by omega]
    exact hc

/-- the letters a to z -/
def az (c : UInt8) : Bool := decide (97 ≤ c.toNat) && decide (c.toNat ≤ 122)
def allAz (l : List UInt8) : Bool := l.all az
def isWordB (s : ByteArray) : Bool := (decide (1 ≤ s.size) && decide (s.size ≤ 10)) && allAz s.data.toList
def OkR (r : R) : Prop := (1 ≤ r.id ∧ r.id ≤ 20) ∧ isWordB r.name = true ∧ (0 ≤ r.rank ∧ r.rank ≤ 9) ∧ (1 ≤ r.need ∧ r.need ≤ 3)
instance (r : R) : Decidable (OkR r) := by unfold OkR; infer_instance
def okB (r : R) : Bool := decide (OkR r)
theorem take_snoc (s : ByteArray) (k : Nat) (h : k < s.size) : s.data.toList.take (k + 1) = s.data.toList.take k ++ [s[k]] := by
  rw [List.take_succ_eq_append_getElem (by simpa using h)]; rfl
theorem az_next (s : ByteArray) (k : Nat) (h : k < s.size) (hp : allAz (s.data.toList.take k) = true) (hc : az s[k] = true) : allAz (s.data.toList.take (k + 1)) = true := by
  rw [take_snoc s k h]; unfold allAz at hp ⊢; rw [List.all_append, hp]; simp [hc]
theorem az_bad (s : ByteArray) (k : Nat) (h : k < s.size) (hc : az s[k] = false) : allAz s.data.toList = false := by
  unfold allAz
  rw [List.all_eq_false]
  exact ⟨s[k], Array.getElem_mem_toList _, by simp [hc]⟩
theorem az_all (s : ByteArray) (k : Nat) (h : s.size ≤ k) (hp : allAz (s.data.toList.take k) = true) : allAz s.data.toList = true := by
  rwa [List.take_of_length_le (by simpa using h)] at hp
theorem ret_bool {a b : Bool} (h : a = b) : Ending.returned (.bool a) = .returned (.bool b) := by rw [h]
theorem word_no {s : ByteArray} (h : allAz s.data.toList = false) : isWordB s = false := by unfold isWordB; rw [h, Bool.and_false]
theorem word_len {s : ByteArray} (h : ¬ (1 ≤ s.size ∧ s.size ≤ 10)) : isWordB s = false := by
  unfold isWordB
  have : (decide (1 ≤ s.size) && decide (s.size ≤ 10)) = false := by
    rw [← Bool.decide_and]; exact decide_eq_false h
  rw [this, Bool.false_and]
theorem word_yes {s : ByteArray} (h1 : 1 ≤ s.size) (h2 : s.size ≤ 10) (h : allAz s.data.toList = true) : isWordB s = true := by
  unfold isWordB; rw [h, Bool.and_true, ← Bool.decide_and]; exact decide_eq_true ⟨h1, h2⟩
end Go.Proofs.Ytbaflfbidgolfaa.Rule
