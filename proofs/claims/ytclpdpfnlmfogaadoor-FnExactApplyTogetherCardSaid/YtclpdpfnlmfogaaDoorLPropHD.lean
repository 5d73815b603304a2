/- The struct PropH: its cells; slices of it in memory. No condition. -/
import Derived.Test.YtclpdpfnlmfogaaDoorJ1
namespace Go.Proofs.YtclpdpfnlmfogaaDoor.LPropH
open Go.RowKit Bs
set_option linter.unusedVariables false

/-- a slice header -/
structure Hdr where
  a : Option Addr
  l : Nat
  c : Nat
structure R where
  id : Int
  kind : Int
  pos : Int
  count : Int
  s : Hdr
  weight : Int
def vals (r : R) : List Value := [.int .i64 r.id, .int .i64 r.kind, .int .i64 r.pos, .int .i64 r.count, .slice r.s.a r.s.l r.s.c, .int .i64 r.weight]
/-- the struct as a type of records -/
def rec : Rec R := ⟨6, vals, fun _ => rfl, by decide, fun r u hu => by
  simp only [vals, List.mem_cons, List.not_mem_nil, or_false] at hu
  rcases hu with rfl | rfl | rfl | rfl | rfl | rfl <;> rfl⟩
theorem rec_n : rec.n = 6 := rfl
theorem infoX : (Tryd.prog.info? 42).map (fun i => (i.zero, i.size)) = some (some (.agg #[.int .i64 0, .int .i64 0, .int .i64 0, .int .i64 0, .slice none 0 0, .int .i64 0]), 6) := by kernel_rfl
theorem cells {w : World} {b p : Nat} {r : R} (h : At rec w b p r) : w.cell? ⟨b, p, none⟩ = some (.int .i64 r.id) ∧ w.cell? ⟨b, p + 1, none⟩ = some (.int .i64 r.kind) ∧ w.cell? ⟨b, p + 2, none⟩ = some (.int .i64 r.pos) ∧ w.cell? ⟨b, p + 3, none⟩ = some (.int .i64 r.count) ∧ w.cell? ⟨b, p + 4, none⟩ = some (.slice r.s.a r.s.l r.s.c) ∧ w.cell? ⟨b, p + 5, none⟩ = some (.int .i64 r.weight) :=
  ⟨h 0 _ rfl, h 1 _ rfl, h 2 _ rfl, h 3 _ rfl, h 4 _ rfl, h 5 _ rfl⟩
theorem cells0 {w : World} {b : Nat} {r : R} (h : At rec w b 0 r) : w.cell? ⟨b, 0, none⟩ = some (.int .i64 r.id) ∧ w.cell? ⟨b, 1, none⟩ = some (.int .i64 r.kind) ∧ w.cell? ⟨b, 2, none⟩ = some (.int .i64 r.pos) ∧ w.cell? ⟨b, 3, none⟩ = some (.int .i64 r.count) ∧ w.cell? ⟨b, 4, none⟩ = some (.slice r.s.a r.s.l r.s.c) ∧ w.cell? ⟨b, 5, none⟩ = some (.int .i64 r.weight) := by
  have := cells h
  simpa only [Nat.zero_add] using this
theorem at_of {w : World} {b p : Nat} {r : R} (h0 : w.cell? ⟨b, p, none⟩ = some (.int .i64 r.id)) (h1 : w.cell? ⟨b, p + 1, none⟩ = some (.int .i64 r.kind)) (h2 : w.cell? ⟨b, p + 2, none⟩ = some (.int .i64 r.pos)) (h3 : w.cell? ⟨b, p + 3, none⟩ = some (.int .i64 r.count)) (h4 : w.cell? ⟨b, p + 4, none⟩ = some (.slice r.s.a r.s.l r.s.c)) (h5 : w.cell? ⟨b, p + 5, none⟩ = some (.int .i64 r.weight)) : At rec w b p r := fun j v hv => by
  have hj : j < 6 := (List.getElem?_eq_some_iff.1 hv).1
  match j, hj with
  | 0, _ => rw [← hv]; exact h0
  | 1, _ => rw [← hv]; exact h1
  | 2, _ => rw [← hv]; exact h2
  | 3, _ => rw [← hv]; exact h3
  | 4, _ => rw [← hv]; exact h4
  | 5, _ => rw [← hv]; exact h5
/-- a record that was boxed -/
theorem box (w : World) (r : R) (t : TypeId) : At rec (w.alloc (.cells #[.int .i64 r.id, .int .i64 r.kind, .int .i64 r.pos, .int .i64 r.count, .slice r.s.a r.s.l r.s.c, .int .i64 r.weight] t)) w.heap.size 0 r := at_of (by simp [go_sem]) (by simp [go_sem]) (by simp [go_sem]) (by simp [go_sem]) (by simp [go_sem]) (by simp [go_sem])
/-- facts of a record in all worlds that only grew -/
theorem grown {w : World} {b p : Nat} {r : R} (h : At rec w b p r) (hl : b < w.heap.size) : Hid (∀ d os, At rec (Sort.grow (redrawn w d) os) b p r) := fun d os => h.below rec (below_regrown w d os) hl
def zero : R := ⟨0, 0, 0, 0, ⟨none, 0, 0⟩, 0⟩
theorem made_zero (n : Nat) : (madeCells (#[.int .i64 0, .int .i64 0, .int .i64 0, .int .i64 0, .slice none 0 0, .int .i64 0] : Array Value) (n * 6)).toList = flat rec (List.replicate n zero) := by
  apply List.ext_getElem?
  intro i
  rw [madeCells]
  by_cases hi : i < n * 6
  · have h1 := flat_at rec (List.replicate n zero) (i / 6) (i % 6) zero (by rw [List.getElem?_replicate, if_pos (by omega)]) (by rw [rec_n]; omega)
    have e : i / 6 * 6 + i % 6 = i := by omega
    rw [rec_n, e] at h1
    rw [h1]
    have hs : (#[.int .i64 0, .int .i64 0, .int .i64 0, .int .i64 0, .slice none 0 0, .int .i64 0] : Array Value).size = 6 := rfl
    simp only [hs, Array.toList_map, List.getElem?_map, Array.toList_range, List.getElem?_range hi, Option.map_some]
    have h7 : i % 6 < 6 := by omega
    generalize i % 6 = m at *
    match m, h7 with
    | 0, _ => rfl
    | 1, _ => rfl
    | 2, _ => rfl
    | 3, _ => rfl
    | 4, _ => rfl
    | 5, _ => rfl
  · rw [List.getElem?_eq_none (by simp; omega), List.getElem?_eq_none (by rw [flat_len, List.length_replicate, rec_n]; omega)]
/-- what a copy holds after k stores -/
def part (xs : List R) (n k : Nat) : List R := xs.take k ++ List.replicate (n - k) zero
theorem part_len (xs : List R) (n k : Nat) (h : xs.length = n) (hk : k ≤ n) : (part xs n k).length = n := by simp [part]; omega
theorem part_zero (xs : List R) (n : Nat) : part xs n 0 = List.replicate n zero := by simp [part]
theorem part_all (xs : List R) (n : Nat) (h : xs.length = n) : part xs n n = xs := by
  unfold part; rw [List.take_of_length_le (by omega), Nat.sub_self]; simp
theorem part_set (xs : List R) (n k : Nat) (h : xs.length = n) (hk : k < xs.length) : (part xs n k).set k xs[k] = part xs n (k + 1) := by
  unfold part
  have hl : (xs.take k).length = k := by rw [List.length_take]; omega
  rw [List.set_append_right _ _ (by omega), hl, Nat.sub_self]
  have e : n - k = (n - (k + 1)) + 1 := by omega
  rw [e, List.replicate_succ, List.set_cons_zero, List.take_succ_eq_append_getElem hk, List.append_assoc]
  rfl
theorem part_at (xs : List R) (n k : Nat) (h : xs.length = n) (hk : k < n) : (part xs n k)[k]? = some zero := by
  unfold part
  have hl : (xs.take k).length = k := by rw [List.length_take]; omega
  rw [List.getElem?_append_right (by omega), hl, Nat.sub_self, List.getElem?_replicate, if_pos (by omega)]
abbrev OwnR (w : World) (A g n cap : Nat) (ys : List R) : Prop := Own rec 42 w A (.slice (some ⟨g, 0, none⟩) n cap) ys
/-- a store of some fields, one after the other -/
theorem putAll {w : World} {A g n cap : Nat} {ys : List R} (hn : ys.length = n) (h : OwnR w A g n cap ys) (k : Nat) (r0 r : R) (hr : ys[k]? = some r0) :
    OwnR ((((((w.setCell ⟨g, k * 6, none⟩ (.int .i64 r.id)).setCell ⟨g, k * 6 + 1, none⟩ (.int .i64 r.kind)).setCell ⟨g, k * 6 + 2, none⟩ (.int .i64 r.pos)).setCell ⟨g, k * 6 + 3, none⟩ (.int .i64 r.count)).setCell ⟨g, k * 6 + 4, none⟩ (.slice r.s.a r.s.l r.s.c)).setCell ⟨g, k * 6 + 5, none⟩ (.int .i64 r.weight)) A g n cap (ys.set k r) := by
  have hk : k < ys.length := (List.getElem?_eq_some_iff.1 hr).1
  have at_ : ∀ x : R, (ys.set k x)[k]? = some x := fun x => by simp [hk]
  have hl : ∀ x : R, (ys.set k x).length = n := fun x => by rw [List.length_set]; exact hn
  have h0 := Own.put hn h k 0 r0 ({ r0 with id := r.id }) (.int .i64 r.id) hr (by decide) rfl
  have h1 := Own.put (hl _) h0 k 1 _ ({ r0 with id := r.id, kind := r.kind }) (.int .i64 r.kind) (at_ _) (by decide) rfl
  rw [List.set_set] at h1
  have h2 := Own.put (hl _) h1 k 2 _ ({ r0 with id := r.id, kind := r.kind, pos := r.pos }) (.int .i64 r.pos) (at_ _) (by decide) rfl
  rw [List.set_set] at h2
  have h3 := Own.put (hl _) h2 k 3 _ ({ r0 with id := r.id, kind := r.kind, pos := r.pos, count := r.count }) (.int .i64 r.count) (at_ _) (by decide) rfl
  rw [List.set_set] at h3
  have h4 := Own.put (hl _) h3 k 4 _ ({ r0 with id := r.id, kind := r.kind, pos := r.pos, count := r.count, s := r.s }) (.slice r.s.a r.s.l r.s.c) (at_ _) (by decide) rfl
  rw [List.set_set] at h4
  have h5 := Own.put (hl _) h4 k 5 _ (r) (.int .i64 r.weight) (at_ _) (by decide) rfl
  rw [List.set_set] at h5
  exact h5
end Go.Proofs.YtclpdpfnlmfogaaDoor.LPropH
