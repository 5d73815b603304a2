/- The node of a voter: its cells; slices of nodes in memory. No condition. -/
import Derived.Test.YtdjnaoaniokbgaaBase
namespace Go.Proofs.Ytdjnaoaniokbgaa.LNode
open Go.RowKit Bs
set_option linter.unusedVariables false

structure R where
  num : Int
  ptr : Option Addr
def vals (r : R) : List Value := [.int .i64 r.num, .pointer r.ptr]
/-- the struct as a type of records -/
def rec : Rec R := ⟨2, vals, fun _ => rfl, by decide, fun r u hu => by
  simp only [vals, List.mem_cons, List.not_mem_nil, or_false] at hu
  rcases hu with rfl | rfl <;> rfl⟩
theorem rec_n : rec.n = 2 := rfl
theorem info : (Try.prog.info? 67).map (fun i => (i.zero, i.size)) = some (some (.agg #[.int .i64 0, .pointer none]), 2) := by kernel_rfl
theorem cells {w : World} {b p : Nat} {r : R} (h : At rec w b p r) : w.cell? ⟨b, p, none⟩ = some (.int .i64 r.num) ∧ w.cell? ⟨b, p + 1, none⟩ = some (.pointer r.ptr) :=
  ⟨h 0 _ rfl, h 1 _ rfl⟩
theorem cells0 {w : World} {b : Nat} {r : R} (h : At rec w b 0 r) : w.cell? ⟨b, 0, none⟩ = some (.int .i64 r.num) ∧ w.cell? ⟨b, 1, none⟩ = some (.pointer r.ptr) := by
  have := cells h
  simpa only [Nat.zero_add] using this
theorem at_of {w : World} {b p : Nat} {r : R} (h0 : w.cell? ⟨b, p, none⟩ = some (.int .i64 r.num)) (h1 : w.cell? ⟨b, p + 1, none⟩ = some (.pointer r.ptr)) : At rec w b p r := fun j v hv => by
  have hj : j < 2 := (List.getElem?_eq_some_iff.1 hv).1
  match j, hj with
  | 0, _ => rw [← hv]; exact h0
  | 1, _ => rw [← hv]; exact h1
/-- a record that was boxed -/
theorem box (w : World) (r : R) (t : TypeId) : At rec (w.alloc (.cells #[.int .i64 r.num, .pointer r.ptr] t)) w.heap.size 0 r := at_of (by simp [go_sem]) (by simp [go_sem])
/-- facts of a record in all worlds that only grew -/
theorem grown {w : World} {b p : Nat} {r : R} (h : At rec w b p r) (hl : b < w.heap.size) : Hid (∀ d os, At rec (Sort.grow (redrawn w d) os) b p r) := fun d os => h.below rec (below_regrown w d os) hl
def zero : R := ⟨0, none⟩
theorem made_zero (n : Nat) : (madeCells (#[.int .i64 0, .pointer none] : Array Value) (n * 2)).toList = flat rec (List.replicate n zero) := by
  apply List.ext_getElem?
  intro i
  rw [madeCells]
  by_cases hi : i < n * 2
  · have h1 := flat_at rec (List.replicate n zero) (i / 2) (i % 2) zero (by rw [List.getElem?_replicate, if_pos (by omega)]) (by rw [rec_n]; omega)
    have e : i / 2 * 2 + i % 2 = i := by omega
    rw [rec_n, e] at h1
    rw [h1]
    have hs : (#[.int .i64 0, .pointer none] : Array Value).size = 2 := rfl
    simp only [hs, Array.toList_map, List.getElem?_map, Array.toList_range, List.getElem?_range hi, Option.map_some]
    have h7 : i % 2 < 2 := by omega
    generalize i % 2 = m at *
    match m, h7 with
    | 0, _ => rfl
    | 1, _ => rfl
  · rw [List.getElem?_eq_none (by simp; omega), List.getElem?_eq_none (by rw [flat_len, List.length_replicate, rec_n]; omega)]
/-- what a copy holds after k stores -/
def part (xs : List R) (n k : Nat) : List R := xs.take k ++ List.replicate (n - k) zero
theorem part_len (xs : List R) (n k : Nat) (h : xs.length = n) (hk : k ≤ n) : (part xs n k).length = n := by simp [part]; omega
theorem part_zero (xs : List R) (n : Nat) : part xs n 0 = List.replicate n zero := by simp [part]
theorem part_all (xs : List R) (n : Nat) (h : xs.length = n) : part xs n n = xs := by
  unfold part; rw [List.take_of_length_le (by omega), Nat.sub_self]; simp
theorem part_set (xs : List R) (n k : Nat) (h : xs.length = n) (hk : k < xs.length) : (part xs n k).set k xs[k] = part xs n (k + 1) := by
  unfold part
  have hl : (xs.take k).length = k := by rw [List.length_take]; omega
  rw [List.set_append_right _ _ (by omega), hl, Nat.sub_self]
  have e : n - k = (n - (k + 1)) + 1 := by omega
  rw [e, List.replicate_succ, List.set_cons_zero, List.take_succ_eq_append_getElem hk, List.append_assoc]
  rfl
theorem part_at (xs : List R) (n k : Nat) (h : xs.length = n) (hk : k < n) : (part xs n k)[k]? = some zero := by
  unfold part
  have hl : (xs.take k).length = k := by rw [List.length_take]; omega
  rw [List.getElem?_append_right (by omega), hl, Nat.sub_self, List.getElem?_replicate, if_pos (by omega)]
abbrev OwnR (w : World) (A g n cap : Nat) (ys : List R) : Prop := Own rec 67 w A (.slice (some ⟨g, 0, none⟩) n cap) ys
/-- a store of one field -/
theorem putNum {w : World} {A g n cap : Nat} {ys : List R} (hn : ys.length = n) (h : OwnR w A g n cap ys) (k : Nat) (r0 : R) (x : Int) (hr : ys[k]? = some r0) :
    OwnR (w.setCell ⟨g, k * 2, none⟩ (.int .i64 x)) A g n cap (ys.set k { r0 with num := x }) :=
  Own.put hn h k 0 r0 ({ r0 with num := x }) (.int .i64 x) hr (by decide) rfl
theorem putPtr {w : World} {A g n cap : Nat} {ys : List R} (hn : ys.length = n) (h : OwnR w A g n cap ys) (k : Nat) (r0 : R) (a : Option Addr) (hr : ys[k]? = some r0) :
    OwnR (w.setCell ⟨g, k * 2 + 1, none⟩ (.pointer a)) A g n cap (ys.set k { r0 with ptr := a }) :=
  Own.put hn h k 1 r0 ({ r0 with ptr := a }) (.pointer a) hr (by decide) rfl
theorem infoK : (Try.prog.info? 67).map (fun i => (i.zero, i.size, i.bytes)) = some (some (.agg #[.int .i64 0, .pointer none]), 2, 16) := by kernel_rfl
end Go.Proofs.Ytdjnaoaniokbgaa.LNode
