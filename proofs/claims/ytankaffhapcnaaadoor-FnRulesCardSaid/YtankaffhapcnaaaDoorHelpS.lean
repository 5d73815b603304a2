/- Slices of rules in memory: what a law's helpers toRuleS, eqRuleS do with them. No condition but the size that the law itself tests. -/
import Derived.Test.YtankaffhapcnaaaDoorJ1
import Derived.Laws.IdiomCopy
namespace Go.Proofs.YtankaffhapcnaaaDoor.HelpS
open Go.RowKit Rule
set_option linter.unusedVariables false

def R0 : R := ⟨0, ⟨#[]⟩, 0, false, false, false, 0⟩
theorem infoRule : (Tryd.prog.info? 25).map (fun i => (i.zero, i.size, i.bytes)) = some (some (.agg #[.int .i64 0, .string ⟨#[]⟩, .int .i64 0, .bool false, .bool false, .bool false, .int .i64 0]), 7, 48) := by kernel_rfl
theorem vals_len (r : R) : r.vals.length = 7 := rfl
/-- a store into one cell of the rules' cells -/
theorem flat_set : ∀ (ys : List R) (k j : Nat) (r r' : R) (v : Value), ys[k]? = some r → j < 7 → r'.vals = r.vals.set j v → (flat ys).set (k * 7 + j) v = flat (ys.set k r')
  | [], k, j, r, r', v, h, _, _ => by simp at h
  | x :: ys, 0, j, r, r', v, h, hj, hv => by
    simp only [List.getElem?_cons_zero, Option.some.injEq] at h
    subst h
    show (x.vals ++ flat ys).set (0 * 7 + j) v = r'.vals ++ flat ys
    rw [Nat.zero_mul, Nat.zero_add, List.set_append_left _ _ (by rw [vals_len]; exact hj), hv]
  | x :: ys, k + 1, j, r, r', v, h, hj, hv => by
    rw [List.getElem?_cons_succ] at h
    show (x.vals ++ flat ys).set ((k + 1) * 7 + j) v = x.vals ++ flat (ys.set k r')
    rw [List.set_append_right _ _ (by rw [vals_len]; omega), vals_len]
    have e : (k + 1) * 7 + j - 7 = k * 7 + j := by omega
    rw [e, flat_set ys k j r r' v h hj hv]
/-- a row of the call's own holds these rules -/
def OwnR (w : World) (base g n cap : Nat) (ys : List R) : Prop := ys.length = n ∧ w.ownsRow base 25 7 (.slice (some ⟨g, 0, none⟩) n cap) n (flat ys)
theorem OwnR.lt {w : World} {base g n cap : Nat} {ys : List R} (h : OwnR w base g n cap ys) : base ≤ g ∧ g < w.heap.size := h.2.lt g rfl
theorem OwnR.at {w : World} {base g n cap : Nat} {ys : List R} (h : OwnR w base g n cap ys) (k j : Nat) (hk : k < n) (hj : j < 7) (r : R) (hr : ys[k]? = some r) : w.cell? ⟨g, k * 7 + j, none⟩ = r.vals[j]? := by
  rw [h.2.cellAt (k * 7 + j) (by omega), flat_at ys k j r hr hj]
theorem OwnR.cells {w : World} {base g n cap : Nat} {ys : List R} (h : OwnR w base g n cap ys) (k : Nat) (hk : k < n) (r : R) (hr : ys[k]? = some r) : At w g (k * 7) r :=
  At.of_cells fun j v hv => by
    have hj : j < 7 := by
      rcases Nat.lt_or_ge j 7 with h' | h'
      · exact h'
      · rw [List.getElem?_eq_none (by exact h')] at hv; cases hv
    rw [h.at k j hk hj r hr]; exact hv
theorem OwnR.frozen {w : World} {base g n cap : Nat} {ys : List R} (h : OwnR w base g n cap ys) (o : Nat) : w.frozen? ⟨g, o, none⟩ = false := h.2.frozenAt o
theorem OwnR.put {w : World} {base g n cap : Nat} {ys : List R} (h : OwnR w base g n cap ys) (k j : Nat) (r r' : R) (v : Value) (hr : ys[k]? = some r) (hj : j < 7) (hv : r'.vals = r.vals.set j v) : OwnR (w.setCell ⟨g, k * 7 + j, none⟩ v) base g n cap (ys.set k r') := by
  refine ⟨by rw [List.length_set]; exact h.1, ?_⟩
  rw [← flat_set ys k j r r' v hr hj hv]
  exact (h.2.stored (k * 7 + j) v).1
theorem OwnR.kept {w w' : World} {base g n cap : Nat} {ys : List R} (h : OwnR w base g n cap ys) (hb : Below w.heap.size w w') : OwnR w' base g n cap ys := by
  refine ⟨h.1, World.ownsRow.kept (row := none) h.2 ⟨hb.os, hb.tape, hb.output, hb.size, fun j hj _ => hb.block j hj⟩ ?_⟩
  exact .inr (by simp [Value.ownBlock])
theorem OwnR.rules {w : World} {base g n cap : Nat} {ys : List R} (h : OwnR w base g n cap ys) : RulesAt w (some ⟨g, 0, none⟩) cap ys := rules_of_owns h.1 h.2
/-- the whole rule at once -/
theorem OwnR.putAll {w : World} {base g n cap : Nat} {ys : List R} (h : OwnR w base g n cap ys) (k : Nat) (r0 r : R) (hr : ys[k]? = some r0) :
    OwnR (((((((w.setCell ⟨g, k * 7, none⟩ (.int .i64 r.id)).setCell ⟨g, k * 7 + 1, none⟩ (.string r.name)).setCell ⟨g, k * 7 + 2, none⟩ (.int .i64 r.rank)).setCell ⟨g, k * 7 + 3, none⟩ (.bool r.sec)).setCell ⟨g, k * 7 + 4, none⟩ (.bool r.deb)).setCell ⟨g, k * 7 + 5, none⟩ (.bool r.am)).setCell ⟨g, k * 7 + 6, none⟩ (.int .i64 r.need)) base g n cap (ys.set k r) := by
  have hk : k < ys.length := (List.getElem?_eq_some_iff.1 hr).1
  have at_ : ∀ x : R, (ys.set k x)[k]? = some x := fun x => by simp [hk]
  have h0 := h.put k 0 r0 { r0 with id := r.id } (.int .i64 r.id) hr (by omega) rfl
  have h1 := h0.put k 1 _ { r0 with id := r.id, name := r.name } (.string r.name) (at_ _) (by omega) rfl
  rw [List.set_set] at h1
  have h2 := h1.put k 2 _ { r0 with id := r.id, name := r.name, rank := r.rank } (.int .i64 r.rank) (at_ _) (by omega) rfl
  rw [List.set_set] at h2
  have h3 := h2.put k 3 _ { r0 with id := r.id, name := r.name, rank := r.rank, sec := r.sec } (.bool r.sec) (at_ _) (by omega) rfl
  rw [List.set_set] at h3
  have h4 := h3.put k 4 _ { r0 with id := r.id, name := r.name, rank := r.rank, sec := r.sec, deb := r.deb } (.bool r.deb) (at_ _) (by omega) rfl
  rw [List.set_set] at h4
  have h5 := h4.put k 5 _ { r0 with id := r.id, name := r.name, rank := r.rank, sec := r.sec, deb := r.deb, am := r.am } (.bool r.am) (at_ _) (by omega) rfl
  rw [List.set_set] at h5
  have h6 := h5.put k 6 _ r (.int .i64 r.need) (at_ _) (by omega) rfl
  rw [List.set_set] at h6
  exact h6

theorem made_zero (n : Nat) : (madeCells (#[.int .i64 0, .string ⟨#[]⟩, .int .i64 0, .bool false, .bool false, .bool false, .int .i64 0] : Array Value) (n * 7)).toList = flat (List.replicate n R0) := by
  apply List.ext_getElem?
  intro i
  rw [madeCells]
  by_cases hi : i < n * 7
  · have h1 := flat_at (List.replicate n R0) (i / 7) (i % 7) R0 (by rw [List.getElem?_replicate, if_pos (by omega)]) (by omega)
    have e : i / 7 * 7 + i % 7 = i := by omega
    rw [e] at h1
    rw [h1]
    have hs : (#[.int .i64 0, .string ⟨#[]⟩, .int .i64 0, .bool false, .bool false, .bool false, .int .i64 0] : Array Value).size = 7 := rfl
    simp only [hs, Array.toList_map, List.getElem?_map, Array.toList_range, List.getElem?_range hi, Option.map_some]
    have h7 : i % 7 < 7 := by omega
    generalize i % 7 = m at *
    match m, h7 with
    | 0, _ => rfl
    | 1, _ => rfl
    | 2, _ => rfl
    | 3, _ => rfl
    | 4, _ => rfl
    | 5, _ => rfl
    | 6, _ => rfl
  · rw [List.getElem?_eq_none (by simp; omega), List.getElem?_eq_none (by rw [flat_len, List.length_replicate]; omega)]
/-- what a copy holds after k stores -/
def part (xs : List R) (n k : Nat) : List R := xs.take k ++ List.replicate (n - k) R0
theorem part_all (xs : List R) (n : Nat) (h : xs.length = n) : part xs n n = xs := by
  unfold part; rw [List.take_of_length_le (by omega), Nat.sub_self]; simp
theorem part_set (xs : List R) (n k : Nat) (h : xs.length = n) (hk : k < xs.length) : (part xs n k).set k xs[k] = part xs n (k + 1) := by
  unfold part
  have hl : (xs.take k).length = k := by rw [List.length_take]; omega
  rw [List.set_append_right _ _ (by omega), hl, Nat.sub_self]
  have e : n - k = (n - (k + 1)) + 1 := by omega
  rw [e, List.replicate_succ, List.set_cons_zero, List.take_succ_eq_append_getElem hk, List.append_assoc]
  rfl
theorem part_at (xs : List R) (n k : Nat) (h : xs.length = n) (hk : k < n) : (part xs n k)[k]? = some R0 := by
  unfold part
  have hl : (xs.take k).length = k := by rw [List.length_take]; omega
  rw [List.getElem?_append_right (by omega), hl, Nat.sub_self, List.getElem?_replicate, if_pos (by omega)]

def Copied (w : World) (n : Nat) (xs : List R) (e : Ending) (w' : World) : Prop :=
  e = .returned (.slice (some ⟨w.heap.size, 0, none⟩) n n) ∧ OwnR w' w.heap.size w.heap.size n n xs ∧ Below w.heap.size w w'

/-- a rule stored whole at a block's head -/
def put7 (w : World) (g : Nat) (i : Int) (nm : ByteArray) (rk : Int) (s d am : Bool) (nd : Int) : World :=
  ((((((w.setCell ⟨g, 0, none⟩ (.int .i64 i)).setCell ⟨g, 1, none⟩ (.string nm)).setCell ⟨g, 2, none⟩ (.int .i64 rk)).setCell ⟨g, 3, none⟩ (.bool s)).setCell ⟨g, 4, none⟩ (.bool d)).setCell ⟨g, 5, none⟩ (.bool am)).setCell ⟨g, 6, none⟩ (.int .i64 nd)
theorem put7_def (w : World) (g : Nat) (i : Int) (nm : ByteArray) (rk : Int) (s d am : Bool) (nd : Int) : put7 w g i nm rk s d am nd =
  ((((((w.setCell ⟨g, 0, none⟩ (.int .i64 i)).setCell ⟨g, 1, none⟩ (.string nm)).setCell ⟨g, 2, none⟩ (.int .i64 rk)).setCell ⟨g, 3, none⟩ (.bool s)).setCell ⟨g, 4, none⟩ (.bool d)).setCell ⟨g, 5, none⟩ (.bool am)).setCell ⟨g, 6, none⟩ (.int .i64 nd) := rfl
theorem put7_cells (w : World) (g : Nat) (i : Int) (nm : ByteArray) (rk : Int) (s d am : Bool) (nd : Int) : put7 w g i nm rk s d am nd = w.setCells g 0 [.int .i64 i, .string nm, .int .i64 rk, .bool s, .bool d, .bool am, .int .i64 nd] := rfl
theorem put7_at {w : World} {g : Nat} {r0 : R} (h : At w g 0 r0) (i : Int) (nm : ByteArray) (rk : Int) (s d am : Bool) (nd : Int) : At (put7 w g i nm rk s d am nd) g 0 ⟨i, nm, rk, s, d, am, nd⟩ := by
  rw [put7_cells]
  obtain ⟨h0, h1, h2, h3, h4, h5, h6⟩ := h
  refine At.of_cells fun j v hv => ?_
  have hj : j < 7 := by
    rcases Nat.lt_or_ge j 7 with h' | h'
    · exact h'
    · rw [List.getElem?_eq_none (by exact h')] at hv; cases hv
  have hs : ∀ j, j < [Value.int .i64 i, .string nm, .int .i64 rk, .bool s, .bool d, .bool am, .int .i64 nd].length → (w.cell? ⟨g, 0 + j, none⟩).isSome = true := fun j hj => by
    have hj : j < 7 := hj
    match j, hj with
    | 0, _ => rw [h0]; rfl
    | 1, _ => rw [h1]; rfl
    | 2, _ => rw [h2]; rfl
    | 3, _ => rw [h3]; rfl
    | 4, _ => rw [h4]; rfl
    | 5, _ => rw [h5]; rfl
    | 6, _ => rw [h6]; rfl
  rw [World.cell?_setCells_in g _ 0 w hs j hj]
  have hv' : [Value.int .i64 i, .string nm, .int .i64 rk, .bool s, .bool d, .bool am, .int .i64 nd][j]? = some v := hv
  rw [← hv', List.getElem?_eq_getElem (by exact hj)]
theorem put7_other {w : World} {g b p : Nat} {r : R} (h : At w b p r) (hne : b ≠ g) (i : Int) (nm : ByteArray) (rk : Int) (s d am : Bool) (nd : Int) : At (put7 w g i nm rk s d am nd) b p r :=
  h.keep fun o => by rw [put7_cells]; exact World.cell?_setCells_out g _ 0 w ⟨b, o, none⟩ (fun e _ => absurd e hne)
theorem put7_frozen (w : World) (g : Nat) (x : Addr) (i : Int) (nm : ByteArray) (rk : Int) (s d am : Bool) (nd : Int) : (put7 w g i nm rk s d am nd).frozen? x = w.frozen? x := by
  rw [put7_cells]; exact World.frozen?_setCells g _ 0 w x
theorem put7_size (w : World) (g : Nat) (i : Int) (nm : ByteArray) (rk : Int) (s d am : Bool) (nd : Int) : (put7 w g i nm rk s d am nd).heap.size = w.heap.size := by
  unfold put7; simp
/-- a block of the call's own that holds a rule -/
def Box (w : World) (g : Nat) (r : R) : Prop := g < w.heap.size ∧ At w g 0 r ∧ ∀ k, w.frozen? ⟨g, k, none⟩ = false
theorem Box.new (w : World) (r : R) (t : TypeId) : Box (w.alloc (.cells #[.int .i64 r.id, .string r.name, .int .i64 r.rank, .bool r.sec, .bool r.deb, .bool r.am, .int .i64 r.need] t)) w.heap.size r :=
  ⟨by simp, At.box w r t, fun k => by simp [go_sem]⟩
theorem Box.below {w w' : World} {g : Nat} {r : R} (h : Box w g r) (hb : Below w.heap.size w w') : Box w' g r :=
  ⟨Nat.lt_of_lt_of_le h.1 hb.size, h.2.1.below hb h.1, fun k => by rw [hb.frozen (p := ⟨g, k, none⟩) h.1]; exact h.2.2 k⟩
theorem Box.alloc {w : World} {g : Nat} {r : R} (h : Box w g r) (o : Obj) : Box (w.alloc o) g r := h.below ((Below.refl _ _).alloc (Nat.le_refl _) _)
theorem Box.put {w : World} {g : Nat} {r : R} (h : Box w g r) (i : Int) (nm : ByteArray) (rk : Int) (s d am : Bool) (nd : Int) : Box (put7 w g i nm rk s d am nd) g ⟨i, nm, rk, s, d, am, nd⟩ :=
  ⟨by rw [put7_size]; exact h.1, put7_at h.2.1 i nm rk s d am nd, fun k => by rw [put7_frozen]; exact h.2.2 k⟩
theorem Box.apart {w : World} {g b : Nat} {r : R} (h : Box w b r) (hne : b ≠ g) (i : Int) (nm : ByteArray) (rk : Int) (s d am : Bool) (nd : Int) : Box (put7 w g i nm rk s d am nd) b r :=
  ⟨by rw [put7_size]; exact h.1, put7_other h.2.1 hne i nm rk s d am nd, fun k => by rw [put7_frozen]; exact h.2.2 k⟩
theorem put7_below {B : Nat} {W w : World} {g : Nat} (h : Below B W w) (hg : B ≤ g) (i : Int) (nm : ByteArray) (rk : Int) (s d am : Bool) (nd : Int) : Below B W (put7 w g i nm rk s d am nd) :=
  ((((((h.setCell hg _).setCell hg _).setCell hg _).setCell hg _).setCell hg _).setCell hg _).setCell hg _
end Go.Proofs.YtankaffhapcnaaaDoor.HelpS
