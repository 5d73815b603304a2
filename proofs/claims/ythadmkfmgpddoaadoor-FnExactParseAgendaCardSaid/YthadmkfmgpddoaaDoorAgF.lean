/- Items of an agenda found by their Id: the model's function, and the program's with slices.IndexFunc. No condition. -/
import Derived.Test.YthadmkfmgpddoaaDoorAg
import Derived.Test.YthadmkfmgpddoaaDoorSq
import Derived.BigQuiet
import Derived.IntWalk
import Derived.Deep.DeepCutAuto
namespace Go.Proofs.YthadmkfmgpddoaaDoor.AgF
open Go.RowKit Bs Word Ag Sq
set_option linter.unusedVariables false
theorem ret_int {a b : Int} (h : a = b) : Ending.returned (.int .i64 a) = .returned (.int .i64 b) := by rw [h]
abbrev idx (z : List M) (n : Int) : Option Nat := z.findIdx? (fun X => X.id == n)
theorem closure (X : M) (b : Nat) (id : Int) (w : World) (h : w.cell? ⟨b, 0, none⟩ = some (.int .i64 id)) (hl : b < w.heap.size) :
    Calls Tryd.prog 45 #[.agg #[.int .i64 X.id, .string X.title, .int .i64 X.mins, .int .i64 X.time], .pointer (some ⟨b, 0, none⟩)] w fun e w' => e = .returned (.bool (X.id == id)) ∧ Below w.heap.size w w' := by
  have h' : ∀ o, (w.alloc o).cell? ⟨b, 0, none⟩ = some (.int .i64 id) := fun o => by
    rw [((Below.refl w.heap.size w).alloc (Nat.le_refl _) o).cell (p := ⟨b, 0, none⟩) hl]; exact h
  have hb := fun o => (Below.refl w.heap.size w).alloc (Nat.le_refl _) o
  clear h
  go_enter Tryd.func45, Tryd.ntmps45
  go_wp2_with fail
  go_ret
  exact ⟨rfl, hb _⟩
set_option maxRecDepth 100000 in
set_option maxHeartbeats 800000 in
theorem index (v0 : Value) (z0 : List M) (a1 : Int) (b : Nat) (w : World) (h0 : Is LAgendaItem.rec w v0 z0) (hb : w.cell? ⟨b, 0, none⟩ = some (.int .i64 a1)) (hbl : b < w.heap.size) :
    Calls Tryd.prog 44 #[v0, .func (.func 45) #[] #[.pointer (some ⟨b, 0, none⟩)]] w fun e w' => e = .returned (.int .i64 (ix (idx z0 a1))) ∧ Below w.heap.size w w' := by
  obtain ⟨a, cp, rfl, h0⟩ := h0
  have hc := h0.at_ LAgendaItem.rec
  obtain ⟨n, hn⟩ : ∃ n, n = z0.length := ⟨_, rfl⟩
  have hnb : n ≤ cp := by have := h0.1; omega
  have hn2 := h0.2.1
  unfold maxLen at hn2
  have HN := Lib.hid hn.symm
  rw [← hn]
  have hnle : n ≤ z0.length := by omega
  clear hn h0
  have HB := Lib.hid hb
  clear hb
  go_enter Tryd.func44, Tryd.ntmps44
  go_wp2_with fail
  go_loopw [8] (fun i wr => ∃ k : Nat, k ≤ n ∧ i = .int .i64 k ∧ Hid (First (fun X => (X.id == a1)) z0 k) ∧ Below w.heap.size w wr) (fun i _ => n - (intOf i).toNat)
  case atStart => exact ⟨0, Nat.zero_le _, rfl, Lib.hid first_zero, Below.refl _ _⟩
  case round =>
    obtain ⟨k, hk, rfl, HF, hbw⟩ := hrel
    by_cases hlt : k < n
    · have hx : k < z0.length := by omega
      obtain ⟨b', o, rfl, hbl', hcell0⟩ := hc.out k z0[k] (List.getElem?_eq_getElem hx)
      have HX := Lib.hid (List.getElem?_eq_getElem hx)
      obtain ⟨q0, q1, q2, q3⟩ := LAgendaItem.cells (hcell0.below LAgendaItem.rec hbw hbl')
      simp only [LAgendaItem.rec_n] at q0 q1 q2 q3
      have k0 : 0 ≤ (k : Int) := by omega
      have k1 : (k : Int) < (n : Int) := by omega
      have hB2 := Lib.hid (show wr.cell? ⟨b, 0, none⟩ = some (.int .i64 a1) by rw [hbw.cell (p := ⟨b, 0, none⟩) hbl]; exact HB.out)
      have hbl2 : b < wr.heap.size := Nat.lt_of_lt_of_le hbl hbw.size
      clear hcell0
      generalize z0[k] = X at *
      go_wp2_with fail
      refine (closure X b a1 _ hB2.out hbl2).mono ?_
      rintro e w1 ⟨rfl, hb1⟩
      have hb2 := hbw.trans (hb1.mono hbw.size)
      clear q0 q1 q2 q3
      cases g : (X.id == a1) with
      | true =>
        have HI := Lib.hid (show idx z0 a1 = some k from first_hit HF.out HX.out g)
        clear g
        go_wp2_with fail
        go_ret
        exact ⟨ret_int (by rw [HI.out]; rfl), hb2⟩
      | false =>
        have HF2 := Lib.hid (first_next HF.out HX.out g)
        clear g
        go_wp2_with fail
        go_roundw
        case rel => exact ⟨k + 1, by omega, by go_num, HF2, hb2⟩
        case measure => simp [intOf]; omega
    · have HI := Lib.hid (show idx z0 a1 = none from first_none HF.out (by have := HN.out; omega))
      go_wp2_with fail
      go_ret
      exact ⟨ret_int (by rw [HI.out]; rfl), hbw⟩
theorem itemIndex (v0 : Value) (z0 : List M) (a1 : Int) (w : World) (h0 : Is LAgendaItem.rec w v0 z0) :
    Calls Tryd.prog 31 #[v0, .int .i64 a1] w fun e w' => e = .returned (.int .i64 (ix (idx z0 a1))) ∧ Below w.heap.size w w' := by
  have hbx := (Below.refl w.heap.size w).alloc (Nat.le_refl _) (Obj.cells #[.int .i64 a1] 3)
  have hc : (w.alloc (Obj.cells #[.int .i64 a1] 3)).cell? ⟨w.heap.size, 0, none⟩ = some (.int .i64 a1) := cell_one_new w (.int .i64 a1) 3 0 _ rfl
  have HX := Lib.hid (index v0 z0 a1 w.heap.size _ (h0.below LAgendaItem.rec hbx) hc (by simp))
  obtain ⟨a, c, rfl, _⟩ := h0
  clear hc
  go_enter Tryd.func31, Tryd.ntmps31
  go_wp2_with fail
  refine HX.out.mono ?_
  rintro e w' ⟨rfl, hb⟩
  have hb2 := hbx.trans (hb.mono hbx.size)
  go_wp2_with fail
  go_ret
  exact ⟨rfl, hb2⟩
/-- the head of a list up to a place that exists -/
theorem is_take {w : World} {b o cp k : Nat} {z : List M} (h : RowsAt LAgendaItem.rec w (some ⟨b, o, none⟩) cp z) (hbl : b < w.heap.size) (hk : k ≤ z.length) : Is LAgendaItem.rec w (.slice (some ⟨b, o, none⟩) k cp) (z.take k) := by
  obtain ⟨h1, h2, h3⟩ := h
  refine ⟨_, cp, by rw [List.length_take, Nat.min_eq_left hk], by rw [List.length_take]; omega, h2, .inr ⟨b, o, rfl, hbl, fun j r hr => ?_⟩⟩
  rw [List.getElem?_take] at hr
  split at hr
  · rcases h3 with rfl | ⟨b', o', he, _, hc⟩
    · simp at hr
    · simp only [Option.some.injEq, Addr.mk.injEq, and_true] at he
      obtain ⟨rfl, rfl⟩ := he
      exact hc j r hr
  · cases hr
/-- an Id ahead of a place, or none -/
theorem idx_take_some {z : List M} {k j : Nat} {n : Int} (h : idx (z.take k) n = some j) : ∃ q, j < k ∧ z[j]? = some q ∧ q.id = n := by
  obtain ⟨X, hX, hp, _⟩ := idx_some h
  rw [List.getElem?_take] at hX
  split at hX
  · exact ⟨X, by assumption, hX, by simpa using hp⟩
  · cases hX
theorem idx_take_none {z : List M} {k : Nat} {n : Int} (h : idx (z.take k) n = none) : ∀ j q, j < k → z[j]? = some q → (q.id == n) = false := fun j q hj hq =>
  idx_none h q (List.mem_of_getElem? (i := j) (by rw [List.getElem?_take, if_pos hj]; exact hq))
end Go.Proofs.YthadmkfmgpddoaaDoor.AgF
