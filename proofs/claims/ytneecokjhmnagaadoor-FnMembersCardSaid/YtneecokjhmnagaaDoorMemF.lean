/- Members found by a number or an office: the model's and the program's functions. No condition but that names are no longer than strings can be. -/
import Derived.Test.YtneecokjhmnagaaDoorMemI
import Derived.Test.YtneecokjhmnagaaDoorJ1
namespace Go.Proofs.YtneecokjhmnagaaDoor.MemF
open Go.RowKit Bs Word Mem Sq
set_option linter.unusedVariables false
theorem ret_int {a b : Int} (h : a = b) : Ending.returned (.int .i64 a) = .returned (.int .i64 b) := by rw [h]
abbrev idx (z : List M) (n : Int) : Option Nat := z.findIdx? (fun X => X.num == n)
abbrev hold (z : List M) (o : Int) : Option M := got (fun X => X.off == o) z
def holdN : Option M → Int
  | some m => m.num
  | none => 0
set_option maxHeartbeats 400000 in
theorem l3Find (v0 : Value) (z0 : List LMember.R) (a1 : Int) (w : World) (h0 : Is LMember.rec w v0 z0) :
    Calls Tryd.prog 38 #[v0, .int .i64 a1] w fun e w' => e = .returned (.int .i64 (ix (idx z0 a1))) ∧ w = w' := by
  obtain ⟨a, cp, rfl, h0⟩ := h0
  have hc := h0.at_ LMember.rec
  obtain ⟨n, hn⟩ : ∃ n, n = z0.length := ⟨_, rfl⟩
  have hnb : n ≤ cp := by have := h0.1; omega
  have hn2 := h0.2.1
  unfold maxLen at hn2
  have HN := Lib.hid hn.symm
  rw [← hn]
  have hnle : n ≤ z0.length := by omega
  clear hn h0
  go_enter Tryd.func38, Tryd.ntmps38
  go_wp2_with fail
  go_loop [5] (fun i => ∃ k : Nat, k ≤ n ∧ i = .int .i64 k ∧ Hid (Sq.First (fun X => (X.num == a1)) z0 k)) (fun i => n - (intOf i).toNat)
  case atStart => exact ⟨0, Nat.zero_le _, rfl, Lib.hid Sq.first_zero⟩
  case round =>
    obtain ⟨k, hk, rfl, HF⟩ := hrel
    by_cases hlt : k < n
    · have hx : k < z0.length := by omega
      obtain ⟨b, o, rfl, hbl, hcell0⟩ := hc.out k z0[k] (List.getElem?_eq_getElem hx)
      obtain ⟨q0, q1, q2⟩ := LMember.cells (hcell0)
      simp only [LMember.rec_n] at q0 q1 q2
      have HX := Lib.hid (List.getElem?_eq_getElem hx)
      clear hcell0
      generalize z0[k] = X at *
      cases g : (X.num == a1) with
      | true =>
        have HI := Lib.hid (Sq.first_hit HF.out HX.out g)
        go_wp2_with fail
        go_ret
        exact ⟨ret_int (by unfold idx; rw [HI.out]; rfl), rfl⟩
      | false =>
        have HF2 := Lib.hid (Sq.first_next HF.out HX.out g)
        go_wp2_with fail
        go_round
        case rel => exact ⟨k + 1, by omega, by go_num, HF2⟩
        case measure => simp [intOf]; omega
    · have HI := Lib.hid (Sq.first_none HF.out (by have := HN.out; omega))
      go_wp2_with fail
      go_ret
      exact ⟨ret_int (by unfold idx; rw [HI.out]; rfl), rfl⟩
/-- what memberAt answers -/
def AtAns (z : List M) (n : Int) (r0 : Int) (r1 : Bool) : Prop := (∃ k, goodB z = true ∧ idx z n = some k ∧ r0 = k ∧ r1 = true) ∨ ((goodB z = false ∨ idx z n = none) ∧ r0 = 0 ∧ r1 = false)
def AtPost (z : List M) (n : Int) (w : World) (e : Ending) (w' : World) : Prop := ∃ r0 r1, e = .returned (.tuple #[.int .i64 r0, .bool r1]) ∧ AtAns z n r0 r1 ∧ Below w.heap.size w w'
set_option maxRecDepth 100000 in
set_option maxHeartbeats 800000 in
theorem memberAt (v0 : Value) (z0 : List M) (a1 : Int) (w : World) (h0 : Is LMember.rec w v0 z0) (f0 : ∀ x ∈ z0, LMember.Fine x) :
    Calls Tryd.prog 35 #[v0, .int .i64 a1] w (AtPost z0 a1 w) := by
  have HG := Lib.hid (MemI.isValidMembers v0 z0 w h0 f0)
  obtain ⟨a, cp, rfl, h0⟩ := h0
  have hc := h0.at_ LMember.rec
  obtain ⟨n, hn⟩ : ∃ n, n = z0.length := ⟨_, rfl⟩
  have hnb : n ≤ cp := by have := h0.1; omega
  have hn2 := h0.2.1
  unfold maxLen at hn2
  have HN := Lib.hid hn.symm
  rw [← hn] at HG ⊢
  have hnle : n ≤ z0.length := by omega
  clear hn h0
  go_enter Tryd.func35, Tryd.ntmps35
  go_wp2_with fail
  refine HG.out.mono ?_
  rintro e w1 ⟨rfl, hb1⟩
  cases hg : goodB z0 with
  | false =>
    have HA := Lib.hid (show AtAns z0 a1 0 false from .inr ⟨.inl hg, rfl, rfl⟩)
    clear hg
    go_wp2_with fail
    go_ret2
    exact ⟨_, _, rfl, HA.out, hb1⟩
  | true =>
    have HGd := Lib.hid hg
    clear hg
    go_wp2_with fail
    go_loopw [13] (fun i wr => ∃ k : Nat, k ≤ n ∧ i = .int .i64 k ∧ Below w.heap.size w wr ∧ Hid (First (fun X => (X.num == a1)) z0 k)) (fun i _ => n - (intOf i).toNat)
    case atStart => exact ⟨0, Nat.zero_le _, rfl, hb1, Lib.hid first_zero⟩
    case round =>
      clear hb1
      obtain ⟨k, hk, rfl, hb, HF⟩ := hrel
      by_cases hlt : k < n
      · have hx : k < z0.length := by omega
        obtain ⟨b, o, rfl, hbl, hcell0⟩ := hc.out k z0[k] (List.getElem?_eq_getElem hx)
        obtain ⟨q0, q1, q2⟩ := LMember.cells (hcell0.below LMember.rec hb hbl)
        simp only [LMember.rec_n] at q0 q1 q2
        have HX := Lib.hid (List.getElem?_eq_getElem hx)
        clear hcell0
        generalize z0[k] = X at *
        have hba := hb.alloc hb.size (Obj.cells #[.int .i64 X.num, .string X.name, .int .i64 X.off] 60)
        cases g : (X.num == a1) with
        | true =>
          have HA := Lib.hid (show AtAns z0 a1 k true from .inl ⟨k, HGd.out, first_hit HF.out HX.out g, rfl, rfl⟩)
          go_wp2_with fail
          go_ret2
          exact ⟨_, _, rfl, HA.out, hba⟩
        | false =>
          have HF2 := Lib.hid (first_next HF.out HX.out g)
          go_wp2_with fail
          go_roundw
          case rel => exact ⟨k + 1, by omega, by go_num, hba, HF2⟩
          case measure => simp [intOf]; omega
      · have HA := Lib.hid (show AtAns z0 a1 0 false from .inr ⟨.inr (first_none HF.out (by have := HN.out; omega)), rfl, rfl⟩)
        go_wp2_with fail
        go_ret2
        exact ⟨_, _, rfl, HA.out, hb⟩
/-- what HolderOf answers -/
def Ans (z0 : List LMember.R) (a1 : Int) (r0 : Int) (r1 : Bool) : Prop := (∃ m, goodB z0 = true ∧ a1 ≠ 0 ∧ hold z0 a1 = some m ∧ r0 = m.num ∧ r1 = true) ∨ ((goodB z0 = false ∨ a1 = 0 ∨ hold z0 a1 = none) ∧ r0 = 0 ∧ r1 = false)
theorem same {z0 : List LMember.R} {a1 r0 s0 : Int} {r1 s1 : Bool} (h : Ans z0 a1 r0 r1) (h' : Ans z0 a1 s0 s1) : r0 = s0 ∧ r1 = s1 := by
  rcases h with ⟨m, g1, g2, g3, rfl, rfl⟩ | ⟨g, rfl, rfl⟩ <;> rcases h' with ⟨m', g1', g2', g3', rfl, rfl⟩ | ⟨g', rfl, rfl⟩
  · rw [g3] at g3'; rw [Option.some.inj g3']; exact ⟨rfl, rfl⟩
  · rcases g' with g' | g' | g'
    · rw [g1] at g'; cases g'
    · exact absurd g' g2
    · rw [g3] at g'; cases g'
  · rcases g with g | g | g
    · rw [g1'] at g; cases g
    · exact absurd g g2'
    · rw [g3'] at g; cases g
  · exact ⟨rfl, rfl⟩
def Post (z0 : List LMember.R) (a1 : Int) (w : World) (e : Ending) (w' : World) : Prop := ∃ r0 r1, e = .returned (.tuple #[.int .i64 r0, .bool r1]) ∧ Ans z0 a1 r0 r1 ∧ Below w.heap.size w w'
theorem all_ok {xs : List M} (h : goodB xs = true) : ∀ x ∈ xs, okB x = true := fun x hx => by
  obtain ⟨i, hi, rfl⟩ := List.getElem_of_mem hx
  obtain ⟨⟨r, hr, ho, _⟩, _⟩ := (good_of h).2 i hi
  rw [List.getElem?_eq_getElem hi] at hr
  rw [Option.some.inj hr]
  exact ho
theorem hold_none {z : List M} {o : Int} (h : goodB z = true) (ho : inB o 0 3 = false) : hold z o = none := by
  cases e : hold z o with
  | none => rfl
  | some m =>
    obtain ⟨hm, hp⟩ := got_some e
    have h3 := (ok_parts (all_ok h m hm)).2.2
    have e2 : m.off = o := by simpa using hp
    rw [e2] at h3
    exact absurd h3 (inB_no ho)
theorem hold_num {z : List M} {o : Int} {m : M} (h : goodB z = true) (e : hold z o = some m) : (holdN (hold z o) == 0) = false := by
  rw [e, beq_eq_false_iff_ne]
  have := (ok_parts (all_ok h m (got_some e).1)).1
  show m.num ≠ 0
  omega
theorem ans_no {z0 : List M} {a1 : Int} (h : goodB z0 = false ∨ a1 = 0 ∨ hold z0 a1 = none) : Ans z0 a1 0 false := .inr ⟨h, rfl, rfl⟩
end Go.Proofs.YtneecokjhmnagaaDoor.MemF
