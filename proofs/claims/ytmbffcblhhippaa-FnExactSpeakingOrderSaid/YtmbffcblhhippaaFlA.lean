/- Floors: a share looked up by the model. No condition. -/
import Derived.Test.YtmbffcblhhippaaFl
import Derived.Test.YtmbffcblhhippaaJ1
import Derived.BigQuiet
import Derived.IntWalk
import Derived.Deep.DeepCutAuto
import Derived.Deep.RegionHeld3
namespace Go.Proofs.Ytmbffcblhhippaa.FlA
open Go.RowKit Bs Word Sq IntF Fl
set_option linter.unusedVariables false
theorem open_is {w : World} {v : Value} {r : F} (h : LFloor.Is w v r) : ∃ (a3 : Option Addr) (n3 c3 : Nat) (a4 : Option Addr) (n4 c4 : Nat), v = .agg #[.int .i64 r.turns, .int .i64 r.seconds, .int .i64 r.speaking, .slice a3 n3 c3, .slice a4 n4 c4] ∧ Hid (r.waiting.length = n3) ∧ Hid (r.shares.length = n4) ∧ n3 ≤ c3 ∧ n4 ≤ c4 ∧ c3 ≤ 9223372036854775807 ∧ c4 ≤ 9223372036854775807 ∧
    Hid (∀ j x, r.waiting[j]? = some x → ∃ b o, a3 = some ⟨b, o, none⟩ ∧ b < w.heap.size ∧ At LInt.rec w b (o + j * LInt.rec.n) x) ∧ Hid (∀ j x, r.shares[j]? = some x → ∃ b o, a4 = some ⟨b, o, none⟩ ∧ b < w.heap.size ∧ At LShare.rec w b (o + j * LShare.rec.n) x) ∧
    Hid (LFloor.Is w (.agg #[.int .i64 r.turns, .int .i64 r.seconds, .int .i64 r.speaking, .slice a3 n3 c3, .slice a4 n4 c4]) r) := by
  have h0 := h
  obtain ⟨s3, s4, rfl, h3, h4⟩ := h
  obtain ⟨a3, c3, rfl, h3⟩ := h3
  obtain ⟨a4, c4, rfl, h4⟩ := h4
  have m3 := h3.2.1
  have m4 := h4.2.1
  unfold maxLen at m3 m4
  exact ⟨a3, _, c3, a4, _, c4, rfl, Lib.hid rfl, Lib.hid rfl, h3.1, h4.1, by omega, by omega, h3.at_ LInt.rec, h4.at_ LShare.rec, Lib.hid h0⟩
set_option maxRecDepth 100000 in
set_option maxHeartbeats 800000 in
theorem l8Share (v0 : Value) (r : F) (m : Int) (w : World) (h0 : LFloor.Is w v0 r) :
    Calls Try.prog 48 #[v0, .int .i64 m] w fun e w' => e = .returned (.agg #[.int .i64 (share r.shares m).member, .int .i64 (share r.shares m).turns, .int .i64 (share r.shares m).seconds]) ∧ Below w.heap.size w w' := by
  obtain ⟨a3, n3, c3, a4, n4, c4, rfl, HN3, HN4, hb3, hb4, hm3, hm4, hc3, hc4, HI⟩ := open_is h0
  clear h0
  have hb : Below w.heap.size w ((w.alloc (.cells #[.int .i64 r.turns, .int .i64 r.seconds, .int .i64 r.speaking, .slice a3 n3 c3, .slice a4 n4 c4] 29)).alloc (.cells #[.int .i64 0, .int .i64 0, .int .i64 0] 60)) := ((Below.refl _ _).alloc (Nat.le_refl _) _).alloc (by simp) _
  have HB := Lib.hid hb
  go_enter Try.func48, Try.ntmps48
  go_wp2_with fail
  go_loop [5] (fun i => ∃ k : Nat, k ≤ n4 ∧ i = .int .i64 k ∧ Hid (Sq.First (fun X => (X.member == m)) r.shares k)) (fun i => n4 - (intOf i).toNat)
  case atStart => exact ⟨0, Nat.zero_le _, rfl, Lib.hid Sq.first_zero⟩
  case round =>
    obtain ⟨k, hk, rfl, HF⟩ := hrel
    by_cases hlt : k < n4
    · have hx : k < r.shares.length := by have := HN4.out; omega
      obtain ⟨b, o, rfl, hbl, hcell0⟩ := hc4.out k r.shares[k] (List.getElem?_eq_getElem hx)
      obtain ⟨q0, q1, q2⟩ := LShare.cells (hcell0.below LShare.rec hb hbl)
      simp only [LShare.rec_n] at q0 q1 q2
      have HX := Lib.hid (List.getElem?_eq_getElem hx)
      clear hcell0
      generalize r.shares[k] = X at *
      cases g : (X.member == m) with
      | true =>
        have HI := Lib.hid (share_hit HF.out HX.out g)
        go_wp2_with fail
        refine bodyPost_ret (v := .agg #[.int .i64 X.member, .int .i64 X.turns, .int .i64 X.seconds]) (by simp [results, Try.results48, go_sem]) rfl ?_
        rw [HI.out]
        refine ⟨rfl, ?_⟩
        exact ((Below.refl _ _).alloc (Nat.le_refl _) _).alloc (by simp) _
      | false =>
        have HF2 := Lib.hid (Sq.first_next HF.out HX.out g)
        go_wp2_with fail
        go_round
        case rel => exact ⟨k + 1, by omega, by go_num, HF2⟩
        case measure => simp [intOf]; omega
    · have HI := Lib.hid (share_none (m := m) HF.out (by have := HN4.out; omega))
      go_wp2_with fail
      refine bodyPost_ret (v := .agg #[.int .i64 m, .int .i64 0, .int .i64 0]) (by simp [results, Try.results48, go_sem]) rfl ?_
      rw [HI.out]
      refine ⟨rfl, ?_⟩
      exact ((Below.refl _ _).alloc (Nat.le_refl _) _).alloc (by simp) _
theorem field_turns (x : S) (w : World) : (Instr.field 60 (.agg #[.int .i64 x.member, .int .i64 x.turns, .int .i64 x.seconds]) 1).run Try.prog w = .ok (.int .i64 x.turns) w := by kernel_rfl
theorem is_take {α : Type} (T : Rec α) {w : World} {b o n cp k : Nat} {l : List α} (h : Is T w (.slice (some ⟨b, o, none⟩) n cp) l) (hbl : b < w.heap.size) (hk : k ≤ n) : Is T w (.slice (some ⟨b, o, none⟩) k cp) (l.take k) := by
  obtain ⟨a', c', e, h1, h2, h3⟩ := h
  simp only [Value.slice.injEq] at e
  obtain ⟨rfl, rfl, rfl⟩ := e
  refine ⟨_, cp, by rw [List.length_take, Nat.min_eq_left hk], by rw [List.length_take]; omega, h2, .inr ⟨b, o, rfl, hbl, fun j r hr => ?_⟩⟩
  rw [List.getElem?_take] at hr
  split at hr
  · rcases h3 with rfl | ⟨b', o', he, _, hc⟩
    · simp at hr
    · simp only [Option.some.injEq, Addr.mk.injEq, and_true] at he
      obtain ⟨rfl, rfl⟩ := he
      exact hc j r hr
  · cases hr
set_option maxRecDepth 100000 in
set_option maxHeartbeats 1600000 in
theorem l8Entitled (v0 : Value) (r : F) (m : Int) (w : World) (h0 : LFloor.Is w v0 r) :
    Calls Try.prog 34 #[v0, .int .i64 m] w fun e w' => e = .returned (.bool (ent r m)) ∧ Below w.heap.size w w' := by
  obtain ⟨a3, n3, c3, a4, n4, c4, rfl, HN3, HN4, hb3, hb4, hm3, hm4, hc3, hc4, HI⟩ := open_is h0
  clear h0
  obtain ⟨W, hW⟩ : ∃ W : World, W = w.alloc (Obj.cells #[.int .i64 r.turns, .int .i64 r.seconds, .int .i64 r.speaking, .slice a3 n3 c3, .slice a4 n4 c4] 29) := ⟨_, rfl⟩
  have hb : Below w.heap.size w W := by rw [hW]; exact (Below.refl _ _).alloc (Nat.le_refl _) _
  have B0 := Lib.hid (show Bx W w.heap.size 29 #[.int .i64 r.turns, .int .i64 r.seconds, .int .i64 r.speaking, .slice a3 n3 c3, .slice a4 n4 c4] by rw [hW]; exact Bx.new _ _ _)
  have HIW := Lib.hid (LFloor.Is.below HI.out hb)
  obtain ⟨X, hX⟩ : ∃ X, X = share r.shares m := ⟨_, rfl⟩
  have HC := l8Share _ r m W HIW.out
  rw [← hX] at HC
  have HC := Lib.hid HC
  have HE := Lib.hid (show ent r m = (decide (X.turns < r.turns) && decide (X.seconds < r.seconds)) by rw [hX]; rfl)
  clear hX
  go_enter Try.func34, Try.ntmps34
  go_wp2_with fail
  rw [← hW]
  clear hW
  refine HC.out.mono ?_
  rintro e w1 ⟨rfl, hb1⟩
  have hb2 := hb.trans (hb1.mono hb.size)
  obtain ⟨wa, hwa⟩ : ∃ wa : World, wa = w1.alloc (Obj.cells #[.int .i64 X.member, .int .i64 X.turns, .int .i64 X.seconds] 60) := ⟨_, rfl⟩
  have hba : Below w1.heap.size w1 wa := by rw [hwa]; exact (Below.refl _ _).alloc (Nat.le_refl _) _
  have BX := Lib.hid (show Bx wa w1.heap.size 60 #[.int .i64 X.member, .int .i64 X.turns, .int .i64 X.seconds] by rw [hwa]; exact Bx.new _ _ _)
  have B1 := (B0.out.kept hb1).kept hba
  have q0 := B1.cell 0
  have q1 := B1.cell 1
  simp only [List.getElem?_toArray, List.getElem?_cons_zero, List.getElem?_cons_succ] at q0 q1
  have x1 := BX.out.cell 1
  have x2 := BX.out.cell 2
  simp only [List.getElem?_toArray, List.getElem?_cons_zero, List.getElem?_cons_succ] at x1 x2
  replace hb2 := hb2.trans (hba.mono hb2.size)
  clear hb1 hba
  go_upto_region 2 with fail
  rw [← hwa]
  clear hwa
  by_cases h1 : X.turns < r.turns
  · by_cases h2 : X.seconds < r.seconds
    · go_wp2_with fail
      go_ret
      exact ⟨ret_bool (by rw [HE.out, decide_eq_true (by omega), decide_eq_true (by omega)]; rfl), hb2⟩
    · go_wp2_with fail
      go_ret
      exact ⟨ret_bool (by rw [HE.out, decide_eq_true (by omega), decide_eq_false (by omega)]; rfl), hb2⟩
  · go_wp2_with fail
    go_ret
    exact ⟨ret_bool (by rw [HE.out, decide_eq_false (show ¬ X.turns < r.turns by omega)]; rfl), hb2⟩
end Go.Proofs.Ytmbffcblhhippaa.FlA
