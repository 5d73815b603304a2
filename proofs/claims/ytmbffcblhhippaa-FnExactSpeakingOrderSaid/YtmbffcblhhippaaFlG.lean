/- Floors: the model's test of a floor. No condition. -/
import Derived.Test.YtmbffcblhhippaaFlS
import Derived.Deep.DrawnRows
namespace Go.Proofs.Ytmbffcblhhippaa.FlG
open Go.RowKit Bs Word Sq IntF Fl FlA
set_option linter.unusedVariables false
theorem is_wait {w : World} {t s p s3 s4 : Value} {r : F} (h : LFloor.Is w (.agg #[t, s, p, s3, s4]) r) : Is LInt.rec w s3 r.waiting ∧ Is LShare.rec w s4 r.shares := by
  obtain ⟨u3, u4, e, h3, h4⟩ := h
  simp only [Value.agg.injEq, Array.mk.injEq, List.cons.injEq, and_true] at e
  obtain ⟨_, _, _, rfl, rfl⟩ := e
  exact ⟨h3, h4⟩
theorem good1 {f : F} (h : inB f.turns 1 3 = false) : good f = false := by unfold good; rw [h]; rfl
theorem good2 {f : F} (h : inB f.seconds 1 3600 = false) : good f = false := by unfold good; rw [h]; simp
theorem good3 {f : F} (h : shB f = false) : good f = false := by unfold good; rw [h]; simp
theorem good4 {f : F} (h : ¬ f.waiting.length ≤ 10) : good f = false := by unfold good waits; rw [decide_eq_false h]; simp
theorem good5 {f : F} (h : wtB f = false) : good f = false := by unfold good waits; rw [h]; simp
theorem good6 {f : F} (h1 : inB f.turns 1 3 = true) (h2 : inB f.seconds 1 3600 = true) (h3 : shB f = true) (h4 : f.waiting.length ≤ 10) (h5 : wtB f = true) : good f = spk f := by
  unfold good waits; rw [h1, h2, h3, h5, decide_eq_true h4]; simp
theorem wait1 {f : F} {i : Nat} {x : Int} (h : inB x 1 99 = false) : waitOk f i x = false := by unfold waitOk; rw [h]; rfl
theorem wait2 {f : F} {i : Nat} {x : Int} (h : hasB (f.waiting.take i) x = true) : waitOk f i x = false := by unfold waitOk; rw [h]; simp
theorem wait3 {f : F} {i : Nat} {x : Int} (h : (x == f.speaking) = true) : waitOk f i x = false := by unfold waitOk; rw [h]; simp
theorem wait4 {f : F} {i : Nat} {x : Int} (h : ent f x = false) : waitOk f i x = false := by unfold waitOk; rw [h]; simp
theorem wait5 {f : F} {i : Nat} {x : Int} (h1 : inB x 1 99 = true) (h2 : hasB (f.waiting.take i) x = false) (h3 : (x == f.speaking) = false) (h4 : ent f x = true) : waitOk f i x = true := by
  unfold waitOk; rw [h1, h2, h3, h4]; rfl
theorem spk1 {f : F} (h : (f.speaking == 0) = true) : spk f = true := by unfold spk; rw [h]; rfl
theorem spk2 {f : F} (h : (f.speaking == 0) = false) (h1 : inB f.speaking 1 99 = false) : spk f = false := by unfold spk; rw [h, h1]; rfl
theorem spk3 {f : F} (h : (f.speaking == 0) = false) (h1 : inB f.speaking 1 99 = true) : spk f = decide ((share f.shares f.speaking).turns < f.turns) := by unfold spk; rw [h, h1]; rfl
set_option maxRecDepth 100000 in
set_option maxHeartbeats 1600000 in
attribute [local go_sem ↓] Go.wp_at_zero Go.wp_at_succ in
theorem l8Good (v0 : Value) (r : F) (w : World) (h0 : LFloor.Is w v0 r) :
    Calls Try.prog 31 #[v0] w fun e w' => e = .returned (.bool (good r)) ∧ Below w.heap.size w w' := by
  obtain ⟨a3, n3, c3, a4, n4, c4, rfl, HN3, HN4, hb3, hb4, hm3, hm4, hc3, hc4, HI⟩ := open_is h0
  clear h0
  obtain ⟨W, hW⟩ : ∃ W : World, W = w.alloc (Obj.cells #[.int .i64 r.turns, .int .i64 r.seconds, .int .i64 r.speaking, .slice a3 n3 c3, .slice a4 n4 c4] 29) := ⟨_, rfl⟩
  have hb : Below w.heap.size w W := by rw [hW]; exact (Below.refl _ _).alloc (Nat.le_refl _) _
  have B0 := Lib.hid (show Bx W w.heap.size 29 #[.int .i64 r.turns, .int .i64 r.seconds, .int .i64 r.speaking, .slice a3 n3 c3, .slice a4 n4 c4] by rw [hW]; exact Bx.new _ _ _)
  have HIW := Lib.hid (LFloor.Is.below HI.out hb)
  have H1 := Lib.hid (fun x W => Mbr.l7Member x _ rfl W)
  have H2 := Lib.hid (fun x a b W => in_as x a b _ rfl W)
  have HS := Lib.hid (FlS.l8Shares _ r W HIW.out)
  have q0 := B0.out.cell 0
  have q1 := B0.out.cell 1
  have q2 := B0.out.cell 2
  have q3 := B0.out.cell 3
  have q4 := B0.out.cell 4
  simp only [List.getElem?_toArray, List.getElem?_cons_zero, List.getElem?_cons_succ] at q0 q1 q2 q3 q4
  go_enter Try.func31, Try.ntmps31
  go_wp2_with fail
  rw [← hW]
  clear hW
  refine (H2.out _ _ _ _).mono ?_
  rintro e w' ⟨rfl, rfl⟩
  cases g1 : inB r.turns 1 3 with
  | false =>
    have HG := Lib.hid (good1 g1)
    go_wp2_with fail
    go_ret
    exact ⟨ret_bool HG.out.symm, hb⟩
  | true =>
  go_wp2_with fail
  refine (H2.out _ _ _ _).mono ?_
  rintro e w' ⟨rfl, rfl⟩
  cases g2 : inB r.seconds 1 3600 with
  | false =>
    have HG := Lib.hid (good2 g2)
    go_wp2_with fail
    go_ret
    exact ⟨ret_bool HG.out.symm, hb⟩
  | true =>
  go_wp2_with fail
  refine HS.out.mono ?_
  rintro e w1 ⟨rfl, hb1⟩
  replace B0 := Lib.hid (B0.out.kept hb1)
  have hb2 := hb.trans (hb1.mono hb.size)
  clear hb1 q0 q1 q2 q3 q4
  have q0 := B0.out.cell 0
  have q1 := B0.out.cell 1
  have q2 := B0.out.cell 2
  have q3 := B0.out.cell 3
  have q4 := B0.out.cell 4
  simp only [List.getElem?_toArray, List.getElem?_cons_zero, List.getElem?_cons_succ] at q0 q1 q2 q3 q4
  cases g3 : shB r with
  | false =>
    have HG := Lib.hid (good3 g3)
    go_wp2_with fail
    go_ret
    exact ⟨ret_bool HG.out.symm, hb2⟩
  | true =>
  by_cases h10 : n3 ≤ 10
  rotate_left
  · have HG := Lib.hid (good4 (f := r) (by have := HN3.out; omega))
    go_wp2_with fail
    go_ret
    exact ⟨ret_bool HG.out.symm, hb2⟩
  have HG := Lib.hid (good6 g1 g2 g3 (by have := HN3.out; omega))
  clear g1 g2 g3
  go_wp2_with fail
  clear q0 q1 q2 q3 q4
  go_loopw [3] (fun i wr => ∃ k : Nat, k ≤ n3 ∧ i = .int .i64 k ∧ Below w1.heap.size w1 wr ∧ Hid (∀ i, i < k → WtOk r i)) (fun i _ => n3 - (intOf i).toNat)
  case atStart => exact ⟨0, Nat.zero_le _, rfl, Below.refl _ _, Lib.hid (fun i hi => by omega)⟩
  case round =>
    obtain ⟨k, hk, rfl, hbr, HWT⟩ := hrel
    have B1 := Lib.hid (B0.out.kept hbr)
    have hb3' := hb2.trans (hbr.mono hb2.size)
    have q0 := B1.out.cell 0
    have q1 := B1.out.cell 1
    have q2 := B1.out.cell 2
    have q3 := B1.out.cell 3
    have q4 := B1.out.cell 4
    simp only [List.getElem?_toArray, List.getElem?_cons_zero, List.getElem?_cons_succ] at q0 q1 q2 q3 q4
    by_cases hlt : k < n3
    · have hx : k < r.waiting.length := by have := HN3.out; omega
      obtain ⟨b, o, rfl, hbl, hcell0⟩ := hc3.out k r.waiting[k] (List.getElem?_eq_getElem hx)
      have y0 := LInt.cells (hcell0.below LInt.rec hb3' hbl)
      simp only [LInt.rec_n, Nat.mul_one] at y0
      have HX := Lib.hid (List.getElem?_eq_getElem hx)
      have HIR := Lib.hid (LFloor.Is.below HI.out hb3')
      have HT := Lib.hid (is_take LInt.rec (is_wait HIR.out).1 (Nat.lt_of_lt_of_le hbl hb3'.size) hk)
      clear hcell0
      generalize r.waiting[k] = x at *
      have HH := Lib.hid (IntF.l1Has _ _ x wr HT.out)
      have HE := Lib.hid (l8Entitled _ r x wr HIR.out)
      go_wp2_with fail
      refine (H1.out _ _).mono ?_
      rintro e w' ⟨rfl, rfl⟩
      cases g1 : inB x 1 99 with
      | false =>
        have HGx := Lib.hid (good5 (wt_bad HX.out (wait1 g1)))
        go_wp2_with fail
        go_ret
        exact ⟨ret_bool HGx.out.symm, hb3'⟩
      | true =>
      go_wp2_with fail
      refine HH.out.mono ?_
      rintro e w' ⟨rfl, rfl⟩
      cases g2 : hasB (r.waiting.take k) x with
      | true =>
        have HGx := Lib.hid (good5 (wt_bad HX.out (wait2 g2)))
        go_wp2_with fail
        go_ret
        exact ⟨ret_bool HGx.out.symm, hb3'⟩
      | false =>
      cases g3 : (x == r.speaking) with
      | true =>
        have HGx := Lib.hid (good5 (wt_bad HX.out (wait3 g3)))
        go_wp2_with fail
        go_ret
        exact ⟨ret_bool HGx.out.symm, hb3'⟩
      | false =>
      go_wp2_with fail
      refine HE.out.mono ?_
      rintro e w2 ⟨rfl, hbe⟩
      have hb4' := hbr.trans (hbe.mono hbr.size)
      cases g4 : ent r x with
      | false =>
        have HGx := Lib.hid (good5 (wt_bad HX.out (wait4 g4)))
        go_wp2_with fail
        go_ret
        exact ⟨ret_bool HGx.out.symm, hb2.trans (hb4'.mono hb2.size)⟩
      | true =>
      have HN := Lib.hid (wt_next HWT.out HX.out (wait5 g1 g2 g3 g4))
      clear g1 g2 g3 g4
      go_wp2_with fail
      go_roundw
      case rel => exact ⟨k + 1, by omega, by go_num, hb4', HN⟩
      case measure => simp [intOf]; omega
    · have HGx := Lib.hid (HG.out (wt_all (by have := HN3.out; omega) HWT.out))
      have HBC := Lib.hid (show ∀ W : World, Below wr.heap.size wr W → W.cell? ⟨w.heap.size, 0, none⟩ = some (.int .i64 r.turns) from fun W hB => by rw [(B1.out.kept hB).cell]; rfl)
      have HSH := Lib.hid (show ∀ W : World, Below wr.heap.size wr W → _ from fun W hB => l8Share _ r r.speaking W (LFloor.Is.below HI.out (hb3'.trans (hB.mono hb3'.size))))
      cases g1 : (r.speaking == 0) with
      | true =>
        have HGy := Lib.hid (HGx.out.trans (spk1 g1))
        go_wp2_with fail
        go_quiet (fail)
        go_wp2_with fail
        go_ret
        exact ⟨ret_bool HGy.out.symm, hb3'.trans ((drawn_below _ _).mono hb3'.size)⟩
      | false =>
      cases g2 : inB r.speaking 1 99 with
      | false =>
        have HGy := Lib.hid (HGx.out.trans (spk2 g1 g2))
        have HLF := Lib.hid (fun W => Mbr.l7Member r.speaking false g2 W)
        clear g2
        go_wp2_with fail
        go_quiet ((go_at_call 32; exact quiet_eq (HLF.out _)))
        go_wp2_with fail
        go_ret
        exact ⟨ret_bool HGy.out.symm, hb3'.trans ((drawn_below _ _).mono hb3'.size)⟩
      | true =>
        have HGy := Lib.hid (HGx.out.trans (spk3 g1 g2))
        have HLT := Lib.hid (fun W => Mbr.l7Member r.speaking true g2 W)
        clear g2
        generalize share r.shares r.speaking = X at *
        have hfd := fun W => field_turns X W
        go_wp2_with fail
        go_region_with (first | (go_at_call 32; refine (HLT.out _).mono ?_; rintro e wM ⟨rfl, rfl⟩) | (go_at_call 48; refine (HSH.out _ (by (repeat (first | assumption | exact Below.refl _ _ | refine Below.drew ?_ | refine Below.alloc ?_ (by first | (simp; done) | (simp; omega) | omega) _)))).mono ?_; rintro e wN ⟨rfl, hbn⟩; have hBn : Below wr.heap.size wr wN := Below.trans (by (repeat (first | assumption | exact Below.refl _ _ | refine Below.drew ?_ | refine Below.alloc ?_ (by first | (simp; done) | (simp; omega) | omega) _))) (hbn.mono (by first | exact Nat.le_refl _ | (simp; done) | (simp; omega))); have c0 := HBC.out _ hBn) | fail)
        all_goals
          go_wp2_with fail
          go_ret
          go_simp
          exact ⟨HGy.out.symm, hb3'.trans (hBn.mono hb3'.size)⟩
end Go.Proofs.Ytmbffcblhhippaa.FlG
