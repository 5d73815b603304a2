/- NextSpeaker: what it answers, on both sides. No condition. -/
import Derived.Test.YtmbffcblhhippaaNextSpeakerA
import Derived.Test.YtmbffcblhhippaaSpeakingOrderC
import Derived.Test.YtmbffcblhhippaaFlDw
import Derived.Deep.DrawnRows
namespace Go.Proofs.Ytmbffcblhhippaa.NextSpeakerC
open Go.RowKit Bs Word Sq IntF Fl FlA FlG FlO FlX FlW
set_option linter.unusedVariables false
set_option maxRecDepth 100000 in
set_option maxHeartbeats 1600000 in
attribute [local go_sem ↓] Go.wp_at_zero Go.wp_at_succ in
theorem impl (v0 : Value) (z0 : F) (w : World) (h0 : LFloor.IsQ w v0 z0) (f0 : LFloor.Fine z0) (l3 : z0.waiting.length ≤ 1048576) (l4 : z0.shares.length ≤ 1048576) : Calls Try.prog 17 #[v0] w (Post z0 w) := by
  obtain ⟨r, hr⟩ : ∃ r, r = z0 := ⟨_, rfl⟩
  subst hr
  obtain ⟨a3, n3, c3, a4, n4, c4, rfl, HN3, HN4, hb3, hb4, hm3, hm4, HQ3, HQ4, HIQ⟩ := open_isq h0
  clear h0
  have HI := Lib.hid (LFloor.IsQ.is HIQ.out)
  obtain ⟨W0, hW⟩ : ∃ W : World, W = (w.alloc (Obj.cells #[.int .i64 r.turns, .int .i64 r.seconds, .int .i64 r.speaking, .slice a3 n3 c3, .slice a4 n4 c4] 29)).alloc (Obj.cells #[.int .i64 0, .int .i64 0, .int .i64 0, .slice none 0 0, .slice none 0 0] 29) := ⟨_, rfl⟩
  have hbT : Below w.heap.size w W0 := by rw [hW]; exact ((Below.refl _ _).alloc (Nat.le_refl _) _).alloc (by simp) _
  have HZ := Lib.hid (show W0.heap.size = w.heap.size + 2 by rw [hW]; simp)
  have B0 := Lib.hid (show Bx W0 w.heap.size 29 #[.int .i64 r.turns, .int .i64 r.seconds, .int .i64 r.speaking, .slice a3 n3 c3, .slice a4 n4 c4] by rw [hW]; exact (Bx.new _ _ _).alloc _)
  have BR := Lib.hid (show Bx W0 (w.heap.size + 1) 29 #[.int .i64 0, .int .i64 0, .int .i64 0, .slice none 0 0, .slice none 0 0] by rw [hW]; have := Bx.new (w.alloc (Obj.cells #[.int .i64 r.turns, .int .i64 r.seconds, .int .i64 r.speaking, .slice a3 n3 c3, .slice a4 n4 c4] 29)) 29 #[.int .i64 0, .int .i64 0, .int .i64 0, .slice none 0 0, .slice none 0 0]; simpa using this)
  have HL := Lib.hid (And.intro l3 l4)
  have HC := Lib.hid (SpeakingOrderC.impl _ r W0 (LFloor.IsQ.below HIQ.out hbT) f0 l3 l4)
  clear l3 l4
  have q0 := B0.out.cell 0
  have q1 := B0.out.cell 1
  have q2 := B0.out.cell 2
  have q3 := B0.out.cell 3
  have q4 := B0.out.cell 4
  simp only [List.getElem?_toArray, List.getElem?_cons_zero, List.getElem?_cons_succ] at q0 q1 q2 q3 q4
  go_enter Try.func17, Try.ntmps17
  go_wp2_with fail
  rw [← hW]
  clear hW
  refine HC.out.mono ?_
  rintro e w1 ⟨vo, zo, bo, rfl, hans, ho, hb1⟩
  obtain ⟨eo, no, co, rfl⟩ := own_slice ho
  have HNO := Lib.hid (SpeakingOrderC.own_n ho)
  have HOO := Lib.hid (ho.low (A' := w.heap.size + 2) (by have := HZ.out; omega))
  clear ho
  replace BR := Lib.hid (BR.out.kept hb1)
  replace B0 := Lib.hid (B0.out.kept hb1)
  have HZ1 := Lib.hid (show w.heap.size + 2 ≤ w1.heap.size by have := HZ.out; have := hb1.size; omega)
  replace hbT := hbT.trans (hb1.mono hbT.size)
  clear hb1 q0 q1 q2 q3 q4
  have q0 := B0.out.cell 0
  have q1 := B0.out.cell 1
  have q2 := B0.out.cell 2
  have q3 := B0.out.cell 3
  have q4 := B0.out.cell 4
  simp only [List.getElem?_toArray, List.getElem?_cons_zero, List.getElem?_cons_succ] at q0 q1 q2 q3 q4
  cases hg : good r with
  | false =>
    have HA := Lib.hid (show Ans r zeroF 0 false by unfold Ans answer; rw [hg]; rfl)
    have hbo : bo = false := by unfold SpeakingOrderC.Ans SpeakingOrderC.answer at hans; rw [hg] at hans; exact congrArg Prod.snd hans
    subst hbo
    clear hg hans
    have BR5 := BR.out
    have r0 := BR5.cell 0
    have r1 := BR5.cell 1
    have r2 := BR5.cell 2
    have r3 := BR5.cell 3
    have r4 := BR5.cell 4
    simp only [List.getElem?_toArray, List.getElem?_cons_zero, List.getElem?_cons_succ] at r0 r1 r2 r3 r4
    have z0 := BR5.frozen 0
    have z1 := BR5.frozen 1
    have z2 := BR5.frozen 2
    have z3 := BR5.frozen 3
    have z4 := BR5.frozen 4
    have hRF := (Bx.set_ (Bx.set_ (Bx.set_ (Bx.set_ (Bx.set_ BR5 0 (.int .i64 0)) 1 (.int .i64 0)) 2 (.int .i64 0)) 3 (.slice none 0 0)) 4 (.slice none 0 0))
    have c0 := hRF.cell 0
    have c1 := hRF.cell 1
    have c2 := hRF.cell 2
    have c3 := hRF.cell 3
    have c4 := hRF.cell 4
    simp at c0 c1 c2 c3 c4
    clear hRF
    go_wp2_with fail
    refine bodyPost_ret (v := .tuple #[.agg #[.int .i64 0, .int .i64 0, .int .i64 0, .slice none 0 0, .slice none 0 0], .int .i64 0, .bool false]) (by simp [results, Try.results17, go_sem, c0, c1, c2, c3, c4]) rfl ?_
    exact ⟨_, zeroF, 0, false, rfl, HA.out, LFloor.Own.zero, (Below.setCell (Below.setCell (Below.setCell (Below.setCell (Below.setCell hbT (p := ⟨w.heap.size + 1, 0, none⟩) (by show w.heap.size ≤ w.heap.size + 1; omega) (.int .i64 0)) (p := ⟨w.heap.size + 1, 1, none⟩) (by show w.heap.size ≤ w.heap.size + 1; omega) (.int .i64 0)) (p := ⟨w.heap.size + 1, 2, none⟩) (by show w.heap.size ≤ w.heap.size + 1; omega) (.int .i64 0)) (p := ⟨w.heap.size + 1, 3, none⟩) (by show w.heap.size ≤ w.heap.size + 1; omega) (.slice none 0 0)) (p := ⟨w.heap.size + 1, 4, none⟩) (by show w.heap.size ≤ w.heap.size + 1; omega) (.slice none 0 0))⟩
  | true =>
  have hbo : bo = true := by unfold SpeakingOrderC.Ans SpeakingOrderC.answer at hans; rw [hg] at hans; exact congrArg Prod.snd hans
  have hzo : zo = Srt.srt (lt (key r)) r.waiting := by unfold SpeakingOrderC.Ans SpeakingOrderC.answer at hans; rw [hg] at hans; exact congrArg Prod.fst hans
  subst hbo
  have HZO := Lib.hid hzo
  have HLZ := Lib.hid (show zo.length = r.waiting.length by rw [hzo, Srt.srt_len])
  clear hans hzo
  cases hs : (r.speaking == 0) with
  | false =>
    have HA := Lib.hid (show Ans r zeroF 0 false by unfold Ans answer; rw [hg, hs]; rfl)
    have hs2 : (r.speaking != 0) = true := by rw [bne, hs]; rfl
    clear hg
    have BR5 := BR.out
    have r0 := BR5.cell 0
    have r1 := BR5.cell 1
    have r2 := BR5.cell 2
    have r3 := BR5.cell 3
    have r4 := BR5.cell 4
    simp only [List.getElem?_toArray, List.getElem?_cons_zero, List.getElem?_cons_succ] at r0 r1 r2 r3 r4
    have z0 := BR5.frozen 0
    have z1 := BR5.frozen 1
    have z2 := BR5.frozen 2
    have z3 := BR5.frozen 3
    have z4 := BR5.frozen 4
    have hRF := (Bx.set_ (Bx.set_ (Bx.set_ (Bx.set_ (Bx.set_ BR5 0 (.int .i64 0)) 1 (.int .i64 0)) 2 (.int .i64 0)) 3 (.slice none 0 0)) 4 (.slice none 0 0))
    have c0 := hRF.cell 0
    have c1 := hRF.cell 1
    have c2 := hRF.cell 2
    have c3 := hRF.cell 3
    have c4 := hRF.cell 4
    simp at c0 c1 c2 c3 c4
    clear hRF
    go_wp2_with fail
    refine bodyPost_ret (v := .tuple #[.agg #[.int .i64 0, .int .i64 0, .int .i64 0, .slice none 0 0, .slice none 0 0], .int .i64 0, .bool false]) (by simp [results, Try.results17, go_sem, c0, c1, c2, c3, c4]) rfl ?_
    exact ⟨_, zeroF, 0, false, rfl, HA.out, LFloor.Own.zero, (Below.setCell (Below.setCell (Below.setCell (Below.setCell (Below.setCell hbT (p := ⟨w.heap.size + 1, 0, none⟩) (by show w.heap.size ≤ w.heap.size + 1; omega) (.int .i64 0)) (p := ⟨w.heap.size + 1, 1, none⟩) (by show w.heap.size ≤ w.heap.size + 1; omega) (.int .i64 0)) (p := ⟨w.heap.size + 1, 2, none⟩) (by show w.heap.size ≤ w.heap.size + 1; omega) (.int .i64 0)) (p := ⟨w.heap.size + 1, 3, none⟩) (by show w.heap.size ≤ w.heap.size + 1; omega) (.slice none 0 0)) (p := ⟨w.heap.size + 1, 4, none⟩) (by show w.heap.size ≤ w.heap.size + 1; omega) (.slice none 0 0))⟩
  | true =>
  have hs2 : (r.speaking != 0) = false := by rw [bne, hs]; rfl
  by_cases h0 : no = 0
  · have HA := Lib.hid (show Ans r zeroF 0 false by unfold Ans answer; rw [hg, hs, decide_eq_false (show ¬ 0 < r.waiting.length by have := HNO.out; have := HLZ.out; omega)]; rfl)
    subst h0
    clear hg
    have BR5 := BR.out
    have r0 := BR5.cell 0
    have r1 := BR5.cell 1
    have r2 := BR5.cell 2
    have r3 := BR5.cell 3
    have r4 := BR5.cell 4
    simp only [List.getElem?_toArray, List.getElem?_cons_zero, List.getElem?_cons_succ] at r0 r1 r2 r3 r4
    have z0 := BR5.frozen 0
    have z1 := BR5.frozen 1
    have z2 := BR5.frozen 2
    have z3 := BR5.frozen 3
    have z4 := BR5.frozen 4
    have hRF := (Bx.set_ (Bx.set_ (Bx.set_ (Bx.set_ (Bx.set_ BR5 0 (.int .i64 0)) 1 (.int .i64 0)) 2 (.int .i64 0)) 3 (.slice none 0 0)) 4 (.slice none 0 0))
    have c0 := hRF.cell 0
    have c1 := hRF.cell 1
    have c2 := hRF.cell 2
    have c3 := hRF.cell 3
    have c4 := hRF.cell 4
    simp at c0 c1 c2 c3 c4
    clear hRF
    go_wp2_with fail
    refine bodyPost_ret (v := .tuple #[.agg #[.int .i64 0, .int .i64 0, .int .i64 0, .slice none 0 0, .slice none 0 0], .int .i64 0, .bool false]) (by simp [results, Try.results17, go_sem, c0, c1, c2, c3, c4]) rfl ?_
    exact ⟨_, zeroF, 0, false, rfl, HA.out, LFloor.Own.zero, (Below.setCell (Below.setCell (Below.setCell (Below.setCell (Below.setCell hbT (p := ⟨w.heap.size + 1, 0, none⟩) (by show w.heap.size ≤ w.heap.size + 1; omega) (.int .i64 0)) (p := ⟨w.heap.size + 1, 1, none⟩) (by show w.heap.size ≤ w.heap.size + 1; omega) (.int .i64 0)) (p := ⟨w.heap.size + 1, 2, none⟩) (by show w.heap.size ≤ w.heap.size + 1; omega) (.int .i64 0)) (p := ⟨w.heap.size + 1, 3, none⟩) (by show w.heap.size ≤ w.heap.size + 1; omega) (.slice none 0 0)) (p := ⟨w.heap.size + 1, 4, none⟩) (by show w.heap.size ≤ w.heap.size + 1; omega) (.slice none 0 0))⟩
  have hn0 : 0 < r.waiting.length := by have := HNO.out; have := HLZ.out; omega
  have h0i : ((no : Int) == 0) = false := by simp; omega
  have HAA := Lib.hid (show answer r = ({ r with speaking := nx r, waiting := LIntDelDrop.kept r.waiting (nx r) }, nx r, true) by unfold answer; rw [hg, hs, decide_eq_true hn0]; rfl)
  obtain ⟨x, hx⟩ : ∃ x, zo[0]? = some x := ⟨_, List.getElem?_eq_getElem (by have := HLZ.out; omega)⟩
  have HNXX := Lib.hid (show nx r = x by
    unfold nx; rw [← HZO.out]
    cases zo with
    | nil => simp at hx
    | cons y t => simpa using hx)
  have HA := Lib.hid (show Ans r { r with speaking := x, waiting := LIntDelDrop.kept r.waiting x } x true by unfold Ans; rw [HAA.out, HNXX.out])
  have HX := Lib.hid hx
  obtain ⟨g, rfl⟩ : ∃ g, eo = some ⟨g, 0, none⟩ := by
    rcases HOO.out.shape with ⟨e, _⟩ | ⟨g, c', e, _⟩
    · simp only [Value.slice.injEq] at e; omega
    · simp only [Value.slice.injEq] at e; exact ⟨g, e.1⟩
  clear hg hs hx h0
  have hzz := HZ1.out
  go_upto_region 4 with fail
  clear hs2 h0i q0 q1 q2 q3 q4
  go_cut [5] (fun s5 wx => ∃ (b3 : Option Addr) (m3 d3 : Nat) (b4 : Option Addr) (m4 d4 : Nat), s5 = .slice (some ⟨g, 0, none⟩) no co ∧ Hid (Bx wx w.heap.size 29 #[.int .i64 r.turns, .int .i64 r.seconds, .int .i64 r.speaking, .slice b3 m3 d3, .slice b4 m4 d4]) ∧ Hid (Bx wx (w.heap.size + 1) 29 #[.int .i64 0, .int .i64 0, .int .i64 0, .slice none 0 0, .slice none 0 0]) ∧ Hid (Bs.Own LInt.rec 3 wx (w.heap.size + 2) (.slice b3 m3 d3) (LIntDelDrop.kept r.waiting x)) ∧ Hid (Bs.Own LShare.rec 60 wx (w.heap.size + 2) (.slice b4 m4 d4) r.shares) ∧ Hid (Bs.Own LInt.rec 3 wx (w.heap.size + 2) (.slice (some ⟨g, 0, none⟩) no co) zo) ∧ Hid (Dist (.slice b3 m3 d3) (.slice b4 m4 d4)) ∧ Below w.heap.size w wx)
  case first =>
    have q0 := B0.out.cell 0
    have q1 := B0.out.cell 1
    have q2 := B0.out.cell 2
    have q3 := B0.out.cell 3
    have q4 := B0.out.cell 4
    simp only [List.getElem?_toArray, List.getElem?_cons_zero, List.getElem?_cons_succ] at q0 q1 q2 q3 q4
    have y0 := LInt.cells (HOO.out.at_ 0 x HX.out)
    simp only [LInt.rec_n, Nat.zero_mul] at y0
    have z0' : (0 : Int) < (no : Int) := by have := HNO.out; have := HLZ.out; omega
    have z1' : 0 < no := by have := HNO.out; have := HLZ.out; omega
    have HDW := Lib.hid (show ∀ w' : World, Below w1.heap.size w1 w' → _ from fun w' hB => FlD.dropWaiting _ r x w' (LFloor.IsQ.below HIQ.out (hbT.trans (hB.mono hbT.size))) (by have := HL.out.1; omega) (by have := HL.out.2; omega))
    go_region_with (go_at_call 46; refine (HDW.out _ (by (repeat (first | assumption | exact Below.refl _ _ | refine Below.drew ?_ | refine Below.alloc ?_ (by first | (simp; done) | (simp; omega) | omega) _)))).mono ?_; rintro e w4 ⟨v, rfl, hOF, hbc⟩; obtain ⟨u3, u4, rfl, o3, o4, d34⟩ := hOF; obtain ⟨b3, m3, d3, rfl⟩ := own_slice o3; obtain ⟨b4, m4, d4, rfl⟩ := own_slice o4; dsimp only; have hBn : Below w1.heap.size w1 w4 := Below.trans (by (repeat (first | assumption | exact Below.refl _ _ | refine Below.drew ?_ | refine Below.alloc ?_ (by first | (simp; done) | (simp; omega) | omega) _))) (hbc.mono (by first | exact Nat.le_refl _ | (simp; done) | (simp; omega))); have B04 := B0.out.kept hBn; have f0 := B04.frozen 0; have f1 := B04.frozen 1; have f2 := B04.frozen 2; have f3 := B04.frozen 3; have f4 := B04.frozen 4; have g0 := B04.cell 0; have g1 := B04.cell 1; have g2 := B04.cell 2; have g3 := B04.cell 3; have g4 := B04.cell 4; simp only [List.getElem?_toArray, List.getElem?_cons_zero, List.getElem?_cons_succ] at g0 g1 g2 g3 g4)
    all_goals
      replace o3 := o3.low (A' := w.heap.size + 2) (by first | (simp; omega) | omega)
      replace o4 := o4.low (A' := w.heap.size + 2) (by first | (simp; omega) | omega)
      have BR4 := BR.out.kept hBn
      have oo4 := HOO.out.kept hBn
      have hbT4 := hbT.trans (hBn.mono hbT.size)
      go_wp2_with fail
      go_meet
      exact ⟨b3, m3, d3, b4, m4, d4, by go_simp, Lib.hid (Bx.set_ (Bx.set_ (Bx.set_ (Bx.set_ (Bx.set_ B04 0 (.int .i64 r.turns)) 1 (.int .i64 r.seconds)) 2 (.int .i64 r.speaking)) 3 (.slice b3 m3 d3)) 4 (.slice b4 m4 d4)), Lib.hid (Bx.far (Bx.far (Bx.far (Bx.far (Bx.far BR4 (p := ⟨w.heap.size, 0, none⟩) (show w.heap.size + 1 ≠ w.heap.size by omega) (.int .i64 r.turns)) (p := ⟨w.heap.size, 1, none⟩) (show w.heap.size + 1 ≠ w.heap.size by omega) (.int .i64 r.seconds)) (p := ⟨w.heap.size, 2, none⟩) (show w.heap.size + 1 ≠ w.heap.size by omega) (.int .i64 r.speaking)) (p := ⟨w.heap.size, 3, none⟩) (show w.heap.size + 1 ≠ w.heap.size by omega) (.slice b3 m3 d3)) (p := ⟨w.heap.size, 4, none⟩) (show w.heap.size + 1 ≠ w.heap.size by omega) (.slice b4 m4 d4)), Lib.hid (own_set (own_set (own_set (own_set (own_set o3 (p := ⟨w.heap.size, 0, none⟩) (fun k hk => by have h2 := (o3.lt k hk).1; show k ≠ w.heap.size; omega) (.int .i64 r.turns)) (p := ⟨w.heap.size, 1, none⟩) (fun k hk => by have h2 := (o3.lt k hk).1; show k ≠ w.heap.size; omega) (.int .i64 r.seconds)) (p := ⟨w.heap.size, 2, none⟩) (fun k hk => by have h2 := (o3.lt k hk).1; show k ≠ w.heap.size; omega) (.int .i64 r.speaking)) (p := ⟨w.heap.size, 3, none⟩) (fun k hk => by have h2 := (o3.lt k hk).1; show k ≠ w.heap.size; omega) (.slice b3 m3 d3)) (p := ⟨w.heap.size, 4, none⟩) (fun k hk => by have h2 := (o3.lt k hk).1; show k ≠ w.heap.size; omega) (.slice b4 m4 d4)), Lib.hid (own_set (own_set (own_set (own_set (own_set o4 (p := ⟨w.heap.size, 0, none⟩) (fun k hk => by have h2 := (o4.lt k hk).1; show k ≠ w.heap.size; omega) (.int .i64 r.turns)) (p := ⟨w.heap.size, 1, none⟩) (fun k hk => by have h2 := (o4.lt k hk).1; show k ≠ w.heap.size; omega) (.int .i64 r.seconds)) (p := ⟨w.heap.size, 2, none⟩) (fun k hk => by have h2 := (o4.lt k hk).1; show k ≠ w.heap.size; omega) (.int .i64 r.speaking)) (p := ⟨w.heap.size, 3, none⟩) (fun k hk => by have h2 := (o4.lt k hk).1; show k ≠ w.heap.size; omega) (.slice b3 m3 d3)) (p := ⟨w.heap.size, 4, none⟩) (fun k hk => by have h2 := (o4.lt k hk).1; show k ≠ w.heap.size; omega) (.slice b4 m4 d4)), Lib.hid (own_set (own_set (own_set (own_set (own_set oo4 (p := ⟨w.heap.size, 0, none⟩) (fun k hk => by have h2 := (oo4.lt k hk).1; show k ≠ w.heap.size; omega) (.int .i64 r.turns)) (p := ⟨w.heap.size, 1, none⟩) (fun k hk => by have h2 := (oo4.lt k hk).1; show k ≠ w.heap.size; omega) (.int .i64 r.seconds)) (p := ⟨w.heap.size, 2, none⟩) (fun k hk => by have h2 := (oo4.lt k hk).1; show k ≠ w.heap.size; omega) (.int .i64 r.speaking)) (p := ⟨w.heap.size, 3, none⟩) (fun k hk => by have h2 := (oo4.lt k hk).1; show k ≠ w.heap.size; omega) (.slice b3 m3 d3)) (p := ⟨w.heap.size, 4, none⟩) (fun k hk => by have h2 := (oo4.lt k hk).1; show k ≠ w.heap.size; omega) (.slice b4 m4 d4)), Lib.hid d34, (Below.setCell (Below.setCell (Below.setCell (Below.setCell (Below.setCell hbT4 (p := ⟨w.heap.size, 0, none⟩) (Nat.le_refl _) (.int .i64 r.turns)) (p := ⟨w.heap.size, 1, none⟩) (Nat.le_refl _) (.int .i64 r.seconds)) (p := ⟨w.heap.size, 2, none⟩) (Nat.le_refl _) (.int .i64 r.speaking)) (p := ⟨w.heap.size, 3, none⟩) (Nat.le_refl _) (.slice b3 m3 d3)) (p := ⟨w.heap.size, 4, none⟩) (Nat.le_refl _) (.slice b4 m4 d4))⟩
  case rest =>
  obtain ⟨b3, m3, d3, b4, m4, d4, rfl, HB0, HBR, HO3, HO4, HOO2, HDD, hbx⟩ := hcut
  obtain ⟨wb, hwb⟩ : ∃ y, y = wc := ⟨_, rfl⟩
  subst hwb
  have hz0 := HZ1.out
  have y0 := LInt.cells (HOO2.out.at_ 0 x HX.out)
  simp only [LInt.rec_n, Nat.zero_mul] at y0
  have z0' : (0 : Int) < (no : Int) := by have := HNO.out; have := HLZ.out; omega
  have z1' : 0 < no := by have := HNO.out; have := HLZ.out; omega
  have f2 := HB0.out.frozen 2
  have t2 := HB0.out.cell 2
  simp only [List.getElem?_toArray, List.getElem?_cons_zero, List.getElem?_cons_succ] at t2
  obtain ⟨wd, hwd⟩ : ∃ wd : World, wd = wb.setCell ⟨w.heap.size, 2, none⟩ (.int .i64 x) := ⟨_, rfl⟩
  have BO5 := show Bx wd w.heap.size 29 #[.int .i64 r.turns, .int .i64 r.seconds, .int .i64 x, .slice b3 m3 d3, .slice b4 m4 d4] by rw [hwd]; exact HB0.out.set_ 2 (.int .i64 x)
  have BR5 := show Bx wd (w.heap.size + 1) _ _ by rw [hwd]; exact HBR.out.far (p := ⟨w.heap.size, 2, none⟩) (show w.heap.size + 1 ≠ w.heap.size by omega) _
  have p3 := show Bs.Own LInt.rec 3 wd (w.heap.size + 2) _ _ by rw [hwd]; exact own_set HO3.out (p := ⟨w.heap.size, 2, none⟩) (fun kk hkk => by have h2 := (HO3.out.lt kk hkk).1; show kk ≠ w.heap.size; omega) (.int .i64 x)
  have p4 := show Bs.Own LShare.rec 60 wd (w.heap.size + 2) _ _ by rw [hwd]; exact own_set HO4.out (p := ⟨w.heap.size, 2, none⟩) (fun kk hkk => by have h2 := (HO4.out.lt kk hkk).1; show kk ≠ w.heap.size; omega) (.int .i64 x)
  have oo := show Bs.Own LInt.rec 3 wd (w.heap.size + 2) _ _ by rw [hwd]; exact own_set HOO2.out (p := ⟨w.heap.size, 2, none⟩) (fun kk hkk => by have h2 := (HOO2.out.lt kk hkk).1; show kk ≠ w.heap.size; omega) (.int .i64 x)
  have hbT2 : Below w.heap.size w wd := by rw [hwd]; exact hbx.setCell (p := ⟨w.heap.size, 2, none⟩) (Nat.le_refl _) _
  have hgg := (oo.lt g rfl).1
  clear hbT
  have hbT := hbT2
  go_upto_region 6 with fail
  rw [← hwd]
  clear hwd y0 f2 t2
  have HXC := Lib.hid (show ∀ w' : World, Below wd.heap.size wd w' → w'.cell? ⟨g, 0, none⟩ = some (.int .i64 x) from fun w' hb => by
    have h := LInt.cells ((oo.kept hb).at_ 0 x HX.out)
    simpa only [LInt.rec_n, Nat.zero_mul] using h)
  have HK := Lib.hid (show ∀ w' : World, Below wd.heap.size wd w' → Below w.heap.size w w' ∧ (w'.cell? ⟨w.heap.size, 0, none⟩ = some (.int .i64 r.turns) ∧ w'.cell? ⟨w.heap.size, 1, none⟩ = some (.int .i64 r.seconds) ∧ w'.cell? ⟨w.heap.size, 2, none⟩ = some (.int .i64 x) ∧ w'.cell? ⟨w.heap.size, 3, none⟩ = some (.slice b3 m3 d3) ∧ w'.cell? ⟨w.heap.size, 4, none⟩ = some (.slice b4 m4 d4)) ∧ w'.cell? ⟨g, 0, none⟩ = some (.int .i64 x) from fun w' hb => ⟨hbT.trans (hb.mono hbT.size), by rw [(BO5.kept hb).cell 0, (BO5.kept hb).cell 1, (BO5.kept hb).cell 2, (BO5.kept hb).cell 3, (BO5.kept hb).cell 4]; exact ⟨rfl, rfl, rfl, rfl, rfl⟩, HXC.out _ hb⟩)
  have hB : Below wd.heap.size wd wd.drew := (Below.refl _ _).drew
  refine wp_region_held_drew (S := fun w' => Below w.heap.size w w' ∧ (w'.cell? ⟨w.heap.size, 0, none⟩ = some (.int .i64 r.turns) ∧ w'.cell? ⟨w.heap.size, 1, none⟩ = some (.int .i64 r.seconds) ∧ w'.cell? ⟨w.heap.size, 2, none⟩ = some (.int .i64 x) ∧ w'.cell? ⟨w.heap.size, 3, none⟩ = some (.slice b3 m3 d3) ∧ w'.cell? ⟨w.heap.size, 4, none⟩ = some (.slice b4 m4 d4)) ∧ w'.cell? ⟨g, 0, none⟩ = some (.int .i64 x)) (by kernel_rfl) (HK.out _ hB) (fun hHeld => ?_)
  generalize wd.drew = x0 at *
  refine wpAnyH_take (i := 0) (v := ?v1) rfl (by kernel_rfl) (by kernel_rfl) (by kernel_rfl) (fun _ _ _ h => h) (Or.inl ⟨by rfl, ?hy1⟩) (by assumption) ?rest1
  case hy1 => (intro wq hSw; (try dsimp only at hSw); go_split_ands; go_simp; (try with_reducible rfl))
  case rest1 =>
  refine wpAnyH_take (i := 1) (v := ?v2) rfl (by kernel_rfl) (by kernel_rfl) (by kernel_rfl) (fun _ _ _ h => h) (Or.inl ⟨by rfl, ?hy2⟩) (by assumption) ?rest2
  case hy2 => (intro wq hSw; (try dsimp only at hSw); go_split_ands; go_simp; (try with_reducible rfl))
  case rest2 =>
  refine wpAnyH_take (i := 2) (v := ?v3) rfl (by kernel_rfl) (by kernel_rfl) (by kernel_rfl) (fun _ _ _ h => h) (Or.inl ⟨by rfl, ?hy3⟩) (by assumption) ?rest3
  case hy3 => (intro wq hSw; (try dsimp only at hSw); go_split_ands; go_simp; (try with_reducible rfl))
  case rest3 =>
  refine wpAnyH_take (i := 3) (v := ?v4) rfl (by kernel_rfl) (by kernel_rfl) (by kernel_rfl) (fun _ _ _ h => h) (Or.inl ⟨by rfl, ?hy4⟩) (by assumption) ?rest4
  case hy4 => (intro wq hSw; (try dsimp only at hSw); go_split_ands; go_simp; (try with_reducible rfl))
  case rest4 =>
  refine wpAnyH_ready (rs := [4]) (by kernel_rfl) (by simp) ?_
  refine AllReadyH.cons rfl (fun K hK => ?step5) ?more5
  case step5 =>
    have BRX := BR5.kept hB
    have z0 := BRX.frozen 0
    have z1 := BRX.frozen 1
    have z2 := BRX.frozen 2
    have z3 := BRX.frozen 3
    have z4 := BRX.frozen 4
    have u0 := BRX.cell 0
    have u1 := BRX.cell 1
    have u2 := BRX.cell 2
    have u3 := BRX.cell 3
    have u4 := BRX.cell 4
    simp only [List.getElem?_toArray, List.getElem?_cons_zero, List.getElem?_cons_succ] at u0 u1 u2 u3 u4
    have hO3 := (own_set (own_set (own_set (own_set (own_set (p3.kept hB) (p := ⟨w.heap.size + 1, 0, none⟩) (fun k hk => by have h2 := (p3.lt k hk).1; show k ≠ w.heap.size + 1; omega) (.int .i64 r.turns)) (p := ⟨w.heap.size + 1, 1, none⟩) (fun k hk => by have h2 := (p3.lt k hk).1; show k ≠ w.heap.size + 1; omega) (.int .i64 r.seconds)) (p := ⟨w.heap.size + 1, 2, none⟩) (fun k hk => by have h2 := (p3.lt k hk).1; show k ≠ w.heap.size + 1; omega) (.int .i64 x)) (p := ⟨w.heap.size + 1, 3, none⟩) (fun k hk => by have h2 := (p3.lt k hk).1; show k ≠ w.heap.size + 1; omega) (.slice b3 m3 d3)) (p := ⟨w.heap.size + 1, 4, none⟩) (fun k hk => by have h2 := (p3.lt k hk).1; show k ≠ w.heap.size + 1; omega) (.slice b4 m4 d4))
    have hO4 := (own_set (own_set (own_set (own_set (own_set (p4.kept hB) (p := ⟨w.heap.size + 1, 0, none⟩) (fun k hk => by have h2 := (p4.lt k hk).1; show k ≠ w.heap.size + 1; omega) (.int .i64 r.turns)) (p := ⟨w.heap.size + 1, 1, none⟩) (fun k hk => by have h2 := (p4.lt k hk).1; show k ≠ w.heap.size + 1; omega) (.int .i64 r.seconds)) (p := ⟨w.heap.size + 1, 2, none⟩) (fun k hk => by have h2 := (p4.lt k hk).1; show k ≠ w.heap.size + 1; omega) (.int .i64 x)) (p := ⟨w.heap.size + 1, 3, none⟩) (fun k hk => by have h2 := (p4.lt k hk).1; show k ≠ w.heap.size + 1; omega) (.slice b3 m3 d3)) (p := ⟨w.heap.size + 1, 4, none⟩) (fun k hk => by have h2 := (p4.lt k hk).1; show k ≠ w.heap.size + 1; omega) (.slice b4 m4 d4))
    have hBF := (Below.setCell (Below.setCell (Below.setCell (Below.setCell (Below.setCell (hbT.trans (hB.mono hbT.size)) (p := ⟨w.heap.size + 1, 0, none⟩) (by show w.heap.size ≤ w.heap.size + 1; omega) (.int .i64 r.turns)) (p := ⟨w.heap.size + 1, 1, none⟩) (by show w.heap.size ≤ w.heap.size + 1; omega) (.int .i64 r.seconds)) (p := ⟨w.heap.size + 1, 2, none⟩) (by show w.heap.size ≤ w.heap.size + 1; omega) (.int .i64 x)) (p := ⟨w.heap.size + 1, 3, none⟩) (by show w.heap.size ≤ w.heap.size + 1; omega) (.slice b3 m3 d3)) (p := ⟨w.heap.size + 1, 4, none⟩) (by show w.heap.size ≤ w.heap.size + 1; omega) (.slice b4 m4 d4))
    have hRF := (((((BRX.set_ 0 (.int .i64 r.turns)).set_ 1 (.int .i64 r.seconds)).set_ 2 (.int .i64 x)).set_ 3 (.slice b3 m3 d3)).set_ 4 (.slice b4 m4 d4))
    have hFB := (Bx.far (Bx.far (Bx.far (Bx.far (Bx.far (BO5.kept hB) (p := ⟨w.heap.size + 1, 0, none⟩) (show w.heap.size ≠ w.heap.size + 1 by omega) (.int .i64 r.turns)) (p := ⟨w.heap.size + 1, 1, none⟩) (show w.heap.size ≠ w.heap.size + 1 by omega) (.int .i64 r.seconds)) (p := ⟨w.heap.size + 1, 2, none⟩) (show w.heap.size ≠ w.heap.size + 1 by omega) (.int .i64 x)) (p := ⟨w.heap.size + 1, 3, none⟩) (show w.heap.size ≠ w.heap.size + 1 by omega) (.slice b3 m3 d3)) (p := ⟨w.heap.size + 1, 4, none⟩) (show w.heap.size ≠ w.heap.size + 1 by omega) (.slice b4 m4 d4))
    go_simp
    refine hK.out _ _ ⟨hBF, by rw [hFB.cell 0, hFB.cell 1, hFB.cell 2, hFB.cell 3, hFB.cell 4]; exact ⟨rfl, rfl, rfl, rfl, rfl⟩, by rw [set5_cell (G := w.heap.size + 1) (by omega)]; exact HXC.out _ hB⟩ (fun hHeld => ?_)
    clear hK K
    refine wpAnyH_take (i := 5) (v := ?v6) rfl (by kernel_rfl) (by kernel_rfl) (by kernel_rfl) (fun _ _ _ h => h) (Or.inl ⟨by rfl, ?hy6⟩) (by assumption) ?rest6
    case hy6 => (intro wq hSw; (try dsimp only at hSw); go_split_ands; go_simp; (try with_reducible rfl))
    case rest6 =>
    refine wpAnyH_take (i := 6) (v := ?v7) rfl (by kernel_rfl) (by kernel_rfl) (by kernel_rfl) (fun _ _ _ h => h) (Or.inl ⟨by rfl, ?hy7⟩) (by assumption) ?rest7
    case hy7 => (intro wq hSw; (try dsimp only at hSw); go_split_ands; go_simp; (try with_reducible rfl))
    case rest7 =>
    refine wpAnyH_done (by kernel_rfl) ?_ _
    have y0 := hRF.cell 0
    have y1 := hRF.cell 1
    have y2 := hRF.cell 2
    have y3 := hRF.cell 3
    have y4 := hRF.cell 4
    simp at y0 y1 y2 y3 y4
    go_wp2_with fail
    refine bodyPost_ret (v := .tuple #[.agg #[.int .i64 r.turns, .int .i64 r.seconds, .int .i64 x, .slice b3 m3 d3, .slice b4 m4 d4], .int .i64 x, .bool true]) (by simp [results, Try.results17, go_sem, y0, y1, y2, y3, y4]) rfl ?_
    exact ⟨_, _, x, true, rfl, HA.out, ⟨_, _, rfl, hO3.low (by omega), hO4.low (by omega), HDD.out⟩, hBF⟩
  case more5 => exact AllReadyH.nil
end Go.Proofs.Ytmbffcblhhippaa.NextSpeakerC
