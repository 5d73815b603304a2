/- AskFloor: what it answers; the model. No condition. -/
import Derived.Test.YtmbffcblhhippaaFlX
import Derived.Test.YtmbffcblhhippaaFlV
import Derived.Test.YtmbffcblhhippaaFlW
import Derived.Test.YtmbffcblhhippaaFlP
import Derived.Deep.CutBlock
namespace Go.Proofs.Ytmbffcblhhippaa.AskFloorC
open Go.RowKit Bs Word Sq IntF Fl FlA FlG FlO FlX
set_option linter.unusedVariables false
noncomputable def answer (z0 : F) (a1 : Int) : F × Bool := if (good z0 && mayAsk z0 a1) = true then (Fl.ask z0 a1, true) else (zeroF, false)
def Ans (z0 : F) (a1 : Int) (r0 : F) (r1 : Bool) : Prop := (r0, r1) = answer z0 a1
theorem same {z0 : F} {a1 : Int} {r0 s0 : F} {r1 s1 : Bool} (h1 : Ans z0 a1 r0 r1) (h2 : Ans z0 a1 s0 s1) : r0 = s0 ∧ r1 = s1 := by
  have h := h1.trans h2.symm
  exact ⟨congrArg Prod.fst h, congrArg Prod.snd h⟩
theorem len0 {z0 : F} {a1 : Int} {r0 : F} {r1 : Bool} (h : Ans z0 a1 r0 r1) : r0.waiting.length ≤ 1048576 ∧ r0.shares.length ≤ 1048576 := by
  unfold Ans answer at h
  split at h
  · rename_i hg
    have h1 := congrArg Prod.fst h; simp only at h1; subst h1
    rw [Bool.and_eq_true] at hg
    have h2 := good_lens hg.1
    exact ⟨by show (z0.waiting ++ [a1]).length ≤ _; simp; omega, by show z0.shares.length ≤ _; omega⟩
  · have h1 := congrArg Prod.fst h; simp only at h1; subst h1; simp [zeroF]
def Post (z0 : F) (a1 : Int) (w : World) (e : Ending) (w' : World) : Prop := ∃ v0 r0 r1, e = .returned (.tuple #[v0, .bool r1]) ∧ Ans z0 a1 r0 r1 ∧ LFloor.Own w' w.heap.size v0 r0 ∧ Below w.heap.size w w'
set_option maxRecDepth 100000 in
set_option maxHeartbeats 1600000 in
theorem spec (v0 : Value) (z0 : F) (a1 : Int) (w : World) (h0 : LFloor.IsQ w v0 z0) (f0 : LFloor.Fine z0) (l3 : z0.waiting.length ≤ 1048576) (l4 : z0.shares.length ≤ 1048576) : Calls Try.prog 10 #[v0, .int .i64 a1] w (Post z0 a1 w) := by
  obtain ⟨r, hr⟩ : ∃ r, r = z0 := ⟨_, rfl⟩
  subst hr
  obtain ⟨a3, n3, c3, a4, n4, c4, rfl, HN3, HN4, hb3, hb4, hm3, hm4, HQ3, HQ4, HIQ⟩ := open_isq h0
  clear h0
  have HI := Lib.hid (LFloor.IsQ.is HIQ.out)
  obtain ⟨W0, hW⟩ : ∃ W : World, W = (w.alloc (Obj.cells #[.int .i64 r.turns, .int .i64 r.seconds, .int .i64 r.speaking, .slice a3 n3 c3, .slice a4 n4 c4] 29)).alloc (Obj.cells #[.int .i64 0, .int .i64 0, .int .i64 0, .slice none 0 0, .slice none 0 0] 29) := ⟨_, rfl⟩
  have hbT : Below w.heap.size w W0 := by rw [hW]; exact ((Below.refl _ _).alloc (Nat.le_refl _) _).alloc (by simp) _
  have HZ := Lib.hid (show W0.heap.size = w.heap.size + 2 by rw [hW]; simp)
  have B0 := Lib.hid (show Bx W0 w.heap.size 29 #[.int .i64 r.turns, .int .i64 r.seconds, .int .i64 r.speaking, .slice a3 n3 c3, .slice a4 n4 c4] by rw [hW]; exact (Bx.new _ _ _).alloc _)
  have BR := Lib.hid (show Bx W0 (w.heap.size + 1) 29 #[.int .i64 0, .int .i64 0, .int .i64 0, .slice none 0 0, .slice none 0 0] by rw [hW]; have := Bx.new (w.alloc (Obj.cells #[.int .i64 r.turns, .int .i64 r.seconds, .int .i64 r.speaking, .slice a3 n3 c3, .slice a4 n4 c4] 29)) 29 #[.int .i64 0, .int .i64 0, .int .i64 0, .slice none 0 0, .slice none 0 0]; simpa using this)
  have HL := Lib.hid (And.intro l3 l4)
  clear l3 l4
  obtain ⟨i3, hi, hz0, hz1, hz2⟩ := info_parts LInt.infoK
  have HI3 := Lib.hid hi
  have HZ3 := Lib.hid (And.intro hz0 (And.intro hz1 hz2))
  clear hi hz0 hz1 hz2
  have HC := Lib.hid (FlG.l8Good _ r W0 (LFloor.Is.below HI.out hbT))
  have q0 := B0.out.cell 0
  have q1 := B0.out.cell 1
  have q2 := B0.out.cell 2
  have q3 := B0.out.cell 3
  have q4 := B0.out.cell 4
  simp only [List.getElem?_toArray, List.getElem?_cons_zero, List.getElem?_cons_succ] at q0 q1 q2 q3 q4
  go_enter Try.func10, Try.ntmps10
  go_wp2_with fail
  rw [← hW]
  clear hW
  refine HC.out.mono ?_
  rintro e w1 ⟨rfl, hb1⟩
  replace BR := Lib.hid (BR.out.kept hb1)
  replace B0 := Lib.hid (B0.out.kept hb1)
  have HZ1 := Lib.hid (show w.heap.size + 2 ≤ w1.heap.size by have := HZ.out; have := hb1.size; omega)
  replace hbT := hbT.trans (hb1.mono hbT.size)
  clear hb1 q0 q1 q2 q3 q4
  have q0 := B0.out.cell 0
  have q1 := B0.out.cell 1
  have q2 := B0.out.cell 2
  have q3 := B0.out.cell 3
  have q4 := B0.out.cell 4
  simp only [List.getElem?_toArray, List.getElem?_cons_zero, List.getElem?_cons_succ] at q0 q1 q2 q3 q4
  cases hg : good r with
  | false =>
    have HA := Lib.hid (show Ans r a1 zeroF false by unfold Ans answer; rw [hg]; rfl)
    clear hg
    have BR5 := BR.out
    have r0 := BR5.cell 0
    have r1 := BR5.cell 1
    have r2 := BR5.cell 2
    have r3 := BR5.cell 3
    have r4 := BR5.cell 4
    simp only [List.getElem?_toArray, List.getElem?_cons_zero, List.getElem?_cons_succ] at r0 r1 r2 r3 r4
    have z0 := BR5.frozen 0
    have z1 := BR5.frozen 1
    have z2 := BR5.frozen 2
    have z3 := BR5.frozen 3
    have z4 := BR5.frozen 4
    have hRF := (Bx.set_ (Bx.set_ (Bx.set_ (Bx.set_ (Bx.set_ BR5 0 (.int .i64 0)) 1 (.int .i64 0)) 2 (.int .i64 0)) 3 (.slice none 0 0)) 4 (.slice none 0 0))
    have c0 := hRF.cell 0
    have c1 := hRF.cell 1
    have c2 := hRF.cell 2
    have c3 := hRF.cell 3
    have c4 := hRF.cell 4
    simp at c0 c1 c2 c3 c4
    clear hRF
    go_wp2_with fail
    refine bodyPost_ret (v := .tuple #[.agg #[.int .i64 0, .int .i64 0, .int .i64 0, .slice none 0 0, .slice none 0 0], .bool false]) (by simp [results, Try.results10, go_sem, c0, c1, c2, c3, c4]) rfl ?_
    exact ⟨_, zeroF, false, rfl, HA.out, LFloor.Own.zero, (Below.setCell (Below.setCell (Below.setCell (Below.setCell (Below.setCell hbT (p := ⟨w.heap.size + 1, 0, none⟩) (by show w.heap.size ≤ w.heap.size + 1; omega) (.int .i64 0)) (p := ⟨w.heap.size + 1, 1, none⟩) (by show w.heap.size ≤ w.heap.size + 1; omega) (.int .i64 0)) (p := ⟨w.heap.size + 1, 2, none⟩) (by show w.heap.size ≤ w.heap.size + 1; omega) (.int .i64 0)) (p := ⟨w.heap.size + 1, 3, none⟩) (by show w.heap.size ≤ w.heap.size + 1; omega) (.slice none 0 0)) (p := ⟨w.heap.size + 1, 4, none⟩) (by show w.heap.size ≤ w.heap.size + 1; omega) (.slice none 0 0))⟩
  | true =>
  have HG := Lib.hid hg
  clear hg
  cases hm : inB a1 1 99 with
  | false =>
    have HA := Lib.hid (show Ans r a1 zeroF false by unfold Ans answer mayAsk; rw [HG.out, hm]; rfl)
    have HM := Lib.hid (fun W => Mbr.l7Member a1 false hm W)
    clear hm
    go_wp2_with fail
    refine (HM.out _).mono ?_
    rintro e _ ⟨rfl, rfl⟩
    have BR5 := BR.out
    have r0 := BR5.cell 0
    have r1 := BR5.cell 1
    have r2 := BR5.cell 2
    have r3 := BR5.cell 3
    have r4 := BR5.cell 4
    simp only [List.getElem?_toArray, List.getElem?_cons_zero, List.getElem?_cons_succ] at r0 r1 r2 r3 r4
    have z0 := BR5.frozen 0
    have z1 := BR5.frozen 1
    have z2 := BR5.frozen 2
    have z3 := BR5.frozen 3
    have z4 := BR5.frozen 4
    have hRF := (Bx.set_ (Bx.set_ (Bx.set_ (Bx.set_ (Bx.set_ BR5 0 (.int .i64 0)) 1 (.int .i64 0)) 2 (.int .i64 0)) 3 (.slice none 0 0)) 4 (.slice none 0 0))
    have c0 := hRF.cell 0
    have c1 := hRF.cell 1
    have c2 := hRF.cell 2
    have c3 := hRF.cell 3
    have c4 := hRF.cell 4
    simp at c0 c1 c2 c3 c4
    clear hRF
    go_wp2_with fail
    refine bodyPost_ret (v := .tuple #[.agg #[.int .i64 0, .int .i64 0, .int .i64 0, .slice none 0 0, .slice none 0 0], .bool false]) (by simp [results, Try.results10, go_sem, c0, c1, c2, c3, c4]) rfl ?_
    exact ⟨_, zeroF, false, rfl, HA.out, LFloor.Own.zero, (Below.setCell (Below.setCell (Below.setCell (Below.setCell (Below.setCell hbT (p := ⟨w.heap.size + 1, 0, none⟩) (by show w.heap.size ≤ w.heap.size + 1; omega) (.int .i64 0)) (p := ⟨w.heap.size + 1, 1, none⟩) (by show w.heap.size ≤ w.heap.size + 1; omega) (.int .i64 0)) (p := ⟨w.heap.size + 1, 2, none⟩) (by show w.heap.size ≤ w.heap.size + 1; omega) (.int .i64 0)) (p := ⟨w.heap.size + 1, 3, none⟩) (by show w.heap.size ≤ w.heap.size + 1; omega) (.slice none 0 0)) (p := ⟨w.heap.size + 1, 4, none⟩) (by show w.heap.size ≤ w.heap.size + 1; omega) (.slice none 0 0))⟩
  | true =>
  have HM := Lib.hid (fun W => Mbr.l7Member a1 true hm W)
  have HAM := Lib.hid (show mayAsk r a1 = (!hasB r.waiting a1 && (!(r.speaking == a1) && (ent r a1 && !decide ((r.waiting.length : Int) = 10)))) by unfold mayAsk; rw [hm]; rfl)
  clear hm
  go_wp2_with fail
  refine (HM.out _).mono ?_
  rintro e _ ⟨rfl, rfl⟩
  have HHC := Lib.hid (IntF.l1Has _ r.waiting a1 w1 (IsQ.is (HQ3.out _ hbT)))
  go_wp2_with fail
  refine HHC.out.mono ?_
  rintro e _ ⟨rfl, rfl⟩
  clear HHC
  cases hh : hasB r.waiting a1 with
  | true =>
    have HA := Lib.hid (show Ans r a1 zeroF false by unfold Ans answer; rw [HG.out, HAM.out, hh]; rfl)
    clear hh
    have BR5 := BR.out
    have r0 := BR5.cell 0
    have r1 := BR5.cell 1
    have r2 := BR5.cell 2
    have r3 := BR5.cell 3
    have r4 := BR5.cell 4
    simp only [List.getElem?_toArray, List.getElem?_cons_zero, List.getElem?_cons_succ] at r0 r1 r2 r3 r4
    have z0 := BR5.frozen 0
    have z1 := BR5.frozen 1
    have z2 := BR5.frozen 2
    have z3 := BR5.frozen 3
    have z4 := BR5.frozen 4
    have hRF := (Bx.set_ (Bx.set_ (Bx.set_ (Bx.set_ (Bx.set_ BR5 0 (.int .i64 0)) 1 (.int .i64 0)) 2 (.int .i64 0)) 3 (.slice none 0 0)) 4 (.slice none 0 0))
    have c0 := hRF.cell 0
    have c1 := hRF.cell 1
    have c2 := hRF.cell 2
    have c3 := hRF.cell 3
    have c4 := hRF.cell 4
    simp at c0 c1 c2 c3 c4
    clear hRF
    go_wp2_with fail
    refine bodyPost_ret (v := .tuple #[.agg #[.int .i64 0, .int .i64 0, .int .i64 0, .slice none 0 0, .slice none 0 0], .bool false]) (by simp [results, Try.results10, go_sem, c0, c1, c2, c3, c4]) rfl ?_
    exact ⟨_, zeroF, false, rfl, HA.out, LFloor.Own.zero, (Below.setCell (Below.setCell (Below.setCell (Below.setCell (Below.setCell hbT (p := ⟨w.heap.size + 1, 0, none⟩) (by show w.heap.size ≤ w.heap.size + 1; omega) (.int .i64 0)) (p := ⟨w.heap.size + 1, 1, none⟩) (by show w.heap.size ≤ w.heap.size + 1; omega) (.int .i64 0)) (p := ⟨w.heap.size + 1, 2, none⟩) (by show w.heap.size ≤ w.heap.size + 1; omega) (.int .i64 0)) (p := ⟨w.heap.size + 1, 3, none⟩) (by show w.heap.size ≤ w.heap.size + 1; omega) (.slice none 0 0)) (p := ⟨w.heap.size + 1, 4, none⟩) (by show w.heap.size ≤ w.heap.size + 1; omega) (.slice none 0 0))⟩
  | false =>
  replace HAM := Lib.hid (show mayAsk r a1 = (!(r.speaking == a1) && (ent r a1 && !decide ((r.waiting.length : Int) = 10))) by rw [HAM.out, hh]; rfl)
  clear hh
  cases hs : (r.speaking == a1) with
  | true =>
    have HA := Lib.hid (show Ans r a1 zeroF false by unfold Ans answer; rw [HG.out, HAM.out, hs]; rfl)
    have BR5 := BR.out
    have r0 := BR5.cell 0
    have r1 := BR5.cell 1
    have r2 := BR5.cell 2
    have r3 := BR5.cell 3
    have r4 := BR5.cell 4
    simp only [List.getElem?_toArray, List.getElem?_cons_zero, List.getElem?_cons_succ] at r0 r1 r2 r3 r4
    have z0 := BR5.frozen 0
    have z1 := BR5.frozen 1
    have z2 := BR5.frozen 2
    have z3 := BR5.frozen 3
    have z4 := BR5.frozen 4
    have hRF := (Bx.set_ (Bx.set_ (Bx.set_ (Bx.set_ (Bx.set_ BR5 0 (.int .i64 0)) 1 (.int .i64 0)) 2 (.int .i64 0)) 3 (.slice none 0 0)) 4 (.slice none 0 0))
    have c0 := hRF.cell 0
    have c1 := hRF.cell 1
    have c2 := hRF.cell 2
    have c3 := hRF.cell 3
    have c4 := hRF.cell 4
    simp at c0 c1 c2 c3 c4
    clear hRF
    go_wp2_with fail
    refine bodyPost_ret (v := .tuple #[.agg #[.int .i64 0, .int .i64 0, .int .i64 0, .slice none 0 0, .slice none 0 0], .bool false]) (by simp [results, Try.results10, go_sem, c0, c1, c2, c3, c4]) rfl ?_
    exact ⟨_, zeroF, false, rfl, HA.out, LFloor.Own.zero, (Below.setCell (Below.setCell (Below.setCell (Below.setCell (Below.setCell hbT (p := ⟨w.heap.size + 1, 0, none⟩) (by show w.heap.size ≤ w.heap.size + 1; omega) (.int .i64 0)) (p := ⟨w.heap.size + 1, 1, none⟩) (by show w.heap.size ≤ w.heap.size + 1; omega) (.int .i64 0)) (p := ⟨w.heap.size + 1, 2, none⟩) (by show w.heap.size ≤ w.heap.size + 1; omega) (.int .i64 0)) (p := ⟨w.heap.size + 1, 3, none⟩) (by show w.heap.size ≤ w.heap.size + 1; omega) (.slice none 0 0)) (p := ⟨w.heap.size + 1, 4, none⟩) (by show w.heap.size ≤ w.heap.size + 1; omega) (.slice none 0 0))⟩
  | false =>
  replace HAM := Lib.hid (show mayAsk r a1 = (ent r a1 && !decide ((r.waiting.length : Int) = 10)) by rw [HAM.out, hs]; rfl)
  have HEN := Lib.hid (l8Entitled _ r a1 w1 (LFloor.Is.below HI.out hbT))
  go_wp2_with fail
  refine HEN.out.mono ?_
  rintro e w0 ⟨rfl, hb1⟩
  replace BR := Lib.hid (BR.out.kept hb1)
  replace B0 := Lib.hid (B0.out.kept hb1)
  have HZ0 := Lib.hid (Nat.le_trans HZ1.out hb1.size)
  replace hbT := hbT.trans (hb1.mono hbT.size)
  clear HEN hb1 q0 q1 q2 q3 q4 HZ1 hs
  have HZ1 := HZ0
  clear HZ0
  generalize hw10 : w0 = w1' at *
  clear hw10
  have q0 := B0.out.cell 0
  have q1 := B0.out.cell 1
  have q2 := B0.out.cell 2
  have q3 := B0.out.cell 3
  have q4 := B0.out.cell 4
  simp only [List.getElem?_toArray, List.getElem?_cons_zero, List.getElem?_cons_succ] at q0 q1 q2 q3 q4
  cases he : ent r a1 with
  | false =>
    have HA := Lib.hid (show Ans r a1 zeroF false by unfold Ans answer; rw [HG.out, HAM.out, he]; rfl)
    clear he
    have BR5 := BR.out
    have r0 := BR5.cell 0
    have r1 := BR5.cell 1
    have r2 := BR5.cell 2
    have r3 := BR5.cell 3
    have r4 := BR5.cell 4
    simp only [List.getElem?_toArray, List.getElem?_cons_zero, List.getElem?_cons_succ] at r0 r1 r2 r3 r4
    have z0 := BR5.frozen 0
    have z1 := BR5.frozen 1
    have z2 := BR5.frozen 2
    have z3 := BR5.frozen 3
    have z4 := BR5.frozen 4
    have hRF := (Bx.set_ (Bx.set_ (Bx.set_ (Bx.set_ (Bx.set_ BR5 0 (.int .i64 0)) 1 (.int .i64 0)) 2 (.int .i64 0)) 3 (.slice none 0 0)) 4 (.slice none 0 0))
    have c0 := hRF.cell 0
    have c1 := hRF.cell 1
    have c2 := hRF.cell 2
    have c3 := hRF.cell 3
    have c4 := hRF.cell 4
    simp at c0 c1 c2 c3 c4
    clear hRF
    go_wp2_with fail
    refine bodyPost_ret (v := .tuple #[.agg #[.int .i64 0, .int .i64 0, .int .i64 0, .slice none 0 0, .slice none 0 0], .bool false]) (by simp [results, Try.results10, go_sem, c0, c1, c2, c3, c4]) rfl ?_
    exact ⟨_, zeroF, false, rfl, HA.out, LFloor.Own.zero, (Below.setCell (Below.setCell (Below.setCell (Below.setCell (Below.setCell hbT (p := ⟨w.heap.size + 1, 0, none⟩) (by show w.heap.size ≤ w.heap.size + 1; omega) (.int .i64 0)) (p := ⟨w.heap.size + 1, 1, none⟩) (by show w.heap.size ≤ w.heap.size + 1; omega) (.int .i64 0)) (p := ⟨w.heap.size + 1, 2, none⟩) (by show w.heap.size ≤ w.heap.size + 1; omega) (.int .i64 0)) (p := ⟨w.heap.size + 1, 3, none⟩) (by show w.heap.size ≤ w.heap.size + 1; omega) (.slice none 0 0)) (p := ⟨w.heap.size + 1, 4, none⟩) (by show w.heap.size ≤ w.heap.size + 1; omega) (.slice none 0 0))⟩
  | true =>
  replace HAM := Lib.hid (show mayAsk r a1 = !decide ((r.waiting.length : Int) = 10) by rw [HAM.out, he]; rfl)
  clear he
  by_cases h10 : n3 = 10
  · have HA := Lib.hid (show Ans r a1 zeroF false by unfold Ans answer; rw [HG.out, HAM.out, decide_eq_true (by rw [HN3.out, h10]; rfl)]; rfl)
    subst h10
    have BR5 := BR.out
    have r0 := BR5.cell 0
    have r1 := BR5.cell 1
    have r2 := BR5.cell 2
    have r3 := BR5.cell 3
    have r4 := BR5.cell 4
    simp only [List.getElem?_toArray, List.getElem?_cons_zero, List.getElem?_cons_succ] at r0 r1 r2 r3 r4
    have z0 := BR5.frozen 0
    have z1 := BR5.frozen 1
    have z2 := BR5.frozen 2
    have z3 := BR5.frozen 3
    have z4 := BR5.frozen 4
    have hRF := (Bx.set_ (Bx.set_ (Bx.set_ (Bx.set_ (Bx.set_ BR5 0 (.int .i64 0)) 1 (.int .i64 0)) 2 (.int .i64 0)) 3 (.slice none 0 0)) 4 (.slice none 0 0))
    have c0 := hRF.cell 0
    have c1 := hRF.cell 1
    have c2 := hRF.cell 2
    have c3 := hRF.cell 3
    have c4 := hRF.cell 4
    simp at c0 c1 c2 c3 c4
    clear hRF
    go_wp2_with fail
    refine bodyPost_ret (v := .tuple #[.agg #[.int .i64 0, .int .i64 0, .int .i64 0, .slice none 0 0, .slice none 0 0], .bool false]) (by simp [results, Try.results10, go_sem, c0, c1, c2, c3, c4]) rfl ?_
    exact ⟨_, zeroF, false, rfl, HA.out, LFloor.Own.zero, (Below.setCell (Below.setCell (Below.setCell (Below.setCell (Below.setCell hbT (p := ⟨w.heap.size + 1, 0, none⟩) (by show w.heap.size ≤ w.heap.size + 1; omega) (.int .i64 0)) (p := ⟨w.heap.size + 1, 1, none⟩) (by show w.heap.size ≤ w.heap.size + 1; omega) (.int .i64 0)) (p := ⟨w.heap.size + 1, 2, none⟩) (by show w.heap.size ≤ w.heap.size + 1; omega) (.int .i64 0)) (p := ⟨w.heap.size + 1, 3, none⟩) (by show w.heap.size ≤ w.heap.size + 1; omega) (.slice none 0 0)) (p := ⟨w.heap.size + 1, 4, none⟩) (by show w.heap.size ≤ w.heap.size + 1; omega) (.slice none 0 0))⟩
  have HA := Lib.hid (show Ans r a1 (Fl.ask r a1) true by unfold Ans answer; rw [HG.out, HAM.out, decide_eq_false (by rw [HN3.out]; omega)]; rfl)
  have h10b : ((n3 : Int) == 10) = false := by simp; omega
  clear q0 q1 q2 q3 q4
  have HY := Lib.hid (l8Own _ r w1' (LFloor.IsQ.below HIQ.out hbT) (by have := HL.out.1; omega) (by have := HL.out.2; omega))
  have q0 := B0.out.cell 0
  have q1 := B0.out.cell 1
  have q2 := B0.out.cell 2
  have q3 := B0.out.cell 3
  have q4 := B0.out.cell 4
  simp only [List.getElem?_toArray, List.getElem?_cons_zero, List.getElem?_cons_succ] at q0 q1 q2 q3 q4
  go_wp2_with fail
  refine HY.out.mono ?_
  rintro e w2 ⟨v, rfl, hO, hb1⟩
  obtain ⟨u3, u4, rfl, o3, o4, d34⟩ := hO
  obtain ⟨b3, m3, d3, rfl⟩ := own_slice o3
  obtain ⟨b4, m4, d4, rfl⟩ := own_slice o4
  obtain ⟨O, hO⟩ : ∃ O, O = w2.heap.size := ⟨_, rfl⟩
  obtain ⟨wc, hwc⟩ : ∃ wc : World, wc = w2.alloc (Obj.cells #[.int .i64 r.turns, .int .i64 r.seconds, .int .i64 r.speaking, .slice b3 m3 d3, .slice b4 m4 d4] 29) := ⟨_, rfl⟩
  have hba : Below w2.heap.size w2 wc := by rw [hwc]; exact (Below.refl _ _).alloc (Nat.le_refl _) _
  have BO := Lib.hid (show Bx wc O 29 #[.int .i64 r.turns, .int .i64 r.seconds, .int .i64 r.speaking, .slice b3 m3 d3, .slice b4 m4 d4] by rw [hwc, hO]; exact Bx.new _ _ _)
  have hb2 := hb1.trans (hba.mono hb1.size)
  replace BR := Lib.hid (BR.out.kept hb2)
  replace B0 := Lib.hid (B0.out.kept hb2)
  have HN := Lib.hid (show (∀ k, (Value.slice b3 m3 d3).ownBlock = some k → k < O) ∧ ∀ k, (Value.slice b4 m4 d4).ownBlock = some k → k < O from ⟨fun k hk => by have := (o3.lt k hk).2; omega, fun k hk => by have := (o4.lt k hk).2; omega⟩)
  have HO3 := Lib.hid (o3.kept hba)
  have HO4 := Lib.hid (o4.kept hba)
  have HOO := Lib.hid (show w.heap.size + 1 < O by have h1 := HZ1.out; have h2 := hb1.size; omega)
  have HWC := Lib.hid (show O < wc.heap.size from BO.out.lt)
  have HD := Lib.hid d34
  have HZW := Lib.hid (show w1'.heap.size ≤ wc.heap.size from hb2.size)
  replace hbT := hbT.trans (hb2.mono hbT.size)
  clear hb1 hb2 hba o3 o4 d34 HY q0 q1 q2 q3 q4
  go_upto_region 4 with fail
  rw [← hwc, ← hO]
  clear hwc hO
  have q3 := BO.out.cell 3
  simp only [List.getElem?_toArray, List.getElem?_cons_zero, List.getElem?_cons_succ] at q3
  go_wp2_with (at_builtin; refine wpList_append_o (T := LInt.rec) _ rfl (.tmp 43) (.tmp 45) 22 rfl w1'.heap.size 3 i3 (.int .i64 0) 8 Try.underlying22 HI3.out HZ3.out.1 HZ3.out.2.1 HZ3.out.2.2 rfl _ _ rfl (HO3.out.alloc _) (some ⟨wc.heap.size, 0, none⟩) 1 1 [a1] rfl rfl (src_one (T := LInt.rec) (heap_alloc_new wc _)) (by have := HL.out.1; unfold maxLen; omega) (by have := HL.out.1; omega) (by simp; have := HZW.out; omega) ?_)
  intro v5 w4 o5 hgrow hnn hat
  obtain ⟨b5, m5, d5, hv5⟩ := own_slice o5
  subst hv5
  have hoo := HOO.out
  have hwo := HWC.out
  have hz1 := HZ1.out
  have BO4 := box_besides (BO.out.alloc (Obj.cells #[.int .i64 a1] 3)) hgrow (fun e => by have := HN.out.1 _ e; omega)
  have BR4 := box_besides (BR.out.alloc (Obj.cells #[.int .i64 a1] 3)) hgrow (fun e => by have := (HO3.out.lt _ e).1; omega)
  have o4 := own_besides (HO4.out.alloc (Obj.cells #[.int .i64 a1] 3)) hgrow HD.out.symm
  have HDD := Lib.hid (dist_grow (HO4.out.alloc (Obj.cells #[.int .i64 a1] 3)) HD.out.symm (show _ ∨ _ = some (wc.alloc (Obj.cells #[.int .i64 a1] 3)).heap.size by simpa using hat)).symm
  have h5 : ∀ kk, (Value.slice b5 m5 d5).ownBlock = some kk → kk ≠ O := fun kk hkk => by
    rcases hat with h' | h'
    · rw [hkk] at h'; have := HN.out.1 kk h'.symm; omega
    · rw [hkk] at h'; have h2 := Option.some.inj h'; first | omega | (simp at h2; omega)
  have HBT4 := Lib.hid (below_grown (hbT.alloc hbT.size (Obj.cells #[.int .i64 a1] 3)) hgrow (by simp; have := hbT.size; omega) (fun kk hkk => by have := (HO3.out.lt kk hkk).1; omega))
  clear hgrow hnn hat
  have z3 := BO4.frozen 3
  have t3 := BO4.cell 3
  simp only [List.getElem?_toArray, List.getElem?_cons_zero, List.getElem?_cons_succ] at t3
  obtain ⟨wd, hwd⟩ : ∃ wd : World, wd = w4.setCell ⟨O, 3, none⟩ (.slice b5 m5 d5) := ⟨_, rfl⟩
  have BO5 := show Bx wd O 29 #[.int .i64 r.turns, .int .i64 r.seconds, .int .i64 r.speaking, .slice b5 m5 d5, .slice b4 m4 d4] by rw [hwd]; exact BO4.set_ 3 (.slice b5 m5 d5)
  have BR5 := show Bx wd (w.heap.size + 1) _ _ by rw [hwd]; exact BR4.far (p := ⟨O, 3, none⟩) (show w.heap.size + 1 ≠ O by omega) _
  have p3 := show Bs.Own LInt.rec 3 wd w1'.heap.size _ _ by rw [hwd]; exact own_set o5 (p := ⟨O, 3, none⟩) (fun kk hkk => h5 kk hkk) (.slice b5 m5 d5)
  have p4 := show Bs.Own LShare.rec 60 wd w1'.heap.size _ _ by rw [hwd]; exact own_set o4 (p := ⟨O, 3, none⟩) (fun kk hkk => by have h2 := HN.out.2 kk hkk; show kk ≠ O; omega) (.slice b5 m5 d5)
  have hbT : Below w.heap.size w wd := by rw [hwd]; exact HBT4.out.setCell (p := ⟨O, 3, none⟩) (by show w.heap.size ≤ O; omega) _
  clear o5 o4 BO4 BR4 h5 HBT4
  go_upto_region 5 with fail
  rw [← hwd]
  clear hwd z3 t3
  have y0 := BO5.cell 0
  have y1 := BO5.cell 1
  have y2 := BO5.cell 2
  have y3 := BO5.cell 3
  have y4 := BO5.cell 4
  simp only [List.getElem?_toArray, List.getElem?_cons_zero, List.getElem?_cons_succ] at y0 y1 y2 y3 y4
  have r0 := BR5.cell 0
  have r1 := BR5.cell 1
  have r2 := BR5.cell 2
  have r3 := BR5.cell 3
  have r4 := BR5.cell 4
  simp only [List.getElem?_toArray, List.getElem?_cons_zero, List.getElem?_cons_succ] at r0 r1 r2 r3 r4
  have z0 := BR5.frozen 0
  have z1 := BR5.frozen 1
  have z2 := BR5.frozen 2
  have z3 := BR5.frozen 3
  have z4 := BR5.frozen 4
  have hRF := (Bx.set_ (Bx.set_ (Bx.set_ (Bx.set_ (Bx.set_ BR5 0 (.int .i64 r.turns)) 1 (.int .i64 r.seconds)) 2 (.int .i64 r.speaking)) 3 (.slice b5 m5 d5)) 4 (.slice b4 m4 d4))
  have c0 := hRF.cell 0
  have c1 := hRF.cell 1
  have c2 := hRF.cell 2
  have c3 := hRF.cell 3
  have c4 := hRF.cell 4
  simp at c0 c1 c2 c3 c4
  clear hRF
  go_wp2_with fail
  refine bodyPost_ret (v := .tuple #[.agg #[.int .i64 r.turns, .int .i64 r.seconds, .int .i64 r.speaking, .slice b5 m5 d5, .slice b4 m4 d4], .bool true]) (by simp [results, Try.results10, go_sem, c0, c1, c2, c3, c4]) rfl ?_
  exact ⟨_, Fl.ask r a1, true, rfl, HA.out, ⟨_, _, rfl, ((own_set (own_set (own_set (own_set (own_set p3 (p := ⟨w.heap.size + 1, 0, none⟩) (fun k hk => by have h2 := (p3.lt k hk).1; show k ≠ w.heap.size + 1; omega) (.int .i64 r.turns)) (p := ⟨w.heap.size + 1, 1, none⟩) (fun k hk => by have h2 := (p3.lt k hk).1; show k ≠ w.heap.size + 1; omega) (.int .i64 r.seconds)) (p := ⟨w.heap.size + 1, 2, none⟩) (fun k hk => by have h2 := (p3.lt k hk).1; show k ≠ w.heap.size + 1; omega) (.int .i64 r.speaking)) (p := ⟨w.heap.size + 1, 3, none⟩) (fun k hk => by have h2 := (p3.lt k hk).1; show k ≠ w.heap.size + 1; omega) (.slice b5 m5 d5)) (p := ⟨w.heap.size + 1, 4, none⟩) (fun k hk => by have h2 := (p3.lt k hk).1; show k ≠ w.heap.size + 1; omega) (.slice b4 m4 d4))).low (by omega), ((own_set (own_set (own_set (own_set (own_set p4 (p := ⟨w.heap.size + 1, 0, none⟩) (fun k hk => by have h2 := (p4.lt k hk).1; show k ≠ w.heap.size + 1; omega) (.int .i64 r.turns)) (p := ⟨w.heap.size + 1, 1, none⟩) (fun k hk => by have h2 := (p4.lt k hk).1; show k ≠ w.heap.size + 1; omega) (.int .i64 r.seconds)) (p := ⟨w.heap.size + 1, 2, none⟩) (fun k hk => by have h2 := (p4.lt k hk).1; show k ≠ w.heap.size + 1; omega) (.int .i64 r.speaking)) (p := ⟨w.heap.size + 1, 3, none⟩) (fun k hk => by have h2 := (p4.lt k hk).1; show k ≠ w.heap.size + 1; omega) (.slice b5 m5 d5)) (p := ⟨w.heap.size + 1, 4, none⟩) (fun k hk => by have h2 := (p4.lt k hk).1; show k ≠ w.heap.size + 1; omega) (.slice b4 m4 d4))).low (by omega), HDD.out⟩, (Below.setCell (Below.setCell (Below.setCell (Below.setCell (Below.setCell hbT (p := ⟨w.heap.size + 1, 0, none⟩) (by show w.heap.size ≤ w.heap.size + 1; omega) (.int .i64 r.turns)) (p := ⟨w.heap.size + 1, 1, none⟩) (by show w.heap.size ≤ w.heap.size + 1; omega) (.int .i64 r.seconds)) (p := ⟨w.heap.size + 1, 2, none⟩) (by show w.heap.size ≤ w.heap.size + 1; omega) (.int .i64 r.speaking)) (p := ⟨w.heap.size + 1, 3, none⟩) (by show w.heap.size ≤ w.heap.size + 1; omega) (.slice b5 m5 d5)) (p := ⟨w.heap.size + 1, 4, none⟩) (by show w.heap.size ≤ w.heap.size + 1; omega) (.slice b4 m4 d4))⟩
end Go.Proofs.Ytmbffcblhhippaa.AskFloorC
