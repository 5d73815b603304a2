/- NewFloor: what it answers, on both sides. No condition. -/
import Derived.Test.YtjphhcmhangkkaaFlX
import Derived.Test.YtjphhcmhangkkaaFlV
import Derived.Test.YtjphhcmhangkkaaFlO
namespace Go.Proofs.Ytjphhcmhangkkaa.NewFloorC
open Go.RowKit Bs Word Sq IntF Fl FlA FlG FlO FlX
set_option linter.unusedVariables false
def Ans (a0 a1 : Int) (r0 : F) (r1 : Bool) : Prop := (r0, r1) = if good ⟨a0, a1, 0, [], []⟩ = true then ((⟨a0, a1, 0, [], []⟩ : F), true) else (zeroF, false)
theorem same {a0 a1 : Int} {r0 s0 : F} {r1 s1 : Bool} (h1 : Ans a0 a1 r0 r1) (h2 : Ans a0 a1 s0 s1) : r0 = s0 ∧ r1 = s1 := by
  have h := h1.trans h2.symm
  exact ⟨congrArg Prod.fst h, congrArg Prod.snd h⟩
theorem len0 {a0 a1 : Int} {r0 : F} {r1 : Bool} (h : Ans a0 a1 r0 r1) : r0.waiting.length ≤ 1048576 ∧ r0.shares.length ≤ 1048576 := by
  unfold Ans at h
  split at h
  · have := congrArg Prod.fst h; simp only at this; subst this; simp
  · have := congrArg Prod.fst h; simp only at this; subst this; simp [zeroF]
def Post (a0 a1 : Int) (w : World) (e : Ending) (w' : World) : Prop := ∃ v0 r0 r1, e = .returned (.tuple #[v0, .bool r1]) ∧ Ans a0 a1 r0 r1 ∧ LFloor.Own w' w.heap.size v0 r0 ∧ Below w.heap.size w w'
set_option maxRecDepth 100000 in
set_option maxHeartbeats 1600000 in
theorem spec (a0 a1 : Int) (w : World) : Calls Try.prog 12 #[.int .i64 a0, .int .i64 a1] w (Post a0 a1 w) := by
  obtain ⟨W0, hW⟩ : ∃ W : World, W = (w.alloc (Obj.cells #[.int .i64 0, .int .i64 0, .int .i64 0, .slice none 0 0, .slice none 0 0] 25)).alloc (Obj.cells #[.int .i64 a0, .int .i64 a1, .int .i64 0, .slice none 0 0, .slice none 0 0] 25) := ⟨_, rfl⟩
  have hbT : Below w.heap.size w W0 := by rw [hW]; exact ((Below.refl _ _).alloc (Nat.le_refl _) _).alloc (by simp) _
  have BR := Lib.hid (show Bx W0 w.heap.size 25 #[.int .i64 0, .int .i64 0, .int .i64 0, .slice none 0 0, .slice none 0 0] by rw [hW]; exact (Bx.new _ _ _).alloc _)
  have B0 := Lib.hid (show Bx W0 (w.heap.size + 1) 25 #[.int .i64 a0, .int .i64 a1, .int .i64 0, .slice none 0 0, .slice none 0 0] by rw [hW]; have := Bx.new (w.alloc (Obj.cells #[.int .i64 0, .int .i64 0, .int .i64 0, .slice none 0 0, .slice none 0 0] 25)) 25 #[.int .i64 a0, .int .i64 a1, .int .i64 0, .slice none 0 0, .slice none 0 0]; simpa using this)
  have HC := Lib.hid (FlG.l8Good (.agg #[.int .i64 a0, .int .i64 a1, .int .i64 0, .slice none 0 0, .slice none 0 0]) ⟨a0, a1, 0, [], []⟩ W0 (LFloor.IsQ.is ⟨_, _, rfl, .inl ⟨rfl, rfl⟩, .inl ⟨rfl, rfl⟩⟩))
  have q0 := B0.out.cell 0
  have q1 := B0.out.cell 1
  have q2 := B0.out.cell 2
  have q3 := B0.out.cell 3
  have q4 := B0.out.cell 4
  simp only [List.getElem?_toArray, List.getElem?_cons_zero, List.getElem?_cons_succ] at q0 q1 q2 q3 q4
  go_enter Try.func12, Try.ntmps12
  go_upto_region 2 with fail
  rw [← hW]
  clear hW
  go_wp2_with fail
  refine HC.out.mono ?_
  rintro e w1 ⟨rfl, hb1⟩
  replace BR := Lib.hid (BR.out.kept hb1)
  replace B0 := Lib.hid (B0.out.kept hb1)
  replace hbT := hbT.trans (hb1.mono hbT.size)
  clear hb1 q0 q1 q2 q3 q4
  cases hg : good ⟨a0, a1, 0, [], []⟩ with
  | false =>
    have HA := Lib.hid (show Ans a0 a1 zeroF false by unfold Ans; rw [hg]; rfl)
    clear hg
    have BR5 := BR.out
    have r0 := BR5.cell 0
    have r1 := BR5.cell 1
    have r2 := BR5.cell 2
    have r3 := BR5.cell 3
    have r4 := BR5.cell 4
    simp only [List.getElem?_toArray, List.getElem?_cons_zero, List.getElem?_cons_succ] at r0 r1 r2 r3 r4
    have z0 := BR5.frozen 0
    have z1 := BR5.frozen 1
    have z2 := BR5.frozen 2
    have z3 := BR5.frozen 3
    have z4 := BR5.frozen 4
    have hRF := (Bx.set_ (Bx.set_ (Bx.set_ (Bx.set_ (Bx.set_ BR5 0 (.int .i64 0)) 1 (.int .i64 0)) 2 (.int .i64 0)) 3 (.slice none 0 0)) 4 (.slice none 0 0))
    have c0 := hRF.cell 0
    have c1 := hRF.cell 1
    have c2 := hRF.cell 2
    have c3 := hRF.cell 3
    have c4 := hRF.cell 4
    simp at c0 c1 c2 c3 c4
    clear hRF
    go_wp2_with fail
    refine bodyPost_ret (v := .tuple #[.agg #[.int .i64 0, .int .i64 0, .int .i64 0, .slice none 0 0, .slice none 0 0], .bool false]) (by simp [results, Try.results12, go_sem, c0, c1, c2, c3, c4]) rfl ?_
    exact ⟨_, zeroF, false, rfl, HA.out, LFloor.Own.zero, (Below.setCell (Below.setCell (Below.setCell (Below.setCell (Below.setCell hbT (p := ⟨w.heap.size, 0, none⟩) (by show w.heap.size ≤ w.heap.size; omega) (.int .i64 0)) (p := ⟨w.heap.size, 1, none⟩) (by show w.heap.size ≤ w.heap.size; omega) (.int .i64 0)) (p := ⟨w.heap.size, 2, none⟩) (by show w.heap.size ≤ w.heap.size; omega) (.int .i64 0)) (p := ⟨w.heap.size, 3, none⟩) (by show w.heap.size ≤ w.heap.size; omega) (.slice none 0 0)) (p := ⟨w.heap.size, 4, none⟩) (by show w.heap.size ≤ w.heap.size; omega) (.slice none 0 0))⟩
  | true =>
    have HA := Lib.hid (show Ans a0 a1 ⟨a0, a1, 0, [], []⟩ true by unfold Ans; rw [hg]; rfl)
    clear hg
    have BR5 := BR.out
    have BO5 := B0.out
    have y0 := BO5.cell 0
    have y1 := BO5.cell 1
    have y2 := BO5.cell 2
    have y3 := BO5.cell 3
    have y4 := BO5.cell 4
    simp only [List.getElem?_toArray, List.getElem?_cons_zero, List.getElem?_cons_succ] at y0 y1 y2 y3 y4
    have r0 := BR5.cell 0
    have r1 := BR5.cell 1
    have r2 := BR5.cell 2
    have r3 := BR5.cell 3
    have r4 := BR5.cell 4
    simp only [List.getElem?_toArray, List.getElem?_cons_zero, List.getElem?_cons_succ] at r0 r1 r2 r3 r4
    have z0 := BR5.frozen 0
    have z1 := BR5.frozen 1
    have z2 := BR5.frozen 2
    have z3 := BR5.frozen 3
    have z4 := BR5.frozen 4
    have hRF := (Bx.set_ (Bx.set_ (Bx.set_ (Bx.set_ (Bx.set_ BR5 0 (.int .i64 a0)) 1 (.int .i64 a1)) 2 (.int .i64 0)) 3 (.slice none 0 0)) 4 (.slice none 0 0))
    have c0 := hRF.cell 0
    have c1 := hRF.cell 1
    have c2 := hRF.cell 2
    have c3 := hRF.cell 3
    have c4 := hRF.cell 4
    simp at c0 c1 c2 c3 c4
    clear hRF
    go_wp2_with fail
    refine bodyPost_ret (v := .tuple #[.agg #[.int .i64 a0, .int .i64 a1, .int .i64 0, .slice none 0 0, .slice none 0 0], .bool true]) (by simp [results, Try.results12, go_sem, c0, c1, c2, c3, c4]) rfl ?_
    exact ⟨_, _, true, rfl, HA.out, ⟨_, _, rfl, Bs.Own.nil, Bs.Own.nil, dist_none⟩, (Below.setCell (Below.setCell (Below.setCell (Below.setCell (Below.setCell hbT (p := ⟨w.heap.size, 0, none⟩) (by show w.heap.size ≤ w.heap.size; omega) (.int .i64 a0)) (p := ⟨w.heap.size, 1, none⟩) (by show w.heap.size ≤ w.heap.size; omega) (.int .i64 a1)) (p := ⟨w.heap.size, 2, none⟩) (by show w.heap.size ≤ w.heap.size; omega) (.int .i64 0)) (p := ⟨w.heap.size, 3, none⟩) (by show w.heap.size ≤ w.heap.size; omega) (.slice none 0 0)) (p := ⟨w.heap.size, 4, none⟩) (by show w.heap.size ≤ w.heap.size; omega) (.slice none 0 0))⟩
set_option maxRecDepth 100000 in
set_option maxHeartbeats 1600000 in
theorem impl (a0 a1 : Int) (w : World) : Calls Try.prog 13 #[.int .i64 a0, .int .i64 a1] w (Post a0 a1 w) := by
  obtain ⟨W0, hW⟩ : ∃ W : World, W = (w.alloc (Obj.cells #[.int .i64 0, .int .i64 0, .int .i64 0, .slice none 0 0, .slice none 0 0] 25)).alloc (Obj.cells #[.int .i64 a0, .int .i64 a1, .int .i64 0, .slice none 0 0, .slice none 0 0] 25) := ⟨_, rfl⟩
  have hbT : Below w.heap.size w W0 := by rw [hW]; exact ((Below.refl _ _).alloc (Nat.le_refl _) _).alloc (by simp) _
  have BR := Lib.hid (show Bx W0 w.heap.size 25 #[.int .i64 0, .int .i64 0, .int .i64 0, .slice none 0 0, .slice none 0 0] by rw [hW]; exact (Bx.new _ _ _).alloc _)
  have B0 := Lib.hid (show Bx W0 (w.heap.size + 1) 25 #[.int .i64 a0, .int .i64 a1, .int .i64 0, .slice none 0 0, .slice none 0 0] by rw [hW]; have := Bx.new (w.alloc (Obj.cells #[.int .i64 0, .int .i64 0, .int .i64 0, .slice none 0 0, .slice none 0 0] 25)) 25 #[.int .i64 a0, .int .i64 a1, .int .i64 0, .slice none 0 0, .slice none 0 0]; simpa using this)
  have HC := Lib.hid (FlV.isValid (.agg #[.int .i64 a0, .int .i64 a1, .int .i64 0, .slice none 0 0, .slice none 0 0]) ⟨a0, a1, 0, [], []⟩ W0 (LFloor.IsQ.is ⟨_, _, rfl, .inl ⟨rfl, rfl⟩, .inl ⟨rfl, rfl⟩⟩))
  have q0 := B0.out.cell 0
  have q1 := B0.out.cell 1
  have q2 := B0.out.cell 2
  have q3 := B0.out.cell 3
  have q4 := B0.out.cell 4
  simp only [List.getElem?_toArray, List.getElem?_cons_zero, List.getElem?_cons_succ] at q0 q1 q2 q3 q4
  go_enter Try.func13, Try.ntmps13
  go_upto_region 2 with fail
  rw [← hW]
  clear hW
  go_wp2_with fail
  refine HC.out.mono ?_
  rintro e w1 ⟨rfl, hb1⟩
  replace BR := Lib.hid (BR.out.kept hb1)
  replace B0 := Lib.hid (B0.out.kept hb1)
  replace hbT := hbT.trans (hb1.mono hbT.size)
  clear hb1 q0 q1 q2 q3 q4
  cases hg : good ⟨a0, a1, 0, [], []⟩ with
  | false =>
    have HA := Lib.hid (show Ans a0 a1 zeroF false by unfold Ans; rw [hg]; rfl)
    clear hg
    have BR5 := BR.out
    have r0 := BR5.cell 0
    have r1 := BR5.cell 1
    have r2 := BR5.cell 2
    have r3 := BR5.cell 3
    have r4 := BR5.cell 4
    simp only [List.getElem?_toArray, List.getElem?_cons_zero, List.getElem?_cons_succ] at r0 r1 r2 r3 r4
    have z0 := BR5.frozen 0
    have z1 := BR5.frozen 1
    have z2 := BR5.frozen 2
    have z3 := BR5.frozen 3
    have z4 := BR5.frozen 4
    have hRF := (Bx.set_ (Bx.set_ (Bx.set_ (Bx.set_ (Bx.set_ BR5 0 (.int .i64 0)) 1 (.int .i64 0)) 2 (.int .i64 0)) 3 (.slice none 0 0)) 4 (.slice none 0 0))
    have c0 := hRF.cell 0
    have c1 := hRF.cell 1
    have c2 := hRF.cell 2
    have c3 := hRF.cell 3
    have c4 := hRF.cell 4
    simp at c0 c1 c2 c3 c4
    clear hRF
    go_wp2_with fail
    refine bodyPost_ret (v := .tuple #[.agg #[.int .i64 0, .int .i64 0, .int .i64 0, .slice none 0 0, .slice none 0 0], .bool false]) (by simp [results, Try.results13, go_sem, c0, c1, c2, c3, c4]) rfl ?_
    exact ⟨_, zeroF, false, rfl, HA.out, LFloor.Own.zero, (Below.setCell (Below.setCell (Below.setCell (Below.setCell (Below.setCell hbT (p := ⟨w.heap.size, 0, none⟩) (by show w.heap.size ≤ w.heap.size; omega) (.int .i64 0)) (p := ⟨w.heap.size, 1, none⟩) (by show w.heap.size ≤ w.heap.size; omega) (.int .i64 0)) (p := ⟨w.heap.size, 2, none⟩) (by show w.heap.size ≤ w.heap.size; omega) (.int .i64 0)) (p := ⟨w.heap.size, 3, none⟩) (by show w.heap.size ≤ w.heap.size; omega) (.slice none 0 0)) (p := ⟨w.heap.size, 4, none⟩) (by show w.heap.size ≤ w.heap.size; omega) (.slice none 0 0))⟩
  | true =>
    have HA := Lib.hid (show Ans a0 a1 ⟨a0, a1, 0, [], []⟩ true by unfold Ans; rw [hg]; rfl)
    clear hg
    have BR5 := BR.out
    have BO5 := B0.out
    have y0 := BO5.cell 0
    have y1 := BO5.cell 1
    have y2 := BO5.cell 2
    have y3 := BO5.cell 3
    have y4 := BO5.cell 4
    simp only [List.getElem?_toArray, List.getElem?_cons_zero, List.getElem?_cons_succ] at y0 y1 y2 y3 y4
    have r0 := BR5.cell 0
    have r1 := BR5.cell 1
    have r2 := BR5.cell 2
    have r3 := BR5.cell 3
    have r4 := BR5.cell 4
    simp only [List.getElem?_toArray, List.getElem?_cons_zero, List.getElem?_cons_succ] at r0 r1 r2 r3 r4
    have z0 := BR5.frozen 0
    have z1 := BR5.frozen 1
    have z2 := BR5.frozen 2
    have z3 := BR5.frozen 3
    have z4 := BR5.frozen 4
    have hRF := (Bx.set_ (Bx.set_ (Bx.set_ (Bx.set_ (Bx.set_ BR5 0 (.int .i64 a0)) 1 (.int .i64 a1)) 2 (.int .i64 0)) 3 (.slice none 0 0)) 4 (.slice none 0 0))
    have c0 := hRF.cell 0
    have c1 := hRF.cell 1
    have c2 := hRF.cell 2
    have c3 := hRF.cell 3
    have c4 := hRF.cell 4
    simp at c0 c1 c2 c3 c4
    clear hRF
    go_wp2_with fail
    refine bodyPost_ret (v := .tuple #[.agg #[.int .i64 a0, .int .i64 a1, .int .i64 0, .slice none 0 0, .slice none 0 0], .bool true]) (by simp [results, Try.results13, go_sem, c0, c1, c2, c3, c4]) rfl ?_
    exact ⟨_, _, true, rfl, HA.out, ⟨_, _, rfl, Bs.Own.nil, Bs.Own.nil, dist_none⟩, (Below.setCell (Below.setCell (Below.setCell (Below.setCell (Below.setCell hbT (p := ⟨w.heap.size, 0, none⟩) (by show w.heap.size ≤ w.heap.size; omega) (.int .i64 a0)) (p := ⟨w.heap.size, 1, none⟩) (by show w.heap.size ≤ w.heap.size; omega) (.int .i64 a1)) (p := ⟨w.heap.size, 2, none⟩) (by show w.heap.size ≤ w.heap.size; omega) (.int .i64 0)) (p := ⟨w.heap.size, 3, none⟩) (by show w.heap.size ≤ w.heap.size; omega) (.slice none 0 0)) (p := ⟨w.heap.size, 4, none⟩) (by show w.heap.size ≤ w.heap.size; omega) (.slice none 0 0))⟩
end Go.Proofs.Ytjphhcmhangkkaa.NewFloorC
