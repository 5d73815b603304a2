/- Floors: a turn finished, in the model. No condition. -/
import Derived.Test.YtmbffcblhhippaaFlY
namespace Go.Proofs.Ytmbffcblhhippaa.FlZ
open Go.RowKit Bs Word Sq IntF Fl FlA FlG FlO FlW FlY
set_option linter.unusedVariables false
set_option maxRecDepth 100000 in
set_option maxHeartbeats 1600000 in
theorem l8Yield (v0 : Value) (r : F) (w : World) (h0 : LFloor.IsQ w v0 r) (hl3 : r.waiting.length ≤ 1048577) (hl4 : r.shares.length ≤ 1048577) (ht : -1000 ≤ (share r.shares r.speaking).turns ∧ (share r.shares r.speaking).turns ≤ 1000) :
    Calls Try.prog 51 #[v0] w fun e w' => ∃ v, e = .returned v ∧ LFloor.Own w' w.heap.size v (yld r) ∧ Below w.heap.size w w' := by
  obtain ⟨a3, n3, c3, a4, n4, c4, rfl, HN3, HN4, hb3, hb4, hm3, hm4, HQ3, HQ4, HIQ⟩ := open_isq h0
  clear h0
  have HI := Lib.hid (LFloor.IsQ.is HIQ.out)
  obtain ⟨W0, hW⟩ : ∃ W : World, W = (w.alloc (Obj.cells #[.int .i64 r.turns, .int .i64 r.seconds, .int .i64 r.speaking, .slice a3 n3 c3, .slice a4 n4 c4] 29)).alloc (Obj.cells #[.int .i64 0, .int .i64 0, .int .i64 0, .slice none 0 0, .slice none 0 0] 29) := ⟨_, rfl⟩
  have hbW : Below w.heap.size w W0 := by rw [hW]; exact ((Below.refl _ _).alloc (Nat.le_refl _) _).alloc (by simp) _
  have HZ := Lib.hid (show w.heap.size + 1 < W0.heap.size by rw [hW]; simp)
  have B0 := Lib.hid (show Bx W0 w.heap.size 29 #[.int .i64 r.turns, .int .i64 r.seconds, .int .i64 r.speaking, .slice a3 n3 c3, .slice a4 n4 c4] by rw [hW]; exact (Bx.new _ _ _).alloc _)
  have BR := Lib.hid (show Bx W0 (w.heap.size + 1) 29 #[.int .i64 0, .int .i64 0, .int .i64 0, .slice none 0 0, .slice none 0 0] by rw [hW]; have := Bx.new (w.alloc (Obj.cells #[.int .i64 r.turns, .int .i64 r.seconds, .int .i64 r.speaking, .slice a3 n3 c3, .slice a4 n4 c4] 29)) 29 #[.int .i64 0, .int .i64 0, .int .i64 0, .slice none 0 0, .slice none 0 0]; simpa using this)
  obtain ⟨X, hX⟩ : ∃ X, X = share r.shares r.speaking := ⟨_, rfl⟩
  have HC := l8Share _ r r.speaking W0 (LFloor.Is.below HI.out hbW)
  rw [← hX] at HC ht
  have HC := Lib.hid HC
  have HY := Lib.hid (show yld r = fin r X by unfold yld; rw [hX])
  have HL := Lib.hid (And.intro hl3 hl4)
  clear hX hl3 hl4
  have s1 : IntKind.i64.wrap (X.turns + 1) = X.turns + 1 := IntWalk.i64_in _ (by omega)
  go_enter Try.func51, Try.ntmps51
  go_wp2_with fail
  rw [← hW]
  clear hW
  refine HC.out.mono ?_
  rintro e w1 ⟨rfl, hb1⟩
  obtain ⟨G, hG⟩ : ∃ G, G = w1.heap.size := ⟨_, rfl⟩
  obtain ⟨wa, hwa⟩ : ∃ wa : World, wa = w1.alloc (Obj.cells #[.int .i64 X.member, .int .i64 X.turns, .int .i64 X.seconds] 60) := ⟨_, rfl⟩
  have hba : Below w1.heap.size w1 wa := by rw [hwa]; exact (Below.refl _ _).alloc (Nat.le_refl _) _
  have BX := Lib.hid (show Bx wa G 60 #[.int .i64 X.member, .int .i64 X.turns, .int .i64 X.seconds] by rw [hwa, hG]; exact Bx.new _ _ _)
  have HGG := Lib.hid (show w.heap.size + 1 < G by have h1 := HZ.out; have h2 := hb1.size; omega)
  have hb2 := hb1.trans (hba.mono hb1.size)
  replace B0 := Lib.hid (B0.out.kept hb2)
  replace BR := Lib.hid (BR.out.kept hb2)
  have hbT := hbW.trans (hb2.mono hbW.size)
  clear hb1 hb2 hba hbW HC
  go_upto_region 2 with fail
  rw [← hwa, ← hG]
  clear hwa hG
  have x0 := BX.out.cell 0
  have x1 := BX.out.cell 1
  have x2 := BX.out.cell 2
  simp only [List.getElem?_toArray, List.getElem?_cons_zero, List.getElem?_cons_succ] at x0 x1 x2
  have f1 := BX.out.frozen 1
  obtain ⟨wb, hwb⟩ : ∃ wb : World, wb = wa.setCell ⟨G, 1, none⟩ (.int .i64 (X.turns + 1)) := ⟨_, rfl⟩
  replace B0 := Lib.hid (show Bx wb w.heap.size _ _ by rw [hwb]; exact B0.out.far (p := ⟨G, 1, none⟩) (show w.heap.size ≠ G by have := HGG.out; omega) _)
  replace BR := Lib.hid (show Bx wb (w.heap.size + 1) _ _ by rw [hwb]; exact BR.out.far (p := ⟨G, 1, none⟩) (show w.heap.size + 1 ≠ G by have := HGG.out; omega) _)
  have BX2 := Lib.hid (show Bx wb G 60 #[.int .i64 X.member, .int .i64 (X.turns + 1), .int .i64 X.seconds] by rw [hwb]; exact BX.out.set_ 1 (.int .i64 (X.turns + 1)))
  replace hbT : Below w.heap.size w wb := by rw [hwb]; exact hbT.setCell (p := ⟨G, 1, none⟩) (by show w.heap.size ≤ G; have := HGG.out; omega) _
  go_upto_region 3 with fail
  rw [← hwb]
  clear hwb BX x0 x1 x2 f1
  have x0 := BX2.out.cell 0
  have x1 := BX2.out.cell 1
  have x2 := BX2.out.cell 2
  simp only [List.getElem?_toArray, List.getElem?_cons_zero, List.getElem?_cons_succ] at x0 x1 x2
  have q0 := B0.out.cell 0
  have q1 := B0.out.cell 1
  have q2 := B0.out.cell 2
  have q3 := B0.out.cell 3
  have q4 := B0.out.cell 4
  simp only [List.getElem?_toArray, List.getElem?_cons_zero, List.getElem?_cons_succ] at q0 q1 q2 q3 q4
  have HC2 := Lib.hid (l8With _ r { X with turns := X.turns + 1 } wb (LFloor.IsQ.below HIQ.out hbT) HL.out.1 HL.out.2)
  go_wp2_with fail
  refine HC2.out.mono ?_
  rintro e w2 ⟨v, rfl, hO, hb1⟩
  obtain ⟨s3, s4, rfl, o3, o4, d34⟩ := hO
  obtain ⟨b3, m3, d3, rfl⟩ := own_slice o3
  obtain ⟨b4, m4, d4, rfl⟩ := own_slice o4
  dsimp only [withS]
  obtain ⟨O, hO⟩ : ∃ O, O = w2.heap.size := ⟨_, rfl⟩
  obtain ⟨wc, hwc⟩ : ∃ wc : World, wc = w2.alloc (Obj.cells #[.int .i64 r.turns, .int .i64 r.seconds, .int .i64 r.speaking, .slice b3 m3 d3, .slice b4 m4 d4] 29) := ⟨_, rfl⟩
  have hba : Below w2.heap.size w2 wc := by rw [hwc]; exact (Below.refl _ _).alloc (Nat.le_refl _) _
  have BO := Lib.hid (show Bx wc O 29 #[.int .i64 r.turns, .int .i64 r.seconds, .int .i64 r.speaking, .slice b3 m3 d3, .slice b4 m4 d4] by rw [hwc, hO]; exact Bx.new _ _ _)
  have hb2 := hb1.trans (hba.mono hb1.size)
  replace BR := Lib.hid (BR.out.kept hb2)
  have HN := Lib.hid (show (∀ k, (Value.slice b3 m3 d3).ownBlock = some k → k ≠ O) ∧ ∀ k, (Value.slice b4 m4 d4).ownBlock = some k → k ≠ O from ⟨fun k hk => by have := (o3.lt k hk).2; omega, fun k hk => by have := (o4.lt k hk).2; omega⟩)
  have HO3 := Lib.hid (o3.kept hba)
  have HO4 := Lib.hid (o4.kept hba)
  have HZB := Lib.hid (show w.heap.size + 1 < wb.heap.size by have h1 := HGG.out; have h2 := BX2.out.lt; omega)
  have HOO := Lib.hid (show w.heap.size + 1 < O by have h1 := HZB.out; have h2 := hb1.size; omega)
  have HD := Lib.hid d34
  replace hbT := hbT.trans (hb2.mono hbT.size)
  clear hb1 hb2 hba o3 o4 d34 HC2 x0 x1 x2 q0 q1 q2 q3 q4
  go_upto_region 4 with fail
  rw [← hwc, ← hO]
  clear hwc hO
  have f2 := BO.out.frozen 2
  have g2 := BO.out.cell 2
  simp only [List.getElem?_toArray, List.getElem?_cons_zero, List.getElem?_cons_succ] at g2
  obtain ⟨wd, hwd⟩ : ∃ wd : World, wd = wc.setCell ⟨O, 2, none⟩ (.int .i64 0) := ⟨_, rfl⟩
  have BR5 := show Bx wd (w.heap.size + 1) _ _ by rw [hwd]; exact BR.out.far (p := ⟨O, 2, none⟩) (show w.heap.size + 1 ≠ O by have := HOO.out; omega) _
  have BO5 := show Bx wd O 29 #[.int .i64 r.turns, .int .i64 r.seconds, .int .i64 0, .slice b3 m3 d3, .slice b4 m4 d4] by rw [hwd]; exact BO.out.set_ 2 (.int .i64 0)
  have p3 := show Bs.Own _ _ wd _ _ _ by rw [hwd]; exact own_set HO3.out (p := ⟨O, 2, none⟩) HN.out.1 (.int .i64 0)
  have p4 := show Bs.Own _ _ wd _ _ _ by rw [hwd]; exact own_set HO4.out (p := ⟨O, 2, none⟩) HN.out.2 (.int .i64 0)
  replace hbT : Below w.heap.size w wd := by rw [hwd]; exact hbT.setCell (p := ⟨O, 2, none⟩) (by show w.heap.size ≤ O; have := HOO.out; omega) _
  go_upto_region 5 with fail
  rw [← hwd]
  clear hwd f2 g2
  have hzb := HZB.out
  have y0 := BO5.cell 0
  have y1 := BO5.cell 1
  have y2 := BO5.cell 2
  have y3 := BO5.cell 3
  have y4 := BO5.cell 4
  simp only [List.getElem?_toArray, List.getElem?_cons_zero, List.getElem?_cons_succ] at y0 y1 y2 y3 y4
  have r0 := BR5.cell 0
  have r1 := BR5.cell 1
  have r2 := BR5.cell 2
  have r3 := BR5.cell 3
  have r4 := BR5.cell 4
  simp only [List.getElem?_toArray, List.getElem?_cons_zero, List.getElem?_cons_succ] at r0 r1 r2 r3 r4
  have z0 := BR5.frozen 0
  have z1 := BR5.frozen 1
  have z2 := BR5.frozen 2
  have z3 := BR5.frozen 3
  have z4 := BR5.frozen 4
  have hRF := (Bx.set_ (Bx.set_ (Bx.set_ (Bx.set_ (Bx.set_ BR5 0 (.int .i64 r.turns)) 1 (.int .i64 r.seconds)) 2 (.int .i64 0)) 3 (.slice b3 m3 d3)) 4 (.slice b4 m4 d4))
  have c0 := hRF.cell 0
  have c1 := hRF.cell 1
  have c2 := hRF.cell 2
  have c3 := hRF.cell 3
  have c4 := hRF.cell 4
  simp at c0 c1 c2 c3 c4
  clear hRF
  go_wp2_with fail
  refine bodyPost_ret (v := .agg #[.int .i64 r.turns, .int .i64 r.seconds, .int .i64 0, .slice b3 m3 d3, .slice b4 m4 d4]) (by simp [results, Try.results51, go_sem, c0, c1, c2, c3, c4]) rfl ?_
  rw [HY.out]
  exact ⟨_, rfl, ⟨_, _, rfl, ((own_set (own_set (own_set (own_set (own_set p3 (p := ⟨w.heap.size + 1, 0, none⟩) (fun k hk => by have h2 := (p3.lt k hk).1; show k ≠ w.heap.size + 1; omega) (.int .i64 r.turns)) (p := ⟨w.heap.size + 1, 1, none⟩) (fun k hk => by have h2 := (p3.lt k hk).1; show k ≠ w.heap.size + 1; omega) (.int .i64 r.seconds)) (p := ⟨w.heap.size + 1, 2, none⟩) (fun k hk => by have h2 := (p3.lt k hk).1; show k ≠ w.heap.size + 1; omega) (.int .i64 0)) (p := ⟨w.heap.size + 1, 3, none⟩) (fun k hk => by have h2 := (p3.lt k hk).1; show k ≠ w.heap.size + 1; omega) (.slice b3 m3 d3)) (p := ⟨w.heap.size + 1, 4, none⟩) (fun k hk => by have h2 := (p3.lt k hk).1; show k ≠ w.heap.size + 1; omega) (.slice b4 m4 d4))).low (by omega), ((own_set (own_set (own_set (own_set (own_set p4 (p := ⟨w.heap.size + 1, 0, none⟩) (fun k hk => by have h2 := (p4.lt k hk).1; show k ≠ w.heap.size + 1; omega) (.int .i64 r.turns)) (p := ⟨w.heap.size + 1, 1, none⟩) (fun k hk => by have h2 := (p4.lt k hk).1; show k ≠ w.heap.size + 1; omega) (.int .i64 r.seconds)) (p := ⟨w.heap.size + 1, 2, none⟩) (fun k hk => by have h2 := (p4.lt k hk).1; show k ≠ w.heap.size + 1; omega) (.int .i64 0)) (p := ⟨w.heap.size + 1, 3, none⟩) (fun k hk => by have h2 := (p4.lt k hk).1; show k ≠ w.heap.size + 1; omega) (.slice b3 m3 d3)) (p := ⟨w.heap.size + 1, 4, none⟩) (fun k hk => by have h2 := (p4.lt k hk).1; show k ≠ w.heap.size + 1; omega) (.slice b4 m4 d4))).low (by omega), HD.out⟩, (Below.setCell (Below.setCell (Below.setCell (Below.setCell (Below.setCell hbT (p := ⟨w.heap.size + 1, 0, none⟩) (by show w.heap.size ≤ w.heap.size + 1; omega) (.int .i64 r.turns)) (p := ⟨w.heap.size + 1, 1, none⟩) (by show w.heap.size ≤ w.heap.size + 1; omega) (.int .i64 r.seconds)) (p := ⟨w.heap.size + 1, 2, none⟩) (by show w.heap.size ≤ w.heap.size + 1; omega) (.int .i64 0)) (p := ⟨w.heap.size + 1, 3, none⟩) (by show w.heap.size ≤ w.heap.size + 1; omega) (.slice b3 m3 d3)) (p := ⟨w.heap.size + 1, 4, none⟩) (by show w.heap.size ≤ w.heap.size + 1; omega) (.slice b4 m4 d4))⟩
end Go.Proofs.Ytmbffcblhhippaa.FlZ
