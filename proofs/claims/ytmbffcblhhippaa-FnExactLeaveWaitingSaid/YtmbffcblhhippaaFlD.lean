/- Floors: a turn finished, one who waits left out, by the program. No condition. -/
import Derived.Test.YtmbffcblhhippaaFlQ
import Derived.Test.YtmbffcblhhippaaLIntDelDrop
import Derived.Test.YtmbffcblhhippaaLIntSortTurns
namespace Go.Proofs.Ytmbffcblhhippaa.FlD
open Go.RowKit Bs Word Sq IntF Fl FlA FlG FlO FlB FlP FlQ
set_option linter.unusedVariables false
set_option maxRecDepth 100000 in
set_option maxHeartbeats 1600000 in
theorem finishTurn (v0 : Value) (r : F) (s : S) (w : World) (h0 : LFloor.IsQ w v0 r) (hs : ShP r) (hl3 : r.waiting.length ≤ 1048577) (ht : -1000 ≤ s.turns ∧ s.turns ≤ 1000) :
    Calls Try.prog 53 #[v0, .agg #[.int .i64 s.member, .int .i64 s.turns, .int .i64 s.seconds]] w fun e w' => ∃ v, e = .returned v ∧ LFloor.Own w' w.heap.size v (fin r s) ∧ Below w.heap.size w w' := by
  obtain ⟨a3, n3, c3, a4, n4, c4, rfl, HN3, HN4, hb3, hb4, hm3, hm4, HQ3, HQ4, HIQ⟩ := open_isq h0
  clear h0
  have HI := Lib.hid (LFloor.IsQ.is HIQ.out)
  obtain ⟨W0, hW⟩ : ∃ W : World, W = ((w.alloc (Obj.cells #[.int .i64 r.turns, .int .i64 r.seconds, .int .i64 r.speaking, .slice a3 n3 c3, .slice a4 n4 c4] 29)).alloc (Obj.cells #[.int .i64 s.member, .int .i64 s.turns, .int .i64 s.seconds] 60)).alloc (Obj.cells #[.int .i64 0, .int .i64 0, .int .i64 0, .slice none 0 0, .slice none 0 0] 29) := ⟨_, rfl⟩
  have hbT : Below w.heap.size w W0 := by rw [hW]; exact (((Below.refl _ _).alloc (Nat.le_refl _) _).alloc (by simp) _).alloc (by simp; omega) _
  have HZ := Lib.hid (show W0.heap.size = w.heap.size + 3 by rw [hW]; simp)
  have B0 := Lib.hid (show Bx W0 w.heap.size 29 #[.int .i64 r.turns, .int .i64 r.seconds, .int .i64 r.speaking, .slice a3 n3 c3, .slice a4 n4 c4] by rw [hW]; exact ((Bx.new _ _ _).alloc _).alloc _)
  have B1 := Lib.hid (show Bx W0 (w.heap.size + 1) 60 #[.int .i64 s.member, .int .i64 s.turns, .int .i64 s.seconds] by rw [hW]; have := (Bx.new (w.alloc (Obj.cells #[.int .i64 r.turns, .int .i64 r.seconds, .int .i64 r.speaking, .slice a3 n3 c3, .slice a4 n4 c4] 29)) 60 #[.int .i64 s.member, .int .i64 s.turns, .int .i64 s.seconds]).alloc (Obj.cells #[.int .i64 0, .int .i64 0, .int .i64 0, .slice none 0 0, .slice none 0 0] 29); simpa using this)
  have BR := Lib.hid (show Bx W0 (w.heap.size + 2) 29 #[.int .i64 0, .int .i64 0, .int .i64 0, .slice none 0 0, .slice none 0 0] by rw [hW]; have := Bx.new ((w.alloc (Obj.cells #[.int .i64 r.turns, .int .i64 r.seconds, .int .i64 r.speaking, .slice a3 n3 c3, .slice a4 n4 c4] 29)).alloc (Obj.cells #[.int .i64 s.member, .int .i64 s.turns, .int .i64 s.seconds] 60)) 29 #[.int .i64 0, .int .i64 0, .int .i64 0, .slice none 0 0, .slice none 0 0]; simpa using this)
  have s1 : IntKind.i64.wrap (s.turns + 1) = s.turns + 1 := IntWalk.i64_in _ (by omega)
  have y0 := B1.out.cell 0
  have y1 := B1.out.cell 1
  have y2 := B1.out.cell 2
  simp only [List.getElem?_toArray, List.getElem?_cons_zero, List.getElem?_cons_succ] at y0 y1 y2
  have f1 := B1.out.frozen 1
  obtain ⟨wa, hwa⟩ : ∃ wa : World, wa = W0.setCell ⟨w.heap.size + 1, 1, none⟩ (.int .i64 (s.turns + 1)) := ⟨_, rfl⟩
  have B0a := Lib.hid (show Bx wa w.heap.size _ _ by rw [hwa]; exact B0.out.far (p := ⟨w.heap.size + 1, 1, none⟩) (show w.heap.size ≠ w.heap.size + 1 by omega) _)
  have BRa := Lib.hid (show Bx wa (w.heap.size + 2) _ _ by rw [hwa]; exact BR.out.far (p := ⟨w.heap.size + 1, 1, none⟩) (show w.heap.size + 2 ≠ w.heap.size + 1 by omega) _)
  have B1a := Lib.hid (show Bx wa (w.heap.size + 1) 60 #[.int .i64 s.member, .int .i64 (s.turns + 1), .int .i64 s.seconds] by rw [hwa]; exact B1.out.set_ 1 (.int .i64 (s.turns + 1)))
  have hba : Below w.heap.size w wa := by rw [hwa]; exact hbT.setCell (p := ⟨w.heap.size + 1, 1, none⟩) (by show w.heap.size ≤ w.heap.size + 1; omega) _
  have HZa := Lib.hid (show wa.heap.size = w.heap.size + 3 by rw [hwa]; simpa using HZ.out)
  go_enter Try.func53, Try.ntmps53
  go_upto_region 1 with fail
  rw [← hW]
  clear hW
  go_upto_region 2 with fail
  rw [← hwa]
  (try rw [show w.heap.size + 1 + 1 = w.heap.size + 2 from rfl])
  clear hwa y0 y1 y2 f1 B0 B1 BR hbT
  have f2 := B0a.out.frozen 2
  have t2 := B0a.out.cell 2
  simp only [List.getElem?_toArray, List.getElem?_cons_zero, List.getElem?_cons_succ] at t2
  obtain ⟨wb, hwb⟩ : ∃ wb : World, wb = wa.setCell ⟨w.heap.size, 2, none⟩ (.int .i64 0) := ⟨_, rfl⟩
  have B0 := Lib.hid (show Bx wb w.heap.size 29 #[.int .i64 r.turns, .int .i64 r.seconds, .int .i64 0, .slice a3 n3 c3, .slice a4 n4 c4] by rw [hwb]; exact B0a.out.set_ 2 (.int .i64 0))
  have BR := Lib.hid (show Bx wb (w.heap.size + 2) _ _ by rw [hwb]; exact BRa.out.far (p := ⟨w.heap.size, 2, none⟩) (show w.heap.size + 2 ≠ w.heap.size by omega) _)
  have B1 := Lib.hid (show Bx wb (w.heap.size + 1) _ _ by rw [hwb]; exact B1a.out.far (p := ⟨w.heap.size, 2, none⟩) (show w.heap.size + 1 ≠ w.heap.size by omega) _)
  have hbT : Below w.heap.size w wb := by rw [hwb]; exact hba.setCell (p := ⟨w.heap.size, 2, none⟩) (Nat.le_refl _) _
  have HZb := Lib.hid (show wb.heap.size = w.heap.size + 3 by rw [hwb]; simpa using HZa.out)
  clear B0a BRa B1a hba
  have HQ : LFloor.IsQ wb (.agg #[.int .i64 r.turns, .int .i64 r.seconds, .int .i64 0, .slice a3 n3 c3, .slice a4 n4 c4]) { r with speaking := 0 } := ⟨_, _, rfl, HQ3.out _ hbT, HQ4.out _ hbT⟩
  have HC := Lib.hid (putShare _ { r with speaking := 0 } { s with turns := s.turns + 1 } wb HQ (fun i => hs i) hl3)
  clear hs hl3 HQ
  go_upto_region 3 with fail
  rw [← hwb]
  (try rw [show w.heap.size + 1 + 1 = w.heap.size + 2 from rfl])
  clear hwb f2 t2
  have q0 := B0.out.cell 0
  have q1 := B0.out.cell 1
  have q2 := B0.out.cell 2
  have q3 := B0.out.cell 3
  have q4 := B0.out.cell 4
  simp only [List.getElem?_toArray, List.getElem?_cons_zero, List.getElem?_cons_succ] at q0 q1 q2 q3 q4
  have y0 := B1.out.cell 0
  have y1 := B1.out.cell 1
  have y2 := B1.out.cell 2
  simp only [List.getElem?_toArray, List.getElem?_cons_zero, List.getElem?_cons_succ] at y0 y1 y2
  go_wp2_with fail
  refine HC.out.mono ?_
  rintro e w2 ⟨v, rfl, hO, hb1⟩
  obtain ⟨u3, u4, rfl, o3, o4, d34⟩ := hO
  obtain ⟨b3, m3, d3, rfl⟩ := own_slice o3
  obtain ⟨b4, m4, d4, rfl⟩ := own_slice o4
  dsimp only [withS]
  have BR5 := BR.out.kept hb1
  have p3 := o3
  have p4 := o4
  have hzb := HZb.out
  replace hbT := hbT.trans (hb1.mono hbT.size)
  clear q0 q1 q2 q3 q4 y0 y1 y2
  have r0 := BR5.cell 0
  have r1 := BR5.cell 1
  have r2 := BR5.cell 2
  have r3 := BR5.cell 3
  have r4 := BR5.cell 4
  simp only [List.getElem?_toArray, List.getElem?_cons_zero, List.getElem?_cons_succ] at r0 r1 r2 r3 r4
  have z0 := BR5.frozen 0
  have z1 := BR5.frozen 1
  have z2 := BR5.frozen 2
  have z3 := BR5.frozen 3
  have z4 := BR5.frozen 4
  have hRF := (Bx.set_ (Bx.set_ (Bx.set_ (Bx.set_ (Bx.set_ BR5 0 (.int .i64 r.turns)) 1 (.int .i64 r.seconds)) 2 (.int .i64 0)) 3 (.slice b3 m3 d3)) 4 (.slice b4 m4 d4))
  have c0 := hRF.cell 0
  have c1 := hRF.cell 1
  have c2 := hRF.cell 2
  have c3 := hRF.cell 3
  have c4 := hRF.cell 4
  simp at c0 c1 c2 c3 c4
  clear hRF
  go_wp2_with fail
  refine bodyPost_ret (v := .agg #[.int .i64 r.turns, .int .i64 r.seconds, .int .i64 0, .slice b3 m3 d3, .slice b4 m4 d4]) (by simp [results, Try.results53, go_sem, c0, c1, c2, c3, c4]) rfl ?_
  exact ⟨_, rfl, ⟨_, _, rfl, ((own_set (own_set (own_set (own_set (own_set p3 (p := ⟨w.heap.size + 2, 0, none⟩) (fun k hk => by have h2 := (p3.lt k hk).1; show k ≠ w.heap.size + 2; omega) (.int .i64 r.turns)) (p := ⟨w.heap.size + 2, 1, none⟩) (fun k hk => by have h2 := (p3.lt k hk).1; show k ≠ w.heap.size + 2; omega) (.int .i64 r.seconds)) (p := ⟨w.heap.size + 2, 2, none⟩) (fun k hk => by have h2 := (p3.lt k hk).1; show k ≠ w.heap.size + 2; omega) (.int .i64 0)) (p := ⟨w.heap.size + 2, 3, none⟩) (fun k hk => by have h2 := (p3.lt k hk).1; show k ≠ w.heap.size + 2; omega) (.slice b3 m3 d3)) (p := ⟨w.heap.size + 2, 4, none⟩) (fun k hk => by have h2 := (p3.lt k hk).1; show k ≠ w.heap.size + 2; omega) (.slice b4 m4 d4))).low (by omega), ((own_set (own_set (own_set (own_set (own_set p4 (p := ⟨w.heap.size + 2, 0, none⟩) (fun k hk => by have h2 := (p4.lt k hk).1; show k ≠ w.heap.size + 2; omega) (.int .i64 r.turns)) (p := ⟨w.heap.size + 2, 1, none⟩) (fun k hk => by have h2 := (p4.lt k hk).1; show k ≠ w.heap.size + 2; omega) (.int .i64 r.seconds)) (p := ⟨w.heap.size + 2, 2, none⟩) (fun k hk => by have h2 := (p4.lt k hk).1; show k ≠ w.heap.size + 2; omega) (.int .i64 0)) (p := ⟨w.heap.size + 2, 3, none⟩) (fun k hk => by have h2 := (p4.lt k hk).1; show k ≠ w.heap.size + 2; omega) (.slice b3 m3 d3)) (p := ⟨w.heap.size + 2, 4, none⟩) (fun k hk => by have h2 := (p4.lt k hk).1; show k ≠ w.heap.size + 2; omega) (.slice b4 m4 d4))).low (by omega), d34⟩, (Below.setCell (Below.setCell (Below.setCell (Below.setCell (Below.setCell hbT (p := ⟨w.heap.size + 2, 0, none⟩) (by show w.heap.size ≤ w.heap.size + 2; omega) (.int .i64 r.turns)) (p := ⟨w.heap.size + 2, 1, none⟩) (by show w.heap.size ≤ w.heap.size + 2; omega) (.int .i64 r.seconds)) (p := ⟨w.heap.size + 2, 2, none⟩) (by show w.heap.size ≤ w.heap.size + 2; omega) (.int .i64 0)) (p := ⟨w.heap.size + 2, 3, none⟩) (by show w.heap.size ≤ w.heap.size + 2; omega) (.slice b3 m3 d3)) (p := ⟨w.heap.size + 2, 4, none⟩) (by show w.heap.size ≤ w.heap.size + 2; omega) (.slice b4 m4 d4))⟩
end Go.Proofs.Ytmbffcblhhippaa.FlD
