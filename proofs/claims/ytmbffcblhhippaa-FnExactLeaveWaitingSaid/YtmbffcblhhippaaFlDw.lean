/- Floors: one who waits left out, by the program. No condition. -/
import Derived.Test.YtmbffcblhhippaaFlD
namespace Go.Proofs.Ytmbffcblhhippaa.FlD
open Go.RowKit Bs Word Sq IntF Fl FlA FlG FlO FlB FlP FlQ
set_option linter.unusedVariables false
set_option maxRecDepth 100000 in
set_option maxHeartbeats 1600000 in
theorem dropWaiting (v0 : Value) (r : F) (m : Int) (w : World) (h0 : LFloor.IsQ w v0 r) (hl3 : r.waiting.length ≤ 1048577) (hl4 : r.shares.length ≤ 1048577) :
    Calls Try.prog 46 #[v0, .int .i64 m] w fun e w' => ∃ v, e = .returned v ∧ LFloor.Own w' w.heap.size v { r with waiting := LIntDelDrop.kept r.waiting m } ∧ Below w.heap.size w w' := by
  obtain ⟨a3, n3, c3, a4, n4, c4, rfl, HN3, HN4, hb3, hb4, hm3, hm4, HQ3, HQ4, HIQ⟩ := open_isq h0
  clear h0
  have HI := Lib.hid (LFloor.IsQ.is HIQ.out)
  obtain ⟨W0, hW⟩ : ∃ W : World, W = ((w.alloc (Obj.cells #[.int .i64 r.turns, .int .i64 r.seconds, .int .i64 r.speaking, .slice a3 n3 c3, .slice a4 n4 c4] 29)).alloc (Obj.cells #[.int .i64 m] 3)).alloc (Obj.cells #[.int .i64 0, .int .i64 0, .int .i64 0, .slice none 0 0, .slice none 0 0] 29) := ⟨_, rfl⟩
  have hbT : Below w.heap.size w W0 := by rw [hW]; exact (((Below.refl _ _).alloc (Nat.le_refl _) _).alloc (by simp) _).alloc (by simp; omega) _
  have HZ := Lib.hid (show W0.heap.size = w.heap.size + 3 by rw [hW]; simp)
  have B0 := Lib.hid (show Bx W0 w.heap.size 29 #[.int .i64 r.turns, .int .i64 r.seconds, .int .i64 r.speaking, .slice a3 n3 c3, .slice a4 n4 c4] by rw [hW]; exact ((Bx.new _ _ _).alloc _).alloc _)
  have B1 := Lib.hid (show Bx W0 (w.heap.size + 1) 3 #[.int .i64 m] by rw [hW]; have := (Bx.new (w.alloc (Obj.cells #[.int .i64 r.turns, .int .i64 r.seconds, .int .i64 r.speaking, .slice a3 n3 c3, .slice a4 n4 c4] 29)) 3 #[.int .i64 m]).alloc (Obj.cells #[.int .i64 0, .int .i64 0, .int .i64 0, .slice none 0 0, .slice none 0 0] 29); simpa using this)
  have BR := Lib.hid (show Bx W0 (w.heap.size + 2) 29 #[.int .i64 0, .int .i64 0, .int .i64 0, .slice none 0 0, .slice none 0 0] by rw [hW]; have := Bx.new ((w.alloc (Obj.cells #[.int .i64 r.turns, .int .i64 r.seconds, .int .i64 r.speaking, .slice a3 n3 c3, .slice a4 n4 c4] 29)).alloc (Obj.cells #[.int .i64 m] 3)) 29 #[.int .i64 0, .int .i64 0, .int .i64 0, .slice none 0 0, .slice none 0 0]; simpa using this)
  have HC := Lib.hid (copyFloor _ r W0 (LFloor.IsQ.below HIQ.out hbT) hl3 hl4)
  have HL3 := Lib.hid hl3
  clear hl3 hl4
  have q0 := B0.out.cell 0
  have q1 := B0.out.cell 1
  have q2 := B0.out.cell 2
  have q3 := B0.out.cell 3
  have q4 := B0.out.cell 4
  simp only [List.getElem?_toArray, List.getElem?_cons_zero, List.getElem?_cons_succ] at q0 q1 q2 q3 q4
  go_enter Try.func46, Try.ntmps46
  go_wp2_with fail
  rw [← hW]
  clear hW
  refine HC.out.mono ?_
  rintro e w2 ⟨v, rfl, hO, ⟨z0, z1, z2, g3, m3, d3, g4, m4, d4, hmv, hg34⟩, hb1⟩
  obtain ⟨s3, s4, rfl, o3, o4, d34⟩ := hO
  simp only [Value.agg.injEq, Array.mk.injEq, List.cons.injEq, and_true] at hmv
  obtain ⟨rfl, rfl, rfl, rfl, rfl⟩ := hmv
  have HGL := Lib.hid hg34
  clear hg34 q0 q1 q2 q3 q4
  replace B0 := Lib.hid (B0.out.kept hb1)
  replace B1 := Lib.hid (B1.out.kept hb1)
  replace BR := Lib.hid (BR.out.kept hb1)
  have hz1 : w.heap.size + 3 ≤ W0.heap.size := by have := HZ.out; omega
  replace hbT := hbT.trans (hb1.mono hbT.size)
  clear hb1
  have q0 := B0.out.cell 0
  have q1 := B0.out.cell 1
  have q2 := B0.out.cell 2
  have q3 := B0.out.cell 3
  have q4 := B0.out.cell 4
  simp only [List.getElem?_toArray, List.getElem?_cons_zero, List.getElem?_cons_succ] at q0 q1 q2 q3 q4
  have f0 := B0.out.frozen 0
  have f1 := B0.out.frozen 1
  have f2 := B0.out.frozen 2
  have f3 := B0.out.frozen 3
  have f4 := B0.out.frozen 4
  obtain ⟨wa, hwa⟩ : ∃ wa : World, wa = (((((w2.setCell ⟨w.heap.size, 0, none⟩ (.int .i64 r.turns)).setCell ⟨w.heap.size, 1, none⟩ (.int .i64 r.seconds)).setCell ⟨w.heap.size, 2, none⟩ (.int .i64 r.speaking)).setCell ⟨w.heap.size, 3, none⟩ (.slice (some ⟨g3, 0, none⟩) m3 d3)).setCell ⟨w.heap.size, 4, none⟩ (.slice (some ⟨g4, 0, none⟩) m4 d4)) := ⟨_, rfl⟩
  replace B1 := Lib.hid (show Bx wa (w.heap.size + 1) _ _ by rw [hwa]; exact (((((B1.out.far (p := ⟨w.heap.size, 0, none⟩) (show w.heap.size + 1 ≠ w.heap.size by omega) (.int .i64 r.turns)).far (p := ⟨w.heap.size, 1, none⟩) (show w.heap.size + 1 ≠ w.heap.size by omega) (.int .i64 r.seconds)).far (p := ⟨w.heap.size, 2, none⟩) (show w.heap.size + 1 ≠ w.heap.size by omega) (.int .i64 r.speaking)).far (p := ⟨w.heap.size, 3, none⟩) (show w.heap.size + 1 ≠ w.heap.size by omega) (.slice (some ⟨g3, 0, none⟩) m3 d3)).far (p := ⟨w.heap.size, 4, none⟩) (show w.heap.size + 1 ≠ w.heap.size by omega) (.slice (some ⟨g4, 0, none⟩) m4 d4)))
  replace BR := Lib.hid (show Bx wa (w.heap.size + 2) _ _ by rw [hwa]; exact (((((BR.out.far (p := ⟨w.heap.size, 0, none⟩) (show w.heap.size + 2 ≠ w.heap.size by omega) (.int .i64 r.turns)).far (p := ⟨w.heap.size, 1, none⟩) (show w.heap.size + 2 ≠ w.heap.size by omega) (.int .i64 r.seconds)).far (p := ⟨w.heap.size, 2, none⟩) (show w.heap.size + 2 ≠ w.heap.size by omega) (.int .i64 r.speaking)).far (p := ⟨w.heap.size, 3, none⟩) (show w.heap.size + 2 ≠ w.heap.size by omega) (.slice (some ⟨g3, 0, none⟩) m3 d3)).far (p := ⟨w.heap.size, 4, none⟩) (show w.heap.size + 2 ≠ w.heap.size by omega) (.slice (some ⟨g4, 0, none⟩) m4 d4)))
  have HO3 := Lib.hid (show Bs.Own LInt.rec 3 wa W0.heap.size _ _ by rw [hwa]; exact (own_set (own_set (own_set (own_set (own_set o3 (p := ⟨w.heap.size, 0, none⟩) (fun k hk => by have h2 := (o3.lt k hk).1; show k ≠ w.heap.size; omega) (.int .i64 r.turns)) (p := ⟨w.heap.size, 1, none⟩) (fun k hk => by have h2 := (o3.lt k hk).1; show k ≠ w.heap.size; omega) (.int .i64 r.seconds)) (p := ⟨w.heap.size, 2, none⟩) (fun k hk => by have h2 := (o3.lt k hk).1; show k ≠ w.heap.size; omega) (.int .i64 r.speaking)) (p := ⟨w.heap.size, 3, none⟩) (fun k hk => by have h2 := (o3.lt k hk).1; show k ≠ w.heap.size; omega) (.slice (some ⟨g3, 0, none⟩) m3 d3)) (p := ⟨w.heap.size, 4, none⟩) (fun k hk => by have h2 := (o3.lt k hk).1; show k ≠ w.heap.size; omega) (.slice (some ⟨g4, 0, none⟩) m4 d4)))
  have HO4 := Lib.hid (show Bs.Own LShare.rec 60 wa W0.heap.size _ _ by rw [hwa]; exact (own_set (own_set (own_set (own_set (own_set o4 (p := ⟨w.heap.size, 0, none⟩) (fun k hk => by have h2 := (o4.lt k hk).1; show k ≠ w.heap.size; omega) (.int .i64 r.turns)) (p := ⟨w.heap.size, 1, none⟩) (fun k hk => by have h2 := (o4.lt k hk).1; show k ≠ w.heap.size; omega) (.int .i64 r.seconds)) (p := ⟨w.heap.size, 2, none⟩) (fun k hk => by have h2 := (o4.lt k hk).1; show k ≠ w.heap.size; omega) (.int .i64 r.speaking)) (p := ⟨w.heap.size, 3, none⟩) (fun k hk => by have h2 := (o4.lt k hk).1; show k ≠ w.heap.size; omega) (.slice (some ⟨g3, 0, none⟩) m3 d3)) (p := ⟨w.heap.size, 4, none⟩) (fun k hk => by have h2 := (o4.lt k hk).1; show k ≠ w.heap.size; omega) (.slice (some ⟨g4, 0, none⟩) m4 d4)))
  replace hbT : Below w.heap.size w wa := by rw [hwa]; exact (Below.setCell (Below.setCell (Below.setCell (Below.setCell (Below.setCell hbT (p := ⟨w.heap.size, 0, none⟩) (Nat.le_refl _) (.int .i64 r.turns)) (p := ⟨w.heap.size, 1, none⟩) (Nat.le_refl _) (.int .i64 r.seconds)) (p := ⟨w.heap.size, 2, none⟩) (Nat.le_refl _) (.int .i64 r.speaking)) (p := ⟨w.heap.size, 3, none⟩) (Nat.le_refl _) (.slice (some ⟨g3, 0, none⟩) m3 d3)) (p := ⟨w.heap.size, 4, none⟩) (Nat.le_refl _) (.slice (some ⟨g4, 0, none⟩) m4 d4))
  replace B0 := Lib.hid (show Bx wa w.heap.size 29 #[.int .i64 r.turns, .int .i64 r.seconds, .int .i64 r.speaking, .slice (some ⟨g3, 0, none⟩) m3 d3, .slice (some ⟨g4, 0, none⟩) m4 d4] by rw [hwa]; exact (((((B0.out.set_ 0 (.int .i64 r.turns)).set_ 1 (.int .i64 r.seconds)).set_ 2 (.int .i64 r.speaking)).set_ 3 (.slice (some ⟨g3, 0, none⟩) m3 d3)).set_ 4 (.slice (some ⟨g4, 0, none⟩) m4 d4)))
  have HD := Lib.hid d34
  go_upto_region 2 with fail
  rw [← hwa]
  (try rw [show w.heap.size + 1 + 1 = w.heap.size + 2 from rfl])
  clear hwa f0 f1 f2 f3 f4 q0 q1 q2 q3 q4 o3 o4 d34
  have q3 := B0.out.cell 3
  simp only [List.getElem?_toArray, List.getElem?_cons_zero, List.getElem?_cons_succ] at q3
  have hg3 := (HO3.out.lt g3 rfl).1
  have hg4 := HGL.out
  have hm3 : m3 = r.waiting.length := by
    rcases HO3.out.shape with ⟨e, _⟩ | ⟨q4, d5, e, _⟩
    · cases e
    · simp only [Value.slice.injEq] at e; exact e.2.1
  have HDF := Lib.hid (LIntDelDrop.deleteFunc g3 m3 d3 r.waiting m (w.heap.size + 1) wa HO3.out B1.out (by omega) (by have := HL3.out; omega))
  clear hm3
  go_wp2_with fail
  refine HDF.out.mono ?_
  rintro e w4 ⟨n5, rfl, o3, hap⟩
  have B04 := box_apart B0.out hap (.inl (by omega))
  have BR4 := box_apart BR.out hap (.inl (by omega))
  have o4 := own_apart HO4.out hap (fun kk hkk => by (have hgg : g4 = kk := by simpa [Value.ownBlock] using hkk); omega)
  replace hbT := hbT.trans (hap.below (B' := w.heap.size) (by omega) hbT.size)
  clear q3 hap HDF
  have z3 := B04.frozen 3
  have t3 := B04.cell 3
  simp only [List.getElem?_toArray, List.getElem?_cons_zero, List.getElem?_cons_succ] at t3
  obtain ⟨wd, hwd⟩ : ∃ wd : World, wd = w4.setCell ⟨w.heap.size, 3, none⟩ (.slice (some ⟨g3, 0, none⟩) n5 d3) := ⟨_, rfl⟩
  have BO5 := show Bx wd w.heap.size 29 #[.int .i64 r.turns, .int .i64 r.seconds, .int .i64 r.speaking, .slice (some ⟨g3, 0, none⟩) n5 d3, .slice (some ⟨g4, 0, none⟩) m4 d4] by rw [hwd]; exact B04.set_ 3 (.slice (some ⟨g3, 0, none⟩) n5 d3)
  have BR5 := show Bx wd (w.heap.size + 2) _ _ by rw [hwd]; exact BR4.far (p := ⟨w.heap.size, 3, none⟩) (show w.heap.size + 2 ≠ w.heap.size by omega) _
  have p3 := show Bs.Own LInt.rec 3 wd W0.heap.size _ _ by rw [hwd]; exact own_set o3 (p := ⟨w.heap.size, 3, none⟩) (fun kk hkk => by have h2 := (o3.lt kk hkk).1; show kk ≠ w.heap.size; omega) (.slice (some ⟨g3, 0, none⟩) n5 d3)
  have p4 := show Bs.Own LShare.rec 60 wd W0.heap.size _ _ by rw [hwd]; exact own_set o4 (p := ⟨w.heap.size, 3, none⟩) (fun kk hkk => by have h2 := (o4.lt kk hkk).1; show kk ≠ w.heap.size; omega) (.slice (some ⟨g3, 0, none⟩) n5 d3)
  replace hbT : Below w.heap.size w wd := by rw [hwd]; exact hbT.setCell (p := ⟨w.heap.size, 3, none⟩) (Nat.le_refl _) _
  clear o3 o4 B04 BR4
  go_upto_region 3 with fail
  rw [← hwd]
  (try rw [show w.heap.size + 1 + 1 = w.heap.size + 2 from rfl])
  clear hwd z3 t3
  have y0 := BO5.cell 0
  have y1 := BO5.cell 1
  have y2 := BO5.cell 2
  have y3 := BO5.cell 3
  have y4 := BO5.cell 4
  simp only [List.getElem?_toArray, List.getElem?_cons_zero, List.getElem?_cons_succ] at y0 y1 y2 y3 y4
  have r0 := BR5.cell 0
  have r1 := BR5.cell 1
  have r2 := BR5.cell 2
  have r3 := BR5.cell 3
  have r4 := BR5.cell 4
  simp only [List.getElem?_toArray, List.getElem?_cons_zero, List.getElem?_cons_succ] at r0 r1 r2 r3 r4
  have z0 := BR5.frozen 0
  have z1 := BR5.frozen 1
  have z2 := BR5.frozen 2
  have z3 := BR5.frozen 3
  have z4 := BR5.frozen 4
  have hRF := (Bx.set_ (Bx.set_ (Bx.set_ (Bx.set_ (Bx.set_ BR5 0 (.int .i64 r.turns)) 1 (.int .i64 r.seconds)) 2 (.int .i64 r.speaking)) 3 (.slice (some ⟨g3, 0, none⟩) n5 d3)) 4 (.slice (some ⟨g4, 0, none⟩) m4 d4))
  have c0 := hRF.cell 0
  have c1 := hRF.cell 1
  have c2 := hRF.cell 2
  have c3 := hRF.cell 3
  have c4 := hRF.cell 4
  simp at c0 c1 c2 c3 c4
  clear hRF
  go_wp2_with fail
  refine bodyPost_ret (v := .agg #[.int .i64 r.turns, .int .i64 r.seconds, .int .i64 r.speaking, .slice (some ⟨g3, 0, none⟩) n5 d3, .slice (some ⟨g4, 0, none⟩) m4 d4]) (by simp [results, Try.results46, go_sem, c0, c1, c2, c3, c4]) rfl ?_
  exact ⟨_, rfl, ⟨_, _, rfl, ((own_set (own_set (own_set (own_set (own_set p3 (p := ⟨w.heap.size + 2, 0, none⟩) (fun k hk => by have h2 := (p3.lt k hk).1; show k ≠ w.heap.size + 2; omega) (.int .i64 r.turns)) (p := ⟨w.heap.size + 2, 1, none⟩) (fun k hk => by have h2 := (p3.lt k hk).1; show k ≠ w.heap.size + 2; omega) (.int .i64 r.seconds)) (p := ⟨w.heap.size + 2, 2, none⟩) (fun k hk => by have h2 := (p3.lt k hk).1; show k ≠ w.heap.size + 2; omega) (.int .i64 r.speaking)) (p := ⟨w.heap.size + 2, 3, none⟩) (fun k hk => by have h2 := (p3.lt k hk).1; show k ≠ w.heap.size + 2; omega) (.slice (some ⟨g3, 0, none⟩) n5 d3)) (p := ⟨w.heap.size + 2, 4, none⟩) (fun k hk => by have h2 := (p3.lt k hk).1; show k ≠ w.heap.size + 2; omega) (.slice (some ⟨g4, 0, none⟩) m4 d4))).low (by omega), ((own_set (own_set (own_set (own_set (own_set p4 (p := ⟨w.heap.size + 2, 0, none⟩) (fun k hk => by have h2 := (p4.lt k hk).1; show k ≠ w.heap.size + 2; omega) (.int .i64 r.turns)) (p := ⟨w.heap.size + 2, 1, none⟩) (fun k hk => by have h2 := (p4.lt k hk).1; show k ≠ w.heap.size + 2; omega) (.int .i64 r.seconds)) (p := ⟨w.heap.size + 2, 2, none⟩) (fun k hk => by have h2 := (p4.lt k hk).1; show k ≠ w.heap.size + 2; omega) (.int .i64 r.speaking)) (p := ⟨w.heap.size + 2, 3, none⟩) (fun k hk => by have h2 := (p4.lt k hk).1; show k ≠ w.heap.size + 2; omega) (.slice (some ⟨g3, 0, none⟩) n5 d3)) (p := ⟨w.heap.size + 2, 4, none⟩) (fun k hk => by have h2 := (p4.lt k hk).1; show k ≠ w.heap.size + 2; omega) (.slice (some ⟨g4, 0, none⟩) m4 d4))).low (by omega), fun kk h1 h2 => by (have hgg : g3 = kk := by simpa [Value.ownBlock] using h1); (have hgh : g4 = kk := by simpa [Value.ownBlock] using h2); omega⟩, (Below.setCell (Below.setCell (Below.setCell (Below.setCell (Below.setCell hbT (p := ⟨w.heap.size + 2, 0, none⟩) (by show w.heap.size ≤ w.heap.size + 2; omega) (.int .i64 r.turns)) (p := ⟨w.heap.size + 2, 1, none⟩) (by show w.heap.size ≤ w.heap.size + 2; omega) (.int .i64 r.seconds)) (p := ⟨w.heap.size + 2, 2, none⟩) (by show w.heap.size ≤ w.heap.size + 2; omega) (.int .i64 r.speaking)) (p := ⟨w.heap.size + 2, 3, none⟩) (by show w.heap.size ≤ w.heap.size + 2; omega) (.slice (some ⟨g3, 0, none⟩) n5 d3)) (p := ⟨w.heap.size + 2, 4, none⟩) (by show w.heap.size ≤ w.heap.size + 2; omega) (.slice (some ⟨g4, 0, none⟩) m4 d4))⟩
end Go.Proofs.Ytmbffcblhhippaa.FlD
