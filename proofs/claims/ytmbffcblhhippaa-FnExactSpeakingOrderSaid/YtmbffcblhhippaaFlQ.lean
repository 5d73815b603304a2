/- Floors: a share put where it belongs, by the program; a turn finished. No condition. -/
import Derived.Test.YtmbffcblhhippaaFlP
import Derived.Test.YtmbffcblhhippaaFlB
namespace Go.Proofs.Ytmbffcblhhippaa.FlQ
open Go.RowKit Bs Word Sq IntF Fl FlA FlG FlO FlB FlP
set_option linter.unusedVariables false
set_option maxRecDepth 100000 in
set_option maxHeartbeats 1600000 in
theorem putShare (v0 : Value) (r : F) (s : S) (w : World) (h0 : LFloor.IsQ w v0 r) (hs : ShP r) (hl3 : r.waiting.length ≤ 1048577) :
    Calls Try.prog 54 #[v0, .agg #[.int .i64 s.member, .int .i64 s.turns, .int .i64 s.seconds]] w fun e w' => ∃ v, e = .returned v ∧ LFloor.Own w' w.heap.size v (withS r s) ∧ Below w.heap.size w w' := by
  obtain ⟨a3, n3, c3, a4, n4, c4, rfl, HN3, HN4, hb3, hb4, hm3, hm4, HQ3, HQ4, HIQ⟩ := open_isq h0
  clear h0
  have HI := Lib.hid (LFloor.IsQ.is HIQ.out)
  obtain ⟨W0, hW⟩ : ∃ W : World, W = ((w.alloc (Obj.cells #[.int .i64 r.turns, .int .i64 r.seconds, .int .i64 r.speaking, .slice a3 n3 c3, .slice a4 n4 c4] 29)).alloc (Obj.cells #[.int .i64 s.member, .int .i64 s.turns, .int .i64 s.seconds] 60)).alloc (Obj.cells #[.int .i64 0, .int .i64 0, .int .i64 0, .slice none 0 0, .slice none 0 0] 29) := ⟨_, rfl⟩
  have hbT : Below w.heap.size w W0 := by rw [hW]; exact (((Below.refl _ _).alloc (Nat.le_refl _) _).alloc (by simp) _).alloc (by simp; omega) _
  have HZ := Lib.hid (show W0.heap.size = w.heap.size + 3 by rw [hW]; simp)
  have B0 := Lib.hid (show Bx W0 w.heap.size 29 #[.int .i64 r.turns, .int .i64 r.seconds, .int .i64 r.speaking, .slice a3 n3 c3, .slice a4 n4 c4] by rw [hW]; exact ((Bx.new _ _ _).alloc _).alloc _)
  have B1 := Lib.hid (show Bx W0 (w.heap.size + 1) 60 #[.int .i64 s.member, .int .i64 s.turns, .int .i64 s.seconds] by rw [hW]; have := (Bx.new (w.alloc (Obj.cells #[.int .i64 r.turns, .int .i64 r.seconds, .int .i64 r.speaking, .slice a3 n3 c3, .slice a4 n4 c4] 29)) 60 #[.int .i64 s.member, .int .i64 s.turns, .int .i64 s.seconds]).alloc (Obj.cells #[.int .i64 0, .int .i64 0, .int .i64 0, .slice none 0 0, .slice none 0 0] 29); simpa using this)
  have BR := Lib.hid (show Bx W0 (w.heap.size + 2) 29 #[.int .i64 0, .int .i64 0, .int .i64 0, .slice none 0 0, .slice none 0 0] by rw [hW]; have := Bx.new ((w.alloc (Obj.cells #[.int .i64 r.turns, .int .i64 r.seconds, .int .i64 r.speaking, .slice a3 n3 c3, .slice a4 n4 c4] 29)).alloc (Obj.cells #[.int .i64 s.member, .int .i64 s.turns, .int .i64 s.seconds] 60)) 29 #[.int .i64 0, .int .i64 0, .int .i64 0, .slice none 0 0, .slice none 0 0]; simpa using this)
  have HC := Lib.hid (FlB.findShare _ r s.member W0 (LFloor.Is.below HI.out hbT) hs)
  have HSL := Lib.hid (sh_len hs)
  have HL3 := Lib.hid hl3
  clear hs hl3
  have HKL := Lib.hid (pos_le r.shares s.member)
  obtain ⟨k, hk⟩ : ∃ k, k = pos r.shares s.member := ⟨_, rfl⟩
  have HKP := Lib.hid hk
  rw [← hk] at HC HKL
  clear hk
  have q0 := B0.out.cell 0
  have q1 := B0.out.cell 1
  have q2 := B0.out.cell 2
  have q3 := B0.out.cell 3
  have q4 := B0.out.cell 4
  simp only [List.getElem?_toArray, List.getElem?_cons_zero, List.getElem?_cons_succ] at q0 q1 q2 q3 q4
  have y0 := B1.out.cell 0
  have y1 := B1.out.cell 1
  have y2 := B1.out.cell 2
  simp only [List.getElem?_toArray, List.getElem?_cons_zero, List.getElem?_cons_succ] at y0 y1 y2
  go_enter Try.func54, Try.ntmps54
  go_wp2_with fail
  rw [← hW]
  clear hW
  refine HC.out.mono ?_
  rintro e w1 ⟨rfl, hb1⟩
  replace B0 := Lib.hid (B0.out.kept hb1)
  replace B1 := Lib.hid (B1.out.kept hb1)
  replace BR := Lib.hid (BR.out.kept hb1)
  have HZ1 := Lib.hid (show w.heap.size + 3 ≤ w1.heap.size by have := HZ.out; have := hb1.size; omega)
  replace hbT := hbT.trans (hb1.mono hbT.size)
  clear hb1 q0 q1 q2 q3 q4 y0 y1 y2
  have q0 := B0.out.cell 0
  have q1 := B0.out.cell 1
  have q2 := B0.out.cell 2
  have q3 := B0.out.cell 3
  have q4 := B0.out.cell 4
  simp only [List.getElem?_toArray, List.getElem?_cons_zero, List.getElem?_cons_succ] at q0 q1 q2 q3 q4
  have HCF := Lib.hid (copyFloor _ r w1 (LFloor.IsQ.below HIQ.out hbT) HL3.out (by have := HSL.out; omega))
  go_wp2_with fail
  refine HCF.out.mono ?_
  rintro e w2 ⟨v, rfl, hO, ⟨z0, z1, z2, g3, m3, d3, g4, m4, d4, hmv, hg34⟩, hb1⟩
  obtain ⟨s3, s4, rfl, o3, o4, d34⟩ := hO
  simp only [Value.agg.injEq, Array.mk.injEq, List.cons.injEq, and_true] at hmv
  obtain ⟨rfl, rfl, rfl, rfl, rfl⟩ := hmv
  have HGL := Lib.hid hg34
  clear hg34
  clear q0 q1 q2 q3 q4
  replace B0 := Lib.hid (B0.out.kept hb1)
  replace B1 := Lib.hid (B1.out.kept hb1)
  replace BR := Lib.hid (BR.out.kept hb1)
  replace hbT := hbT.trans (hb1.mono hbT.size)
  have hz1 := HZ1.out
  have HZ2 := Lib.hid hb1.size
  clear hb1
  have q0 := B0.out.cell 0
  have q1 := B0.out.cell 1
  have q2 := B0.out.cell 2
  have q3 := B0.out.cell 3
  have q4 := B0.out.cell 4
  simp only [List.getElem?_toArray, List.getElem?_cons_zero, List.getElem?_cons_succ] at q0 q1 q2 q3 q4
  have f0 := B0.out.frozen 0
  have f1 := B0.out.frozen 1
  have f2 := B0.out.frozen 2
  have f3 := B0.out.frozen 3
  have f4 := B0.out.frozen 4
  obtain ⟨wa, hwa⟩ : ∃ wa : World, wa = (((((w2.setCell ⟨w.heap.size, 0, none⟩ (.int .i64 r.turns)).setCell ⟨w.heap.size, 1, none⟩ (.int .i64 r.seconds)).setCell ⟨w.heap.size, 2, none⟩ (.int .i64 r.speaking)).setCell ⟨w.heap.size, 3, none⟩ (.slice (some ⟨g3, 0, none⟩) m3 d3)).setCell ⟨w.heap.size, 4, none⟩ (.slice (some ⟨g4, 0, none⟩) m4 d4)) := ⟨_, rfl⟩
  replace B1 := Lib.hid (show Bx wa (w.heap.size + 1) _ _ by rw [hwa]; exact (((((B1.out.far (p := ⟨w.heap.size, 0, none⟩) (show w.heap.size + 1 ≠ w.heap.size by omega) (.int .i64 r.turns)).far (p := ⟨w.heap.size, 1, none⟩) (show w.heap.size + 1 ≠ w.heap.size by omega) (.int .i64 r.seconds)).far (p := ⟨w.heap.size, 2, none⟩) (show w.heap.size + 1 ≠ w.heap.size by omega) (.int .i64 r.speaking)).far (p := ⟨w.heap.size, 3, none⟩) (show w.heap.size + 1 ≠ w.heap.size by omega) (.slice (some ⟨g3, 0, none⟩) m3 d3)).far (p := ⟨w.heap.size, 4, none⟩) (show w.heap.size + 1 ≠ w.heap.size by omega) (.slice (some ⟨g4, 0, none⟩) m4 d4)))
  replace BR := Lib.hid (show Bx wa (w.heap.size + 2) _ _ by rw [hwa]; exact (((((BR.out.far (p := ⟨w.heap.size, 0, none⟩) (show w.heap.size + 2 ≠ w.heap.size by omega) (.int .i64 r.turns)).far (p := ⟨w.heap.size, 1, none⟩) (show w.heap.size + 2 ≠ w.heap.size by omega) (.int .i64 r.seconds)).far (p := ⟨w.heap.size, 2, none⟩) (show w.heap.size + 2 ≠ w.heap.size by omega) (.int .i64 r.speaking)).far (p := ⟨w.heap.size, 3, none⟩) (show w.heap.size + 2 ≠ w.heap.size by omega) (.slice (some ⟨g3, 0, none⟩) m3 d3)).far (p := ⟨w.heap.size, 4, none⟩) (show w.heap.size + 2 ≠ w.heap.size by omega) (.slice (some ⟨g4, 0, none⟩) m4 d4)))
  have HO3 := Lib.hid (show Bs.Own LInt.rec 3 wa w1.heap.size _ _ by rw [hwa]; exact (own_set (own_set (own_set (own_set (own_set o3 (p := ⟨w.heap.size, 0, none⟩) (fun k hk => by have h2 := (o3.lt k hk).1; show k ≠ w.heap.size; omega) (.int .i64 r.turns)) (p := ⟨w.heap.size, 1, none⟩) (fun k hk => by have h2 := (o3.lt k hk).1; show k ≠ w.heap.size; omega) (.int .i64 r.seconds)) (p := ⟨w.heap.size, 2, none⟩) (fun k hk => by have h2 := (o3.lt k hk).1; show k ≠ w.heap.size; omega) (.int .i64 r.speaking)) (p := ⟨w.heap.size, 3, none⟩) (fun k hk => by have h2 := (o3.lt k hk).1; show k ≠ w.heap.size; omega) (.slice (some ⟨g3, 0, none⟩) m3 d3)) (p := ⟨w.heap.size, 4, none⟩) (fun k hk => by have h2 := (o3.lt k hk).1; show k ≠ w.heap.size; omega) (.slice (some ⟨g4, 0, none⟩) m4 d4)))
  have HO4 := Lib.hid (show Bs.Own LShare.rec 60 wa w1.heap.size _ _ by rw [hwa]; exact (own_set (own_set (own_set (own_set (own_set o4 (p := ⟨w.heap.size, 0, none⟩) (fun k hk => by have h2 := (o4.lt k hk).1; show k ≠ w.heap.size; omega) (.int .i64 r.turns)) (p := ⟨w.heap.size, 1, none⟩) (fun k hk => by have h2 := (o4.lt k hk).1; show k ≠ w.heap.size; omega) (.int .i64 r.seconds)) (p := ⟨w.heap.size, 2, none⟩) (fun k hk => by have h2 := (o4.lt k hk).1; show k ≠ w.heap.size; omega) (.int .i64 r.speaking)) (p := ⟨w.heap.size, 3, none⟩) (fun k hk => by have h2 := (o4.lt k hk).1; show k ≠ w.heap.size; omega) (.slice (some ⟨g3, 0, none⟩) m3 d3)) (p := ⟨w.heap.size, 4, none⟩) (fun k hk => by have h2 := (o4.lt k hk).1; show k ≠ w.heap.size; omega) (.slice (some ⟨g4, 0, none⟩) m4 d4)))
  replace hbT : Below w.heap.size w wa := by rw [hwa]; exact (Below.setCell (Below.setCell (Below.setCell (Below.setCell (Below.setCell hbT (p := ⟨w.heap.size, 0, none⟩) (Nat.le_refl _) (.int .i64 r.turns)) (p := ⟨w.heap.size, 1, none⟩) (Nat.le_refl _) (.int .i64 r.seconds)) (p := ⟨w.heap.size, 2, none⟩) (Nat.le_refl _) (.int .i64 r.speaking)) (p := ⟨w.heap.size, 3, none⟩) (Nat.le_refl _) (.slice (some ⟨g3, 0, none⟩) m3 d3)) (p := ⟨w.heap.size, 4, none⟩) (Nat.le_refl _) (.slice (some ⟨g4, 0, none⟩) m4 d4))
  have HZ3 := Lib.hid (show w1.heap.size ≤ wa.heap.size by rw [hwa]; simpa using HZ2.out)
  replace B0 := Lib.hid (show Bx wa w.heap.size 29 #[.int .i64 r.turns, .int .i64 r.seconds, .int .i64 r.speaking, .slice (some ⟨g3, 0, none⟩) m3 d3, .slice (some ⟨g4, 0, none⟩) m4 d4] by rw [hwa]; exact (((((B0.out.set_ 0 (.int .i64 r.turns)).set_ 1 (.int .i64 r.seconds)).set_ 2 (.int .i64 r.speaking)).set_ 3 (.slice (some ⟨g3, 0, none⟩) m3 d3)).set_ 4 (.slice (some ⟨g4, 0, none⟩) m4 d4)))
  have HD := Lib.hid d34
  go_upto_region 3 with fail
  rw [← hwa]
  clear hwa f0 f1 f2 f3 f4 q0 q1 q2 q3 q4 o3 o4 d34
  have q4 := B0.out.cell 4
  simp only [List.getElem?_toArray, List.getElem?_cons_zero, List.getElem?_cons_succ] at q4
  have y0 := B1.out.cell 0
  have y1 := B1.out.cell 1
  have y2 := B1.out.cell 2
  simp only [List.getElem?_toArray, List.getElem?_cons_zero, List.getElem?_cons_succ] at y0 y1 y2
  have z4 := B0.out.frozen 4
  cases hh : has r.shares s.member with
  | true =>
    have HPUT := Lib.hid (put_set hh)
    obtain ⟨X, hX, _⟩ := has_get hh
    rw [← HKP.out] at hX
    have HX := Lib.hid hX
    have hkl : k < r.shares.length := (List.getElem?_eq_some_iff.1 hX).1
    have hg1 := (HO4.out.lt g4 rfl).1
    have hm4 : m4 = r.shares.length := by
      rcases HO4.out.shape with ⟨e, _⟩ | ⟨q4, d5, e, _⟩
      · cases e
      · simp only [Value.slice.injEq] at e; exact e.2.1
    have HM4 := Lib.hid hm4.symm
    have hkm : k < m4 := by omega
    clear hX hh hm4 hkl
    have hO4 := LShare.putAll HM4.out HO4.out k X s HX.out
    have hfz : ∀ o, wa.frozen? ⟨g4, o, none⟩ = false := fun o => Own.frozen HM4.out HO4.out o
    obtain ⟨x0, x1, x2⟩ := LShare.cells (HO4.out.at_ k X HX.out)
    simp only [LShare.rec_n] at x0 x1 x2 hO4
    obtain ⟨wb, hwb⟩ : ∃ wb : World, wb = ((wa.setCell ⟨g4, k * 3, none⟩ (.int .i64 s.member)).setCell ⟨g4, k * 3 + 1, none⟩ (.int .i64 s.turns)).setCell ⟨g4, k * 3 + 2, none⟩ (.int .i64 s.seconds) := ⟨_, rfl⟩
    have hne : ∀ G, G ≤ w.heap.size + 2 → G ≠ g4 := fun G hG => by omega
    have far : ∀ (G : Nat) (t : TypeId) (cs : Array Value), Bx wa G t cs → G ≠ g4 → Bx wb G t cs := fun G t cs h hG => by
      rw [hwb]; exact ((h.far (p := ⟨g4, k * 3, none⟩) hG _).far (p := ⟨g4, k * 3 + 1, none⟩) hG _).far (p := ⟨g4, k * 3 + 2, none⟩) hG _
    have BO5 := far _ _ _ B0.out (hne _ (by omega))
    have BR5 := far _ _ _ BR.out (hne _ (by omega))
    have hn3 : ∀ kk, (Value.slice (some ⟨g3, 0, none⟩) m3 d3).ownBlock = some kk → kk ≠ g4 := fun kk hkk e => HD.out kk hkk (by rw [e]; rfl)
    have p3 := show Bs.Own LInt.rec 3 wb w1.heap.size _ _ by
      rw [hwb]; exact own_set (own_set (own_set HO3.out (p := ⟨g4, k * 3, none⟩) hn3 _) (p := ⟨g4, k * 3 + 1, none⟩) hn3 _) (p := ⟨g4, k * 3 + 2, none⟩) hn3 _
    have p4 := show Bs.Own LShare.rec 60 wb w1.heap.size (.slice (some ⟨g4, 0, none⟩) m4 d4) (r.shares.set k s) by rw [hwb]; exact hO4
    have hgw : w.heap.size ≤ g4 := by omega
    replace hbT : Below w.heap.size w wb := by
      rw [hwb]; exact ((hbT.setCell (p := ⟨g4, k * 3, none⟩) hgw _).setCell (p := ⟨g4, k * 3 + 1, none⟩) hgw _).setCell (p := ⟨g4, k * 3 + 2, none⟩) hgw _
    clear hO4 far hn3
    go_upto_region 6 with fail
    rw [← hwb]
    (try rw [show w.heap.size + 1 + 1 = w.heap.size + 2 from rfl])
    clear hwb x0 x1 x2 y0 y1 y2 q4 z4 hfz hg1
    have y0 := BO5.cell 0
    have y1 := BO5.cell 1
    have y2 := BO5.cell 2
    have y3 := BO5.cell 3
    have y4 := BO5.cell 4
    simp only [List.getElem?_toArray, List.getElem?_cons_zero, List.getElem?_cons_succ] at y0 y1 y2 y3 y4
    have r0 := BR5.cell 0
    have r1 := BR5.cell 1
    have r2 := BR5.cell 2
    have r3 := BR5.cell 3
    have r4 := BR5.cell 4
    simp only [List.getElem?_toArray, List.getElem?_cons_zero, List.getElem?_cons_succ] at r0 r1 r2 r3 r4
    have z0 := BR5.frozen 0
    have z1 := BR5.frozen 1
    have z2 := BR5.frozen 2
    have z3 := BR5.frozen 3
    have z4 := BR5.frozen 4
    have hRF := (Bx.set_ (Bx.set_ (Bx.set_ (Bx.set_ (Bx.set_ BR5 0 (.int .i64 r.turns)) 1 (.int .i64 r.seconds)) 2 (.int .i64 r.speaking)) 3 (.slice (some ⟨g3, 0, none⟩) m3 d3)) 4 (.slice (some ⟨g4, 0, none⟩) m4 d4))
    have c0 := hRF.cell 0
    have c1 := hRF.cell 1
    have c2 := hRF.cell 2
    have c3 := hRF.cell 3
    have c4 := hRF.cell 4
    simp at c0 c1 c2 c3 c4
    clear hRF
    go_wp2_with fail
    refine bodyPost_ret (v := .agg #[.int .i64 r.turns, .int .i64 r.seconds, .int .i64 r.speaking, .slice (some ⟨g3, 0, none⟩) m3 d3, .slice (some ⟨g4, 0, none⟩) m4 d4]) (by simp [results, Try.results54, go_sem, c0, c1, c2, c3, c4]) rfl ?_
    have HQ := HPUT.out
    rw [← HKP.out] at HQ
    exact ⟨_, rfl, ⟨_, _, rfl, ((own_set (own_set (own_set (own_set (own_set p3 (p := ⟨w.heap.size + 2, 0, none⟩) (fun k hk => by have h2 := (p3.lt k hk).1; show k ≠ w.heap.size + 2; omega) (.int .i64 r.turns)) (p := ⟨w.heap.size + 2, 1, none⟩) (fun k hk => by have h2 := (p3.lt k hk).1; show k ≠ w.heap.size + 2; omega) (.int .i64 r.seconds)) (p := ⟨w.heap.size + 2, 2, none⟩) (fun k hk => by have h2 := (p3.lt k hk).1; show k ≠ w.heap.size + 2; omega) (.int .i64 r.speaking)) (p := ⟨w.heap.size + 2, 3, none⟩) (fun k hk => by have h2 := (p3.lt k hk).1; show k ≠ w.heap.size + 2; omega) (.slice (some ⟨g3, 0, none⟩) m3 d3)) (p := ⟨w.heap.size + 2, 4, none⟩) (fun k hk => by have h2 := (p3.lt k hk).1; show k ≠ w.heap.size + 2; omega) (.slice (some ⟨g4, 0, none⟩) m4 d4))).low (by omega), by show Bs.Own _ _ _ _ _ (put r.shares s); rw [HQ]; exact ((own_set (own_set (own_set (own_set (own_set p4 (p := ⟨w.heap.size + 2, 0, none⟩) (fun k hk => by have h2 := (p4.lt k hk).1; show k ≠ w.heap.size + 2; omega) (.int .i64 r.turns)) (p := ⟨w.heap.size + 2, 1, none⟩) (fun k hk => by have h2 := (p4.lt k hk).1; show k ≠ w.heap.size + 2; omega) (.int .i64 r.seconds)) (p := ⟨w.heap.size + 2, 2, none⟩) (fun k hk => by have h2 := (p4.lt k hk).1; show k ≠ w.heap.size + 2; omega) (.int .i64 r.speaking)) (p := ⟨w.heap.size + 2, 3, none⟩) (fun k hk => by have h2 := (p4.lt k hk).1; show k ≠ w.heap.size + 2; omega) (.slice (some ⟨g3, 0, none⟩) m3 d3)) (p := ⟨w.heap.size + 2, 4, none⟩) (fun k hk => by have h2 := (p4.lt k hk).1; show k ≠ w.heap.size + 2; omega) (.slice (some ⟨g4, 0, none⟩) m4 d4))).low (by omega), HD.out⟩, (Below.setCell (Below.setCell (Below.setCell (Below.setCell (Below.setCell hbT (p := ⟨w.heap.size + 2, 0, none⟩) (by show w.heap.size ≤ w.heap.size + 2; omega) (.int .i64 r.turns)) (p := ⟨w.heap.size + 2, 1, none⟩) (by show w.heap.size ≤ w.heap.size + 2; omega) (.int .i64 r.seconds)) (p := ⟨w.heap.size + 2, 2, none⟩) (by show w.heap.size ≤ w.heap.size + 2; omega) (.int .i64 r.speaking)) (p := ⟨w.heap.size + 2, 3, none⟩) (by show w.heap.size ≤ w.heap.size + 2; omega) (.slice (some ⟨g3, 0, none⟩) m3 d3)) (p := ⟨w.heap.size + 2, 4, none⟩) (by show w.heap.size ≤ w.heap.size + 2; omega) (.slice (some ⟨g4, 0, none⟩) m4 d4))⟩
  | false =>
    have HPUT := Lib.hid (put_ins hh)
    clear hh
    have hg1 := (HO4.out.lt g4 rfl).1
    have hg2 := (HO4.out.lt g4 rfl).2
    have hgl := HGL.out
    have hz3 := HZ3.out
    obtain ⟨vb, hvb⟩ : ∃ vb, vb = wa.heap.size := ⟨_, rfl⟩
    obtain ⟨wb, hwb⟩ : ∃ wb : World, wb = wa.alloc (Obj.cells #[.int .i64 s.member, .int .i64 s.turns, .int .i64 s.seconds] 60) := ⟨_, rfl⟩
    have hba : Below wa.heap.size wa wb := by rw [hwb]; exact (Below.refl _ _).alloc (Nat.le_refl _) _
    have HVB := Lib.hid (show wb.heap[vb]? = some (.cells #[.int .i64 s.member, .int .i64 s.turns, .int .i64 s.seconds] 60 (0, 0)) by rw [hwb, hvb]; exact heap_alloc_new _ _)
    have o4t : Bs.Own LShare.rec 60 wb g4 (.slice (some ⟨g4, 0, none⟩) m4 d4) r.shares := own_at (HO4.out.kept hba)
    have HIN := Lib.hid (LShare.insert1 (A := g4) (.slice (some ⟨g4, 0, none⟩) m4 d4) r.shares s k vb wb o4t (by have := hba.size; omega) HKL.out (by have := HSL.out; omega) HVB.out (fun g hg => by (have hgg : g4 = g := by simpa [Value.ownBlock] using hg); omega))
    have HB0 := Lib.hid (B0.out.kept hba)
    have HBR := Lib.hid (BR.out.kept hba)
    have HO3b := Lib.hid (HO3.out.kept hba)
    have hbTb := hbT.trans (hba.mono hbT.size)
    clear o4t hg2
    go_wp2_with fail
    rw [← hwb, ← hvb]
    refine HIN.out.mono ?_
    rintro e w4 ⟨v, rfl, hO, hsome, hbI⟩
    obtain ⟨u4, l4, k4, rfl⟩ := own_slice hO
    have BO4 := HB0.out.under hbI (show w.heap.size < g4 by omega)
    have BR4 := HBR.out.under hbI (show w.heap.size + 2 < g4 by omega)
    have o3 : Bs.Own LInt.rec 3 w4 w1.heap.size (.slice (some ⟨g3, 0, none⟩) m3 d3) r.waiting := HO3b.out.same fun kk hkk => hbI.block kk (by (have hgg : g3 = kk := by simpa [Value.ownBlock] using hkk); omega)
    have hbT4 := hbTb.trans (hbI.mono (show w.heap.size ≤ g4 by omega) )
    clear q4 z4 y0 y1 y2 HIN HVB hbI hsome hba hwb hvb
    have z4 := BO4.frozen 4
    have t4 := BO4.cell 4
    simp only [List.getElem?_toArray, List.getElem?_cons_zero, List.getElem?_cons_succ] at t4
    obtain ⟨wd, hwd⟩ : ∃ wd : World, wd = w4.setCell ⟨w.heap.size, 4, none⟩ (.slice u4 l4 k4) := ⟨_, rfl⟩
    have BO5 := show Bx wd w.heap.size 29 #[.int .i64 r.turns, .int .i64 r.seconds, .int .i64 r.speaking, .slice (some ⟨g3, 0, none⟩) m3 d3, .slice u4 l4 k4] by rw [hwd]; exact BO4.set_ 4 (.slice u4 l4 k4)
    have BR5 := show Bx wd (w.heap.size + 2) _ _ by rw [hwd]; exact BR4.far (p := ⟨w.heap.size, 4, none⟩) (show w.heap.size + 2 ≠ w.heap.size by omega) _
    have p3 := show Bs.Own LInt.rec 3 wd w1.heap.size _ _ by rw [hwd]; exact own_set o3 (p := ⟨w.heap.size, 4, none⟩) (fun kk hkk => by have h2 := (o3.lt kk hkk).1; show kk ≠ w.heap.size; omega) (.slice u4 l4 k4)
    have p4 := show Bs.Own LShare.rec 60 wd g4 _ _ by rw [hwd]; exact own_set hO (p := ⟨w.heap.size, 4, none⟩) (fun kk hkk => by have h2 := (hO.lt kk hkk).1; show kk ≠ w.heap.size; omega) (.slice u4 l4 k4)
    have HDD := Lib.hid (show Dist (.slice (some ⟨g3, 0, none⟩) m3 d3) (.slice u4 l4 k4) from Dist.of_lt (m := g4) (fun kk hkk => by (have hgg : g3 = kk := by simpa [Value.ownBlock] using hkk); omega) (fun kk hkk => (hO.lt kk hkk).1))
    replace hbT : Below w.heap.size w wd := by rw [hwd]; exact hbT4.setCell (p := ⟨w.heap.size, 4, none⟩) (Nat.le_refl _) _
    clear o3 hO hbT4 hbTb BO4 BR4
    go_upto_region 6 with fail
    rw [← hwd]
    (try rw [show w.heap.size + 1 + 1 = w.heap.size + 2 from rfl])
    clear hwd z4 t4
    have y0 := BO5.cell 0
    have y1 := BO5.cell 1
    have y2 := BO5.cell 2
    have y3 := BO5.cell 3
    have y4 := BO5.cell 4
    simp only [List.getElem?_toArray, List.getElem?_cons_zero, List.getElem?_cons_succ] at y0 y1 y2 y3 y4
    have r0 := BR5.cell 0
    have r1 := BR5.cell 1
    have r2 := BR5.cell 2
    have r3 := BR5.cell 3
    have r4 := BR5.cell 4
    simp only [List.getElem?_toArray, List.getElem?_cons_zero, List.getElem?_cons_succ] at r0 r1 r2 r3 r4
    have z0 := BR5.frozen 0
    have z1 := BR5.frozen 1
    have z2 := BR5.frozen 2
    have z3 := BR5.frozen 3
    have z4 := BR5.frozen 4
    have hRF := (Bx.set_ (Bx.set_ (Bx.set_ (Bx.set_ (Bx.set_ BR5 0 (.int .i64 r.turns)) 1 (.int .i64 r.seconds)) 2 (.int .i64 r.speaking)) 3 (.slice (some ⟨g3, 0, none⟩) m3 d3)) 4 (.slice u4 l4 k4))
    have c0 := hRF.cell 0
    have c1 := hRF.cell 1
    have c2 := hRF.cell 2
    have c3 := hRF.cell 3
    have c4 := hRF.cell 4
    simp at c0 c1 c2 c3 c4
    clear hRF
    go_wp2_with fail
    refine bodyPost_ret (v := .agg #[.int .i64 r.turns, .int .i64 r.seconds, .int .i64 r.speaking, .slice (some ⟨g3, 0, none⟩) m3 d3, .slice u4 l4 k4]) (by simp [results, Try.results54, go_sem, c0, c1, c2, c3, c4]) rfl ?_
    have HQ := HPUT.out
    rw [← HKP.out] at HQ
    exact ⟨_, rfl, ⟨_, _, rfl, ((own_set (own_set (own_set (own_set (own_set p3 (p := ⟨w.heap.size + 2, 0, none⟩) (fun k hk => by have h2 := (p3.lt k hk).1; show k ≠ w.heap.size + 2; omega) (.int .i64 r.turns)) (p := ⟨w.heap.size + 2, 1, none⟩) (fun k hk => by have h2 := (p3.lt k hk).1; show k ≠ w.heap.size + 2; omega) (.int .i64 r.seconds)) (p := ⟨w.heap.size + 2, 2, none⟩) (fun k hk => by have h2 := (p3.lt k hk).1; show k ≠ w.heap.size + 2; omega) (.int .i64 r.speaking)) (p := ⟨w.heap.size + 2, 3, none⟩) (fun k hk => by have h2 := (p3.lt k hk).1; show k ≠ w.heap.size + 2; omega) (.slice (some ⟨g3, 0, none⟩) m3 d3)) (p := ⟨w.heap.size + 2, 4, none⟩) (fun k hk => by have h2 := (p3.lt k hk).1; show k ≠ w.heap.size + 2; omega) (.slice u4 l4 k4))).low (by omega), by show Bs.Own _ _ _ _ _ (put r.shares s); rw [HQ]; exact ((own_set (own_set (own_set (own_set (own_set p4 (p := ⟨w.heap.size + 2, 0, none⟩) (fun k hk => by have h2 := (p4.lt k hk).1; show k ≠ w.heap.size + 2; omega) (.int .i64 r.turns)) (p := ⟨w.heap.size + 2, 1, none⟩) (fun k hk => by have h2 := (p4.lt k hk).1; show k ≠ w.heap.size + 2; omega) (.int .i64 r.seconds)) (p := ⟨w.heap.size + 2, 2, none⟩) (fun k hk => by have h2 := (p4.lt k hk).1; show k ≠ w.heap.size + 2; omega) (.int .i64 r.speaking)) (p := ⟨w.heap.size + 2, 3, none⟩) (fun k hk => by have h2 := (p4.lt k hk).1; show k ≠ w.heap.size + 2; omega) (.slice (some ⟨g3, 0, none⟩) m3 d3)) (p := ⟨w.heap.size + 2, 4, none⟩) (fun k hk => by have h2 := (p4.lt k hk).1; show k ≠ w.heap.size + 2; omega) (.slice u4 l4 k4))).low (by omega), HDD.out⟩, (Below.setCell (Below.setCell (Below.setCell (Below.setCell (Below.setCell hbT (p := ⟨w.heap.size + 2, 0, none⟩) (by show w.heap.size ≤ w.heap.size + 2; omega) (.int .i64 r.turns)) (p := ⟨w.heap.size + 2, 1, none⟩) (by show w.heap.size ≤ w.heap.size + 2; omega) (.int .i64 r.seconds)) (p := ⟨w.heap.size + 2, 2, none⟩) (by show w.heap.size ≤ w.heap.size + 2; omega) (.int .i64 r.speaking)) (p := ⟨w.heap.size + 2, 3, none⟩) (by show w.heap.size ≤ w.heap.size + 2; omega) (.slice (some ⟨g3, 0, none⟩) m3 d3)) (p := ⟨w.heap.size + 2, 4, none⟩) (by show w.heap.size ≤ w.heap.size + 2; omega) (.slice u4 l4 k4))⟩
end Go.Proofs.Ytmbffcblhhippaa.FlQ
