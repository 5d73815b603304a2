/- AskFloor: what it answers, on both sides. No condition. -/
import Derived.Test.YtmbffcblhhippaaAskFloorA
namespace Go.Proofs.Ytmbffcblhhippaa.AskFloorC
open Go.RowKit Bs Word Sq IntF Fl FlA FlG FlO FlX
set_option linter.unusedVariables false
set_option maxRecDepth 100000 in
set_option maxHeartbeats 1600000 in
theorem impl (v0 : Value) (z0 : F) (a1 : Int) (w : World) (h0 : LFloor.IsQ w v0 z0) (f0 : LFloor.Fine z0) (l3 : z0.waiting.length ≤ 1048576) (l4 : z0.shares.length ≤ 1048576) : Calls Try.prog 12 #[v0, .int .i64 a1] w (Post z0 a1 w) := by
  obtain ⟨r, hr⟩ : ∃ r, r = z0 := ⟨_, rfl⟩
  subst hr
  obtain ⟨a3, n3, c3, a4, n4, c4, rfl, HN3, HN4, hb3, hb4, hm3, hm4, HQ3, HQ4, HIQ⟩ := open_isq h0
  clear h0
  have HI := Lib.hid (LFloor.IsQ.is HIQ.out)
  obtain ⟨W0, hW⟩ : ∃ W : World, W = (w.alloc (Obj.cells #[.int .i64 r.turns, .int .i64 r.seconds, .int .i64 r.speaking, .slice a3 n3 c3, .slice a4 n4 c4] 29)).alloc (Obj.cells #[.int .i64 0, .int .i64 0, .int .i64 0, .slice none 0 0, .slice none 0 0] 29) := ⟨_, rfl⟩
  have hbT : Below w.heap.size w W0 := by rw [hW]; exact ((Below.refl _ _).alloc (Nat.le_refl _) _).alloc (by simp) _
  have HZ := Lib.hid (show W0.heap.size = w.heap.size + 2 by rw [hW]; simp)
  have B0 := Lib.hid (show Bx W0 w.heap.size 29 #[.int .i64 r.turns, .int .i64 r.seconds, .int .i64 r.speaking, .slice a3 n3 c3, .slice a4 n4 c4] by rw [hW]; exact (Bx.new _ _ _).alloc _)
  have BR := Lib.hid (show Bx W0 (w.heap.size + 1) 29 #[.int .i64 0, .int .i64 0, .int .i64 0, .slice none 0 0, .slice none 0 0] by rw [hW]; have := Bx.new (w.alloc (Obj.cells #[.int .i64 r.turns, .int .i64 r.seconds, .int .i64 r.speaking, .slice a3 n3 c3, .slice a4 n4 c4] 29)) 29 #[.int .i64 0, .int .i64 0, .int .i64 0, .slice none 0 0, .slice none 0 0]; simpa using this)
  have HL := Lib.hid (And.intro l3 l4)
  clear l3 l4
  obtain ⟨i3, hi, hz0, hz1, hz2⟩ := info_parts LInt.infoK
  have HI3 := Lib.hid hi
  have HZ3 := Lib.hid (And.intro hz0 (And.intro hz1 hz2))
  clear hi hz0 hz1 hz2
  have HC := Lib.hid (FlV.isValid _ r W0 (LFloor.Is.below HI.out hbT))
  have q0 := B0.out.cell 0
  have q1 := B0.out.cell 1
  have q2 := B0.out.cell 2
  have q3 := B0.out.cell 3
  have q4 := B0.out.cell 4
  simp only [List.getElem?_toArray, List.getElem?_cons_zero, List.getElem?_cons_succ] at q0 q1 q2 q3 q4
  go_enter Try.func12, Try.ntmps12
  go_wp2_with fail
  rw [← hW]
  clear hW
  refine HC.out.mono ?_
  rintro e w1 ⟨rfl, hb1⟩
  replace BR := Lib.hid (BR.out.kept hb1)
  replace B0 := Lib.hid (B0.out.kept hb1)
  have HZ1 := Lib.hid (show w.heap.size + 2 ≤ w1.heap.size by have := HZ.out; have := hb1.size; omega)
  replace hbT := hbT.trans (hb1.mono hbT.size)
  clear hb1 q0 q1 q2 q3 q4
  have q0 := B0.out.cell 0
  have q1 := B0.out.cell 1
  have q2 := B0.out.cell 2
  have q3 := B0.out.cell 3
  have q4 := B0.out.cell 4
  simp only [List.getElem?_toArray, List.getElem?_cons_zero, List.getElem?_cons_succ] at q0 q1 q2 q3 q4
  cases hg : good r with
  | false =>
    have HA := Lib.hid (show Ans r a1 zeroF false by unfold Ans answer; rw [hg]; rfl)
    clear hg
    have BR5 := BR.out
    have r0 := BR5.cell 0
    have r1 := BR5.cell 1
    have r2 := BR5.cell 2
    have r3 := BR5.cell 3
    have r4 := BR5.cell 4
    simp only [List.getElem?_toArray, List.getElem?_cons_zero, List.getElem?_cons_succ] at r0 r1 r2 r3 r4
    have z0 := BR5.frozen 0
    have z1 := BR5.frozen 1
    have z2 := BR5.frozen 2
    have z3 := BR5.frozen 3
    have z4 := BR5.frozen 4
    have hRF := (Bx.set_ (Bx.set_ (Bx.set_ (Bx.set_ (Bx.set_ BR5 0 (.int .i64 0)) 1 (.int .i64 0)) 2 (.int .i64 0)) 3 (.slice none 0 0)) 4 (.slice none 0 0))
    have c0 := hRF.cell 0
    have c1 := hRF.cell 1
    have c2 := hRF.cell 2
    have c3 := hRF.cell 3
    have c4 := hRF.cell 4
    simp at c0 c1 c2 c3 c4
    clear hRF
    go_wp2_with fail
    refine bodyPost_ret (v := .tuple #[.agg #[.int .i64 0, .int .i64 0, .int .i64 0, .slice none 0 0, .slice none 0 0], .bool false]) (by simp [results, Try.results12, go_sem, c0, c1, c2, c3, c4]) rfl ?_
    exact ⟨_, zeroF, false, rfl, HA.out, LFloor.Own.zero, (Below.setCell (Below.setCell (Below.setCell (Below.setCell (Below.setCell hbT (p := ⟨w.heap.size + 1, 0, none⟩) (by show w.heap.size ≤ w.heap.size + 1; omega) (.int .i64 0)) (p := ⟨w.heap.size + 1, 1, none⟩) (by show w.heap.size ≤ w.heap.size + 1; omega) (.int .i64 0)) (p := ⟨w.heap.size + 1, 2, none⟩) (by show w.heap.size ≤ w.heap.size + 1; omega) (.int .i64 0)) (p := ⟨w.heap.size + 1, 3, none⟩) (by show w.heap.size ≤ w.heap.size + 1; omega) (.slice none 0 0)) (p := ⟨w.heap.size + 1, 4, none⟩) (by show w.heap.size ≤ w.heap.size + 1; omega) (.slice none 0 0))⟩
  | true =>
  have HG := Lib.hid hg
  have HSP := Lib.hid (good_sh hg)
  have HW8 := Lib.hid (ask_waits (m := a1) hg)
  clear hg
  have HCF := Lib.hid (FlP.copyFloor _ r w1 (LFloor.IsQ.below HIQ.out hbT) (by have := HL.out.1; omega) (by have := HL.out.2; omega))
  go_wp2_with fail
  refine HCF.out.mono ?_
  rintro e w2 ⟨v, rfl, hO, ⟨z0, z1, z2, g3, m3, d3, g4, m4, d4, hmv, hg34⟩, hb1⟩
  obtain ⟨s3, s4, rfl, o3, o4, d34⟩ := hO
  simp only [Value.agg.injEq, Array.mk.injEq, List.cons.injEq, and_true] at hmv
  obtain ⟨rfl, rfl, rfl, rfl, rfl⟩ := hmv
  have HGL := Lib.hid hg34
  clear hg34 q0 q1 q2 q3 q4 HCF
  replace B0 := Lib.hid (B0.out.kept hb1)
  replace BR := Lib.hid (BR.out.kept hb1)
  have hz1 := HZ1.out
  have HZ2 := Lib.hid hb1.size
  replace hbT := hbT.trans (hb1.mono hbT.size)
  clear hb1
  have q0 := B0.out.cell 0
  have q1 := B0.out.cell 1
  have q2 := B0.out.cell 2
  have q3 := B0.out.cell 3
  have q4 := B0.out.cell 4
  simp only [List.getElem?_toArray, List.getElem?_cons_zero, List.getElem?_cons_succ] at q0 q1 q2 q3 q4
  have f0 := B0.out.frozen 0
  have f1 := B0.out.frozen 1
  have f2 := B0.out.frozen 2
  have f3 := B0.out.frozen 3
  have f4 := B0.out.frozen 4
  obtain ⟨wc, hwa⟩ : ∃ wc : World, wc = (((((w2.setCell ⟨w.heap.size, 0, none⟩ (.int .i64 r.turns)).setCell ⟨w.heap.size, 1, none⟩ (.int .i64 r.seconds)).setCell ⟨w.heap.size, 2, none⟩ (.int .i64 r.speaking)).setCell ⟨w.heap.size, 3, none⟩ (.slice (some ⟨g3, 0, none⟩) m3 d3)).setCell ⟨w.heap.size, 4, none⟩ (.slice (some ⟨g4, 0, none⟩) m4 d4)) := ⟨_, rfl⟩
  replace BR := Lib.hid (show Bx wc (w.heap.size + 1) _ _ by rw [hwa]; exact (((((BR.out.far (p := ⟨w.heap.size, 0, none⟩) (show w.heap.size + 1 ≠ w.heap.size by omega) (.int .i64 r.turns)).far (p := ⟨w.heap.size, 1, none⟩) (show w.heap.size + 1 ≠ w.heap.size by omega) (.int .i64 r.seconds)).far (p := ⟨w.heap.size, 2, none⟩) (show w.heap.size + 1 ≠ w.heap.size by omega) (.int .i64 r.speaking)).far (p := ⟨w.heap.size, 3, none⟩) (show w.heap.size + 1 ≠ w.heap.size by omega) (.slice (some ⟨g3, 0, none⟩) m3 d3)).far (p := ⟨w.heap.size, 4, none⟩) (show w.heap.size + 1 ≠ w.heap.size by omega) (.slice (some ⟨g4, 0, none⟩) m4 d4)))
  have HO3 := Lib.hid (show Bs.Own LInt.rec 3 wc w1.heap.size _ _ by rw [hwa]; exact (own_set (own_set (own_set (own_set (own_set o3 (p := ⟨w.heap.size, 0, none⟩) (fun k hk => by have h2 := (o3.lt k hk).1; show k ≠ w.heap.size; omega) (.int .i64 r.turns)) (p := ⟨w.heap.size, 1, none⟩) (fun k hk => by have h2 := (o3.lt k hk).1; show k ≠ w.heap.size; omega) (.int .i64 r.seconds)) (p := ⟨w.heap.size, 2, none⟩) (fun k hk => by have h2 := (o3.lt k hk).1; show k ≠ w.heap.size; omega) (.int .i64 r.speaking)) (p := ⟨w.heap.size, 3, none⟩) (fun k hk => by have h2 := (o3.lt k hk).1; show k ≠ w.heap.size; omega) (.slice (some ⟨g3, 0, none⟩) m3 d3)) (p := ⟨w.heap.size, 4, none⟩) (fun k hk => by have h2 := (o3.lt k hk).1; show k ≠ w.heap.size; omega) (.slice (some ⟨g4, 0, none⟩) m4 d4)))
  have HO4 := Lib.hid (show Bs.Own LShare.rec 60 wc w1.heap.size _ _ by rw [hwa]; exact (own_set (own_set (own_set (own_set (own_set o4 (p := ⟨w.heap.size, 0, none⟩) (fun k hk => by have h2 := (o4.lt k hk).1; show k ≠ w.heap.size; omega) (.int .i64 r.turns)) (p := ⟨w.heap.size, 1, none⟩) (fun k hk => by have h2 := (o4.lt k hk).1; show k ≠ w.heap.size; omega) (.int .i64 r.seconds)) (p := ⟨w.heap.size, 2, none⟩) (fun k hk => by have h2 := (o4.lt k hk).1; show k ≠ w.heap.size; omega) (.int .i64 r.speaking)) (p := ⟨w.heap.size, 3, none⟩) (fun k hk => by have h2 := (o4.lt k hk).1; show k ≠ w.heap.size; omega) (.slice (some ⟨g3, 0, none⟩) m3 d3)) (p := ⟨w.heap.size, 4, none⟩) (fun k hk => by have h2 := (o4.lt k hk).1; show k ≠ w.heap.size; omega) (.slice (some ⟨g4, 0, none⟩) m4 d4)))
  replace hbT : Below w.heap.size w wc := by rw [hwa]; exact (Below.setCell (Below.setCell (Below.setCell (Below.setCell (Below.setCell hbT (p := ⟨w.heap.size, 0, none⟩) (Nat.le_refl _) (.int .i64 r.turns)) (p := ⟨w.heap.size, 1, none⟩) (Nat.le_refl _) (.int .i64 r.seconds)) (p := ⟨w.heap.size, 2, none⟩) (Nat.le_refl _) (.int .i64 r.speaking)) (p := ⟨w.heap.size, 3, none⟩) (Nat.le_refl _) (.slice (some ⟨g3, 0, none⟩) m3 d3)) (p := ⟨w.heap.size, 4, none⟩) (Nat.le_refl _) (.slice (some ⟨g4, 0, none⟩) m4 d4))
  have BO := Lib.hid (show Bx wc w.heap.size 29 #[.int .i64 r.turns, .int .i64 r.seconds, .int .i64 r.speaking, .slice (some ⟨g3, 0, none⟩) m3 d3, .slice (some ⟨g4, 0, none⟩) m4 d4] by rw [hwa]; exact (((((B0.out.set_ 0 (.int .i64 r.turns)).set_ 1 (.int .i64 r.seconds)).set_ 2 (.int .i64 r.speaking)).set_ 3 (.slice (some ⟨g3, 0, none⟩) m3 d3)).set_ 4 (.slice (some ⟨g4, 0, none⟩) m4 d4)))
  have HZW := Lib.hid (show w1.heap.size ≤ wc.heap.size by rw [hwa]; simpa using HZ2.out)
  have HD := Lib.hid d34
  have HOO := Lib.hid (show w.heap.size + 2 ≤ w1.heap.size from hz1)
  have HWC := Lib.hid (show w.heap.size < wc.heap.size from BO.out.lt)
  have HN := Lib.hid (show (∀ k, (Value.slice (some ⟨g3, 0, none⟩) m3 d3).ownBlock = some k → w1.heap.size ≤ k ∧ k < wc.heap.size) ∧ True from ⟨fun k hk => HO3.out.lt k hk, trivial⟩)
  go_upto_region 4 with fail
  rw [← hwa]
  clear hwa f0 f1 f2 f3 f4 q0 q1 q2 q3 q4 o3 o4 d34 B0
  have q3 := BO.out.cell 3
  simp only [List.getElem?_toArray, List.getElem?_cons_zero, List.getElem?_cons_succ] at q3
  go_wp2_with (at_builtin; refine wpList_append_o (T := LInt.rec) _ rfl (.tmp 13) (.tmp 15) 22 rfl w1.heap.size 3 i3 (.int .i64 0) 8 Try.underlying22 HI3.out HZ3.out.1 HZ3.out.2.1 HZ3.out.2.2 rfl _ _ rfl (HO3.out.alloc _) (some ⟨wc.heap.size, 0, none⟩) 1 1 [a1] rfl rfl (src_one (T := LInt.rec) (heap_alloc_new wc _)) (by have := HL.out.1; unfold maxLen; omega) (by have := HL.out.1; omega) (by simp; have := HZW.out; omega) ?_)
  intro v5 w4 o5 hgrow hnn hat
  obtain ⟨b5, m5, d5, hv5⟩ := own_slice o5
  subst hv5
  have hoo := HOO.out
  have hwo := HWC.out
  have hz1 := HZ1.out
  have BO4 := box_besides (BO.out.alloc (Obj.cells #[.int .i64 a1] 3)) hgrow (fun e => by have := (HN.out.1 _ e).1; omega)
  have BR4 := box_besides (BR.out.alloc (Obj.cells #[.int .i64 a1] 3)) hgrow (fun e => by have := (HO3.out.lt _ e).1; omega)
  have o4 := own_besides (HO4.out.alloc (Obj.cells #[.int .i64 a1] 3)) hgrow HD.out.symm
  have HDD := Lib.hid (dist_grow (HO4.out.alloc (Obj.cells #[.int .i64 a1] 3)) HD.out.symm (show _ ∨ _ = some (wc.alloc (Obj.cells #[.int .i64 a1] 3)).heap.size by simpa using hat)).symm
  have h5 : ∀ kk, (Value.slice b5 m5 d5).ownBlock = some kk → kk ≠ w.heap.size := fun kk hkk => by
    rcases hat with h' | h'
    · rw [hkk] at h'; have := (HN.out.1 kk h'.symm).1; omega
    · rw [hkk] at h'; have h2 := Option.some.inj h'; first | omega | (simp at h2; omega)
  have HBT4 := Lib.hid (below_grown (hbT.alloc hbT.size (Obj.cells #[.int .i64 a1] 3)) hgrow (by simp; have := hbT.size; omega) (fun kk hkk => by have := (HO3.out.lt kk hkk).1; omega))
  clear hgrow hnn hat
  have z3 := BO4.frozen 3
  have t3 := BO4.cell 3
  simp only [List.getElem?_toArray, List.getElem?_cons_zero, List.getElem?_cons_succ] at t3
  obtain ⟨wd, hwd⟩ : ∃ wd : World, wd = w4.setCell ⟨w.heap.size, 3, none⟩ (.slice b5 m5 d5) := ⟨_, rfl⟩
  have BO5 := show Bx wd w.heap.size 29 #[.int .i64 r.turns, .int .i64 r.seconds, .int .i64 r.speaking, .slice b5 m5 d5, .slice (some ⟨g4, 0, none⟩) m4 d4] by rw [hwd]; exact BO4.set_ 3 (.slice b5 m5 d5)
  have BR5 := show Bx wd (w.heap.size + 1) _ _ by rw [hwd]; exact BR4.far (p := ⟨w.heap.size, 3, none⟩) (show w.heap.size + 1 ≠ w.heap.size by omega) _
  have p3 := show Bs.Own LInt.rec 3 wd w1.heap.size _ _ by rw [hwd]; exact own_set o5 (p := ⟨w.heap.size, 3, none⟩) (fun kk hkk => h5 kk hkk) (.slice b5 m5 d5)
  have p4 := show Bs.Own LShare.rec 60 wd w1.heap.size _ _ by rw [hwd]; exact own_set o4 (p := ⟨w.heap.size, 3, none⟩) (fun kk hkk => by have h2 := (o4.lt kk hkk).1; show kk ≠ w.heap.size; omega) (.slice b5 m5 d5)
  have hbT : Below w.heap.size w wd := by rw [hwd]; exact HBT4.out.setCell (p := ⟨w.heap.size, 3, none⟩) (by show w.heap.size ≤ w.heap.size; omega) _
  clear o5 o4 BO4 BR4 h5 HBT4
  go_upto_region 5 with fail
  rw [← hwd]
  clear hwd z3 t3 q3
  have HBO := Lib.hid BO5
  have HBR := Lib.hid BR5
  have HP3 := Lib.hid p3
  have HP4 := Lib.hid p4
  clear BO5 BR5
  have HMW := Lib.hid (FlI.mayWait (.agg #[.int .i64 r.turns, .int .i64 r.seconds, .int .i64 r.speaking, .slice b5 m5 d5, .slice (some ⟨g4, 0, none⟩) m4 d4]) (Fl.ask r a1) wd ⟨_, _, rfl, p3.is, p4.is⟩ (fun i => HSP.out i))
  have y0 := HBO.out.cell 0
  have y1 := HBO.out.cell 1
  have y2 := HBO.out.cell 2
  have y3 := HBO.out.cell 3
  have y4 := HBO.out.cell 4
  simp only [List.getElem?_toArray, List.getElem?_cons_zero, List.getElem?_cons_succ] at y0 y1 y2 y3 y4
  clear p3 p4
  go_wp2_with fail
  refine HMW.out.mono ?_
  rintro e w6 ⟨rfl, hb1⟩
  rw [HW8.out]
  have BO6 := HBO.out.kept hb1
  have BR6 := HBR.out.kept hb1
  have p3 := HP3.out.kept hb1
  have p4 := HP4.out.kept hb1
  replace hbT := hbT.trans (hb1.mono hbT.size)
  clear y0 y1 y2 y3 y4 hb1 HMW
  cases hm : mayAsk r a1 with
  | false =>
    have HA := Lib.hid (show Ans r a1 zeroF false by unfold Ans answer; rw [HG.out, hm]; rfl)
    have BR := Lib.hid BR6
    clear hm
    have BR5 := BR.out
    have r0 := BR5.cell 0
    have r1 := BR5.cell 1
    have r2 := BR5.cell 2
    have r3 := BR5.cell 3
    have r4 := BR5.cell 4
    simp only [List.getElem?_toArray, List.getElem?_cons_zero, List.getElem?_cons_succ] at r0 r1 r2 r3 r4
    have z0 := BR5.frozen 0
    have z1 := BR5.frozen 1
    have z2 := BR5.frozen 2
    have z3 := BR5.frozen 3
    have z4 := BR5.frozen 4
    have hRF := (Bx.set_ (Bx.set_ (Bx.set_ (Bx.set_ (Bx.set_ BR5 0 (.int .i64 0)) 1 (.int .i64 0)) 2 (.int .i64 0)) 3 (.slice none 0 0)) 4 (.slice none 0 0))
    have c0 := hRF.cell 0
    have c1 := hRF.cell 1
    have c2 := hRF.cell 2
    have c3 := hRF.cell 3
    have c4 := hRF.cell 4
    simp at c0 c1 c2 c3 c4
    clear hRF
    go_wp2_with fail
    refine bodyPost_ret (v := .tuple #[.agg #[.int .i64 0, .int .i64 0, .int .i64 0, .slice none 0 0, .slice none 0 0], .bool false]) (by simp [results, Try.results12, go_sem, c0, c1, c2, c3, c4]) rfl ?_
    exact ⟨_, zeroF, false, rfl, HA.out, LFloor.Own.zero, (Below.setCell (Below.setCell (Below.setCell (Below.setCell (Below.setCell hbT (p := ⟨w.heap.size + 1, 0, none⟩) (by show w.heap.size ≤ w.heap.size + 1; omega) (.int .i64 0)) (p := ⟨w.heap.size + 1, 1, none⟩) (by show w.heap.size ≤ w.heap.size + 1; omega) (.int .i64 0)) (p := ⟨w.heap.size + 1, 2, none⟩) (by show w.heap.size ≤ w.heap.size + 1; omega) (.int .i64 0)) (p := ⟨w.heap.size + 1, 3, none⟩) (by show w.heap.size ≤ w.heap.size + 1; omega) (.slice none 0 0)) (p := ⟨w.heap.size + 1, 4, none⟩) (by show w.heap.size ≤ w.heap.size + 1; omega) (.slice none 0 0))⟩
  | true =>
  have HA := Lib.hid (show Ans r a1 (Fl.ask r a1) true by unfold Ans answer; rw [HG.out, hm]; rfl)
  clear hm
  have y0 := BO6.cell 0
  have y1 := BO6.cell 1
  have y2 := BO6.cell 2
  have y3 := BO6.cell 3
  have y4 := BO6.cell 4
  simp only [List.getElem?_toArray, List.getElem?_cons_zero, List.getElem?_cons_succ] at y0 y1 y2 y3 y4
  have r0 := BR6.cell 0
  have r1 := BR6.cell 1
  have r2 := BR6.cell 2
  have r3 := BR6.cell 3
  have r4 := BR6.cell 4
  simp only [List.getElem?_toArray, List.getElem?_cons_zero, List.getElem?_cons_succ] at r0 r1 r2 r3 r4
  have z0 := BR6.frozen 0
  have z1 := BR6.frozen 1
  have z2 := BR6.frozen 2
  have z3 := BR6.frozen 3
  have z4 := BR6.frozen 4
  have hRF := (Bx.set_ (Bx.set_ (Bx.set_ (Bx.set_ (Bx.set_ BR6 0 (.int .i64 r.turns)) 1 (.int .i64 r.seconds)) 2 (.int .i64 r.speaking)) 3 (.slice b5 m5 d5)) 4 (.slice (some ⟨g4, 0, none⟩) m4 d4))
  have c0 := hRF.cell 0
  have c1 := hRF.cell 1
  have c2 := hRF.cell 2
  have c3 := hRF.cell 3
  have c4 := hRF.cell 4
  simp at c0 c1 c2 c3 c4
  clear hRF
  go_wp2_with fail
  refine bodyPost_ret (v := .tuple #[.agg #[.int .i64 r.turns, .int .i64 r.seconds, .int .i64 r.speaking, .slice b5 m5 d5, .slice (some ⟨g4, 0, none⟩) m4 d4], .bool true]) (by simp [results, Try.results12, go_sem, c0, c1, c2, c3, c4]) rfl ?_
  exact ⟨_, Fl.ask r a1, true, rfl, HA.out, ⟨_, _, rfl, ((own_set (own_set (own_set (own_set (own_set p3 (p := ⟨w.heap.size + 1, 0, none⟩) (fun k hk => by have h2 := (p3.lt k hk).1; show k ≠ w.heap.size + 1; omega) (.int .i64 r.turns)) (p := ⟨w.heap.size + 1, 1, none⟩) (fun k hk => by have h2 := (p3.lt k hk).1; show k ≠ w.heap.size + 1; omega) (.int .i64 r.seconds)) (p := ⟨w.heap.size + 1, 2, none⟩) (fun k hk => by have h2 := (p3.lt k hk).1; show k ≠ w.heap.size + 1; omega) (.int .i64 r.speaking)) (p := ⟨w.heap.size + 1, 3, none⟩) (fun k hk => by have h2 := (p3.lt k hk).1; show k ≠ w.heap.size + 1; omega) (.slice b5 m5 d5)) (p := ⟨w.heap.size + 1, 4, none⟩) (fun k hk => by have h2 := (p3.lt k hk).1; show k ≠ w.heap.size + 1; omega) (.slice (some ⟨g4, 0, none⟩) m4 d4))).low (by omega), ((own_set (own_set (own_set (own_set (own_set p4 (p := ⟨w.heap.size + 1, 0, none⟩) (fun k hk => by have h2 := (p4.lt k hk).1; show k ≠ w.heap.size + 1; omega) (.int .i64 r.turns)) (p := ⟨w.heap.size + 1, 1, none⟩) (fun k hk => by have h2 := (p4.lt k hk).1; show k ≠ w.heap.size + 1; omega) (.int .i64 r.seconds)) (p := ⟨w.heap.size + 1, 2, none⟩) (fun k hk => by have h2 := (p4.lt k hk).1; show k ≠ w.heap.size + 1; omega) (.int .i64 r.speaking)) (p := ⟨w.heap.size + 1, 3, none⟩) (fun k hk => by have h2 := (p4.lt k hk).1; show k ≠ w.heap.size + 1; omega) (.slice b5 m5 d5)) (p := ⟨w.heap.size + 1, 4, none⟩) (fun k hk => by have h2 := (p4.lt k hk).1; show k ≠ w.heap.size + 1; omega) (.slice (some ⟨g4, 0, none⟩) m4 d4))).low (by omega), HDD.out⟩, (Below.setCell (Below.setCell (Below.setCell (Below.setCell (Below.setCell hbT (p := ⟨w.heap.size + 1, 0, none⟩) (by show w.heap.size ≤ w.heap.size + 1; omega) (.int .i64 r.turns)) (p := ⟨w.heap.size + 1, 1, none⟩) (by show w.heap.size ≤ w.heap.size + 1; omega) (.int .i64 r.seconds)) (p := ⟨w.heap.size + 1, 2, none⟩) (by show w.heap.size ≤ w.heap.size + 1; omega) (.int .i64 r.speaking)) (p := ⟨w.heap.size + 1, 3, none⟩) (by show w.heap.size ≤ w.heap.size + 1; omega) (.slice b5 m5 d5)) (p := ⟨w.heap.size + 1, 4, none⟩) (by show w.heap.size ≤ w.heap.size + 1; omega) (.slice (some ⟨g4, 0, none⟩) m4 d4))⟩
end Go.Proofs.Ytmbffcblhhippaa.AskFloorC
