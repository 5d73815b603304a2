/- Floors: a copy made by the program. No condition. -/
import Derived.Test.YtmbffcblhhippaaFlZ
import Derived.Test.YtmbffcblhhippaaLShareKinsert
import Derived.Deep.CutBlock
namespace Go.Proofs.Ytmbffcblhhippaa.FlP
open Go.RowKit Bs Word Sq IntF Fl FlA FlG FlO
set_option linter.unusedVariables false
/-- both slices made anew, those that wait first -/
def Made (v : Value) : Prop := ∃ x0 x1 x2 g3 m3 d3 g4 m4 d4, v = .agg #[x0, x1, x2, .slice (some ⟨g3, 0, none⟩) m3 d3, .slice (some ⟨g4, 0, none⟩) m4 d4] ∧ g3 < g4
set_option maxRecDepth 100000 in
set_option maxHeartbeats 1600000 in
theorem copyFloor (v0 : Value) (r : F) (w : World) (h0 : LFloor.IsQ w v0 r) (hl3 : r.waiting.length ≤ 1048577) (hl4 : r.shares.length ≤ 1048577) :
    Calls Try.prog 39 #[v0] w fun e w' => ∃ v, e = .returned v ∧ LFloor.Own w' w.heap.size v r ∧ Made v ∧ Below w.heap.size w w' := by
  obtain ⟨a3, n3, c3, a4, n4, c4, rfl, HN3, HN4, hb3, hb4, hm3, hm4, HQ3, HQ4, HIQ⟩ := open_isq h0
  clear h0
  have HI := Lib.hid (LFloor.IsQ.is HIQ.out)
  have hl3' : n3 ≤ 1048577 := by have := HN3.out; omega
  have hl4' : n4 ≤ 1048577 := by have := HN4.out; omega
  clear hl3 hl4
  obtain ⟨i3, hi, hz0, hz1, hz2⟩ := info_parts LInt.infoK
  have HI3 := Lib.hid hi
  have HZ3 := Lib.hid (And.intro hz0 (And.intro hz1 hz2))
  clear hi hz0 hz1 hz2
  obtain ⟨i4, hi, hz0, hz1, hz2⟩ := info_parts LShare.infoK
  have HI4 := Lib.hid hi
  have HZ4 := Lib.hid (And.intro hz0 (And.intro hz1 hz2))
  clear hi hz0 hz1 hz2
  obtain ⟨W0, hW⟩ : ∃ W : World, W = ((w.alloc (Obj.cells #[.int .i64 r.turns, .int .i64 r.seconds, .int .i64 r.speaking, .slice a3 n3 c3, .slice a4 n4 c4] 29)).alloc (Obj.cells #[.int .i64 0, .int .i64 0, .int .i64 0, .slice none 0 0, .slice none 0 0] 29)).alloc (Obj.cells #[.int .i64 r.turns, .int .i64 r.seconds, .int .i64 r.speaking, .slice a3 n3 c3, .slice a4 n4 c4] 29) := ⟨_, rfl⟩
  have hbT : Below w.heap.size w W0 := by rw [hW]; exact (((Below.refl _ _).alloc (Nat.le_refl _) _).alloc (by simp) _).alloc (by simp; omega) _
  have HZ := Lib.hid (show W0.heap.size = w.heap.size + 3 by rw [hW]; simp)
  have B0 := Lib.hid (show Bx W0 w.heap.size 29 #[.int .i64 r.turns, .int .i64 r.seconds, .int .i64 r.speaking, .slice a3 n3 c3, .slice a4 n4 c4] by rw [hW]; exact ((Bx.new _ _ _).alloc _).alloc _)
  have BR := Lib.hid (show Bx W0 (w.heap.size + 1) 29 #[.int .i64 0, .int .i64 0, .int .i64 0, .slice none 0 0, .slice none 0 0] by rw [hW]; have := (Bx.new (w.alloc (Obj.cells #[.int .i64 r.turns, .int .i64 r.seconds, .int .i64 r.speaking, .slice a3 n3 c3, .slice a4 n4 c4] 29)) 29 #[.int .i64 0, .int .i64 0, .int .i64 0, .slice none 0 0, .slice none 0 0]).alloc (Obj.cells #[.int .i64 r.turns, .int .i64 r.seconds, .int .i64 r.speaking, .slice a3 n3 c3, .slice a4 n4 c4] 29); simpa using this)
  have BC := Lib.hid (show Bx W0 (w.heap.size + 2) 29 #[.int .i64 r.turns, .int .i64 r.seconds, .int .i64 r.speaking, .slice a3 n3 c3, .slice a4 n4 c4] by rw [hW]; have := Bx.new ((w.alloc (Obj.cells #[.int .i64 r.turns, .int .i64 r.seconds, .int .i64 r.speaking, .slice a3 n3 c3, .slice a4 n4 c4] 29)).alloc (Obj.cells #[.int .i64 0, .int .i64 0, .int .i64 0, .slice none 0 0, .slice none 0 0] 29)) 29 #[.int .i64 r.turns, .int .i64 r.seconds, .int .i64 r.speaking, .slice a3 n3 c3, .slice a4 n4 c4]; simpa using this)
  have q3 := B0.out.cell 3
  simp only [List.getElem?_toArray, List.getElem?_cons_zero, List.getElem?_cons_succ] at q3
  have fC := BC.out.frozen 3
  have tC := BC.out.cell 3
  simp only [List.getElem?_toArray, List.getElem?_cons_zero, List.getElem?_cons_succ] at tC
  go_enter Try.func39, Try.ntmps39
  go_upto_region 2 with fail
  rw [← hW]
  (try rw [show w.heap.size + 1 + 1 = w.heap.size + 2 from rfl])
  clear hW
  obtain ⟨g3, hg3⟩ : ∃ g, g = W0.heap.size := ⟨_, rfl⟩
  have HGE := Lib.hid hg3
  go_wp2_with (at_make; refine wpList_make_full _ rfl (.tmp 7) (.tmp 7) 22 rfl W0.heap.size 3 i3 (.int .i64 0) 1 Try.underlying22 HI3.out HZ3.out.1 HZ3.out.2.1 .i64 .i64 _ _ n3 rfl rfl rfl rfl ?m31 ?m32 ?m33 ?m34)
  case m31 => rw [HZ3.out.2.2]; omega
  case m32 => unfold maxLen; omega
  case m33 => exact Nat.le_refl _
  case m34 =>
  intro w1 hown hgrow
  have hb1 : Below W0.heap.size W0 w1 := (Below.refl _ _).grown hgrow (Nat.le_refl _) (fun k hk => by cases hk)
  have o3 : Bs.Own LInt.rec 3 w1 W0.heap.size (.slice (some ⟨g3, 0, none⟩) n3 n3) (List.replicate n3 LInt.zero) := by
    unfold Bs.Own; rw [List.length_replicate, ← LInt.made_zero n3, hg3]; exact hown
  have HG3 := Lib.hid (show g3 < w1.heap.size from (o3.lt g3 rfl).2)
  rw [← hg3]
  replace B0 := Lib.hid (B0.out.kept hb1)
  replace BR := Lib.hid (BR.out.kept hb1)
  replace BC := Lib.hid (BC.out.kept hb1)
  replace hbT := hbT.trans (hb1.mono hbT.size)
  clear hown hgrow hb1 q3 fC tC
  have fC := BC.out.frozen 3
  have tC := BC.out.cell 3
  simp only [List.getElem?_toArray, List.getElem?_cons_zero, List.getElem?_cons_succ] at tC
  obtain ⟨wa, hwa⟩ : ∃ wa : World, wa = w1.setCell ⟨w.heap.size + 2, 3, none⟩ (.slice (some ⟨g3, 0, none⟩) n3 n3) := ⟨_, rfl⟩
  have HGW := Lib.hid (show w.heap.size + 2 < g3 by have := HZ.out; omega)
  have HO3 := Lib.hid (show Bs.Own LInt.rec 3 wa W0.heap.size _ _ by rw [hwa]; exact own_set o3 (p := ⟨w.heap.size + 2, 3, none⟩) (fun k hk => by have h2 := (o3.lt k hk).1; have h3 := HZ.out; show k ≠ w.heap.size + 2; omega) (.slice (some ⟨g3, 0, none⟩) n3 n3))
  replace B0 := Lib.hid (show Bx wa w.heap.size _ _ by rw [hwa]; exact B0.out.far (p := ⟨w.heap.size + 2, 3, none⟩) (show w.heap.size ≠ w.heap.size + 2 by omega) _)
  replace BR := Lib.hid (show Bx wa (w.heap.size + 1) _ _ by rw [hwa]; exact BR.out.far (p := ⟨w.heap.size + 2, 3, none⟩) (show w.heap.size + 1 ≠ w.heap.size + 2 by omega) _)
  replace BC := Lib.hid (show Bx wa (w.heap.size + 2) 29 #[.int .i64 r.turns, .int .i64 r.seconds, .int .i64 r.speaking, .slice (some ⟨g3, 0, none⟩) n3 n3, .slice a4 n4 c4] by rw [hwa]; exact BC.out.set_ 3 (.slice (some ⟨g3, 0, none⟩) n3 n3))
  replace hbT : Below w.heap.size w wa := by rw [hwa]; exact hbT.setCell (p := ⟨w.heap.size + 2, 3, none⟩) (by show w.heap.size ≤ w.heap.size + 2; omega) _
  replace HG3 := Lib.hid (show g3 < wa.heap.size by rw [hwa]; simpa using HG3.out)
  clear o3
  go_upto_region 3 with fail
  (try rw [← hg3])
  (try rw [show w.heap.size + 1 + 1 = w.heap.size + 2 from rfl])
  rw [← hwa]
  clear hwa fC tC hg3
  have q3 := B0.out.cell 3
  have t3 := BC.out.cell 3
  simp only [List.getElem?_toArray, List.getElem?_cons_zero, List.getElem?_cons_succ] at q3 t3
  have HCP3 := Lib.hid (show ∃ wx, (Builtin.copy_ #[22, 22] 3 #[.slice (some ⟨g3, 0, none⟩) n3 n3, .slice a3 n3 c3]).run Try.prog wa = .ok (goInt (n3 : Int)) wx ∧ Bs.Own LInt.rec 3 wx W0.heap.size (.slice (some ⟨g3, 0, none⟩) n3 n3) r.waiting ∧ Apart g3 (g3 + 1) wa wx from
      copy_full wa 22 22 3 Try.underlying22 (by kernel_rfl) HO3.out HN3.out ((HQ3.out _ hbT).src).1)
  obtain ⟨wb, hrun, o3, hap⟩ := HCP3.out
  clear HCP3
  go_upto_region 4 with (at_builtin; refine wpList_copy_runI _ rfl (.tmp 11) (.tmp 13) 22 22 rfl _ _ rfl rfl hrun ?_)
  replace B0 := Lib.hid (box_apart B0.out hap (.inl (by have := HGW.out; omega)))
  replace BR := Lib.hid (box_apart BR.out hap (.inl (by have := HGW.out; omega)))
  replace BC := Lib.hid (box_apart BC.out hap (.inl (by have := HGW.out; omega)))
  replace HO3 := Lib.hid o3
  replace HG3 := Lib.hid (Nat.lt_of_lt_of_le HG3.out hap.size)
  replace hbT := hbT.trans (hap.below (by have := HGW.out; omega) hbT.size)
  clear o3 hap hrun q3 t3
  have q4 := B0.out.cell 4
  have tC := BC.out.cell 4
  have fC := BC.out.frozen 4
  simp only [List.getElem?_toArray, List.getElem?_cons_zero, List.getElem?_cons_succ] at q4 tC
  obtain ⟨g4, hg4⟩ : ∃ g, g = wb.heap.size := ⟨_, rfl⟩
  go_wp2_with (at_make; refine wpList_make_full _ rfl (.tmp 17) (.tmp 17) 27 rfl wb.heap.size 60 i4 (.agg #[.int .i64 0, .int .i64 0, .int .i64 0]) 3 Try.underlying27 HI4.out HZ4.out.1 HZ4.out.2.1 .i64 .i64 _ _ n4 rfl rfl rfl rfl ?m41 ?m42 ?m43 ?m44)
  case m41 => rw [HZ4.out.2.2]; omega
  case m42 => unfold maxLen; omega
  case m43 => exact Nat.le_refl _
  case m44 =>
  intro w2 hown hgrow
  have hb1 : Below wb.heap.size wb w2 := (Below.refl _ _).grown hgrow (Nat.le_refl _) (fun k hk => by cases hk)
  have o4 : Bs.Own LShare.rec 60 w2 wb.heap.size (.slice (some ⟨g4, 0, none⟩) n4 n4) (List.replicate n4 LShare.zero) := by
    unfold Bs.Own; rw [List.length_replicate, ← LShare.made_zero n4, hg4]; exact hown
  have HG4 := Lib.hid (show g3 < g4 ∧ W0.heap.size ≤ g4 by rw [hg4]; have := HG3.out; have := HGE.out; omega)
  rw [← hg4]
  replace o4 := o4.low (A' := W0.heap.size) (by have := HG3.out; have := HGE.out; omega)
  replace B0 := Lib.hid (B0.out.kept hb1)
  replace BR := Lib.hid (BR.out.kept hb1)
  replace BC := Lib.hid (BC.out.kept hb1)
  have o3 := HO3.out.kept hb1
  replace hbT := hbT.trans (hb1.mono hbT.size)
  clear hown hgrow hb1 q4 fC tC HO3
  have fC := BC.out.frozen 4
  have tC := BC.out.cell 4
  simp only [List.getElem?_toArray, List.getElem?_cons_zero, List.getElem?_cons_succ] at tC
  obtain ⟨wa, hwa⟩ : ∃ wa : World, wa = w2.setCell ⟨w.heap.size + 2, 4, none⟩ (.slice (some ⟨g4, 0, none⟩) n4 n4) := ⟨_, rfl⟩
  have HO3 := Lib.hid (show Bs.Own LInt.rec 3 wa W0.heap.size _ _ by rw [hwa]; exact own_set o3 (p := ⟨w.heap.size + 2, 4, none⟩) (fun k hk => by have h2 := (o3.lt k hk).1; have h3 := HZ.out; show k ≠ w.heap.size + 2; omega) (.slice (some ⟨g4, 0, none⟩) n4 n4))
  have HO4 := Lib.hid (show Bs.Own LShare.rec 60 wa W0.heap.size _ _ by rw [hwa]; exact own_set o4 (p := ⟨w.heap.size + 2, 4, none⟩) (fun k hk => by have h2 := (o4.lt k hk).1; have h3 := HZ.out; show k ≠ w.heap.size + 2; omega) (.slice (some ⟨g4, 0, none⟩) n4 n4))
  replace B0 := Lib.hid (show Bx wa w.heap.size _ _ by rw [hwa]; exact B0.out.far (p := ⟨w.heap.size + 2, 4, none⟩) (show w.heap.size ≠ w.heap.size + 2 by omega) _)
  replace BR := Lib.hid (show Bx wa (w.heap.size + 1) _ _ by rw [hwa]; exact BR.out.far (p := ⟨w.heap.size + 2, 4, none⟩) (show w.heap.size + 1 ≠ w.heap.size + 2 by omega) _)
  replace BC := Lib.hid (show Bx wa (w.heap.size + 2) 29 #[.int .i64 r.turns, .int .i64 r.seconds, .int .i64 r.speaking, .slice (some ⟨g3, 0, none⟩) n3 n3, .slice (some ⟨g4, 0, none⟩) n4 n4] by rw [hwa]; exact BC.out.set_ 4 (.slice (some ⟨g4, 0, none⟩) n4 n4))
  replace hbT : Below w.heap.size w wa := by rw [hwa]; exact hbT.setCell (p := ⟨w.heap.size + 2, 4, none⟩) (by show w.heap.size ≤ w.heap.size + 2; omega) _
  clear o3 o4
  go_upto_region 5 with fail
  (try rw [← hg4])
  (try rw [show w.heap.size + 1 + 1 = w.heap.size + 2 from rfl])
  rw [← hwa]
  clear hwa fC tC hg4
  have q4 := B0.out.cell 4
  have t4 := BC.out.cell 4
  simp only [List.getElem?_toArray, List.getElem?_cons_zero, List.getElem?_cons_succ] at q4 t4
  have HCP4 := Lib.hid (show ∃ wx, (Builtin.copy_ #[27, 27] 3 #[.slice (some ⟨g4, 0, none⟩) n4 n4, .slice a4 n4 c4]).run Try.prog wa = .ok (goInt (n4 : Int)) wx ∧ Bs.Own LShare.rec 60 wx W0.heap.size (.slice (some ⟨g4, 0, none⟩) n4 n4) r.shares ∧ Apart g4 (g4 + 1) wa wx from
      copy_full wa 27 27 3 Try.underlying27 (by kernel_rfl) HO4.out HN4.out ((HQ4.out _ hbT).src).1)
  obtain ⟨wz, hrun, o4, hap⟩ := HCP4.out
  clear HCP4
  go_upto_region 6 with (at_builtin; refine wpList_copy_runI _ rfl (.tmp 21) (.tmp 23) 27 27 rfl _ _ rfl rfl hrun ?_)
  have BR5 := box_apart BR.out hap (.inl (by have := HGW.out; have := HG4.out; omega))
  have BC5 := box_apart BC.out hap (.inl (by have := HGW.out; have := HG4.out; omega))
  have p3 := own_apart HO3.out hap (fun k hk => by (have h2 : g3 = k := by simpa [Value.ownBlock] using hk); have := HG4.out; omega)
  have p4 := o4
  replace hbT := hbT.trans (hap.below (B' := w.heap.size) (by have := HGW.out; have := HG4.out; omega) hbT.size)
  clear hap hrun q4 t4
  have hz := HZ.out
  have y0 := BC5.cell 0
  have y1 := BC5.cell 1
  have y2 := BC5.cell 2
  have y3 := BC5.cell 3
  have y4 := BC5.cell 4
  simp only [List.getElem?_toArray, List.getElem?_cons_zero, List.getElem?_cons_succ] at y0 y1 y2 y3 y4
  have r0 := BR5.cell 0
  have r1 := BR5.cell 1
  have r2 := BR5.cell 2
  have r3 := BR5.cell 3
  have r4 := BR5.cell 4
  simp only [List.getElem?_toArray, List.getElem?_cons_zero, List.getElem?_cons_succ] at r0 r1 r2 r3 r4
  have z0 := BR5.frozen 0
  have z1 := BR5.frozen 1
  have z2 := BR5.frozen 2
  have z3 := BR5.frozen 3
  have z4 := BR5.frozen 4
  have hRF := (Bx.set_ (Bx.set_ (Bx.set_ (Bx.set_ (Bx.set_ BR5 0 (.int .i64 r.turns)) 1 (.int .i64 r.seconds)) 2 (.int .i64 r.speaking)) 3 (.slice (some ⟨g3, 0, none⟩) n3 n3)) 4 (.slice (some ⟨g4, 0, none⟩) n4 n4))
  have c0 := hRF.cell 0
  have c1 := hRF.cell 1
  have c2 := hRF.cell 2
  have c3 := hRF.cell 3
  have c4 := hRF.cell 4
  simp at c0 c1 c2 c3 c4
  clear hRF
  go_wp2_with fail
  refine bodyPost_ret (v := .agg #[.int .i64 r.turns, .int .i64 r.seconds, .int .i64 r.speaking, .slice (some ⟨g3, 0, none⟩) n3 n3, .slice (some ⟨g4, 0, none⟩) n4 n4]) (by simp [results, Try.results39, go_sem, c0, c1, c2, c3, c4]) rfl ?_
  exact ⟨_, rfl, ⟨_, _, rfl, ((own_set (own_set (own_set (own_set (own_set p3 (p := ⟨w.heap.size + 1, 0, none⟩) (fun k hk => by have h2 := (p3.lt k hk).1; show k ≠ w.heap.size + 1; omega) (.int .i64 r.turns)) (p := ⟨w.heap.size + 1, 1, none⟩) (fun k hk => by have h2 := (p3.lt k hk).1; show k ≠ w.heap.size + 1; omega) (.int .i64 r.seconds)) (p := ⟨w.heap.size + 1, 2, none⟩) (fun k hk => by have h2 := (p3.lt k hk).1; show k ≠ w.heap.size + 1; omega) (.int .i64 r.speaking)) (p := ⟨w.heap.size + 1, 3, none⟩) (fun k hk => by have h2 := (p3.lt k hk).1; show k ≠ w.heap.size + 1; omega) (.slice (some ⟨g3, 0, none⟩) n3 n3)) (p := ⟨w.heap.size + 1, 4, none⟩) (fun k hk => by have h2 := (p3.lt k hk).1; show k ≠ w.heap.size + 1; omega) (.slice (some ⟨g4, 0, none⟩) n4 n4))).low (by omega), ((own_set (own_set (own_set (own_set (own_set p4 (p := ⟨w.heap.size + 1, 0, none⟩) (fun k hk => by have h2 := (p4.lt k hk).1; show k ≠ w.heap.size + 1; omega) (.int .i64 r.turns)) (p := ⟨w.heap.size + 1, 1, none⟩) (fun k hk => by have h2 := (p4.lt k hk).1; show k ≠ w.heap.size + 1; omega) (.int .i64 r.seconds)) (p := ⟨w.heap.size + 1, 2, none⟩) (fun k hk => by have h2 := (p4.lt k hk).1; show k ≠ w.heap.size + 1; omega) (.int .i64 r.speaking)) (p := ⟨w.heap.size + 1, 3, none⟩) (fun k hk => by have h2 := (p4.lt k hk).1; show k ≠ w.heap.size + 1; omega) (.slice (some ⟨g3, 0, none⟩) n3 n3)) (p := ⟨w.heap.size + 1, 4, none⟩) (fun k hk => by have h2 := (p4.lt k hk).1; show k ≠ w.heap.size + 1; omega) (.slice (some ⟨g4, 0, none⟩) n4 n4))).low (by omega), fun k h1 h2 => by cases h1; cases h2; have := HG4.out; omega⟩, ⟨_, _, _, _, _, _, _, _, _, rfl, HG4.out.1⟩, (Below.setCell (Below.setCell (Below.setCell (Below.setCell (Below.setCell hbT (p := ⟨w.heap.size + 1, 0, none⟩) (by show w.heap.size ≤ w.heap.size + 1; omega) (.int .i64 r.turns)) (p := ⟨w.heap.size + 1, 1, none⟩) (by show w.heap.size ≤ w.heap.size + 1; omega) (.int .i64 r.seconds)) (p := ⟨w.heap.size + 1, 2, none⟩) (by show w.heap.size ≤ w.heap.size + 1; omega) (.int .i64 r.speaking)) (p := ⟨w.heap.size + 1, 3, none⟩) (by show w.heap.size ≤ w.heap.size + 1; omega) (.slice (some ⟨g3, 0, none⟩) n3 n3)) (p := ⟨w.heap.size + 1, 4, none⟩) (by show w.heap.size ≤ w.heap.size + 1; omega) (.slice (some ⟨g4, 0, none⟩) n4 n4))⟩
end Go.Proofs.Ytmbffcblhhippaa.FlP
