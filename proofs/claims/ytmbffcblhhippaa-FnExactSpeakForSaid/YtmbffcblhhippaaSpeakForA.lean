/- SpeakFor: what it answers; the model. No condition. -/
import Derived.Test.YtmbffcblhhippaaFlXl
import Derived.Test.YtmbffcblhhippaaFlZ
namespace Go.Proofs.Ytmbffcblhhippaa.SpeakForC
open Go.RowKit Bs Word Sq IntF Fl FlA FlG FlO FlX
set_option linter.unusedVariables false
noncomputable def answer (z0 : F) (a1 : Int) : F × Int × Bool := if (good z0 && (!(z0.speaking == 0) && inB a1 1 3600)) = true then
    (if ((share z0.shares z0.speaking).seconds + min a1 (z0.seconds - (share z0.shares z0.speaking).seconds) == z0.seconds) = true then
      (fin z0 { share z0.shares z0.speaking with seconds := (share z0.shares z0.speaking).seconds + min a1 (z0.seconds - (share z0.shares z0.speaking).seconds) }, min a1 (z0.seconds - (share z0.shares z0.speaking).seconds), true)
    else (withS z0 { share z0.shares z0.speaking with seconds := (share z0.shares z0.speaking).seconds + min a1 (z0.seconds - (share z0.shares z0.speaking).seconds) }, min a1 (z0.seconds - (share z0.shares z0.speaking).seconds), true))
  else (zeroF, 0, false)
def Ans (z0 : F) (a1 : Int) (r0 : F) (r1 : Int) (r2 : Bool) : Prop := (r0, r1, r2) = answer z0 a1
theorem same {z0 : F} {a1 : Int} {r0 s0 : F} {r1 s1 : Int} {r2 s2 : Bool} (h1 : Ans z0 a1 r0 r1 r2) (h2 : Ans z0 a1 s0 s1 s2) : r0 = s0 ∧ r1 = s1 ∧ r2 = s2 := by
  have h := h1.trans h2.symm
  exact ⟨congrArg Prod.fst h, congrArg (fun x => x.2.1) h, congrArg (fun x => x.2.2) h⟩
theorem len0 {z0 : F} {a1 : Int} {r0 : F} {r1 : Int} {r2 : Bool} (h : Ans z0 a1 r0 r1 r2) : r0.waiting.length ≤ 1048576 ∧ r0.shares.length ≤ 1048576 := by
  unfold Ans answer at h
  split at h
  · rename_i hg
    rw [Bool.and_eq_true] at hg
    have h2 := good_lens hg.1
    split at h
    · have h1 := congrArg Prod.fst h; simp only at h1; subst h1
      exact ⟨by show z0.waiting.length ≤ _; omega, Nat.le_trans (show (put z0.shares _).length ≤ z0.shares.length + 1 from put_len _ _) (by omega)⟩
    · have h1 := congrArg Prod.fst h; simp only at h1; subst h1
      exact ⟨by show z0.waiting.length ≤ _; omega, Nat.le_trans (show (put z0.shares _).length ≤ z0.shares.length + 1 from put_len _ _) (by omega)⟩
  · have h1 := congrArg Prod.fst h; simp only at h1; subst h1; simp [zeroF]
def Post (z0 : F) (a1 : Int) (w : World) (e : Ending) (w' : World) : Prop := ∃ v0 r0 r1 r2, e = .returned (.tuple #[v0, .int .i64 r1, .bool r2]) ∧ Ans z0 a1 r0 r1 r2 ∧ LFloor.Own w' w.heap.size v0 r0 ∧ Below w.heap.size w w'
set_option maxRecDepth 100000 in
set_option maxHeartbeats 1600000 in
theorem spec (v0 : Value) (z0 : F) (a1 : Int) (w : World) (h0 : LFloor.IsQ w v0 z0) (f0 : LFloor.Fine z0) (l3 : z0.waiting.length ≤ 1048576) (l4 : z0.shares.length ≤ 1048576) : Calls Try.prog 18 #[v0, .int .i64 a1] w (Post z0 a1 w) := by
  obtain ⟨r, hr⟩ : ∃ r, r = z0 := ⟨_, rfl⟩
  subst hr
  obtain ⟨a3, n3, c3, a4, n4, c4, rfl, HN3, HN4, hb3, hb4, hm3, hm4, HQ3, HQ4, HIQ⟩ := open_isq h0
  clear h0
  have HI := Lib.hid (LFloor.IsQ.is HIQ.out)
  obtain ⟨W0, hW⟩ : ∃ W : World, W = (w.alloc (Obj.cells #[.int .i64 r.turns, .int .i64 r.seconds, .int .i64 r.speaking, .slice a3 n3 c3, .slice a4 n4 c4] 29)).alloc (Obj.cells #[.int .i64 0, .int .i64 0, .int .i64 0, .slice none 0 0, .slice none 0 0] 29) := ⟨_, rfl⟩
  have hbT : Below w.heap.size w W0 := by rw [hW]; exact ((Below.refl _ _).alloc (Nat.le_refl _) _).alloc (by simp) _
  have HZ := Lib.hid (show W0.heap.size = w.heap.size + 2 by rw [hW]; simp)
  have B0 := Lib.hid (show Bx W0 w.heap.size 29 #[.int .i64 r.turns, .int .i64 r.seconds, .int .i64 r.speaking, .slice a3 n3 c3, .slice a4 n4 c4] by rw [hW]; exact (Bx.new _ _ _).alloc _)
  have BR := Lib.hid (show Bx W0 (w.heap.size + 1) 29 #[.int .i64 0, .int .i64 0, .int .i64 0, .slice none 0 0, .slice none 0 0] by rw [hW]; have := Bx.new (w.alloc (Obj.cells #[.int .i64 r.turns, .int .i64 r.seconds, .int .i64 r.speaking, .slice a3 n3 c3, .slice a4 n4 c4] 29)) 29 #[.int .i64 0, .int .i64 0, .int .i64 0, .slice none 0 0, .slice none 0 0]; simpa using this)
  have HL := Lib.hid (And.intro l3 l4)
  clear l3 l4
  have HC := Lib.hid (FlG.l8Good _ r W0 (LFloor.Is.below HI.out hbT))
  have q0 := B0.out.cell 0
  have q1 := B0.out.cell 1
  have q2 := B0.out.cell 2
  have q3 := B0.out.cell 3
  have q4 := B0.out.cell 4
  simp only [List.getElem?_toArray, List.getElem?_cons_zero, List.getElem?_cons_succ] at q0 q1 q2 q3 q4
  go_enter Try.func18, Try.ntmps18
  go_wp2_with fail
  rw [← hW]
  clear hW
  refine HC.out.mono ?_
  rintro e w1 ⟨rfl, hb1⟩
  replace BR := Lib.hid (BR.out.kept hb1)
  replace B0 := Lib.hid (B0.out.kept hb1)
  have HZ1 := Lib.hid (show w.heap.size + 2 ≤ w1.heap.size by have := HZ.out; have := hb1.size; omega)
  replace hbT := hbT.trans (hb1.mono hbT.size)
  clear hb1 q0 q1 q2 q3 q4
  have q0 := B0.out.cell 0
  have q1 := B0.out.cell 1
  have q2 := B0.out.cell 2
  have q3 := B0.out.cell 3
  have q4 := B0.out.cell 4
  simp only [List.getElem?_toArray, List.getElem?_cons_zero, List.getElem?_cons_succ] at q0 q1 q2 q3 q4
  cases hg : good r with
  | false =>
    have HA := Lib.hid (show Ans r a1 zeroF 0 false by unfold Ans answer; rw [hg]; rfl)
    clear hg
    have BR5 := BR.out
    have r0 := BR5.cell 0
    have r1 := BR5.cell 1
    have r2 := BR5.cell 2
    have r3 := BR5.cell 3
    have r4 := BR5.cell 4
    simp only [List.getElem?_toArray, List.getElem?_cons_zero, List.getElem?_cons_succ] at r0 r1 r2 r3 r4
    have z0 := BR5.frozen 0
    have z1 := BR5.frozen 1
    have z2 := BR5.frozen 2
    have z3 := BR5.frozen 3
    have z4 := BR5.frozen 4
    have hRF := (Bx.set_ (Bx.set_ (Bx.set_ (Bx.set_ (Bx.set_ BR5 0 (.int .i64 0)) 1 (.int .i64 0)) 2 (.int .i64 0)) 3 (.slice none 0 0)) 4 (.slice none 0 0))
    have c0 := hRF.cell 0
    have c1 := hRF.cell 1
    have c2 := hRF.cell 2
    have c3 := hRF.cell 3
    have c4 := hRF.cell 4
    simp at c0 c1 c2 c3 c4
    clear hRF
    go_wp2_with fail
    refine bodyPost_ret (v := .tuple #[.agg #[.int .i64 0, .int .i64 0, .int .i64 0, .slice none 0 0, .slice none 0 0], .int .i64 0, .bool false]) (by simp [results, Try.results18, go_sem, c0, c1, c2, c3, c4]) rfl ?_
    exact ⟨_, zeroF, 0, false, rfl, HA.out, LFloor.Own.zero, (Below.setCell (Below.setCell (Below.setCell (Below.setCell (Below.setCell hbT (p := ⟨w.heap.size + 1, 0, none⟩) (by show w.heap.size ≤ w.heap.size + 1; omega) (.int .i64 0)) (p := ⟨w.heap.size + 1, 1, none⟩) (by show w.heap.size ≤ w.heap.size + 1; omega) (.int .i64 0)) (p := ⟨w.heap.size + 1, 2, none⟩) (by show w.heap.size ≤ w.heap.size + 1; omega) (.int .i64 0)) (p := ⟨w.heap.size + 1, 3, none⟩) (by show w.heap.size ≤ w.heap.size + 1; omega) (.slice none 0 0)) (p := ⟨w.heap.size + 1, 4, none⟩) (by show w.heap.size ≤ w.heap.size + 1; omega) (.slice none 0 0))⟩
  | true =>
  cases hs : (r.speaking == 0) with
  | true =>
    have HA := Lib.hid (show Ans r a1 zeroF 0 false by unfold Ans answer; rw [hg, hs]; rfl)
    clear hg
    have BR5 := BR.out
    have r0 := BR5.cell 0
    have r1 := BR5.cell 1
    have r2 := BR5.cell 2
    have r3 := BR5.cell 3
    have r4 := BR5.cell 4
    simp only [List.getElem?_toArray, List.getElem?_cons_zero, List.getElem?_cons_succ] at r0 r1 r2 r3 r4
    have z0 := BR5.frozen 0
    have z1 := BR5.frozen 1
    have z2 := BR5.frozen 2
    have z3 := BR5.frozen 3
    have z4 := BR5.frozen 4
    have hRF := (Bx.set_ (Bx.set_ (Bx.set_ (Bx.set_ (Bx.set_ BR5 0 (.int .i64 0)) 1 (.int .i64 0)) 2 (.int .i64 0)) 3 (.slice none 0 0)) 4 (.slice none 0 0))
    have c0 := hRF.cell 0
    have c1 := hRF.cell 1
    have c2 := hRF.cell 2
    have c3 := hRF.cell 3
    have c4 := hRF.cell 4
    simp at c0 c1 c2 c3 c4
    clear hRF
    go_wp2_with fail
    refine bodyPost_ret (v := .tuple #[.agg #[.int .i64 0, .int .i64 0, .int .i64 0, .slice none 0 0, .slice none 0 0], .int .i64 0, .bool false]) (by simp [results, Try.results18, go_sem, c0, c1, c2, c3, c4]) rfl ?_
    exact ⟨_, zeroF, 0, false, rfl, HA.out, LFloor.Own.zero, (Below.setCell (Below.setCell (Below.setCell (Below.setCell (Below.setCell hbT (p := ⟨w.heap.size + 1, 0, none⟩) (by show w.heap.size ≤ w.heap.size + 1; omega) (.int .i64 0)) (p := ⟨w.heap.size + 1, 1, none⟩) (by show w.heap.size ≤ w.heap.size + 1; omega) (.int .i64 0)) (p := ⟨w.heap.size + 1, 2, none⟩) (by show w.heap.size ≤ w.heap.size + 1; omega) (.int .i64 0)) (p := ⟨w.heap.size + 1, 3, none⟩) (by show w.heap.size ≤ w.heap.size + 1; omega) (.slice none 0 0)) (p := ⟨w.heap.size + 1, 4, none⟩) (by show w.heap.size ≤ w.heap.size + 1; omega) (.slice none 0 0))⟩
  | false =>
  cases ha : inB a1 1 3600 with
  | false =>
    have HA := Lib.hid (show Ans r a1 zeroF 0 false by unfold Ans answer; rw [hg, hs, ha]; rfl)
    have HM := Lib.hid (fun W => in_as a1 1 3600 false ha W)
    clear hg ha
    go_wp2_with fail
    refine (HM.out _).mono ?_
    rintro e _ ⟨rfl, rfl⟩
    have BR5 := BR.out
    have r0 := BR5.cell 0
    have r1 := BR5.cell 1
    have r2 := BR5.cell 2
    have r3 := BR5.cell 3
    have r4 := BR5.cell 4
    simp only [List.getElem?_toArray, List.getElem?_cons_zero, List.getElem?_cons_succ] at r0 r1 r2 r3 r4
    have z0 := BR5.frozen 0
    have z1 := BR5.frozen 1
    have z2 := BR5.frozen 2
    have z3 := BR5.frozen 3
    have z4 := BR5.frozen 4
    have hRF := (Bx.set_ (Bx.set_ (Bx.set_ (Bx.set_ (Bx.set_ BR5 0 (.int .i64 0)) 1 (.int .i64 0)) 2 (.int .i64 0)) 3 (.slice none 0 0)) 4 (.slice none 0 0))
    have c0 := hRF.cell 0
    have c1 := hRF.cell 1
    have c2 := hRF.cell 2
    have c3 := hRF.cell 3
    have c4 := hRF.cell 4
    simp at c0 c1 c2 c3 c4
    clear hRF
    go_wp2_with fail
    refine bodyPost_ret (v := .tuple #[.agg #[.int .i64 0, .int .i64 0, .int .i64 0, .slice none 0 0, .slice none 0 0], .int .i64 0, .bool false]) (by simp [results, Try.results18, go_sem, c0, c1, c2, c3, c4]) rfl ?_
    exact ⟨_, zeroF, 0, false, rfl, HA.out, LFloor.Own.zero, (Below.setCell (Below.setCell (Below.setCell (Below.setCell (Below.setCell hbT (p := ⟨w.heap.size + 1, 0, none⟩) (by show w.heap.size ≤ w.heap.size + 1; omega) (.int .i64 0)) (p := ⟨w.heap.size + 1, 1, none⟩) (by show w.heap.size ≤ w.heap.size + 1; omega) (.int .i64 0)) (p := ⟨w.heap.size + 1, 2, none⟩) (by show w.heap.size ≤ w.heap.size + 1; omega) (.int .i64 0)) (p := ⟨w.heap.size + 1, 3, none⟩) (by show w.heap.size ≤ w.heap.size + 1; omega) (.slice none 0 0)) (p := ⟨w.heap.size + 1, 4, none⟩) (by show w.heap.size ≤ w.heap.size + 1; omega) (.slice none 0 0))⟩
  | true =>
  have HM := Lib.hid (fun W => in_as a1 1 3600 true ha W)
  have hab := inB_yes ha
  obtain ⟨X, hX⟩ : ∃ X, X = share r.shares r.speaking := ⟨_, rfl⟩
  have HGI := Lib.hid (good_in hg r.speaking)
  have HLN := Lib.hid (good_lens hg)
  have hsx : 0 ≤ X.seconds ∧ X.seconds ≤ r.seconds ∧ 1 ≤ r.seconds ∧ r.seconds ≤ 3600 ∧ 0 ≤ X.turns ∧ X.turns ≤ 3 := by rw [hX]; have := HGI.out; omega
  have HXM := Lib.hid (show X.member = r.speaking by rw [hX]; exact share_member _ _)
  obtain ⟨U, hU⟩ : ∃ U, min a1 (r.seconds - X.seconds) = U := ⟨_, rfl⟩
  have hUb : 0 ≤ U ∧ U ≤ 3600 := by omega
  have HAA := Lib.hid (show answer r a1 = (if (X.seconds + U == r.seconds) = true then (fin r { X with seconds := X.seconds + U }, U, true) else (withS r { X with seconds := X.seconds + U }, U, true)) by
    unfold answer; rw [hg, hs, ha, ← hX, hU]; rfl)
  have HSC := Lib.hid (l8Share _ r r.speaking w1 (LFloor.Is.below HI.out hbT))
  rw [← hX] at HSC
  have s1 : IntKind.i64.wrap (r.seconds - X.seconds) = r.seconds - X.seconds := IntWalk.i64_in _ (by omega)
  have s2 : IntKind.i64.wrap (X.seconds + U) = X.seconds + U := IntWalk.i64_in _ (by omega)
  have HU := Lib.hid hU
  have HB := Lib.hid (And.intro hsx hUb)
  clear hX hg ha hU
  go_wp2_with fail
  refine (HM.out _).mono ?_
  rintro e _ ⟨rfl, rfl⟩
  go_wp2_with fail
  refine HSC.out.mono ?_
  rintro e w2 ⟨rfl, hb1⟩
  obtain ⟨G, hG⟩ : ∃ G, G = w2.heap.size := ⟨_, rfl⟩
  obtain ⟨wa, hwa⟩ : ∃ wa : World, wa = w2.alloc (Obj.cells #[.int .i64 X.member, .int .i64 X.turns, .int .i64 X.seconds] 60) := ⟨_, rfl⟩
  have hba : Below w2.heap.size w2 wa := by rw [hwa]; exact (Below.refl _ _).alloc (Nat.le_refl _) _
  have BX := Lib.hid (show Bx wa G 60 #[.int .i64 X.member, .int .i64 X.turns, .int .i64 X.seconds] by rw [hwa, hG]; exact Bx.new _ _ _)
  have HGG := Lib.hid (show w.heap.size + 1 < G by have h1 := HZ1.out; have h2 := hb1.size; omega)
  have hb2 := hb1.trans (hba.mono hb1.size)
  replace B0 := Lib.hid (B0.out.kept hb2)
  replace BR := Lib.hid (BR.out.kept hb2)
  replace hbT := hbT.trans (hb2.mono hbT.size)
  clear hb1 hb2 hba HSC q0 q1 q2 q3 q4 hs
  go_upto_region 4 with fail
  rw [← hwa, ← hG]
  clear hwa hG
  have q0 := B0.out.cell 0
  have q1 := B0.out.cell 1
  have q2 := B0.out.cell 2
  have q3 := B0.out.cell 3
  have q4 := B0.out.cell 4
  simp only [List.getElem?_toArray, List.getElem?_cons_zero, List.getElem?_cons_succ] at q0 q1 q2 q3 q4
  have x0 := BX.out.cell 0
  have x1 := BX.out.cell 1
  have x2 := BX.out.cell 2
  simp only [List.getElem?_toArray, List.getElem?_cons_zero, List.getElem?_cons_succ] at x0 x1 x2
  have f2 := BX.out.frozen 2
  have hU := HU.out
  go_wp2_with fail
  refine (FlX.least a1 (r.seconds - X.seconds) wa).mono ?_
  rintro e _ ⟨rfl, rfl⟩
  obtain ⟨wb, hwb⟩ : ∃ wb : World, wb = wa.setCell ⟨G, 2, none⟩ (.int .i64 (X.seconds + U)) := ⟨_, rfl⟩
  replace B0 := Lib.hid (show Bx wb w.heap.size _ _ by rw [hwb]; exact B0.out.far (p := ⟨G, 2, none⟩) (show w.heap.size ≠ G by have := HGG.out; omega) _)
  replace BR := Lib.hid (show Bx wb (w.heap.size + 1) _ _ by rw [hwb]; exact BR.out.far (p := ⟨G, 2, none⟩) (show w.heap.size + 1 ≠ G by have := HGG.out; omega) _)
  have BX2 := Lib.hid (show Bx wb G 60 #[.int .i64 X.member, .int .i64 X.turns, .int .i64 (X.seconds + U)] by rw [hwb]; exact BX.out.set_ 2 (.int .i64 (X.seconds + U)))
  replace hbT : Below w.heap.size w wb := by rw [hwb]; exact hbT.setCell (p := ⟨G, 2, none⟩) (by show w.heap.size ≤ G; have := HGG.out; omega) _
  have HZB := Lib.hid (show w.heap.size + 1 < wb.heap.size by have h1 := HGG.out; have h2 := BX2.out.lt; omega)
  go_upto_region 6 with fail
  rw [← hwb]
  clear hwb BX x0 x1 x2 f2 hU q0 q1 q2 q3 q4
  have x0 := BX2.out.cell 0
  have x1 := BX2.out.cell 1
  have x2 := BX2.out.cell 2
  simp only [List.getElem?_toArray, List.getElem?_cons_zero, List.getElem?_cons_succ] at x0 x1 x2
  have q0 := B0.out.cell 0
  have q1 := B0.out.cell 1
  have q2 := B0.out.cell 2
  have q3 := B0.out.cell 3
  have q4 := B0.out.cell 4
  simp only [List.getElem?_toArray, List.getElem?_cons_zero, List.getElem?_cons_succ] at q0 q1 q2 q3 q4
  have HWC := Lib.hid (FlY.l8With _ r { X with seconds := X.seconds + U } wb (LFloor.IsQ.below HIQ.out hbT) (by have := HL.out.1; omega) (by have := HL.out.2; omega))
  go_wp2_with fail
  refine HWC.out.mono ?_
  rintro e w3 ⟨v, rfl, hO, hb1⟩
  obtain ⟨u3, u4, rfl, o3, o4, d34⟩ := hO
  obtain ⟨b3, m3, d3, rfl⟩ := own_slice o3
  obtain ⟨b4, m4, d4, rfl⟩ := own_slice o4
  dsimp only [withS]
  obtain ⟨O, hO⟩ : ∃ O, O = w3.heap.size := ⟨_, rfl⟩
  obtain ⟨wc, hwc⟩ : ∃ wc : World, wc = w3.alloc (Obj.cells #[.int .i64 r.turns, .int .i64 r.seconds, .int .i64 r.speaking, .slice b3 m3 d3, .slice b4 m4 d4] 29) := ⟨_, rfl⟩
  have hba : Below w3.heap.size w3 wc := by rw [hwc]; exact (Below.refl _ _).alloc (Nat.le_refl _) _
  have BO := Lib.hid (show Bx wc O 29 #[.int .i64 r.turns, .int .i64 r.seconds, .int .i64 r.speaking, .slice b3 m3 d3, .slice b4 m4 d4] by rw [hwc, hO]; exact Bx.new _ _ _)
  have hb2 := hb1.trans (hba.mono hb1.size)
  replace BR := Lib.hid (BR.out.kept hb2)
  replace B0 := Lib.hid (B0.out.kept hb2)
  replace BX2 := Lib.hid (BX2.out.kept hb2)
  have HO3 := Lib.hid (o3.kept hba)
  have HO4 := Lib.hid (o4.kept hba)
  have HOO := Lib.hid (show w.heap.size + 1 < O by have h1 := HZB.out; have h2 := hb1.size; omega)
  have HD := Lib.hid d34
  replace hbT := hbT.trans (hb2.mono hbT.size)
  clear hb1 hb2 hba o3 o4 d34 HWC x0 x1 x2 q0 q1 q2 q3 q4
  go_upto_region 7 with fail
  rw [← hwc, ← hO]
  clear hwc hO
  have x0 := BX2.out.cell 0
  have x1 := BX2.out.cell 1
  have x2 := BX2.out.cell 2
  simp only [List.getElem?_toArray, List.getElem?_cons_zero, List.getElem?_cons_succ] at x0 x1 x2
  have q0 := B0.out.cell 0
  have q1 := B0.out.cell 1
  have q2 := B0.out.cell 2
  have q3 := B0.out.cell 3
  have q4 := B0.out.cell 4
  simp only [List.getElem?_toArray, List.getElem?_cons_zero, List.getElem?_cons_succ] at q0 q1 q2 q3 q4
  have o0 := BO.out.cell 0
  have o1 := BO.out.cell 1
  have o2 := BO.out.cell 2
  have o3 := BO.out.cell 3
  have o4 := BO.out.cell 4
  simp only [List.getElem?_toArray, List.getElem?_cons_zero, List.getElem?_cons_succ] at o0 o1 o2 o3 o4
  have hzb := HZB.out
  cases hv : (X.seconds + U == r.seconds) with
  | true =>
    have HA := Lib.hid (show Ans r a1 (fin r { X with seconds := X.seconds + U }) U true by unfold Ans; rw [HAA.out, hv]; rfl)
    have HYW := Lib.hid (show yld (withS r { X with seconds := X.seconds + U }) = fin r { X with seconds := X.seconds + U } from yld_with r { X with seconds := X.seconds + U } HXM.out)
    have HY := Lib.hid (FlZ.l8Yield (.agg #[.int .i64 r.turns, .int .i64 r.seconds, .int .i64 r.speaking, .slice b3 m3 d3, .slice b4 m4 d4]) (withS r { X with seconds := X.seconds + U }) wc ⟨_, _, rfl, HO3.out.isQ, HO4.out.isQ⟩ (by have := HL.out.1; show r.waiting.length ≤ _; omega) (Nat.le_trans (show (withS r { X with seconds := X.seconds + U }).shares.length ≤ r.shares.length + 1 from put_len _ _) (by have := HLN.out; omega))
      (by rw [show (withS r { X with seconds := X.seconds + U }).speaking = ({ X with seconds := X.seconds + U } : S).member from HXM.out.symm, show (withS r { X with seconds := X.seconds + U }).shares = put r.shares { X with seconds := X.seconds + U } from rfl, put_share]; have := HB.out; show -1000 ≤ X.turns ∧ X.turns ≤ 1000; omega))
    rw [HYW.out] at HY
    go_wp2_with fail
    refine HY.out.mono ?_
    rintro e w4 ⟨v, rfl, hO, hb1⟩
    obtain ⟨u3, u4, rfl, q3', q4', d56⟩ := hO
    obtain ⟨b5, m5, d5, rfl⟩ := own_slice q3'
    obtain ⟨b6, m6, d6, rfl⟩ := own_slice q4'
    dsimp only [fin]
    have f0 := (BO.out.kept hb1).frozen 0
    have f1 := (BO.out.kept hb1).frozen 1
    have f2 := (BO.out.kept hb1).frozen 2
    have f3 := (BO.out.kept hb1).frozen 3
    have f4 := (BO.out.kept hb1).frozen 4
    clear x0 x1 x2 q0 q1 q2 q3 q4 o0 o1 o2 o3 o4 hv
    have o0 := (BO.out.kept hb1).cell 0
    have o1 := (BO.out.kept hb1).cell 1
    have o2 := (BO.out.kept hb1).cell 2
    have o3 := (BO.out.kept hb1).cell 3
    have o4 := (BO.out.kept hb1).cell 4
    simp only [List.getElem?_toArray, List.getElem?_cons_zero, List.getElem?_cons_succ] at o0 o1 o2 o3 o4
    obtain ⟨wd, hwd⟩ : ∃ wd : World, wd = (((((w4.setCell ⟨O, 0, none⟩ (.int .i64 r.turns)).setCell ⟨O, 1, none⟩ (.int .i64 r.seconds)).setCell ⟨O, 2, none⟩ (.int .i64 0)).setCell ⟨O, 3, none⟩ (.slice b5 m5 d5)).setCell ⟨O, 4, none⟩ (.slice b6 m6 d6)) := ⟨_, rfl⟩
    have BO5 := show Bx wd O 29 #[.int .i64 r.turns, .int .i64 r.seconds, .int .i64 0, .slice b5 m5 d5, .slice b6 m6 d6] by rw [hwd]; exact ((((((BO.out.kept hb1).set_ 0 (.int .i64 r.turns)).set_ 1 (.int .i64 r.seconds)).set_ 2 (.int .i64 0)).set_ 3 (.slice b5 m5 d5)).set_ 4 (.slice b6 m6 d6))
    have BR5 := show Bx wd (w.heap.size + 1) _ _ by rw [hwd]; exact ((((((BR.out.kept hb1).far (p := ⟨O, 0, none⟩) (show w.heap.size + 1 ≠ O by have := HOO.out; omega) (.int .i64 r.turns)).far (p := ⟨O, 1, none⟩) (show w.heap.size + 1 ≠ O by have := HOO.out; omega) (.int .i64 r.seconds)).far (p := ⟨O, 2, none⟩) (show w.heap.size + 1 ≠ O by have := HOO.out; omega) (.int .i64 0)).far (p := ⟨O, 3, none⟩) (show w.heap.size + 1 ≠ O by have := HOO.out; omega) (.slice b5 m5 d5)).far (p := ⟨O, 4, none⟩) (show w.heap.size + 1 ≠ O by have := HOO.out; omega) (.slice b6 m6 d6))
    have p3 := show Bs.Own LInt.rec 3 wd wc.heap.size _ _ by rw [hwd]; exact (own_set (own_set (own_set (own_set (own_set q3' (p := ⟨O, 0, none⟩) (fun k hk => by have h2 := (q3'.lt k hk).1; have h3 := BO.out.lt; show k ≠ O; omega) (.int .i64 r.turns)) (p := ⟨O, 1, none⟩) (fun k hk => by have h2 := (q3'.lt k hk).1; have h3 := BO.out.lt; show k ≠ O; omega) (.int .i64 r.seconds)) (p := ⟨O, 2, none⟩) (fun k hk => by have h2 := (q3'.lt k hk).1; have h3 := BO.out.lt; show k ≠ O; omega) (.int .i64 0)) (p := ⟨O, 3, none⟩) (fun k hk => by have h2 := (q3'.lt k hk).1; have h3 := BO.out.lt; show k ≠ O; omega) (.slice b5 m5 d5)) (p := ⟨O, 4, none⟩) (fun k hk => by have h2 := (q3'.lt k hk).1; have h3 := BO.out.lt; show k ≠ O; omega) (.slice b6 m6 d6))
    have p4 := show Bs.Own LShare.rec 60 wd wc.heap.size _ _ by rw [hwd]; exact (own_set (own_set (own_set (own_set (own_set q4' (p := ⟨O, 0, none⟩) (fun k hk => by have h2 := (q4'.lt k hk).1; have h3 := BO.out.lt; show k ≠ O; omega) (.int .i64 r.turns)) (p := ⟨O, 1, none⟩) (fun k hk => by have h2 := (q4'.lt k hk).1; have h3 := BO.out.lt; show k ≠ O; omega) (.int .i64 r.seconds)) (p := ⟨O, 2, none⟩) (fun k hk => by have h2 := (q4'.lt k hk).1; have h3 := BO.out.lt; show k ≠ O; omega) (.int .i64 0)) (p := ⟨O, 3, none⟩) (fun k hk => by have h2 := (q4'.lt k hk).1; have h3 := BO.out.lt; show k ≠ O; omega) (.slice b5 m5 d5)) (p := ⟨O, 4, none⟩) (fun k hk => by have h2 := (q4'.lt k hk).1; have h3 := BO.out.lt; show k ≠ O; omega) (.slice b6 m6 d6))
    replace hbT : Below w.heap.size w wd := by rw [hwd]; exact (Below.setCell (Below.setCell (Below.setCell (Below.setCell (Below.setCell (hbT.trans (hb1.mono hbT.size)) (p := ⟨O, 0, none⟩) (by show w.heap.size ≤ O; have := HOO.out; omega) (.int .i64 r.turns)) (p := ⟨O, 1, none⟩) (by show w.heap.size ≤ O; have := HOO.out; omega) (.int .i64 r.seconds)) (p := ⟨O, 2, none⟩) (by show w.heap.size ≤ O; have := HOO.out; omega) (.int .i64 0)) (p := ⟨O, 3, none⟩) (by show w.heap.size ≤ O; have := HOO.out; omega) (.slice b5 m5 d5)) (p := ⟨O, 4, none⟩) (by show w.heap.size ≤ O; have := HOO.out; omega) (.slice b6 m6 d6))
    have hol := BO.out.lt
    have hoo := HOO.out
    clear q3' q4'
    go_upto_region 9 with fail
    rw [← hwd]
    clear hwd f0 f1 f2 f3 f4 o0 o1 o2 o3 o4
    have y0 := BO5.cell 0
    have y1 := BO5.cell 1
    have y2 := BO5.cell 2
    have y3 := BO5.cell 3
    have y4 := BO5.cell 4
    simp only [List.getElem?_toArray, List.getElem?_cons_zero, List.getElem?_cons_succ] at y0 y1 y2 y3 y4
    have r0 := BR5.cell 0
    have r1 := BR5.cell 1
    have r2 := BR5.cell 2
    have r3 := BR5.cell 3
    have r4 := BR5.cell 4
    simp only [List.getElem?_toArray, List.getElem?_cons_zero, List.getElem?_cons_succ] at r0 r1 r2 r3 r4
    have z0 := BR5.frozen 0
    have z1 := BR5.frozen 1
    have z2 := BR5.frozen 2
    have z3 := BR5.frozen 3
    have z4 := BR5.frozen 4
    have hRF := (Bx.set_ (Bx.set_ (Bx.set_ (Bx.set_ (Bx.set_ BR5 0 (.int .i64 r.turns)) 1 (.int .i64 r.seconds)) 2 (.int .i64 0)) 3 (.slice b5 m5 d5)) 4 (.slice b6 m6 d6))
    have c0 := hRF.cell 0
    have c1 := hRF.cell 1
    have c2 := hRF.cell 2
    have c3 := hRF.cell 3
    have c4 := hRF.cell 4
    simp at c0 c1 c2 c3 c4
    clear hRF
    go_wp2_with fail
    refine bodyPost_ret (v := .tuple #[.agg #[.int .i64 r.turns, .int .i64 r.seconds, .int .i64 0, .slice b5 m5 d5, .slice b6 m6 d6], .int .i64 U, .bool true]) (by simp [results, Try.results18, go_sem, c0, c1, c2, c3, c4]) rfl ?_
    exact ⟨_, _, U, true, rfl, HA.out, ⟨_, _, rfl, ((own_set (own_set (own_set (own_set (own_set p3 (p := ⟨w.heap.size + 1, 0, none⟩) (fun k hk => by have h2 := (p3.lt k hk).1; show k ≠ w.heap.size + 1; omega) (.int .i64 r.turns)) (p := ⟨w.heap.size + 1, 1, none⟩) (fun k hk => by have h2 := (p3.lt k hk).1; show k ≠ w.heap.size + 1; omega) (.int .i64 r.seconds)) (p := ⟨w.heap.size + 1, 2, none⟩) (fun k hk => by have h2 := (p3.lt k hk).1; show k ≠ w.heap.size + 1; omega) (.int .i64 0)) (p := ⟨w.heap.size + 1, 3, none⟩) (fun k hk => by have h2 := (p3.lt k hk).1; show k ≠ w.heap.size + 1; omega) (.slice b5 m5 d5)) (p := ⟨w.heap.size + 1, 4, none⟩) (fun k hk => by have h2 := (p3.lt k hk).1; show k ≠ w.heap.size + 1; omega) (.slice b6 m6 d6))).low (by omega), ((own_set (own_set (own_set (own_set (own_set p4 (p := ⟨w.heap.size + 1, 0, none⟩) (fun k hk => by have h2 := (p4.lt k hk).1; show k ≠ w.heap.size + 1; omega) (.int .i64 r.turns)) (p := ⟨w.heap.size + 1, 1, none⟩) (fun k hk => by have h2 := (p4.lt k hk).1; show k ≠ w.heap.size + 1; omega) (.int .i64 r.seconds)) (p := ⟨w.heap.size + 1, 2, none⟩) (fun k hk => by have h2 := (p4.lt k hk).1; show k ≠ w.heap.size + 1; omega) (.int .i64 0)) (p := ⟨w.heap.size + 1, 3, none⟩) (fun k hk => by have h2 := (p4.lt k hk).1; show k ≠ w.heap.size + 1; omega) (.slice b5 m5 d5)) (p := ⟨w.heap.size + 1, 4, none⟩) (fun k hk => by have h2 := (p4.lt k hk).1; show k ≠ w.heap.size + 1; omega) (.slice b6 m6 d6))).low (by omega), d56⟩, (Below.setCell (Below.setCell (Below.setCell (Below.setCell (Below.setCell hbT (p := ⟨w.heap.size + 1, 0, none⟩) (by show w.heap.size ≤ w.heap.size + 1; omega) (.int .i64 r.turns)) (p := ⟨w.heap.size + 1, 1, none⟩) (by show w.heap.size ≤ w.heap.size + 1; omega) (.int .i64 r.seconds)) (p := ⟨w.heap.size + 1, 2, none⟩) (by show w.heap.size ≤ w.heap.size + 1; omega) (.int .i64 0)) (p := ⟨w.heap.size + 1, 3, none⟩) (by show w.heap.size ≤ w.heap.size + 1; omega) (.slice b5 m5 d5)) (p := ⟨w.heap.size + 1, 4, none⟩) (by show w.heap.size ≤ w.heap.size + 1; omega) (.slice b6 m6 d6))⟩
  | false =>
    have HA := Lib.hid (show Ans r a1 (withS r { X with seconds := X.seconds + U }) U true by unfold Ans; rw [HAA.out, hv]; rfl)
    clear x0 x1 q0 q2 q3 q4
    go_upto_region 9 with fail
    clear hv x2 q1 o0 o1 o2 o3 o4
    have BO5 := BO.out
    have BR5 := BR.out
    have p3 := HO3.out
    have p4 := HO4.out
    have y0 := BO5.cell 0
    have y1 := BO5.cell 1
    have y2 := BO5.cell 2
    have y3 := BO5.cell 3
    have y4 := BO5.cell 4
    simp only [List.getElem?_toArray, List.getElem?_cons_zero, List.getElem?_cons_succ] at y0 y1 y2 y3 y4
    have r0 := BR5.cell 0
    have r1 := BR5.cell 1
    have r2 := BR5.cell 2
    have r3 := BR5.cell 3
    have r4 := BR5.cell 4
    simp only [List.getElem?_toArray, List.getElem?_cons_zero, List.getElem?_cons_succ] at r0 r1 r2 r3 r4
    have z0 := BR5.frozen 0
    have z1 := BR5.frozen 1
    have z2 := BR5.frozen 2
    have z3 := BR5.frozen 3
    have z4 := BR5.frozen 4
    have hRF := (Bx.set_ (Bx.set_ (Bx.set_ (Bx.set_ (Bx.set_ BR5 0 (.int .i64 r.turns)) 1 (.int .i64 r.seconds)) 2 (.int .i64 r.speaking)) 3 (.slice b3 m3 d3)) 4 (.slice b4 m4 d4))
    have c0 := hRF.cell 0
    have c1 := hRF.cell 1
    have c2 := hRF.cell 2
    have c3 := hRF.cell 3
    have c4 := hRF.cell 4
    simp at c0 c1 c2 c3 c4
    clear hRF
    go_wp2_with fail
    refine bodyPost_ret (v := .tuple #[.agg #[.int .i64 r.turns, .int .i64 r.seconds, .int .i64 r.speaking, .slice b3 m3 d3, .slice b4 m4 d4], .int .i64 U, .bool true]) (by simp [results, Try.results18, go_sem, c0, c1, c2, c3, c4]) rfl ?_
    exact ⟨_, withS r { X with seconds := X.seconds + U }, U, true, rfl, HA.out, ⟨_, _, rfl, ((own_set (own_set (own_set (own_set (own_set p3 (p := ⟨w.heap.size + 1, 0, none⟩) (fun k hk => by have h2 := (p3.lt k hk).1; show k ≠ w.heap.size + 1; omega) (.int .i64 r.turns)) (p := ⟨w.heap.size + 1, 1, none⟩) (fun k hk => by have h2 := (p3.lt k hk).1; show k ≠ w.heap.size + 1; omega) (.int .i64 r.seconds)) (p := ⟨w.heap.size + 1, 2, none⟩) (fun k hk => by have h2 := (p3.lt k hk).1; show k ≠ w.heap.size + 1; omega) (.int .i64 r.speaking)) (p := ⟨w.heap.size + 1, 3, none⟩) (fun k hk => by have h2 := (p3.lt k hk).1; show k ≠ w.heap.size + 1; omega) (.slice b3 m3 d3)) (p := ⟨w.heap.size + 1, 4, none⟩) (fun k hk => by have h2 := (p3.lt k hk).1; show k ≠ w.heap.size + 1; omega) (.slice b4 m4 d4))).low (by omega), ((own_set (own_set (own_set (own_set (own_set p4 (p := ⟨w.heap.size + 1, 0, none⟩) (fun k hk => by have h2 := (p4.lt k hk).1; show k ≠ w.heap.size + 1; omega) (.int .i64 r.turns)) (p := ⟨w.heap.size + 1, 1, none⟩) (fun k hk => by have h2 := (p4.lt k hk).1; show k ≠ w.heap.size + 1; omega) (.int .i64 r.seconds)) (p := ⟨w.heap.size + 1, 2, none⟩) (fun k hk => by have h2 := (p4.lt k hk).1; show k ≠ w.heap.size + 1; omega) (.int .i64 r.speaking)) (p := ⟨w.heap.size + 1, 3, none⟩) (fun k hk => by have h2 := (p4.lt k hk).1; show k ≠ w.heap.size + 1; omega) (.slice b3 m3 d3)) (p := ⟨w.heap.size + 1, 4, none⟩) (fun k hk => by have h2 := (p4.lt k hk).1; show k ≠ w.heap.size + 1; omega) (.slice b4 m4 d4))).low (by omega), HD.out⟩, (Below.setCell (Below.setCell (Below.setCell (Below.setCell (Below.setCell hbT (p := ⟨w.heap.size + 1, 0, none⟩) (by show w.heap.size ≤ w.heap.size + 1; omega) (.int .i64 r.turns)) (p := ⟨w.heap.size + 1, 1, none⟩) (by show w.heap.size ≤ w.heap.size + 1; omega) (.int .i64 r.seconds)) (p := ⟨w.heap.size + 1, 2, none⟩) (by show w.heap.size ≤ w.heap.size + 1; omega) (.int .i64 r.speaking)) (p := ⟨w.heap.size + 1, 3, none⟩) (by show w.heap.size ≤ w.heap.size + 1; omega) (.slice b3 m3 d3)) (p := ⟨w.heap.size + 1, 4, none⟩) (by show w.heap.size ≤ w.heap.size + 1; omega) (.slice b4 m4 d4))⟩
end Go.Proofs.Ytmbffcblhhippaa.SpeakForC
