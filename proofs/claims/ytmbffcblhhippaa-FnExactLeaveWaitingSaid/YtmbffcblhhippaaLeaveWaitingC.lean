/- LeaveWaiting: what it answers, on both sides. No condition. -/
import Derived.Test.YtmbffcblhhippaaFlX
import Derived.Test.YtmbffcblhhippaaFlDw
import Derived.Test.YtmbffcblhhippaaFlV
import Derived.Test.YtmbffcblhhippaaFlW
import Derived.Deep.CutBlock
namespace Go.Proofs.Ytmbffcblhhippaa.LeaveWaitingC
open Go.RowKit Bs Word Sq IntF Fl FlA FlG FlO FlX
set_option linter.unusedVariables false
noncomputable def answer (z0 : F) (a1 : Int) : F × Bool := if (good z0 && hasB z0.waiting a1) = true then ({ z0 with waiting := LIntDelDrop.kept z0.waiting a1 }, true) else (zeroF, false)
def Ans (z0 : F) (a1 : Int) (r0 : F) (r1 : Bool) : Prop := (r0, r1) = answer z0 a1
theorem same {z0 : F} {a1 : Int} {r0 s0 : F} {r1 s1 : Bool} (h1 : Ans z0 a1 r0 r1) (h2 : Ans z0 a1 s0 s1) : r0 = s0 ∧ r1 = s1 := by
  have h := h1.trans h2.symm
  exact ⟨congrArg Prod.fst h, congrArg Prod.snd h⟩
theorem len0 {z0 : F} {a1 : Int} {r0 : F} {r1 : Bool} (h : Ans z0 a1 r0 r1) : r0.waiting.length ≤ 1048576 ∧ r0.shares.length ≤ 1048576 := by
  unfold Ans answer at h
  split at h
  · rename_i hg
    have h1 := congrArg Prod.fst h; simp only at h1; subst h1
    rw [Bool.and_eq_true] at hg
    have h2 := good_lens hg.1
    exact ⟨by show (z0.waiting.filter _).length ≤ _; have := List.length_filter_le (fun x => !(x == a1)) z0.waiting; omega, by show z0.shares.length ≤ _; omega⟩
  · have h1 := congrArg Prod.fst h; simp only at h1; subst h1; simp [zeroF]
def Post (z0 : F) (a1 : Int) (w : World) (e : Ending) (w' : World) : Prop := ∃ v0 r0 r1, e = .returned (.tuple #[v0, .bool r1]) ∧ Ans z0 a1 r0 r1 ∧ LFloor.Own w' w.heap.size v0 r0 ∧ Below w.heap.size w w'
set_option maxRecDepth 100000 in
set_option maxHeartbeats 1600000 in
theorem spec (v0 : Value) (z0 : F) (a1 : Int) (w : World) (h0 : LFloor.IsQ w v0 z0) (f0 : LFloor.Fine z0) (l3 : z0.waiting.length ≤ 1048576) (l4 : z0.shares.length ≤ 1048576) : Calls Try.prog 22 #[v0, .int .i64 a1] w (Post z0 a1 w) := by
  obtain ⟨r, hr⟩ : ∃ r, r = z0 := ⟨_, rfl⟩
  subst hr
  obtain ⟨a3, n3, c3, a4, n4, c4, rfl, HN3, HN4, hb3, hb4, hm3, hm4, HQ3, HQ4, HIQ⟩ := open_isq h0
  clear h0
  have HI := Lib.hid (LFloor.IsQ.is HIQ.out)
  obtain ⟨W0, hW⟩ : ∃ W : World, W = (w.alloc (Obj.cells #[.int .i64 r.turns, .int .i64 r.seconds, .int .i64 r.speaking, .slice a3 n3 c3, .slice a4 n4 c4] 29)).alloc (Obj.cells #[.int .i64 0, .int .i64 0, .int .i64 0, .slice none 0 0, .slice none 0 0] 29) := ⟨_, rfl⟩
  have hbT : Below w.heap.size w W0 := by rw [hW]; exact ((Below.refl _ _).alloc (Nat.le_refl _) _).alloc (by simp) _
  have HZ := Lib.hid (show W0.heap.size = w.heap.size + 2 by rw [hW]; simp)
  have B0 := Lib.hid (show Bx W0 w.heap.size 29 #[.int .i64 r.turns, .int .i64 r.seconds, .int .i64 r.speaking, .slice a3 n3 c3, .slice a4 n4 c4] by rw [hW]; exact (Bx.new _ _ _).alloc _)
  have BR := Lib.hid (show Bx W0 (w.heap.size + 1) 29 #[.int .i64 0, .int .i64 0, .int .i64 0, .slice none 0 0, .slice none 0 0] by rw [hW]; have := Bx.new (w.alloc (Obj.cells #[.int .i64 r.turns, .int .i64 r.seconds, .int .i64 r.speaking, .slice a3 n3 c3, .slice a4 n4 c4] 29)) 29 #[.int .i64 0, .int .i64 0, .int .i64 0, .slice none 0 0, .slice none 0 0]; simpa using this)
  have HL := Lib.hid (And.intro l3 l4)
  clear l3 l4
  have HC := Lib.hid (FlG.l8Good _ r W0 (LFloor.Is.below HI.out hbT))
  have q0 := B0.out.cell 0
  have q1 := B0.out.cell 1
  have q2 := B0.out.cell 2
  have q3 := B0.out.cell 3
  have q4 := B0.out.cell 4
  simp only [List.getElem?_toArray, List.getElem?_cons_zero, List.getElem?_cons_succ] at q0 q1 q2 q3 q4
  go_enter Try.func22, Try.ntmps22
  go_wp2_with fail
  rw [← hW]
  clear hW
  refine HC.out.mono ?_
  rintro e w1 ⟨rfl, hb1⟩
  replace BR := Lib.hid (BR.out.kept hb1)
  replace B0 := Lib.hid (B0.out.kept hb1)
  have HZ1 := Lib.hid (show w.heap.size + 2 ≤ w1.heap.size by have := HZ.out; have := hb1.size; omega)
  replace hbT := hbT.trans (hb1.mono hbT.size)
  clear hb1 q0 q1 q2 q3 q4
  have q0 := B0.out.cell 0
  have q1 := B0.out.cell 1
  have q2 := B0.out.cell 2
  have q3 := B0.out.cell 3
  have q4 := B0.out.cell 4
  simp only [List.getElem?_toArray, List.getElem?_cons_zero, List.getElem?_cons_succ] at q0 q1 q2 q3 q4
  cases hg : good r with
  | false =>
    have HA := Lib.hid (show Ans r a1 zeroF false by unfold Ans answer; rw [hg]; rfl)
    clear hg
    have BR5 := BR.out
    have r0 := BR5.cell 0
    have r1 := BR5.cell 1
    have r2 := BR5.cell 2
    have r3 := BR5.cell 3
    have r4 := BR5.cell 4
    simp only [List.getElem?_toArray, List.getElem?_cons_zero, List.getElem?_cons_succ] at r0 r1 r2 r3 r4
    have z0 := BR5.frozen 0
    have z1 := BR5.frozen 1
    have z2 := BR5.frozen 2
    have z3 := BR5.frozen 3
    have z4 := BR5.frozen 4
    have hRF := (Bx.set_ (Bx.set_ (Bx.set_ (Bx.set_ (Bx.set_ BR5 0 (.int .i64 0)) 1 (.int .i64 0)) 2 (.int .i64 0)) 3 (.slice none 0 0)) 4 (.slice none 0 0))
    have c0 := hRF.cell 0
    have c1 := hRF.cell 1
    have c2 := hRF.cell 2
    have c3 := hRF.cell 3
    have c4 := hRF.cell 4
    simp at c0 c1 c2 c3 c4
    clear hRF
    go_wp2_with fail
    refine bodyPost_ret (v := .tuple #[.agg #[.int .i64 0, .int .i64 0, .int .i64 0, .slice none 0 0, .slice none 0 0], .bool false]) (by simp [results, Try.results22, go_sem, c0, c1, c2, c3, c4]) rfl ?_
    exact ⟨_, zeroF, false, rfl, HA.out, LFloor.Own.zero, (Below.setCell (Below.setCell (Below.setCell (Below.setCell (Below.setCell hbT (p := ⟨w.heap.size + 1, 0, none⟩) (by show w.heap.size ≤ w.heap.size + 1; omega) (.int .i64 0)) (p := ⟨w.heap.size + 1, 1, none⟩) (by show w.heap.size ≤ w.heap.size + 1; omega) (.int .i64 0)) (p := ⟨w.heap.size + 1, 2, none⟩) (by show w.heap.size ≤ w.heap.size + 1; omega) (.int .i64 0)) (p := ⟨w.heap.size + 1, 3, none⟩) (by show w.heap.size ≤ w.heap.size + 1; omega) (.slice none 0 0)) (p := ⟨w.heap.size + 1, 4, none⟩) (by show w.heap.size ≤ w.heap.size + 1; omega) (.slice none 0 0))⟩
  | true =>
  have HHC := Lib.hid (IntF.l1Has _ r.waiting a1 w1 (IsQ.is (HQ3.out _ hbT)))
  cases hh : hasB r.waiting a1 with
  | false =>
    have HA := Lib.hid (show Ans r a1 zeroF false by unfold Ans answer; rw [hg, hh]; rfl)
    have HHF := Lib.hid (show Calls Try.prog 33 #[.slice a3 n3 c3, .int .i64 a1] w1 fun e w' => e = .returned (.bool false) ∧ w1 = w' by have h1 := HHC.out; rw [hh] at h1; exact h1)
    clear hg hh HHC
    go_wp2_with fail
    refine HHF.out.mono ?_
    rintro e _ ⟨rfl, rfl⟩
    have BR5 := BR.out
    have r0 := BR5.cell 0
    have r1 := BR5.cell 1
    have r2 := BR5.cell 2
    have r3 := BR5.cell 3
    have r4 := BR5.cell 4
    simp only [List.getElem?_toArray, List.getElem?_cons_zero, List.getElem?_cons_succ] at r0 r1 r2 r3 r4
    have z0 := BR5.frozen 0
    have z1 := BR5.frozen 1
    have z2 := BR5.frozen 2
    have z3 := BR5.frozen 3
    have z4 := BR5.frozen 4
    have hRF := (Bx.set_ (Bx.set_ (Bx.set_ (Bx.set_ (Bx.set_ BR5 0 (.int .i64 0)) 1 (.int .i64 0)) 2 (.int .i64 0)) 3 (.slice none 0 0)) 4 (.slice none 0 0))
    have c0 := hRF.cell 0
    have c1 := hRF.cell 1
    have c2 := hRF.cell 2
    have c3 := hRF.cell 3
    have c4 := hRF.cell 4
    simp at c0 c1 c2 c3 c4
    clear hRF
    go_wp2_with fail
    refine bodyPost_ret (v := .tuple #[.agg #[.int .i64 0, .int .i64 0, .int .i64 0, .slice none 0 0, .slice none 0 0], .bool false]) (by simp [results, Try.results22, go_sem, c0, c1, c2, c3, c4]) rfl ?_
    exact ⟨_, zeroF, false, rfl, HA.out, LFloor.Own.zero, (Below.setCell (Below.setCell (Below.setCell (Below.setCell (Below.setCell hbT (p := ⟨w.heap.size + 1, 0, none⟩) (by show w.heap.size ≤ w.heap.size + 1; omega) (.int .i64 0)) (p := ⟨w.heap.size + 1, 1, none⟩) (by show w.heap.size ≤ w.heap.size + 1; omega) (.int .i64 0)) (p := ⟨w.heap.size + 1, 2, none⟩) (by show w.heap.size ≤ w.heap.size + 1; omega) (.int .i64 0)) (p := ⟨w.heap.size + 1, 3, none⟩) (by show w.heap.size ≤ w.heap.size + 1; omega) (.slice none 0 0)) (p := ⟨w.heap.size + 1, 4, none⟩) (by show w.heap.size ≤ w.heap.size + 1; omega) (.slice none 0 0))⟩
  | true =>
  have HA := Lib.hid (show Ans r a1 { r with waiting := LIntDelDrop.kept r.waiting a1 } true by unfold Ans answer; rw [hg, hh]; rfl)
  have HHF := Lib.hid (show Calls Try.prog 33 #[.slice a3 n3 c3, .int .i64 a1] w1 fun e w' => e = .returned (.bool true) ∧ w1 = w' by have h1 := HHC.out; rw [hh] at h1; exact h1)
  have HH := Lib.hid (show hasB r.waiting a1 = true from hh)
  have HGP := Lib.hid (good_parts hg).2.2.2.2.1
  clear hg hh HHC
  go_wp2_with fail
  refine HHF.out.mono ?_
  rintro e _ ⟨rfl, rfl⟩
  clear HHF q0 q1 q2 q3 q4
  have HY := Lib.hid (l8Own _ r w1 (LFloor.IsQ.below HIQ.out hbT) (by have := HL.out.1; omega) (by have := HL.out.2; omega))
  have q0 := B0.out.cell 0
  have q1 := B0.out.cell 1
  have q2 := B0.out.cell 2
  have q3 := B0.out.cell 3
  have q4 := B0.out.cell 4
  simp only [List.getElem?_toArray, List.getElem?_cons_zero, List.getElem?_cons_succ] at q0 q1 q2 q3 q4
  go_wp2_with fail
  refine HY.out.mono ?_
  rintro e w2 ⟨v, rfl, hO, hb1⟩
  obtain ⟨u3, u4, rfl, o3, o4, d34⟩ := hO
  obtain ⟨b3, m3, d3, rfl⟩ := own_slice o3
  obtain ⟨b4, m4, d4, rfl⟩ := own_slice o4
  obtain ⟨O, hO⟩ : ∃ O, O = w2.heap.size := ⟨_, rfl⟩
  obtain ⟨wc, hwc⟩ : ∃ wc : World, wc = w2.alloc (Obj.cells #[.int .i64 r.turns, .int .i64 r.seconds, .int .i64 r.speaking, .slice b3 m3 d3, .slice b4 m4 d4] 29) := ⟨_, rfl⟩
  have hba : Below w2.heap.size w2 wc := by rw [hwc]; exact (Below.refl _ _).alloc (Nat.le_refl _) _
  have BO := Lib.hid (show Bx wc O 29 #[.int .i64 r.turns, .int .i64 r.seconds, .int .i64 r.speaking, .slice b3 m3 d3, .slice b4 m4 d4] by rw [hwc, hO]; exact Bx.new _ _ _)
  have hb2 := hb1.trans (hba.mono hb1.size)
  replace BR := Lib.hid (BR.out.kept hb2)
  replace B0 := Lib.hid (B0.out.kept hb2)
  have HN := Lib.hid (show (∀ k, (Value.slice b3 m3 d3).ownBlock = some k → k < O) ∧ ∀ k, (Value.slice b4 m4 d4).ownBlock = some k → k < O from ⟨fun k hk => by have := (o3.lt k hk).2; omega, fun k hk => by have := (o4.lt k hk).2; omega⟩)
  have HO3 := Lib.hid (o3.kept hba)
  have HO4 := Lib.hid (o4.kept hba)
  have HOO := Lib.hid (show w.heap.size + 1 < O by have h1 := HZ1.out; have h2 := hb1.size; omega)
  have HWC := Lib.hid (show O < wc.heap.size from BO.out.lt)
  have HD := Lib.hid d34
  have HZW := Lib.hid (show w1.heap.size ≤ wc.heap.size from hb2.size)
  replace hbT := hbT.trans (hb2.mono hbT.size)
  clear hb1 hb2 hba o3 o4 d34 HY q0 q1 q2 q3 q4
  go_upto_region 4 with fail
  rw [← hwc, ← hO]
  clear hwc hO
  obtain ⟨k, hk, hkx, hkf⟩ : ∃ k, k < n3 ∧ r.waiting[k]? = some a1 ∧ Sq.First (fun X => (X == a1)) r.waiting k := by
    obtain ⟨i, hi⟩ := Option.isSome_iff_exists.1 (show (r.waiting.findIdx? (fun X => (X == a1))).isSome = true from HH.out)
    obtain ⟨X, hx, hp, hf⟩ := idx_some hi
    have hXa : X = a1 := by simpa using hp
    subst hXa
    exact ⟨i, by have := (List.getElem?_eq_some_iff.1 hx).1; have := HN3.out; omega, hx, hf⟩
  have HKX := Lib.hid hkx
  have HKF := Lib.hid hkf
  clear hkx hkf
  obtain ⟨b, o, rfl, hbq, HS0⟩ := isq_some (HQ3.out w (Below.refl _ _)) (by omega)
  have HIS := Lib.hid (show IsS LInt.rec w (.slice (some ⟨b, o, none⟩) n3 c3) r.waiting from HS0)
  clear HS0 hbq
  go_upto_block 0 with fail
  go_cut [7] (fun t wx => t = .int .i64 (k : Nat) ∧ wc = wx)
  case first =>
    have q3 := B0.out.cell 3
    simp only [List.getElem?_toArray, List.getElem?_cons_zero, List.getElem?_cons_succ] at q3
    go_wp2_with fail
    go_loop [7] (fun s7 => ∃ i : Nat, s7 = .int .i64 i ∧ i ≤ k) (fun s7 => k - (intOf s7).toNat)
    case atStart => exact ⟨0, rfl, Nat.zero_le _⟩
    case round =>
      obtain ⟨i, rfl, hik⟩ := hrel
      have hx : i < r.waiting.length := by have := HN3.out; omega
      obtain ⟨_, hcell0⟩ := isS_at (IsS.below LInt.rec HIS.out hbT) (List.getElem?_eq_getElem hx)
      have y0 := LInt.cells hcell0
      simp only [LInt.rec_n, Nat.mul_one] at y0
      have HX := Lib.hid (List.getElem?_eq_getElem hx)
      have i0 : 0 ≤ (i : Int) := by omega
      have i1 : (i : Int) < (n3 : Int) := by omega
      clear hcell0
      generalize r.waiting[i] = X at *
      by_cases hlt : i < k
      · have hne : (X == a1) = false := HKF.out i X hlt HX.out
        have hne2 : (X != a1) = true := by rw [bne, hne]; rfl
        go_wp2_with fail
        go_round
        case rel => exact ⟨i + 1, by go_num, by omega⟩
        case measure => simp [intOf]; omega
      · obtain rfl : i = k := by omega
        have hXa : X = a1 := Option.some.inj (HX.out.symm.trans HKX.out)
        subst hXa
        have hne2 : (X != X) = false := by simp
        go_wp2_with fail
        go_meet
        exact ⟨rfl, rfl⟩
  case rest =>
  obtain ⟨rfl, rfl⟩ := hcut
  have HWO := Lib.hid (FlW.l8Without b o n3 c3 r.waiting k wc (IsS.below LInt.rec HIS.out hbT) hk (by have := HL.out.1; have := HN3.out; omega))
  have HKE := Lib.hid (show LIntDelDrop.kept r.waiting a1 = without r.waiting k from filter_without r.waiting k a1 HKX.out (wt_distinct (wt_of HGP.out)))
  have q3 := B0.out.cell 3
  simp only [List.getElem?_toArray, List.getElem?_cons_zero, List.getElem?_cons_succ] at q3
  go_wp2_with fail
  refine HWO.out.mono ?_
  rintro e w4 ⟨v5, rfl, ho5, hb1⟩
  obtain ⟨b5, m5, d5, rfl⟩ := own_slice ho5
  have BO4 := BO.out.kept hb1
  have BR4 := BR.out.kept hb1
  have o4 := HO4.out.kept hb1
  replace hbT := hbT.trans (hb1.mono hbT.size)
  have h5 : ∀ kk, (Value.slice b5 m5 d5).ownBlock = some kk → wc.heap.size ≤ kk := fun kk hkk => (ho5.lt kk hkk).1
  clear q3 HWO hb1
  have z3 := BO4.frozen 3
  have t3 := BO4.cell 3
  simp only [List.getElem?_toArray, List.getElem?_cons_zero, List.getElem?_cons_succ] at t3
  have hwo := HWC.out
  have hoo := HOO.out
  obtain ⟨wd, hwd⟩ : ∃ wd : World, wd = w4.setCell ⟨O, 3, none⟩ (.slice b5 m5 d5) := ⟨_, rfl⟩
  have BO5 := show Bx wd O 29 #[.int .i64 r.turns, .int .i64 r.seconds, .int .i64 r.speaking, .slice b5 m5 d5, .slice b4 m4 d4] by rw [hwd]; exact BO4.set_ 3 (.slice b5 m5 d5)
  have BR5 := show Bx wd (w.heap.size + 1) _ _ by rw [hwd]; exact BR4.far (p := ⟨O, 3, none⟩) (show w.heap.size + 1 ≠ O by omega) _
  have p3 := show Bs.Own LInt.rec 3 wd wc.heap.size _ _ by rw [hwd]; exact own_set ho5 (p := ⟨O, 3, none⟩) (fun kk hkk => by have h2 := h5 kk hkk; show kk ≠ O; omega) (.slice b5 m5 d5)
  have p4 := show Bs.Own LShare.rec 60 wd w1.heap.size _ _ by rw [hwd]; exact own_set o4 (p := ⟨O, 3, none⟩) (fun kk hkk => by have h2 := HN.out.2 kk hkk; show kk ≠ O; omega) (.slice b5 m5 d5)
  have HDD := Lib.hid (show Dist (.slice b5 m5 d5) (.slice b4 m4 d4) from Dist.of_gt (m := wc.heap.size) h5 (fun kk hkk => by have h2 := HN.out.2 kk hkk; omega))
  replace hbT : Below w.heap.size w wd := by rw [hwd]; exact hbT.setCell (p := ⟨O, 3, none⟩) (by show w.heap.size ≤ O; omega) _
  have hz1 := HZ1.out
  clear ho5 o4 BO4 BR4 h5
  go_upto_region 8 with fail
  rw [← hwd]
  clear hwd z3 t3
  have y0 := BO5.cell 0
  have y1 := BO5.cell 1
  have y2 := BO5.cell 2
  have y3 := BO5.cell 3
  have y4 := BO5.cell 4
  simp only [List.getElem?_toArray, List.getElem?_cons_zero, List.getElem?_cons_succ] at y0 y1 y2 y3 y4
  have r0 := BR5.cell 0
  have r1 := BR5.cell 1
  have r2 := BR5.cell 2
  have r3 := BR5.cell 3
  have r4 := BR5.cell 4
  simp only [List.getElem?_toArray, List.getElem?_cons_zero, List.getElem?_cons_succ] at r0 r1 r2 r3 r4
  have z0 := BR5.frozen 0
  have z1 := BR5.frozen 1
  have z2 := BR5.frozen 2
  have z3 := BR5.frozen 3
  have z4 := BR5.frozen 4
  have hRF := (Bx.set_ (Bx.set_ (Bx.set_ (Bx.set_ (Bx.set_ BR5 0 (.int .i64 r.turns)) 1 (.int .i64 r.seconds)) 2 (.int .i64 r.speaking)) 3 (.slice b5 m5 d5)) 4 (.slice b4 m4 d4))
  have c0 := hRF.cell 0
  have c1 := hRF.cell 1
  have c2 := hRF.cell 2
  have c3 := hRF.cell 3
  have c4 := hRF.cell 4
  simp at c0 c1 c2 c3 c4
  clear hRF
  go_wp2_with fail
  refine bodyPost_ret (v := .tuple #[.agg #[.int .i64 r.turns, .int .i64 r.seconds, .int .i64 r.speaking, .slice b5 m5 d5, .slice b4 m4 d4], .bool true]) (by simp [results, Try.results22, go_sem, c0, c1, c2, c3, c4]) rfl ?_
  exact ⟨_, _, true, rfl, HA.out, ⟨_, _, rfl, by show Bs.Own _ _ _ _ _ (LIntDelDrop.kept r.waiting a1); rw [HKE.out]; exact ((own_set (own_set (own_set (own_set (own_set p3 (p := ⟨w.heap.size + 1, 0, none⟩) (fun k hk => by have h2 := (p3.lt k hk).1; show k ≠ w.heap.size + 1; omega) (.int .i64 r.turns)) (p := ⟨w.heap.size + 1, 1, none⟩) (fun k hk => by have h2 := (p3.lt k hk).1; show k ≠ w.heap.size + 1; omega) (.int .i64 r.seconds)) (p := ⟨w.heap.size + 1, 2, none⟩) (fun k hk => by have h2 := (p3.lt k hk).1; show k ≠ w.heap.size + 1; omega) (.int .i64 r.speaking)) (p := ⟨w.heap.size + 1, 3, none⟩) (fun k hk => by have h2 := (p3.lt k hk).1; show k ≠ w.heap.size + 1; omega) (.slice b5 m5 d5)) (p := ⟨w.heap.size + 1, 4, none⟩) (fun k hk => by have h2 := (p3.lt k hk).1; show k ≠ w.heap.size + 1; omega) (.slice b4 m4 d4))).low (by omega), ((own_set (own_set (own_set (own_set (own_set p4 (p := ⟨w.heap.size + 1, 0, none⟩) (fun k hk => by have h2 := (p4.lt k hk).1; show k ≠ w.heap.size + 1; omega) (.int .i64 r.turns)) (p := ⟨w.heap.size + 1, 1, none⟩) (fun k hk => by have h2 := (p4.lt k hk).1; show k ≠ w.heap.size + 1; omega) (.int .i64 r.seconds)) (p := ⟨w.heap.size + 1, 2, none⟩) (fun k hk => by have h2 := (p4.lt k hk).1; show k ≠ w.heap.size + 1; omega) (.int .i64 r.speaking)) (p := ⟨w.heap.size + 1, 3, none⟩) (fun k hk => by have h2 := (p4.lt k hk).1; show k ≠ w.heap.size + 1; omega) (.slice b5 m5 d5)) (p := ⟨w.heap.size + 1, 4, none⟩) (fun k hk => by have h2 := (p4.lt k hk).1; show k ≠ w.heap.size + 1; omega) (.slice b4 m4 d4))).low (by omega), HDD.out⟩, (Below.setCell (Below.setCell (Below.setCell (Below.setCell (Below.setCell hbT (p := ⟨w.heap.size + 1, 0, none⟩) (by show w.heap.size ≤ w.heap.size + 1; omega) (.int .i64 r.turns)) (p := ⟨w.heap.size + 1, 1, none⟩) (by show w.heap.size ≤ w.heap.size + 1; omega) (.int .i64 r.seconds)) (p := ⟨w.heap.size + 1, 2, none⟩) (by show w.heap.size ≤ w.heap.size + 1; omega) (.int .i64 r.speaking)) (p := ⟨w.heap.size + 1, 3, none⟩) (by show w.heap.size ≤ w.heap.size + 1; omega) (.slice b5 m5 d5)) (p := ⟨w.heap.size + 1, 4, none⟩) (by show w.heap.size ≤ w.heap.size + 1; omega) (.slice b4 m4 d4))⟩
set_option maxRecDepth 100000 in
set_option maxHeartbeats 1600000 in
theorem impl (v0 : Value) (z0 : F) (a1 : Int) (w : World) (h0 : LFloor.IsQ w v0 z0) (f0 : LFloor.Fine z0) (l3 : z0.waiting.length ≤ 1048576) (l4 : z0.shares.length ≤ 1048576) : Calls Try.prog 23 #[v0, .int .i64 a1] w (Post z0 a1 w) := by
  obtain ⟨r, hr⟩ : ∃ r, r = z0 := ⟨_, rfl⟩
  subst hr
  obtain ⟨a3, n3, c3, a4, n4, c4, rfl, HN3, HN4, hb3, hb4, hm3, hm4, HQ3, HQ4, HIQ⟩ := open_isq h0
  clear h0
  have HI := Lib.hid (LFloor.IsQ.is HIQ.out)
  obtain ⟨W0, hW⟩ : ∃ W : World, W = (w.alloc (Obj.cells #[.int .i64 r.turns, .int .i64 r.seconds, .int .i64 r.speaking, .slice a3 n3 c3, .slice a4 n4 c4] 29)).alloc (Obj.cells #[.int .i64 0, .int .i64 0, .int .i64 0, .slice none 0 0, .slice none 0 0] 29) := ⟨_, rfl⟩
  have hbT : Below w.heap.size w W0 := by rw [hW]; exact ((Below.refl _ _).alloc (Nat.le_refl _) _).alloc (by simp) _
  have HZ := Lib.hid (show W0.heap.size = w.heap.size + 2 by rw [hW]; simp)
  have B0 := Lib.hid (show Bx W0 w.heap.size 29 #[.int .i64 r.turns, .int .i64 r.seconds, .int .i64 r.speaking, .slice a3 n3 c3, .slice a4 n4 c4] by rw [hW]; exact (Bx.new _ _ _).alloc _)
  have BR := Lib.hid (show Bx W0 (w.heap.size + 1) 29 #[.int .i64 0, .int .i64 0, .int .i64 0, .slice none 0 0, .slice none 0 0] by rw [hW]; have := Bx.new (w.alloc (Obj.cells #[.int .i64 r.turns, .int .i64 r.seconds, .int .i64 r.speaking, .slice a3 n3 c3, .slice a4 n4 c4] 29)) 29 #[.int .i64 0, .int .i64 0, .int .i64 0, .slice none 0 0, .slice none 0 0]; simpa using this)
  have HL := Lib.hid (And.intro l3 l4)
  clear l3 l4
  have HC := Lib.hid (FlV.isValid _ r W0 (LFloor.Is.below HI.out hbT))
  have q0 := B0.out.cell 0
  have q1 := B0.out.cell 1
  have q2 := B0.out.cell 2
  have q3 := B0.out.cell 3
  have q4 := B0.out.cell 4
  simp only [List.getElem?_toArray, List.getElem?_cons_zero, List.getElem?_cons_succ] at q0 q1 q2 q3 q4
  go_enter Try.func23, Try.ntmps23
  go_wp2_with fail
  rw [← hW]
  clear hW
  refine HC.out.mono ?_
  rintro e w1 ⟨rfl, hb1⟩
  replace BR := Lib.hid (BR.out.kept hb1)
  replace B0 := Lib.hid (B0.out.kept hb1)
  have HZ1 := Lib.hid (show w.heap.size + 2 ≤ w1.heap.size by have := HZ.out; have := hb1.size; omega)
  replace hbT := hbT.trans (hb1.mono hbT.size)
  clear hb1 q0 q1 q2 q3 q4
  have q0 := B0.out.cell 0
  have q1 := B0.out.cell 1
  have q2 := B0.out.cell 2
  have q3 := B0.out.cell 3
  have q4 := B0.out.cell 4
  simp only [List.getElem?_toArray, List.getElem?_cons_zero, List.getElem?_cons_succ] at q0 q1 q2 q3 q4
  cases hg : good r with
  | false =>
    have HA := Lib.hid (show Ans r a1 zeroF false by unfold Ans answer; rw [hg]; rfl)
    clear hg
    have BR5 := BR.out
    have r0 := BR5.cell 0
    have r1 := BR5.cell 1
    have r2 := BR5.cell 2
    have r3 := BR5.cell 3
    have r4 := BR5.cell 4
    simp only [List.getElem?_toArray, List.getElem?_cons_zero, List.getElem?_cons_succ] at r0 r1 r2 r3 r4
    have z0 := BR5.frozen 0
    have z1 := BR5.frozen 1
    have z2 := BR5.frozen 2
    have z3 := BR5.frozen 3
    have z4 := BR5.frozen 4
    have hRF := (Bx.set_ (Bx.set_ (Bx.set_ (Bx.set_ (Bx.set_ BR5 0 (.int .i64 0)) 1 (.int .i64 0)) 2 (.int .i64 0)) 3 (.slice none 0 0)) 4 (.slice none 0 0))
    have c0 := hRF.cell 0
    have c1 := hRF.cell 1
    have c2 := hRF.cell 2
    have c3 := hRF.cell 3
    have c4 := hRF.cell 4
    simp at c0 c1 c2 c3 c4
    clear hRF
    go_wp2_with fail
    refine bodyPost_ret (v := .tuple #[.agg #[.int .i64 0, .int .i64 0, .int .i64 0, .slice none 0 0, .slice none 0 0], .bool false]) (by simp [results, Try.results23, go_sem, c0, c1, c2, c3, c4]) rfl ?_
    exact ⟨_, zeroF, false, rfl, HA.out, LFloor.Own.zero, (Below.setCell (Below.setCell (Below.setCell (Below.setCell (Below.setCell hbT (p := ⟨w.heap.size + 1, 0, none⟩) (by show w.heap.size ≤ w.heap.size + 1; omega) (.int .i64 0)) (p := ⟨w.heap.size + 1, 1, none⟩) (by show w.heap.size ≤ w.heap.size + 1; omega) (.int .i64 0)) (p := ⟨w.heap.size + 1, 2, none⟩) (by show w.heap.size ≤ w.heap.size + 1; omega) (.int .i64 0)) (p := ⟨w.heap.size + 1, 3, none⟩) (by show w.heap.size ≤ w.heap.size + 1; omega) (.slice none 0 0)) (p := ⟨w.heap.size + 1, 4, none⟩) (by show w.heap.size ≤ w.heap.size + 1; omega) (.slice none 0 0))⟩
  | true =>
  have HHC := Lib.hid (IntF.contains _ r.waiting a1 w1 (IsQ.is (HQ3.out _ hbT)))
  cases hh : hasB r.waiting a1 with
  | false =>
    have HA := Lib.hid (show Ans r a1 zeroF false by unfold Ans answer; rw [hg, hh]; rfl)
    have HHF := Lib.hid (show Calls Try.prog 55 #[.slice a3 n3 c3, .int .i64 a1] w1 fun e w' => e = .returned (.bool false) ∧ w1 = w' by have h1 := HHC.out; rw [hh] at h1; exact h1)
    clear hg hh HHC
    go_wp2_with fail
    refine HHF.out.mono ?_
    rintro e _ ⟨rfl, rfl⟩
    have BR5 := BR.out
    have r0 := BR5.cell 0
    have r1 := BR5.cell 1
    have r2 := BR5.cell 2
    have r3 := BR5.cell 3
    have r4 := BR5.cell 4
    simp only [List.getElem?_toArray, List.getElem?_cons_zero, List.getElem?_cons_succ] at r0 r1 r2 r3 r4
    have z0 := BR5.frozen 0
    have z1 := BR5.frozen 1
    have z2 := BR5.frozen 2
    have z3 := BR5.frozen 3
    have z4 := BR5.frozen 4
    have hRF := (Bx.set_ (Bx.set_ (Bx.set_ (Bx.set_ (Bx.set_ BR5 0 (.int .i64 0)) 1 (.int .i64 0)) 2 (.int .i64 0)) 3 (.slice none 0 0)) 4 (.slice none 0 0))
    have c0 := hRF.cell 0
    have c1 := hRF.cell 1
    have c2 := hRF.cell 2
    have c3 := hRF.cell 3
    have c4 := hRF.cell 4
    simp at c0 c1 c2 c3 c4
    clear hRF
    go_wp2_with fail
    refine bodyPost_ret (v := .tuple #[.agg #[.int .i64 0, .int .i64 0, .int .i64 0, .slice none 0 0, .slice none 0 0], .bool false]) (by simp [results, Try.results23, go_sem, c0, c1, c2, c3, c4]) rfl ?_
    exact ⟨_, zeroF, false, rfl, HA.out, LFloor.Own.zero, (Below.setCell (Below.setCell (Below.setCell (Below.setCell (Below.setCell hbT (p := ⟨w.heap.size + 1, 0, none⟩) (by show w.heap.size ≤ w.heap.size + 1; omega) (.int .i64 0)) (p := ⟨w.heap.size + 1, 1, none⟩) (by show w.heap.size ≤ w.heap.size + 1; omega) (.int .i64 0)) (p := ⟨w.heap.size + 1, 2, none⟩) (by show w.heap.size ≤ w.heap.size + 1; omega) (.int .i64 0)) (p := ⟨w.heap.size + 1, 3, none⟩) (by show w.heap.size ≤ w.heap.size + 1; omega) (.slice none 0 0)) (p := ⟨w.heap.size + 1, 4, none⟩) (by show w.heap.size ≤ w.heap.size + 1; omega) (.slice none 0 0))⟩
  | true =>
  have HA := Lib.hid (show Ans r a1 { r with waiting := LIntDelDrop.kept r.waiting a1 } true by unfold Ans answer; rw [hg, hh]; rfl)
  have HHF := Lib.hid (show Calls Try.prog 55 #[.slice a3 n3 c3, .int .i64 a1] w1 fun e w' => e = .returned (.bool true) ∧ w1 = w' by have h1 := HHC.out; rw [hh] at h1; exact h1)
  have HH := Lib.hid (show hasB r.waiting a1 = true from hh)
  have HGP := Lib.hid (good_parts hg).2.2.2.2.1
  clear hg hh HHC
  go_wp2_with fail
  refine HHF.out.mono ?_
  rintro e _ ⟨rfl, rfl⟩
  clear HHF q0 q1 q2 q3 q4
  have HDW := Lib.hid (FlD.dropWaiting _ r a1 w1 (LFloor.IsQ.below HIQ.out hbT) (by have := HL.out.1; omega) (by have := HL.out.2; omega))
  have q0 := B0.out.cell 0
  have q1 := B0.out.cell 1
  have q2 := B0.out.cell 2
  have q3 := B0.out.cell 3
  have q4 := B0.out.cell 4
  simp only [List.getElem?_toArray, List.getElem?_cons_zero, List.getElem?_cons_succ] at q0 q1 q2 q3 q4
  go_wp2_with fail
  refine HDW.out.mono ?_
  rintro e w2 ⟨v, rfl, hO, hb1⟩
  obtain ⟨u3, u4, rfl, p3, p4, d34⟩ := hO
  obtain ⟨b3, m3, d3, rfl⟩ := own_slice p3
  obtain ⟨b4, m4, d4, rfl⟩ := own_slice p4
  dsimp only
  have BR5 := BR.out.kept hb1
  replace hbT := hbT.trans (hb1.mono hbT.size)
  have hz1 := HZ1.out
  clear q0 q1 q2 q3 q4 HDW
  have r0 := BR5.cell 0
  have r1 := BR5.cell 1
  have r2 := BR5.cell 2
  have r3 := BR5.cell 3
  have r4 := BR5.cell 4
  simp only [List.getElem?_toArray, List.getElem?_cons_zero, List.getElem?_cons_succ] at r0 r1 r2 r3 r4
  have z0 := BR5.frozen 0
  have z1 := BR5.frozen 1
  have z2 := BR5.frozen 2
  have z3 := BR5.frozen 3
  have z4 := BR5.frozen 4
  have hRF := (Bx.set_ (Bx.set_ (Bx.set_ (Bx.set_ (Bx.set_ BR5 0 (.int .i64 r.turns)) 1 (.int .i64 r.seconds)) 2 (.int .i64 r.speaking)) 3 (.slice b3 m3 d3)) 4 (.slice b4 m4 d4))
  have c0 := hRF.cell 0
  have c1 := hRF.cell 1
  have c2 := hRF.cell 2
  have c3 := hRF.cell 3
  have c4 := hRF.cell 4
  simp at c0 c1 c2 c3 c4
  clear hRF
  go_wp2_with fail
  refine bodyPost_ret (v := .tuple #[.agg #[.int .i64 r.turns, .int .i64 r.seconds, .int .i64 r.speaking, .slice b3 m3 d3, .slice b4 m4 d4], .bool true]) (by simp [results, Try.results23, go_sem, c0, c1, c2, c3, c4]) rfl ?_
  exact ⟨_, _, true, rfl, HA.out, ⟨_, _, rfl, ((own_set (own_set (own_set (own_set (own_set p3 (p := ⟨w.heap.size + 1, 0, none⟩) (fun k hk => by have h2 := (p3.lt k hk).1; show k ≠ w.heap.size + 1; omega) (.int .i64 r.turns)) (p := ⟨w.heap.size + 1, 1, none⟩) (fun k hk => by have h2 := (p3.lt k hk).1; show k ≠ w.heap.size + 1; omega) (.int .i64 r.seconds)) (p := ⟨w.heap.size + 1, 2, none⟩) (fun k hk => by have h2 := (p3.lt k hk).1; show k ≠ w.heap.size + 1; omega) (.int .i64 r.speaking)) (p := ⟨w.heap.size + 1, 3, none⟩) (fun k hk => by have h2 := (p3.lt k hk).1; show k ≠ w.heap.size + 1; omega) (.slice b3 m3 d3)) (p := ⟨w.heap.size + 1, 4, none⟩) (fun k hk => by have h2 := (p3.lt k hk).1; show k ≠ w.heap.size + 1; omega) (.slice b4 m4 d4))).low (by omega), ((own_set (own_set (own_set (own_set (own_set p4 (p := ⟨w.heap.size + 1, 0, none⟩) (fun k hk => by have h2 := (p4.lt k hk).1; show k ≠ w.heap.size + 1; omega) (.int .i64 r.turns)) (p := ⟨w.heap.size + 1, 1, none⟩) (fun k hk => by have h2 := (p4.lt k hk).1; show k ≠ w.heap.size + 1; omega) (.int .i64 r.seconds)) (p := ⟨w.heap.size + 1, 2, none⟩) (fun k hk => by have h2 := (p4.lt k hk).1; show k ≠ w.heap.size + 1; omega) (.int .i64 r.speaking)) (p := ⟨w.heap.size + 1, 3, none⟩) (fun k hk => by have h2 := (p4.lt k hk).1; show k ≠ w.heap.size + 1; omega) (.slice b3 m3 d3)) (p := ⟨w.heap.size + 1, 4, none⟩) (fun k hk => by have h2 := (p4.lt k hk).1; show k ≠ w.heap.size + 1; omega) (.slice b4 m4 d4))).low (by omega), d34⟩, (Below.setCell (Below.setCell (Below.setCell (Below.setCell (Below.setCell hbT (p := ⟨w.heap.size + 1, 0, none⟩) (by show w.heap.size ≤ w.heap.size + 1; omega) (.int .i64 r.turns)) (p := ⟨w.heap.size + 1, 1, none⟩) (by show w.heap.size ≤ w.heap.size + 1; omega) (.int .i64 r.seconds)) (p := ⟨w.heap.size + 1, 2, none⟩) (by show w.heap.size ≤ w.heap.size + 1; omega) (.int .i64 r.speaking)) (p := ⟨w.heap.size + 1, 3, none⟩) (by show w.heap.size ≤ w.heap.size + 1; omega) (.slice b3 m3 d3)) (p := ⟨w.heap.size + 1, 4, none⟩) (by show w.heap.size ≤ w.heap.size + 1; omega) (.slice b4 m4 d4))⟩
end Go.Proofs.Ytmbffcblhhippaa.LeaveWaitingC
