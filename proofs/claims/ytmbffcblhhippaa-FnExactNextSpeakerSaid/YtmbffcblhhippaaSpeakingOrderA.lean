/- SpeakingOrder: what it answers; the model. No condition. -/
import Derived.Test.YtmbffcblhhippaaFlX
import Derived.Test.YtmbffcblhhippaaFlW
import Derived.Deep.CutBlock
namespace Go.Proofs.Ytmbffcblhhippaa.SpeakingOrderC
open Go.RowKit Bs Word Sq IntF Fl FlA FlG FlO FlX FlW
set_option linter.unusedVariables false
noncomputable def answer (z0 : F) : List Int × Bool := if good z0 = true then (Srt.srt (lt (key z0)) z0.waiting, true) else ([], false)
def Ans (z0 : F) (r0 : List Int) (r1 : Bool) : Prop := (r0, r1) = answer z0
theorem same {z0 : F} {r0 s0 : List Int} {r1 s1 : Bool} (h1 : Ans z0 r0 r1) (h2 : Ans z0 s0 s1) : r0 = s0 ∧ r1 = s1 := by
  have h := h1.trans h2.symm
  exact ⟨congrArg Prod.fst h, congrArg Prod.snd h⟩
theorem len0 {z0 : F} {r0 : List Int} {r1 : Bool} (h : Ans z0 r0 r1) : r0.length ≤ 1048576 := by
  unfold Ans answer at h
  split at h
  · rename_i hg
    have h1 := congrArg Prod.fst h; simp only at h1; subst h1
    have h2 := (good_lens hg).1
    rw [Srt.srt_len]; omega
  · have h1 := congrArg Prod.fst h; simp only at h1; subst h1; simp
def Post (z0 : F) (w : World) (e : Ending) (w' : World) : Prop := ∃ v0 r0 r1, e = .returned (.tuple #[v0, .bool r1]) ∧ Ans z0 r0 r1 ∧ Bs.Own LInt.rec 3 w' w.heap.size v0 r0 ∧ Below w.heap.size w w'
def nOf : Value → Nat
  | .slice _ n _ => n
  | _ => 0
theorem own_n {w : World} {A n c : Nat} {a : Option Addr} {xs : List Int} (h : Bs.Own LInt.rec 3 w A (.slice a n c) xs) : n = xs.length := by
  rcases h.shape with ⟨e, rfl⟩ | ⟨g, c', e, _⟩
  · simp only [Value.slice.injEq] at e; exact e.2.1
  · simp only [Value.slice.injEq] at e; exact e.2.1
/-- the state of the model's loop: those who wait still, those taken already -/
def Inv (r : F) (O A0 A1 : Nat) (b4 : Option Addr) (m4 d4 : Nat) (wr : World) (eo : Option Addr) (no co : Nat) (b : Option Addr) (m d : Nat) (zz outl : List Int) : Prop :=
  Bx wr O 29 #[.int .i64 r.turns, .int .i64 r.seconds, .int .i64 r.speaking, .slice b m d, .slice b4 m4 d4] ∧ Bs.Own LInt.rec 3 wr A1 (.slice b m d) zz ∧ Bs.Own LShare.rec 60 wr A1 (.slice b4 m4 d4) r.shares ∧ Bs.Own LInt.rec 3 wr A0 (.slice eo no co) outl ∧
  Dist (.slice eo no co) (.slice b m d) ∧ Dist (.slice eo no co) (.slice b4 m4 d4) ∧ (Value.slice eo no co).ownBlock ≠ some O ∧ (Value.slice b m d).ownBlock ≠ some O ∧ (Value.slice b4 m4 d4).ownBlock ≠ some O ∧
  outl ++ Srt.srt (lt (key r)) zz = Srt.srt (lt (key r)) r.waiting ∧ outl.length + zz.length = r.waiting.length
set_option maxRecDepth 100000 in
set_option maxHeartbeats 1600000 in
theorem spec (v0 : Value) (z0 : F) (w : World) (h0 : LFloor.IsQ w v0 z0) (f0 : LFloor.Fine z0) (l3 : z0.waiting.length ≤ 1048576) (l4 : z0.shares.length ≤ 1048576) : Calls Try.prog 24 #[v0] w (Post z0 w) := by
  obtain ⟨r, hr⟩ : ∃ r, r = z0 := ⟨_, rfl⟩
  subst hr
  obtain ⟨a3, n3, c3, a4, n4, c4, rfl, HN3, HN4, hb3, hb4, hm3, hm4, HQ3, HQ4, HIQ⟩ := open_isq h0
  clear h0
  have HI := Lib.hid (LFloor.IsQ.is HIQ.out)
  have HL := Lib.hid (And.intro l3 l4)
  clear l3 l4
  obtain ⟨i3, hi, hz0, hz1, hz2⟩ := info_parts LInt.infoK
  have HI3 := Lib.hid hi
  have HZ3 := Lib.hid (And.intro hz0 (And.intro hz1 hz2))
  clear hi hz0 hz1 hz2
  obtain ⟨W0, hW⟩ : ∃ W : World, W = (w.alloc (Obj.cells #[.int .i64 r.turns, .int .i64 r.seconds, .int .i64 r.speaking, .slice a3 n3 c3, .slice a4 n4 c4] 29)).alloc (Obj.cells #[] 3) := ⟨_, rfl⟩
  have hbT : Below w.heap.size w W0 := by rw [hW]; exact ((Below.refl _ _).alloc (Nat.le_refl _) _).alloc (by simp) _
  have HZ := Lib.hid (show W0.heap.size = w.heap.size + 2 by rw [hW]; simp)
  have B0 := Lib.hid (show Bx W0 w.heap.size 29 #[.int .i64 r.turns, .int .i64 r.seconds, .int .i64 r.speaking, .slice a3 n3 c3, .slice a4 n4 c4] by rw [hW]; exact (Bx.new _ _ _).alloc _)
  have HOUT := Lib.hid (show Bs.Own LInt.rec 3 W0 (w.heap.size + 1) (.slice (some ⟨w.heap.size + 1, 0, none⟩) 0 0) [] by rw [hW]; have := own_start (T := LInt.rec) (E := 3) (A := w.heap.size + 1) (w := w.alloc (Obj.cells #[.int .i64 r.turns, .int .i64 r.seconds, .int .i64 r.speaking, .slice a3 n3 c3, .slice a4 n4 c4] 29)) (by simp); simpa using this)
  have HC := Lib.hid (FlG.l8Good _ r W0 (LFloor.Is.below HI.out hbT))
  have q0 := B0.out.cell 0
  have q1 := B0.out.cell 1
  have q2 := B0.out.cell 2
  have q3 := B0.out.cell 3
  have q4 := B0.out.cell 4
  simp only [List.getElem?_toArray, List.getElem?_cons_zero, List.getElem?_cons_succ] at q0 q1 q2 q3 q4
  go_enter Try.func24, Try.ntmps24
  go_upto_region 2 with fail
  rw [← hW]
  clear hW
  go_wp2_with fail
  refine HC.out.mono ?_
  rintro e w1 ⟨rfl, hb1⟩
  replace B0 := Lib.hid (B0.out.kept hb1)
  replace HOUT := Lib.hid (HOUT.out.kept hb1)
  have HZ1 := Lib.hid (show w.heap.size + 2 ≤ w1.heap.size by have := HZ.out; have := hb1.size; omega)
  replace hbT := hbT.trans (hb1.mono hbT.size)
  clear hb1 q0 q1 q2 q3 q4 HC
  have q0 := B0.out.cell 0
  have q1 := B0.out.cell 1
  have q2 := B0.out.cell 2
  have q3 := B0.out.cell 3
  have q4 := B0.out.cell 4
  simp only [List.getElem?_toArray, List.getElem?_cons_zero, List.getElem?_cons_succ] at q0 q1 q2 q3 q4
  cases hg : good r with
  | false =>
    have HA := Lib.hid (show Ans r [] false by unfold Ans answer; rw [hg]; rfl)
    clear hg
    go_wp2_with fail
    go_ret2
    exact ⟨_, [], false, rfl, HA.out, HOUT.out.low (by omega), hbT⟩
  | true =>
  have HA := Lib.hid (show Ans r (Srt.srt (lt (key r)) r.waiting) true by unfold Ans answer; rw [hg]; rfl)
  clear hg
  have HY := Lib.hid (l8Own _ r w1 (LFloor.IsQ.below HIQ.out hbT) (by have := HL.out.1; omega) (by have := HL.out.2; omega))
  go_wp2_with fail
  refine HY.out.mono ?_
  rintro e w2 ⟨v, rfl, hO, hb1⟩
  obtain ⟨u3, u4, rfl, o3, o4, d34⟩ := hO
  obtain ⟨b3, m3, d3, rfl⟩ := own_slice o3
  obtain ⟨b4, m4, d4, rfl⟩ := own_slice o4
  obtain ⟨O, hO⟩ : ∃ O, O = w2.heap.size := ⟨_, rfl⟩
  obtain ⟨wc, hwc⟩ : ∃ wc : World, wc = w2.alloc (Obj.cells #[.int .i64 r.turns, .int .i64 r.seconds, .int .i64 r.speaking, .slice b3 m3 d3, .slice b4 m4 d4] 29) := ⟨_, rfl⟩
  have hba : Below w2.heap.size w2 wc := by rw [hwc]; exact (Below.refl _ _).alloc (Nat.le_refl _) _
  have BO := show Bx wc O 29 #[.int .i64 r.turns, .int .i64 r.seconds, .int .i64 r.speaking, .slice b3 m3 d3, .slice b4 m4 d4] by rw [hwc, hO]; exact Bx.new _ _ _
  have hb2 := hb1.trans (hba.mono hb1.size)
  have hOO : w.heap.size + 1 < O := by have h1 := HZ1.out; have h2 := hb1.size; omega
  have hlt1 : ∀ k, (Value.slice (some ⟨w.heap.size + 1, 0, none⟩) 0 0).ownBlock = some k → k < w1.heap.size := fun k hk => by (have hkk : w.heap.size + 1 = k := by simpa [Value.ownBlock] using hk); have := HZ1.out; omega
  have HINV := Lib.hid (show Inv r O (w.heap.size + 1) w1.heap.size b4 m4 d4 wc (some ⟨w.heap.size + 1, 0, none⟩) 0 0 b3 m3 d3 r.waiting [] from
    ⟨BO, o3.kept hba, o4.kept hba, HOUT.out.kept hb2, Dist.of_lt hlt1 (fun k hk => (o3.lt k hk).1), Dist.of_lt hlt1 (fun k hk => (o4.lt k hk).1), fun e => by have := hlt1 _ e; have := hb1.size; omega, fun e => by have := (o3.lt _ e).2; omega, fun e => by have := (o4.lt _ e).2; omega, rfl, by simp⟩)
  have HZC := Lib.hid (show w1.heap.size ≤ wc.heap.size from hb2.size)
  have HOO := Lib.hid hOO
  replace hbT := hbT.trans (hb2.mono hbT.size)
  clear hb1 hb2 hba o3 o4 d34 HY q0 q1 q2 q3 q4 BO hOO hlt1 HOUT
  go_upto_block 0 with fail
  rw [← hwc, ← hO]
  clear hwc hO
  go_wp2_with fail
  go_loopw [4] (fun s4 wr => ∃ (eo : Option Addr) (no co : Nat) (b : Option Addr) (m d : Nat) (zz outl : List Int), s4 = .slice eo no co ∧ Hid (Inv r O (w.heap.size + 1) w1.heap.size b4 m4 d4 wr eo no co b m d zz outl) ∧ w1.heap.size ≤ wr.heap.size ∧ Below w.heap.size w wr) (fun s4 _ => r.waiting.length - nOf s4)
  case atStart => exact ⟨_, _, _, _, _, _, _, _, rfl, HINV, HZC.out, hbT⟩
  case round =>
    clear HINV hbT
    obtain ⟨eo, no, co, b, m, d, zz, outl, rfl, HV, hz1r, hbT⟩ := hrel
    obtain ⟨BO, o3, o4, oo, doz, dos, neo, nez, nes, hso, hle⟩ := HV.out
    have HMZ := Lib.hid (own_n o3)
    have HNO := Lib.hid (own_n oo)
    have HSO := Lib.hid hso
    have HLE := Lib.hid hle
    clear HV hso hle
    have c0 := BO.cell 0
    have c1 := BO.cell 1
    have c2 := BO.cell 2
    have c3' := BO.cell 3
    have c4' := BO.cell 4
    simp only [List.getElem?_toArray, List.getElem?_cons_zero, List.getElem?_cons_succ] at c0 c1 c2 c3' c4'
    by_cases hm : 0 < m
    · obtain ⟨g, rfl⟩ : ∃ g, b = some ⟨g, 0, none⟩ := by
        rcases o3.shape with ⟨e, _⟩ | ⟨g, c', e, _⟩
        · simp only [Value.slice.injEq] at e; omega
        · simp only [Value.slice.injEq] at e; exact ⟨g, e.1⟩
      have HNX := Lib.hid (FlW.l8Next (.agg #[.int .i64 r.turns, .int .i64 r.seconds, .int .i64 r.speaking, .slice (some ⟨g, 0, none⟩) m d, .slice b4 m4 d4]) { r with waiting := zz } wr ⟨_, _, rfl, o3.is, o4.is⟩ (by show 0 < zz.length; rw [← HMZ.out]; exact hm))
      have hmi : (0 : Int) < (m : Int) := by omega
      have HBO := Lib.hid BO
      have HO3 := Lib.hid o3
      have HO4 := Lib.hid o4
      have HOU := Lib.hid oo
      have HD1 := Lib.hid (And.intro doz dos)
      have HNE := Lib.hid (And.intro neo (And.intro nez nes))
      clear BO o3 o4 oo doz dos neo nez nes
      go_wp2_with fail
      refine HNX.out.mono ?_
      rintro e w2 ⟨k, rfl, hbest, hb1⟩
      have HBE := Lib.hid (show Best (key r) zz zz.length k from hbest)
      obtain ⟨x, hx⟩ : ∃ x, zz[k]? = some x := ⟨_, List.getElem?_eq_getElem (best_lt HBE.out)⟩
      have HX := Lib.hid hx
      have hkm : k < m := by rw [HMZ.out]; exact best_lt HBE.out
      replace HBO := Lib.hid (HBO.out.kept hb1)
      replace HO3 := Lib.hid (HO3.out.kept hb1)
      replace HO4 := Lib.hid (HO4.out.kept hb1)
      replace HOU := Lib.hid (HOU.out.kept hb1)
      have hz2 : w1.heap.size ≤ w2.heap.size := Nat.le_trans hz1r hb1.size
      replace hbT := hbT.trans (hb1.mono hbT.size)
      clear hb1 hbest hx c0 c1 c2 c3' c4' HNX
      have c3' := HBO.out.cell 3
      simp only [List.getElem?_toArray, List.getElem?_cons_zero, List.getElem?_cons_succ] at c3'
      have y0 := LInt.cells (HO3.out.at_ k x HX.out)
      simp only [LInt.rec_n, Nat.mul_one] at y0
      have k0 : 0 ≤ (k : Int) := by omega
      have k1 : (k : Int) < (m : Int) := by omega
      have hlx : outl.length + 1 ≤ r.waiting.length := by have := HLE.out; have := HMZ.out; omega
      go_wp2_with (at_builtin; refine wpList_append_o (T := LInt.rec) _ rfl (.tmp 20) (.tmp 26) 22 rfl (w.heap.size + 1) 3 i3 (.int .i64 0) 8 Try.underlying22 HI3.out HZ3.out.1 HZ3.out.2.1 HZ3.out.2.2 rfl _ _ rfl (HOU.out.alloc _) (some ⟨w2.heap.size, 0, none⟩) 1 1 [x] rfl rfl (src_one (T := LInt.rec) (heap_alloc_new w2 _)) (by have := HL.out.1; unfold maxLen; omega) (by have := HL.out.1; omega) (by simp; have := HZ1.out; omega) ?_)
      intro v5 w4 o5 hgrow hnn hat
      obtain ⟨b5, m5, d5, hv5⟩ := own_slice o5
      subst hv5
      have BO4 := box_besides (HBO.out.alloc (Obj.cells #[.int .i64 x] 3)) hgrow HNE.out.1
      have o3 := own_besides (HO3.out.alloc (Obj.cells #[.int .i64 x] 3)) hgrow HD1.out.1.symm
      have o4 := own_besides (HO4.out.alloc (Obj.cells #[.int .i64 x] 3)) hgrow HD1.out.2.symm
      have hat2 : (Value.slice b5 m5 d5).ownBlock = (Value.slice eo no co).ownBlock ∨ (Value.slice b5 m5 d5).ownBlock = some (w2.alloc (Obj.cells #[.int .i64 x] 3)).heap.size := by simpa using hat
      have e1 := dist_grow (HO3.out.alloc (Obj.cells #[.int .i64 x] 3)) HD1.out.1.symm hat2
      have e2 := dist_grow (HO4.out.alloc (Obj.cells #[.int .i64 x] 3)) HD1.out.2.symm hat2
      have e3 := ne_next HNE.out.1 (HBO.out.alloc (Obj.cells #[.int .i64 x] 3)).lt hat2
      have hbT4 := below_grown (hbT.alloc hbT.size (Obj.cells #[.int .i64 x] 3)) hgrow (by simp; have := hbT.size; omega) (fun kk hkk => by have := (HOU.out.lt kk hkk).1; omega)
      have hz4 : w1.heap.size ≤ w4.heap.size := by have h1 := hgrow.size; simp at h1; omega
      clear hgrow hnn hat hat2 c3' y0
      have HO5 := Lib.hid o5
      have HO3' := Lib.hid o3
      have HO4' := Lib.hid o4
      have HE := Lib.hid (And.intro e1 (And.intro e2 e3))
      have HWO := Lib.hid (FlW.l8Without g 0 m d zz k w4 (o3.isS ⟨_, rfl⟩) hkm (by have := HLE.out; have := HMZ.out; have := HL.out.1; omega))
      have c3' := BO4.cell 3
      simp only [List.getElem?_toArray, List.getElem?_cons_zero, List.getElem?_cons_succ] at c3'
      clear o5 o3 o4 e1 e2 e3
      go_wp2_with fail
      refine HWO.out.mono ?_
      rintro e w6 ⟨v7, rfl, o7, hb2⟩
      obtain ⟨b7, m7, d7, rfl⟩ := own_slice o7
      have BO6 := BO4.kept hb2
      have z3 := BO6.frozen 3
      have t3 := BO6.cell 3
      simp only [List.getElem?_toArray, List.getElem?_cons_zero, List.getElem?_cons_succ] at t3
      have hol := BO4.lt
      have n7 : (Value.slice b7 m7 d7).ownBlock ≠ some O := fun e => by have := (o7.lt _ e).1; omega
      have f7 : ∀ kk, (Value.slice b7 m7 d7).ownBlock = some kk → kk ≠ O := fun kk hkk e => n7 (by rw [hkk, e])
      have f5 : ∀ kk, (Value.slice b5 m5 d5).ownBlock = some kk → kk ≠ O := fun kk hkk e => HE.out.2.2 (by rw [hkk, e])
      have f4 : ∀ kk, (Value.slice b4 m4 d4).ownBlock = some kk → kk ≠ O := fun kk hkk e => HNE.out.2.2 (by rw [hkk, e])
      have HV2 := Lib.hid (show Inv r O (w.heap.size + 1) w1.heap.size b4 m4 d4 (w6.setCell ⟨O, 3, none⟩ (.slice b7 m7 d7)) b5 m5 d5 b7 m7 d7 (without zz k) (outl ++ [x]) from
        ⟨BO6.set_ 3 (.slice b7 m7 d7), own_set (o7.low hz4) f7 _, own_set (HO4'.out.kept hb2) f4 _, own_set (HO5.out.kept hb2) f5 _, dist_call HO5.out o7, HE.out.2.1.symm, HE.out.2.2, n7, HNE.out.2.2,
          srt_take HSO.out HBE.out HX.out, by have h1 := without_len (best_lt HBE.out); have h2 := HLE.out; rw [List.length_append]; simp only [List.length_cons, List.length_nil]; omega⟩)
      have hz6 : w1.heap.size ≤ (w6.setCell ⟨O, 3, none⟩ (.slice b7 m7 d7)).heap.size := by have h1 := hb2.size; simp; omega
      have hbT6 : Below w.heap.size w (w6.setCell ⟨O, 3, none⟩ (.slice b7 m7 d7)) := (hbT4.trans (hb2.mono hbT4.size)).setCell (p := ⟨O, 3, none⟩) (by show w.heap.size ≤ O; have := HOO.out; omega) _
      have HM5 := Lib.hid (own_n HO5.out)
      clear o7 BO4 BO6 n7 f7 f5 f4 c3' hb2 hbT4 hbT
      go_wp2_with fail
      go_roundw
      case rel => exact ⟨_, _, _, _, _, _, _, _, rfl, HV2, hz6, hbT6⟩
      case measure =>
        have h5 := HM5.out
        have hno := HNO.out
        rw [List.length_append] at h5
        simp only [List.length_cons, List.length_nil] at h5
        simp only [nOf]
        omega
    · obtain rfl : m = 0 := by omega
      have hz0 : zz = [] := List.eq_nil_of_length_eq_zero HMZ.out.symm
      have HE := Lib.hid (show outl = Srt.srt (lt (key r)) r.waiting by have h := HSO.out; rw [hz0] at h; simpa [Srt.srt] using h)
      have HOU := Lib.hid oo
      clear oo o3 o4 doz dos neo nez nes
      go_wp2_with fail
      go_ret2
      exact ⟨_, _, true, rfl, HA.out, by rw [← HE.out]; exact HOU.out.low (by omega), hbT⟩
end Go.Proofs.Ytmbffcblhhippaa.SpeakingOrderC
