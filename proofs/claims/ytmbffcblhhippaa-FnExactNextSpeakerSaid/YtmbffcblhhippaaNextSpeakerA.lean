/- NextSpeaker: what it answers; the model. No condition. -/
import Derived.Test.YtmbffcblhhippaaFlX
import Derived.Test.YtmbffcblhhippaaFlW
import Derived.Test.YtmbffcblhhippaaLIntDelDrop
import Derived.Deep.CutBlock
namespace Go.Proofs.Ytmbffcblhhippaa.NextSpeakerC
open Go.RowKit Bs Word Sq IntF Fl FlA FlG FlO FlX FlW
set_option linter.unusedVariables false
noncomputable def nx (z : F) : Int := (Srt.srt (lt (key z)) z.waiting).headD 0
noncomputable def answer (z0 : F) : F × Int × Bool := if (good z0 && ((z0.speaking == 0) && decide (0 < z0.waiting.length))) = true then ({ z0 with speaking := nx z0, waiting := LIntDelDrop.kept z0.waiting (nx z0) }, nx z0, true) else (zeroF, 0, false)
def Ans (z0 : F) (r0 : F) (r1 : Int) (r2 : Bool) : Prop := (r0, r1, r2) = answer z0
theorem same {z0 : F} {r0 s0 : F} {r1 s1 : Int} {r2 s2 : Bool} (h1 : Ans z0 r0 r1 r2) (h2 : Ans z0 s0 s1 s2) : r0 = s0 ∧ r1 = s1 ∧ r2 = s2 := by
  have h := h1.trans h2.symm
  exact ⟨congrArg Prod.fst h, congrArg (fun x => x.2.1) h, congrArg (fun x => x.2.2) h⟩
theorem len0 {z0 : F} {r0 : F} {r1 : Int} {r2 : Bool} (h : Ans z0 r0 r1 r2) : r0.waiting.length ≤ 1048576 ∧ r0.shares.length ≤ 1048576 := by
  unfold Ans answer at h
  split at h
  · rename_i hg
    have h1 := congrArg Prod.fst h; simp only at h1; subst h1
    rw [Bool.and_eq_true] at hg
    have h2 := good_lens hg.1
    exact ⟨by show (z0.waiting.filter _).length ≤ _; have := List.length_filter_le (fun x => !(x == nx z0)) z0.waiting; omega, by show z0.shares.length ≤ _; omega⟩
  · have h1 := congrArg Prod.fst h; simp only at h1; subst h1; simp [zeroF]
def Post (z0 : F) (w : World) (e : Ending) (w' : World) : Prop := ∃ v0 r0 r1 r2, e = .returned (.tuple #[v0, .int .i64 r1, .bool r2]) ∧ Ans z0 r0 r1 r2 ∧ LFloor.Own w' w.heap.size v0 r0 ∧ Below w.heap.size w w'
/-- a cell of another block, behind five stores -/
theorem set5_cell {w : World} {b o G : Nat} {u0 u1 u2 u3 u4 : Value} (h : b ≠ G) : (((((w.setCell ⟨G, 0, none⟩ u0).setCell ⟨G, 1, none⟩ u1).setCell ⟨G, 2, none⟩ u2).setCell ⟨G, 3, none⟩ u3).setCell ⟨G, 4, none⟩ u4).cell? ⟨b, o, none⟩ = w.cell? ⟨b, o, none⟩ := by
  have e : ∀ (x : World) (i : Nat) (u : Value), (x.setCell ⟨G, i, none⟩ u).cell? ⟨b, o, none⟩ = x.cell? ⟨b, o, none⟩ := fun x i u => World.cell?_of_block (a := ⟨b, o, none⟩) (Below.heap_setCell x ⟨G, i, none⟩ u b h)
  rw [e, e, e, e, e]
set_option maxRecDepth 100000 in
set_option maxHeartbeats 1600000 in
theorem spec (v0 : Value) (z0 : F) (w : World) (h0 : LFloor.IsQ w v0 z0) (f0 : LFloor.Fine z0) (l3 : z0.waiting.length ≤ 1048576) (l4 : z0.shares.length ≤ 1048576) : Calls Try.prog 16 #[v0] w (Post z0 w) := by
  obtain ⟨r, hr⟩ : ∃ r, r = z0 := ⟨_, rfl⟩
  subst hr
  obtain ⟨a3, n3, c3, a4, n4, c4, rfl, HN3, HN4, hb3, hb4, hm3, hm4, HQ3, HQ4, HIQ⟩ := open_isq h0
  clear h0
  have HI := Lib.hid (LFloor.IsQ.is HIQ.out)
  obtain ⟨W0, hW⟩ : ∃ W : World, W = (w.alloc (Obj.cells #[.int .i64 r.turns, .int .i64 r.seconds, .int .i64 r.speaking, .slice a3 n3 c3, .slice a4 n4 c4] 29)).alloc (Obj.cells #[.int .i64 0, .int .i64 0, .int .i64 0, .slice none 0 0, .slice none 0 0] 29) := ⟨_, rfl⟩
  have hbT : Below w.heap.size w W0 := by rw [hW]; exact ((Below.refl _ _).alloc (Nat.le_refl _) _).alloc (by simp) _
  have HZ := Lib.hid (show W0.heap.size = w.heap.size + 2 by rw [hW]; simp)
  have B0 := Lib.hid (show Bx W0 w.heap.size 29 #[.int .i64 r.turns, .int .i64 r.seconds, .int .i64 r.speaking, .slice a3 n3 c3, .slice a4 n4 c4] by rw [hW]; exact (Bx.new _ _ _).alloc _)
  have BR := Lib.hid (show Bx W0 (w.heap.size + 1) 29 #[.int .i64 0, .int .i64 0, .int .i64 0, .slice none 0 0, .slice none 0 0] by rw [hW]; have := Bx.new (w.alloc (Obj.cells #[.int .i64 r.turns, .int .i64 r.seconds, .int .i64 r.speaking, .slice a3 n3 c3, .slice a4 n4 c4] 29)) 29 #[.int .i64 0, .int .i64 0, .int .i64 0, .slice none 0 0, .slice none 0 0]; simpa using this)
  have HL := Lib.hid (And.intro l3 l4)
  clear l3 l4
  have HC := Lib.hid (FlG.l8Good _ r W0 (LFloor.Is.below HI.out hbT))
  have q0 := B0.out.cell 0
  have q1 := B0.out.cell 1
  have q2 := B0.out.cell 2
  have q3 := B0.out.cell 3
  have q4 := B0.out.cell 4
  simp only [List.getElem?_toArray, List.getElem?_cons_zero, List.getElem?_cons_succ] at q0 q1 q2 q3 q4
  go_enter Try.func16, Try.ntmps16
  go_wp2_with fail
  rw [← hW]
  clear hW
  refine HC.out.mono ?_
  rintro e w1 ⟨rfl, hb1⟩
  replace BR := Lib.hid (BR.out.kept hb1)
  replace B0 := Lib.hid (B0.out.kept hb1)
  have HZ1 := Lib.hid (show w.heap.size + 2 ≤ w1.heap.size by have := HZ.out; have := hb1.size; omega)
  replace hbT := hbT.trans (hb1.mono hbT.size)
  clear hb1 q0 q1 q2 q3 q4
  have q0 := B0.out.cell 0
  have q1 := B0.out.cell 1
  have q2 := B0.out.cell 2
  have q3 := B0.out.cell 3
  have q4 := B0.out.cell 4
  simp only [List.getElem?_toArray, List.getElem?_cons_zero, List.getElem?_cons_succ] at q0 q1 q2 q3 q4
  cases hg : good r with
  | false =>
    have HA := Lib.hid (show Ans r zeroF 0 false by unfold Ans answer; rw [hg]; rfl)
    clear hg
    have BR5 := BR.out
    have r0 := BR5.cell 0
    have r1 := BR5.cell 1
    have r2 := BR5.cell 2
    have r3 := BR5.cell 3
    have r4 := BR5.cell 4
    simp only [List.getElem?_toArray, List.getElem?_cons_zero, List.getElem?_cons_succ] at r0 r1 r2 r3 r4
    have z0 := BR5.frozen 0
    have z1 := BR5.frozen 1
    have z2 := BR5.frozen 2
    have z3 := BR5.frozen 3
    have z4 := BR5.frozen 4
    have hRF := (Bx.set_ (Bx.set_ (Bx.set_ (Bx.set_ (Bx.set_ BR5 0 (.int .i64 0)) 1 (.int .i64 0)) 2 (.int .i64 0)) 3 (.slice none 0 0)) 4 (.slice none 0 0))
    have c0 := hRF.cell 0
    have c1 := hRF.cell 1
    have c2 := hRF.cell 2
    have c3 := hRF.cell 3
    have c4 := hRF.cell 4
    simp at c0 c1 c2 c3 c4
    clear hRF
    go_wp2_with fail
    refine bodyPost_ret (v := .tuple #[.agg #[.int .i64 0, .int .i64 0, .int .i64 0, .slice none 0 0, .slice none 0 0], .int .i64 0, .bool false]) (by simp [results, Try.results16, go_sem, c0, c1, c2, c3, c4]) rfl ?_
    exact ⟨_, zeroF, 0, false, rfl, HA.out, LFloor.Own.zero, (Below.setCell (Below.setCell (Below.setCell (Below.setCell (Below.setCell hbT (p := ⟨w.heap.size + 1, 0, none⟩) (by show w.heap.size ≤ w.heap.size + 1; omega) (.int .i64 0)) (p := ⟨w.heap.size + 1, 1, none⟩) (by show w.heap.size ≤ w.heap.size + 1; omega) (.int .i64 0)) (p := ⟨w.heap.size + 1, 2, none⟩) (by show w.heap.size ≤ w.heap.size + 1; omega) (.int .i64 0)) (p := ⟨w.heap.size + 1, 3, none⟩) (by show w.heap.size ≤ w.heap.size + 1; omega) (.slice none 0 0)) (p := ⟨w.heap.size + 1, 4, none⟩) (by show w.heap.size ≤ w.heap.size + 1; omega) (.slice none 0 0))⟩
  | true =>
  cases hs : (r.speaking == 0) with
  | false =>
    have HA := Lib.hid (show Ans r zeroF 0 false by unfold Ans answer; rw [hg, hs]; rfl)
    have hs2 : (r.speaking != 0) = true := by rw [bne, hs]; rfl
    clear hg
    have BR5 := BR.out
    have r0 := BR5.cell 0
    have r1 := BR5.cell 1
    have r2 := BR5.cell 2
    have r3 := BR5.cell 3
    have r4 := BR5.cell 4
    simp only [List.getElem?_toArray, List.getElem?_cons_zero, List.getElem?_cons_succ] at r0 r1 r2 r3 r4
    have z0 := BR5.frozen 0
    have z1 := BR5.frozen 1
    have z2 := BR5.frozen 2
    have z3 := BR5.frozen 3
    have z4 := BR5.frozen 4
    have hRF := (Bx.set_ (Bx.set_ (Bx.set_ (Bx.set_ (Bx.set_ BR5 0 (.int .i64 0)) 1 (.int .i64 0)) 2 (.int .i64 0)) 3 (.slice none 0 0)) 4 (.slice none 0 0))
    have c0 := hRF.cell 0
    have c1 := hRF.cell 1
    have c2 := hRF.cell 2
    have c3 := hRF.cell 3
    have c4 := hRF.cell 4
    simp at c0 c1 c2 c3 c4
    clear hRF
    go_wp2_with fail
    refine bodyPost_ret (v := .tuple #[.agg #[.int .i64 0, .int .i64 0, .int .i64 0, .slice none 0 0, .slice none 0 0], .int .i64 0, .bool false]) (by simp [results, Try.results16, go_sem, c0, c1, c2, c3, c4]) rfl ?_
    exact ⟨_, zeroF, 0, false, rfl, HA.out, LFloor.Own.zero, (Below.setCell (Below.setCell (Below.setCell (Below.setCell (Below.setCell hbT (p := ⟨w.heap.size + 1, 0, none⟩) (by show w.heap.size ≤ w.heap.size + 1; omega) (.int .i64 0)) (p := ⟨w.heap.size + 1, 1, none⟩) (by show w.heap.size ≤ w.heap.size + 1; omega) (.int .i64 0)) (p := ⟨w.heap.size + 1, 2, none⟩) (by show w.heap.size ≤ w.heap.size + 1; omega) (.int .i64 0)) (p := ⟨w.heap.size + 1, 3, none⟩) (by show w.heap.size ≤ w.heap.size + 1; omega) (.slice none 0 0)) (p := ⟨w.heap.size + 1, 4, none⟩) (by show w.heap.size ≤ w.heap.size + 1; omega) (.slice none 0 0))⟩
  | true =>
  have hs2 : (r.speaking != 0) = false := by rw [bne, hs]; rfl
  by_cases h0 : n3 = 0
  · have HA := Lib.hid (show Ans r zeroF 0 false by unfold Ans answer; rw [hg, hs, decide_eq_false (show ¬ 0 < r.waiting.length by have := HN3.out; omega)]; rfl)
    subst h0
    clear hg
    have BR5 := BR.out
    have r0 := BR5.cell 0
    have r1 := BR5.cell 1
    have r2 := BR5.cell 2
    have r3 := BR5.cell 3
    have r4 := BR5.cell 4
    simp only [List.getElem?_toArray, List.getElem?_cons_zero, List.getElem?_cons_succ] at r0 r1 r2 r3 r4
    have z0 := BR5.frozen 0
    have z1 := BR5.frozen 1
    have z2 := BR5.frozen 2
    have z3 := BR5.frozen 3
    have z4 := BR5.frozen 4
    have hRF := (Bx.set_ (Bx.set_ (Bx.set_ (Bx.set_ (Bx.set_ BR5 0 (.int .i64 0)) 1 (.int .i64 0)) 2 (.int .i64 0)) 3 (.slice none 0 0)) 4 (.slice none 0 0))
    have c0 := hRF.cell 0
    have c1 := hRF.cell 1
    have c2 := hRF.cell 2
    have c3 := hRF.cell 3
    have c4 := hRF.cell 4
    simp at c0 c1 c2 c3 c4
    clear hRF
    go_wp2_with fail
    refine bodyPost_ret (v := .tuple #[.agg #[.int .i64 0, .int .i64 0, .int .i64 0, .slice none 0 0, .slice none 0 0], .int .i64 0, .bool false]) (by simp [results, Try.results16, go_sem, c0, c1, c2, c3, c4]) rfl ?_
    exact ⟨_, zeroF, 0, false, rfl, HA.out, LFloor.Own.zero, (Below.setCell (Below.setCell (Below.setCell (Below.setCell (Below.setCell hbT (p := ⟨w.heap.size + 1, 0, none⟩) (by show w.heap.size ≤ w.heap.size + 1; omega) (.int .i64 0)) (p := ⟨w.heap.size + 1, 1, none⟩) (by show w.heap.size ≤ w.heap.size + 1; omega) (.int .i64 0)) (p := ⟨w.heap.size + 1, 2, none⟩) (by show w.heap.size ≤ w.heap.size + 1; omega) (.int .i64 0)) (p := ⟨w.heap.size + 1, 3, none⟩) (by show w.heap.size ≤ w.heap.size + 1; omega) (.slice none 0 0)) (p := ⟨w.heap.size + 1, 4, none⟩) (by show w.heap.size ≤ w.heap.size + 1; omega) (.slice none 0 0))⟩
  have hn0 : 0 < r.waiting.length := by have := HN3.out; omega
  have h0i : ((n3 : Int) == 0) = false := by simp; omega
  have HAA := Lib.hid (show answer r = ({ r with speaking := nx r, waiting := LIntDelDrop.kept r.waiting (nx r) }, nx r, true) by unfold answer; rw [hg, hs, decide_eq_true hn0]; rfl)
  have HGP := Lib.hid (good_parts hg).2.2.2.2.1
  have HNX := Lib.hid (FlW.l8Next _ r w1 (LFloor.Is.below HI.out hbT) hn0)
  clear hg hs
  go_wp2_with fail
  refine HNX.out.mono ?_
  rintro e wn ⟨k, rfl, hbest, hb1⟩
  obtain ⟨x, hx⟩ : ∃ x, r.waiting[k]? = some x := ⟨_, List.getElem?_eq_getElem (best_lt hbest)⟩
  have hkn : k < n3 := by have := best_lt hbest; have := HN3.out; omega
  have HX := Lib.hid hx
  have HNXX := Lib.hid (show nx r = x by unfold nx; rw [srt_best r.waiting.length r.waiting k x rfl hbest hx]; rfl)
  have HA := Lib.hid (show Ans r { r with speaking := x, waiting := LIntDelDrop.kept r.waiting x } x true by unfold Ans; rw [HAA.out, HNXX.out])
  have HKE := Lib.hid (show LIntDelDrop.kept r.waiting x = without r.waiting k from filter_without r.waiting k x hx (wt_distinct (wt_of HGP.out)))
  replace BR := Lib.hid (BR.out.kept hb1)
  replace B0 := Lib.hid (B0.out.kept hb1)
  have HZn := Lib.hid (Nat.le_trans HZ1.out hb1.size)
  replace hbT := hbT.trans (hb1.mono hbT.size)
  clear hb1 hbest hx HNX q0 q1 q2 q3 q4 hs2 h0i HZ1
  have HZ1 := HZn
  clear HZn
  have HY := Lib.hid (l8Own _ r wn (LFloor.IsQ.below HIQ.out hbT) (by have := HL.out.1; omega) (by have := HL.out.2; omega))
  have q0 := B0.out.cell 0
  have q1 := B0.out.cell 1
  have q2 := B0.out.cell 2
  have q3 := B0.out.cell 3
  have q4 := B0.out.cell 4
  simp only [List.getElem?_toArray, List.getElem?_cons_zero, List.getElem?_cons_succ] at q0 q1 q2 q3 q4
  go_wp2_with fail
  refine HY.out.mono ?_
  rintro e w2 ⟨v, rfl, hO, hb1⟩
  obtain ⟨u3, u4, rfl, o3, o4, d34⟩ := hO
  obtain ⟨b3, m3, d3, rfl⟩ := own_slice o3
  obtain ⟨b4, m4, d4, rfl⟩ := own_slice o4
  obtain ⟨O, hO⟩ : ∃ O, O = w2.heap.size := ⟨_, rfl⟩
  obtain ⟨wc, hwc⟩ : ∃ wc : World, wc = w2.alloc (Obj.cells #[.int .i64 r.turns, .int .i64 r.seconds, .int .i64 r.speaking, .slice b3 m3 d3, .slice b4 m4 d4] 29) := ⟨_, rfl⟩
  have hba : Below w2.heap.size w2 wc := by rw [hwc]; exact (Below.refl _ _).alloc (Nat.le_refl _) _
  have BO := Lib.hid (show Bx wc O 29 #[.int .i64 r.turns, .int .i64 r.seconds, .int .i64 r.speaking, .slice b3 m3 d3, .slice b4 m4 d4] by rw [hwc, hO]; exact Bx.new _ _ _)
  have hb2 := hb1.trans (hba.mono hb1.size)
  replace BR := Lib.hid (BR.out.kept hb2)
  replace B0 := Lib.hid (B0.out.kept hb2)
  have HN := Lib.hid (show (∀ k, (Value.slice b3 m3 d3).ownBlock = some k → k < O) ∧ ∀ k, (Value.slice b4 m4 d4).ownBlock = some k → k < O from ⟨fun k hk => by have := (o3.lt k hk).2; omega, fun k hk => by have := (o4.lt k hk).2; omega⟩)
  have HO3 := Lib.hid (o3.kept hba)
  have HO4 := Lib.hid (o4.kept hba)
  have HOO := Lib.hid (show w.heap.size + 1 < O by have h1 := HZ1.out; have h2 := hb1.size; omega)
  have HWC := Lib.hid (show O < wc.heap.size from BO.out.lt)
  have HD := Lib.hid d34
  have HZW := Lib.hid (show wn.heap.size ≤ wc.heap.size from hb2.size)
  replace hbT := hbT.trans (hb2.mono hbT.size)
  clear hb1 hb2 hba o3 o4 d34 HY q0 q1 q2 q3 q4
  go_upto_region 5 with fail
  rw [← hwc, ← hO]
  clear hwc hO
  obtain ⟨b, o, rfl, hbq, HS0⟩ := isq_some (HQ3.out w (Below.refl _ _)) (by omega)
  have HIS := Lib.hid (show IsS LInt.rec w (.slice (some ⟨b, o, none⟩) n3 c3) r.waiting from HS0)
  have HBQ := Lib.hid hbq
  have HXC0 := Lib.hid (show ∀ w' : World, Below w.heap.size w w' → w'.cell? ⟨b, o + k, none⟩ = some (.int .i64 x) from fun w' hb => by
    have h := LInt.cells (isS_at (IsS.below LInt.rec HIS.out hb) HX.out).2
    simpa only [LInt.rec_n, Nat.mul_one] using h)
  clear HS0 hbq
  have q3 := B0.out.cell 3
  simp only [List.getElem?_toArray, List.getElem?_cons_zero, List.getElem?_cons_succ] at q3
  have y0 := HXC0.out _ hbT
  have k0 : 0 ≤ (k : Int) := by omega
  have k1 : (k : Int) < (n3 : Int) := by omega
  have f2 := BO.out.frozen 2
  have t2 := BO.out.cell 2
  simp only [List.getElem?_toArray, List.getElem?_cons_zero, List.getElem?_cons_succ] at t2
  have hoo := HOO.out
  obtain ⟨we, hwe⟩ : ∃ we : World, we = wc.setCell ⟨O, 2, none⟩ (.int .i64 x) := ⟨_, rfl⟩
  have BO2 := Lib.hid (show Bx we O 29 #[.int .i64 r.turns, .int .i64 r.seconds, .int .i64 x, .slice b3 m3 d3, .slice b4 m4 d4] by rw [hwe]; exact BO.out.set_ 2 (.int .i64 x))
  have B02 := Lib.hid (show Bx we w.heap.size _ _ by rw [hwe]; exact B0.out.far (p := ⟨O, 2, none⟩) (show w.heap.size ≠ O by omega) _)
  have BR2 := Lib.hid (show Bx we (w.heap.size + 1) _ _ by rw [hwe]; exact BR.out.far (p := ⟨O, 2, none⟩) (show w.heap.size + 1 ≠ O by omega) _)
  have HO42 := Lib.hid (show Bs.Own LShare.rec 60 we wn.heap.size _ _ by rw [hwe]; exact own_set HO4.out (p := ⟨O, 2, none⟩) (fun kk hkk => by have h2 := HN.out.2 kk hkk; show kk ≠ O; omega) (.int .i64 x))
  replace hbT : Below w.heap.size w we := by rw [hwe]; exact hbT.setCell (p := ⟨O, 2, none⟩) (by show w.heap.size ≤ O; omega) _
  have HWE := Lib.hid (show O < we.heap.size from BO2.out.lt)
  go_upto_region 6 with fail
  rw [← hwe]
  clear hwe q3 y0 f2 t2 BO B0 BR
  have HWO := Lib.hid (FlW.l8Without b o n3 c3 r.waiting k we (IsS.below LInt.rec HIS.out hbT) hkn (by have := HL.out.1; have := HN3.out; omega))
  have q3 := B02.out.cell 3
  simp only [List.getElem?_toArray, List.getElem?_cons_zero, List.getElem?_cons_succ] at q3
  go_wp2_with fail
  refine HWO.out.mono ?_
  rintro e w4 ⟨v5, rfl, ho5, hb1⟩
  obtain ⟨b5, m5, d5, rfl⟩ := own_slice ho5
  have BO4 := BO2.out.kept hb1
  have B04 := B02.out.kept hb1
  have BR4 := BR2.out.kept hb1
  have o4 := HO42.out.kept hb1
  replace hbT := hbT.trans (hb1.mono hbT.size)
  have h5 : ∀ kk, (Value.slice b5 m5 d5).ownBlock = some kk → we.heap.size ≤ kk := fun kk hkk => (ho5.lt kk hkk).1
  clear q3 HWO hb1
  have z3 := BO4.frozen 3
  have t3 := BO4.cell 3
  simp only [List.getElem?_toArray, List.getElem?_cons_zero, List.getElem?_cons_succ] at t3
  have hwo := HWE.out
  obtain ⟨wd, hwd⟩ : ∃ wd : World, wd = w4.setCell ⟨O, 3, none⟩ (.slice b5 m5 d5) := ⟨_, rfl⟩
  have BO5 := show Bx wd O 29 #[.int .i64 r.turns, .int .i64 r.seconds, .int .i64 x, .slice b5 m5 d5, .slice b4 m4 d4] by rw [hwd]; exact BO4.set_ 3 (.slice b5 m5 d5)
  have HP0 := Lib.hid (show Bx wd w.heap.size _ _ by rw [hwd]; exact B04.far (p := ⟨O, 3, none⟩) (show w.heap.size ≠ O by omega) _)
  have BR5 := show Bx wd (w.heap.size + 1) _ _ by rw [hwd]; exact BR4.far (p := ⟨O, 3, none⟩) (show w.heap.size + 1 ≠ O by omega) _
  have p3 := show Bs.Own LInt.rec 3 wd we.heap.size _ _ by rw [hwd]; exact own_set ho5 (p := ⟨O, 3, none⟩) (fun kk hkk => by have h2 := h5 kk hkk; show kk ≠ O; omega) (.slice b5 m5 d5)
  have p4 := show Bs.Own LShare.rec 60 wd wn.heap.size _ _ by rw [hwd]; exact own_set o4 (p := ⟨O, 3, none⟩) (fun kk hkk => by have h2 := HN.out.2 kk hkk; show kk ≠ O; omega) (.slice b5 m5 d5)
  have HDD := Lib.hid (show Dist (.slice b5 m5 d5) (.slice b4 m4 d4) from Dist.of_gt (m := we.heap.size) h5 (fun kk hkk => by have h2 := HN.out.2 kk hkk; omega))
  replace hbT : Below w.heap.size w wd := by rw [hwd]; exact hbT.setCell (p := ⟨O, 3, none⟩) (by show w.heap.size ≤ O; omega) _
  have hz1 := HZ1.out
  have hbq := HBQ.out
  clear ho5 o4 BO4 B04 BR4 h5
  have HXC := Lib.hid (show ∀ w' : World, Below wd.heap.size wd w' → w'.cell? ⟨b, o + k, none⟩ = some (.int .i64 x) from fun w' hb => HXC0.out _ (hbT.trans (hb.mono hbT.size)))
  have HK := Lib.hid (show ∀ w' : World, Below wd.heap.size wd w' → Below w.heap.size w w' ∧ (w'.cell? ⟨O, 0, none⟩ = some (.int .i64 r.turns) ∧ w'.cell? ⟨O, 1, none⟩ = some (.int .i64 r.seconds) ∧ w'.cell? ⟨O, 2, none⟩ = some (.int .i64 x) ∧ w'.cell? ⟨O, 3, none⟩ = some (.slice b5 m5 d5) ∧ w'.cell? ⟨O, 4, none⟩ = some (.slice b4 m4 d4)) ∧ w'.cell? ⟨w.heap.size, 3, none⟩ = some (.slice (some ⟨b, o, none⟩) n3 c3) ∧ w'.cell? ⟨b, o + k, none⟩ = some (.int .i64 x) from fun w' hb => ⟨hbT.trans (hb.mono hbT.size), by rw [(BO5.kept hb).cell 0, (BO5.kept hb).cell 1, (BO5.kept hb).cell 2, (BO5.kept hb).cell 3, (BO5.kept hb).cell 4]; exact ⟨rfl, rfl, rfl, rfl, rfl⟩, by rw [(HP0.out.kept hb).cell 3]; rfl, HXC.out _ hb⟩)
  go_upto_region 7 with fail
  rw [← hwd]
  clear hwd z3 t3
  have hB : Below wd.heap.size wd wd.drew := (Below.refl _ _).drew
  refine wp_region_held_drew (S := fun w' => Below w.heap.size w w' ∧ (w'.cell? ⟨O, 0, none⟩ = some (.int .i64 r.turns) ∧ w'.cell? ⟨O, 1, none⟩ = some (.int .i64 r.seconds) ∧ w'.cell? ⟨O, 2, none⟩ = some (.int .i64 x) ∧ w'.cell? ⟨O, 3, none⟩ = some (.slice b5 m5 d5) ∧ w'.cell? ⟨O, 4, none⟩ = some (.slice b4 m4 d4)) ∧ w'.cell? ⟨w.heap.size, 3, none⟩ = some (.slice (some ⟨b, o, none⟩) n3 c3) ∧ w'.cell? ⟨b, o + k, none⟩ = some (.int .i64 x)) (by kernel_rfl) (HK.out _ hB) (fun hHeld => ?_)
  generalize wd.drew = x0 at *
  refine wpAnyH_take (i := 0) (v := ?v1) rfl (by kernel_rfl) (by kernel_rfl) (by kernel_rfl) (fun _ _ _ h => h) (Or.inl ⟨by rfl, ?hy1⟩) (by assumption) ?rest1
  case hy1 => (intro wq hSw; (try dsimp only at hSw); go_split_ands; go_simp; (try with_reducible rfl))
  case rest1 =>
  refine wpAnyH_take (i := 1) (v := ?v2) rfl (by kernel_rfl) (by kernel_rfl) (by kernel_rfl) (fun _ _ _ h => h) (Or.inl ⟨by rfl, ?hy2⟩) (by assumption) ?rest2
  case hy2 => (intro wq hSw; (try dsimp only at hSw); go_split_ands; go_simp; (try with_reducible rfl))
  case rest2 =>
  refine wpAnyH_take (i := 2) (v := ?v3) rfl (by kernel_rfl) (by kernel_rfl) (by kernel_rfl) (fun _ _ _ h => h) (Or.inl ⟨by rfl, ?hy3⟩) (by assumption) ?rest3
  case hy3 => (intro wq hSw; (try dsimp only at hSw); go_split_ands; go_simp; (try with_reducible rfl))
  case rest3 =>
  refine wpAnyH_take (i := 3) (v := ?v4) rfl (by kernel_rfl) (by kernel_rfl) (by kernel_rfl) (fun _ _ _ h => h) (Or.inl ⟨by rfl, ?hy4⟩) (by assumption) ?rest4
  case hy4 => (intro wq hSw; (try dsimp only at hSw); go_split_ands; go_simp; (try with_reducible rfl))
  case rest4 =>
  refine wpAnyH_take (i := 4) (v := ?v5) rfl (by kernel_rfl) (by kernel_rfl) (by kernel_rfl) (fun _ _ _ h => h) (Or.inl ⟨by rfl, ?hy5⟩) (by assumption) ?rest5
  case hy5 => (intro wq hSw; (try dsimp only at hSw); go_split_ands; go_simp; (try with_reducible rfl))
  case rest5 =>
  refine wpAnyH_take (i := 5) (v := ?v6) rfl (by kernel_rfl) (by kernel_rfl) (by kernel_rfl) (fun _ _ _ h => h) (Or.inl ⟨by rfl, ?hy6⟩) (by assumption) ?rest6
  case hy6 => (intro wq hSw; (try dsimp only at hSw); go_split_ands; go_simp; (try with_reducible rfl))
  case rest6 =>
  refine wpAnyH_ready (rs := [6]) (by kernel_rfl) (by simp) ?_
  refine AllReadyH.cons rfl (fun K hK => ?step7) ?more7
  case step7 =>
    have BRX := BR5.kept hB
    have z0 := BRX.frozen 0
    have z1 := BRX.frozen 1
    have z2 := BRX.frozen 2
    have z3 := BRX.frozen 3
    have z4 := BRX.frozen 4
    have u0 := BRX.cell 0
    have u1 := BRX.cell 1
    have u2 := BRX.cell 2
    have u3 := BRX.cell 3
    have u4 := BRX.cell 4
    simp only [List.getElem?_toArray, List.getElem?_cons_zero, List.getElem?_cons_succ] at u0 u1 u2 u3 u4
    have hO3 := (own_set (own_set (own_set (own_set (own_set (p3.kept hB) (p := ⟨w.heap.size + 1, 0, none⟩) (fun k hk => by have h2 := (p3.lt k hk).1; show k ≠ w.heap.size + 1; omega) (.int .i64 r.turns)) (p := ⟨w.heap.size + 1, 1, none⟩) (fun k hk => by have h2 := (p3.lt k hk).1; show k ≠ w.heap.size + 1; omega) (.int .i64 r.seconds)) (p := ⟨w.heap.size + 1, 2, none⟩) (fun k hk => by have h2 := (p3.lt k hk).1; show k ≠ w.heap.size + 1; omega) (.int .i64 x)) (p := ⟨w.heap.size + 1, 3, none⟩) (fun k hk => by have h2 := (p3.lt k hk).1; show k ≠ w.heap.size + 1; omega) (.slice b5 m5 d5)) (p := ⟨w.heap.size + 1, 4, none⟩) (fun k hk => by have h2 := (p3.lt k hk).1; show k ≠ w.heap.size + 1; omega) (.slice b4 m4 d4))
    have hO4 := (own_set (own_set (own_set (own_set (own_set (p4.kept hB) (p := ⟨w.heap.size + 1, 0, none⟩) (fun k hk => by have h2 := (p4.lt k hk).1; show k ≠ w.heap.size + 1; omega) (.int .i64 r.turns)) (p := ⟨w.heap.size + 1, 1, none⟩) (fun k hk => by have h2 := (p4.lt k hk).1; show k ≠ w.heap.size + 1; omega) (.int .i64 r.seconds)) (p := ⟨w.heap.size + 1, 2, none⟩) (fun k hk => by have h2 := (p4.lt k hk).1; show k ≠ w.heap.size + 1; omega) (.int .i64 x)) (p := ⟨w.heap.size + 1, 3, none⟩) (fun k hk => by have h2 := (p4.lt k hk).1; show k ≠ w.heap.size + 1; omega) (.slice b5 m5 d5)) (p := ⟨w.heap.size + 1, 4, none⟩) (fun k hk => by have h2 := (p4.lt k hk).1; show k ≠ w.heap.size + 1; omega) (.slice b4 m4 d4))
    have hBF := (Below.setCell (Below.setCell (Below.setCell (Below.setCell (Below.setCell (hbT.trans (hB.mono hbT.size)) (p := ⟨w.heap.size + 1, 0, none⟩) (by show w.heap.size ≤ w.heap.size + 1; omega) (.int .i64 r.turns)) (p := ⟨w.heap.size + 1, 1, none⟩) (by show w.heap.size ≤ w.heap.size + 1; omega) (.int .i64 r.seconds)) (p := ⟨w.heap.size + 1, 2, none⟩) (by show w.heap.size ≤ w.heap.size + 1; omega) (.int .i64 x)) (p := ⟨w.heap.size + 1, 3, none⟩) (by show w.heap.size ≤ w.heap.size + 1; omega) (.slice b5 m5 d5)) (p := ⟨w.heap.size + 1, 4, none⟩) (by show w.heap.size ≤ w.heap.size + 1; omega) (.slice b4 m4 d4))
    have hRF := (((((BRX.set_ 0 (.int .i64 r.turns)).set_ 1 (.int .i64 r.seconds)).set_ 2 (.int .i64 x)).set_ 3 (.slice b5 m5 d5)).set_ 4 (.slice b4 m4 d4))
    have hFB := (Bx.far (Bx.far (Bx.far (Bx.far (Bx.far (BO5.kept hB) (p := ⟨w.heap.size + 1, 0, none⟩) (show O ≠ w.heap.size + 1 by omega) (.int .i64 r.turns)) (p := ⟨w.heap.size + 1, 1, none⟩) (show O ≠ w.heap.size + 1 by omega) (.int .i64 r.seconds)) (p := ⟨w.heap.size + 1, 2, none⟩) (show O ≠ w.heap.size + 1 by omega) (.int .i64 x)) (p := ⟨w.heap.size + 1, 3, none⟩) (show O ≠ w.heap.size + 1 by omega) (.slice b5 m5 d5)) (p := ⟨w.heap.size + 1, 4, none⟩) (show O ≠ w.heap.size + 1 by omega) (.slice b4 m4 d4))
    go_simp
    refine hK.out _ _ ⟨hBF, by rw [hFB.cell 0, hFB.cell 1, hFB.cell 2, hFB.cell 3, hFB.cell 4]; exact ⟨rfl, rfl, rfl, rfl, rfl⟩, by rw [(Bx.far (Bx.far (Bx.far (Bx.far (Bx.far (HP0.out.kept hB) (p := ⟨w.heap.size + 1, 0, none⟩) (show w.heap.size ≠ w.heap.size + 1 by omega) (.int .i64 r.turns)) (p := ⟨w.heap.size + 1, 1, none⟩) (show w.heap.size ≠ w.heap.size + 1 by omega) (.int .i64 r.seconds)) (p := ⟨w.heap.size + 1, 2, none⟩) (show w.heap.size ≠ w.heap.size + 1 by omega) (.int .i64 x)) (p := ⟨w.heap.size + 1, 3, none⟩) (show w.heap.size ≠ w.heap.size + 1 by omega) (.slice b5 m5 d5)) (p := ⟨w.heap.size + 1, 4, none⟩) (show w.heap.size ≠ w.heap.size + 1 by omega) (.slice b4 m4 d4)).cell 3]; rfl, by rw [set5_cell (G := w.heap.size + 1) (by omega)]; exact HXC.out _ hB⟩ (fun hHeld => ?_)
    clear hK K
    refine wpAnyH_take (i := 7) (v := ?v8) rfl (by kernel_rfl) (by kernel_rfl) (by kernel_rfl) (fun _ _ _ h => h) (Or.inl ⟨by rfl, ?hy8⟩) (by assumption) ?rest8
    case hy8 => (intro wq hSw; (try dsimp only at hSw); go_split_ands; go_simp; (try with_reducible rfl))
    case rest8 =>
    refine wpAnyH_take (i := 8) (v := ?v9) rfl (by kernel_rfl) (by kernel_rfl) (by kernel_rfl) (fun _ _ _ h => h) (Or.inl ⟨by rfl, ?hy9⟩) (by assumption) ?rest9
    case hy9 => (intro wq hSw; (try dsimp only at hSw); go_split_ands; go_simp; (try with_reducible rfl))
    case rest9 =>
    refine wpAnyH_done (by kernel_rfl) ?_ _
    have y0 := hRF.cell 0
    have y1 := hRF.cell 1
    have y2 := hRF.cell 2
    have y3 := hRF.cell 3
    have y4 := hRF.cell 4
    simp at y0 y1 y2 y3 y4
    go_wp2_with fail
    refine bodyPost_ret (v := .tuple #[.agg #[.int .i64 r.turns, .int .i64 r.seconds, .int .i64 x, .slice b5 m5 d5, .slice b4 m4 d4], .int .i64 x, .bool true]) (by simp [results, Try.results16, go_sem, y0, y1, y2, y3, y4]) rfl ?_
    exact ⟨_, _, x, true, rfl, HA.out, ⟨_, _, rfl, by show Bs.Own _ _ _ _ _ (LIntDelDrop.kept r.waiting x); rw [HKE.out]; exact hO3.low (by omega), hO4.low (by omega), HDD.out⟩, hBF⟩
  case more7 => exact AllReadyH.nil
end Go.Proofs.Ytmbffcblhhippaa.NextSpeakerC
