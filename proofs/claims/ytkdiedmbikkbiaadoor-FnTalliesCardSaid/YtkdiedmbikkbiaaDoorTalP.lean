/- A tally read from its text: the model and the program. The laid package variables of the program's library must lie in memory for the program; the text is no longer than the law lets it be. -/
import Derived.Test.YtkdiedmbikkbiaaDoorTalX
import Derived.Test.YtkdiedmbikkbiaaDoorSplA
import Derived.Test.YtkdiedmbikkbiaaDoorSplI
import Derived.Test.YtkdiedmbikkbiaaDoorRv
import Derived.Deep.CutBlock
import Derived.Deep.DeepCutAuto
namespace Go.Proofs.YtkdiedmbikkbiaaDoor.TalP
open Go.RowKit Bs Word Tal TalT SplitMath NumMath Rv
set_option linter.unusedVariables false
def Post (a0 : ByteArray) (w : World) (e : Ending) (w' : World) : Prop := ∃ r0 r1, e = .returned (.tuple #[.agg #[.int .i64 r0.yes, .int .i64 r0.no, .int .i64 r0.abstain], .bool r1]) ∧ Ans a0 r0 r1 ∧ Below w.heap.size w w'
theorem put3 {w : World} {G : Nat} {t : TypeId} {a b c : Value} (h : Bx w G t #[a, b, c]) (x y z : Value) : (((w.setCell ⟨G, 0, none⟩ x).setCell ⟨G, 1, none⟩ y).setCell ⟨G, 2, none⟩ z).cell? ⟨G, 0, none⟩ = some x ∧ (((w.setCell ⟨G, 0, none⟩ x).setCell ⟨G, 1, none⟩ y).setCell ⟨G, 2, none⟩ z).cell? ⟨G, 1, none⟩ = some y ∧ (((w.setCell ⟨G, 0, none⟩ x).setCell ⟨G, 1, none⟩ y).setCell ⟨G, 2, none⟩ z).cell? ⟨G, 2, none⟩ = some z := by
  have h3 := ((h.set_ 0 x).set_ 1 y).set_ 2 z
  exact ⟨h3.cell 0, h3.cell 1, h3.cell 2⟩
set_option maxRecDepth 100000 in
set_option maxHeartbeats 3200000 in
theorem specP (a0 : ByteArray) (w : World) (hs : a0.size ≤ 1048576) : Calls Tryd.prog 12 #[.string a0] w (Post a0 w) := by
  obtain ⟨s, hs0⟩ : ∃ s, s = a0 := ⟨_, rfl⟩
  subst hs0
  obtain ⟨W, hW⟩ : ∃ W : World, W = w.alloc (Obj.cells #[.int .i64 0, .int .i64 0, .int .i64 0] 25) := ⟨_, rfl⟩
  have hb : Below w.heap.size w W := by rw [hW]; exact (Below.refl _ _).alloc (Nat.le_refl _) _
  have R0 := Lib.hid (show Bx W w.heap.size 25 #[.int .i64 0, .int .i64 0, .int .i64 0] by rw [hW]; exact Bx.new _ _ _)
  obtain ⟨ws, hws⟩ : ∃ ws, splitOf s.data.toList 32 = ws := ⟨_, rfl⟩
  obtain ⟨n, hn⟩ : ∃ n, ws.length = n := ⟨_, rfl⟩
  have HSP := Lib.hid (fun W => SplA.split s 32 32 rfl ws n hws hn W (by omega))
  have hn1 : 1 ≤ n := by rw [← hn, ← hws]; simp [splitOf]
  have hn2 : n ≤ 1048577 := by
    have h1 := splitOf_length s.data.toList 32
    have hz : s.data.toList.length = s.size := Array.length_toList
    rw [hws, hn, hz] at h1; omega
  by_cases h50 : 50 < s.size
  · have HA := Lib.hid (none_len h50)
    clear hws hn
    go_enter Tryd.func12, Tryd.ntmps12
    go_wp2_with fail
    rw [← hW]
    clear hW
    refine (HSP.out _).mono ?_
    rintro e w1 ⟨g, cp, rfl, hnc, hcm, hg, hg2, hcell, hb1⟩
    unfold maxLen at hcm
    have HGL := Lib.hid (Nat.lt_of_lt_of_le R0.out.lt hg)
    replace R0 := Lib.hid (R0.out.kept hb1)
    replace hb := hb.trans (hb1.mono hb.size)
    clear hb1
    clear hcell
    have r0 := R0.out.cell 0
    have r1 := R0.out.cell 1
    have r2 := R0.out.cell 2
    simp only [List.getElem?_toArray, List.getElem?_cons_zero, List.getElem?_cons_succ] at r0 r1 r2
    have rf0 := R0.out.frozen 0
    have rf1 := R0.out.frozen 1
    have rf2 := R0.out.frozen 2
    go_wp2_with fail
    have HBF := ((hb.setCell (p := ⟨w.heap.size, 0, none⟩) (Nat.le_refl _) (.int .i64 0)).setCell (p := ⟨w.heap.size, 1, none⟩) (Nat.le_refl _) (.int .i64 0)).setCell (p := ⟨w.heap.size, 2, none⟩) (Nat.le_refl _) (.int .i64 0)
    obtain ⟨z0, z1, z2⟩ := put3 R0.out (.int .i64 0) (.int .i64 0) (.int .i64 0)
    (try simp only [Exit.inBlock, Exit.then])
    refine bodyPost_ret (v := .tuple #[.agg #[.int .i64 0, .int .i64 0, .int .i64 0], .bool false]) (by rw [results_cell_tmp rfl]; go_simp) rfl ?_
    exact ⟨zero, false, rfl, HA.out, HBF⟩
  by_cases h46 : ¬ (n = 4 ∨ n = 6)
  · have HA := Lib.hid (none_words hws (by rw [hn]; exact h46))
    have d4 : ((n : Int) != 4) = true := by rw [bne_iff_ne]; omega
    have d6 : ((n : Int) != 6) = true := by rw [bne_iff_ne]; omega
    clear hws hn
    go_enter Tryd.func12, Tryd.ntmps12
    go_wp2_with fail
    rw [← hW]
    clear hW
    refine (HSP.out _).mono ?_
    rintro e w1 ⟨g, cp, rfl, hnc, hcm, hg, hg2, hcell, hb1⟩
    unfold maxLen at hcm
    have HGL := Lib.hid (Nat.lt_of_lt_of_le R0.out.lt hg)
    replace R0 := Lib.hid (R0.out.kept hb1)
    replace hb := hb.trans (hb1.mono hb.size)
    clear hb1
    clear hcell
    have r0 := R0.out.cell 0
    have r1 := R0.out.cell 1
    have r2 := R0.out.cell 2
    simp only [List.getElem?_toArray, List.getElem?_cons_zero, List.getElem?_cons_succ] at r0 r1 r2
    have rf0 := R0.out.frozen 0
    have rf1 := R0.out.frozen 1
    have rf2 := R0.out.frozen 2
    go_wp2_with fail
    have HBF := ((hb.setCell (p := ⟨w.heap.size, 0, none⟩) (Nat.le_refl _) (.int .i64 0)).setCell (p := ⟨w.heap.size, 1, none⟩) (Nat.le_refl _) (.int .i64 0)).setCell (p := ⟨w.heap.size, 2, none⟩) (Nat.le_refl _) (.int .i64 0)
    obtain ⟨z0, z1, z2⟩ := put3 R0.out (.int .i64 0) (.int .i64 0) (.int .i64 0)
    (try simp only [Exit.inBlock, Exit.then])
    refine bodyPost_ret (v := .tuple #[.agg #[.int .i64 0, .int .i64 0, .int .i64 0], .bool false]) (by rw [results_cell_tmp rfl]; go_simp) rfl ?_
    exact ⟨zero, false, rfl, HA.out, HBF⟩
  rcases (show n = 4 ∨ n = 6 by omega) with rfl | rfl
  · obtain ⟨X0, hx0⟩ : ∃ X, X = wd ws 0 := ⟨_, rfl⟩
    have HX0 := Lib.hid (show ws[0]? = some X0 by rw [hx0]; unfold wd; rw [List.getD_eq_getElem?_getD, List.getElem?_eq_getElem (by omega)]; rfl)
    have HZ0 := Lib.hid (show (⟨X0.toArray⟩ : ByteArray).size ≤ 1048576 by
      have hm := List.mem_of_getElem? HX0.out
      have h1 := PInt.piece_le (show X0 ∈ splitOf s.data.toList 32 by rw [hws]; exact hm)
      have hz : s.data.toList.length = s.size := Array.length_toList
      show X0.toArray.size ≤ _
      rw [List.size_toArray]; omega)
    obtain ⟨X2, hx2⟩ : ∃ X, X = wd ws 2 := ⟨_, rfl⟩
    have HX2 := Lib.hid (show ws[2]? = some X2 by rw [hx2]; unfold wd; rw [List.getD_eq_getElem?_getD, List.getElem?_eq_getElem (by omega)]; rfl)
    have HZ2 := Lib.hid (show (⟨X2.toArray⟩ : ByteArray).size ≤ 1048576 by
      have hm := List.mem_of_getElem? HX2.out
      have h1 := PInt.piece_le (show X2 ∈ splitOf s.data.toList 32 by rw [hws]; exact hm)
      have hz : s.data.toList.length = s.size := Array.length_toList
      show X2.toArray.size ≤ _
      rw [List.size_toArray]; omega)
    obtain ⟨y, hv0⟩ : ∃ v, rv X0 = v := ⟨_, rfl⟩
    obtain ⟨b0, hb0⟩ : ∃ b, rb X0 = b := ⟨_, rfl⟩
    obtain ⟨m, hv2⟩ : ∃ v, rv X2 = v := ⟨_, rfl⟩
    obtain ⟨b2, hb2⟩ : ∃ b, rb X2 = b := ⟨_, rfl⟩
    have hrd : rd ws = ⟨y, m, 0⟩ := by
      unfold rd
      rw [← hx0, ← hx2, hv0, hv2, if_neg (by omega)]
    have HN0 := Lib.hid (show b0 = false → Ans s zero false from fun h => none_b0 hws (by rw [← hx0, hb0]; exact h))
    have HN2 := Lib.hid (show b2 = false → Ans s zero false from fun h => none_b2 hws (by rw [← hx2, hb2]; exact h))
    have HNG := Lib.hid (show good ⟨y, m, 0⟩ = false → Ans s zero false from fun h => none_good hws (by rw [hrd]; exact h))
    have HNL := Lib.hid (show line ⟨y, m, 0⟩ ≠ s → Ans s zero false from fun h => none_line hws (by rw [hrd]; exact h))
    have HR0 := Lib.hid (fun W => readR ⟨X0.toArray⟩ W HZ0.out)
    rw [show ((⟨X0.toArray⟩ : ByteArray).data.toList) = X0 by simp, hv0, hb0] at HR0
    have HR2 := Lib.hid (fun W => readR ⟨X2.toArray⟩ W HZ2.out)
    rw [show ((⟨X2.toArray⟩ : ByteArray).data.toList) = X2 by simp, hv2, hb2] at HR2
    clear hrd hws hn hx0 hv0 hb0 HZ0 hx2 hv2 hb2 HZ2
    go_enter Tryd.func12, Tryd.ntmps12
    go_wp2_with fail
    rw [← hW]
    clear hW
    refine (HSP.out _).mono ?_
    rintro e w1 ⟨g, cp, rfl, hnc, hcm, hg, hg2, hcell, hb1⟩
    unfold maxLen at hcm
    have HGL := Lib.hid (Nat.lt_of_lt_of_le R0.out.lt hg)
    replace R0 := Lib.hid (R0.out.kept hb1)
    replace hb := hb.trans (hb1.mono hb.size)
    clear hb1
    have p0 := hcell 0 _ HX0.out
    have p2 := hcell 2 _ HX2.out
    clear hcell
    go_wp2_with fail
    refine (HR0.out _).mono ?_
    rintro e w2 ⟨rfl, hb1⟩
    replace p2 := (hb1.cell (p := ⟨g, 2, none⟩) hg2).trans p2
    replace hg2 := Nat.lt_of_lt_of_le hg2 hb1.size
    replace R0 := Lib.hid (R0.out.kept hb1)
    replace hb := hb.trans (hb1.mono hb.size)
    clear hb1
    go_wp2_with fail
    refine (HR2.out _).mono ?_
    rintro e w3 ⟨rfl, hb1⟩
    replace hg2 := Nat.lt_of_lt_of_le hg2 hb1.size
    replace R0 := Lib.hid (R0.out.kept hb1)
    replace hb := hb.trans (hb1.mono hb.size)
    clear hb1
    have hR3 := Lib.hid R0.out.lt
    go_upto_region 9 with fail
    have P10 := Lib.hid (Bx.new w3 25 #[.int .i64 y, .int .i64 m, .int .i64 0])
    replace R0 := Lib.hid (R0.out.alloc (Obj.cells #[.int .i64 y, .int .i64 m, .int .i64 0] 25))
    have hgb : w.heap.size ≤ w3.heap.size := hb.size
    have hgR : w.heap.size ≠ w3.heap.size := by have := hR3.out; omega
    replace hb := hb.alloc hb.size (Obj.cells #[.int .i64 y, .int .i64 m, .int .i64 0] 25)
    generalize w3.alloc (Obj.cells #[.int .i64 y, .int .i64 m, .int .i64 0] 25) = w4 at *
    generalize w3.heap.size = h at *
    have r0 := R0.out.cell 0
    have r1 := R0.out.cell 1
    have r2 := R0.out.cell 2
    simp only [List.getElem?_toArray, List.getElem?_cons_zero, List.getElem?_cons_succ] at r0 r1 r2
    have rf0 := R0.out.frozen 0
    have rf1 := R0.out.frozen 1
    have rf2 := R0.out.frozen 2
    have c0 := P10.out.cell 0
    have c1 := P10.out.cell 1
    have c2 := P10.out.cell 2
    simp only [List.getElem?_toArray, List.getElem?_cons_zero, List.getElem?_cons_succ] at c0 c1 c2
    have cf0 := P10.out.frozen 0
    have cf1 := P10.out.frozen 1
    have cf2 := P10.out.frozen 2
    cases b0 with
    | false =>
      have HA := Lib.hid (HN0.out rfl)
      go_wp2_with fail
      have HBF := ((hb.setCell (p := ⟨w.heap.size, 0, none⟩) (Nat.le_refl _) (.int .i64 0)).setCell (p := ⟨w.heap.size, 1, none⟩) (Nat.le_refl _) (.int .i64 0)).setCell (p := ⟨w.heap.size, 2, none⟩) (Nat.le_refl _) (.int .i64 0)
      obtain ⟨z0, z1, z2⟩ := put3 R0.out (.int .i64 0) (.int .i64 0) (.int .i64 0)
      (try simp only [Exit.inBlock, Exit.then])
      refine bodyPost_ret (v := .tuple #[.agg #[.int .i64 0, .int .i64 0, .int .i64 0], .bool false]) (by rw [results_cell_tmp rfl]; go_simp) rfl ?_
      exact ⟨zero, false, rfl, HA.out, HBF⟩
    | true =>
    cases b2 with
    | false =>
      have HA := Lib.hid (HN2.out rfl)
      go_wp2_with fail
      have HBF := ((hb.setCell (p := ⟨w.heap.size, 0, none⟩) (Nat.le_refl _) (.int .i64 0)).setCell (p := ⟨w.heap.size, 1, none⟩) (Nat.le_refl _) (.int .i64 0)).setCell (p := ⟨w.heap.size, 2, none⟩) (Nat.le_refl _) (.int .i64 0)
      obtain ⟨z0, z1, z2⟩ := put3 R0.out (.int .i64 0) (.int .i64 0) (.int .i64 0)
      (try simp only [Exit.inBlock, Exit.then])
      refine bodyPost_ret (v := .tuple #[.agg #[.int .i64 0, .int .i64 0, .int .i64 0], .bool false]) (by rw [results_cell_tmp rfl]; go_simp) rfl ?_
      exact ⟨zero, false, rfl, HA.out, HBF⟩
    | true =>
    have HGD := Lib.hid (fun b (hx : good ⟨y, m, 0⟩ = b) W => TalG.l11Good ⟨y, m, 0⟩ b hx W)
    have HLT := Lib.hid (fun (hx : good ⟨y, m, 0⟩ = true) W => TalX.l11Text ⟨y, m, 0⟩ W hx)
    simp only at HGD HLT
    cases hgd : good ⟨y, m, 0⟩ with
    | false =>
      have HA := Lib.hid (HNG.out hgd)
      replace HGD := Lib.hid (HGD.out _ hgd)
      clear hgd HLT
      clear r0 rf0 r1 rf1 r2 rf2
      go_wp2_with fail
      refine (HGD.out _).mono ?_
      rintro e w7 ⟨rfl, hb1⟩
      clear c0 cf0 c1 cf1 c2 cf2
      replace R0 := Lib.hid (R0.out.kept hb1)
      replace hb := hb.trans (hb1.mono hb.size)
      clear hb1
      have r0 := R0.out.cell 0
      have r1 := R0.out.cell 1
      have r2 := R0.out.cell 2
      simp only [List.getElem?_toArray, List.getElem?_cons_zero, List.getElem?_cons_succ] at r0 r1 r2
      have rf0 := R0.out.frozen 0
      have rf1 := R0.out.frozen 1
      have rf2 := R0.out.frozen 2
      go_wp2_with fail
      have HBF := ((hb.setCell (p := ⟨w.heap.size, 0, none⟩) (Nat.le_refl _) (.int .i64 0)).setCell (p := ⟨w.heap.size, 1, none⟩) (Nat.le_refl _) (.int .i64 0)).setCell (p := ⟨w.heap.size, 2, none⟩) (Nat.le_refl _) (.int .i64 0)
      obtain ⟨z0, z1, z2⟩ := put3 R0.out (.int .i64 0) (.int .i64 0) (.int .i64 0)
      (try simp only [Exit.inBlock, Exit.then])
      refine bodyPost_ret (v := .tuple #[.agg #[.int .i64 0, .int .i64 0, .int .i64 0], .bool false]) (by rw [results_cell_tmp rfl]; go_simp) rfl ?_
      exact ⟨zero, false, rfl, HA.out, HBF⟩
    | true =>
    have HY := Lib.hid (show line ⟨y, m, 0⟩ = s → Ans s ⟨y, m, 0⟩ true from fun h => yes_of hgd h)
    replace HGD := Lib.hid (HGD.out _ hgd)
    replace HLT := Lib.hid (HLT.out hgd)
    clear hgd
    generalize line ⟨y, m, 0⟩ = L at *
    clear r0 rf0 r1 rf1 r2 rf2
    go_wp2_with fail
    refine (HGD.out _).mono ?_
    rintro e w7 ⟨rfl, hb1⟩
    clear c0 cf0 c1 cf1 c2 cf2
    replace R0 := Lib.hid (R0.out.kept hb1)
    replace P10 := Lib.hid (P10.out.kept hb1)
    replace hb := hb.trans (hb1.mono hb.size)
    clear hb1
    have c0 := P10.out.cell 0
    have c1 := P10.out.cell 1
    have c2 := P10.out.cell 2
    simp only [List.getElem?_toArray, List.getElem?_cons_zero, List.getElem?_cons_succ] at c0 c1 c2
    have cf0 := P10.out.frozen 0
    have cf1 := P10.out.frozen 1
    have cf2 := P10.out.frozen 2
    go_wp2_with fail
    refine (HLT.out _).mono ?_
    rintro e w8 ⟨rfl, hb1⟩
    clear c0 cf0 c1 cf1 c2 cf2
    replace R0 := Lib.hid (R0.out.kept hb1)
    replace P10 := Lib.hid (P10.out.kept hb1)
    replace hb := hb.trans (hb1.mono hb.size)
    clear hb1
    have r0 := R0.out.cell 0
    have r1 := R0.out.cell 1
    have r2 := R0.out.cell 2
    simp only [List.getElem?_toArray, List.getElem?_cons_zero, List.getElem?_cons_succ] at r0 r1 r2
    have rf0 := R0.out.frozen 0
    have rf1 := R0.out.frozen 1
    have rf2 := R0.out.frozen 2
    have c0 := P10.out.cell 0
    have c1 := P10.out.cell 1
    have c2 := P10.out.cell 2
    simp only [List.getElem?_toArray, List.getElem?_cons_zero, List.getElem?_cons_succ] at c0 c1 c2
    have cf0 := P10.out.frozen 0
    have cf1 := P10.out.frozen 1
    have cf2 := P10.out.frozen 2
    cases heq : (L.toList == s.toList) with
    | false =>
      have HA := Lib.hid (HNL.out (fun h => by rw [h] at heq; simp at heq))
      go_wp2_with fail
      have HBF := ((hb.setCell (p := ⟨w.heap.size, 0, none⟩) (Nat.le_refl _) (.int .i64 0)).setCell (p := ⟨w.heap.size, 1, none⟩) (Nat.le_refl _) (.int .i64 0)).setCell (p := ⟨w.heap.size, 2, none⟩) (Nat.le_refl _) (.int .i64 0)
      obtain ⟨z0, z1, z2⟩ := put3 R0.out (.int .i64 0) (.int .i64 0) (.int .i64 0)
      (try simp only [Exit.inBlock, Exit.then])
      refine bodyPost_ret (v := .tuple #[.agg #[.int .i64 0, .int .i64 0, .int .i64 0], .bool false]) (by rw [results_cell_tmp rfl]; go_simp) rfl ?_
      exact ⟨zero, false, rfl, HA.out, HBF⟩
    | true =>
    have hls : L = s := by
      rw [ByteArray.toList_eq, ByteArray.toList_eq] at heq
      exact ByteArray.ext (Array.toList_inj.1 (by simpa using heq))
    have HA := Lib.hid (HY.out hls)
    clear hls HY
    go_wp2_with fail
    have HBF := ((hb.setCell (p := ⟨w.heap.size, 0, none⟩) (Nat.le_refl _) (.int .i64 y)).setCell (p := ⟨w.heap.size, 1, none⟩) (Nat.le_refl _) (.int .i64 m)).setCell (p := ⟨w.heap.size, 2, none⟩) (Nat.le_refl _) (.int .i64 0)
    obtain ⟨z0, z1, z2⟩ := put3 R0.out (.int .i64 y) (.int .i64 m) (.int .i64 0)
    (try simp only [Exit.inBlock, Exit.then])
    refine bodyPost_ret (v := .tuple #[.agg #[.int .i64 y, .int .i64 m, .int .i64 0], .bool true]) (by rw [results_cell_tmp rfl]; go_simp) rfl ?_
    exact ⟨⟨y, m, 0⟩, true, rfl, HA.out, HBF⟩
  · obtain ⟨X0, hx0⟩ : ∃ X, X = wd ws 0 := ⟨_, rfl⟩
    have HX0 := Lib.hid (show ws[0]? = some X0 by rw [hx0]; unfold wd; rw [List.getD_eq_getElem?_getD, List.getElem?_eq_getElem (by omega)]; rfl)
    have HZ0 := Lib.hid (show (⟨X0.toArray⟩ : ByteArray).size ≤ 1048576 by
      have hm := List.mem_of_getElem? HX0.out
      have h1 := PInt.piece_le (show X0 ∈ splitOf s.data.toList 32 by rw [hws]; exact hm)
      have hz : s.data.toList.length = s.size := Array.length_toList
      show X0.toArray.size ≤ _
      rw [List.size_toArray]; omega)
    obtain ⟨X2, hx2⟩ : ∃ X, X = wd ws 2 := ⟨_, rfl⟩
    have HX2 := Lib.hid (show ws[2]? = some X2 by rw [hx2]; unfold wd; rw [List.getD_eq_getElem?_getD, List.getElem?_eq_getElem (by omega)]; rfl)
    have HZ2 := Lib.hid (show (⟨X2.toArray⟩ : ByteArray).size ≤ 1048576 by
      have hm := List.mem_of_getElem? HX2.out
      have h1 := PInt.piece_le (show X2 ∈ splitOf s.data.toList 32 by rw [hws]; exact hm)
      have hz : s.data.toList.length = s.size := Array.length_toList
      show X2.toArray.size ≤ _
      rw [List.size_toArray]; omega)
    obtain ⟨X4, hx4⟩ : ∃ X, X = wd ws 4 := ⟨_, rfl⟩
    have HX4 := Lib.hid (show ws[4]? = some X4 by rw [hx4]; unfold wd; rw [List.getD_eq_getElem?_getD, List.getElem?_eq_getElem (by omega)]; rfl)
    have HZ4 := Lib.hid (show (⟨X4.toArray⟩ : ByteArray).size ≤ 1048576 by
      have hm := List.mem_of_getElem? HX4.out
      have h1 := PInt.piece_le (show X4 ∈ splitOf s.data.toList 32 by rw [hws]; exact hm)
      have hz : s.data.toList.length = s.size := Array.length_toList
      show X4.toArray.size ≤ _
      rw [List.size_toArray]; omega)
    obtain ⟨y, hv0⟩ : ∃ v, rv X0 = v := ⟨_, rfl⟩
    obtain ⟨b0, hb0⟩ : ∃ b, rb X0 = b := ⟨_, rfl⟩
    obtain ⟨m, hv2⟩ : ∃ v, rv X2 = v := ⟨_, rfl⟩
    obtain ⟨b2, hb2⟩ : ∃ b, rb X2 = b := ⟨_, rfl⟩
    obtain ⟨ab, hv4⟩ : ∃ v, rv X4 = v := ⟨_, rfl⟩
    obtain ⟨b4, hb4⟩ : ∃ b, rb X4 = b := ⟨_, rfl⟩
    have hrd : rd ws = ⟨y, m, ab⟩ := by
      unfold rd
      rw [← hx0, ← hx2, hv0, hv2, if_pos (by omega), ← hx4, hv4]
    have HN0 := Lib.hid (show b0 = false → Ans s zero false from fun h => none_b0 hws (by rw [← hx0, hb0]; exact h))
    have HN2 := Lib.hid (show b2 = false → Ans s zero false from fun h => none_b2 hws (by rw [← hx2, hb2]; exact h))
    have HN4 := Lib.hid (show b4 = false → Ans s zero false from fun h => none_b4 hws (by omega) (by rw [← hx4, hb4]; exact h))
    have HNG := Lib.hid (show good ⟨y, m, ab⟩ = false → Ans s zero false from fun h => none_good hws (by rw [hrd]; exact h))
    have HNL := Lib.hid (show line ⟨y, m, ab⟩ ≠ s → Ans s zero false from fun h => none_line hws (by rw [hrd]; exact h))
    have HR0 := Lib.hid (fun W => readR ⟨X0.toArray⟩ W HZ0.out)
    rw [show ((⟨X0.toArray⟩ : ByteArray).data.toList) = X0 by simp, hv0, hb0] at HR0
    have HR2 := Lib.hid (fun W => readR ⟨X2.toArray⟩ W HZ2.out)
    rw [show ((⟨X2.toArray⟩ : ByteArray).data.toList) = X2 by simp, hv2, hb2] at HR2
    have HR4 := Lib.hid (fun W => readR ⟨X4.toArray⟩ W HZ4.out)
    rw [show ((⟨X4.toArray⟩ : ByteArray).data.toList) = X4 by simp, hv4, hb4] at HR4
    clear hrd hws hn hx0 hv0 hb0 HZ0 hx2 hv2 hb2 HZ2 hx4 hv4 hb4 HZ4
    go_enter Tryd.func12, Tryd.ntmps12
    go_wp2_with fail
    rw [← hW]
    clear hW
    refine (HSP.out _).mono ?_
    rintro e w1 ⟨g, cp, rfl, hnc, hcm, hg, hg2, hcell, hb1⟩
    unfold maxLen at hcm
    have HGL := Lib.hid (Nat.lt_of_lt_of_le R0.out.lt hg)
    replace R0 := Lib.hid (R0.out.kept hb1)
    replace hb := hb.trans (hb1.mono hb.size)
    clear hb1
    have p0 := hcell 0 _ HX0.out
    have p2 := hcell 2 _ HX2.out
    have p4 := hcell 4 _ HX4.out
    clear hcell
    go_wp2_with fail
    refine (HR0.out _).mono ?_
    rintro e w2 ⟨rfl, hb1⟩
    replace p2 := (hb1.cell (p := ⟨g, 2, none⟩) hg2).trans p2
    replace p4 := (hb1.cell (p := ⟨g, 4, none⟩) hg2).trans p4
    replace hg2 := Nat.lt_of_lt_of_le hg2 hb1.size
    replace R0 := Lib.hid (R0.out.kept hb1)
    replace hb := hb.trans (hb1.mono hb.size)
    clear hb1
    go_wp2_with fail
    refine (HR2.out _).mono ?_
    rintro e w3 ⟨rfl, hb1⟩
    replace p4 := (hb1.cell (p := ⟨g, 4, none⟩) hg2).trans p4
    replace hg2 := Nat.lt_of_lt_of_le hg2 hb1.size
    replace R0 := Lib.hid (R0.out.kept hb1)
    replace hb := hb.trans (hb1.mono hb.size)
    clear hb1
    have hR3 := Lib.hid R0.out.lt
    go_upto_region 9 with fail
    have P10 := Lib.hid (Bx.new w3 25 #[.int .i64 y, .int .i64 m, .int .i64 0])
    replace R0 := Lib.hid (R0.out.alloc (Obj.cells #[.int .i64 y, .int .i64 m, .int .i64 0] 25))
    have hgb : w.heap.size ≤ w3.heap.size := hb.size
    have hgR : w.heap.size ≠ w3.heap.size := by have := hR3.out; omega
    replace hb := hb.alloc hb.size (Obj.cells #[.int .i64 y, .int .i64 m, .int .i64 0] 25)
    replace p4 := ((Below.refl w3.heap.size w3).alloc (Nat.le_refl _) (Obj.cells #[.int .i64 y, .int .i64 m, .int .i64 0] 25) |>.cell (p := ⟨g, 4, none⟩) hg2).trans p4
    have hgG : g ≠ w3.heap.size := by omega
    generalize w3.alloc (Obj.cells #[.int .i64 y, .int .i64 m, .int .i64 0] 25) = w4 at *
    generalize w3.heap.size = h at *
    have pc0 := P10.out.cell 0
    replace hg2 := Nat.lt_trans hg2 P10.out.lt
    go_wp2_with fail
    refine (HR4.out _).mono ?_
    rintro e w5 ⟨rfl, hb1⟩
    replace hg2 := Nat.lt_of_lt_of_le hg2 hb1.size
    replace R0 := Lib.hid (R0.out.kept hb1)
    replace P10 := Lib.hid (P10.out.kept hb1)
    replace hb := hb.trans (hb1.mono hb.size)
    clear hb1
    clear pc0
    have P10f := P10.out.frozen 2
    have P10c := P10.out.cell 2
    simp only [List.getElem?_toArray, List.getElem?_cons_zero, List.getElem?_cons_succ] at P10c
    go_upto_region 13 with fail
    clear P10f P10c
    replace P10 := Lib.hid (show Bx (w5.setCell ⟨h, 2, none⟩ (.int .i64 ab)) h 25 #[.int .i64 y, .int .i64 m, .int .i64 ab] from P10.out.set_ 2 (.int .i64 ab))
    replace R0 := Lib.hid (R0.out.far (p := ⟨h, 2, none⟩) hgR (.int .i64 ab))
    replace hb := hb.setCell (p := ⟨h, 2, none⟩) hgb (.int .i64 ab)
    generalize w5.setCell ⟨h, 2, none⟩ (.int .i64 ab) = w6 at *
    have r0 := R0.out.cell 0
    have r1 := R0.out.cell 1
    have r2 := R0.out.cell 2
    simp only [List.getElem?_toArray, List.getElem?_cons_zero, List.getElem?_cons_succ] at r0 r1 r2
    have rf0 := R0.out.frozen 0
    have rf1 := R0.out.frozen 1
    have rf2 := R0.out.frozen 2
    have c0 := P10.out.cell 0
    have c1 := P10.out.cell 1
    have c2 := P10.out.cell 2
    simp only [List.getElem?_toArray, List.getElem?_cons_zero, List.getElem?_cons_succ] at c0 c1 c2
    have cf0 := P10.out.frozen 0
    have cf1 := P10.out.frozen 1
    have cf2 := P10.out.frozen 2
    cases b0 with
    | false =>
      have HA := Lib.hid (HN0.out rfl)
      go_wp2_with fail
      have HBF := ((hb.setCell (p := ⟨w.heap.size, 0, none⟩) (Nat.le_refl _) (.int .i64 0)).setCell (p := ⟨w.heap.size, 1, none⟩) (Nat.le_refl _) (.int .i64 0)).setCell (p := ⟨w.heap.size, 2, none⟩) (Nat.le_refl _) (.int .i64 0)
      obtain ⟨z0, z1, z2⟩ := put3 R0.out (.int .i64 0) (.int .i64 0) (.int .i64 0)
      (try simp only [Exit.inBlock, Exit.then])
      refine bodyPost_ret (v := .tuple #[.agg #[.int .i64 0, .int .i64 0, .int .i64 0], .bool false]) (by rw [results_cell_tmp rfl]; go_simp) rfl ?_
      exact ⟨zero, false, rfl, HA.out, HBF⟩
    | true =>
    cases b2 with
    | false =>
      have HA := Lib.hid (HN2.out rfl)
      go_wp2_with fail
      have HBF := ((hb.setCell (p := ⟨w.heap.size, 0, none⟩) (Nat.le_refl _) (.int .i64 0)).setCell (p := ⟨w.heap.size, 1, none⟩) (Nat.le_refl _) (.int .i64 0)).setCell (p := ⟨w.heap.size, 2, none⟩) (Nat.le_refl _) (.int .i64 0)
      obtain ⟨z0, z1, z2⟩ := put3 R0.out (.int .i64 0) (.int .i64 0) (.int .i64 0)
      (try simp only [Exit.inBlock, Exit.then])
      refine bodyPost_ret (v := .tuple #[.agg #[.int .i64 0, .int .i64 0, .int .i64 0], .bool false]) (by rw [results_cell_tmp rfl]; go_simp) rfl ?_
      exact ⟨zero, false, rfl, HA.out, HBF⟩
    | true =>
    cases b4 with
    | false =>
      have HA := Lib.hid (HN4.out rfl)
      go_wp2_with fail
      have HBF := ((hb.setCell (p := ⟨w.heap.size, 0, none⟩) (Nat.le_refl _) (.int .i64 0)).setCell (p := ⟨w.heap.size, 1, none⟩) (Nat.le_refl _) (.int .i64 0)).setCell (p := ⟨w.heap.size, 2, none⟩) (Nat.le_refl _) (.int .i64 0)
      obtain ⟨z0, z1, z2⟩ := put3 R0.out (.int .i64 0) (.int .i64 0) (.int .i64 0)
      (try simp only [Exit.inBlock, Exit.then])
      refine bodyPost_ret (v := .tuple #[.agg #[.int .i64 0, .int .i64 0, .int .i64 0], .bool false]) (by rw [results_cell_tmp rfl]; go_simp) rfl ?_
      exact ⟨zero, false, rfl, HA.out, HBF⟩
    | true =>
    have HGD := Lib.hid (fun b (hx : good ⟨y, m, ab⟩ = b) W => TalG.l11Good ⟨y, m, ab⟩ b hx W)
    have HLT := Lib.hid (fun (hx : good ⟨y, m, ab⟩ = true) W => TalX.l11Text ⟨y, m, ab⟩ W hx)
    simp only at HGD HLT
    cases hgd : good ⟨y, m, ab⟩ with
    | false =>
      have HA := Lib.hid (HNG.out hgd)
      replace HGD := Lib.hid (HGD.out _ hgd)
      clear hgd HLT
      clear r0 rf0 r1 rf1 r2 rf2
      go_wp2_with fail
      refine (HGD.out _).mono ?_
      rintro e w7 ⟨rfl, hb1⟩
      clear c0 cf0 c1 cf1 c2 cf2
      replace R0 := Lib.hid (R0.out.kept hb1)
      replace hb := hb.trans (hb1.mono hb.size)
      clear hb1
      have r0 := R0.out.cell 0
      have r1 := R0.out.cell 1
      have r2 := R0.out.cell 2
      simp only [List.getElem?_toArray, List.getElem?_cons_zero, List.getElem?_cons_succ] at r0 r1 r2
      have rf0 := R0.out.frozen 0
      have rf1 := R0.out.frozen 1
      have rf2 := R0.out.frozen 2
      go_wp2_with fail
      have HBF := ((hb.setCell (p := ⟨w.heap.size, 0, none⟩) (Nat.le_refl _) (.int .i64 0)).setCell (p := ⟨w.heap.size, 1, none⟩) (Nat.le_refl _) (.int .i64 0)).setCell (p := ⟨w.heap.size, 2, none⟩) (Nat.le_refl _) (.int .i64 0)
      obtain ⟨z0, z1, z2⟩ := put3 R0.out (.int .i64 0) (.int .i64 0) (.int .i64 0)
      (try simp only [Exit.inBlock, Exit.then])
      refine bodyPost_ret (v := .tuple #[.agg #[.int .i64 0, .int .i64 0, .int .i64 0], .bool false]) (by rw [results_cell_tmp rfl]; go_simp) rfl ?_
      exact ⟨zero, false, rfl, HA.out, HBF⟩
    | true =>
    have HY := Lib.hid (show line ⟨y, m, ab⟩ = s → Ans s ⟨y, m, ab⟩ true from fun h => yes_of hgd h)
    replace HGD := Lib.hid (HGD.out _ hgd)
    replace HLT := Lib.hid (HLT.out hgd)
    clear hgd
    generalize line ⟨y, m, ab⟩ = L at *
    clear r0 rf0 r1 rf1 r2 rf2
    go_wp2_with fail
    refine (HGD.out _).mono ?_
    rintro e w7 ⟨rfl, hb1⟩
    clear c0 cf0 c1 cf1 c2 cf2
    replace R0 := Lib.hid (R0.out.kept hb1)
    replace P10 := Lib.hid (P10.out.kept hb1)
    replace hb := hb.trans (hb1.mono hb.size)
    clear hb1
    have c0 := P10.out.cell 0
    have c1 := P10.out.cell 1
    have c2 := P10.out.cell 2
    simp only [List.getElem?_toArray, List.getElem?_cons_zero, List.getElem?_cons_succ] at c0 c1 c2
    have cf0 := P10.out.frozen 0
    have cf1 := P10.out.frozen 1
    have cf2 := P10.out.frozen 2
    go_wp2_with fail
    refine (HLT.out _).mono ?_
    rintro e w8 ⟨rfl, hb1⟩
    clear c0 cf0 c1 cf1 c2 cf2
    replace R0 := Lib.hid (R0.out.kept hb1)
    replace P10 := Lib.hid (P10.out.kept hb1)
    replace hb := hb.trans (hb1.mono hb.size)
    clear hb1
    have r0 := R0.out.cell 0
    have r1 := R0.out.cell 1
    have r2 := R0.out.cell 2
    simp only [List.getElem?_toArray, List.getElem?_cons_zero, List.getElem?_cons_succ] at r0 r1 r2
    have rf0 := R0.out.frozen 0
    have rf1 := R0.out.frozen 1
    have rf2 := R0.out.frozen 2
    have c0 := P10.out.cell 0
    have c1 := P10.out.cell 1
    have c2 := P10.out.cell 2
    simp only [List.getElem?_toArray, List.getElem?_cons_zero, List.getElem?_cons_succ] at c0 c1 c2
    have cf0 := P10.out.frozen 0
    have cf1 := P10.out.frozen 1
    have cf2 := P10.out.frozen 2
    cases heq : (L.toList == s.toList) with
    | false =>
      have HA := Lib.hid (HNL.out (fun h => by rw [h] at heq; simp at heq))
      go_wp2_with fail
      have HBF := ((hb.setCell (p := ⟨w.heap.size, 0, none⟩) (Nat.le_refl _) (.int .i64 0)).setCell (p := ⟨w.heap.size, 1, none⟩) (Nat.le_refl _) (.int .i64 0)).setCell (p := ⟨w.heap.size, 2, none⟩) (Nat.le_refl _) (.int .i64 0)
      obtain ⟨z0, z1, z2⟩ := put3 R0.out (.int .i64 0) (.int .i64 0) (.int .i64 0)
      (try simp only [Exit.inBlock, Exit.then])
      refine bodyPost_ret (v := .tuple #[.agg #[.int .i64 0, .int .i64 0, .int .i64 0], .bool false]) (by rw [results_cell_tmp rfl]; go_simp) rfl ?_
      exact ⟨zero, false, rfl, HA.out, HBF⟩
    | true =>
    have hls : L = s := by
      rw [ByteArray.toList_eq, ByteArray.toList_eq] at heq
      exact ByteArray.ext (Array.toList_inj.1 (by simpa using heq))
    have HA := Lib.hid (HY.out hls)
    clear hls HY
    go_wp2_with fail
    have HBF := ((hb.setCell (p := ⟨w.heap.size, 0, none⟩) (Nat.le_refl _) (.int .i64 y)).setCell (p := ⟨w.heap.size, 1, none⟩) (Nat.le_refl _) (.int .i64 m)).setCell (p := ⟨w.heap.size, 2, none⟩) (Nat.le_refl _) (.int .i64 ab)
    obtain ⟨z0, z1, z2⟩ := put3 R0.out (.int .i64 y) (.int .i64 m) (.int .i64 ab)
    (try simp only [Exit.inBlock, Exit.then])
    refine bodyPost_ret (v := .tuple #[.agg #[.int .i64 y, .int .i64 m, .int .i64 ab], .bool true]) (by rw [results_cell_tmp rfl]; go_simp) rfl ?_
    exact ⟨⟨y, m, ab⟩, true, rfl, HA.out, HBF⟩
set_option maxRecDepth 100000 in
set_option maxHeartbeats 3200000 in
theorem implP (a0 : ByteArray) (w : World) (hs : a0.size ≤ 1048576) (vp : Laid.Pow w) (vr : Laid.Err "strconv.ErrRange" w) (vs : Laid.Err "strconv.ErrSyntax" w) : Calls Tryd.prog 9 #[.string a0] w (Post a0 w) := by
  have HVP := Lib.hid vp
  have HVR := Lib.hid vr
  have HVS := Lib.hid vs
  clear vp vr vs
  obtain ⟨s, hs0⟩ : ∃ s, s = a0 := ⟨_, rfl⟩
  subst hs0
  obtain ⟨W, hW⟩ : ∃ W : World, W = w.alloc (Obj.cells #[.int .i64 0, .int .i64 0, .int .i64 0] 25) := ⟨_, rfl⟩
  have hb : Below w.heap.size w W := by rw [hW]; exact (Below.refl _ _).alloc (Nat.le_refl _) _
  have R0 := Lib.hid (show Bx W w.heap.size 25 #[.int .i64 0, .int .i64 0, .int .i64 0] by rw [hW]; exact Bx.new _ _ _)
  by_cases hbig : 4000 < s.size
  · have HA := Lib.hid (none_len (s := s) (by omega))
    have HSP := Lib.hid (fun W => Elems.split_no s ⟨#[32]⟩ (.inl hbig) (by unfold maxLen; omega) W)
    go_enter Tryd.func9, Tryd.ntmps9
    go_wp2_with fail
    rw [← hW]
    clear hW
    refine (HSP.out _).mono ?_
    rintro e w1 ⟨rfl, hb1⟩
    replace R0 := Lib.hid (R0.out.kept hb1)
    replace hb := hb.trans (hb1.mono hb.size)
    clear hb1
    have r0 := R0.out.cell 0
    have r1 := R0.out.cell 1
    have r2 := R0.out.cell 2
    simp only [List.getElem?_toArray, List.getElem?_cons_zero, List.getElem?_cons_succ] at r0 r1 r2
    have rf0 := R0.out.frozen 0
    have rf1 := R0.out.frozen 1
    have rf2 := R0.out.frozen 2
    go_wp2_with fail
    have HBF := ((hb.setCell (p := ⟨w.heap.size, 0, none⟩) (Nat.le_refl _) (.int .i64 0)).setCell (p := ⟨w.heap.size, 1, none⟩) (Nat.le_refl _) (.int .i64 0)).setCell (p := ⟨w.heap.size, 2, none⟩) (Nat.le_refl _) (.int .i64 0)
    obtain ⟨z0, z1, z2⟩ := put3 R0.out (.int .i64 0) (.int .i64 0) (.int .i64 0)
    (try simp only [Exit.inBlock, Exit.then])
    refine bodyPost_ret (v := .tuple #[.agg #[.int .i64 0, .int .i64 0, .int .i64 0], .bool false]) (by rw [results_cell_tmp rfl]; go_simp) rfl ?_
    exact ⟨zero, false, rfl, HA.out, HBF⟩
  obtain ⟨ws, hws⟩ : ∃ ws, splitOf s.data.toList 32 = ws := ⟨_, rfl⟩
  obtain ⟨n, hn⟩ : ∃ n, ws.length = n := ⟨_, rfl⟩
  have HSP := Lib.hid (fun W => SplI.split s 32 ws n hws hn W (by omega))
  have hn1 : 1 ≤ n := by rw [← hn, ← hws]; simp [splitOf]
  have hn2 : n ≤ 1048577 := by
    have h1 := splitOf_length s.data.toList 32
    have hz : s.data.toList.length = s.size := Array.length_toList
    rw [hws, hn, hz] at h1; omega
  by_cases h2 : n ≤ 2
  · have HA := Lib.hid (none_words hws (by omega))
    clear hws hn
    go_enter Tryd.func9, Tryd.ntmps9
    go_wp2_with fail
    rw [← hW]
    clear hW
    refine (HSP.out _).mono ?_
    rintro e w1 ⟨g, cp, rfl, hnc, hcm, hg, hg2, hcell, hb1⟩
    unfold maxLen at hcm
    have HGL := Lib.hid (Nat.lt_of_lt_of_le R0.out.lt hg)
    replace R0 := Lib.hid (R0.out.kept hb1)
    replace hb := hb.trans (hb1.mono hb.size)
    clear hb1
    clear hcell
    have r0 := R0.out.cell 0
    have r1 := R0.out.cell 1
    have r2 := R0.out.cell 2
    simp only [List.getElem?_toArray, List.getElem?_cons_zero, List.getElem?_cons_succ] at r0 r1 r2
    have rf0 := R0.out.frozen 0
    have rf1 := R0.out.frozen 1
    have rf2 := R0.out.frozen 2
    go_wp2_with fail
    have HBF := ((hb.setCell (p := ⟨w.heap.size, 0, none⟩) (Nat.le_refl _) (.int .i64 0)).setCell (p := ⟨w.heap.size, 1, none⟩) (Nat.le_refl _) (.int .i64 0)).setCell (p := ⟨w.heap.size, 2, none⟩) (Nat.le_refl _) (.int .i64 0)
    obtain ⟨z0, z1, z2⟩ := put3 R0.out (.int .i64 0) (.int .i64 0) (.int .i64 0)
    (try simp only [Exit.inBlock, Exit.then])
    refine bodyPost_ret (v := .tuple #[.agg #[.int .i64 0, .int .i64 0, .int .i64 0], .bool false]) (by rw [results_cell_tmp rfl]; go_simp) rfl ?_
    exact ⟨zero, false, rfl, HA.out, HBF⟩
  by_cases h4 : n ≤ 4
  · have dn : (n : Int) ≤ 4 := by omega
    obtain ⟨X0, hx0⟩ : ∃ X, X = wd ws 0 := ⟨_, rfl⟩
    have HX0 := Lib.hid (show ws[0]? = some X0 by rw [hx0]; unfold wd; rw [List.getD_eq_getElem?_getD, List.getElem?_eq_getElem (by omega)]; rfl)
    have HZ0 := Lib.hid (show (⟨X0.toArray⟩ : ByteArray).size ≤ 1048576 by
      have hm := List.mem_of_getElem? HX0.out
      have h1 := PInt.piece_le (show X0 ∈ splitOf s.data.toList 32 by rw [hws]; exact hm)
      have hz : s.data.toList.length = s.size := Array.length_toList
      show X0.toArray.size ≤ _
      rw [List.size_toArray]; omega)
    obtain ⟨X2, hx2⟩ : ∃ X, X = wd ws 2 := ⟨_, rfl⟩
    have HX2 := Lib.hid (show ws[2]? = some X2 by rw [hx2]; unfold wd; rw [List.getD_eq_getElem?_getD, List.getElem?_eq_getElem (by omega)]; rfl)
    have HZ2 := Lib.hid (show (⟨X2.toArray⟩ : ByteArray).size ≤ 1048576 by
      have hm := List.mem_of_getElem? HX2.out
      have h1 := PInt.piece_le (show X2 ∈ splitOf s.data.toList 32 by rw [hws]; exact hm)
      have hz : s.data.toList.length = s.size := Array.length_toList
      show X2.toArray.size ≤ _
      rw [List.size_toArray]; omega)
    obtain ⟨y, hv0⟩ : ∃ v, rv X0 = v := ⟨_, rfl⟩
    obtain ⟨b0, hb0⟩ : ∃ b, rb X0 = b := ⟨_, rfl⟩
    obtain ⟨m, hv2⟩ : ∃ v, rv X2 = v := ⟨_, rfl⟩
    obtain ⟨b2, hb2⟩ : ∃ b, rb X2 = b := ⟨_, rfl⟩
    have hrd : rd ws = ⟨y, m, 0⟩ := by
      unfold rd
      rw [← hx0, ← hx2, hv0, hv2, if_neg (by omega)]
    have HNG := Lib.hid (show good ⟨y, m, 0⟩ = false → Ans s zero false from fun h => none_good hws (by rw [hrd]; exact h))
    have HNL := Lib.hid (show line ⟨y, m, 0⟩ ≠ s → Ans s zero false from fun h => none_line hws (by rw [hrd]; exact h))
    have HR0 := Lib.hid (fun (W : World) (hB : Below w.heap.size w W) => intR ⟨X0.toArray⟩ W (Nat.le_trans HZ0.out (by decide)) (HVP.out.below hB) (HVR.out.below hB) (HVS.out.below hB))
    rw [show ((⟨X0.toArray⟩ : ByteArray).data.toList) = X0 by simp, hv0, hb0] at HR0
    have HR2 := Lib.hid (fun (W : World) (hB : Below w.heap.size w W) => intR ⟨X2.toArray⟩ W (Nat.le_trans HZ2.out (by decide)) (HVP.out.below hB) (HVR.out.below hB) (HVS.out.below hB))
    rw [show ((⟨X2.toArray⟩ : ByteArray).data.toList) = X2 by simp, hv2, hb2] at HR2
    clear hrd hws hn hx0 hv0 hb0 HZ0 hx2 hv2 hb2 HZ2
    go_enter Tryd.func9, Tryd.ntmps9
    go_wp2_with fail
    rw [← hW]
    clear hW
    refine (HSP.out _).mono ?_
    rintro e w1 ⟨g, cp, rfl, hnc, hcm, hg, hg2, hcell, hb1⟩
    unfold maxLen at hcm
    have HGL := Lib.hid (Nat.lt_of_lt_of_le R0.out.lt hg)
    replace R0 := Lib.hid (R0.out.kept hb1)
    replace hb := hb.trans (hb1.mono hb.size)
    clear hb1
    have p0 := hcell 0 _ HX0.out
    have p2 := hcell 2 _ HX2.out
    clear hcell
    go_wp2_with fail
    refine (HR0.out _ hb).mono ?_
    rintro e w2 ⟨rfl, hb1⟩
    replace p2 := (hb1.cell (p := ⟨g, 2, none⟩) hg2).trans p2
    replace hg2 := Nat.lt_of_lt_of_le hg2 hb1.size
    replace R0 := Lib.hid (R0.out.kept hb1)
    replace hb := hb.trans (hb1.mono hb.size)
    clear hb1
    go_wp2_with fail
    refine (HR2.out _ hb).mono ?_
    rintro e w3 ⟨rfl, hb1⟩
    replace hg2 := Nat.lt_of_lt_of_le hg2 hb1.size
    replace R0 := Lib.hid (R0.out.kept hb1)
    replace hb := hb.trans (hb1.mono hb.size)
    clear hb1
    have hR3 := Lib.hid R0.out.lt
    go_upto_region 7 with fail
    have P10 := Lib.hid (Bx.new w3 25 #[.int .i64 y, .int .i64 m, .int .i64 0])
    replace R0 := Lib.hid (R0.out.alloc (Obj.cells #[.int .i64 y, .int .i64 m, .int .i64 0] 25))
    have hgb : w.heap.size ≤ w3.heap.size := hb.size
    have hgR : w.heap.size ≠ w3.heap.size := by have := hR3.out; omega
    replace hb := hb.alloc hb.size (Obj.cells #[.int .i64 y, .int .i64 m, .int .i64 0] 25)
    generalize w3.alloc (Obj.cells #[.int .i64 y, .int .i64 m, .int .i64 0] 25) = w4 at *
    generalize w3.heap.size = h at *
    have r0 := R0.out.cell 0
    have r1 := R0.out.cell 1
    have r2 := R0.out.cell 2
    simp only [List.getElem?_toArray, List.getElem?_cons_zero, List.getElem?_cons_succ] at r0 r1 r2
    have rf0 := R0.out.frozen 0
    have rf1 := R0.out.frozen 1
    have rf2 := R0.out.frozen 2
    have c0 := P10.out.cell 0
    have c1 := P10.out.cell 1
    have c2 := P10.out.cell 2
    simp only [List.getElem?_toArray, List.getElem?_cons_zero, List.getElem?_cons_succ] at c0 c1 c2
    have cf0 := P10.out.frozen 0
    have cf1 := P10.out.frozen 1
    have cf2 := P10.out.frozen 2
    have HTT := Lib.hid (fun (W : World) (hB : Below w.heap.size w W) => TalX.implT ⟨y, m, 0⟩ W (HVP.out.below hB))
    simp only at HTT
    clear r0 rf0 r1 rf1 r2 rf2
    go_wp2_with fail
    refine (HTT.out _ hb).mono ?_
    rintro e w7 ⟨L, ok, rfl, hans, hb1⟩
    clear c0 cf0 c1 cf1 c2 cf2
    replace R0 := Lib.hid (R0.out.kept hb1)
    replace P10 := Lib.hid (P10.out.kept hb1)
    replace hb := hb.trans (hb1.mono hb.size)
    clear hb1
    have r0 := R0.out.cell 0
    have r1 := R0.out.cell 1
    have r2 := R0.out.cell 2
    simp only [List.getElem?_toArray, List.getElem?_cons_zero, List.getElem?_cons_succ] at r0 r1 r2
    have rf0 := R0.out.frozen 0
    have rf1 := R0.out.frozen 1
    have rf2 := R0.out.frozen 2
    have c0 := P10.out.cell 0
    have c1 := P10.out.cell 1
    have c2 := P10.out.cell 2
    simp only [List.getElem?_toArray, List.getElem?_cons_zero, List.getElem?_cons_succ] at c0 c1 c2
    have cf0 := P10.out.frozen 0
    have cf1 := P10.out.frozen 1
    have cf2 := P10.out.frozen 2
    cases hgd : good ⟨y, m, 0⟩ with
    | false =>
      obtain ⟨rfl, rfl⟩ := tsame hans (tno hgd)
      have HA := Lib.hid (HNG.out hgd)
      clear hgd hans
      go_wp2_with fail
      have HBF := ((hb.setCell (p := ⟨w.heap.size, 0, none⟩) (Nat.le_refl _) (.int .i64 0)).setCell (p := ⟨w.heap.size, 1, none⟩) (Nat.le_refl _) (.int .i64 0)).setCell (p := ⟨w.heap.size, 2, none⟩) (Nat.le_refl _) (.int .i64 0)
      obtain ⟨z0, z1, z2⟩ := put3 R0.out (.int .i64 0) (.int .i64 0) (.int .i64 0)
      (try simp only [Exit.inBlock, Exit.then])
      refine bodyPost_ret (v := .tuple #[.agg #[.int .i64 0, .int .i64 0, .int .i64 0], .bool false]) (by rw [results_cell_tmp rfl]; go_simp) rfl ?_
      exact ⟨zero, false, rfl, HA.out, HBF⟩
    | true =>
    obtain ⟨rfl, rfl⟩ := tsame hans (tyes hgd)
    have HY := Lib.hid (show line ⟨y, m, 0⟩ = s → Ans s ⟨y, m, 0⟩ true from fun h => yes_of hgd h)
    clear hgd hans
    generalize line ⟨y, m, 0⟩ = L at *
    cases heq : (L.toList == s.toList) with
    | false =>
      have HA := Lib.hid (HNL.out (fun h => by rw [h] at heq; simp at heq))
      go_wp2_with fail
      have HBF := ((hb.setCell (p := ⟨w.heap.size, 0, none⟩) (Nat.le_refl _) (.int .i64 0)).setCell (p := ⟨w.heap.size, 1, none⟩) (Nat.le_refl _) (.int .i64 0)).setCell (p := ⟨w.heap.size, 2, none⟩) (Nat.le_refl _) (.int .i64 0)
      obtain ⟨z0, z1, z2⟩ := put3 R0.out (.int .i64 0) (.int .i64 0) (.int .i64 0)
      (try simp only [Exit.inBlock, Exit.then])
      refine bodyPost_ret (v := .tuple #[.agg #[.int .i64 0, .int .i64 0, .int .i64 0], .bool false]) (by rw [results_cell_tmp rfl]; go_simp) rfl ?_
      exact ⟨zero, false, rfl, HA.out, HBF⟩
    | true =>
    have hls : L = s := by
      rw [ByteArray.toList_eq, ByteArray.toList_eq] at heq
      exact ByteArray.ext (Array.toList_inj.1 (by simpa using heq))
    have HA := Lib.hid (HY.out hls)
    clear hls HY
    go_wp2_with fail
    have HBF := ((hb.setCell (p := ⟨w.heap.size, 0, none⟩) (Nat.le_refl _) (.int .i64 y)).setCell (p := ⟨w.heap.size, 1, none⟩) (Nat.le_refl _) (.int .i64 m)).setCell (p := ⟨w.heap.size, 2, none⟩) (Nat.le_refl _) (.int .i64 0)
    obtain ⟨z0, z1, z2⟩ := put3 R0.out (.int .i64 y) (.int .i64 m) (.int .i64 0)
    (try simp only [Exit.inBlock, Exit.then])
    refine bodyPost_ret (v := .tuple #[.agg #[.int .i64 y, .int .i64 m, .int .i64 0], .bool true]) (by rw [results_cell_tmp rfl]; go_simp) rfl ?_
    exact ⟨⟨y, m, 0⟩, true, rfl, HA.out, HBF⟩
  · have dn : ¬ (n : Int) ≤ 4 := by omega
    obtain ⟨X0, hx0⟩ : ∃ X, X = wd ws 0 := ⟨_, rfl⟩
    have HX0 := Lib.hid (show ws[0]? = some X0 by rw [hx0]; unfold wd; rw [List.getD_eq_getElem?_getD, List.getElem?_eq_getElem (by omega)]; rfl)
    have HZ0 := Lib.hid (show (⟨X0.toArray⟩ : ByteArray).size ≤ 1048576 by
      have hm := List.mem_of_getElem? HX0.out
      have h1 := PInt.piece_le (show X0 ∈ splitOf s.data.toList 32 by rw [hws]; exact hm)
      have hz : s.data.toList.length = s.size := Array.length_toList
      show X0.toArray.size ≤ _
      rw [List.size_toArray]; omega)
    obtain ⟨X2, hx2⟩ : ∃ X, X = wd ws 2 := ⟨_, rfl⟩
    have HX2 := Lib.hid (show ws[2]? = some X2 by rw [hx2]; unfold wd; rw [List.getD_eq_getElem?_getD, List.getElem?_eq_getElem (by omega)]; rfl)
    have HZ2 := Lib.hid (show (⟨X2.toArray⟩ : ByteArray).size ≤ 1048576 by
      have hm := List.mem_of_getElem? HX2.out
      have h1 := PInt.piece_le (show X2 ∈ splitOf s.data.toList 32 by rw [hws]; exact hm)
      have hz : s.data.toList.length = s.size := Array.length_toList
      show X2.toArray.size ≤ _
      rw [List.size_toArray]; omega)
    obtain ⟨X4, hx4⟩ : ∃ X, X = wd ws 4 := ⟨_, rfl⟩
    have HX4 := Lib.hid (show ws[4]? = some X4 by rw [hx4]; unfold wd; rw [List.getD_eq_getElem?_getD, List.getElem?_eq_getElem (by omega)]; rfl)
    have HZ4 := Lib.hid (show (⟨X4.toArray⟩ : ByteArray).size ≤ 1048576 by
      have hm := List.mem_of_getElem? HX4.out
      have h1 := PInt.piece_le (show X4 ∈ splitOf s.data.toList 32 by rw [hws]; exact hm)
      have hz : s.data.toList.length = s.size := Array.length_toList
      show X4.toArray.size ≤ _
      rw [List.size_toArray]; omega)
    obtain ⟨y, hv0⟩ : ∃ v, rv X0 = v := ⟨_, rfl⟩
    obtain ⟨b0, hb0⟩ : ∃ b, rb X0 = b := ⟨_, rfl⟩
    obtain ⟨m, hv2⟩ : ∃ v, rv X2 = v := ⟨_, rfl⟩
    obtain ⟨b2, hb2⟩ : ∃ b, rb X2 = b := ⟨_, rfl⟩
    obtain ⟨ab, hv4⟩ : ∃ v, rv X4 = v := ⟨_, rfl⟩
    obtain ⟨b4, hb4⟩ : ∃ b, rb X4 = b := ⟨_, rfl⟩
    have hrd : rd ws = ⟨y, m, ab⟩ := by
      unfold rd
      rw [← hx0, ← hx2, hv0, hv2, if_pos (by omega), ← hx4, hv4]
    have HNG := Lib.hid (show good ⟨y, m, ab⟩ = false → Ans s zero false from fun h => none_good hws (by rw [hrd]; exact h))
    have HNL := Lib.hid (show line ⟨y, m, ab⟩ ≠ s → Ans s zero false from fun h => none_line hws (by rw [hrd]; exact h))
    have HR0 := Lib.hid (fun (W : World) (hB : Below w.heap.size w W) => intR ⟨X0.toArray⟩ W (Nat.le_trans HZ0.out (by decide)) (HVP.out.below hB) (HVR.out.below hB) (HVS.out.below hB))
    rw [show ((⟨X0.toArray⟩ : ByteArray).data.toList) = X0 by simp, hv0, hb0] at HR0
    have HR2 := Lib.hid (fun (W : World) (hB : Below w.heap.size w W) => intR ⟨X2.toArray⟩ W (Nat.le_trans HZ2.out (by decide)) (HVP.out.below hB) (HVR.out.below hB) (HVS.out.below hB))
    rw [show ((⟨X2.toArray⟩ : ByteArray).data.toList) = X2 by simp, hv2, hb2] at HR2
    have HR4 := Lib.hid (fun (W : World) (hB : Below w.heap.size w W) => intR ⟨X4.toArray⟩ W (Nat.le_trans HZ4.out (by decide)) (HVP.out.below hB) (HVR.out.below hB) (HVS.out.below hB))
    rw [show ((⟨X4.toArray⟩ : ByteArray).data.toList) = X4 by simp, hv4, hb4] at HR4
    clear hrd hws hn hx0 hv0 hb0 HZ0 hx2 hv2 hb2 HZ2 hx4 hv4 hb4 HZ4
    go_enter Tryd.func9, Tryd.ntmps9
    go_wp2_with fail
    rw [← hW]
    clear hW
    refine (HSP.out _).mono ?_
    rintro e w1 ⟨g, cp, rfl, hnc, hcm, hg, hg2, hcell, hb1⟩
    unfold maxLen at hcm
    have HGL := Lib.hid (Nat.lt_of_lt_of_le R0.out.lt hg)
    replace R0 := Lib.hid (R0.out.kept hb1)
    replace hb := hb.trans (hb1.mono hb.size)
    clear hb1
    have p0 := hcell 0 _ HX0.out
    have p2 := hcell 2 _ HX2.out
    have p4 := hcell 4 _ HX4.out
    clear hcell
    go_wp2_with fail
    refine (HR0.out _ hb).mono ?_
    rintro e w2 ⟨rfl, hb1⟩
    replace p2 := (hb1.cell (p := ⟨g, 2, none⟩) hg2).trans p2
    replace p4 := (hb1.cell (p := ⟨g, 4, none⟩) hg2).trans p4
    replace hg2 := Nat.lt_of_lt_of_le hg2 hb1.size
    replace R0 := Lib.hid (R0.out.kept hb1)
    replace hb := hb.trans (hb1.mono hb.size)
    clear hb1
    go_wp2_with fail
    refine (HR2.out _ hb).mono ?_
    rintro e w3 ⟨rfl, hb1⟩
    replace p4 := (hb1.cell (p := ⟨g, 4, none⟩) hg2).trans p4
    replace hg2 := Nat.lt_of_lt_of_le hg2 hb1.size
    replace R0 := Lib.hid (R0.out.kept hb1)
    replace hb := hb.trans (hb1.mono hb.size)
    clear hb1
    have hR3 := Lib.hid R0.out.lt
    go_upto_region 7 with fail
    have P10 := Lib.hid (Bx.new w3 25 #[.int .i64 y, .int .i64 m, .int .i64 0])
    replace R0 := Lib.hid (R0.out.alloc (Obj.cells #[.int .i64 y, .int .i64 m, .int .i64 0] 25))
    have hgb : w.heap.size ≤ w3.heap.size := hb.size
    have hgR : w.heap.size ≠ w3.heap.size := by have := hR3.out; omega
    replace hb := hb.alloc hb.size (Obj.cells #[.int .i64 y, .int .i64 m, .int .i64 0] 25)
    replace p4 := ((Below.refl w3.heap.size w3).alloc (Nat.le_refl _) (Obj.cells #[.int .i64 y, .int .i64 m, .int .i64 0] 25) |>.cell (p := ⟨g, 4, none⟩) hg2).trans p4
    have hgG : g ≠ w3.heap.size := by omega
    generalize w3.alloc (Obj.cells #[.int .i64 y, .int .i64 m, .int .i64 0] 25) = w4 at *
    generalize w3.heap.size = h at *
    have pc0 := P10.out.cell 0
    replace hg2 := Nat.lt_trans hg2 P10.out.lt
    go_wp2_with fail
    refine (HR4.out _ hb).mono ?_
    rintro e w5 ⟨rfl, hb1⟩
    replace hg2 := Nat.lt_of_lt_of_le hg2 hb1.size
    replace R0 := Lib.hid (R0.out.kept hb1)
    replace P10 := Lib.hid (P10.out.kept hb1)
    replace hb := hb.trans (hb1.mono hb.size)
    clear hb1
    clear pc0
    have P10f := P10.out.frozen 2
    have P10c := P10.out.cell 2
    simp only [List.getElem?_toArray, List.getElem?_cons_zero, List.getElem?_cons_succ] at P10c
    go_upto_region 9 with fail
    clear P10f P10c
    replace P10 := Lib.hid (show Bx (w5.setCell ⟨h, 2, none⟩ (.int .i64 ab)) h 25 #[.int .i64 y, .int .i64 m, .int .i64 ab] from P10.out.set_ 2 (.int .i64 ab))
    replace R0 := Lib.hid (R0.out.far (p := ⟨h, 2, none⟩) hgR (.int .i64 ab))
    replace hb := hb.setCell (p := ⟨h, 2, none⟩) hgb (.int .i64 ab)
    generalize w5.setCell ⟨h, 2, none⟩ (.int .i64 ab) = w6 at *
    have r0 := R0.out.cell 0
    have r1 := R0.out.cell 1
    have r2 := R0.out.cell 2
    simp only [List.getElem?_toArray, List.getElem?_cons_zero, List.getElem?_cons_succ] at r0 r1 r2
    have rf0 := R0.out.frozen 0
    have rf1 := R0.out.frozen 1
    have rf2 := R0.out.frozen 2
    have c0 := P10.out.cell 0
    have c1 := P10.out.cell 1
    have c2 := P10.out.cell 2
    simp only [List.getElem?_toArray, List.getElem?_cons_zero, List.getElem?_cons_succ] at c0 c1 c2
    have cf0 := P10.out.frozen 0
    have cf1 := P10.out.frozen 1
    have cf2 := P10.out.frozen 2
    have HTT := Lib.hid (fun (W : World) (hB : Below w.heap.size w W) => TalX.implT ⟨y, m, ab⟩ W (HVP.out.below hB))
    simp only at HTT
    clear r0 rf0 r1 rf1 r2 rf2
    go_wp2_with fail
    refine (HTT.out _ hb).mono ?_
    rintro e w7 ⟨L, ok, rfl, hans, hb1⟩
    clear c0 cf0 c1 cf1 c2 cf2
    replace R0 := Lib.hid (R0.out.kept hb1)
    replace P10 := Lib.hid (P10.out.kept hb1)
    replace hb := hb.trans (hb1.mono hb.size)
    clear hb1
    have r0 := R0.out.cell 0
    have r1 := R0.out.cell 1
    have r2 := R0.out.cell 2
    simp only [List.getElem?_toArray, List.getElem?_cons_zero, List.getElem?_cons_succ] at r0 r1 r2
    have rf0 := R0.out.frozen 0
    have rf1 := R0.out.frozen 1
    have rf2 := R0.out.frozen 2
    have c0 := P10.out.cell 0
    have c1 := P10.out.cell 1
    have c2 := P10.out.cell 2
    simp only [List.getElem?_toArray, List.getElem?_cons_zero, List.getElem?_cons_succ] at c0 c1 c2
    have cf0 := P10.out.frozen 0
    have cf1 := P10.out.frozen 1
    have cf2 := P10.out.frozen 2
    cases hgd : good ⟨y, m, ab⟩ with
    | false =>
      obtain ⟨rfl, rfl⟩ := tsame hans (tno hgd)
      have HA := Lib.hid (HNG.out hgd)
      clear hgd hans
      go_wp2_with fail
      have HBF := ((hb.setCell (p := ⟨w.heap.size, 0, none⟩) (Nat.le_refl _) (.int .i64 0)).setCell (p := ⟨w.heap.size, 1, none⟩) (Nat.le_refl _) (.int .i64 0)).setCell (p := ⟨w.heap.size, 2, none⟩) (Nat.le_refl _) (.int .i64 0)
      obtain ⟨z0, z1, z2⟩ := put3 R0.out (.int .i64 0) (.int .i64 0) (.int .i64 0)
      (try simp only [Exit.inBlock, Exit.then])
      refine bodyPost_ret (v := .tuple #[.agg #[.int .i64 0, .int .i64 0, .int .i64 0], .bool false]) (by rw [results_cell_tmp rfl]; go_simp) rfl ?_
      exact ⟨zero, false, rfl, HA.out, HBF⟩
    | true =>
    obtain ⟨rfl, rfl⟩ := tsame hans (tyes hgd)
    have HY := Lib.hid (show line ⟨y, m, ab⟩ = s → Ans s ⟨y, m, ab⟩ true from fun h => yes_of hgd h)
    clear hgd hans
    generalize line ⟨y, m, ab⟩ = L at *
    cases heq : (L.toList == s.toList) with
    | false =>
      have HA := Lib.hid (HNL.out (fun h => by rw [h] at heq; simp at heq))
      go_wp2_with fail
      have HBF := ((hb.setCell (p := ⟨w.heap.size, 0, none⟩) (Nat.le_refl _) (.int .i64 0)).setCell (p := ⟨w.heap.size, 1, none⟩) (Nat.le_refl _) (.int .i64 0)).setCell (p := ⟨w.heap.size, 2, none⟩) (Nat.le_refl _) (.int .i64 0)
      obtain ⟨z0, z1, z2⟩ := put3 R0.out (.int .i64 0) (.int .i64 0) (.int .i64 0)
      (try simp only [Exit.inBlock, Exit.then])
      refine bodyPost_ret (v := .tuple #[.agg #[.int .i64 0, .int .i64 0, .int .i64 0], .bool false]) (by rw [results_cell_tmp rfl]; go_simp) rfl ?_
      exact ⟨zero, false, rfl, HA.out, HBF⟩
    | true =>
    have hls : L = s := by
      rw [ByteArray.toList_eq, ByteArray.toList_eq] at heq
      exact ByteArray.ext (Array.toList_inj.1 (by simpa using heq))
    have HA := Lib.hid (HY.out hls)
    clear hls HY
    go_wp2_with fail
    have HBF := ((hb.setCell (p := ⟨w.heap.size, 0, none⟩) (Nat.le_refl _) (.int .i64 y)).setCell (p := ⟨w.heap.size, 1, none⟩) (Nat.le_refl _) (.int .i64 m)).setCell (p := ⟨w.heap.size, 2, none⟩) (Nat.le_refl _) (.int .i64 ab)
    obtain ⟨z0, z1, z2⟩ := put3 R0.out (.int .i64 y) (.int .i64 m) (.int .i64 ab)
    (try simp only [Exit.inBlock, Exit.then])
    refine bodyPost_ret (v := .tuple #[.agg #[.int .i64 y, .int .i64 m, .int .i64 ab], .bool true]) (by rw [results_cell_tmp rfl]; go_simp) rfl ?_
    exact ⟨⟨y, m, ab⟩, true, rfl, HA.out, HBF⟩
end Go.Proofs.YtkdiedmbikkbiaaDoor.TalP
