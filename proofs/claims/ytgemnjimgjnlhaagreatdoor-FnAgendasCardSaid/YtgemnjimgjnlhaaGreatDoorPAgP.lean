/- An item read from its line: the model's l5Digits and l5Parse. No condition but the law's bound on the text. -/
import Derived.Test.YtgemnjimgjnlhaaGreatDoorPAgS
import Derived.Test.YtgemnjimgjnlhaaGreatDoorSplA
import Derived.Test.YtgemnjimgjnlhaaGreatDoorRead
import Derived.Test.YtgemnjimgjnlhaaGreatDoorPInt
import Derived.Test.YtgemnjimgjnlhaaGreatDoorJ1
import Derived.Test.YtgemnjimgjnlhaaGreatDoorBx
import Derived.Test.YtgemnjimgjnlhaaGreatDoorPLAgendaItem
import Derived.BigQuiet
import Derived.Deep.DeepCutAuto
namespace Go.Proofs.YtgemnjimgjnlhaaGreatDoor.PAgP
open Go.RowKit Bs Word SplitMath NumMath Ag AgX PCut PAg PAgS
set_option linter.unusedVariables false
theorem eq_list {a b : ByteArray} {v : Bool} (h : (a.toList == b.toList) = v) : (v = true → a.data.toList = b.data.toList) ∧ (v = false → a.data.toList ≠ b.data.toList) := by
  rw [ByteArray.toList_eq, ByteArray.toList_eq] at h
  refine ⟨fun hv => ?_, fun hv => ?_⟩
  · rw [hv] at h; simpa using h
  · rw [hv] at h; simpa using h
theorem readR (s : ByteArray) (w : World) (hs : s.size ≤ 1048576) :
    Calls Tryz.prog 114 #[.string s] w fun e w' => e = .returned (.tuple #[.int .i64 (rv s.data.toList), .bool (rb s.data.toList)]) ∧ Below w.heap.size w w' :=
  (Read.l1Read s w (by unfold maxLen; omega)).mono fun e w' ⟨h, hb⟩ => by
    rcases h with ⟨v, hv, he⟩ | ⟨hn, he⟩
    · rw [(rv_of hv).1, (rv_of hv).2]; exact ⟨he, hb⟩
    · rw [(rv_none hn).1, (rv_none hn).2]; exact ⟨he, hb⟩
set_option maxRecDepth 100000 in
set_option maxHeartbeats 1600000 in
theorem digits (s : ByteArray) (hs : s.size = 2) (w : World) (h0 : 0 < s.size) (h1 : 1 < s.size) :
    Calls Tryz.prog 115 #[.string s] w fun e w' => e = .returned (.int .i64 (dgv s[0] s[1])) ∧ Below w.heap.size w w' := by
  have ha := UInt8.toNat_lt s[0]
  have hb := UInt8.toNat_lt s[1]
  have i0 : (0 : Int) < (s.size : Int) := by omega
  have i1 : (1 : Int) < (s.size : Int) := by omega
  have hDV : dgv s[0] s[1] = if s[0].toNat < 48 ∨ 57 < s[0].toNat ∨ s[1].toNat < 48 ∨ 57 < s[1].toNat then (99 : Int) else 10 * ((s[0].toNat : Int) - 48) + ((s[1].toNat : Int) - 48) := rfl
  have HDV := Lib.hid hDV
  clear hDV
  by_cases k1 : (s[0].toNat : Int) < 48
  · have HE := Lib.hid (show dgv s[0] s[1] = 99 by rw [HDV.out, if_pos (by omega)])
    go_enter Tryz.func115, Tryz.ntmps115
    go_wp2_with fail
    all_goals first
      | (exfalso; omega)
      | (go_ret; exact ⟨by rw [HE.out]; rfl, Below.refl _ _⟩)
  by_cases k2 : 57 < (s[0].toNat : Int)
  · have HE := Lib.hid (show dgv s[0] s[1] = 99 by rw [HDV.out, if_pos (by omega)])
    go_enter Tryz.func115, Tryz.ntmps115
    go_wp2_with fail
    all_goals first
      | (exfalso; omega)
      | (go_ret; exact ⟨by rw [HE.out]; rfl, Below.refl _ _⟩)
  by_cases k3 : (s[1].toNat : Int) < 48
  · have HE := Lib.hid (show dgv s[0] s[1] = 99 by rw [HDV.out, if_pos (by omega)])
    go_enter Tryz.func115, Tryz.ntmps115
    go_wp2_with fail
    all_goals first
      | (exfalso; omega)
      | (go_ret; exact ⟨by rw [HE.out]; rfl, Below.refl _ _⟩)
  by_cases k4 : 57 < (s[1].toNat : Int)
  · have HE := Lib.hid (show dgv s[0] s[1] = 99 by rw [HDV.out, if_pos (by omega)])
    go_enter Tryz.func115, Tryz.ntmps115
    go_wp2_with fail
    all_goals first
      | (exfalso; omega)
      | (go_ret; exact ⟨by rw [HE.out]; rfl, Below.refl _ _⟩)
  have HE := Lib.hid (show 10 * ((s[0].toNat : Int) - 48) + (s[1].toNat : Int) - 48 = dgv s[0] s[1] by rw [HDV.out, if_neg (by omega)]; omega)
  have k5 : (48 : Int) ≤ (s[0].toNat : Int) := by omega
  have k6 : (s[0].toNat : Int) ≤ 57 := by omega
  have k7 : (48 : Int) ≤ (s[1].toNat : Int) := by omega
  have k8 : (s[1].toNat : Int) ≤ 57 := by omega
  have t1 : IntKind.i64.wrap (s[0].toNat : Int) = (s[0].toNat : Int) := IntWalk.i64_in _ (by omega)
  have t2 : IntKind.i64.wrap (s[1].toNat : Int) = (s[1].toNat : Int) := IntWalk.i64_in _ (by omega)
  have t3 : IntKind.i64.wrap ((s[0].toNat : Int) - 48) = (s[0].toNat : Int) - 48 := IntWalk.i64_in _ (by omega)
  have t4 : IntKind.i64.wrap (10 * ((s[0].toNat : Int) - 48)) = 10 * ((s[0].toNat : Int) - 48) := IntWalk.i64_in _ (by omega)
  have t5 : IntKind.i64.wrap (10 * ((s[0].toNat : Int) - 48) + (s[1].toNat : Int)) = 10 * ((s[0].toNat : Int) - 48) + (s[1].toNat : Int) := IntWalk.i64_in _ (by omega)
  have t6 : IntKind.i64.wrap (10 * ((s[0].toNat : Int) - 48) + (s[1].toNat : Int) - 48) = 10 * ((s[0].toNat : Int) - 48) + (s[1].toNat : Int) - 48 := IntWalk.i64_in _ (by omega)
  go_enter Tryz.func115, Tryz.ntmps115
  go_wp2_with fail
  go_quiet (fail)
  go_wp2_with fail
  go_ret
  exact ⟨by rw [← HE.out]; first | rfl | simp, drawn_below _ _⟩
theorem dg_of {X : ByteArray} {y : List UInt8} {k m : Nat} (hX : X.data.toList = y) (h6 : X.size = 6) (hk : k + 2 ≤ 6) (h0 : 0 < (X.extract k m).size) (h1 : 1 < (X.extract k m).size) (hm : m = k + 2) : dgv ((X.extract k m)[0]) ((X.extract k m)[1]) = at2 y k := by
  subst hX hm
  unfold at2
  have e : ∀ j (h : j < (X.extract k (k + 2)).size), (X.extract k (k + 2))[j] = X.data.toList.getD (k + j) 0 := fun j h => by
    have h2 : k + j < X.data.toList.length := by rw [Array.length_toList]; show k + j < X.size; rw [ByteArray.size_extract] at h; omega
    rw [List.getD_eq_getElem?_getD, List.getElem?_eq_getElem h2]
    simp [ByteArray.getElem_eq_getElem_data, ByteArray.data_extract]
  rw [e 0 h0, e 1 h1]
  rfl
set_option maxRecDepth 100000 in
set_option maxHeartbeats 6400000 in
theorem l5Parse (s : ByteArray) (w : World) (hs : s.size ≤ 1048576) :
    Calls Tryz.prog 77 #[.string s] w (PLAgendaItem.PPost P s w) := by
  obtain ⟨ws, hws⟩ : ∃ ws, splitOf s.data.toList 32 = ws := ⟨_, rfl⟩
  obtain ⟨n, hn⟩ : ∃ n, ws.length = n := ⟨_, rfl⟩
  have HWS := Lib.hid hws
  have HNL := Lib.hid hn
  have HPc := Lib.hid (show ∀ x ∈ ws, x.length ≤ 1048576 from fun x hx => by
    have h1 := PInt.piece_le (l := s.data.toList) (c := 32) (x := x) (by rw [hws]; exact hx)
    have h2 : s.data.toList.length ≤ 1048576 := by rw [Array.length_toList]; exact hs
    omega)
  have HWO := Lib.hid (fun q (hq : P s.data.toList q) => words_ok hws hq)
  obtain ⟨W2, hW2⟩ : ∃ W2 : World, W2 = (w.alloc (Obj.cells #[.int .i64 0, .string ⟨#[]⟩, .int .i64 0, .int .i64 0] 52)).alloc (Obj.cells #[.int .i64 0, .string ⟨#[]⟩, .int .i64 0, .int .i64 0] 52) := ⟨_, rfl⟩
  have HR := Lib.hid (show Bx W2 w.heap.size 52 #[.int .i64 0, .string ⟨#[]⟩, .int .i64 0, .int .i64 0] by rw [hW2]; exact (Bx.new w _ _).alloc _)
  have HN0 := Lib.hid (show Bx W2 (w.heap.size + 1) 52 #[.int .i64 0, .string ⟨#[]⟩, .int .i64 0, .int .i64 0] by rw [hW2]; have h := Bx.new (w.alloc (Obj.cells #[.int .i64 0, .string ⟨#[]⟩, .int .i64 0, .int .i64 0] 52)) 52 #[.int .i64 0, .string ⟨#[]⟩, .int .i64 0, .int .i64 0]; simpa using h)
  have hb : Below w.heap.size w W2 := by rw [hW2]; exact ((Below.refl _ _).alloc (Nat.le_refl _) _).alloc (by simp) _
  have HSp := Lib.hid (SplA.split s 32 32 rfl ws n hws hn W2 hs)
  unfold SplA.SP at HSp
  have hRw : w.heap.size ≤ w.heap.size := Nat.le_refl _
  clear hws hn
  go_enter Tryz.func77, Tryz.ntmps77
  go_upto_region 2 with fail
  rw [← hW2]
  clear hW2
  go_wp2_with fail
  refine HSp.out.mono ?_
  rintro e w1 ⟨g, c, rfl, hnc, hcm, hg0, hg1, hcell, hb1⟩
  unfold maxLen at hcm
  have HCell := Lib.hid (fun W' (hW : Below w1.heap.size w1 W') j x (hx : ws[j]? = some x) => show W'.cell? ⟨g, j, none⟩ = some (.string ⟨x.toArray⟩) from by
    rw [World.cell?_of_block (a := ⟨g, j, none⟩) (hW.block g hg1)]; exact hcell j x hx)
  replace HR := Lib.hid (HR.out.kept hb1)
  replace HN0 := Lib.hid (HN0.out.kept hb1)
  replace hb := hb.trans (hb1.mono hb.size)
  have hRl := HR.out.lt
  have hNl := HN0.out.lt
  clear hcell hb1 HSp hg0
  by_cases hA : n = 4 ∨ n = 7
  case neg =>
    have HNo := Lib.hid (show ∀ q, ¬ P s.data.toList q from fun q hq => hA (by rw [← HNL.out]; exact (HWO.out q hq).1))
    have e4 : ((n : Int) != 4) = true := by simp; omega
    have e7 : ((n : Int) != 7) = true := by simp; omega
    have d4 : ¬ (n : Int) = 4 := by omega
    have d7 : ¬ (n : Int) = 7 := by omega
    have m0 := HN0.out.cell 0
    have m1 := HN0.out.cell 1
    have m2 := HN0.out.cell 2
    have m3 := HN0.out.cell 3
    simp only [List.getElem?_toArray, List.getElem?_cons_zero, List.getElem?_cons_succ] at m0 m1 m2 m3
    have r0 := HR.out.cell 0
    have r1 := HR.out.cell 1
    have r2 := HR.out.cell 2
    have r3 := HR.out.cell 3
    simp only [List.getElem?_toArray, List.getElem?_cons_zero, List.getElem?_cons_succ] at r0 r1 r2 r3
    have f0 := HR.out.frozen 0
    have f1 := HR.out.frozen 1
    have f2 := HR.out.frozen 2
    have f3 := HR.out.frozen 3
    have HRS := Lib.hid (show Bx _ _ 52 #[.int .i64 0, .string ⟨#[]⟩, .int .i64 0, .int .i64 0] from (Bx.set_ (Bx.set_ (Bx.set_ (Bx.set_ HR.out 0 (.int .i64 0)) 1 (.string ⟨#[]⟩)) 2 (.int .i64 0)) 3 (.int .i64 0)))
    have hbs := ((((hb.setCell (p := ⟨w.heap.size, 0, none⟩) hRw (.int .i64 0)).setCell (p := ⟨w.heap.size, 1, none⟩) hRw (.string ⟨#[]⟩)).setCell (p := ⟨w.heap.size, 2, none⟩) hRw (.int .i64 0)).setCell (p := ⟨w.heap.size, 3, none⟩) hRw (.int .i64 0))
    go_wp2_with fail
    clear r0 r1 r2 r3 f0 f1 f2 f3
    generalize (((w1.setCell ⟨w.heap.size, 0, none⟩ (.int .i64 0)).setCell ⟨w.heap.size, 1, none⟩ (.string ⟨#[]⟩)).setCell ⟨w.heap.size, 2, none⟩ (.int .i64 0)).setCell ⟨w.heap.size, 3, none⟩ (.int .i64 0) = wz at *
    have r0 := HRS.out.cell 0
    have r1 := HRS.out.cell 1
    have r2 := HRS.out.cell 2
    have r3 := HRS.out.cell 3
    simp only [List.getElem?_toArray, List.getElem?_cons_zero, List.getElem?_cons_succ] at r0 r1 r2 r3
    (try simp only [Exit.inBlock, Exit.then])
    refine bodyPost_ret (v := .tuple #[.agg #[.int .i64 0, .string ⟨#[]⟩, .int .i64 0, .int .i64 0], .bool false]) (by rw [results_cell_tmp rfl]; go_simp) rfl ?_
    exact ⟨⟨0, ⟨#[]⟩, 0, 0⟩, false, rfl, (fun h => by cases h), fun _ => HNo.out, hbs⟩
  rcases hA with rfl | rfl
  case inl =>
    have hl0 : 0 < ws.length := by have := HNL.out; omega
    obtain ⟨y0, hy0⟩ : ∃ y, ws[0]? = some y := ⟨_, List.getElem?_eq_getElem hl0⟩
    obtain ⟨X0, hX0⟩ : ∃ X : ByteArray, X = ⟨y0.toArray⟩ := ⟨_, rfl⟩
    have HX0 := Lib.hid (show X0.data.toList = y0 by rw [hX0])
    have hs0 : X0.size ≤ 1048576 := by
      have h1 : X0.size = X0.data.toList.length := (Array.length_toList (xs := X0.data)).symm
      rw [h1, HX0.out]; exact HPc.out _ (List.mem_of_getElem? hy0)
    have HL0 := Lib.hid (show y0.length = X0.size by rw [← HX0.out, Array.length_toList]; rfl)
    have HP0 := Lib.hid (fun W' (hW : Below w1.heap.size w1 W') => show W'.cell? ⟨g, 0, none⟩ = some (.string X0) from by rw [hX0]; exact HCell.out W' hW 0 _ hy0)
    have HY0 := Lib.hid hy0
    clear hX0 hl0 hy0
    have hl1 : 1 < ws.length := by have := HNL.out; omega
    obtain ⟨y1, hy1⟩ : ∃ y, ws[1]? = some y := ⟨_, List.getElem?_eq_getElem hl1⟩
    obtain ⟨X1, hX1⟩ : ∃ X : ByteArray, X = ⟨y1.toArray⟩ := ⟨_, rfl⟩
    have HX1 := Lib.hid (show X1.data.toList = y1 by rw [hX1])
    have hs1 : X1.size ≤ 1048576 := by
      have h1 : X1.size = X1.data.toList.length := (Array.length_toList (xs := X1.data)).symm
      rw [h1, HX1.out]; exact HPc.out _ (List.mem_of_getElem? hy1)
    have HL1 := Lib.hid (show y1.length = X1.size by rw [← HX1.out, Array.length_toList]; rfl)
    have HP1 := Lib.hid (fun W' (hW : Below w1.heap.size w1 W') => show W'.cell? ⟨g, 1, none⟩ = some (.string X1) from by rw [hX1]; exact HCell.out W' hW 1 _ hy1)
    have HY1 := Lib.hid hy1
    clear hX1 hl1 hy1
    have hl2 : 2 < ws.length := by have := HNL.out; omega
    obtain ⟨y2, hy2⟩ : ∃ y, ws[2]? = some y := ⟨_, List.getElem?_eq_getElem hl2⟩
    obtain ⟨X2, hX2⟩ : ∃ X : ByteArray, X = ⟨y2.toArray⟩ := ⟨_, rfl⟩
    have HX2 := Lib.hid (show X2.data.toList = y2 by rw [hX2])
    have hs2 : X2.size ≤ 1048576 := by
      have h1 : X2.size = X2.data.toList.length := (Array.length_toList (xs := X2.data)).symm
      rw [h1, HX2.out]; exact HPc.out _ (List.mem_of_getElem? hy2)
    have HL2 := Lib.hid (show y2.length = X2.size by rw [← HX2.out, Array.length_toList]; rfl)
    have HP2 := Lib.hid (fun W' (hW : Below w1.heap.size w1 W') => show W'.cell? ⟨g, 2, none⟩ = some (.string X2) from by rw [hX2]; exact HCell.out W' hW 2 _ hy2)
    have HY2 := Lib.hid hy2
    clear hX2 hl2 hy2
    have HNY := Lib.hid (fun q (hq : P s.data.toList q) => num_yes HWS.out HY0.out HY2.out hq)
    have p0 := HP0.out w1 (Below.refl _ _)
    have p2 := HP2.out w1 (Below.refl _ _)
    by_cases z0 : (X0.size : Int) < 2
    case pos =>
      have HNo := Lib.hid (show ∀ q, ¬ P s.data.toList q from fun q hq => by have := (HWO.out q hq).2.1 _ HY0.out; have := HL0.out; omega)
      have m0 := HN0.out.cell 0
      have m1 := HN0.out.cell 1
      have m2 := HN0.out.cell 2
      have m3 := HN0.out.cell 3
      simp only [List.getElem?_toArray, List.getElem?_cons_zero, List.getElem?_cons_succ] at m0 m1 m2 m3
      have r0 := HR.out.cell 0
      have r1 := HR.out.cell 1
      have r2 := HR.out.cell 2
      have r3 := HR.out.cell 3
      simp only [List.getElem?_toArray, List.getElem?_cons_zero, List.getElem?_cons_succ] at r0 r1 r2 r3
      have f0 := HR.out.frozen 0
      have f1 := HR.out.frozen 1
      have f2 := HR.out.frozen 2
      have f3 := HR.out.frozen 3
      have HRS := Lib.hid (show Bx _ _ 52 #[.int .i64 0, .string ⟨#[]⟩, .int .i64 0, .int .i64 0] from (Bx.set_ (Bx.set_ (Bx.set_ (Bx.set_ HR.out 0 (.int .i64 0)) 1 (.string ⟨#[]⟩)) 2 (.int .i64 0)) 3 (.int .i64 0)))
      have hbs := ((((hb.setCell (p := ⟨w.heap.size, 0, none⟩) hRw (.int .i64 0)).setCell (p := ⟨w.heap.size, 1, none⟩) hRw (.string ⟨#[]⟩)).setCell (p := ⟨w.heap.size, 2, none⟩) hRw (.int .i64 0)).setCell (p := ⟨w.heap.size, 3, none⟩) hRw (.int .i64 0))
      go_wp2_with fail
      clear r0 r1 r2 r3 f0 f1 f2 f3
      generalize (((w1.setCell ⟨w.heap.size, 0, none⟩ (.int .i64 0)).setCell ⟨w.heap.size, 1, none⟩ (.string ⟨#[]⟩)).setCell ⟨w.heap.size, 2, none⟩ (.int .i64 0)).setCell ⟨w.heap.size, 3, none⟩ (.int .i64 0) = wz at *
      have r0 := HRS.out.cell 0
      have r1 := HRS.out.cell 1
      have r2 := HRS.out.cell 2
      have r3 := HRS.out.cell 3
      simp only [List.getElem?_toArray, List.getElem?_cons_zero, List.getElem?_cons_succ] at r0 r1 r2 r3
      (try simp only [Exit.inBlock, Exit.then])
      refine bodyPost_ret (v := .tuple #[.agg #[.int .i64 0, .string ⟨#[]⟩, .int .i64 0, .int .i64 0], .bool false]) (by rw [results_cell_tmp rfl]; go_simp) rfl ?_
      exact ⟨⟨0, ⟨#[]⟩, 0, 0⟩, false, rfl, (fun h => by cases h), fun _ => HNo.out, hbs⟩
    by_cases z2 : (X2.size : Int) < 2
    case pos =>
      have HNo := Lib.hid (show ∀ q, ¬ P s.data.toList q from fun q hq => by have := (HWO.out q hq).2.2 _ HY2.out; have := HL2.out; omega)
      have m0 := HN0.out.cell 0
      have m1 := HN0.out.cell 1
      have m2 := HN0.out.cell 2
      have m3 := HN0.out.cell 3
      simp only [List.getElem?_toArray, List.getElem?_cons_zero, List.getElem?_cons_succ] at m0 m1 m2 m3
      have r0 := HR.out.cell 0
      have r1 := HR.out.cell 1
      have r2 := HR.out.cell 2
      have r3 := HR.out.cell 3
      simp only [List.getElem?_toArray, List.getElem?_cons_zero, List.getElem?_cons_succ] at r0 r1 r2 r3
      have f0 := HR.out.frozen 0
      have f1 := HR.out.frozen 1
      have f2 := HR.out.frozen 2
      have f3 := HR.out.frozen 3
      have HRS := Lib.hid (show Bx _ _ 52 #[.int .i64 0, .string ⟨#[]⟩, .int .i64 0, .int .i64 0] from (Bx.set_ (Bx.set_ (Bx.set_ (Bx.set_ HR.out 0 (.int .i64 0)) 1 (.string ⟨#[]⟩)) 2 (.int .i64 0)) 3 (.int .i64 0)))
      have hbs := ((((hb.setCell (p := ⟨w.heap.size, 0, none⟩) hRw (.int .i64 0)).setCell (p := ⟨w.heap.size, 1, none⟩) hRw (.string ⟨#[]⟩)).setCell (p := ⟨w.heap.size, 2, none⟩) hRw (.int .i64 0)).setCell (p := ⟨w.heap.size, 3, none⟩) hRw (.int .i64 0))
      go_wp2_with fail
      clear r0 r1 r2 r3 f0 f1 f2 f3
      generalize (((w1.setCell ⟨w.heap.size, 0, none⟩ (.int .i64 0)).setCell ⟨w.heap.size, 1, none⟩ (.string ⟨#[]⟩)).setCell ⟨w.heap.size, 2, none⟩ (.int .i64 0)).setCell ⟨w.heap.size, 3, none⟩ (.int .i64 0) = wz at *
      have r0 := HRS.out.cell 0
      have r1 := HRS.out.cell 1
      have r2 := HRS.out.cell 2
      have r3 := HRS.out.cell 3
      simp only [List.getElem?_toArray, List.getElem?_cons_zero, List.getElem?_cons_succ] at r0 r1 r2 r3
      (try simp only [Exit.inBlock, Exit.then])
      refine bodyPost_ret (v := .tuple #[.agg #[.int .i64 0, .string ⟨#[]⟩, .int .i64 0, .int .i64 0], .bool false]) (by rw [results_cell_tmp rfl]; go_simp) rfl ?_
      exact ⟨⟨0, ⟨#[]⟩, 0, 0⟩, false, rfl, (fun h => by cases h), fun _ => HNo.out, hbs⟩
    obtain ⟨k0, hk0⟩ : ∃ k0, X0.size = k0 + 1 := ⟨X0.size - 1, by omega⟩
    have t0 : IntKind.i64.wrap ((X0.size : Int) - 1) = (k0 : Int) := by rw [IntWalk.i64_in _ (by omega)]; omega
    have t1 : (0 : Int) ≤ (k0 : Int) := by omega
    have t2 : (k0 : Int) ≤ (X0.size : Int) := by omega
    have t3 : (1 : Int) ≤ (X2.size : Int) := by omega
    have HS0 := Lib.hid (show (X0.extract 0 k0).data.toList = y0.take (y0.length - 1) by
      rw [ByteArray.data_extract, HL0.out, hk0, Array.toList_extract, HX0.out]; simp)
    have HS2 := Lib.hid (show (X2.extract 1 X2.size).data.toList = y2.drop 1 by
      rw [ByteArray.data_extract, Array.toList_extract, HX2.out, ← HL2.out]; simp
      exact List.take_of_length_le (by simp))
    obtain ⟨Y0, hY0⟩ : ∃ Y, Y = X0.extract 0 k0 := ⟨_, rfl⟩
    obtain ⟨Y2, hY2⟩ : ∃ Y, Y = X2.extract 1 X2.size := ⟨_, rfl⟩
    rw [← hY0] at HS0
    rw [← hY2] at HS2
    have hz0 : Y0.size ≤ 1048576 := by
      have h1 : Y0.size = Y0.data.toList.length := (Array.length_toList (xs := Y0.data)).symm
      rw [h1, HS0.out, List.length_take]; have := HL0.out; omega
    have hz2 : Y2.size ≤ 1048576 := by
      have h1 : Y2.size = Y2.data.toList.length := (Array.length_toList (xs := Y2.data)).symm
      rw [h1, HS2.out, List.length_drop]; have := HL2.out; omega
    have HR0 := Lib.hid (fun W => readR Y0 W hz0)
    have HR2 := Lib.hid (fun W => readR Y2 W hz2)
    have HNI := Lib.hid (show NumOf (y0.take (y0.length - 1)) (rv Y0.data.toList) by rw [HS0.out]; exact rv_num _)
    have HNM := Lib.hid (show NumOf (y2.drop 1) (rv Y2.data.toList) by rw [HS2.out]; exact rv_num _)
    have HB0 := Lib.hid (fun (h : rb Y0.data.toList = false) => show ∀ q, ¬ P s.data.toList q from fun q hq => rb_no h _ (by rw [HS0.out, (HNY.out q hq).1]; exact (HNY.out q hq).2.2.1))
    have HB2 := Lib.hid (fun (h : rb Y2.data.toList = false) => show ∀ q, ¬ P s.data.toList q from fun q hq => rb_no h _ (by rw [HS2.out, (HNY.out q hq).2.1]; exact (HNY.out q hq).2.2.2))
    have bI := rv_bd Y0.data.toList
    have bM := rv_bd Y2.data.toList
    generalize rv Y0.data.toList = I at *
    generalize rv Y2.data.toList = Mi at *
    generalize rb Y0.data.toList = one at *
    generalize rb Y2.data.toList = two at *
    rw [hY0] at HR0
    rw [hY2] at HR2
    clear hY0 hY2 hz0 hz2 HS0 HS2 p0 p2
    have p0 := fun d os => HP0.out _ (below_regrown w1 d os)
    have p0' := HP0.out w1 (Below.refl _ _)
    have p2' := HP2.out w1 (Below.refl _ _)
    go_wp2_with fail
    refine wp_region_quiet_below (by kernel_rfl) (by kernel_rfl) ?_
    repeat (go_big_quiet_step ((first | (go_at_call 114; exact Calls.regrown_of (HR0.out _)) | fail)))
    refine wpQuiet_nil ?_
    intro _ hw'
    obtain ⟨⟨dq, osq⟩, hw''⟩ := hw'
    subst hw''
    have hbx := below_regrown w1 dq osq
    clear p0 p0' p2'
    generalize Sort.grow (redrawn w1 dq) osq = w3 at *
    have p2 := HP2.out w3 hbx
    go_wp2_with fail
    refine (HR2.out _).mono ?_
    rintro e w4 ⟨rfl, hb4⟩
    replace hbx := hbx.trans (hb4.mono hbx.size)
    clear hb4 p2
    have p1 := HP1.out w4 hbx
    have HG0 := Lib.hid (Bx.new w4 52 #[.int .i64 I, .string X1, .int .i64 Mi, .int .i64 (-1)])
    have hG1 : w1.heap.size ≤ w4.heap.size := hbx.size
    have hbx5 := hbx.alloc hbx.size (Obj.cells #[.int .i64 I, .string X1, .int .i64 Mi, .int .i64 (-1)] 52)
    have HR5 := Lib.hid (HR.out.kept hbx5)
    have HN5 := Lib.hid (HN0.out.kept hbx5)
    have hb5 := hb.trans (hbx5.mono hb.size)
    go_upto_region 9 with fail
    obtain ⟨G, hG⟩ : ∃ G, G = w4.heap.size := ⟨_, rfl⟩
    rw [← hG] at HG0 hG1
    generalize w4.alloc (Obj.cells #[.int .i64 I, .string X1, .int .i64 Mi, .int .i64 (-1)] 52) = w5 at *
    simp only [← hG]
    clear hG hbx p1
    have hbw := hb
    have HRw := HR
    have HNw := HN0
    clear hb HR HN0
    have hb := hb5
    have HR := HR5
    have HN0 := HN5
    have HBG := Lib.hid HG0.out
    clear hb5 HR5 HN5 HG0
    have HF := Lib.hid (spec_found HWS.out HY0.out HY1.out HY2.out HNI.out HNM.out (t := -1) ⟨fun _ => rfl, fun y _ h => by rw [HNL.out] at h; cases h⟩ (ti := X1) HX1.out)
    obtain ⟨ti, hti⟩ : ∃ ti : Int, ti = -1 := ⟨_, rfl⟩
    rw [← hti] at HF HBG
    clear hti
    cases one with
    | false =>
      have HNo := Lib.hid (HB0.out rfl)
      have m0 := HN0.out.cell 0
      have m1 := HN0.out.cell 1
      have m2 := HN0.out.cell 2
      have m3 := HN0.out.cell 3
      simp only [List.getElem?_toArray, List.getElem?_cons_zero, List.getElem?_cons_succ] at m0 m1 m2 m3
      have r0 := HR.out.cell 0
      have r1 := HR.out.cell 1
      have r2 := HR.out.cell 2
      have r3 := HR.out.cell 3
      simp only [List.getElem?_toArray, List.getElem?_cons_zero, List.getElem?_cons_succ] at r0 r1 r2 r3
      have f0 := HR.out.frozen 0
      have f1 := HR.out.frozen 1
      have f2 := HR.out.frozen 2
      have f3 := HR.out.frozen 3
      have HRS := Lib.hid (show Bx _ _ 52 #[.int .i64 0, .string ⟨#[]⟩, .int .i64 0, .int .i64 0] from (Bx.set_ (Bx.set_ (Bx.set_ (Bx.set_ HR.out 0 (.int .i64 0)) 1 (.string ⟨#[]⟩)) 2 (.int .i64 0)) 3 (.int .i64 0)))
      have hbs := ((((hb.setCell (p := ⟨w.heap.size, 0, none⟩) hRw (.int .i64 0)).setCell (p := ⟨w.heap.size, 1, none⟩) hRw (.string ⟨#[]⟩)).setCell (p := ⟨w.heap.size, 2, none⟩) hRw (.int .i64 0)).setCell (p := ⟨w.heap.size, 3, none⟩) hRw (.int .i64 0))
      go_wp2_with fail
      clear r0 r1 r2 r3 f0 f1 f2 f3
      generalize (((w5.setCell ⟨w.heap.size, 0, none⟩ (.int .i64 0)).setCell ⟨w.heap.size, 1, none⟩ (.string ⟨#[]⟩)).setCell ⟨w.heap.size, 2, none⟩ (.int .i64 0)).setCell ⟨w.heap.size, 3, none⟩ (.int .i64 0) = wz at *
      have r0 := HRS.out.cell 0
      have r1 := HRS.out.cell 1
      have r2 := HRS.out.cell 2
      have r3 := HRS.out.cell 3
      simp only [List.getElem?_toArray, List.getElem?_cons_zero, List.getElem?_cons_succ] at r0 r1 r2 r3
      (try simp only [Exit.inBlock, Exit.then])
      refine bodyPost_ret (v := .tuple #[.agg #[.int .i64 0, .string ⟨#[]⟩, .int .i64 0, .int .i64 0], .bool false]) (by rw [results_cell_tmp rfl]; go_simp) rfl ?_
      exact ⟨⟨0, ⟨#[]⟩, 0, 0⟩, false, rfl, (fun h => by cases h), fun _ => HNo.out, hbs⟩
    | true =>
    cases two with
    | false =>
      have HNo := Lib.hid (HB2.out rfl)
      have m0 := HN0.out.cell 0
      have m1 := HN0.out.cell 1
      have m2 := HN0.out.cell 2
      have m3 := HN0.out.cell 3
      simp only [List.getElem?_toArray, List.getElem?_cons_zero, List.getElem?_cons_succ] at m0 m1 m2 m3
      have r0 := HR.out.cell 0
      have r1 := HR.out.cell 1
      have r2 := HR.out.cell 2
      have r3 := HR.out.cell 3
      simp only [List.getElem?_toArray, List.getElem?_cons_zero, List.getElem?_cons_succ] at r0 r1 r2 r3
      have f0 := HR.out.frozen 0
      have f1 := HR.out.frozen 1
      have f2 := HR.out.frozen 2
      have f3 := HR.out.frozen 3
      have HRS := Lib.hid (show Bx _ _ 52 #[.int .i64 0, .string ⟨#[]⟩, .int .i64 0, .int .i64 0] from (Bx.set_ (Bx.set_ (Bx.set_ (Bx.set_ HR.out 0 (.int .i64 0)) 1 (.string ⟨#[]⟩)) 2 (.int .i64 0)) 3 (.int .i64 0)))
      have hbs := ((((hb.setCell (p := ⟨w.heap.size, 0, none⟩) hRw (.int .i64 0)).setCell (p := ⟨w.heap.size, 1, none⟩) hRw (.string ⟨#[]⟩)).setCell (p := ⟨w.heap.size, 2, none⟩) hRw (.int .i64 0)).setCell (p := ⟨w.heap.size, 3, none⟩) hRw (.int .i64 0))
      go_wp2_with fail
      clear r0 r1 r2 r3 f0 f1 f2 f3
      generalize (((w5.setCell ⟨w.heap.size, 0, none⟩ (.int .i64 0)).setCell ⟨w.heap.size, 1, none⟩ (.string ⟨#[]⟩)).setCell ⟨w.heap.size, 2, none⟩ (.int .i64 0)).setCell ⟨w.heap.size, 3, none⟩ (.int .i64 0) = wz at *
      have r0 := HRS.out.cell 0
      have r1 := HRS.out.cell 1
      have r2 := HRS.out.cell 2
      have r3 := HRS.out.cell 3
      simp only [List.getElem?_toArray, List.getElem?_cons_zero, List.getElem?_cons_succ] at r0 r1 r2 r3
      (try simp only [Exit.inBlock, Exit.then])
      refine bodyPost_ret (v := .tuple #[.agg #[.int .i64 0, .string ⟨#[]⟩, .int .i64 0, .int .i64 0], .bool false]) (by rw [results_cell_tmp rfl]; go_simp) rfl ?_
      exact ⟨⟨0, ⟨#[]⟩, 0, 0⟩, false, rfl, (fun h => by cases h), fun _ => HNo.out, hbs⟩
    | true =>
    have c0 := HBG.out.cell 0
    have c1 := HBG.out.cell 1
    have c2 := HBG.out.cell 2
    have c3 := HBG.out.cell 3
    simp only [List.getElem?_toArray, List.getElem?_cons_zero, List.getElem?_cons_succ] at c0 c1 c2 c3
    obtain ⟨wb, hwb⟩ : ∃ wb : World, wb = w5.alloc (Obj.cells #[.int .i64 I, .string X1, .int .i64 Mi, .int .i64 ti] 52) := ⟨_, rfl⟩
    have hbb : Below w5.heap.size w5 wb := by rw [hwb]; exact (Below.refl _ _).alloc (Nat.le_refl _) _
    have HIS := Lib.hid (show Is LAgendaItem.rec wb (.slice (some ⟨w5.heap.size, 0, none⟩) 1 1) [(⟨I, X1, Mi, ti⟩ : M)] by rw [hwb]; exact (IsS.unit LAgendaItem.rec (by simp) (LAgendaItem.box w5 ⟨I, X1, Mi, ti⟩ 52)).is)
    have HGD := Lib.hid (AgG.l5Good _ [(⟨I, X1, Mi, ti⟩ : M)] wb HIS.out (fun x hx => by rw [List.mem_singleton.1 hx]; show X1.size ≤ maxLen; unfold maxLen; omega))
    unfold AgG.Post at HGD
    rw [good_one] at HGD
    have HBGb := Lib.hid (HBG.out.kept hbb)
    have HRb := Lib.hid (HR.out.kept hbb)
    have HNb := Lib.hid (HN0.out.kept hbb)
    have hbB := hb.trans (hbb.mono hb.size)
    cases gk : okB ⟨I, X1, Mi, ti⟩ with
    | false =>
      have HNo := Lib.hid (show ∀ q, ¬ P s.data.toList q from fun q hq => by have h := HF.out q hq; have h2 := hq.1; rw [← h, gk] at h2; cases h2)
      rw [gk] at HGD
      clear gk HR HN0 hb hbb HIS
      go_wp2_with fail
      rw [← hwb]
      clear hwb c0 c1 c2 c3
      refine HGD.out.mono ?_
      rintro e wv ⟨rfl, hb1⟩
      have HR := Lib.hid (HRb.out.kept hb1)
      have HN0 := Lib.hid (HNb.out.kept hb1)
      have hb := hbB.trans (hb1.mono hbB.size)
      clear hb1 HRb HNb hbB
      have m0 := HN0.out.cell 0
      have m1 := HN0.out.cell 1
      have m2 := HN0.out.cell 2
      have m3 := HN0.out.cell 3
      simp only [List.getElem?_toArray, List.getElem?_cons_zero, List.getElem?_cons_succ] at m0 m1 m2 m3
      have r0 := HR.out.cell 0
      have r1 := HR.out.cell 1
      have r2 := HR.out.cell 2
      have r3 := HR.out.cell 3
      simp only [List.getElem?_toArray, List.getElem?_cons_zero, List.getElem?_cons_succ] at r0 r1 r2 r3
      have f0 := HR.out.frozen 0
      have f1 := HR.out.frozen 1
      have f2 := HR.out.frozen 2
      have f3 := HR.out.frozen 3
      have HRS := Lib.hid (show Bx _ _ 52 #[.int .i64 0, .string ⟨#[]⟩, .int .i64 0, .int .i64 0] from (Bx.set_ (Bx.set_ (Bx.set_ (Bx.set_ HR.out 0 (.int .i64 0)) 1 (.string ⟨#[]⟩)) 2 (.int .i64 0)) 3 (.int .i64 0)))
      have hbs := ((((hb.setCell (p := ⟨w.heap.size, 0, none⟩) hRw (.int .i64 0)).setCell (p := ⟨w.heap.size, 1, none⟩) hRw (.string ⟨#[]⟩)).setCell (p := ⟨w.heap.size, 2, none⟩) hRw (.int .i64 0)).setCell (p := ⟨w.heap.size, 3, none⟩) hRw (.int .i64 0))
      go_wp2_with fail
      clear r0 r1 r2 r3 f0 f1 f2 f3
      generalize (((wv.setCell ⟨w.heap.size, 0, none⟩ (.int .i64 0)).setCell ⟨w.heap.size, 1, none⟩ (.string ⟨#[]⟩)).setCell ⟨w.heap.size, 2, none⟩ (.int .i64 0)).setCell ⟨w.heap.size, 3, none⟩ (.int .i64 0) = wz at *
      have r0 := HRS.out.cell 0
      have r1 := HRS.out.cell 1
      have r2 := HRS.out.cell 2
      have r3 := HRS.out.cell 3
      simp only [List.getElem?_toArray, List.getElem?_cons_zero, List.getElem?_cons_succ] at r0 r1 r2 r3
      (try simp only [Exit.inBlock, Exit.then])
      refine bodyPost_ret (v := .tuple #[.agg #[.int .i64 0, .string ⟨#[]⟩, .int .i64 0, .int .i64 0], .bool false]) (by rw [results_cell_tmp rfl]; go_simp) rfl ?_
      exact ⟨⟨0, ⟨#[]⟩, 0, 0⟩, false, rfl, (fun h => by cases h), fun _ => HNo.out, hbs⟩
    | true =>
      have HOK := Lib.hid gk
      have HIL := Lib.hid (fun W => AgX.l5Line ⟨I, X1, Mi, ti⟩ W gk)
      rw [gk] at HGD
      obtain ⟨LM, hLM⟩ : ∃ LM, LM = lineM ⟨I, X1, Mi, ti⟩ := ⟨_, rfl⟩
      have HLM := Lib.hid hLM
      rw [← hLM] at HIL
      clear gk hLM HR HN0 hb hbb HIS
      go_wp2_with fail
      rw [← hwb]
      clear hwb c0 c1 c2 c3
      refine HGD.out.mono ?_
      rintro e wv ⟨rfl, hb1⟩
      have HR2 := Lib.hid (HRb.out.kept hb1)
      have HN2 := Lib.hid (HNb.out.kept hb1)
      have HBG2 := Lib.hid (HBGb.out.kept hb1)
      have hb2 := hbB.trans (hb1.mono hbB.size)
      clear hb1 HRb HNb hbB HBGb HBG
      have c0 := HBG2.out.cell 0
      have c1 := HBG2.out.cell 1
      have c2 := HBG2.out.cell 2
      have c3 := HBG2.out.cell 3
      simp only [List.getElem?_toArray, List.getElem?_cons_zero, List.getElem?_cons_succ] at c0 c1 c2 c3
      go_wp2_with fail
      refine (HIL.out _).mono ?_
      rintro e wl ⟨rfl, hb1⟩
      have HR := Lib.hid (HR2.out.kept hb1)
      have HN0 := Lib.hid (HN2.out.kept hb1)
      have HBG := Lib.hid (HBG2.out.kept hb1)
      have hb := hb2.trans (hb1.mono hb2.size)
      clear hb1 HR2 HN2 HBG2 hb2 c0 c1 c2 c3
      cases he : (LM.toList == s.toList) with
      | true =>
        have HPy := Lib.hid (show P s.data.toList ⟨I, X1, Mi, ti⟩ from ⟨HOK.out, by rw [← HLM.out]; exact (eq_list he).1 rfl⟩)
        have c0 := HBG.out.cell 0
        have c1 := HBG.out.cell 1
        have c2 := HBG.out.cell 2
        have c3 := HBG.out.cell 3
        simp only [List.getElem?_toArray, List.getElem?_cons_zero, List.getElem?_cons_succ] at c0 c1 c2 c3
        have r0 := HR.out.cell 0
        have r1 := HR.out.cell 1
        have r2 := HR.out.cell 2
        have r3 := HR.out.cell 3
        simp only [List.getElem?_toArray, List.getElem?_cons_zero, List.getElem?_cons_succ] at r0 r1 r2 r3
        have f0 := HR.out.frozen 0
        have f1 := HR.out.frozen 1
        have f2 := HR.out.frozen 2
        have f3 := HR.out.frozen 3
        have HRS := Lib.hid (show Bx _ _ 52 #[.int .i64 I, .string X1, .int .i64 Mi, .int .i64 ti] from (Bx.set_ (Bx.set_ (Bx.set_ (Bx.set_ HR.out 0 (.int .i64 I)) 1 (.string X1)) 2 (.int .i64 Mi)) 3 (.int .i64 ti)))
        have hbs := ((((hb.setCell (p := ⟨w.heap.size, 0, none⟩) hRw (.int .i64 I)).setCell (p := ⟨w.heap.size, 1, none⟩) hRw (.string X1)).setCell (p := ⟨w.heap.size, 2, none⟩) hRw (.int .i64 Mi)).setCell (p := ⟨w.heap.size, 3, none⟩) hRw (.int .i64 ti))
        go_wp2_with fail
        clear r0 r1 r2 r3 f0 f1 f2 f3
        generalize (((wl.setCell ⟨w.heap.size, 0, none⟩ (.int .i64 I)).setCell ⟨w.heap.size, 1, none⟩ (.string X1)).setCell ⟨w.heap.size, 2, none⟩ (.int .i64 Mi)).setCell ⟨w.heap.size, 3, none⟩ (.int .i64 ti) = wz at *
        have r0 := HRS.out.cell 0
        have r1 := HRS.out.cell 1
        have r2 := HRS.out.cell 2
        have r3 := HRS.out.cell 3
        simp only [List.getElem?_toArray, List.getElem?_cons_zero, List.getElem?_cons_succ] at r0 r1 r2 r3
        (try simp only [Exit.inBlock, Exit.then])
        refine bodyPost_ret (v := .tuple #[.agg #[.int .i64 I, .string X1, .int .i64 Mi, .int .i64 ti], .bool true]) (by rw [results_cell_tmp rfl]; go_simp) rfl ?_
        exact ⟨⟨I, X1, Mi, ti⟩, true, rfl, fun _ => HPy.out, (fun h => by cases h), hbs⟩
      | false =>
        have HNo := Lib.hid (show ∀ q, ¬ P s.data.toList q from fun q hq => (eq_list he).2 rfl (by rw [HLM.out, HF.out q hq]; exact hq.2))
        have m0 := HN0.out.cell 0
        have m1 := HN0.out.cell 1
        have m2 := HN0.out.cell 2
        have m3 := HN0.out.cell 3
        simp only [List.getElem?_toArray, List.getElem?_cons_zero, List.getElem?_cons_succ] at m0 m1 m2 m3
        have r0 := HR.out.cell 0
        have r1 := HR.out.cell 1
        have r2 := HR.out.cell 2
        have r3 := HR.out.cell 3
        simp only [List.getElem?_toArray, List.getElem?_cons_zero, List.getElem?_cons_succ] at r0 r1 r2 r3
        have f0 := HR.out.frozen 0
        have f1 := HR.out.frozen 1
        have f2 := HR.out.frozen 2
        have f3 := HR.out.frozen 3
        have HRS := Lib.hid (show Bx _ _ 52 #[.int .i64 0, .string ⟨#[]⟩, .int .i64 0, .int .i64 0] from (Bx.set_ (Bx.set_ (Bx.set_ (Bx.set_ HR.out 0 (.int .i64 0)) 1 (.string ⟨#[]⟩)) 2 (.int .i64 0)) 3 (.int .i64 0)))
        have hbs := ((((hb.setCell (p := ⟨w.heap.size, 0, none⟩) hRw (.int .i64 0)).setCell (p := ⟨w.heap.size, 1, none⟩) hRw (.string ⟨#[]⟩)).setCell (p := ⟨w.heap.size, 2, none⟩) hRw (.int .i64 0)).setCell (p := ⟨w.heap.size, 3, none⟩) hRw (.int .i64 0))
        go_wp2_with fail
        clear r0 r1 r2 r3 f0 f1 f2 f3
        generalize (((wl.setCell ⟨w.heap.size, 0, none⟩ (.int .i64 0)).setCell ⟨w.heap.size, 1, none⟩ (.string ⟨#[]⟩)).setCell ⟨w.heap.size, 2, none⟩ (.int .i64 0)).setCell ⟨w.heap.size, 3, none⟩ (.int .i64 0) = wz at *
        have r0 := HRS.out.cell 0
        have r1 := HRS.out.cell 1
        have r2 := HRS.out.cell 2
        have r3 := HRS.out.cell 3
        simp only [List.getElem?_toArray, List.getElem?_cons_zero, List.getElem?_cons_succ] at r0 r1 r2 r3
        (try simp only [Exit.inBlock, Exit.then])
        refine bodyPost_ret (v := .tuple #[.agg #[.int .i64 0, .string ⟨#[]⟩, .int .i64 0, .int .i64 0], .bool false]) (by rw [results_cell_tmp rfl]; go_simp) rfl ?_
        exact ⟨⟨0, ⟨#[]⟩, 0, 0⟩, false, rfl, (fun h => by cases h), fun _ => HNo.out, hbs⟩
  case inr =>
    have hl0 : 0 < ws.length := by have := HNL.out; omega
    obtain ⟨y0, hy0⟩ : ∃ y, ws[0]? = some y := ⟨_, List.getElem?_eq_getElem hl0⟩
    obtain ⟨X0, hX0⟩ : ∃ X : ByteArray, X = ⟨y0.toArray⟩ := ⟨_, rfl⟩
    have HX0 := Lib.hid (show X0.data.toList = y0 by rw [hX0])
    have hs0 : X0.size ≤ 1048576 := by
      have h1 : X0.size = X0.data.toList.length := (Array.length_toList (xs := X0.data)).symm
      rw [h1, HX0.out]; exact HPc.out _ (List.mem_of_getElem? hy0)
    have HL0 := Lib.hid (show y0.length = X0.size by rw [← HX0.out, Array.length_toList]; rfl)
    have HP0 := Lib.hid (fun W' (hW : Below w1.heap.size w1 W') => show W'.cell? ⟨g, 0, none⟩ = some (.string X0) from by rw [hX0]; exact HCell.out W' hW 0 _ hy0)
    have HY0 := Lib.hid hy0
    clear hX0 hl0 hy0
    have hl1 : 1 < ws.length := by have := HNL.out; omega
    obtain ⟨y1, hy1⟩ : ∃ y, ws[1]? = some y := ⟨_, List.getElem?_eq_getElem hl1⟩
    obtain ⟨X1, hX1⟩ : ∃ X : ByteArray, X = ⟨y1.toArray⟩ := ⟨_, rfl⟩
    have HX1 := Lib.hid (show X1.data.toList = y1 by rw [hX1])
    have hs1 : X1.size ≤ 1048576 := by
      have h1 : X1.size = X1.data.toList.length := (Array.length_toList (xs := X1.data)).symm
      rw [h1, HX1.out]; exact HPc.out _ (List.mem_of_getElem? hy1)
    have HL1 := Lib.hid (show y1.length = X1.size by rw [← HX1.out, Array.length_toList]; rfl)
    have HP1 := Lib.hid (fun W' (hW : Below w1.heap.size w1 W') => show W'.cell? ⟨g, 1, none⟩ = some (.string X1) from by rw [hX1]; exact HCell.out W' hW 1 _ hy1)
    have HY1 := Lib.hid hy1
    clear hX1 hl1 hy1
    have hl2 : 2 < ws.length := by have := HNL.out; omega
    obtain ⟨y2, hy2⟩ : ∃ y, ws[2]? = some y := ⟨_, List.getElem?_eq_getElem hl2⟩
    obtain ⟨X2, hX2⟩ : ∃ X : ByteArray, X = ⟨y2.toArray⟩ := ⟨_, rfl⟩
    have HX2 := Lib.hid (show X2.data.toList = y2 by rw [hX2])
    have hs2 : X2.size ≤ 1048576 := by
      have h1 : X2.size = X2.data.toList.length := (Array.length_toList (xs := X2.data)).symm
      rw [h1, HX2.out]; exact HPc.out _ (List.mem_of_getElem? hy2)
    have HL2 := Lib.hid (show y2.length = X2.size by rw [← HX2.out, Array.length_toList]; rfl)
    have HP2 := Lib.hid (fun W' (hW : Below w1.heap.size w1 W') => show W'.cell? ⟨g, 2, none⟩ = some (.string X2) from by rw [hX2]; exact HCell.out W' hW 2 _ hy2)
    have HY2 := Lib.hid hy2
    clear hX2 hl2 hy2
    have HNY := Lib.hid (fun q (hq : P s.data.toList q) => num_yes HWS.out HY0.out HY2.out hq)
    have p0 := HP0.out w1 (Below.refl _ _)
    have p2 := HP2.out w1 (Below.refl _ _)
    by_cases z0 : (X0.size : Int) < 2
    case pos =>
      have HNo := Lib.hid (show ∀ q, ¬ P s.data.toList q from fun q hq => by have := (HWO.out q hq).2.1 _ HY0.out; have := HL0.out; omega)
      have m0 := HN0.out.cell 0
      have m1 := HN0.out.cell 1
      have m2 := HN0.out.cell 2
      have m3 := HN0.out.cell 3
      simp only [List.getElem?_toArray, List.getElem?_cons_zero, List.getElem?_cons_succ] at m0 m1 m2 m3
      have r0 := HR.out.cell 0
      have r1 := HR.out.cell 1
      have r2 := HR.out.cell 2
      have r3 := HR.out.cell 3
      simp only [List.getElem?_toArray, List.getElem?_cons_zero, List.getElem?_cons_succ] at r0 r1 r2 r3
      have f0 := HR.out.frozen 0
      have f1 := HR.out.frozen 1
      have f2 := HR.out.frozen 2
      have f3 := HR.out.frozen 3
      have HRS := Lib.hid (show Bx _ _ 52 #[.int .i64 0, .string ⟨#[]⟩, .int .i64 0, .int .i64 0] from (Bx.set_ (Bx.set_ (Bx.set_ (Bx.set_ HR.out 0 (.int .i64 0)) 1 (.string ⟨#[]⟩)) 2 (.int .i64 0)) 3 (.int .i64 0)))
      have hbs := ((((hb.setCell (p := ⟨w.heap.size, 0, none⟩) hRw (.int .i64 0)).setCell (p := ⟨w.heap.size, 1, none⟩) hRw (.string ⟨#[]⟩)).setCell (p := ⟨w.heap.size, 2, none⟩) hRw (.int .i64 0)).setCell (p := ⟨w.heap.size, 3, none⟩) hRw (.int .i64 0))
      go_wp2_with fail
      clear r0 r1 r2 r3 f0 f1 f2 f3
      generalize (((w1.setCell ⟨w.heap.size, 0, none⟩ (.int .i64 0)).setCell ⟨w.heap.size, 1, none⟩ (.string ⟨#[]⟩)).setCell ⟨w.heap.size, 2, none⟩ (.int .i64 0)).setCell ⟨w.heap.size, 3, none⟩ (.int .i64 0) = wz at *
      have r0 := HRS.out.cell 0
      have r1 := HRS.out.cell 1
      have r2 := HRS.out.cell 2
      have r3 := HRS.out.cell 3
      simp only [List.getElem?_toArray, List.getElem?_cons_zero, List.getElem?_cons_succ] at r0 r1 r2 r3
      (try simp only [Exit.inBlock, Exit.then])
      refine bodyPost_ret (v := .tuple #[.agg #[.int .i64 0, .string ⟨#[]⟩, .int .i64 0, .int .i64 0], .bool false]) (by rw [results_cell_tmp rfl]; go_simp) rfl ?_
      exact ⟨⟨0, ⟨#[]⟩, 0, 0⟩, false, rfl, (fun h => by cases h), fun _ => HNo.out, hbs⟩
    by_cases z2 : (X2.size : Int) < 2
    case pos =>
      have HNo := Lib.hid (show ∀ q, ¬ P s.data.toList q from fun q hq => by have := (HWO.out q hq).2.2 _ HY2.out; have := HL2.out; omega)
      have m0 := HN0.out.cell 0
      have m1 := HN0.out.cell 1
      have m2 := HN0.out.cell 2
      have m3 := HN0.out.cell 3
      simp only [List.getElem?_toArray, List.getElem?_cons_zero, List.getElem?_cons_succ] at m0 m1 m2 m3
      have r0 := HR.out.cell 0
      have r1 := HR.out.cell 1
      have r2 := HR.out.cell 2
      have r3 := HR.out.cell 3
      simp only [List.getElem?_toArray, List.getElem?_cons_zero, List.getElem?_cons_succ] at r0 r1 r2 r3
      have f0 := HR.out.frozen 0
      have f1 := HR.out.frozen 1
      have f2 := HR.out.frozen 2
      have f3 := HR.out.frozen 3
      have HRS := Lib.hid (show Bx _ _ 52 #[.int .i64 0, .string ⟨#[]⟩, .int .i64 0, .int .i64 0] from (Bx.set_ (Bx.set_ (Bx.set_ (Bx.set_ HR.out 0 (.int .i64 0)) 1 (.string ⟨#[]⟩)) 2 (.int .i64 0)) 3 (.int .i64 0)))
      have hbs := ((((hb.setCell (p := ⟨w.heap.size, 0, none⟩) hRw (.int .i64 0)).setCell (p := ⟨w.heap.size, 1, none⟩) hRw (.string ⟨#[]⟩)).setCell (p := ⟨w.heap.size, 2, none⟩) hRw (.int .i64 0)).setCell (p := ⟨w.heap.size, 3, none⟩) hRw (.int .i64 0))
      go_wp2_with fail
      clear r0 r1 r2 r3 f0 f1 f2 f3
      generalize (((w1.setCell ⟨w.heap.size, 0, none⟩ (.int .i64 0)).setCell ⟨w.heap.size, 1, none⟩ (.string ⟨#[]⟩)).setCell ⟨w.heap.size, 2, none⟩ (.int .i64 0)).setCell ⟨w.heap.size, 3, none⟩ (.int .i64 0) = wz at *
      have r0 := HRS.out.cell 0
      have r1 := HRS.out.cell 1
      have r2 := HRS.out.cell 2
      have r3 := HRS.out.cell 3
      simp only [List.getElem?_toArray, List.getElem?_cons_zero, List.getElem?_cons_succ] at r0 r1 r2 r3
      (try simp only [Exit.inBlock, Exit.then])
      refine bodyPost_ret (v := .tuple #[.agg #[.int .i64 0, .string ⟨#[]⟩, .int .i64 0, .int .i64 0], .bool false]) (by rw [results_cell_tmp rfl]; go_simp) rfl ?_
      exact ⟨⟨0, ⟨#[]⟩, 0, 0⟩, false, rfl, (fun h => by cases h), fun _ => HNo.out, hbs⟩
    obtain ⟨k0, hk0⟩ : ∃ k0, X0.size = k0 + 1 := ⟨X0.size - 1, by omega⟩
    have t0 : IntKind.i64.wrap ((X0.size : Int) - 1) = (k0 : Int) := by rw [IntWalk.i64_in _ (by omega)]; omega
    have t1 : (0 : Int) ≤ (k0 : Int) := by omega
    have t2 : (k0 : Int) ≤ (X0.size : Int) := by omega
    have t3 : (1 : Int) ≤ (X2.size : Int) := by omega
    have HS0 := Lib.hid (show (X0.extract 0 k0).data.toList = y0.take (y0.length - 1) by
      rw [ByteArray.data_extract, HL0.out, hk0, Array.toList_extract, HX0.out]; simp)
    have HS2 := Lib.hid (show (X2.extract 1 X2.size).data.toList = y2.drop 1 by
      rw [ByteArray.data_extract, Array.toList_extract, HX2.out, ← HL2.out]; simp
      exact List.take_of_length_le (by simp))
    obtain ⟨Y0, hY0⟩ : ∃ Y, Y = X0.extract 0 k0 := ⟨_, rfl⟩
    obtain ⟨Y2, hY2⟩ : ∃ Y, Y = X2.extract 1 X2.size := ⟨_, rfl⟩
    rw [← hY0] at HS0
    rw [← hY2] at HS2
    have hz0 : Y0.size ≤ 1048576 := by
      have h1 : Y0.size = Y0.data.toList.length := (Array.length_toList (xs := Y0.data)).symm
      rw [h1, HS0.out, List.length_take]; have := HL0.out; omega
    have hz2 : Y2.size ≤ 1048576 := by
      have h1 : Y2.size = Y2.data.toList.length := (Array.length_toList (xs := Y2.data)).symm
      rw [h1, HS2.out, List.length_drop]; have := HL2.out; omega
    have HR0 := Lib.hid (fun W => readR Y0 W hz0)
    have HR2 := Lib.hid (fun W => readR Y2 W hz2)
    have HNI := Lib.hid (show NumOf (y0.take (y0.length - 1)) (rv Y0.data.toList) by rw [HS0.out]; exact rv_num _)
    have HNM := Lib.hid (show NumOf (y2.drop 1) (rv Y2.data.toList) by rw [HS2.out]; exact rv_num _)
    have HB0 := Lib.hid (fun (h : rb Y0.data.toList = false) => show ∀ q, ¬ P s.data.toList q from fun q hq => rb_no h _ (by rw [HS0.out, (HNY.out q hq).1]; exact (HNY.out q hq).2.2.1))
    have HB2 := Lib.hid (fun (h : rb Y2.data.toList = false) => show ∀ q, ¬ P s.data.toList q from fun q hq => rb_no h _ (by rw [HS2.out, (HNY.out q hq).2.1]; exact (HNY.out q hq).2.2.2))
    have bI := rv_bd Y0.data.toList
    have bM := rv_bd Y2.data.toList
    generalize rv Y0.data.toList = I at *
    generalize rv Y2.data.toList = Mi at *
    generalize rb Y0.data.toList = one at *
    generalize rb Y2.data.toList = two at *
    rw [hY0] at HR0
    rw [hY2] at HR2
    clear hY0 hY2 hz0 hz2 HS0 HS2 p0 p2
    have p0 := fun d os => HP0.out _ (below_regrown w1 d os)
    have p0' := HP0.out w1 (Below.refl _ _)
    have p2' := HP2.out w1 (Below.refl _ _)
    go_wp2_with fail
    refine wp_region_quiet_below (by kernel_rfl) (by kernel_rfl) ?_
    repeat (go_big_quiet_step ((first | (go_at_call 114; exact Calls.regrown_of (HR0.out _)) | fail)))
    refine wpQuiet_nil ?_
    intro _ hw'
    obtain ⟨⟨dq, osq⟩, hw''⟩ := hw'
    subst hw''
    have hbx := below_regrown w1 dq osq
    clear p0 p0' p2'
    generalize Sort.grow (redrawn w1 dq) osq = w3 at *
    have p2 := HP2.out w3 hbx
    go_wp2_with fail
    refine (HR2.out _).mono ?_
    rintro e w4 ⟨rfl, hb4⟩
    replace hbx := hbx.trans (hb4.mono hbx.size)
    clear hb4 p2
    have p1 := HP1.out w4 hbx
    have HG0 := Lib.hid (Bx.new w4 52 #[.int .i64 I, .string X1, .int .i64 Mi, .int .i64 (-1)])
    have hG1 : w1.heap.size ≤ w4.heap.size := hbx.size
    have hbx5 := hbx.alloc hbx.size (Obj.cells #[.int .i64 I, .string X1, .int .i64 Mi, .int .i64 (-1)] 52)
    have HR5 := Lib.hid (HR.out.kept hbx5)
    have HN5 := Lib.hid (HN0.out.kept hbx5)
    have hb5 := hb.trans (hbx5.mono hb.size)
    have hl6 : 6 < ws.length := by have := HNL.out; omega
    obtain ⟨y6, hy6⟩ : ∃ y, ws[6]? = some y := ⟨_, List.getElem?_eq_getElem hl6⟩
    obtain ⟨X6, hX6⟩ : ∃ X : ByteArray, X = ⟨y6.toArray⟩ := ⟨_, rfl⟩
    have HX6 := Lib.hid (show X6.data.toList = y6 by rw [hX6])
    have hs6 : X6.size ≤ 1048576 := by
      have h1 : X6.size = X6.data.toList.length := (Array.length_toList (xs := X6.data)).symm
      rw [h1, HX6.out]; exact HPc.out _ (List.mem_of_getElem? hy6)
    have HL6 := Lib.hid (show y6.length = X6.size by rw [← HX6.out, Array.length_toList]; rfl)
    have HP6 := Lib.hid (fun W' (hW : Below w1.heap.size w1 W') => show W'.cell? ⟨g, 6, none⟩ = some (.string X6) from by rw [hX6]; exact HCell.out W' hW 6 _ hy6)
    have HY6 := Lib.hid hy6
    clear hX6 hl6 hy6
    have p6 := HP6.out _ hbx5
    go_upto_region 9 with fail
    obtain ⟨G, hG⟩ : ∃ G, G = w4.heap.size := ⟨_, rfl⟩
    rw [← hG] at HG0 hG1
    generalize w4.alloc (Obj.cells #[.int .i64 I, .string X1, .int .i64 Mi, .int .i64 (-1)] 52) = w5 at *
    simp only [← hG]
    clear hG hbx p1
    have hbw := hb
    have HRw := HR
    have HNw := HN0
    clear hb HR HN0
    have hb := hb5
    have HR := HR5
    have HN0 := HN5
    have HBG := Lib.hid HG0.out
    clear hb5 HR5 HN5 HG0
    by_cases z6 : X6.size = 6
    case neg =>
      have z7 : ¬ (X6.size : Int) = 6 := by omega
      have z8 : ((X6.size : Int) == 6) = false := by simp; omega
      have HF := Lib.hid (spec_found HWS.out HY0.out HY1.out HY2.out HNI.out HNM.out (t := -1) ⟨fun _ => rfl, fun y hy _ h => by rw [HY6.out] at hy; rw [← Option.some.inj hy] at h; have := HL6.out; omega⟩ (ti := X1) HX1.out)
      obtain ⟨ti, hti⟩ : ∃ ti : Int, ti = -1 := ⟨_, rfl⟩
      rw [← hti] at HF HBG
      clear hti
      cases one with
      | false =>
        have HNo := Lib.hid (HB0.out rfl)
        have m0 := HN0.out.cell 0
        have m1 := HN0.out.cell 1
        have m2 := HN0.out.cell 2
        have m3 := HN0.out.cell 3
        simp only [List.getElem?_toArray, List.getElem?_cons_zero, List.getElem?_cons_succ] at m0 m1 m2 m3
        have r0 := HR.out.cell 0
        have r1 := HR.out.cell 1
        have r2 := HR.out.cell 2
        have r3 := HR.out.cell 3
        simp only [List.getElem?_toArray, List.getElem?_cons_zero, List.getElem?_cons_succ] at r0 r1 r2 r3
        have f0 := HR.out.frozen 0
        have f1 := HR.out.frozen 1
        have f2 := HR.out.frozen 2
        have f3 := HR.out.frozen 3
        have HRS := Lib.hid (show Bx _ _ 52 #[.int .i64 0, .string ⟨#[]⟩, .int .i64 0, .int .i64 0] from (Bx.set_ (Bx.set_ (Bx.set_ (Bx.set_ HR.out 0 (.int .i64 0)) 1 (.string ⟨#[]⟩)) 2 (.int .i64 0)) 3 (.int .i64 0)))
        have hbs := ((((hb.setCell (p := ⟨w.heap.size, 0, none⟩) hRw (.int .i64 0)).setCell (p := ⟨w.heap.size, 1, none⟩) hRw (.string ⟨#[]⟩)).setCell (p := ⟨w.heap.size, 2, none⟩) hRw (.int .i64 0)).setCell (p := ⟨w.heap.size, 3, none⟩) hRw (.int .i64 0))
        go_wp2_with fail
        clear r0 r1 r2 r3 f0 f1 f2 f3
        generalize (((w5.setCell ⟨w.heap.size, 0, none⟩ (.int .i64 0)).setCell ⟨w.heap.size, 1, none⟩ (.string ⟨#[]⟩)).setCell ⟨w.heap.size, 2, none⟩ (.int .i64 0)).setCell ⟨w.heap.size, 3, none⟩ (.int .i64 0) = wz at *
        have r0 := HRS.out.cell 0
        have r1 := HRS.out.cell 1
        have r2 := HRS.out.cell 2
        have r3 := HRS.out.cell 3
        simp only [List.getElem?_toArray, List.getElem?_cons_zero, List.getElem?_cons_succ] at r0 r1 r2 r3
        (try simp only [Exit.inBlock, Exit.then])
        refine bodyPost_ret (v := .tuple #[.agg #[.int .i64 0, .string ⟨#[]⟩, .int .i64 0, .int .i64 0], .bool false]) (by rw [results_cell_tmp rfl]; go_simp) rfl ?_
        exact ⟨⟨0, ⟨#[]⟩, 0, 0⟩, false, rfl, (fun h => by cases h), fun _ => HNo.out, hbs⟩
      | true =>
      cases two with
      | false =>
        have HNo := Lib.hid (HB2.out rfl)
        have m0 := HN0.out.cell 0
        have m1 := HN0.out.cell 1
        have m2 := HN0.out.cell 2
        have m3 := HN0.out.cell 3
        simp only [List.getElem?_toArray, List.getElem?_cons_zero, List.getElem?_cons_succ] at m0 m1 m2 m3
        have r0 := HR.out.cell 0
        have r1 := HR.out.cell 1
        have r2 := HR.out.cell 2
        have r3 := HR.out.cell 3
        simp only [List.getElem?_toArray, List.getElem?_cons_zero, List.getElem?_cons_succ] at r0 r1 r2 r3
        have f0 := HR.out.frozen 0
        have f1 := HR.out.frozen 1
        have f2 := HR.out.frozen 2
        have f3 := HR.out.frozen 3
        have HRS := Lib.hid (show Bx _ _ 52 #[.int .i64 0, .string ⟨#[]⟩, .int .i64 0, .int .i64 0] from (Bx.set_ (Bx.set_ (Bx.set_ (Bx.set_ HR.out 0 (.int .i64 0)) 1 (.string ⟨#[]⟩)) 2 (.int .i64 0)) 3 (.int .i64 0)))
        have hbs := ((((hb.setCell (p := ⟨w.heap.size, 0, none⟩) hRw (.int .i64 0)).setCell (p := ⟨w.heap.size, 1, none⟩) hRw (.string ⟨#[]⟩)).setCell (p := ⟨w.heap.size, 2, none⟩) hRw (.int .i64 0)).setCell (p := ⟨w.heap.size, 3, none⟩) hRw (.int .i64 0))
        go_wp2_with fail
        clear r0 r1 r2 r3 f0 f1 f2 f3
        generalize (((w5.setCell ⟨w.heap.size, 0, none⟩ (.int .i64 0)).setCell ⟨w.heap.size, 1, none⟩ (.string ⟨#[]⟩)).setCell ⟨w.heap.size, 2, none⟩ (.int .i64 0)).setCell ⟨w.heap.size, 3, none⟩ (.int .i64 0) = wz at *
        have r0 := HRS.out.cell 0
        have r1 := HRS.out.cell 1
        have r2 := HRS.out.cell 2
        have r3 := HRS.out.cell 3
        simp only [List.getElem?_toArray, List.getElem?_cons_zero, List.getElem?_cons_succ] at r0 r1 r2 r3
        (try simp only [Exit.inBlock, Exit.then])
        refine bodyPost_ret (v := .tuple #[.agg #[.int .i64 0, .string ⟨#[]⟩, .int .i64 0, .int .i64 0], .bool false]) (by rw [results_cell_tmp rfl]; go_simp) rfl ?_
        exact ⟨⟨0, ⟨#[]⟩, 0, 0⟩, false, rfl, (fun h => by cases h), fun _ => HNo.out, hbs⟩
      | true =>
      have c0 := HBG.out.cell 0
      have c1 := HBG.out.cell 1
      have c2 := HBG.out.cell 2
      have c3 := HBG.out.cell 3
      simp only [List.getElem?_toArray, List.getElem?_cons_zero, List.getElem?_cons_succ] at c0 c1 c2 c3
      obtain ⟨wb, hwb⟩ : ∃ wb : World, wb = w5.alloc (Obj.cells #[.int .i64 I, .string X1, .int .i64 Mi, .int .i64 ti] 52) := ⟨_, rfl⟩
      have hbb : Below w5.heap.size w5 wb := by rw [hwb]; exact (Below.refl _ _).alloc (Nat.le_refl _) _
      have HIS := Lib.hid (show Is LAgendaItem.rec wb (.slice (some ⟨w5.heap.size, 0, none⟩) 1 1) [(⟨I, X1, Mi, ti⟩ : M)] by rw [hwb]; exact (IsS.unit LAgendaItem.rec (by simp) (LAgendaItem.box w5 ⟨I, X1, Mi, ti⟩ 52)).is)
      have HGD := Lib.hid (AgG.l5Good _ [(⟨I, X1, Mi, ti⟩ : M)] wb HIS.out (fun x hx => by rw [List.mem_singleton.1 hx]; show X1.size ≤ maxLen; unfold maxLen; omega))
      unfold AgG.Post at HGD
      rw [good_one] at HGD
      have HBGb := Lib.hid (HBG.out.kept hbb)
      have HRb := Lib.hid (HR.out.kept hbb)
      have HNb := Lib.hid (HN0.out.kept hbb)
      have hbB := hb.trans (hbb.mono hb.size)
      cases gk : okB ⟨I, X1, Mi, ti⟩ with
      | false =>
        have HNo := Lib.hid (show ∀ q, ¬ P s.data.toList q from fun q hq => by have h := HF.out q hq; have h2 := hq.1; rw [← h, gk] at h2; cases h2)
        rw [gk] at HGD
        clear gk HR HN0 hb hbb HIS
        go_wp2_with fail
        rw [← hwb]
        clear hwb c0 c1 c2 c3
        refine HGD.out.mono ?_
        rintro e wv ⟨rfl, hb1⟩
        have HR := Lib.hid (HRb.out.kept hb1)
        have HN0 := Lib.hid (HNb.out.kept hb1)
        have hb := hbB.trans (hb1.mono hbB.size)
        clear hb1 HRb HNb hbB
        have m0 := HN0.out.cell 0
        have m1 := HN0.out.cell 1
        have m2 := HN0.out.cell 2
        have m3 := HN0.out.cell 3
        simp only [List.getElem?_toArray, List.getElem?_cons_zero, List.getElem?_cons_succ] at m0 m1 m2 m3
        have r0 := HR.out.cell 0
        have r1 := HR.out.cell 1
        have r2 := HR.out.cell 2
        have r3 := HR.out.cell 3
        simp only [List.getElem?_toArray, List.getElem?_cons_zero, List.getElem?_cons_succ] at r0 r1 r2 r3
        have f0 := HR.out.frozen 0
        have f1 := HR.out.frozen 1
        have f2 := HR.out.frozen 2
        have f3 := HR.out.frozen 3
        have HRS := Lib.hid (show Bx _ _ 52 #[.int .i64 0, .string ⟨#[]⟩, .int .i64 0, .int .i64 0] from (Bx.set_ (Bx.set_ (Bx.set_ (Bx.set_ HR.out 0 (.int .i64 0)) 1 (.string ⟨#[]⟩)) 2 (.int .i64 0)) 3 (.int .i64 0)))
        have hbs := ((((hb.setCell (p := ⟨w.heap.size, 0, none⟩) hRw (.int .i64 0)).setCell (p := ⟨w.heap.size, 1, none⟩) hRw (.string ⟨#[]⟩)).setCell (p := ⟨w.heap.size, 2, none⟩) hRw (.int .i64 0)).setCell (p := ⟨w.heap.size, 3, none⟩) hRw (.int .i64 0))
        go_wp2_with fail
        clear r0 r1 r2 r3 f0 f1 f2 f3
        generalize (((wv.setCell ⟨w.heap.size, 0, none⟩ (.int .i64 0)).setCell ⟨w.heap.size, 1, none⟩ (.string ⟨#[]⟩)).setCell ⟨w.heap.size, 2, none⟩ (.int .i64 0)).setCell ⟨w.heap.size, 3, none⟩ (.int .i64 0) = wz at *
        have r0 := HRS.out.cell 0
        have r1 := HRS.out.cell 1
        have r2 := HRS.out.cell 2
        have r3 := HRS.out.cell 3
        simp only [List.getElem?_toArray, List.getElem?_cons_zero, List.getElem?_cons_succ] at r0 r1 r2 r3
        (try simp only [Exit.inBlock, Exit.then])
        refine bodyPost_ret (v := .tuple #[.agg #[.int .i64 0, .string ⟨#[]⟩, .int .i64 0, .int .i64 0], .bool false]) (by rw [results_cell_tmp rfl]; go_simp) rfl ?_
        exact ⟨⟨0, ⟨#[]⟩, 0, 0⟩, false, rfl, (fun h => by cases h), fun _ => HNo.out, hbs⟩
      | true =>
        have HOK := Lib.hid gk
        have HIL := Lib.hid (fun W => AgX.l5Line ⟨I, X1, Mi, ti⟩ W gk)
        rw [gk] at HGD
        obtain ⟨LM, hLM⟩ : ∃ LM, LM = lineM ⟨I, X1, Mi, ti⟩ := ⟨_, rfl⟩
        have HLM := Lib.hid hLM
        rw [← hLM] at HIL
        clear gk hLM HR HN0 hb hbb HIS
        go_wp2_with fail
        rw [← hwb]
        clear hwb c0 c1 c2 c3
        refine HGD.out.mono ?_
        rintro e wv ⟨rfl, hb1⟩
        have HR2 := Lib.hid (HRb.out.kept hb1)
        have HN2 := Lib.hid (HNb.out.kept hb1)
        have HBG2 := Lib.hid (HBGb.out.kept hb1)
        have hb2 := hbB.trans (hb1.mono hbB.size)
        clear hb1 HRb HNb hbB HBGb HBG
        have c0 := HBG2.out.cell 0
        have c1 := HBG2.out.cell 1
        have c2 := HBG2.out.cell 2
        have c3 := HBG2.out.cell 3
        simp only [List.getElem?_toArray, List.getElem?_cons_zero, List.getElem?_cons_succ] at c0 c1 c2 c3
        go_wp2_with fail
        refine (HIL.out _).mono ?_
        rintro e wl ⟨rfl, hb1⟩
        have HR := Lib.hid (HR2.out.kept hb1)
        have HN0 := Lib.hid (HN2.out.kept hb1)
        have HBG := Lib.hid (HBG2.out.kept hb1)
        have hb := hb2.trans (hb1.mono hb2.size)
        clear hb1 HR2 HN2 HBG2 hb2 c0 c1 c2 c3
        cases he : (LM.toList == s.toList) with
        | true =>
          have HPy := Lib.hid (show P s.data.toList ⟨I, X1, Mi, ti⟩ from ⟨HOK.out, by rw [← HLM.out]; exact (eq_list he).1 rfl⟩)
          have c0 := HBG.out.cell 0
          have c1 := HBG.out.cell 1
          have c2 := HBG.out.cell 2
          have c3 := HBG.out.cell 3
          simp only [List.getElem?_toArray, List.getElem?_cons_zero, List.getElem?_cons_succ] at c0 c1 c2 c3
          have r0 := HR.out.cell 0
          have r1 := HR.out.cell 1
          have r2 := HR.out.cell 2
          have r3 := HR.out.cell 3
          simp only [List.getElem?_toArray, List.getElem?_cons_zero, List.getElem?_cons_succ] at r0 r1 r2 r3
          have f0 := HR.out.frozen 0
          have f1 := HR.out.frozen 1
          have f2 := HR.out.frozen 2
          have f3 := HR.out.frozen 3
          have HRS := Lib.hid (show Bx _ _ 52 #[.int .i64 I, .string X1, .int .i64 Mi, .int .i64 ti] from (Bx.set_ (Bx.set_ (Bx.set_ (Bx.set_ HR.out 0 (.int .i64 I)) 1 (.string X1)) 2 (.int .i64 Mi)) 3 (.int .i64 ti)))
          have hbs := ((((hb.setCell (p := ⟨w.heap.size, 0, none⟩) hRw (.int .i64 I)).setCell (p := ⟨w.heap.size, 1, none⟩) hRw (.string X1)).setCell (p := ⟨w.heap.size, 2, none⟩) hRw (.int .i64 Mi)).setCell (p := ⟨w.heap.size, 3, none⟩) hRw (.int .i64 ti))
          go_wp2_with fail
          clear r0 r1 r2 r3 f0 f1 f2 f3
          generalize (((wl.setCell ⟨w.heap.size, 0, none⟩ (.int .i64 I)).setCell ⟨w.heap.size, 1, none⟩ (.string X1)).setCell ⟨w.heap.size, 2, none⟩ (.int .i64 Mi)).setCell ⟨w.heap.size, 3, none⟩ (.int .i64 ti) = wz at *
          have r0 := HRS.out.cell 0
          have r1 := HRS.out.cell 1
          have r2 := HRS.out.cell 2
          have r3 := HRS.out.cell 3
          simp only [List.getElem?_toArray, List.getElem?_cons_zero, List.getElem?_cons_succ] at r0 r1 r2 r3
          (try simp only [Exit.inBlock, Exit.then])
          refine bodyPost_ret (v := .tuple #[.agg #[.int .i64 I, .string X1, .int .i64 Mi, .int .i64 ti], .bool true]) (by rw [results_cell_tmp rfl]; go_simp) rfl ?_
          exact ⟨⟨I, X1, Mi, ti⟩, true, rfl, fun _ => HPy.out, (fun h => by cases h), hbs⟩
        | false =>
          have HNo := Lib.hid (show ∀ q, ¬ P s.data.toList q from fun q hq => (eq_list he).2 rfl (by rw [HLM.out, HF.out q hq]; exact hq.2))
          have m0 := HN0.out.cell 0
          have m1 := HN0.out.cell 1
          have m2 := HN0.out.cell 2
          have m3 := HN0.out.cell 3
          simp only [List.getElem?_toArray, List.getElem?_cons_zero, List.getElem?_cons_succ] at m0 m1 m2 m3
          have r0 := HR.out.cell 0
          have r1 := HR.out.cell 1
          have r2 := HR.out.cell 2
          have r3 := HR.out.cell 3
          simp only [List.getElem?_toArray, List.getElem?_cons_zero, List.getElem?_cons_succ] at r0 r1 r2 r3
          have f0 := HR.out.frozen 0
          have f1 := HR.out.frozen 1
          have f2 := HR.out.frozen 2
          have f3 := HR.out.frozen 3
          have HRS := Lib.hid (show Bx _ _ 52 #[.int .i64 0, .string ⟨#[]⟩, .int .i64 0, .int .i64 0] from (Bx.set_ (Bx.set_ (Bx.set_ (Bx.set_ HR.out 0 (.int .i64 0)) 1 (.string ⟨#[]⟩)) 2 (.int .i64 0)) 3 (.int .i64 0)))
          have hbs := ((((hb.setCell (p := ⟨w.heap.size, 0, none⟩) hRw (.int .i64 0)).setCell (p := ⟨w.heap.size, 1, none⟩) hRw (.string ⟨#[]⟩)).setCell (p := ⟨w.heap.size, 2, none⟩) hRw (.int .i64 0)).setCell (p := ⟨w.heap.size, 3, none⟩) hRw (.int .i64 0))
          go_wp2_with fail
          clear r0 r1 r2 r3 f0 f1 f2 f3
          generalize (((wl.setCell ⟨w.heap.size, 0, none⟩ (.int .i64 0)).setCell ⟨w.heap.size, 1, none⟩ (.string ⟨#[]⟩)).setCell ⟨w.heap.size, 2, none⟩ (.int .i64 0)).setCell ⟨w.heap.size, 3, none⟩ (.int .i64 0) = wz at *
          have r0 := HRS.out.cell 0
          have r1 := HRS.out.cell 1
          have r2 := HRS.out.cell 2
          have r3 := HRS.out.cell 3
          simp only [List.getElem?_toArray, List.getElem?_cons_zero, List.getElem?_cons_succ] at r0 r1 r2 r3
          (try simp only [Exit.inBlock, Exit.then])
          refine bodyPost_ret (v := .tuple #[.agg #[.int .i64 0, .string ⟨#[]⟩, .int .i64 0, .int .i64 0], .bool false]) (by rw [results_cell_tmp rfl]; go_simp) rfl ?_
          exact ⟨⟨0, ⟨#[]⟩, 0, 0⟩, false, rfl, (fun h => by cases h), fun _ => HNo.out, hbs⟩
    case pos =>
      have HF := Lib.hid (spec_found HWS.out HY0.out HY1.out HY2.out HNI.out HNM.out (t := 60 * at2 y6 0 + at2 y6 3) ⟨fun h => absurd HNL.out h, fun y hy _ _ => by rw [HY6.out] at hy; rw [← Option.some.inj hy]⟩ (ti := X1) HX1.out)
      have HBD := Lib.hid (show ∀ k, 0 ≤ at2 y6 k ∧ at2 y6 k ≤ 99 from fun k => dgv_bd _ _)
      have z7 : (X6.size : Int) = 6 := by omega
      have hd0 : (X6.extract 0 2).size = 2 := by rw [ByteArray.size_extract]; omega
      have hd3 : (X6.extract 3 5).size = 2 := by rw [ByteArray.size_extract]; omega
      have HD0 := Lib.hid (fun W => digits (X6.extract 0 2) hd0 W (by omega) (by omega))
      have HD3 := Lib.hid (fun W => digits (X6.extract 3 5) hd3 W (by omega) (by omega))
      have HV0 := Lib.hid (show dgv ((X6.extract 0 2)[0]'(by omega)) ((X6.extract 0 2)[1]'(by omega)) = at2 y6 0 from dg_of HX6.out z6 (by omega) (by omega) (by omega) rfl)
      have HV3 := Lib.hid (show dgv ((X6.extract 3 5)[0]'(by omega)) ((X6.extract 3 5)[1]'(by omega)) = at2 y6 3 from dg_of HX6.out z6 (by omega) (by omega) (by omega) rfl)
      rw [HV0.out] at HD0
      rw [HV3.out] at HD3
      have HB0' := HBD.out 0
      have HB3' := HBD.out 3
      generalize at2 y6 0 = dA at *
      generalize at2 y6 3 = dB at *
      have t60 : IntKind.i64.wrap (60 * dA) = 60 * dA := IntWalk.i64_in _ (by omega)
      have t61 : IntKind.i64.wrap (60 * dA + dB) = 60 * dA + dB := IntWalk.i64_in _ (by omega)
      have t62 : wrap64 (60 * dA) = 60 * dA := IntWalk.wrap64_in _ (by omega)
      have t63 : wrap64 (60 * dA + dB) = 60 * dA + dB := IntWalk.wrap64_in _ (by omega)
      obtain ⟨ti, hti⟩ : ∃ ti : Int, ti = 60 * dA + dB := ⟨_, rfl⟩
      rw [← hti] at HF
      have HTI := Lib.hid hti
      clear hti
      go_upto_region 10 with fail
      have HK := Lib.hid (show ∀ w' : World, Below w1.heap.size w1 w' → Below w1.heap.size w1 w' ∧ w'.cell? ⟨g, 6, none⟩ = some (.string X6) from fun w' hB => ⟨hB, HP6.out w' hB⟩)
      have hX6 := HBG.out.kept (drawn_below w5 1)
      have hXA6 := hG1
      clear HR HN0 hb HBG p6
      have hB : Below w1.heap.size w1 w5.drew := hbx5.drew
      refine wp_region_held_drew (S := fun w' => Below w1.heap.size w1 w' ∧ w'.cell? ⟨g, 6, none⟩ = some (.string X6)) (by kernel_rfl) (HK.out _ hB) (fun hHeld => ?_)
      replace hX6 : Bx w5.drew G 52 #[.int .i64 I, .string X1, .int .i64 Mi, .int .i64 (-1)] := hX6
      generalize w5.drew = x0 at *
      refine wpAnyH_take (i := 0) (v := ?v1) rfl (by kernel_rfl) (by kernel_rfl) (by kernel_rfl) (fun _ _ _ h => h) (Or.inl ⟨by rfl, ?hy1⟩) (by assumption) ?rest1
      case hy1 => (intro wq hSw; (try dsimp only at hSw); go_split_ands; go_simp; (try with_reducible rfl))
      case rest1 =>
      refine wpAnyH_take (i := 1) (v := ?v2) rfl (by kernel_rfl) (by kernel_rfl) (by kernel_rfl) (fun _ _ _ h => h) (Or.inl ⟨by rfl, ?hy2⟩) (by assumption) ?rest2
      case hy2 => (intro wq hSw; (try dsimp only at hSw); go_split_ands; go_simp; (try with_reducible rfl))
      case rest2 =>
      refine wpAnyH_take (i := 2) (v := ?v3) rfl (by kernel_rfl) (by kernel_rfl) (by kernel_rfl) (fun _ _ _ h => h) (Or.inl ⟨by rfl, ?hy3⟩) (by assumption) ?rest3
      case hy3 => (intro wq hSw; (try dsimp only at hSw); go_split_ands; go_simp; (try with_reducible rfl))
      case rest3 =>
      refine wpAnyH_take (i := 3) (v := ?v4) rfl (by kernel_rfl) (by kernel_rfl) (by kernel_rfl) (fun _ _ _ h => h) (Or.inl ⟨by rfl, ?hy4⟩) (by assumption) ?rest4
      case hy4 => (intro wq hSw; (try dsimp only at hSw); go_split_ands; go_simp; (try with_reducible rfl))
      case rest4 =>
      refine wpAnyH_take (i := 6) (v := ?v5) rfl (by kernel_rfl) (by kernel_rfl) (by kernel_rfl) (fun _ _ _ h => h) (Or.inl ⟨by rfl, ?hy5⟩) (by assumption) ?rest5
      case hy5 => (intro wq hSw; (try dsimp only at hSw); go_split_ands; go_simp; (try with_reducible rfl))
      case rest5 =>
      refine wpAnyH_take (i := 7) (v := ?v6) rfl (by kernel_rfl) (by kernel_rfl) (by kernel_rfl) (fun _ _ _ h => h) (Or.inl ⟨by rfl, ?hy6⟩) (by assumption) ?rest6
      case hy6 => (intro wq hSw; (try dsimp only at hSw); go_split_ands; go_simp; (try with_reducible rfl))
      case rest6 =>
      refine wpAnyH_take (i := 8) (v := ?v7) rfl (by kernel_rfl) (by kernel_rfl) (by kernel_rfl) (fun _ _ _ h => h) (Or.inl ⟨by rfl, ?hy7⟩) (by assumption) ?rest7
      case hy7 => (intro wq hSw; (try dsimp only at hSw); go_split_ands; go_simp; (try with_reducible rfl))
      case rest7 =>
      refine wpAnyH_take (i := 9) (v := ?v8) rfl (by kernel_rfl) (by kernel_rfl) (by kernel_rfl) (fun _ _ _ h => h) (Or.inl ⟨by rfl, ?hy8⟩) (by assumption) ?rest8
      case hy8 => (intro wq hSw; (try dsimp only at hSw); go_split_ands; go_simp; (try with_reducible rfl))
      case rest8 =>
      refine wpAnyH_ready (rs := [4]) (by kernel_rfl) (by simp) ?_
      refine AllReadyH.cons rfl (fun K hK => ?step9) ?more9
      case step9 =>
        go_simp
        go_at_call 115
        refine (HD0.out _).mono ?_
        rintro e x1 ⟨rfl, hbc⟩
        replace hX6 := hX6.kept hbc
        replace hB := hB.trans (hbc.mono hB.size)
        clear hbc
        go_wp2_with fail
        refine hK.out _ _ (HK.out _ hB) (fun hHeld => ?_)
        clear hK K
        refine wpAnyH_take (i := 5) (v := ?v10) rfl (by kernel_rfl) (by kernel_rfl) (by kernel_rfl) (fun _ _ _ h => h) (Or.inl ⟨by rfl, ?hy10⟩) (by assumption) ?rest10
        case hy10 => (intro wq hSw; (try dsimp only at hSw); go_split_ands; go_simp; (try with_reducible rfl))
        case rest10 =>
        refine wpAnyH_ready (rs := [10]) (by kernel_rfl) (by simp) ?_
        refine AllReadyH.cons rfl (fun K hK => ?step11) ?more11
        case step11 =>
          go_simp
          go_at_call 115
          refine (HD3.out _).mono ?_
          rintro e x2 ⟨rfl, hbc⟩
          replace hX6 := hX6.kept hbc
          replace hB := hB.trans (hbc.mono hB.size)
          clear hbc
          go_wp2_with fail
          refine hK.out _ _ (HK.out _ hB) (fun hHeld => ?_)
          clear hK K
          refine wpAnyH_take (i := 11) (v := ?v12) rfl (by kernel_rfl) (by kernel_rfl) (by kernel_rfl) (fun _ _ _ h => h) (Or.inl ⟨by rfl, ?hy12⟩) (by assumption) ?rest12
          case hy12 => (intro wq hSw; (try dsimp only at hSw); go_split_ands; go_simp; (try with_reducible rfl))
          case rest12 =>
          refine wpAnyH_take (i := 12) (v := ?v13) rfl (by kernel_rfl) (by kernel_rfl) (by kernel_rfl) (fun _ _ _ h => h) (Or.inl ⟨by rfl, ?hy13⟩) (by assumption) ?rest13
          case hy13 => (intro wq hSw; (try dsimp only at hSw); go_split_ands; go_simp; (try with_reducible rfl))
          case rest13 =>
          refine wpAnyH_ready (rs := [13]) (by kernel_rfl) (by simp) ?_
          refine AllReadyH.cons rfl (fun K hK => ?step14) ?more14
          case step14 =>
            have sc0 := hX6.cell 3
            have sf0 := hX6.frozen 3
            simp only [List.getElem?_toArray, List.getElem?_cons_zero, List.getElem?_cons_succ] at sc0
            have hBs := (Below.setCell hB (p := ⟨G, 3, none⟩) hXA6 (.int .i64 (60 * dA + dB)))
            have hXs := (Bx.set_ hX6 3 (.int .i64 (60 * dA + dB)))
            go_simp
            refine hK.out _ _ (HK.out _ hBs) (fun hHeld => ?_)
            clear hK K
            clear hB hX6 sc0 sf0
            generalize (x2.setCell ⟨G, 3, none⟩ (.int .i64 (60 * dA + dB))) = x3 at *
            have hB := hBs
            have hX6 := hXs
            clear hBs hXs
            simp at hX6
            refine wpAnyH_done (by kernel_rfl) ?_ _
            rw [← HTI.out] at hX6
            have HR := Lib.hid (HRw.out.kept hB)
            have HN0 := Lib.hid (HNw.out.kept hB)
            have hb := hbw.trans (hB.mono hbw.size)
            have HBG := Lib.hid hX6
            clear hX6
            cases one with
            | false =>
              have HNo := Lib.hid (HB0.out rfl)
              have m0 := HN0.out.cell 0
              have m1 := HN0.out.cell 1
              have m2 := HN0.out.cell 2
              have m3 := HN0.out.cell 3
              simp only [List.getElem?_toArray, List.getElem?_cons_zero, List.getElem?_cons_succ] at m0 m1 m2 m3
              have r0 := HR.out.cell 0
              have r1 := HR.out.cell 1
              have r2 := HR.out.cell 2
              have r3 := HR.out.cell 3
              simp only [List.getElem?_toArray, List.getElem?_cons_zero, List.getElem?_cons_succ] at r0 r1 r2 r3
              have f0 := HR.out.frozen 0
              have f1 := HR.out.frozen 1
              have f2 := HR.out.frozen 2
              have f3 := HR.out.frozen 3
              have HRS := Lib.hid (show Bx _ _ 52 #[.int .i64 0, .string ⟨#[]⟩, .int .i64 0, .int .i64 0] from (Bx.set_ (Bx.set_ (Bx.set_ (Bx.set_ HR.out 0 (.int .i64 0)) 1 (.string ⟨#[]⟩)) 2 (.int .i64 0)) 3 (.int .i64 0)))
              have hbs := ((((hb.setCell (p := ⟨w.heap.size, 0, none⟩) hRw (.int .i64 0)).setCell (p := ⟨w.heap.size, 1, none⟩) hRw (.string ⟨#[]⟩)).setCell (p := ⟨w.heap.size, 2, none⟩) hRw (.int .i64 0)).setCell (p := ⟨w.heap.size, 3, none⟩) hRw (.int .i64 0))
              go_wp2_with fail
              clear r0 r1 r2 r3 f0 f1 f2 f3
              generalize (((x3.setCell ⟨w.heap.size, 0, none⟩ (.int .i64 0)).setCell ⟨w.heap.size, 1, none⟩ (.string ⟨#[]⟩)).setCell ⟨w.heap.size, 2, none⟩ (.int .i64 0)).setCell ⟨w.heap.size, 3, none⟩ (.int .i64 0) = wz at *
              have r0 := HRS.out.cell 0
              have r1 := HRS.out.cell 1
              have r2 := HRS.out.cell 2
              have r3 := HRS.out.cell 3
              simp only [List.getElem?_toArray, List.getElem?_cons_zero, List.getElem?_cons_succ] at r0 r1 r2 r3
              (try simp only [Exit.inBlock, Exit.then])
              refine bodyPost_ret (v := .tuple #[.agg #[.int .i64 0, .string ⟨#[]⟩, .int .i64 0, .int .i64 0], .bool false]) (by rw [results_cell_tmp rfl]; go_simp) rfl ?_
              exact ⟨⟨0, ⟨#[]⟩, 0, 0⟩, false, rfl, (fun h => by cases h), fun _ => HNo.out, hbs⟩
            | true =>
            cases two with
            | false =>
              have HNo := Lib.hid (HB2.out rfl)
              have m0 := HN0.out.cell 0
              have m1 := HN0.out.cell 1
              have m2 := HN0.out.cell 2
              have m3 := HN0.out.cell 3
              simp only [List.getElem?_toArray, List.getElem?_cons_zero, List.getElem?_cons_succ] at m0 m1 m2 m3
              have r0 := HR.out.cell 0
              have r1 := HR.out.cell 1
              have r2 := HR.out.cell 2
              have r3 := HR.out.cell 3
              simp only [List.getElem?_toArray, List.getElem?_cons_zero, List.getElem?_cons_succ] at r0 r1 r2 r3
              have f0 := HR.out.frozen 0
              have f1 := HR.out.frozen 1
              have f2 := HR.out.frozen 2
              have f3 := HR.out.frozen 3
              have HRS := Lib.hid (show Bx _ _ 52 #[.int .i64 0, .string ⟨#[]⟩, .int .i64 0, .int .i64 0] from (Bx.set_ (Bx.set_ (Bx.set_ (Bx.set_ HR.out 0 (.int .i64 0)) 1 (.string ⟨#[]⟩)) 2 (.int .i64 0)) 3 (.int .i64 0)))
              have hbs := ((((hb.setCell (p := ⟨w.heap.size, 0, none⟩) hRw (.int .i64 0)).setCell (p := ⟨w.heap.size, 1, none⟩) hRw (.string ⟨#[]⟩)).setCell (p := ⟨w.heap.size, 2, none⟩) hRw (.int .i64 0)).setCell (p := ⟨w.heap.size, 3, none⟩) hRw (.int .i64 0))
              go_wp2_with fail
              clear r0 r1 r2 r3 f0 f1 f2 f3
              generalize (((x3.setCell ⟨w.heap.size, 0, none⟩ (.int .i64 0)).setCell ⟨w.heap.size, 1, none⟩ (.string ⟨#[]⟩)).setCell ⟨w.heap.size, 2, none⟩ (.int .i64 0)).setCell ⟨w.heap.size, 3, none⟩ (.int .i64 0) = wz at *
              have r0 := HRS.out.cell 0
              have r1 := HRS.out.cell 1
              have r2 := HRS.out.cell 2
              have r3 := HRS.out.cell 3
              simp only [List.getElem?_toArray, List.getElem?_cons_zero, List.getElem?_cons_succ] at r0 r1 r2 r3
              (try simp only [Exit.inBlock, Exit.then])
              refine bodyPost_ret (v := .tuple #[.agg #[.int .i64 0, .string ⟨#[]⟩, .int .i64 0, .int .i64 0], .bool false]) (by rw [results_cell_tmp rfl]; go_simp) rfl ?_
              exact ⟨⟨0, ⟨#[]⟩, 0, 0⟩, false, rfl, (fun h => by cases h), fun _ => HNo.out, hbs⟩
            | true =>
            have c0 := HBG.out.cell 0
            have c1 := HBG.out.cell 1
            have c2 := HBG.out.cell 2
            have c3 := HBG.out.cell 3
            simp only [List.getElem?_toArray, List.getElem?_cons_zero, List.getElem?_cons_succ] at c0 c1 c2 c3
            obtain ⟨wb, hwb⟩ : ∃ wb : World, wb = x3.alloc (Obj.cells #[.int .i64 I, .string X1, .int .i64 Mi, .int .i64 ti] 52) := ⟨_, rfl⟩
            have hbb : Below x3.heap.size x3 wb := by rw [hwb]; exact (Below.refl _ _).alloc (Nat.le_refl _) _
            have HIS := Lib.hid (show Is LAgendaItem.rec wb (.slice (some ⟨x3.heap.size, 0, none⟩) 1 1) [(⟨I, X1, Mi, ti⟩ : M)] by rw [hwb]; exact (IsS.unit LAgendaItem.rec (by simp) (LAgendaItem.box x3 ⟨I, X1, Mi, ti⟩ 52)).is)
            have HGD := Lib.hid (AgG.l5Good _ [(⟨I, X1, Mi, ti⟩ : M)] wb HIS.out (fun x hx => by rw [List.mem_singleton.1 hx]; show X1.size ≤ maxLen; unfold maxLen; omega))
            unfold AgG.Post at HGD
            rw [good_one] at HGD
            have HBGb := Lib.hid (HBG.out.kept hbb)
            have HRb := Lib.hid (HR.out.kept hbb)
            have HNb := Lib.hid (HN0.out.kept hbb)
            have hbB := hb.trans (hbb.mono hb.size)
            cases gk : okB ⟨I, X1, Mi, ti⟩ with
            | false =>
              have HNo := Lib.hid (show ∀ q, ¬ P s.data.toList q from fun q hq => by have h := HF.out q hq; have h2 := hq.1; rw [← h, gk] at h2; cases h2)
              rw [gk] at HGD
              clear gk HR HN0 hb hbb HIS
              go_wp2_with fail
              rw [← hwb]
              clear hwb c0 c1 c2 c3
              refine HGD.out.mono ?_
              rintro e wv ⟨rfl, hb1⟩
              have HR := Lib.hid (HRb.out.kept hb1)
              have HN0 := Lib.hid (HNb.out.kept hb1)
              have hb := hbB.trans (hb1.mono hbB.size)
              clear hb1 HRb HNb hbB
              have m0 := HN0.out.cell 0
              have m1 := HN0.out.cell 1
              have m2 := HN0.out.cell 2
              have m3 := HN0.out.cell 3
              simp only [List.getElem?_toArray, List.getElem?_cons_zero, List.getElem?_cons_succ] at m0 m1 m2 m3
              have r0 := HR.out.cell 0
              have r1 := HR.out.cell 1
              have r2 := HR.out.cell 2
              have r3 := HR.out.cell 3
              simp only [List.getElem?_toArray, List.getElem?_cons_zero, List.getElem?_cons_succ] at r0 r1 r2 r3
              have f0 := HR.out.frozen 0
              have f1 := HR.out.frozen 1
              have f2 := HR.out.frozen 2
              have f3 := HR.out.frozen 3
              have HRS := Lib.hid (show Bx _ _ 52 #[.int .i64 0, .string ⟨#[]⟩, .int .i64 0, .int .i64 0] from (Bx.set_ (Bx.set_ (Bx.set_ (Bx.set_ HR.out 0 (.int .i64 0)) 1 (.string ⟨#[]⟩)) 2 (.int .i64 0)) 3 (.int .i64 0)))
              have hbs := ((((hb.setCell (p := ⟨w.heap.size, 0, none⟩) hRw (.int .i64 0)).setCell (p := ⟨w.heap.size, 1, none⟩) hRw (.string ⟨#[]⟩)).setCell (p := ⟨w.heap.size, 2, none⟩) hRw (.int .i64 0)).setCell (p := ⟨w.heap.size, 3, none⟩) hRw (.int .i64 0))
              go_wp2_with fail
              clear r0 r1 r2 r3 f0 f1 f2 f3
              generalize (((wv.setCell ⟨w.heap.size, 0, none⟩ (.int .i64 0)).setCell ⟨w.heap.size, 1, none⟩ (.string ⟨#[]⟩)).setCell ⟨w.heap.size, 2, none⟩ (.int .i64 0)).setCell ⟨w.heap.size, 3, none⟩ (.int .i64 0) = wz at *
              have r0 := HRS.out.cell 0
              have r1 := HRS.out.cell 1
              have r2 := HRS.out.cell 2
              have r3 := HRS.out.cell 3
              simp only [List.getElem?_toArray, List.getElem?_cons_zero, List.getElem?_cons_succ] at r0 r1 r2 r3
              (try simp only [Exit.inBlock, Exit.then])
              refine bodyPost_ret (v := .tuple #[.agg #[.int .i64 0, .string ⟨#[]⟩, .int .i64 0, .int .i64 0], .bool false]) (by rw [results_cell_tmp rfl]; go_simp) rfl ?_
              exact ⟨⟨0, ⟨#[]⟩, 0, 0⟩, false, rfl, (fun h => by cases h), fun _ => HNo.out, hbs⟩
            | true =>
              have HOK := Lib.hid gk
              have HIL := Lib.hid (fun W => AgX.l5Line ⟨I, X1, Mi, ti⟩ W gk)
              rw [gk] at HGD
              obtain ⟨LM, hLM⟩ : ∃ LM, LM = lineM ⟨I, X1, Mi, ti⟩ := ⟨_, rfl⟩
              have HLM := Lib.hid hLM
              rw [← hLM] at HIL
              clear gk hLM HR HN0 hb hbb HIS
              go_wp2_with fail
              rw [← hwb]
              clear hwb c0 c1 c2 c3
              refine HGD.out.mono ?_
              rintro e wv ⟨rfl, hb1⟩
              have HR2 := Lib.hid (HRb.out.kept hb1)
              have HN2 := Lib.hid (HNb.out.kept hb1)
              have HBG2 := Lib.hid (HBGb.out.kept hb1)
              have hb2 := hbB.trans (hb1.mono hbB.size)
              clear hb1 HRb HNb hbB HBGb HBG
              have c0 := HBG2.out.cell 0
              have c1 := HBG2.out.cell 1
              have c2 := HBG2.out.cell 2
              have c3 := HBG2.out.cell 3
              simp only [List.getElem?_toArray, List.getElem?_cons_zero, List.getElem?_cons_succ] at c0 c1 c2 c3
              go_wp2_with fail
              refine (HIL.out _).mono ?_
              rintro e wl ⟨rfl, hb1⟩
              have HR := Lib.hid (HR2.out.kept hb1)
              have HN0 := Lib.hid (HN2.out.kept hb1)
              have HBG := Lib.hid (HBG2.out.kept hb1)
              have hb := hb2.trans (hb1.mono hb2.size)
              clear hb1 HR2 HN2 HBG2 hb2 c0 c1 c2 c3
              cases he : (LM.toList == s.toList) with
              | true =>
                have HPy := Lib.hid (show P s.data.toList ⟨I, X1, Mi, ti⟩ from ⟨HOK.out, by rw [← HLM.out]; exact (eq_list he).1 rfl⟩)
                have c0 := HBG.out.cell 0
                have c1 := HBG.out.cell 1
                have c2 := HBG.out.cell 2
                have c3 := HBG.out.cell 3
                simp only [List.getElem?_toArray, List.getElem?_cons_zero, List.getElem?_cons_succ] at c0 c1 c2 c3
                have r0 := HR.out.cell 0
                have r1 := HR.out.cell 1
                have r2 := HR.out.cell 2
                have r3 := HR.out.cell 3
                simp only [List.getElem?_toArray, List.getElem?_cons_zero, List.getElem?_cons_succ] at r0 r1 r2 r3
                have f0 := HR.out.frozen 0
                have f1 := HR.out.frozen 1
                have f2 := HR.out.frozen 2
                have f3 := HR.out.frozen 3
                have HRS := Lib.hid (show Bx _ _ 52 #[.int .i64 I, .string X1, .int .i64 Mi, .int .i64 ti] from (Bx.set_ (Bx.set_ (Bx.set_ (Bx.set_ HR.out 0 (.int .i64 I)) 1 (.string X1)) 2 (.int .i64 Mi)) 3 (.int .i64 ti)))
                have hbs := ((((hb.setCell (p := ⟨w.heap.size, 0, none⟩) hRw (.int .i64 I)).setCell (p := ⟨w.heap.size, 1, none⟩) hRw (.string X1)).setCell (p := ⟨w.heap.size, 2, none⟩) hRw (.int .i64 Mi)).setCell (p := ⟨w.heap.size, 3, none⟩) hRw (.int .i64 ti))
                go_wp2_with fail
                clear r0 r1 r2 r3 f0 f1 f2 f3
                generalize (((wl.setCell ⟨w.heap.size, 0, none⟩ (.int .i64 I)).setCell ⟨w.heap.size, 1, none⟩ (.string X1)).setCell ⟨w.heap.size, 2, none⟩ (.int .i64 Mi)).setCell ⟨w.heap.size, 3, none⟩ (.int .i64 ti) = wz at *
                have r0 := HRS.out.cell 0
                have r1 := HRS.out.cell 1
                have r2 := HRS.out.cell 2
                have r3 := HRS.out.cell 3
                simp only [List.getElem?_toArray, List.getElem?_cons_zero, List.getElem?_cons_succ] at r0 r1 r2 r3
                (try simp only [Exit.inBlock, Exit.then])
                refine bodyPost_ret (v := .tuple #[.agg #[.int .i64 I, .string X1, .int .i64 Mi, .int .i64 ti], .bool true]) (by rw [results_cell_tmp rfl]; go_simp) rfl ?_
                exact ⟨⟨I, X1, Mi, ti⟩, true, rfl, fun _ => HPy.out, (fun h => by cases h), hbs⟩
              | false =>
                have HNo := Lib.hid (show ∀ q, ¬ P s.data.toList q from fun q hq => (eq_list he).2 rfl (by rw [HLM.out, HF.out q hq]; exact hq.2))
                have m0 := HN0.out.cell 0
                have m1 := HN0.out.cell 1
                have m2 := HN0.out.cell 2
                have m3 := HN0.out.cell 3
                simp only [List.getElem?_toArray, List.getElem?_cons_zero, List.getElem?_cons_succ] at m0 m1 m2 m3
                have r0 := HR.out.cell 0
                have r1 := HR.out.cell 1
                have r2 := HR.out.cell 2
                have r3 := HR.out.cell 3
                simp only [List.getElem?_toArray, List.getElem?_cons_zero, List.getElem?_cons_succ] at r0 r1 r2 r3
                have f0 := HR.out.frozen 0
                have f1 := HR.out.frozen 1
                have f2 := HR.out.frozen 2
                have f3 := HR.out.frozen 3
                have HRS := Lib.hid (show Bx _ _ 52 #[.int .i64 0, .string ⟨#[]⟩, .int .i64 0, .int .i64 0] from (Bx.set_ (Bx.set_ (Bx.set_ (Bx.set_ HR.out 0 (.int .i64 0)) 1 (.string ⟨#[]⟩)) 2 (.int .i64 0)) 3 (.int .i64 0)))
                have hbs := ((((hb.setCell (p := ⟨w.heap.size, 0, none⟩) hRw (.int .i64 0)).setCell (p := ⟨w.heap.size, 1, none⟩) hRw (.string ⟨#[]⟩)).setCell (p := ⟨w.heap.size, 2, none⟩) hRw (.int .i64 0)).setCell (p := ⟨w.heap.size, 3, none⟩) hRw (.int .i64 0))
                go_wp2_with fail
                clear r0 r1 r2 r3 f0 f1 f2 f3
                generalize (((wl.setCell ⟨w.heap.size, 0, none⟩ (.int .i64 0)).setCell ⟨w.heap.size, 1, none⟩ (.string ⟨#[]⟩)).setCell ⟨w.heap.size, 2, none⟩ (.int .i64 0)).setCell ⟨w.heap.size, 3, none⟩ (.int .i64 0) = wz at *
                have r0 := HRS.out.cell 0
                have r1 := HRS.out.cell 1
                have r2 := HRS.out.cell 2
                have r3 := HRS.out.cell 3
                simp only [List.getElem?_toArray, List.getElem?_cons_zero, List.getElem?_cons_succ] at r0 r1 r2 r3
                (try simp only [Exit.inBlock, Exit.then])
                refine bodyPost_ret (v := .tuple #[.agg #[.int .i64 0, .string ⟨#[]⟩, .int .i64 0, .int .i64 0], .bool false]) (by rw [results_cell_tmp rfl]; go_simp) rfl ?_
                exact ⟨⟨0, ⟨#[]⟩, 0, 0⟩, false, rfl, (fun h => by cases h), fun _ => HNo.out, hbs⟩
          case more14 => exact AllReadyH.nil
        case more11 => exact AllReadyH.nil
      case more9 => exact AllReadyH.nil
end Go.Proofs.YtgemnjimgjnlhaaGreatDoor.PAgP
