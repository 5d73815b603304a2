/- Two amendments that conflict: the tests of the model and of the program. No condition. -/
import Derived.Test.YtclpdpfnlmfogaaDoorJ1
import Derived.Test.YtclpdpfnlmfogaaDoorAppO
import Derived.Deep.DeepCutAuto
import Derived.Deep.DrawnRows
namespace Go.Proofs.YtclpdpfnlmfogaaDoor.CfD
open Go.RowKit Bs Word Am AmA AmG Cf
set_option linter.unusedVariables false
theorem most (a b : Int) (w : World) : Calls Tryd.prog 95 #[.int .i64 a, .int .i64 b] w fun e w' => e = .returned (.int .i64 (mostI a b)) ∧ w = w' := by
  by_cases h : b < a
  · have HM := Lib.hid (show mostI a b = a from if_pos h)
    go_enter Tryd.func95, Tryd.ntmps95
    go_wp2_with fail
    go_ret
    exact ⟨by rw [HM.out]; rfl, rfl⟩
  · have HM := Lib.hid (show mostI a b = b from if_neg h)
    go_enter Tryd.func95, Tryd.ntmps95
    go_wp2_with fail
    go_ret
    exact ⟨by rw [HM.out]; rfl, rfl⟩
theorem least (a b : Int) (w : World) : Calls Tryd.prog 90 #[.int .i64 a, .int .i64 b] w fun e w' => e = .returned (.int .i64 (leastI a b)) ∧ w = w' := by
  by_cases h : a < b
  · have HM := Lib.hid (show leastI a b = a from if_pos h)
    go_enter Tryd.func90, Tryd.ntmps90
    go_wp2_with fail
    go_ret
    exact ⟨by rw [HM.out]; rfl, rfl⟩
  · have HM := Lib.hid (show leastI a b = b from if_neg h)
    go_enter Tryd.func90, Tryd.ntmps90
    go_wp2_with fail
    go_ret
    exact ⟨by rw [HM.out]; rfl, rfl⟩
set_option maxRecDepth 100000 in
set_option maxHeartbeats 1600000 in
theorem inserts (v : Value) (r : M) (bv : Bool) (hv : insB r = bv) (w : World) (h0 : LAmendment.Is w v r) :
    Calls Tryd.prog 96 #[v] w fun e w' => e = .returned (.bool bv) ∧ Below w.heap.size w w' := by
  subst hv
  obtain ⟨a3, n3, c3, rfl, HN3, hb3, hm3, HIW0⟩ := open_is h0
  clear h0
  obtain ⟨W, hW⟩ : ∃ W : World, W = w.alloc (Obj.cells #[.int .i64 r.kind, .int .i64 r.pos, .int .i64 r.count, .slice a3 n3 c3] 26) := ⟨_, rfl⟩
  have hb : Below w.heap.size w W := by rw [hW]; exact (Below.refl _ _).alloc (Nat.le_refl _) _
  have B0 := Lib.hid (show Bx W w.heap.size 26 #[.int .i64 r.kind, .int .i64 r.pos, .int .i64 r.count, .slice a3 n3 c3] by rw [hW]; exact Bx.new _ _ _)
  have q3 := B0.out.cell 3
  simp only [List.getElem?_toArray, List.getElem?_cons_zero, List.getElem?_cons_succ] at q3
  have HV := Lib.hid (show insB r = decide (0 < n3) by unfold insB; rw [HN3.out])
  go_enter Tryd.func96, Tryd.ntmps96
  go_wp2_with fail
  rw [← hW]
  clear hW
  go_ret
  exact ⟨ret_bool HV.out.symm, hb⟩
set_option maxRecDepth 100000 in
set_option maxHeartbeats 1600000 in
theorem inside (p : Int) (v : Value) (r : M) (bv : Bool) (hv : insideB p r = bv) (w : World) (h0 : LAmendment.Is w v r) (hr : (0 ≤ r.pos ∧ r.pos ≤ 20) ∧ 0 ≤ r.count ∧ r.count ≤ 5) :
    Calls Tryd.prog 97 #[.int .i64 p, v] w fun e w' => e = .returned (.bool bv) ∧ Below w.heap.size w w' := by
  subst hv
  obtain ⟨⟨r1, r2⟩, r3, r4⟩ := hr
  obtain ⟨a3, n3, c3, rfl, HN3, hb3, hm3, HIW0⟩ := open_is h0
  clear h0
  obtain ⟨W, hW⟩ : ∃ W : World, W = w.alloc (Obj.cells #[.int .i64 r.kind, .int .i64 r.pos, .int .i64 r.count, .slice a3 n3 c3] 26) := ⟨_, rfl⟩
  have hb : Below w.heap.size w W := by rw [hW]; exact (Below.refl _ _).alloc (Nat.le_refl _) _
  have B0 := Lib.hid (show Bx W w.heap.size 26 #[.int .i64 r.kind, .int .i64 r.pos, .int .i64 r.count, .slice a3 n3 c3] by rw [hW]; exact Bx.new _ _ _)
  have q1 := B0.out.cell 1
  have q2 := B0.out.cell 2
  simp only [List.getElem?_toArray, List.getElem?_cons_zero, List.getElem?_cons_succ] at q1 q2
  have s0 : IntKind.i64.wrap (r.pos + r.count) = r.pos + r.count := IntWalk.i64_in _ (by omega)
  by_cases g : r.pos < p
  · have HV := Lib.hid (show insideB p r = decide (p < r.pos + r.count) by unfold insideB; rw [decide_eq_true g]; rfl)
    go_enter Tryd.func97, Tryd.ntmps97
    go_wp2_with fail
    rw [← hW]
    clear hW
    go_ret
    exact ⟨ret_bool HV.out.symm, hb⟩
  · have HV := Lib.hid (show insideB p r = false by unfold insideB; rw [decide_eq_false g]; rfl)
    go_enter Tryd.func97, Tryd.ntmps97
    go_wp2_with fail
    rw [← hW]
    clear hW
    go_ret
    exact ⟨ret_bool HV.out.symm, hb⟩
attribute [local go_sem ↓] Go.wp_at_zero Go.wp_at_succ in
set_option maxRecDepth 100000 in
set_option maxHeartbeats 1600000 in
theorem l10Conflict (v v' : Value) (a b : M) (w : World) (h0 : LAmendment.Is w v a) (h1 : LAmendment.Is w v' b) (ga : good a = true) (gb : good b = true) :
    Calls Tryd.prog 56 #[v, v'] w fun e w' => e = .returned (.bool (confB a b)) ∧ Below w.heap.size w w' := by
  obtain ⟨a3, n3, c3, rfl, HN3, hb3, hm3, HIA⟩ := AmG.open_is h0
  obtain ⟨a4, n4, c4, rfl, HN4, hb4, hm4, HIB⟩ := AmG.open_is h1
  have HIA0 := Lib.hid h0
  have HIB0 := Lib.hid h1
  clear h0 h1
  obtain ⟨W, hW⟩ : ∃ W : World, W = (w.alloc (Obj.cells #[.int .i64 a.kind, .int .i64 a.pos, .int .i64 a.count, .slice a3 n3 c3] 26)).alloc (Obj.cells #[.int .i64 b.kind, .int .i64 b.pos, .int .i64 b.count, .slice a4 n4 c4] 26) := ⟨_, rfl⟩
  have hb : Below w.heap.size w W := by rw [hW]; exact ((Below.refl _ _).alloc (Nat.le_refl _) _).alloc (by simp) _
  have B0 := Lib.hid (show Bx W w.heap.size 26 #[.int .i64 a.kind, .int .i64 a.pos, .int .i64 a.count, .slice a3 n3 c3] by rw [hW]; exact (Bx.new w 26 #[.int .i64 a.kind, .int .i64 a.pos, .int .i64 a.count, .slice a3 n3 c3]).alloc _)
  have B1 := Lib.hid (show Bx W (w.heap.size + 1) 26 #[.int .i64 b.kind, .int .i64 b.pos, .int .i64 b.count, .slice a4 n4 c4] by rw [hW]; have := Bx.new (w.alloc (Obj.cells #[.int .i64 a.kind, .int .i64 a.pos, .int .i64 a.count, .slice a3 n3 c3] 26)) 26 #[.int .i64 b.kind, .int .i64 b.pos, .int .i64 b.count, .slice a4 n4 c4]; simpa using this)
  have HZ := Lib.hid (show w.heap.size + 2 ≤ W.heap.size by rw [hW]; simp)
  have HA := Lib.hid (fun bv (hv : insB a = bv) W' (hb' : Below w.heap.size w W') => inserts _ a bv hv W' (LAmendment.Is.below HIA0.out hb'))
  have HBi := Lib.hid (fun bv (hv : insB b = bv) W' (hb' : Below w.heap.size w W') => inserts _ b bv hv W' (LAmendment.Is.below HIB0.out hb'))
  have HAB := Lib.hid (fun bv (hv : insideB a.pos b = bv) W' (hb' : Below w.heap.size w W') => inside a.pos _ b bv hv W' (LAmendment.Is.below HIB0.out hb') ⟨(good_parts gb).1, (good_parts gb).2.2.2⟩)
  have HBA := Lib.hid (fun bv (hv : insideB b.pos a = bv) W' (hb' : Below w.heap.size w W') => inside b.pos _ a bv hv W' (LAmendment.Is.below HIA0.out hb') ⟨(good_parts ga).1, (good_parts ga).2.2.2⟩)
  obtain ⟨⟨a1, a2⟩, -, -, a5, a6⟩ := good_parts ga
  obtain ⟨⟨b1, b2⟩, -, -, b5, b6⟩ := good_parts gb
  clear ga gb
  have s0 : IntKind.i64.wrap (a.pos + a.count) = a.pos + a.count := IntWalk.i64_in _ (by omega)
  have s1 : IntKind.i64.wrap (b.pos + b.count) = b.pos + b.count := IntWalk.i64_in _ (by omega)
  have q0 := B0.out.cell 0
  have q1 := B0.out.cell 1
  have q2 := B0.out.cell 2
  have q3 := B0.out.cell 3
  simp only [List.getElem?_toArray, List.getElem?_cons_zero, List.getElem?_cons_succ] at q0 q1 q2 q3
  have p0 := B1.out.cell 0
  have p1 := B1.out.cell 1
  have p2 := B1.out.cell 2
  have p3 := B1.out.cell 3
  simp only [List.getElem?_toArray, List.getElem?_cons_zero, List.getElem?_cons_succ] at p0 p1 p2 p3
  go_enter Tryd.func56, Tryd.ntmps56
  go_upto_region 1 with fail
  rw [← hW]
  clear hW q0 q1 q2 q3 p0 p1 p2 p3
  go_cut [5] (fun t wx => t = .bool (overB a b) ∧ Below W.heap.size W wx)
  case first =>
    have q0 := fun d os => (B0.out.kept (below_regrown W d os)).cell 0
    have q1 := fun d os => (B0.out.kept (below_regrown W d os)).cell 1
    have q2 := fun d os => (B0.out.kept (below_regrown W d os)).cell 2
    have q3 := fun d os => (B0.out.kept (below_regrown W d os)).cell 3
    simp only [List.getElem?_toArray, List.getElem?_cons_zero, List.getElem?_cons_succ] at q0 q1 q2 q3
    have p0 := fun d os => (B1.out.kept (below_regrown W d os)).cell 0
    have p1 := fun d os => (B1.out.kept (below_regrown W d os)).cell 1
    have p2 := fun d os => (B1.out.kept (below_regrown W d os)).cell 2
    have p3 := fun d os => (B1.out.kept (below_regrown W d os)).cell 3
    simp only [List.getElem?_toArray, List.getElem?_cons_zero, List.getElem?_cons_succ] at p0 p1 p2 p3
    refine wp_region_quiet_below (by kernel_rfl) (by kernel_rfl) ?_
    repeat (go_big_quiet_step ((first | (go_at_call 95; exact regrown_eq (most _ _ _)) | (go_at_call 90; exact regrown_eq (least _ _ _)) | fail)))
    refine wpQuiet_nil ?_
    intro _ hw'
    obtain ⟨⟨dq, osq⟩, hw''⟩ := hw'
    subst hw''
    go_wp2_with fail
    go_meet
    exact ⟨rfl, below_regrown W dq osq⟩
  case rest =>
  obtain ⟨rfl, hbv⟩ := hcut
  replace B0 := Lib.hid (B0.out.kept hbv)
  replace B1 := Lib.hid (B1.out.kept hbv)
  replace hb := hb.trans (hbv.mono hb.size)
  clear hbv
  have q0 := B0.out.cell 0
  have q1 := B0.out.cell 1
  have q2 := B0.out.cell 2
  have q3 := B0.out.cell 3
  simp only [List.getElem?_toArray, List.getElem?_cons_zero, List.getElem?_cons_succ] at q0 q1 q2 q3
  have p0 := B1.out.cell 0
  have p1 := B1.out.cell 1
  have p2 := B1.out.cell 2
  have p3 := B1.out.cell 3
  simp only [List.getElem?_toArray, List.getElem?_cons_zero, List.getElem?_cons_succ] at p0 p1 p2 p3
  cases gO : overB a b with
  | true =>
    have HO := Lib.hid (conf_over gO)
    go_wp2_with fail
    go_ret
    exact ⟨ret_bool HO.out.symm, hb⟩
  | false =>
  have HO := Lib.hid gO
  clear gO
  cases g1 : insB a with
  | true =>
    cases g2 : insideB a.pos b with
    | true =>
      go_wp2_with fail
      refine (HA.out _ g1 _ hb).mono ?_
      rintro e w1 ⟨rfl, hb1⟩
      replace B0 := Lib.hid (B0.out.kept hb1)
      replace B1 := Lib.hid (B1.out.kept hb1)
      replace hb := hb.trans (hb1.mono hb.size)
      clear hb1 q0 q1 q2 q3 p0 p1 p2 p3
      have q0 := B0.out.cell 0
      have q1 := B0.out.cell 1
      have q2 := B0.out.cell 2
      have q3 := B0.out.cell 3
      simp only [List.getElem?_toArray, List.getElem?_cons_zero, List.getElem?_cons_succ] at q0 q1 q2 q3
      have p0 := B1.out.cell 0
      have p1 := B1.out.cell 1
      have p2 := B1.out.cell 2
      have p3 := B1.out.cell 3
      simp only [List.getElem?_toArray, List.getElem?_cons_zero, List.getElem?_cons_succ] at p0 p1 p2 p3
      go_wp2_with fail
      refine (HAB.out _ g2 _ hb).mono ?_
      rintro e w1 ⟨rfl, hb1⟩
      replace B0 := Lib.hid (B0.out.kept hb1)
      replace B1 := Lib.hid (B1.out.kept hb1)
      replace hb := hb.trans (hb1.mono hb.size)
      clear hb1 q0 q1 q2 q3 p0 p1 p2 p3
      have q0 := B0.out.cell 0
      have q1 := B0.out.cell 1
      have q2 := B0.out.cell 2
      have q3 := B0.out.cell 3
      simp only [List.getElem?_toArray, List.getElem?_cons_zero, List.getElem?_cons_succ] at q0 q1 q2 q3
      have p0 := B1.out.cell 0
      have p1 := B1.out.cell 1
      have p2 := B1.out.cell 2
      have p3 := B1.out.cell 3
      simp only [List.getElem?_toArray, List.getElem?_cons_zero, List.getElem?_cons_succ] at p0 p1 p2 p3
      go_wp2_with fail
      go_ret
      exact ⟨ret_bool (conf_in HO.out (by simp [g1, g2])).symm, hb⟩
    | false =>
    cases g3 : insB b with
    | true =>
      cases g4 : insideB b.pos a with
      | true =>
        go_wp2_with fail
        refine (HA.out _ g1 _ hb).mono ?_
        rintro e w1 ⟨rfl, hb1⟩
        replace B0 := Lib.hid (B0.out.kept hb1)
        replace B1 := Lib.hid (B1.out.kept hb1)
        replace hb := hb.trans (hb1.mono hb.size)
        clear hb1 q0 q1 q2 q3 p0 p1 p2 p3
        have q0 := B0.out.cell 0
        have q1 := B0.out.cell 1
        have q2 := B0.out.cell 2
        have q3 := B0.out.cell 3
        simp only [List.getElem?_toArray, List.getElem?_cons_zero, List.getElem?_cons_succ] at q0 q1 q2 q3
        have p0 := B1.out.cell 0
        have p1 := B1.out.cell 1
        have p2 := B1.out.cell 2
        have p3 := B1.out.cell 3
        simp only [List.getElem?_toArray, List.getElem?_cons_zero, List.getElem?_cons_succ] at p0 p1 p2 p3
        go_wp2_with fail
        refine (HAB.out _ g2 _ hb).mono ?_
        rintro e w1 ⟨rfl, hb1⟩
        replace B0 := Lib.hid (B0.out.kept hb1)
        replace B1 := Lib.hid (B1.out.kept hb1)
        replace hb := hb.trans (hb1.mono hb.size)
        clear hb1 q0 q1 q2 q3 p0 p1 p2 p3
        have q0 := B0.out.cell 0
        have q1 := B0.out.cell 1
        have q2 := B0.out.cell 2
        have q3 := B0.out.cell 3
        simp only [List.getElem?_toArray, List.getElem?_cons_zero, List.getElem?_cons_succ] at q0 q1 q2 q3
        have p0 := B1.out.cell 0
        have p1 := B1.out.cell 1
        have p2 := B1.out.cell 2
        have p3 := B1.out.cell 3
        simp only [List.getElem?_toArray, List.getElem?_cons_zero, List.getElem?_cons_succ] at p0 p1 p2 p3
        go_wp2_with fail
        refine (HBi.out _ g3 _ hb).mono ?_
        rintro e w1 ⟨rfl, hb1⟩
        replace B0 := Lib.hid (B0.out.kept hb1)
        replace B1 := Lib.hid (B1.out.kept hb1)
        replace hb := hb.trans (hb1.mono hb.size)
        clear hb1 q0 q1 q2 q3 p0 p1 p2 p3
        have q0 := B0.out.cell 0
        have q1 := B0.out.cell 1
        have q2 := B0.out.cell 2
        have q3 := B0.out.cell 3
        simp only [List.getElem?_toArray, List.getElem?_cons_zero, List.getElem?_cons_succ] at q0 q1 q2 q3
        have p0 := B1.out.cell 0
        have p1 := B1.out.cell 1
        have p2 := B1.out.cell 2
        have p3 := B1.out.cell 3
        simp only [List.getElem?_toArray, List.getElem?_cons_zero, List.getElem?_cons_succ] at p0 p1 p2 p3
        go_wp2_with fail
        refine (HBA.out _ g4 _ hb).mono ?_
        rintro e w1 ⟨rfl, hb1⟩
        replace B0 := Lib.hid (B0.out.kept hb1)
        replace B1 := Lib.hid (B1.out.kept hb1)
        replace hb := hb.trans (hb1.mono hb.size)
        clear hb1 q0 q1 q2 q3 p0 p1 p2 p3
        have q0 := B0.out.cell 0
        have q1 := B0.out.cell 1
        have q2 := B0.out.cell 2
        have q3 := B0.out.cell 3
        simp only [List.getElem?_toArray, List.getElem?_cons_zero, List.getElem?_cons_succ] at q0 q1 q2 q3
        have p0 := B1.out.cell 0
        have p1 := B1.out.cell 1
        have p2 := B1.out.cell 2
        have p3 := B1.out.cell 3
        simp only [List.getElem?_toArray, List.getElem?_cons_zero, List.getElem?_cons_succ] at p0 p1 p2 p3
        go_wp2_with fail
        go_ret
        exact ⟨ret_bool (conf_in HO.out (by simp [g1, g2, g3, g4])).symm, hb⟩
      | false =>
        go_wp2_with fail
        refine (HA.out _ g1 _ hb).mono ?_
        rintro e w1 ⟨rfl, hb1⟩
        replace B0 := Lib.hid (B0.out.kept hb1)
        replace B1 := Lib.hid (B1.out.kept hb1)
        replace hb := hb.trans (hb1.mono hb.size)
        clear hb1 q0 q1 q2 q3 p0 p1 p2 p3
        have q0 := B0.out.cell 0
        have q1 := B0.out.cell 1
        have q2 := B0.out.cell 2
        have q3 := B0.out.cell 3
        simp only [List.getElem?_toArray, List.getElem?_cons_zero, List.getElem?_cons_succ] at q0 q1 q2 q3
        have p0 := B1.out.cell 0
        have p1 := B1.out.cell 1
        have p2 := B1.out.cell 2
        have p3 := B1.out.cell 3
        simp only [List.getElem?_toArray, List.getElem?_cons_zero, List.getElem?_cons_succ] at p0 p1 p2 p3
        go_wp2_with fail
        refine (HAB.out _ g2 _ hb).mono ?_
        rintro e w1 ⟨rfl, hb1⟩
        replace B0 := Lib.hid (B0.out.kept hb1)
        replace B1 := Lib.hid (B1.out.kept hb1)
        replace hb := hb.trans (hb1.mono hb.size)
        clear hb1 q0 q1 q2 q3 p0 p1 p2 p3
        have q0 := B0.out.cell 0
        have q1 := B0.out.cell 1
        have q2 := B0.out.cell 2
        have q3 := B0.out.cell 3
        simp only [List.getElem?_toArray, List.getElem?_cons_zero, List.getElem?_cons_succ] at q0 q1 q2 q3
        have p0 := B1.out.cell 0
        have p1 := B1.out.cell 1
        have p2 := B1.out.cell 2
        have p3 := B1.out.cell 3
        simp only [List.getElem?_toArray, List.getElem?_cons_zero, List.getElem?_cons_succ] at p0 p1 p2 p3
        go_wp2_with fail
        refine (HBi.out _ g3 _ hb).mono ?_
        rintro e w1 ⟨rfl, hb1⟩
        replace B0 := Lib.hid (B0.out.kept hb1)
        replace B1 := Lib.hid (B1.out.kept hb1)
        replace hb := hb.trans (hb1.mono hb.size)
        clear hb1 q0 q1 q2 q3 p0 p1 p2 p3
        have q0 := B0.out.cell 0
        have q1 := B0.out.cell 1
        have q2 := B0.out.cell 2
        have q3 := B0.out.cell 3
        simp only [List.getElem?_toArray, List.getElem?_cons_zero, List.getElem?_cons_succ] at q0 q1 q2 q3
        have p0 := B1.out.cell 0
        have p1 := B1.out.cell 1
        have p2 := B1.out.cell 2
        have p3 := B1.out.cell 3
        simp only [List.getElem?_toArray, List.getElem?_cons_zero, List.getElem?_cons_succ] at p0 p1 p2 p3
        go_wp2_with fail
        refine (HBA.out _ g4 _ hb).mono ?_
        rintro e w1 ⟨rfl, hb1⟩
        replace B0 := Lib.hid (B0.out.kept hb1)
        replace B1 := Lib.hid (B1.out.kept hb1)
        replace hb := hb.trans (hb1.mono hb.size)
        clear hb1 q0 q1 q2 q3 p0 p1 p2 p3
        have q0 := B0.out.cell 0
        have q1 := B0.out.cell 1
        have q2 := B0.out.cell 2
        have q3 := B0.out.cell 3
        simp only [List.getElem?_toArray, List.getElem?_cons_zero, List.getElem?_cons_succ] at q0 q1 q2 q3
        have p0 := B1.out.cell 0
        have p1 := B1.out.cell 1
        have p2 := B1.out.cell 2
        have p3 := B1.out.cell 3
        simp only [List.getElem?_toArray, List.getElem?_cons_zero, List.getElem?_cons_succ] at p0 p1 p2 p3
        go_wp2_with fail
        refine (HA.out _ g1 _ hb).mono ?_
        rintro e w1 ⟨rfl, hb1⟩
        replace B0 := Lib.hid (B0.out.kept hb1)
        replace B1 := Lib.hid (B1.out.kept hb1)
        replace hb := hb.trans (hb1.mono hb.size)
        clear hb1 q0 q1 q2 q3 p0 p1 p2 p3
        have q0 := B0.out.cell 0
        have q1 := B0.out.cell 1
        have q2 := B0.out.cell 2
        have q3 := B0.out.cell 3
        simp only [List.getElem?_toArray, List.getElem?_cons_zero, List.getElem?_cons_succ] at q0 q1 q2 q3
        have p0 := B1.out.cell 0
        have p1 := B1.out.cell 1
        have p2 := B1.out.cell 2
        have p3 := B1.out.cell 3
        simp only [List.getElem?_toArray, List.getElem?_cons_zero, List.getElem?_cons_succ] at p0 p1 p2 p3
        go_wp2_with fail
        refine (HBi.out _ g3 _ hb).mono ?_
        rintro e w1 ⟨rfl, hb1⟩
        replace B0 := Lib.hid (B0.out.kept hb1)
        replace B1 := Lib.hid (B1.out.kept hb1)
        replace hb := hb.trans (hb1.mono hb.size)
        clear hb1 q0 q1 q2 q3 p0 p1 p2 p3
        have q0 := B0.out.cell 0
        have q1 := B0.out.cell 1
        have q2 := B0.out.cell 2
        have q3 := B0.out.cell 3
        simp only [List.getElem?_toArray, List.getElem?_cons_zero, List.getElem?_cons_succ] at q0 q1 q2 q3
        have p0 := B1.out.cell 0
        have p1 := B1.out.cell 1
        have p2 := B1.out.cell 2
        have p3 := B1.out.cell 3
        simp only [List.getElem?_toArray, List.getElem?_cons_zero, List.getElem?_cons_succ] at p0 p1 p2 p3
        go_wp2_with fail
        go_ret
        exact ⟨ret_bool (show confB a b = _ by rw [conf_last HO.out (by simp [g1, g2, g3, g4])]; rw [g1, g3]; rfl).symm, hb⟩
    | false =>
      go_wp2_with fail
      refine (HA.out _ g1 _ hb).mono ?_
      rintro e w1 ⟨rfl, hb1⟩
      replace B0 := Lib.hid (B0.out.kept hb1)
      replace B1 := Lib.hid (B1.out.kept hb1)
      replace hb := hb.trans (hb1.mono hb.size)
      clear hb1 q0 q1 q2 q3 p0 p1 p2 p3
      have q0 := B0.out.cell 0
      have q1 := B0.out.cell 1
      have q2 := B0.out.cell 2
      have q3 := B0.out.cell 3
      simp only [List.getElem?_toArray, List.getElem?_cons_zero, List.getElem?_cons_succ] at q0 q1 q2 q3
      have p0 := B1.out.cell 0
      have p1 := B1.out.cell 1
      have p2 := B1.out.cell 2
      have p3 := B1.out.cell 3
      simp only [List.getElem?_toArray, List.getElem?_cons_zero, List.getElem?_cons_succ] at p0 p1 p2 p3
      go_wp2_with fail
      refine (HAB.out _ g2 _ hb).mono ?_
      rintro e w1 ⟨rfl, hb1⟩
      replace B0 := Lib.hid (B0.out.kept hb1)
      replace B1 := Lib.hid (B1.out.kept hb1)
      replace hb := hb.trans (hb1.mono hb.size)
      clear hb1 q0 q1 q2 q3 p0 p1 p2 p3
      have q0 := B0.out.cell 0
      have q1 := B0.out.cell 1
      have q2 := B0.out.cell 2
      have q3 := B0.out.cell 3
      simp only [List.getElem?_toArray, List.getElem?_cons_zero, List.getElem?_cons_succ] at q0 q1 q2 q3
      have p0 := B1.out.cell 0
      have p1 := B1.out.cell 1
      have p2 := B1.out.cell 2
      have p3 := B1.out.cell 3
      simp only [List.getElem?_toArray, List.getElem?_cons_zero, List.getElem?_cons_succ] at p0 p1 p2 p3
      go_wp2_with fail
      refine (HBi.out _ g3 _ hb).mono ?_
      rintro e w1 ⟨rfl, hb1⟩
      replace B0 := Lib.hid (B0.out.kept hb1)
      replace B1 := Lib.hid (B1.out.kept hb1)
      replace hb := hb.trans (hb1.mono hb.size)
      clear hb1 q0 q1 q2 q3 p0 p1 p2 p3
      have q0 := B0.out.cell 0
      have q1 := B0.out.cell 1
      have q2 := B0.out.cell 2
      have q3 := B0.out.cell 3
      simp only [List.getElem?_toArray, List.getElem?_cons_zero, List.getElem?_cons_succ] at q0 q1 q2 q3
      have p0 := B1.out.cell 0
      have p1 := B1.out.cell 1
      have p2 := B1.out.cell 2
      have p3 := B1.out.cell 3
      simp only [List.getElem?_toArray, List.getElem?_cons_zero, List.getElem?_cons_succ] at p0 p1 p2 p3
      go_wp2_with fail
      refine (HA.out _ g1 _ hb).mono ?_
      rintro e w1 ⟨rfl, hb1⟩
      replace B0 := Lib.hid (B0.out.kept hb1)
      replace B1 := Lib.hid (B1.out.kept hb1)
      replace hb := hb.trans (hb1.mono hb.size)
      clear hb1 q0 q1 q2 q3 p0 p1 p2 p3
      have q0 := B0.out.cell 0
      have q1 := B0.out.cell 1
      have q2 := B0.out.cell 2
      have q3 := B0.out.cell 3
      simp only [List.getElem?_toArray, List.getElem?_cons_zero, List.getElem?_cons_succ] at q0 q1 q2 q3
      have p0 := B1.out.cell 0
      have p1 := B1.out.cell 1
      have p2 := B1.out.cell 2
      have p3 := B1.out.cell 3
      simp only [List.getElem?_toArray, List.getElem?_cons_zero, List.getElem?_cons_succ] at p0 p1 p2 p3
      go_wp2_with fail
      refine (HBi.out _ g3 _ hb).mono ?_
      rintro e w1 ⟨rfl, hb1⟩
      replace B0 := Lib.hid (B0.out.kept hb1)
      replace B1 := Lib.hid (B1.out.kept hb1)
      replace hb := hb.trans (hb1.mono hb.size)
      clear hb1 q0 q1 q2 q3 p0 p1 p2 p3
      have q0 := B0.out.cell 0
      have q1 := B0.out.cell 1
      have q2 := B0.out.cell 2
      have q3 := B0.out.cell 3
      simp only [List.getElem?_toArray, List.getElem?_cons_zero, List.getElem?_cons_succ] at q0 q1 q2 q3
      have p0 := B1.out.cell 0
      have p1 := B1.out.cell 1
      have p2 := B1.out.cell 2
      have p3 := B1.out.cell 3
      simp only [List.getElem?_toArray, List.getElem?_cons_zero, List.getElem?_cons_succ] at p0 p1 p2 p3
      go_wp2_with fail
      go_ret
      exact ⟨ret_bool (show confB a b = _ by rw [conf_last HO.out (by simp [g1, g2, g3])]; rw [g1, g3]; rfl).symm, hb⟩
  | false =>
    cases g3 : insB b with
    | true =>
      cases g4 : insideB b.pos a with
      | true =>
        go_wp2_with fail
        refine (HA.out _ g1 _ hb).mono ?_
        rintro e w1 ⟨rfl, hb1⟩
        replace B0 := Lib.hid (B0.out.kept hb1)
        replace B1 := Lib.hid (B1.out.kept hb1)
        replace hb := hb.trans (hb1.mono hb.size)
        clear hb1 q0 q1 q2 q3 p0 p1 p2 p3
        have q0 := B0.out.cell 0
        have q1 := B0.out.cell 1
        have q2 := B0.out.cell 2
        have q3 := B0.out.cell 3
        simp only [List.getElem?_toArray, List.getElem?_cons_zero, List.getElem?_cons_succ] at q0 q1 q2 q3
        have p0 := B1.out.cell 0
        have p1 := B1.out.cell 1
        have p2 := B1.out.cell 2
        have p3 := B1.out.cell 3
        simp only [List.getElem?_toArray, List.getElem?_cons_zero, List.getElem?_cons_succ] at p0 p1 p2 p3
        go_wp2_with fail
        refine (HBi.out _ g3 _ hb).mono ?_
        rintro e w1 ⟨rfl, hb1⟩
        replace B0 := Lib.hid (B0.out.kept hb1)
        replace B1 := Lib.hid (B1.out.kept hb1)
        replace hb := hb.trans (hb1.mono hb.size)
        clear hb1 q0 q1 q2 q3 p0 p1 p2 p3
        have q0 := B0.out.cell 0
        have q1 := B0.out.cell 1
        have q2 := B0.out.cell 2
        have q3 := B0.out.cell 3
        simp only [List.getElem?_toArray, List.getElem?_cons_zero, List.getElem?_cons_succ] at q0 q1 q2 q3
        have p0 := B1.out.cell 0
        have p1 := B1.out.cell 1
        have p2 := B1.out.cell 2
        have p3 := B1.out.cell 3
        simp only [List.getElem?_toArray, List.getElem?_cons_zero, List.getElem?_cons_succ] at p0 p1 p2 p3
        go_wp2_with fail
        refine (HBA.out _ g4 _ hb).mono ?_
        rintro e w1 ⟨rfl, hb1⟩
        replace B0 := Lib.hid (B0.out.kept hb1)
        replace B1 := Lib.hid (B1.out.kept hb1)
        replace hb := hb.trans (hb1.mono hb.size)
        clear hb1 q0 q1 q2 q3 p0 p1 p2 p3
        have q0 := B0.out.cell 0
        have q1 := B0.out.cell 1
        have q2 := B0.out.cell 2
        have q3 := B0.out.cell 3
        simp only [List.getElem?_toArray, List.getElem?_cons_zero, List.getElem?_cons_succ] at q0 q1 q2 q3
        have p0 := B1.out.cell 0
        have p1 := B1.out.cell 1
        have p2 := B1.out.cell 2
        have p3 := B1.out.cell 3
        simp only [List.getElem?_toArray, List.getElem?_cons_zero, List.getElem?_cons_succ] at p0 p1 p2 p3
        go_wp2_with fail
        go_ret
        exact ⟨ret_bool (conf_in HO.out (by simp [g1, g3, g4])).symm, hb⟩
      | false =>
        go_wp2_with fail
        refine (HA.out _ g1 _ hb).mono ?_
        rintro e w1 ⟨rfl, hb1⟩
        replace B0 := Lib.hid (B0.out.kept hb1)
        replace B1 := Lib.hid (B1.out.kept hb1)
        replace hb := hb.trans (hb1.mono hb.size)
        clear hb1 q0 q1 q2 q3 p0 p1 p2 p3
        have q0 := B0.out.cell 0
        have q1 := B0.out.cell 1
        have q2 := B0.out.cell 2
        have q3 := B0.out.cell 3
        simp only [List.getElem?_toArray, List.getElem?_cons_zero, List.getElem?_cons_succ] at q0 q1 q2 q3
        have p0 := B1.out.cell 0
        have p1 := B1.out.cell 1
        have p2 := B1.out.cell 2
        have p3 := B1.out.cell 3
        simp only [List.getElem?_toArray, List.getElem?_cons_zero, List.getElem?_cons_succ] at p0 p1 p2 p3
        go_wp2_with fail
        refine (HBi.out _ g3 _ hb).mono ?_
        rintro e w1 ⟨rfl, hb1⟩
        replace B0 := Lib.hid (B0.out.kept hb1)
        replace B1 := Lib.hid (B1.out.kept hb1)
        replace hb := hb.trans (hb1.mono hb.size)
        clear hb1 q0 q1 q2 q3 p0 p1 p2 p3
        have q0 := B0.out.cell 0
        have q1 := B0.out.cell 1
        have q2 := B0.out.cell 2
        have q3 := B0.out.cell 3
        simp only [List.getElem?_toArray, List.getElem?_cons_zero, List.getElem?_cons_succ] at q0 q1 q2 q3
        have p0 := B1.out.cell 0
        have p1 := B1.out.cell 1
        have p2 := B1.out.cell 2
        have p3 := B1.out.cell 3
        simp only [List.getElem?_toArray, List.getElem?_cons_zero, List.getElem?_cons_succ] at p0 p1 p2 p3
        go_wp2_with fail
        refine (HBA.out _ g4 _ hb).mono ?_
        rintro e w1 ⟨rfl, hb1⟩
        replace B0 := Lib.hid (B0.out.kept hb1)
        replace B1 := Lib.hid (B1.out.kept hb1)
        replace hb := hb.trans (hb1.mono hb.size)
        clear hb1 q0 q1 q2 q3 p0 p1 p2 p3
        have q0 := B0.out.cell 0
        have q1 := B0.out.cell 1
        have q2 := B0.out.cell 2
        have q3 := B0.out.cell 3
        simp only [List.getElem?_toArray, List.getElem?_cons_zero, List.getElem?_cons_succ] at q0 q1 q2 q3
        have p0 := B1.out.cell 0
        have p1 := B1.out.cell 1
        have p2 := B1.out.cell 2
        have p3 := B1.out.cell 3
        simp only [List.getElem?_toArray, List.getElem?_cons_zero, List.getElem?_cons_succ] at p0 p1 p2 p3
        go_wp2_with fail
        refine (HA.out _ g1 _ hb).mono ?_
        rintro e w1 ⟨rfl, hb1⟩
        replace B0 := Lib.hid (B0.out.kept hb1)
        replace B1 := Lib.hid (B1.out.kept hb1)
        replace hb := hb.trans (hb1.mono hb.size)
        clear hb1 q0 q1 q2 q3 p0 p1 p2 p3
        have q0 := B0.out.cell 0
        have q1 := B0.out.cell 1
        have q2 := B0.out.cell 2
        have q3 := B0.out.cell 3
        simp only [List.getElem?_toArray, List.getElem?_cons_zero, List.getElem?_cons_succ] at q0 q1 q2 q3
        have p0 := B1.out.cell 0
        have p1 := B1.out.cell 1
        have p2 := B1.out.cell 2
        have p3 := B1.out.cell 3
        simp only [List.getElem?_toArray, List.getElem?_cons_zero, List.getElem?_cons_succ] at p0 p1 p2 p3
        go_wp2_with fail
        go_ret
        exact ⟨ret_bool (show confB a b = _ by rw [conf_last HO.out (by simp [g1, g3, g4])]; rw [g1]; rfl).symm, hb⟩
    | false =>
      go_wp2_with fail
      refine (HA.out _ g1 _ hb).mono ?_
      rintro e w1 ⟨rfl, hb1⟩
      replace B0 := Lib.hid (B0.out.kept hb1)
      replace B1 := Lib.hid (B1.out.kept hb1)
      replace hb := hb.trans (hb1.mono hb.size)
      clear hb1 q0 q1 q2 q3 p0 p1 p2 p3
      have q0 := B0.out.cell 0
      have q1 := B0.out.cell 1
      have q2 := B0.out.cell 2
      have q3 := B0.out.cell 3
      simp only [List.getElem?_toArray, List.getElem?_cons_zero, List.getElem?_cons_succ] at q0 q1 q2 q3
      have p0 := B1.out.cell 0
      have p1 := B1.out.cell 1
      have p2 := B1.out.cell 2
      have p3 := B1.out.cell 3
      simp only [List.getElem?_toArray, List.getElem?_cons_zero, List.getElem?_cons_succ] at p0 p1 p2 p3
      go_wp2_with fail
      refine (HBi.out _ g3 _ hb).mono ?_
      rintro e w1 ⟨rfl, hb1⟩
      replace B0 := Lib.hid (B0.out.kept hb1)
      replace B1 := Lib.hid (B1.out.kept hb1)
      replace hb := hb.trans (hb1.mono hb.size)
      clear hb1 q0 q1 q2 q3 p0 p1 p2 p3
      have q0 := B0.out.cell 0
      have q1 := B0.out.cell 1
      have q2 := B0.out.cell 2
      have q3 := B0.out.cell 3
      simp only [List.getElem?_toArray, List.getElem?_cons_zero, List.getElem?_cons_succ] at q0 q1 q2 q3
      have p0 := B1.out.cell 0
      have p1 := B1.out.cell 1
      have p2 := B1.out.cell 2
      have p3 := B1.out.cell 3
      simp only [List.getElem?_toArray, List.getElem?_cons_zero, List.getElem?_cons_succ] at p0 p1 p2 p3
      go_wp2_with fail
      refine (HA.out _ g1 _ hb).mono ?_
      rintro e w1 ⟨rfl, hb1⟩
      replace B0 := Lib.hid (B0.out.kept hb1)
      replace B1 := Lib.hid (B1.out.kept hb1)
      replace hb := hb.trans (hb1.mono hb.size)
      clear hb1 q0 q1 q2 q3 p0 p1 p2 p3
      have q0 := B0.out.cell 0
      have q1 := B0.out.cell 1
      have q2 := B0.out.cell 2
      have q3 := B0.out.cell 3
      simp only [List.getElem?_toArray, List.getElem?_cons_zero, List.getElem?_cons_succ] at q0 q1 q2 q3
      have p0 := B1.out.cell 0
      have p1 := B1.out.cell 1
      have p2 := B1.out.cell 2
      have p3 := B1.out.cell 3
      simp only [List.getElem?_toArray, List.getElem?_cons_zero, List.getElem?_cons_succ] at p0 p1 p2 p3
      go_wp2_with fail
      go_ret
      exact ⟨ret_bool (show confB a b = _ by rw [conf_last HO.out (by simp [g1, g3])]; rw [g1]; rfl).symm, hb⟩

end Go.Proofs.YtclpdpfnlmfogaaDoor.CfD
