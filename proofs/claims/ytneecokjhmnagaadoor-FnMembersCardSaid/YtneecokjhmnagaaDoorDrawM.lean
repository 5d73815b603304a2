/- The draws of members: members whose names are short, slices of them of the call's own, nothing that was there turned. No condition. -/
import Derived.Test.YtneecokjhmnagaaDoorJ1
import Derived.Test.YtneecokjhmnagaaDoorMemF
import Derived.Deep.DeepCutAuto
namespace Go.Proofs.YtneecokjhmnagaaDoor.Draw
open Go.RowKit Cur Bs Mem
set_option linter.unusedVariables false
/-- a member whose name is short -/
def MOf (w : World) (B m : Nat) (e : Ending) (w' : World) : Prop := ∃ r : M, e = .returned (.agg #[.int .i64 r.num, .string r.name, .int .i64 r.off]) ∧ r.name.size ≤ 10 ∧ Cur w' B m ∧ w.grownBy w' (some B)
set_option maxRecDepth 100000 in
set_option maxHeartbeats 3200000 in
theorem memberOf (B m : Nat) (n : Int) (w : World) (h : Cur w B m) (hm : m < 800000) : Calls Tryd.prog 60 #[.pointer (some ⟨B, 0, none⟩), .int .i64 n] w (MOf w B (m + 12)) := by
  have hB := h.lt
  have HC := Lib.hid (cur_alloc h (.cells #[.int .i64 0, .string ⟨#[]⟩, .int .i64 0] 60))
  have HR := Lib.hid (Bx.new w 60 #[.int .i64 0, .string ⟨#[]⟩, .int .i64 0])
  have hg := grown_alloc w (.cells #[.int .i64 0, .string ⟨#[]⟩, .int .i64 0] 60) (some B)
  have hz : w.heap.size < (w.alloc (.cells #[.int .i64 0, .string ⟨#[]⟩, .int .i64 0] 60)).heap.size := by simp
  clear h
  go_enter Tryd.func60, Tryd.ntmps60
  go_wp2_with fail
  generalize w.alloc (.cells #[.int .i64 0, .string ⟨#[]⟩, .int .i64 0] 60) = W0 at *
  generalize hR : w.heap.size = R at *
  have HRe := Lib.hid hR
  clear hR
  refine (word B m _ HC.out (by omega)).mono ?_
  rintro e w1 ⟨x, rfl, hs, hc1, hg1⟩
  replace HC := Lib.hid hc1
  replace HR := Lib.hid (HR.out.grown hg1 (by omega))
  replace hz : R < w1.heap.size := Nat.lt_of_lt_of_le hz (grown_size hg1)
  replace hg := grown_trans hg hg1
  clear hc1 hg1
  go_wp2_with fail
  replace HC := Lib.hid (cur_alloc HC.out (.cells #[.int .i64 n, .string x, .int .i64 0] 60))
  replace HR := Lib.hid (HR.out.alloc (.cells #[.int .i64 n, .string x, .int .i64 0] 60))
  have HX := Lib.hid (Bx.new w1 60 #[.int .i64 n, .string x, .int .i64 0])
  replace hg := grown_trans hg (grown_alloc w1 (.cells #[.int .i64 n, .string x, .int .i64 0] 60) (some B))
  have hzG : w1.heap.size < (w1.alloc (.cells #[.int .i64 n, .string x, .int .i64 0] 60)).heap.size := by simp
  generalize w1.alloc (.cells #[.int .i64 n, .string x, .int .i64 0] 60) = W1 at *
  generalize w1.heap.size = G at *
  refine (one B _ 3 _ HC.out (by omega) (by omega) (by omega)).mono ?_
  rintro e w2 ⟨b, rfl, hc2, hg2⟩
  replace HC := Lib.hid hc2
  replace HR := Lib.hid (HR.out.grown hg2 (by omega))
  replace HX := Lib.hid (HX.out.grown hg2 (by omega))
  replace hg := grown_trans hg hg2
  have hzG2 : G < w2.heap.size := Nat.lt_of_lt_of_le hzG (grown_size hg2)
  clear hc2 hg2 hzG W1 W0
  cases b with
  | true =>
    go_wp2_with fail
    refine (pick B _ 3 _ HC.out (by omega) (by omega) (by omega)).mono ?_
    rintro e w3 ⟨r, rfl, r0, r1, hc3, hg3⟩
    replace HR := Lib.hid (HR.out.grown hg3 (by omega))
    replace HX := Lib.hid (HX.out.grown hg3 (by omega))
    have hzG3 : G < w3.heap.size := Nat.lt_of_lt_of_le hzG2 (grown_size hg3)
    replace hg := grown_trans hg hg3
    have f2 := HX.out.frozen 2
    have c2 := HX.out.cell 2
    have hs1 : IntKind.i64.wrap (1 + r) = 1 + r := IntWalk.i64_in _ (by omega)
    have r2 : 1 + r ≤ 3 := by omega
    have r3 : 0 ≤ 1 + r := by omega
    replace HC := Lib.hid (Cur.mono (m' := m + 6) (cur_set hc3 (p := ⟨G, 2, none⟩) (by show B < G; omega) (.int .i64 (1 + r))) (by omega))
    replace HR := Lib.hid (HR.out.far (p := ⟨G, 2, none⟩) (by show R ≠ G; omega) (.int .i64 (1 + r)))
    replace HX := Lib.hid (show Bx (w3.setCell ⟨G, 2, none⟩ (.int .i64 (1 + r))) G 60 #[.int .i64 n, .string x, .int .i64 (1 + r)] from HX.out.set_ 2 _)
    replace hg := grown_setN w3 ⟨G, 2, none⟩ (.int .i64 (1 + r)) G B (Nat.le_refl _) w hg (by rw [HRe.out]; show R ≤ G; omega)
    have hzG4 : G < (w3.setCell ⟨G, 2, none⟩ (.int .i64 (1 + r))).heap.size := by simpa using hzG3
    clear hc3 hg3
    go_wp2_with fail
    clear f2 c2 hs1
    generalize w3.setCell ⟨G, 2, none⟩ (.int .i64 (1 + r)) = W3 at *
    generalize (1 + r : Int) = O at *
    refine (pick B _ 60 _ HC.out (by omega) (by omega) (by omega)).mono ?_
    rintro e w4 ⟨q, rfl, q0, q1, hc4, hg4⟩
    replace HR := Lib.hid (HR.out.grown hg4 (by omega))
    replace HX := Lib.hid (HX.out.grown hg4 (by omega))
    have hzG5 : G < w4.heap.size := Nat.lt_of_lt_of_le hzG4 (grown_size hg4)
    replace hg := grown_trans hg hg4
    clear hg4 HC
    cases e1 : (q == 0) with
    | true =>
      have HL := Lib.hid (among_lit B (m + 8) [(0), (99), (100)] w4 (hc4.mono (by omega)) (by omega) (by decide) (by decide))
      go_wp2_with fail
      refine HL.out.mono ?_
      rintro e w5 ⟨v, hv, rfl, hc5, hg5⟩
      replace HC := Lib.hid hc5
      replace HR := Lib.hid (HR.out.grown hg5 (by omega))
      replace HX := Lib.hid (HX.out.grown hg5 (by omega))
      replace hg := grown_trans hg hg5
      have f0 := HX.out.frozen 0
      have c0 := HX.out.cell 0
      replace HC := Lib.hid (cur_set HC.out (p := ⟨G, 0, none⟩) (by show B < G; omega) (.int .i64 v))
      replace HR := Lib.hid (HR.out.far (p := ⟨G, 0, none⟩) (by show R ≠ G; omega) (.int .i64 v))
      replace HX := Lib.hid (show Bx (w5.setCell ⟨G, 0, none⟩ (.int .i64 v)) G 60 #[.int .i64 v, .string x, .int .i64 O] from HX.out.set_ 0 _)
      replace hg := grown_setN w5 ⟨G, 0, none⟩ (.int .i64 v) G B (Nat.le_refl _) w hg (by rw [HRe.out]; show R ≤ G; omega)
      clear HL hv hc5 hg5 hc4
      go_upto_region 9 with fail
      clear f0 c0
      generalize w5.setCell ⟨G, 0, none⟩ (.int .i64 v) = W5 at *
      have k0 := HX.out.cell 0
      have k1 := HX.out.cell 1
      have k2 := HX.out.cell 2
      have j0 := HR.out.frozen 0
      have j1 := HR.out.frozen 1
      have j2 := HR.out.frozen 2
      have l0 := HR.out.cell 0
      have l1 := HR.out.cell 1
      have l2 := HR.out.cell 2
      have HCf := Lib.hid (cur_set (cur_set (cur_set HC.out (p := ⟨R, 0, none⟩) (by show B < R; omega) (.int .i64 (v))) (p := ⟨R, 1, none⟩) (by show B < R; omega) (.string x)) (p := ⟨R, 2, none⟩) (by show B < R; omega) (.int .i64 (O)))
      have HRf := Lib.hid (show Bx (((W5.setCell ⟨R, 0, none⟩ (.int .i64 (v))).setCell ⟨R, 1, none⟩ (.string x)).setCell ⟨R, 2, none⟩ (.int .i64 (O))) R 60 #[.int .i64 (v), .string x, .int .i64 (O)] from ((HR.out.set_ 0 _).set_ 1 _).set_ 2 _)
      have hgf := grown_setN _ ⟨R, 2, none⟩ (.int .i64 (O)) R B (Nat.le_refl _) w (grown_setN _ ⟨R, 1, none⟩ (.string x) R B (Nat.le_refl _) w (grown_setN W5 ⟨R, 0, none⟩ (.int .i64 (v)) R B (Nat.le_refl _) w hg (by rw [HRe.out]; exact Nat.le_refl _)) (by rw [HRe.out]; exact Nat.le_refl _)) (by rw [HRe.out]; exact Nat.le_refl _)
      have e0 := HRf.out.cell 0
      have e1 := HRf.out.cell 1
      have e2 := HRf.out.cell 2
      go_wp2_with fail
      refine bodyPost_ret (v := .agg #[.int .i64 (v), .string x, .int .i64 (O)]) (by simp [results, Tryd.results60, go_sem, e0, e1, e2]) rfl ⟨⟨v, x, O⟩, rfl, hs, HCf.out.mono (by omega), hgf⟩
    | false =>
      cases e2 : (q == 1) with
      | true =>
        have HL := Lib.hid (among_lit B (m + 8) [(-1), (4)] w4 (hc4.mono (by omega)) (by omega) (by decide) (by decide))
        go_wp2_with fail
        refine HL.out.mono ?_
        rintro e w5 ⟨v, hv, rfl, hc5, hg5⟩
        replace HC := Lib.hid hc5
        replace HR := Lib.hid (HR.out.grown hg5 (by omega))
        replace HX := Lib.hid (HX.out.grown hg5 (by omega))
        replace hg := grown_trans hg hg5
        have f0 := HX.out.frozen 2
        have c0 := HX.out.cell 2
        replace HC := Lib.hid (cur_set HC.out (p := ⟨G, 2, none⟩) (by show B < G; omega) (.int .i64 v))
        replace HR := Lib.hid (HR.out.far (p := ⟨G, 2, none⟩) (by show R ≠ G; omega) (.int .i64 v))
        replace HX := Lib.hid (show Bx (w5.setCell ⟨G, 2, none⟩ (.int .i64 v)) G 60 #[.int .i64 n, .string x, .int .i64 v] from HX.out.set_ 2 _)
        replace hg := grown_setN w5 ⟨G, 2, none⟩ (.int .i64 v) G B (Nat.le_refl _) w hg (by rw [HRe.out]; show R ≤ G; omega)
        clear HL hv hc5 hg5 hc4
        go_upto_region 9 with fail
        clear f0 c0
        generalize w5.setCell ⟨G, 2, none⟩ (.int .i64 v) = W5 at *
        have k0 := HX.out.cell 0
        have k1 := HX.out.cell 1
        have k2 := HX.out.cell 2
        have j0 := HR.out.frozen 0
        have j1 := HR.out.frozen 1
        have j2 := HR.out.frozen 2
        have l0 := HR.out.cell 0
        have l1 := HR.out.cell 1
        have l2 := HR.out.cell 2
        have HCf := Lib.hid (cur_set (cur_set (cur_set HC.out (p := ⟨R, 0, none⟩) (by show B < R; omega) (.int .i64 (n))) (p := ⟨R, 1, none⟩) (by show B < R; omega) (.string x)) (p := ⟨R, 2, none⟩) (by show B < R; omega) (.int .i64 (v)))
        have HRf := Lib.hid (show Bx (((W5.setCell ⟨R, 0, none⟩ (.int .i64 (n))).setCell ⟨R, 1, none⟩ (.string x)).setCell ⟨R, 2, none⟩ (.int .i64 (v))) R 60 #[.int .i64 (n), .string x, .int .i64 (v)] from ((HR.out.set_ 0 _).set_ 1 _).set_ 2 _)
        have hgf := grown_setN _ ⟨R, 2, none⟩ (.int .i64 (v)) R B (Nat.le_refl _) w (grown_setN _ ⟨R, 1, none⟩ (.string x) R B (Nat.le_refl _) w (grown_setN W5 ⟨R, 0, none⟩ (.int .i64 (n)) R B (Nat.le_refl _) w hg (by rw [HRe.out]; exact Nat.le_refl _)) (by rw [HRe.out]; exact Nat.le_refl _)) (by rw [HRe.out]; exact Nat.le_refl _)
        have e0 := HRf.out.cell 0
        have e1 := HRf.out.cell 1
        have e2 := HRf.out.cell 2
        go_wp2_with fail
        refine bodyPost_ret (v := .agg #[.int .i64 (n), .string x, .int .i64 (v)]) (by simp [results, Tryd.results60, go_sem, e0, e1, e2]) rfl ⟨⟨n, x, v⟩, rfl, hs, HCf.out.mono (by omega), hgf⟩
      | false =>
        have HC := Lib.hid hc4
        go_upto_region 9 with fail
        clear hc4
        generalize w4 = W5 at *
        have k0 := HX.out.cell 0
        have k1 := HX.out.cell 1
        have k2 := HX.out.cell 2
        have j0 := HR.out.frozen 0
        have j1 := HR.out.frozen 1
        have j2 := HR.out.frozen 2
        have l0 := HR.out.cell 0
        have l1 := HR.out.cell 1
        have l2 := HR.out.cell 2
        have HCf := Lib.hid (cur_set (cur_set (cur_set HC.out (p := ⟨R, 0, none⟩) (by show B < R; omega) (.int .i64 (n))) (p := ⟨R, 1, none⟩) (by show B < R; omega) (.string x)) (p := ⟨R, 2, none⟩) (by show B < R; omega) (.int .i64 (O)))
        have HRf := Lib.hid (show Bx (((W5.setCell ⟨R, 0, none⟩ (.int .i64 (n))).setCell ⟨R, 1, none⟩ (.string x)).setCell ⟨R, 2, none⟩ (.int .i64 (O))) R 60 #[.int .i64 (n), .string x, .int .i64 (O)] from ((HR.out.set_ 0 _).set_ 1 _).set_ 2 _)
        have hgf := grown_setN _ ⟨R, 2, none⟩ (.int .i64 (O)) R B (Nat.le_refl _) w (grown_setN _ ⟨R, 1, none⟩ (.string x) R B (Nat.le_refl _) w (grown_setN W5 ⟨R, 0, none⟩ (.int .i64 (n)) R B (Nat.le_refl _) w hg (by rw [HRe.out]; exact Nat.le_refl _)) (by rw [HRe.out]; exact Nat.le_refl _)) (by rw [HRe.out]; exact Nat.le_refl _)
        have e0 := HRf.out.cell 0
        have e1 := HRf.out.cell 1
        have e2 := HRf.out.cell 2
        go_wp2_with fail
        refine bodyPost_ret (v := .agg #[.int .i64 (n), .string x, .int .i64 (O)]) (by simp [results, Tryd.results60, go_sem, e0, e1, e2]) rfl ⟨⟨n, x, O⟩, rfl, hs, HCf.out.mono (by omega), hgf⟩
  | false =>
    replace HC := Lib.hid (HC.out.mono (m' := m + 6) (by omega))
    go_wp2_with fail
    generalize w2 = W3 at *
    have hzG4 := hzG2
    refine (pick B _ 60 _ HC.out (by omega) (by omega) (by omega)).mono ?_
    rintro e w4 ⟨q, rfl, q0, q1, hc4, hg4⟩
    replace HR := Lib.hid (HR.out.grown hg4 (by omega))
    replace HX := Lib.hid (HX.out.grown hg4 (by omega))
    have hzG5 : G < w4.heap.size := Nat.lt_of_lt_of_le hzG4 (grown_size hg4)
    replace hg := grown_trans hg hg4
    clear hg4 HC
    cases e1 : (q == 0) with
    | true =>
      have HL := Lib.hid (among_lit B (m + 8) [(0), (99), (100)] w4 (hc4.mono (by omega)) (by omega) (by decide) (by decide))
      go_wp2_with fail
      refine HL.out.mono ?_
      rintro e w5 ⟨v, hv, rfl, hc5, hg5⟩
      replace HC := Lib.hid hc5
      replace HR := Lib.hid (HR.out.grown hg5 (by omega))
      replace HX := Lib.hid (HX.out.grown hg5 (by omega))
      replace hg := grown_trans hg hg5
      have f0 := HX.out.frozen 0
      have c0 := HX.out.cell 0
      replace HC := Lib.hid (cur_set HC.out (p := ⟨G, 0, none⟩) (by show B < G; omega) (.int .i64 v))
      replace HR := Lib.hid (HR.out.far (p := ⟨G, 0, none⟩) (by show R ≠ G; omega) (.int .i64 v))
      replace HX := Lib.hid (show Bx (w5.setCell ⟨G, 0, none⟩ (.int .i64 v)) G 60 #[.int .i64 v, .string x, .int .i64 0] from HX.out.set_ 0 _)
      replace hg := grown_setN w5 ⟨G, 0, none⟩ (.int .i64 v) G B (Nat.le_refl _) w hg (by rw [HRe.out]; show R ≤ G; omega)
      clear HL hv hc5 hg5 hc4
      go_upto_region 9 with fail
      clear f0 c0
      generalize w5.setCell ⟨G, 0, none⟩ (.int .i64 v) = W5 at *
      have k0 := HX.out.cell 0
      have k1 := HX.out.cell 1
      have k2 := HX.out.cell 2
      have j0 := HR.out.frozen 0
      have j1 := HR.out.frozen 1
      have j2 := HR.out.frozen 2
      have l0 := HR.out.cell 0
      have l1 := HR.out.cell 1
      have l2 := HR.out.cell 2
      have HCf := Lib.hid (cur_set (cur_set (cur_set HC.out (p := ⟨R, 0, none⟩) (by show B < R; omega) (.int .i64 (v))) (p := ⟨R, 1, none⟩) (by show B < R; omega) (.string x)) (p := ⟨R, 2, none⟩) (by show B < R; omega) (.int .i64 (0)))
      have HRf := Lib.hid (show Bx (((W5.setCell ⟨R, 0, none⟩ (.int .i64 (v))).setCell ⟨R, 1, none⟩ (.string x)).setCell ⟨R, 2, none⟩ (.int .i64 (0))) R 60 #[.int .i64 (v), .string x, .int .i64 (0)] from ((HR.out.set_ 0 _).set_ 1 _).set_ 2 _)
      have hgf := grown_setN _ ⟨R, 2, none⟩ (.int .i64 (0)) R B (Nat.le_refl _) w (grown_setN _ ⟨R, 1, none⟩ (.string x) R B (Nat.le_refl _) w (grown_setN W5 ⟨R, 0, none⟩ (.int .i64 (v)) R B (Nat.le_refl _) w hg (by rw [HRe.out]; exact Nat.le_refl _)) (by rw [HRe.out]; exact Nat.le_refl _)) (by rw [HRe.out]; exact Nat.le_refl _)
      have e0 := HRf.out.cell 0
      have e1 := HRf.out.cell 1
      have e2 := HRf.out.cell 2
      go_wp2_with fail
      refine bodyPost_ret (v := .agg #[.int .i64 (v), .string x, .int .i64 (0)]) (by simp [results, Tryd.results60, go_sem, e0, e1, e2]) rfl ⟨⟨v, x, 0⟩, rfl, hs, HCf.out.mono (by omega), hgf⟩
    | false =>
      cases e2 : (q == 1) with
      | true =>
        have HL := Lib.hid (among_lit B (m + 8) [(-1), (4)] w4 (hc4.mono (by omega)) (by omega) (by decide) (by decide))
        go_wp2_with fail
        refine HL.out.mono ?_
        rintro e w5 ⟨v, hv, rfl, hc5, hg5⟩
        replace HC := Lib.hid hc5
        replace HR := Lib.hid (HR.out.grown hg5 (by omega))
        replace HX := Lib.hid (HX.out.grown hg5 (by omega))
        replace hg := grown_trans hg hg5
        have f0 := HX.out.frozen 2
        have c0 := HX.out.cell 2
        replace HC := Lib.hid (cur_set HC.out (p := ⟨G, 2, none⟩) (by show B < G; omega) (.int .i64 v))
        replace HR := Lib.hid (HR.out.far (p := ⟨G, 2, none⟩) (by show R ≠ G; omega) (.int .i64 v))
        replace HX := Lib.hid (show Bx (w5.setCell ⟨G, 2, none⟩ (.int .i64 v)) G 60 #[.int .i64 n, .string x, .int .i64 v] from HX.out.set_ 2 _)
        replace hg := grown_setN w5 ⟨G, 2, none⟩ (.int .i64 v) G B (Nat.le_refl _) w hg (by rw [HRe.out]; show R ≤ G; omega)
        clear HL hv hc5 hg5 hc4
        go_upto_region 9 with fail
        clear f0 c0
        generalize w5.setCell ⟨G, 2, none⟩ (.int .i64 v) = W5 at *
        have k0 := HX.out.cell 0
        have k1 := HX.out.cell 1
        have k2 := HX.out.cell 2
        have j0 := HR.out.frozen 0
        have j1 := HR.out.frozen 1
        have j2 := HR.out.frozen 2
        have l0 := HR.out.cell 0
        have l1 := HR.out.cell 1
        have l2 := HR.out.cell 2
        have HCf := Lib.hid (cur_set (cur_set (cur_set HC.out (p := ⟨R, 0, none⟩) (by show B < R; omega) (.int .i64 (n))) (p := ⟨R, 1, none⟩) (by show B < R; omega) (.string x)) (p := ⟨R, 2, none⟩) (by show B < R; omega) (.int .i64 (v)))
        have HRf := Lib.hid (show Bx (((W5.setCell ⟨R, 0, none⟩ (.int .i64 (n))).setCell ⟨R, 1, none⟩ (.string x)).setCell ⟨R, 2, none⟩ (.int .i64 (v))) R 60 #[.int .i64 (n), .string x, .int .i64 (v)] from ((HR.out.set_ 0 _).set_ 1 _).set_ 2 _)
        have hgf := grown_setN _ ⟨R, 2, none⟩ (.int .i64 (v)) R B (Nat.le_refl _) w (grown_setN _ ⟨R, 1, none⟩ (.string x) R B (Nat.le_refl _) w (grown_setN W5 ⟨R, 0, none⟩ (.int .i64 (n)) R B (Nat.le_refl _) w hg (by rw [HRe.out]; exact Nat.le_refl _)) (by rw [HRe.out]; exact Nat.le_refl _)) (by rw [HRe.out]; exact Nat.le_refl _)
        have e0 := HRf.out.cell 0
        have e1 := HRf.out.cell 1
        have e2 := HRf.out.cell 2
        go_wp2_with fail
        refine bodyPost_ret (v := .agg #[.int .i64 (n), .string x, .int .i64 (v)]) (by simp [results, Tryd.results60, go_sem, e0, e1, e2]) rfl ⟨⟨n, x, v⟩, rfl, hs, HCf.out.mono (by omega), hgf⟩
      | false =>
        have HC := Lib.hid hc4
        go_upto_region 9 with fail
        clear hc4
        generalize w4 = W5 at *
        have k0 := HX.out.cell 0
        have k1 := HX.out.cell 1
        have k2 := HX.out.cell 2
        have j0 := HR.out.frozen 0
        have j1 := HR.out.frozen 1
        have j2 := HR.out.frozen 2
        have l0 := HR.out.cell 0
        have l1 := HR.out.cell 1
        have l2 := HR.out.cell 2
        have HCf := Lib.hid (cur_set (cur_set (cur_set HC.out (p := ⟨R, 0, none⟩) (by show B < R; omega) (.int .i64 (n))) (p := ⟨R, 1, none⟩) (by show B < R; omega) (.string x)) (p := ⟨R, 2, none⟩) (by show B < R; omega) (.int .i64 (0)))
        have HRf := Lib.hid (show Bx (((W5.setCell ⟨R, 0, none⟩ (.int .i64 (n))).setCell ⟨R, 1, none⟩ (.string x)).setCell ⟨R, 2, none⟩ (.int .i64 (0))) R 60 #[.int .i64 (n), .string x, .int .i64 (0)] from ((HR.out.set_ 0 _).set_ 1 _).set_ 2 _)
        have hgf := grown_setN _ ⟨R, 2, none⟩ (.int .i64 (0)) R B (Nat.le_refl _) w (grown_setN _ ⟨R, 1, none⟩ (.string x) R B (Nat.le_refl _) w (grown_setN W5 ⟨R, 0, none⟩ (.int .i64 (n)) R B (Nat.le_refl _) w hg (by rw [HRe.out]; exact Nat.le_refl _)) (by rw [HRe.out]; exact Nat.le_refl _)) (by rw [HRe.out]; exact Nat.le_refl _)
        have e0 := HRf.out.cell 0
        have e1 := HRf.out.cell 1
        have e2 := HRf.out.cell 2
        go_wp2_with fail
        refine bodyPost_ret (v := .agg #[.int .i64 (n), .string x, .int .i64 (0)]) (by simp [results, Tryd.results60, go_sem, e0, e1, e2]) rfl ⟨⟨n, x, 0⟩, rfl, hs, HCf.out.mono (by omega), hgf⟩
end Go.Proofs.YtneecokjhmnagaaDoor.Draw
