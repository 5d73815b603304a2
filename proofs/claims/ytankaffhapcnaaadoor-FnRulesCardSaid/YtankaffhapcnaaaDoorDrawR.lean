/- The draw of a rule whose name is short. No condition. -/
import Derived.Test.YtankaffhapcnaaaDoorDrawW
import Derived.Test.YtankaffhapcnaaaDoorJ1
import Derived.Deep.DeepCutAuto
namespace Go.Proofs.YtankaffhapcnaaaDoor.Draw
open Go.RowKit Cur Bs
set_option linter.unusedVariables false
theorem bx_eq {w : World} {G : Nat} {t : TypeId} {cs ds : Array Value} (h : Bx w G t cs) (e : cs = ds) : Bx w G t ds := e ▸ h
theorem bx_of (W : World) (G : Nat) (t : TypeId) (cs : Array Value) (h : G = W.heap.size) : Bx (W.alloc (.cells cs t)) G t cs := h ▸ Bx.new W t cs
/-- a rule whose name is short -/
def ROf (w : World) (B m : Nat) (e : Ending) (w' : World) : Prop := ∃ r : Rule.R, e = .returned (.agg #[.int .i64 r.id, .string r.name, .int .i64 r.rank, .bool r.sec, .bool r.deb, .bool r.am, .int .i64 r.need]) ∧ r.name.size ≤ 11 ∧ Cur w' B m ∧ w.grownBy w' (some B)
set_option maxRecDepth 100000 in
set_option maxHeartbeats 6400000 in
theorem rule (B m : Nat) (w : World) (h : Cur w B m) (hm : m < 800000) : Calls Tryd.prog 29 #[.pointer (some ⟨B, 0, none⟩)] w (ROf w B (m + 20)) := by
  have hB := h.lt
  have HC := Lib.hid (cur_alloc h (.cells #[.int .i64 0, .string ⟨#[]⟩, .int .i64 0, .bool false, .bool false, .bool false, .int .i64 0] 25))
  have HR := Lib.hid (Bx.new w 25 #[.int .i64 0, .string ⟨#[]⟩, .int .i64 0, .bool false, .bool false, .bool false, .int .i64 0])
  have hg := grown_alloc w (.cells #[.int .i64 0, .string ⟨#[]⟩, .int .i64 0, .bool false, .bool false, .bool false, .int .i64 0] 25) (some B)
  have hz : w.heap.size < (w.alloc (.cells #[.int .i64 0, .string ⟨#[]⟩, .int .i64 0, .bool false, .bool false, .bool false, .int .i64 0] 25)).heap.size := by simp
  clear h
  go_enter Tryd.func29, Tryd.ntmps29
  go_wp2_with fail
  generalize w.alloc (.cells #[.int .i64 0, .string ⟨#[]⟩, .int .i64 0, .bool false, .bool false, .bool false, .int .i64 0] 25) = W0 at *
  generalize hR : w.heap.size = R at *
  have HRe := Lib.hid hR
  clear hR
  refine (pick B _ 12 _ HC.out (by omega) (by omega) (by omega)).mono ?_
  rintro e w1 ⟨i, rfl, i0, i1, hc, hg1⟩
  replace HC := Lib.hid hc
  replace HR := Lib.hid (HR.out.grown hg1 (by omega))
  replace hz : R < w1.heap.size := Nat.lt_of_lt_of_le hz (grown_size hg1)
  replace hg := grown_trans hg hg1
  clear hc hg1
  have hwi : IntKind.i64.wrap (1 + i) = 1 + i := IntWalk.i64_in _ (by omega)
  go_wp2_with fail
  clear hwi
  refine (word B _ _ HC.out (by omega)).mono ?_
  rintro e w2 ⟨x, rfl, hs, hc, hg1⟩
  replace HC := Lib.hid hc
  replace HR := Lib.hid (HR.out.grown hg1 (by omega))
  replace hz : R < w2.heap.size := Nat.lt_of_lt_of_le hz (grown_size hg1)
  replace hg := grown_trans hg hg1
  clear hc hg1
  replace hs : x.size ≤ 11 := Nat.le_trans hs (by decide)
  go_wp2_with fail
  refine (pick B _ 10 _ HC.out (by omega) (by omega) (by omega)).mono ?_
  rintro e w3 ⟨k, rfl, k0, k1, hc, hg1⟩
  replace HC := Lib.hid hc
  replace HR := Lib.hid (HR.out.grown hg1 (by omega))
  replace hz : R < w3.heap.size := Nat.lt_of_lt_of_le hz (grown_size hg1)
  replace hg := grown_trans hg hg1
  clear hc hg1
  go_wp2_with fail
  refine (one B _ 2 _ HC.out (by omega) (by omega) (by omega)).mono ?_
  rintro e w4 ⟨b1, rfl, hc, hg1⟩
  replace HC := Lib.hid hc
  replace HR := Lib.hid (HR.out.grown hg1 (by omega))
  replace hz : R < w4.heap.size := Nat.lt_of_lt_of_le hz (grown_size hg1)
  replace hg := grown_trans hg hg1
  clear hc hg1
  go_wp2_with fail
  refine (one B _ 2 _ HC.out (by omega) (by omega) (by omega)).mono ?_
  rintro e w5 ⟨b2, rfl, hc, hg1⟩
  replace HC := Lib.hid hc
  replace HR := Lib.hid (HR.out.grown hg1 (by omega))
  replace hz : R < w5.heap.size := Nat.lt_of_lt_of_le hz (grown_size hg1)
  replace hg := grown_trans hg hg1
  clear hc hg1
  go_wp2_with fail
  refine (one B _ 2 _ HC.out (by omega) (by omega) (by omega)).mono ?_
  rintro e w6 ⟨b3, rfl, hc, hg1⟩
  replace HC := Lib.hid hc
  replace HR := Lib.hid (HR.out.grown hg1 (by omega))
  replace hz : R < w6.heap.size := Nat.lt_of_lt_of_le hz (grown_size hg1)
  replace hg := grown_trans hg hg1
  clear hc hg1
  go_wp2_with fail
  refine (pick B _ 3 _ HC.out (by omega) (by omega) (by omega)).mono ?_
  rintro e w7 ⟨nd, rfl, nd0, nd1, hc, hg1⟩
  replace HC := Lib.hid hc
  replace HR := Lib.hid (HR.out.grown hg1 (by omega))
  replace hz : R < w7.heap.size := Nat.lt_of_lt_of_le hz (grown_size hg1)
  replace hg := grown_trans hg hg1
  clear hc hg1
  have hwnd : IntKind.i64.wrap (1 + nd) = 1 + nd := IntWalk.i64_in _ (by omega)
  go_wp2_with fail
  replace HC := Lib.hid (cur_alloc HC.out (.cells #[.int .i64 (1 + i), .string x, .int .i64 k, .bool b1, .bool b2, .bool b3, .int .i64 (1 + nd)] 25))
  replace HR := Lib.hid (HR.out.alloc (.cells #[.int .i64 (1 + i), .string x, .int .i64 k, .bool b1, .bool b2, .bool b3, .int .i64 (1 + nd)] 25))
  have HX := Lib.hid (Bx.new w7 25 #[.int .i64 (1 + i), .string x, .int .i64 k, .bool b1, .bool b2, .bool b3, .int .i64 (1 + nd)])
  replace hg := grown_trans hg (grown_alloc w7 (.cells #[.int .i64 (1 + i), .string x, .int .i64 k, .bool b1, .bool b2, .bool b3, .int .i64 (1 + nd)] 25) (some B))
  have hzG : w7.heap.size < (w7.alloc (.cells #[.int .i64 (1 + i), .string x, .int .i64 k, .bool b1, .bool b2, .bool b3, .int .i64 (1 + nd)] 25)).heap.size := by simp
  generalize w7.alloc (.cells #[.int .i64 (1 + i), .string x, .int .i64 k, .bool b1, .bool b2, .bool b3, .int .i64 (1 + nd)] 25) = W1 at *
  generalize w7.heap.size = G at *
  generalize (1 + i : Int) = I at *
  generalize (1 + nd : Int) = ND at *
  refine (pick B _ 24 _ HC.out (by omega) (by omega) (by omega)).mono ?_
  rintro e w8 ⟨q, rfl, q0, q1, hc8, hg8⟩
  replace HR := Lib.hid (HR.out.grown hg8 (by omega))
  replace HX := Lib.hid (HX.out.grown hg8 (by omega))
  have hzG5 : G < w8.heap.size := Nat.lt_of_lt_of_le hzG (grown_size hg8)
  replace hg := grown_trans hg hg8
  clear hg8 HC
  cases e1 : (q == 0) with
  | true =>
    have HL := Lib.hid (among_lit B (m + 16) [(0), (20), (21)] w8 (hc8.mono (by omega)) (by omega) (by decide) (by decide))
    go_wp2_with fail
    refine HL.out.mono ?_
    rintro e w9 ⟨v, hv, rfl, hc9, hg9⟩
    replace HC := Lib.hid hc9
    replace HR := Lib.hid (HR.out.grown hg9 (by omega))
    replace HX := Lib.hid (HX.out.grown hg9 (by omega))
    replace hg := grown_trans hg hg9
    have f0 := HX.out.frozen 0
    have c0 := HX.out.cell 0
    replace HC := Lib.hid (cur_set HC.out (p := ⟨G, 0, none⟩) (by show B < G; omega) (.int .i64 v))
    replace HR := Lib.hid (HR.out.far (p := ⟨G, 0, none⟩) (by show R ≠ G; omega) (.int .i64 v))
    replace HX := Lib.hid (show Bx (w9.setCell ⟨G, 0, none⟩ (.int .i64 v)) G 25 #[.int .i64 v, .string x, .int .i64 k, .bool b1, .bool b2, .bool b3, .int .i64 ND] from HX.out.set_ 0 _)
    replace hg := grown_setN w9 ⟨G, 0, none⟩ (.int .i64 v) G B (Nat.le_refl _) w hg (by rw [HRe.out]; show R ≤ G; omega)
    clear HL hv hc9 hg9 hc8
    go_upto_region 11 with fail
    clear f0 c0
    generalize w9.setCell ⟨G, 0, none⟩ (.int .i64 v) = W5 at *
    have k0 := HX.out.cell 0
    have k1 := HX.out.cell 1
    have k2 := HX.out.cell 2
    have k3 := HX.out.cell 3
    have k4 := HX.out.cell 4
    have k5 := HX.out.cell 5
    have k6 := HX.out.cell 6
    have j0 := HR.out.frozen 0
    have j1 := HR.out.frozen 1
    have j2 := HR.out.frozen 2
    have j3 := HR.out.frozen 3
    have j4 := HR.out.frozen 4
    have j5 := HR.out.frozen 5
    have j6 := HR.out.frozen 6
    have l0 := HR.out.cell 0
    have l1 := HR.out.cell 1
    have l2 := HR.out.cell 2
    have l3 := HR.out.cell 3
    have l4 := HR.out.cell 4
    have l5 := HR.out.cell 5
    have l6 := HR.out.cell 6
    have HCf := Lib.hid (cur_set (cur_set (cur_set (cur_set (cur_set (cur_set (cur_set HC.out (p := ⟨R, 0, none⟩) (by show B < R; omega) (.int .i64 v)) (p := ⟨R, 1, none⟩) (by show B < R; omega) (.string x)) (p := ⟨R, 2, none⟩) (by show B < R; omega) (.int .i64 k)) (p := ⟨R, 3, none⟩) (by show B < R; omega) (.bool b1)) (p := ⟨R, 4, none⟩) (by show B < R; omega) (.bool b2)) (p := ⟨R, 5, none⟩) (by show B < R; omega) (.bool b3)) (p := ⟨R, 6, none⟩) (by show B < R; omega) (.int .i64 ND))
    have HRf := Lib.hid (show Bx (((((((W5.setCell ⟨R, 0, none⟩ (.int .i64 v)).setCell ⟨R, 1, none⟩ (.string x)).setCell ⟨R, 2, none⟩ (.int .i64 k)).setCell ⟨R, 3, none⟩ (.bool b1)).setCell ⟨R, 4, none⟩ (.bool b2)).setCell ⟨R, 5, none⟩ (.bool b3)).setCell ⟨R, 6, none⟩ (.int .i64 ND)) R 25 #[.int .i64 v, .string x, .int .i64 k, .bool b1, .bool b2, .bool b3, .int .i64 ND] from (((((((HR.out.set_ 0 (.int .i64 v)).set_ 1 (.string x)).set_ 2 (.int .i64 k)).set_ 3 (.bool b1)).set_ 4 (.bool b2)).set_ 5 (.bool b3)).set_ 6 (.int .i64 ND)))
    have hgf := (grown_setN _ ⟨R, 6, none⟩ (.int .i64 ND) R B (Nat.le_refl _) w (grown_setN _ ⟨R, 5, none⟩ (.bool b3) R B (Nat.le_refl _) w (grown_setN _ ⟨R, 4, none⟩ (.bool b2) R B (Nat.le_refl _) w (grown_setN _ ⟨R, 3, none⟩ (.bool b1) R B (Nat.le_refl _) w (grown_setN _ ⟨R, 2, none⟩ (.int .i64 k) R B (Nat.le_refl _) w (grown_setN _ ⟨R, 1, none⟩ (.string x) R B (Nat.le_refl _) w (grown_setN W5 ⟨R, 0, none⟩ (.int .i64 v) R B (Nat.le_refl _) w hg (by rw [HRe.out]; exact Nat.le_refl _)) (by rw [HRe.out]; exact Nat.le_refl _)) (by rw [HRe.out]; exact Nat.le_refl _)) (by rw [HRe.out]; exact Nat.le_refl _)) (by rw [HRe.out]; exact Nat.le_refl _)) (by rw [HRe.out]; exact Nat.le_refl _)) (by rw [HRe.out]; exact Nat.le_refl _))
    have e0 := HRf.out.cell 0
    have e1 := HRf.out.cell 1
    have e2 := HRf.out.cell 2
    have e3 := HRf.out.cell 3
    have e4 := HRf.out.cell 4
    have e5 := HRf.out.cell 5
    have e6 := HRf.out.cell 6
    go_wp2_with fail
    refine bodyPost_ret (v := .agg #[.int .i64 v, .string x, .int .i64 k, .bool b1, .bool b2, .bool b3, .int .i64 ND]) (by simp [results, Tryd.results29, go_sem, e0, e1, e2, e3, e4, e5, e6]) rfl ⟨⟨v, x, k, b1, b2, b3, ND⟩, rfl, hs, HCf.out.mono (by omega), hgf⟩
  | false =>
    cases e2 : (q == 1) with
    | true =>
      have HL := Lib.hid (of_lit B (m + 16) [⟨#[]⟩, ⟨#[97, 98, 99, 100, 101, 102, 103, 104, 105, 106]⟩, ⟨#[97, 98, 99, 100, 101, 102, 103, 104, 105, 106, 107]⟩, ⟨#[65]⟩, ⟨#[97, 32, 98]⟩] w8 (hc8.mono (by omega)) (by omega) (by decide) (by decide))
      go_wp2_with fail
      refine HL.out.mono ?_
      rintro e w9 ⟨v, hv, rfl, hc9, hg9⟩
      have hsv := small_of [⟨#[]⟩, ⟨#[97, 98, 99, 100, 101, 102, 103, 104, 105, 106]⟩, ⟨#[97, 98, 99, 100, 101, 102, 103, 104, 105, 106, 107]⟩, ⟨#[65]⟩, ⟨#[97, 32, 98]⟩] 11 (by decide +kernel) v hv
      replace HC := Lib.hid hc9
      replace HR := Lib.hid (HR.out.grown hg9 (by omega))
      replace HX := Lib.hid (HX.out.grown hg9 (by omega))
      replace hg := grown_trans hg hg9
      have f0 := HX.out.frozen 1
      have c0 := HX.out.cell 1
      replace HC := Lib.hid (cur_set HC.out (p := ⟨G, 1, none⟩) (by show B < G; omega) (.string v))
      replace HR := Lib.hid (HR.out.far (p := ⟨G, 1, none⟩) (by show R ≠ G; omega) (.string v))
      replace HX := Lib.hid (show Bx (w9.setCell ⟨G, 1, none⟩ (.string v)) G 25 #[.int .i64 I, .string v, .int .i64 k, .bool b1, .bool b2, .bool b3, .int .i64 ND] from HX.out.set_ 1 _)
      replace hg := grown_setN w9 ⟨G, 1, none⟩ (.string v) G B (Nat.le_refl _) w hg (by rw [HRe.out]; show R ≤ G; omega)
      clear HL hv hc9 hg9 hc8
      go_upto_region 11 with fail
      clear f0 c0
      generalize w9.setCell ⟨G, 1, none⟩ (.string v) = W5 at *
      have k0 := HX.out.cell 0
      have k1 := HX.out.cell 1
      have k2 := HX.out.cell 2
      have k3 := HX.out.cell 3
      have k4 := HX.out.cell 4
      have k5 := HX.out.cell 5
      have k6 := HX.out.cell 6
      have j0 := HR.out.frozen 0
      have j1 := HR.out.frozen 1
      have j2 := HR.out.frozen 2
      have j3 := HR.out.frozen 3
      have j4 := HR.out.frozen 4
      have j5 := HR.out.frozen 5
      have j6 := HR.out.frozen 6
      have l0 := HR.out.cell 0
      have l1 := HR.out.cell 1
      have l2 := HR.out.cell 2
      have l3 := HR.out.cell 3
      have l4 := HR.out.cell 4
      have l5 := HR.out.cell 5
      have l6 := HR.out.cell 6
      have HCf := Lib.hid (cur_set (cur_set (cur_set (cur_set (cur_set (cur_set (cur_set HC.out (p := ⟨R, 0, none⟩) (by show B < R; omega) (.int .i64 I)) (p := ⟨R, 1, none⟩) (by show B < R; omega) (.string v)) (p := ⟨R, 2, none⟩) (by show B < R; omega) (.int .i64 k)) (p := ⟨R, 3, none⟩) (by show B < R; omega) (.bool b1)) (p := ⟨R, 4, none⟩) (by show B < R; omega) (.bool b2)) (p := ⟨R, 5, none⟩) (by show B < R; omega) (.bool b3)) (p := ⟨R, 6, none⟩) (by show B < R; omega) (.int .i64 ND))
      have HRf := Lib.hid (show Bx (((((((W5.setCell ⟨R, 0, none⟩ (.int .i64 I)).setCell ⟨R, 1, none⟩ (.string v)).setCell ⟨R, 2, none⟩ (.int .i64 k)).setCell ⟨R, 3, none⟩ (.bool b1)).setCell ⟨R, 4, none⟩ (.bool b2)).setCell ⟨R, 5, none⟩ (.bool b3)).setCell ⟨R, 6, none⟩ (.int .i64 ND)) R 25 #[.int .i64 I, .string v, .int .i64 k, .bool b1, .bool b2, .bool b3, .int .i64 ND] from (((((((HR.out.set_ 0 (.int .i64 I)).set_ 1 (.string v)).set_ 2 (.int .i64 k)).set_ 3 (.bool b1)).set_ 4 (.bool b2)).set_ 5 (.bool b3)).set_ 6 (.int .i64 ND)))
      have hgf := (grown_setN _ ⟨R, 6, none⟩ (.int .i64 ND) R B (Nat.le_refl _) w (grown_setN _ ⟨R, 5, none⟩ (.bool b3) R B (Nat.le_refl _) w (grown_setN _ ⟨R, 4, none⟩ (.bool b2) R B (Nat.le_refl _) w (grown_setN _ ⟨R, 3, none⟩ (.bool b1) R B (Nat.le_refl _) w (grown_setN _ ⟨R, 2, none⟩ (.int .i64 k) R B (Nat.le_refl _) w (grown_setN _ ⟨R, 1, none⟩ (.string v) R B (Nat.le_refl _) w (grown_setN W5 ⟨R, 0, none⟩ (.int .i64 I) R B (Nat.le_refl _) w hg (by rw [HRe.out]; exact Nat.le_refl _)) (by rw [HRe.out]; exact Nat.le_refl _)) (by rw [HRe.out]; exact Nat.le_refl _)) (by rw [HRe.out]; exact Nat.le_refl _)) (by rw [HRe.out]; exact Nat.le_refl _)) (by rw [HRe.out]; exact Nat.le_refl _)) (by rw [HRe.out]; exact Nat.le_refl _))
      have e0 := HRf.out.cell 0
      have e1 := HRf.out.cell 1
      have e2 := HRf.out.cell 2
      have e3 := HRf.out.cell 3
      have e4 := HRf.out.cell 4
      have e5 := HRf.out.cell 5
      have e6 := HRf.out.cell 6
      go_wp2_with fail
      refine bodyPost_ret (v := .agg #[.int .i64 I, .string v, .int .i64 k, .bool b1, .bool b2, .bool b3, .int .i64 ND]) (by simp [results, Tryd.results29, go_sem, e0, e1, e2, e3, e4, e5, e6]) rfl ⟨⟨I, v, k, b1, b2, b3, ND⟩, rfl, hsv, HCf.out.mono (by omega), hgf⟩
    | false =>
      cases e3 : (q == 2) with
      | true =>
        have HL := Lib.hid (among_lit B (m + 16) [(-1), (9), (10)] w8 (hc8.mono (by omega)) (by omega) (by decide) (by decide))
        go_wp2_with fail
        refine HL.out.mono ?_
        rintro e w9 ⟨v, hv, rfl, hc9, hg9⟩
        replace HC := Lib.hid hc9
        replace HR := Lib.hid (HR.out.grown hg9 (by omega))
        replace HX := Lib.hid (HX.out.grown hg9 (by omega))
        replace hg := grown_trans hg hg9
        have f0 := HX.out.frozen 2
        have c0 := HX.out.cell 2
        replace HC := Lib.hid (cur_set HC.out (p := ⟨G, 2, none⟩) (by show B < G; omega) (.int .i64 v))
        replace HR := Lib.hid (HR.out.far (p := ⟨G, 2, none⟩) (by show R ≠ G; omega) (.int .i64 v))
        replace HX := Lib.hid (show Bx (w9.setCell ⟨G, 2, none⟩ (.int .i64 v)) G 25 #[.int .i64 I, .string x, .int .i64 v, .bool b1, .bool b2, .bool b3, .int .i64 ND] from HX.out.set_ 2 _)
        replace hg := grown_setN w9 ⟨G, 2, none⟩ (.int .i64 v) G B (Nat.le_refl _) w hg (by rw [HRe.out]; show R ≤ G; omega)
        clear HL hv hc9 hg9 hc8
        go_upto_region 11 with fail
        clear f0 c0
        generalize w9.setCell ⟨G, 2, none⟩ (.int .i64 v) = W5 at *
        have k0 := HX.out.cell 0
        have k1 := HX.out.cell 1
        have k2 := HX.out.cell 2
        have k3 := HX.out.cell 3
        have k4 := HX.out.cell 4
        have k5 := HX.out.cell 5
        have k6 := HX.out.cell 6
        have j0 := HR.out.frozen 0
        have j1 := HR.out.frozen 1
        have j2 := HR.out.frozen 2
        have j3 := HR.out.frozen 3
        have j4 := HR.out.frozen 4
        have j5 := HR.out.frozen 5
        have j6 := HR.out.frozen 6
        have l0 := HR.out.cell 0
        have l1 := HR.out.cell 1
        have l2 := HR.out.cell 2
        have l3 := HR.out.cell 3
        have l4 := HR.out.cell 4
        have l5 := HR.out.cell 5
        have l6 := HR.out.cell 6
        have HCf := Lib.hid (cur_set (cur_set (cur_set (cur_set (cur_set (cur_set (cur_set HC.out (p := ⟨R, 0, none⟩) (by show B < R; omega) (.int .i64 I)) (p := ⟨R, 1, none⟩) (by show B < R; omega) (.string x)) (p := ⟨R, 2, none⟩) (by show B < R; omega) (.int .i64 v)) (p := ⟨R, 3, none⟩) (by show B < R; omega) (.bool b1)) (p := ⟨R, 4, none⟩) (by show B < R; omega) (.bool b2)) (p := ⟨R, 5, none⟩) (by show B < R; omega) (.bool b3)) (p := ⟨R, 6, none⟩) (by show B < R; omega) (.int .i64 ND))
        have HRf := Lib.hid (show Bx (((((((W5.setCell ⟨R, 0, none⟩ (.int .i64 I)).setCell ⟨R, 1, none⟩ (.string x)).setCell ⟨R, 2, none⟩ (.int .i64 v)).setCell ⟨R, 3, none⟩ (.bool b1)).setCell ⟨R, 4, none⟩ (.bool b2)).setCell ⟨R, 5, none⟩ (.bool b3)).setCell ⟨R, 6, none⟩ (.int .i64 ND)) R 25 #[.int .i64 I, .string x, .int .i64 v, .bool b1, .bool b2, .bool b3, .int .i64 ND] from (((((((HR.out.set_ 0 (.int .i64 I)).set_ 1 (.string x)).set_ 2 (.int .i64 v)).set_ 3 (.bool b1)).set_ 4 (.bool b2)).set_ 5 (.bool b3)).set_ 6 (.int .i64 ND)))
        have hgf := (grown_setN _ ⟨R, 6, none⟩ (.int .i64 ND) R B (Nat.le_refl _) w (grown_setN _ ⟨R, 5, none⟩ (.bool b3) R B (Nat.le_refl _) w (grown_setN _ ⟨R, 4, none⟩ (.bool b2) R B (Nat.le_refl _) w (grown_setN _ ⟨R, 3, none⟩ (.bool b1) R B (Nat.le_refl _) w (grown_setN _ ⟨R, 2, none⟩ (.int .i64 v) R B (Nat.le_refl _) w (grown_setN _ ⟨R, 1, none⟩ (.string x) R B (Nat.le_refl _) w (grown_setN W5 ⟨R, 0, none⟩ (.int .i64 I) R B (Nat.le_refl _) w hg (by rw [HRe.out]; exact Nat.le_refl _)) (by rw [HRe.out]; exact Nat.le_refl _)) (by rw [HRe.out]; exact Nat.le_refl _)) (by rw [HRe.out]; exact Nat.le_refl _)) (by rw [HRe.out]; exact Nat.le_refl _)) (by rw [HRe.out]; exact Nat.le_refl _)) (by rw [HRe.out]; exact Nat.le_refl _))
        have e0 := HRf.out.cell 0
        have e1 := HRf.out.cell 1
        have e2 := HRf.out.cell 2
        have e3 := HRf.out.cell 3
        have e4 := HRf.out.cell 4
        have e5 := HRf.out.cell 5
        have e6 := HRf.out.cell 6
        go_wp2_with fail
        refine bodyPost_ret (v := .agg #[.int .i64 I, .string x, .int .i64 v, .bool b1, .bool b2, .bool b3, .int .i64 ND]) (by simp [results, Tryd.results29, go_sem, e0, e1, e2, e3, e4, e5, e6]) rfl ⟨⟨I, x, v, b1, b2, b3, ND⟩, rfl, hs, HCf.out.mono (by omega), hgf⟩
      | false =>
        cases e4 : (q == 3) with
        | true =>
          have HL := Lib.hid (among_lit B (m + 16) [(0), (4)] w8 (hc8.mono (by omega)) (by omega) (by decide) (by decide))
          go_wp2_with fail
          refine HL.out.mono ?_
          rintro e w9 ⟨v, hv, rfl, hc9, hg9⟩
          replace HC := Lib.hid hc9
          replace HR := Lib.hid (HR.out.grown hg9 (by omega))
          replace HX := Lib.hid (HX.out.grown hg9 (by omega))
          replace hg := grown_trans hg hg9
          have f0 := HX.out.frozen 6
          have c0 := HX.out.cell 6
          replace HC := Lib.hid (cur_set HC.out (p := ⟨G, 6, none⟩) (by show B < G; omega) (.int .i64 v))
          replace HR := Lib.hid (HR.out.far (p := ⟨G, 6, none⟩) (by show R ≠ G; omega) (.int .i64 v))
          replace HX := Lib.hid (show Bx (w9.setCell ⟨G, 6, none⟩ (.int .i64 v)) G 25 #[.int .i64 I, .string x, .int .i64 k, .bool b1, .bool b2, .bool b3, .int .i64 v] from HX.out.set_ 6 _)
          replace hg := grown_setN w9 ⟨G, 6, none⟩ (.int .i64 v) G B (Nat.le_refl _) w hg (by rw [HRe.out]; show R ≤ G; omega)
          clear HL hv hc9 hg9 hc8
          go_upto_region 11 with fail
          clear f0 c0
          generalize w9.setCell ⟨G, 6, none⟩ (.int .i64 v) = W5 at *
          have k0 := HX.out.cell 0
          have k1 := HX.out.cell 1
          have k2 := HX.out.cell 2
          have k3 := HX.out.cell 3
          have k4 := HX.out.cell 4
          have k5 := HX.out.cell 5
          have k6 := HX.out.cell 6
          have j0 := HR.out.frozen 0
          have j1 := HR.out.frozen 1
          have j2 := HR.out.frozen 2
          have j3 := HR.out.frozen 3
          have j4 := HR.out.frozen 4
          have j5 := HR.out.frozen 5
          have j6 := HR.out.frozen 6
          have l0 := HR.out.cell 0
          have l1 := HR.out.cell 1
          have l2 := HR.out.cell 2
          have l3 := HR.out.cell 3
          have l4 := HR.out.cell 4
          have l5 := HR.out.cell 5
          have l6 := HR.out.cell 6
          have HCf := Lib.hid (cur_set (cur_set (cur_set (cur_set (cur_set (cur_set (cur_set HC.out (p := ⟨R, 0, none⟩) (by show B < R; omega) (.int .i64 I)) (p := ⟨R, 1, none⟩) (by show B < R; omega) (.string x)) (p := ⟨R, 2, none⟩) (by show B < R; omega) (.int .i64 k)) (p := ⟨R, 3, none⟩) (by show B < R; omega) (.bool b1)) (p := ⟨R, 4, none⟩) (by show B < R; omega) (.bool b2)) (p := ⟨R, 5, none⟩) (by show B < R; omega) (.bool b3)) (p := ⟨R, 6, none⟩) (by show B < R; omega) (.int .i64 v))
          have HRf := Lib.hid (show Bx (((((((W5.setCell ⟨R, 0, none⟩ (.int .i64 I)).setCell ⟨R, 1, none⟩ (.string x)).setCell ⟨R, 2, none⟩ (.int .i64 k)).setCell ⟨R, 3, none⟩ (.bool b1)).setCell ⟨R, 4, none⟩ (.bool b2)).setCell ⟨R, 5, none⟩ (.bool b3)).setCell ⟨R, 6, none⟩ (.int .i64 v)) R 25 #[.int .i64 I, .string x, .int .i64 k, .bool b1, .bool b2, .bool b3, .int .i64 v] from (((((((HR.out.set_ 0 (.int .i64 I)).set_ 1 (.string x)).set_ 2 (.int .i64 k)).set_ 3 (.bool b1)).set_ 4 (.bool b2)).set_ 5 (.bool b3)).set_ 6 (.int .i64 v)))
          have hgf := (grown_setN _ ⟨R, 6, none⟩ (.int .i64 v) R B (Nat.le_refl _) w (grown_setN _ ⟨R, 5, none⟩ (.bool b3) R B (Nat.le_refl _) w (grown_setN _ ⟨R, 4, none⟩ (.bool b2) R B (Nat.le_refl _) w (grown_setN _ ⟨R, 3, none⟩ (.bool b1) R B (Nat.le_refl _) w (grown_setN _ ⟨R, 2, none⟩ (.int .i64 k) R B (Nat.le_refl _) w (grown_setN _ ⟨R, 1, none⟩ (.string x) R B (Nat.le_refl _) w (grown_setN W5 ⟨R, 0, none⟩ (.int .i64 I) R B (Nat.le_refl _) w hg (by rw [HRe.out]; exact Nat.le_refl _)) (by rw [HRe.out]; exact Nat.le_refl _)) (by rw [HRe.out]; exact Nat.le_refl _)) (by rw [HRe.out]; exact Nat.le_refl _)) (by rw [HRe.out]; exact Nat.le_refl _)) (by rw [HRe.out]; exact Nat.le_refl _)) (by rw [HRe.out]; exact Nat.le_refl _))
          have e0 := HRf.out.cell 0
          have e1 := HRf.out.cell 1
          have e2 := HRf.out.cell 2
          have e3 := HRf.out.cell 3
          have e4 := HRf.out.cell 4
          have e5 := HRf.out.cell 5
          have e6 := HRf.out.cell 6
          go_wp2_with fail
          refine bodyPost_ret (v := .agg #[.int .i64 I, .string x, .int .i64 k, .bool b1, .bool b2, .bool b3, .int .i64 v]) (by simp [results, Tryd.results29, go_sem, e0, e1, e2, e3, e4, e5, e6]) rfl ⟨⟨I, x, k, b1, b2, b3, v⟩, rfl, hs, HCf.out.mono (by omega), hgf⟩
        | false =>
          have HC := Lib.hid hc8
          go_upto_region 11 with fail
          clear hc8
          generalize w8 = W5 at *
          have k0 := HX.out.cell 0
          have k1 := HX.out.cell 1
          have k2 := HX.out.cell 2
          have k3 := HX.out.cell 3
          have k4 := HX.out.cell 4
          have k5 := HX.out.cell 5
          have k6 := HX.out.cell 6
          have j0 := HR.out.frozen 0
          have j1 := HR.out.frozen 1
          have j2 := HR.out.frozen 2
          have j3 := HR.out.frozen 3
          have j4 := HR.out.frozen 4
          have j5 := HR.out.frozen 5
          have j6 := HR.out.frozen 6
          have l0 := HR.out.cell 0
          have l1 := HR.out.cell 1
          have l2 := HR.out.cell 2
          have l3 := HR.out.cell 3
          have l4 := HR.out.cell 4
          have l5 := HR.out.cell 5
          have l6 := HR.out.cell 6
          have HCf := Lib.hid (cur_set (cur_set (cur_set (cur_set (cur_set (cur_set (cur_set HC.out (p := ⟨R, 0, none⟩) (by show B < R; omega) (.int .i64 I)) (p := ⟨R, 1, none⟩) (by show B < R; omega) (.string x)) (p := ⟨R, 2, none⟩) (by show B < R; omega) (.int .i64 k)) (p := ⟨R, 3, none⟩) (by show B < R; omega) (.bool b1)) (p := ⟨R, 4, none⟩) (by show B < R; omega) (.bool b2)) (p := ⟨R, 5, none⟩) (by show B < R; omega) (.bool b3)) (p := ⟨R, 6, none⟩) (by show B < R; omega) (.int .i64 ND))
          have HRf := Lib.hid (show Bx (((((((W5.setCell ⟨R, 0, none⟩ (.int .i64 I)).setCell ⟨R, 1, none⟩ (.string x)).setCell ⟨R, 2, none⟩ (.int .i64 k)).setCell ⟨R, 3, none⟩ (.bool b1)).setCell ⟨R, 4, none⟩ (.bool b2)).setCell ⟨R, 5, none⟩ (.bool b3)).setCell ⟨R, 6, none⟩ (.int .i64 ND)) R 25 #[.int .i64 I, .string x, .int .i64 k, .bool b1, .bool b2, .bool b3, .int .i64 ND] from (((((((HR.out.set_ 0 (.int .i64 I)).set_ 1 (.string x)).set_ 2 (.int .i64 k)).set_ 3 (.bool b1)).set_ 4 (.bool b2)).set_ 5 (.bool b3)).set_ 6 (.int .i64 ND)))
          have hgf := (grown_setN _ ⟨R, 6, none⟩ (.int .i64 ND) R B (Nat.le_refl _) w (grown_setN _ ⟨R, 5, none⟩ (.bool b3) R B (Nat.le_refl _) w (grown_setN _ ⟨R, 4, none⟩ (.bool b2) R B (Nat.le_refl _) w (grown_setN _ ⟨R, 3, none⟩ (.bool b1) R B (Nat.le_refl _) w (grown_setN _ ⟨R, 2, none⟩ (.int .i64 k) R B (Nat.le_refl _) w (grown_setN _ ⟨R, 1, none⟩ (.string x) R B (Nat.le_refl _) w (grown_setN W5 ⟨R, 0, none⟩ (.int .i64 I) R B (Nat.le_refl _) w hg (by rw [HRe.out]; exact Nat.le_refl _)) (by rw [HRe.out]; exact Nat.le_refl _)) (by rw [HRe.out]; exact Nat.le_refl _)) (by rw [HRe.out]; exact Nat.le_refl _)) (by rw [HRe.out]; exact Nat.le_refl _)) (by rw [HRe.out]; exact Nat.le_refl _)) (by rw [HRe.out]; exact Nat.le_refl _))
          have e0 := HRf.out.cell 0
          have e1 := HRf.out.cell 1
          have e2 := HRf.out.cell 2
          have e3 := HRf.out.cell 3
          have e4 := HRf.out.cell 4
          have e5 := HRf.out.cell 5
          have e6 := HRf.out.cell 6
          go_wp2_with fail
          refine bodyPost_ret (v := .agg #[.int .i64 I, .string x, .int .i64 k, .bool b1, .bool b2, .bool b3, .int .i64 ND]) (by simp [results, Tryd.results29, go_sem, e0, e1, e2, e3, e4, e5, e6]) rfl ⟨⟨I, x, k, b1, b2, b3, ND⟩, rfl, hs, HCf.out.mono (by omega), hgf⟩
end Go.Proofs.YtankaffhapcnaaaDoor.Draw
