/- AddTallies: what it answers, on both sides. No condition. -/
import Derived.Test.YtkdiedmbikkbiaaDoorTalG
import Derived.Test.YtkdiedmbikkbiaaDoorLTallyZ
namespace Go.Proofs.YtkdiedmbikkbiaaDoor.AddTalliesC
open Go.RowKit Bs Word Tal TalS TalG
set_option linter.unusedVariables false
def Ans (a0 a1 : T) (r0 : T) (r1 : Bool) : Prop := addA a0 a1 = (r0, r1)
theorem same {a0 a1 r0 s0 : T} {r1 s1 : Bool} (h1 : Ans a0 a1 r0 r1) (h2 : Ans a0 a1 s0 s1) : r0 = s0 ∧ r1 = s1 := by
  have h := h1.symm.trans h2
  exact ⟨congrArg Prod.fst h, congrArg Prod.snd h⟩
def Post (a0 a1 : T) (w : World) (e : Ending) (w' : World) : Prop := ∃ r0 r1, e = .returned (.tuple #[.agg #[.int .i64 r0.yes, .int .i64 r0.no, .int .i64 r0.abstain], .bool r1]) ∧ Ans a0 a1 r0 r1 ∧ Below w.heap.size w w'
theorem put3 {w : World} {G : Nat} {t : TypeId} {a b c : Value} (h : Bx w G t #[a, b, c]) (x y z : Value) : (((w.setCell ⟨G, 0, none⟩ x).setCell ⟨G, 1, none⟩ y).setCell ⟨G, 2, none⟩ z).cell? ⟨G, 0, none⟩ = some x ∧ (((w.setCell ⟨G, 0, none⟩ x).setCell ⟨G, 1, none⟩ y).setCell ⟨G, 2, none⟩ z).cell? ⟨G, 1, none⟩ = some y ∧ (((w.setCell ⟨G, 0, none⟩ x).setCell ⟨G, 1, none⟩ y).setCell ⟨G, 2, none⟩ z).cell? ⟨G, 2, none⟩ = some z := by
  have h3 := ((h.set_ 0 x).set_ 1 y).set_ 2 z
  exact ⟨h3.cell 0, h3.cell 1, h3.cell 2⟩
theorem bx0 (w : World) (t : TypeId) (cs : Array Value) : Bx (w.alloc (.cells cs t)) w.heap.size t cs := Bx.new w t cs
theorem bx1 (w : World) (o : Obj) (t : TypeId) (cs : Array Value) : Bx ((w.alloc o).alloc (.cells cs t)) (w.heap.size + 1) t cs := by have h := Bx.new (w.alloc o) t cs; rwa [World.size_alloc] at h
theorem bx2 (w : World) (o o2 : Obj) (t : TypeId) (cs : Array Value) : Bx (((w.alloc o).alloc o2).alloc (.cells cs t)) (w.heap.size + 1 + 1) t cs := by have h := Bx.new ((w.alloc o).alloc o2) t cs; rwa [World.size_alloc, World.size_alloc] at h
theorem bx3 (w : World) (o o2 o3 : Obj) (t : TypeId) (cs : Array Value) : Bx ((((w.alloc o).alloc o2).alloc o3).alloc (.cells cs t)) (w.heap.size + 1 + 1 + 1) t cs := by have h := Bx.new (((w.alloc o).alloc o2).alloc o3) t cs; rwa [World.size_alloc, World.size_alloc, World.size_alloc] at h
set_option maxRecDepth 100000 in
set_option maxHeartbeats 1600000 in
theorem spec (a0 a1 : T) (w : World) (f0 : LTally.Fine a0) (f1 : LTally.Fine a1) : Calls Tryd.prog 18 #[.agg #[.int .i64 a0.yes, .int .i64 a0.no, .int .i64 a0.abstain], .agg #[.int .i64 a1.yes, .int .i64 a1.no, .int .i64 a1.abstain]] w (Post a0 a1 w) := by
  obtain ⟨y, n, a⟩ := a0
  obtain ⟨y2, n2, a2⟩ := a1
  simp only
  obtain ⟨ys, hys⟩ : ∃ c, IntKind.i64.wrap (y + y2) = c := ⟨_, rfl⟩
  obtain ⟨ns, hns⟩ : ∃ c, IntKind.i64.wrap (n + n2) = c := ⟨_, rfl⟩
  obtain ⟨ks, hks⟩ : ∃ c, IntKind.i64.wrap (a + a2) = c := ⟨_, rfl⟩
  obtain ⟨W, hW⟩ : ∃ W : World, W = (((w.alloc (Obj.cells #[.int .i64 y, .int .i64 n, .int .i64 a] 25)).alloc (Obj.cells #[.int .i64 y2, .int .i64 n2, .int .i64 a2] 25)).alloc (Obj.cells #[.int .i64 0, .int .i64 0, .int .i64 0] 25)).alloc (Obj.cells #[.int .i64 ys, .int .i64 ns, .int .i64 ks] 25) := ⟨_, rfl⟩
  have hb : Below w.heap.size w W := by rw [hW]; exact ((((Below.refl w.heap.size w).alloc (Nat.le_refl _) _).alloc (by simp) _).alloc (by simp; omega) _).alloc (by simp; omega) _
  have P0 := Lib.hid (show Bx W w.heap.size 25 #[.int .i64 y, .int .i64 n, .int .i64 a] by rw [hW]; exact ((((bx0 _ _ _).alloc _).alloc _).alloc _))
  have P1 := Lib.hid (show Bx W (w.heap.size + 1) 25 #[.int .i64 y2, .int .i64 n2, .int .i64 a2] by rw [hW]; exact (((bx1 _ _ _ _).alloc _).alloc _))
  have P2 := Lib.hid (show Bx W (w.heap.size + 1 + 1) 25 #[.int .i64 0, .int .i64 0, .int .i64 0] by rw [hW]; exact ((bx2 _ _ _ _ _).alloc _))
  have P3 := Lib.hid (show Bx W (w.heap.size + 1 + 1 + 1) 25 #[.int .i64 ys, .int .i64 ns, .int .i64 ks] by rw [hW]; exact (bx3 _ _ _ _ _ _))
  have p0_0 := P0.out.cell 0
  have p0_1 := P0.out.cell 1
  have p0_2 := P0.out.cell 2
  simp only [List.getElem?_toArray, List.getElem?_cons_zero, List.getElem?_cons_succ] at p0_0 p0_1 p0_2
  have p1_0 := P1.out.cell 0
  have p1_1 := P1.out.cell 1
  have p1_2 := P1.out.cell 2
  simp only [List.getElem?_toArray, List.getElem?_cons_zero, List.getElem?_cons_succ] at p1_0 p1_1 p1_2
  have p2_0 := P2.out.cell 0
  have p2_1 := P2.out.cell 1
  have p2_2 := P2.out.cell 2
  simp only [List.getElem?_toArray, List.getElem?_cons_zero, List.getElem?_cons_succ] at p2_0 p2_1 p2_2
  have p3_0 := P3.out.cell 0
  have p3_1 := P3.out.cell 1
  have p3_2 := P3.out.cell 2
  simp only [List.getElem?_toArray, List.getElem?_cons_zero, List.getElem?_cons_succ] at p3_0 p3_1 p3_2
  have f2_0 := P2.out.frozen 0
  have f2_1 := P2.out.frozen 1
  have f2_2 := P2.out.frozen 2
  have HG := Lib.hid (fun b (hx : good ⟨y, n, a⟩ = b) W => l11Good ⟨y, n, a⟩ b hx W)
  have HG2 := Lib.hid (fun b (hx : good ⟨y2, n2, a2⟩ = b) W => l11Good ⟨y2, n2, a2⟩ b hx W)
  have HG3 := Lib.hid (fun b (hx : good ⟨ys, ns, ks⟩ = b) W => l11Good ⟨ys, ns, ks⟩ b hx W)
  simp only at HG HG2 HG3
  have HEQ := Lib.hid (show good ⟨y, n, a⟩ = true → good ⟨y2, n2, a2⟩ = true → sum ⟨y, n, a⟩ ⟨y2, n2, a2⟩ = ⟨ys, ns, ks⟩ from fun h1 h2 => by
    have g1 := good_parts h1
    have g2 := good_parts h2
    simp only at g1 g2
    have e1 : y + y2 = ys := by rw [← hys]; exact (IntWalk.i64_in _ (by omega)).symm
    have e2 : n + n2 = ns := by rw [← hns]; exact (IntWalk.i64_in _ (by omega)).symm
    have e3 : a + a2 = ks := by rw [← hks]; exact (IntWalk.i64_in _ (by omega)).symm
    unfold sum
    simp only [e1, e2, e3])
  cases h1 : good ⟨y, n, a⟩ with
  | false =>
    have HA := Lib.hid (show Ans ⟨y, n, a⟩ ⟨y2, n2, a2⟩ zero false by unfold Ans addA; rw [if_neg (fun h => by rw [h1] at h; exact absurd h.1 (by simp))])
    replace HG := Lib.hid (HG.out _ h1)
    clear h1 HEQ HG2 HG3
    go_enter Tryd.func18, Tryd.ntmps18
    go_wp2_with fail
    rw [← hW]
    clear hW
    refine HG.out _ |>.mono ?_
    rintro e w1 ⟨rfl, hb2⟩
    clear p0_0 p0_1 p0_2 p1_0 p1_1 p1_2 p2_0 p2_1 p2_2 p3_0 p3_1 p3_2 f2_0 f2_1 f2_2
    replace P0 := Lib.hid (P0.out.kept hb2)
    replace P1 := Lib.hid (P1.out.kept hb2)
    replace P2 := Lib.hid (P2.out.kept hb2)
    replace P3 := Lib.hid (P3.out.kept hb2)
    replace hb := hb.trans (hb2.mono hb.size)
    clear hb2
    have p0_0 := P0.out.cell 0
    have p0_1 := P0.out.cell 1
    have p0_2 := P0.out.cell 2
    simp only [List.getElem?_toArray, List.getElem?_cons_zero, List.getElem?_cons_succ] at p0_0 p0_1 p0_2
    have p1_0 := P1.out.cell 0
    have p1_1 := P1.out.cell 1
    have p1_2 := P1.out.cell 2
    simp only [List.getElem?_toArray, List.getElem?_cons_zero, List.getElem?_cons_succ] at p1_0 p1_1 p1_2
    have p2_0 := P2.out.cell 0
    have p2_1 := P2.out.cell 1
    have p2_2 := P2.out.cell 2
    simp only [List.getElem?_toArray, List.getElem?_cons_zero, List.getElem?_cons_succ] at p2_0 p2_1 p2_2
    have p3_0 := P3.out.cell 0
    have p3_1 := P3.out.cell 1
    have p3_2 := P3.out.cell 2
    simp only [List.getElem?_toArray, List.getElem?_cons_zero, List.getElem?_cons_succ] at p3_0 p3_1 p3_2
    have f2_0 := P2.out.frozen 0
    have f2_1 := P2.out.frozen 1
    have f2_2 := P2.out.frozen 2
    go_wp2_with fail
    have HBF := ((hb.setCell (p := ⟨w.heap.size + 1 + 1, 0, none⟩) (by simp; omega) (.int .i64 0)).setCell (p := ⟨w.heap.size + 1 + 1, 1, none⟩) (by simp; omega) (.int .i64 0)).setCell (p := ⟨w.heap.size + 1 + 1, 2, none⟩) (by simp; omega) (.int .i64 0)
    obtain ⟨y0, y1, y2⟩ := put3 P2.out (.int .i64 0) (.int .i64 0) (.int .i64 0)
    (try simp only [Exit.inBlock, Exit.then])
    refine bodyPost_ret (v := .tuple #[.agg #[.int .i64 0, .int .i64 0, .int .i64 0], .bool false]) (by rw [results_cell_tmp rfl]; go_simp) rfl ?_
    exact ⟨zero, false, rfl, HA.out, HBF⟩
  | true =>
  replace HG := Lib.hid (HG.out _ h1)
  cases h2 : good ⟨y2, n2, a2⟩ with
  | false =>
    have HA := Lib.hid (show Ans ⟨y, n, a⟩ ⟨y2, n2, a2⟩ zero false by unfold Ans addA; rw [if_neg (fun h => by rw [h2] at h; exact absurd h.2.1 (by simp))])
    replace HG2 := Lib.hid (HG2.out _ h2)
    clear h1 h2 HEQ HG3
    go_enter Tryd.func18, Tryd.ntmps18
    go_wp2_with fail
    rw [← hW]
    clear hW
    refine HG.out _ |>.mono ?_
    rintro e w1 ⟨rfl, hb2⟩
    clear p0_0 p0_1 p0_2 p1_0 p1_1 p1_2 p2_0 p2_1 p2_2 p3_0 p3_1 p3_2 f2_0 f2_1 f2_2
    replace P0 := Lib.hid (P0.out.kept hb2)
    replace P1 := Lib.hid (P1.out.kept hb2)
    replace P2 := Lib.hid (P2.out.kept hb2)
    replace P3 := Lib.hid (P3.out.kept hb2)
    replace hb := hb.trans (hb2.mono hb.size)
    clear hb2
    have p0_0 := P0.out.cell 0
    have p0_1 := P0.out.cell 1
    have p0_2 := P0.out.cell 2
    simp only [List.getElem?_toArray, List.getElem?_cons_zero, List.getElem?_cons_succ] at p0_0 p0_1 p0_2
    have p1_0 := P1.out.cell 0
    have p1_1 := P1.out.cell 1
    have p1_2 := P1.out.cell 2
    simp only [List.getElem?_toArray, List.getElem?_cons_zero, List.getElem?_cons_succ] at p1_0 p1_1 p1_2
    have p2_0 := P2.out.cell 0
    have p2_1 := P2.out.cell 1
    have p2_2 := P2.out.cell 2
    simp only [List.getElem?_toArray, List.getElem?_cons_zero, List.getElem?_cons_succ] at p2_0 p2_1 p2_2
    have p3_0 := P3.out.cell 0
    have p3_1 := P3.out.cell 1
    have p3_2 := P3.out.cell 2
    simp only [List.getElem?_toArray, List.getElem?_cons_zero, List.getElem?_cons_succ] at p3_0 p3_1 p3_2
    have f2_0 := P2.out.frozen 0
    have f2_1 := P2.out.frozen 1
    have f2_2 := P2.out.frozen 2
    go_wp2_with fail
    refine HG2.out _ |>.mono ?_
    rintro e w2 ⟨rfl, hb2⟩
    clear p0_0 p0_1 p0_2 p1_0 p1_1 p1_2 p2_0 p2_1 p2_2 p3_0 p3_1 p3_2 f2_0 f2_1 f2_2
    replace P0 := Lib.hid (P0.out.kept hb2)
    replace P1 := Lib.hid (P1.out.kept hb2)
    replace P2 := Lib.hid (P2.out.kept hb2)
    replace P3 := Lib.hid (P3.out.kept hb2)
    replace hb := hb.trans (hb2.mono hb.size)
    clear hb2
    have p0_0 := P0.out.cell 0
    have p0_1 := P0.out.cell 1
    have p0_2 := P0.out.cell 2
    simp only [List.getElem?_toArray, List.getElem?_cons_zero, List.getElem?_cons_succ] at p0_0 p0_1 p0_2
    have p1_0 := P1.out.cell 0
    have p1_1 := P1.out.cell 1
    have p1_2 := P1.out.cell 2
    simp only [List.getElem?_toArray, List.getElem?_cons_zero, List.getElem?_cons_succ] at p1_0 p1_1 p1_2
    have p2_0 := P2.out.cell 0
    have p2_1 := P2.out.cell 1
    have p2_2 := P2.out.cell 2
    simp only [List.getElem?_toArray, List.getElem?_cons_zero, List.getElem?_cons_succ] at p2_0 p2_1 p2_2
    have p3_0 := P3.out.cell 0
    have p3_1 := P3.out.cell 1
    have p3_2 := P3.out.cell 2
    simp only [List.getElem?_toArray, List.getElem?_cons_zero, List.getElem?_cons_succ] at p3_0 p3_1 p3_2
    have f2_0 := P2.out.frozen 0
    have f2_1 := P2.out.frozen 1
    have f2_2 := P2.out.frozen 2
    go_wp2_with fail
    have HBF := ((hb.setCell (p := ⟨w.heap.size + 1 + 1, 0, none⟩) (by simp; omega) (.int .i64 0)).setCell (p := ⟨w.heap.size + 1 + 1, 1, none⟩) (by simp; omega) (.int .i64 0)).setCell (p := ⟨w.heap.size + 1 + 1, 2, none⟩) (by simp; omega) (.int .i64 0)
    obtain ⟨y0, y1, y2⟩ := put3 P2.out (.int .i64 0) (.int .i64 0) (.int .i64 0)
    (try simp only [Exit.inBlock, Exit.then])
    refine bodyPost_ret (v := .tuple #[.agg #[.int .i64 0, .int .i64 0, .int .i64 0], .bool false]) (by rw [results_cell_tmp rfl]; go_simp) rfl ?_
    exact ⟨zero, false, rfl, HA.out, HBF⟩
  | true =>
  replace HG2 := Lib.hid (HG2.out _ h2)
  have HS := HEQ.out h1 h2
  clear HEQ
  cases h3 : good ⟨ys, ns, ks⟩ with
  | false =>
    have HA := Lib.hid (show Ans ⟨y, n, a⟩ ⟨y2, n2, a2⟩ zero false by unfold Ans addA; rw [if_neg (fun h => by rw [HS, h3] at h; exact absurd h.2.2 (by simp))])
    replace HG3 := Lib.hid (HG3.out _ h3)
    clear h1 h2 h3 HS
    go_enter Tryd.func18, Tryd.ntmps18
    go_wp2_with fail
    rw [← hW]
    clear hW
    refine HG.out _ |>.mono ?_
    rintro e w1 ⟨rfl, hb2⟩
    clear p0_0 p0_1 p0_2 p1_0 p1_1 p1_2 p2_0 p2_1 p2_2 p3_0 p3_1 p3_2 f2_0 f2_1 f2_2
    replace P0 := Lib.hid (P0.out.kept hb2)
    replace P1 := Lib.hid (P1.out.kept hb2)
    replace P2 := Lib.hid (P2.out.kept hb2)
    replace P3 := Lib.hid (P3.out.kept hb2)
    replace hb := hb.trans (hb2.mono hb.size)
    clear hb2
    have p0_0 := P0.out.cell 0
    have p0_1 := P0.out.cell 1
    have p0_2 := P0.out.cell 2
    simp only [List.getElem?_toArray, List.getElem?_cons_zero, List.getElem?_cons_succ] at p0_0 p0_1 p0_2
    have p1_0 := P1.out.cell 0
    have p1_1 := P1.out.cell 1
    have p1_2 := P1.out.cell 2
    simp only [List.getElem?_toArray, List.getElem?_cons_zero, List.getElem?_cons_succ] at p1_0 p1_1 p1_2
    have p2_0 := P2.out.cell 0
    have p2_1 := P2.out.cell 1
    have p2_2 := P2.out.cell 2
    simp only [List.getElem?_toArray, List.getElem?_cons_zero, List.getElem?_cons_succ] at p2_0 p2_1 p2_2
    have p3_0 := P3.out.cell 0
    have p3_1 := P3.out.cell 1
    have p3_2 := P3.out.cell 2
    simp only [List.getElem?_toArray, List.getElem?_cons_zero, List.getElem?_cons_succ] at p3_0 p3_1 p3_2
    have f2_0 := P2.out.frozen 0
    have f2_1 := P2.out.frozen 1
    have f2_2 := P2.out.frozen 2
    go_wp2_with fail
    refine HG2.out _ |>.mono ?_
    rintro e w2 ⟨rfl, hb2⟩
    clear p0_0 p0_1 p0_2 p1_0 p1_1 p1_2 p2_0 p2_1 p2_2 p3_0 p3_1 p3_2 f2_0 f2_1 f2_2
    replace P0 := Lib.hid (P0.out.kept hb2)
    replace P1 := Lib.hid (P1.out.kept hb2)
    replace P2 := Lib.hid (P2.out.kept hb2)
    replace P3 := Lib.hid (P3.out.kept hb2)
    replace hb := hb.trans (hb2.mono hb.size)
    clear hb2
    have p0_0 := P0.out.cell 0
    have p0_1 := P0.out.cell 1
    have p0_2 := P0.out.cell 2
    simp only [List.getElem?_toArray, List.getElem?_cons_zero, List.getElem?_cons_succ] at p0_0 p0_1 p0_2
    have p1_0 := P1.out.cell 0
    have p1_1 := P1.out.cell 1
    have p1_2 := P1.out.cell 2
    simp only [List.getElem?_toArray, List.getElem?_cons_zero, List.getElem?_cons_succ] at p1_0 p1_1 p1_2
    have p2_0 := P2.out.cell 0
    have p2_1 := P2.out.cell 1
    have p2_2 := P2.out.cell 2
    simp only [List.getElem?_toArray, List.getElem?_cons_zero, List.getElem?_cons_succ] at p2_0 p2_1 p2_2
    have p3_0 := P3.out.cell 0
    have p3_1 := P3.out.cell 1
    have p3_2 := P3.out.cell 2
    simp only [List.getElem?_toArray, List.getElem?_cons_zero, List.getElem?_cons_succ] at p3_0 p3_1 p3_2
    have f2_0 := P2.out.frozen 0
    have f2_1 := P2.out.frozen 1
    have f2_2 := P2.out.frozen 2
    go_wp2_with fail
    refine HG3.out _ |>.mono ?_
    rintro e w3 ⟨rfl, hb2⟩
    clear p0_0 p0_1 p0_2 p1_0 p1_1 p1_2 p2_0 p2_1 p2_2 p3_0 p3_1 p3_2 f2_0 f2_1 f2_2
    replace P0 := Lib.hid (P0.out.kept hb2)
    replace P1 := Lib.hid (P1.out.kept hb2)
    replace P2 := Lib.hid (P2.out.kept hb2)
    replace P3 := Lib.hid (P3.out.kept hb2)
    replace hb := hb.trans (hb2.mono hb.size)
    clear hb2
    have p0_0 := P0.out.cell 0
    have p0_1 := P0.out.cell 1
    have p0_2 := P0.out.cell 2
    simp only [List.getElem?_toArray, List.getElem?_cons_zero, List.getElem?_cons_succ] at p0_0 p0_1 p0_2
    have p1_0 := P1.out.cell 0
    have p1_1 := P1.out.cell 1
    have p1_2 := P1.out.cell 2
    simp only [List.getElem?_toArray, List.getElem?_cons_zero, List.getElem?_cons_succ] at p1_0 p1_1 p1_2
    have p2_0 := P2.out.cell 0
    have p2_1 := P2.out.cell 1
    have p2_2 := P2.out.cell 2
    simp only [List.getElem?_toArray, List.getElem?_cons_zero, List.getElem?_cons_succ] at p2_0 p2_1 p2_2
    have p3_0 := P3.out.cell 0
    have p3_1 := P3.out.cell 1
    have p3_2 := P3.out.cell 2
    simp only [List.getElem?_toArray, List.getElem?_cons_zero, List.getElem?_cons_succ] at p3_0 p3_1 p3_2
    have f2_0 := P2.out.frozen 0
    have f2_1 := P2.out.frozen 1
    have f2_2 := P2.out.frozen 2
    go_wp2_with fail
    have HBF := ((hb.setCell (p := ⟨w.heap.size + 1 + 1, 0, none⟩) (by simp; omega) (.int .i64 0)).setCell (p := ⟨w.heap.size + 1 + 1, 1, none⟩) (by simp; omega) (.int .i64 0)).setCell (p := ⟨w.heap.size + 1 + 1, 2, none⟩) (by simp; omega) (.int .i64 0)
    obtain ⟨y0, y1, y2⟩ := put3 P2.out (.int .i64 0) (.int .i64 0) (.int .i64 0)
    (try simp only [Exit.inBlock, Exit.then])
    refine bodyPost_ret (v := .tuple #[.agg #[.int .i64 0, .int .i64 0, .int .i64 0], .bool false]) (by rw [results_cell_tmp rfl]; go_simp) rfl ?_
    exact ⟨zero, false, rfl, HA.out, HBF⟩
  | true =>
    have HA := Lib.hid (show Ans ⟨y, n, a⟩ ⟨y2, n2, a2⟩ ⟨ys, ns, ks⟩ true by unfold Ans addA; rw [HS, if_pos ⟨h1, h2, h3⟩])
    replace HG3 := Lib.hid (HG3.out _ h3)
    clear h1 h2 h3 HS
    go_enter Tryd.func18, Tryd.ntmps18
    go_wp2_with fail
    rw [← hW]
    clear hW
    refine HG.out _ |>.mono ?_
    rintro e w1 ⟨rfl, hb2⟩
    clear p0_0 p0_1 p0_2 p1_0 p1_1 p1_2 p2_0 p2_1 p2_2 p3_0 p3_1 p3_2 f2_0 f2_1 f2_2
    replace P0 := Lib.hid (P0.out.kept hb2)
    replace P1 := Lib.hid (P1.out.kept hb2)
    replace P2 := Lib.hid (P2.out.kept hb2)
    replace P3 := Lib.hid (P3.out.kept hb2)
    replace hb := hb.trans (hb2.mono hb.size)
    clear hb2
    have p0_0 := P0.out.cell 0
    have p0_1 := P0.out.cell 1
    have p0_2 := P0.out.cell 2
    simp only [List.getElem?_toArray, List.getElem?_cons_zero, List.getElem?_cons_succ] at p0_0 p0_1 p0_2
    have p1_0 := P1.out.cell 0
    have p1_1 := P1.out.cell 1
    have p1_2 := P1.out.cell 2
    simp only [List.getElem?_toArray, List.getElem?_cons_zero, List.getElem?_cons_succ] at p1_0 p1_1 p1_2
    have p2_0 := P2.out.cell 0
    have p2_1 := P2.out.cell 1
    have p2_2 := P2.out.cell 2
    simp only [List.getElem?_toArray, List.getElem?_cons_zero, List.getElem?_cons_succ] at p2_0 p2_1 p2_2
    have p3_0 := P3.out.cell 0
    have p3_1 := P3.out.cell 1
    have p3_2 := P3.out.cell 2
    simp only [List.getElem?_toArray, List.getElem?_cons_zero, List.getElem?_cons_succ] at p3_0 p3_1 p3_2
    have f2_0 := P2.out.frozen 0
    have f2_1 := P2.out.frozen 1
    have f2_2 := P2.out.frozen 2
    go_wp2_with fail
    refine HG2.out _ |>.mono ?_
    rintro e w2 ⟨rfl, hb2⟩
    clear p0_0 p0_1 p0_2 p1_0 p1_1 p1_2 p2_0 p2_1 p2_2 p3_0 p3_1 p3_2 f2_0 f2_1 f2_2
    replace P0 := Lib.hid (P0.out.kept hb2)
    replace P1 := Lib.hid (P1.out.kept hb2)
    replace P2 := Lib.hid (P2.out.kept hb2)
    replace P3 := Lib.hid (P3.out.kept hb2)
    replace hb := hb.trans (hb2.mono hb.size)
    clear hb2
    have p0_0 := P0.out.cell 0
    have p0_1 := P0.out.cell 1
    have p0_2 := P0.out.cell 2
    simp only [List.getElem?_toArray, List.getElem?_cons_zero, List.getElem?_cons_succ] at p0_0 p0_1 p0_2
    have p1_0 := P1.out.cell 0
    have p1_1 := P1.out.cell 1
    have p1_2 := P1.out.cell 2
    simp only [List.getElem?_toArray, List.getElem?_cons_zero, List.getElem?_cons_succ] at p1_0 p1_1 p1_2
    have p2_0 := P2.out.cell 0
    have p2_1 := P2.out.cell 1
    have p2_2 := P2.out.cell 2
    simp only [List.getElem?_toArray, List.getElem?_cons_zero, List.getElem?_cons_succ] at p2_0 p2_1 p2_2
    have p3_0 := P3.out.cell 0
    have p3_1 := P3.out.cell 1
    have p3_2 := P3.out.cell 2
    simp only [List.getElem?_toArray, List.getElem?_cons_zero, List.getElem?_cons_succ] at p3_0 p3_1 p3_2
    have f2_0 := P2.out.frozen 0
    have f2_1 := P2.out.frozen 1
    have f2_2 := P2.out.frozen 2
    go_wp2_with fail
    refine HG3.out _ |>.mono ?_
    rintro e w3 ⟨rfl, hb2⟩
    clear p0_0 p0_1 p0_2 p1_0 p1_1 p1_2 p2_0 p2_1 p2_2 p3_0 p3_1 p3_2 f2_0 f2_1 f2_2
    replace P0 := Lib.hid (P0.out.kept hb2)
    replace P1 := Lib.hid (P1.out.kept hb2)
    replace P2 := Lib.hid (P2.out.kept hb2)
    replace P3 := Lib.hid (P3.out.kept hb2)
    replace hb := hb.trans (hb2.mono hb.size)
    clear hb2
    have p0_0 := P0.out.cell 0
    have p0_1 := P0.out.cell 1
    have p0_2 := P0.out.cell 2
    simp only [List.getElem?_toArray, List.getElem?_cons_zero, List.getElem?_cons_succ] at p0_0 p0_1 p0_2
    have p1_0 := P1.out.cell 0
    have p1_1 := P1.out.cell 1
    have p1_2 := P1.out.cell 2
    simp only [List.getElem?_toArray, List.getElem?_cons_zero, List.getElem?_cons_succ] at p1_0 p1_1 p1_2
    have p2_0 := P2.out.cell 0
    have p2_1 := P2.out.cell 1
    have p2_2 := P2.out.cell 2
    simp only [List.getElem?_toArray, List.getElem?_cons_zero, List.getElem?_cons_succ] at p2_0 p2_1 p2_2
    have p3_0 := P3.out.cell 0
    have p3_1 := P3.out.cell 1
    have p3_2 := P3.out.cell 2
    simp only [List.getElem?_toArray, List.getElem?_cons_zero, List.getElem?_cons_succ] at p3_0 p3_1 p3_2
    have f2_0 := P2.out.frozen 0
    have f2_1 := P2.out.frozen 1
    have f2_2 := P2.out.frozen 2
    go_wp2_with fail
    have HBF := ((hb.setCell (p := ⟨w.heap.size + 1 + 1, 0, none⟩) (by simp; omega) (.int .i64 ys)).setCell (p := ⟨w.heap.size + 1 + 1, 1, none⟩) (by simp; omega) (.int .i64 ns)).setCell (p := ⟨w.heap.size + 1 + 1, 2, none⟩) (by simp; omega) (.int .i64 ks)
    obtain ⟨y0, y1, y2⟩ := put3 P2.out (.int .i64 ys) (.int .i64 ns) (.int .i64 ks)
    (try simp only [Exit.inBlock, Exit.then])
    refine bodyPost_ret (v := .tuple #[.agg #[.int .i64 ys, .int .i64 ns, .int .i64 ks], .bool true]) (by rw [results_cell_tmp rfl]; go_simp) rfl ?_
    exact ⟨⟨ys, ns, ks⟩, true, rfl, HA.out, HBF⟩
set_option maxRecDepth 100000 in
set_option maxHeartbeats 1600000 in
theorem impl (a0 a1 : T) (w : World) (f0 : LTally.Fine a0) (f1 : LTally.Fine a1) : Calls Tryd.prog 17 #[.agg #[.int .i64 a0.yes, .int .i64 a0.no, .int .i64 a0.abstain], .agg #[.int .i64 a1.yes, .int .i64 a1.no, .int .i64 a1.abstain]] w (Post a0 a1 w) := by
  obtain ⟨y, n, a⟩ := a0
  obtain ⟨y2, n2, a2⟩ := a1
  simp only
  obtain ⟨ys, hys⟩ : ∃ c, IntKind.i64.wrap (y + y2) = c := ⟨_, rfl⟩
  obtain ⟨ns, hns⟩ : ∃ c, IntKind.i64.wrap (n + n2) = c := ⟨_, rfl⟩
  obtain ⟨ks, hks⟩ : ∃ c, IntKind.i64.wrap (a + a2) = c := ⟨_, rfl⟩
  obtain ⟨W, hW⟩ : ∃ W : World, W = ((w.alloc (Obj.cells #[.int .i64 y, .int .i64 n, .int .i64 a] 25)).alloc (Obj.cells #[.int .i64 y2, .int .i64 n2, .int .i64 a2] 25)).alloc (Obj.cells #[.int .i64 0, .int .i64 0, .int .i64 0] 25) := ⟨_, rfl⟩
  have hb : Below w.heap.size w W := by rw [hW]; exact (((Below.refl w.heap.size w).alloc (Nat.le_refl _) _).alloc (by simp) _).alloc (by simp; omega) _
  have P0 := Lib.hid (show Bx W w.heap.size 25 #[.int .i64 y, .int .i64 n, .int .i64 a] by rw [hW]; exact (((bx0 _ _ _).alloc _).alloc _))
  have P1 := Lib.hid (show Bx W (w.heap.size + 1) 25 #[.int .i64 y2, .int .i64 n2, .int .i64 a2] by rw [hW]; exact ((bx1 _ _ _ _).alloc _))
  have P2 := Lib.hid (show Bx W (w.heap.size + 1 + 1) 25 #[.int .i64 0, .int .i64 0, .int .i64 0] by rw [hW]; exact (bx2 _ _ _ _ _))
  have p0_0 := P0.out.cell 0
  have p0_1 := P0.out.cell 1
  have p0_2 := P0.out.cell 2
  simp only [List.getElem?_toArray, List.getElem?_cons_zero, List.getElem?_cons_succ] at p0_0 p0_1 p0_2
  have p1_0 := P1.out.cell 0
  have p1_1 := P1.out.cell 1
  have p1_2 := P1.out.cell 2
  simp only [List.getElem?_toArray, List.getElem?_cons_zero, List.getElem?_cons_succ] at p1_0 p1_1 p1_2
  have p2_0 := P2.out.cell 0
  have p2_1 := P2.out.cell 1
  have p2_2 := P2.out.cell 2
  simp only [List.getElem?_toArray, List.getElem?_cons_zero, List.getElem?_cons_succ] at p2_0 p2_1 p2_2
  have f2_0 := P2.out.frozen 0
  have f2_1 := P2.out.frozen 1
  have f2_2 := P2.out.frozen 2
  have HG := Lib.hid (fun b (hx : good ⟨y, n, a⟩ = b) W => isValid ⟨y, n, a⟩ b hx W)
  have HG2 := Lib.hid (fun b (hx : good ⟨y2, n2, a2⟩ = b) W => isValid ⟨y2, n2, a2⟩ b hx W)
  have HG3 := Lib.hid (fun b (hx : good ⟨ys, ns, ks⟩ = b) W => isValid ⟨ys, ns, ks⟩ b hx W)
  simp only at HG HG2 HG3
  have HEQ := Lib.hid (show good ⟨y, n, a⟩ = true → good ⟨y2, n2, a2⟩ = true → sum ⟨y, n, a⟩ ⟨y2, n2, a2⟩ = ⟨ys, ns, ks⟩ from fun h1 h2 => by
    have g1 := good_parts h1
    have g2 := good_parts h2
    simp only at g1 g2
    have e1 : y + y2 = ys := by rw [← hys]; exact (IntWalk.i64_in _ (by omega)).symm
    have e2 : n + n2 = ns := by rw [← hns]; exact (IntWalk.i64_in _ (by omega)).symm
    have e3 : a + a2 = ks := by rw [← hks]; exact (IntWalk.i64_in _ (by omega)).symm
    unfold sum
    simp only [e1, e2, e3])
  cases h1 : good ⟨y, n, a⟩ with
  | false =>
    have HA := Lib.hid (show Ans ⟨y, n, a⟩ ⟨y2, n2, a2⟩ zero false by unfold Ans addA; rw [if_neg (fun h => by rw [h1] at h; exact absurd h.1 (by simp))])
    replace HG := Lib.hid (HG.out _ h1)
    clear h1 HEQ HG2 HG3
    go_enter Tryd.func17, Tryd.ntmps17
    go_wp2_with fail
    rw [← hW]
    clear hW
    refine HG.out _ |>.mono ?_
    rintro e w1 ⟨rfl, hb2⟩
    clear p0_0 p0_1 p0_2 p1_0 p1_1 p1_2 p2_0 p2_1 p2_2 f2_0 f2_1 f2_2
    replace P0 := Lib.hid (P0.out.kept hb2)
    replace P1 := Lib.hid (P1.out.kept hb2)
    replace P2 := Lib.hid (P2.out.kept hb2)
    replace hb := hb.trans (hb2.mono hb.size)
    clear hb2
    have p0_0 := P0.out.cell 0
    have p0_1 := P0.out.cell 1
    have p0_2 := P0.out.cell 2
    simp only [List.getElem?_toArray, List.getElem?_cons_zero, List.getElem?_cons_succ] at p0_0 p0_1 p0_2
    have p1_0 := P1.out.cell 0
    have p1_1 := P1.out.cell 1
    have p1_2 := P1.out.cell 2
    simp only [List.getElem?_toArray, List.getElem?_cons_zero, List.getElem?_cons_succ] at p1_0 p1_1 p1_2
    have p2_0 := P2.out.cell 0
    have p2_1 := P2.out.cell 1
    have p2_2 := P2.out.cell 2
    simp only [List.getElem?_toArray, List.getElem?_cons_zero, List.getElem?_cons_succ] at p2_0 p2_1 p2_2
    have f2_0 := P2.out.frozen 0
    have f2_1 := P2.out.frozen 1
    have f2_2 := P2.out.frozen 2
    go_wp2_with fail
    have HBF := ((hb.setCell (p := ⟨w.heap.size + 1 + 1, 0, none⟩) (by simp; omega) (.int .i64 0)).setCell (p := ⟨w.heap.size + 1 + 1, 1, none⟩) (by simp; omega) (.int .i64 0)).setCell (p := ⟨w.heap.size + 1 + 1, 2, none⟩) (by simp; omega) (.int .i64 0)
    obtain ⟨y0, y1, y2⟩ := put3 P2.out (.int .i64 0) (.int .i64 0) (.int .i64 0)
    (try simp only [Exit.inBlock, Exit.then])
    refine bodyPost_ret (v := .tuple #[.agg #[.int .i64 0, .int .i64 0, .int .i64 0], .bool false]) (by rw [results_cell_tmp rfl]; go_simp) rfl ?_
    exact ⟨zero, false, rfl, HA.out, HBF⟩
  | true =>
  replace HG := Lib.hid (HG.out _ h1)
  cases h2 : good ⟨y2, n2, a2⟩ with
  | false =>
    have HA := Lib.hid (show Ans ⟨y, n, a⟩ ⟨y2, n2, a2⟩ zero false by unfold Ans addA; rw [if_neg (fun h => by rw [h2] at h; exact absurd h.2.1 (by simp))])
    replace HG2 := Lib.hid (HG2.out _ h2)
    clear h1 h2 HEQ HG3
    go_enter Tryd.func17, Tryd.ntmps17
    go_wp2_with fail
    rw [← hW]
    clear hW
    refine HG.out _ |>.mono ?_
    rintro e w1 ⟨rfl, hb2⟩
    clear p0_0 p0_1 p0_2 p1_0 p1_1 p1_2 p2_0 p2_1 p2_2 f2_0 f2_1 f2_2
    replace P0 := Lib.hid (P0.out.kept hb2)
    replace P1 := Lib.hid (P1.out.kept hb2)
    replace P2 := Lib.hid (P2.out.kept hb2)
    replace hb := hb.trans (hb2.mono hb.size)
    clear hb2
    have p0_0 := P0.out.cell 0
    have p0_1 := P0.out.cell 1
    have p0_2 := P0.out.cell 2
    simp only [List.getElem?_toArray, List.getElem?_cons_zero, List.getElem?_cons_succ] at p0_0 p0_1 p0_2
    have p1_0 := P1.out.cell 0
    have p1_1 := P1.out.cell 1
    have p1_2 := P1.out.cell 2
    simp only [List.getElem?_toArray, List.getElem?_cons_zero, List.getElem?_cons_succ] at p1_0 p1_1 p1_2
    have p2_0 := P2.out.cell 0
    have p2_1 := P2.out.cell 1
    have p2_2 := P2.out.cell 2
    simp only [List.getElem?_toArray, List.getElem?_cons_zero, List.getElem?_cons_succ] at p2_0 p2_1 p2_2
    have f2_0 := P2.out.frozen 0
    have f2_1 := P2.out.frozen 1
    have f2_2 := P2.out.frozen 2
    go_wp2_with fail
    refine HG2.out _ |>.mono ?_
    rintro e w2 ⟨rfl, hb2⟩
    clear p0_0 p0_1 p0_2 p1_0 p1_1 p1_2 p2_0 p2_1 p2_2 f2_0 f2_1 f2_2
    replace P0 := Lib.hid (P0.out.kept hb2)
    replace P1 := Lib.hid (P1.out.kept hb2)
    replace P2 := Lib.hid (P2.out.kept hb2)
    replace hb := hb.trans (hb2.mono hb.size)
    clear hb2
    have p0_0 := P0.out.cell 0
    have p0_1 := P0.out.cell 1
    have p0_2 := P0.out.cell 2
    simp only [List.getElem?_toArray, List.getElem?_cons_zero, List.getElem?_cons_succ] at p0_0 p0_1 p0_2
    have p1_0 := P1.out.cell 0
    have p1_1 := P1.out.cell 1
    have p1_2 := P1.out.cell 2
    simp only [List.getElem?_toArray, List.getElem?_cons_zero, List.getElem?_cons_succ] at p1_0 p1_1 p1_2
    have p2_0 := P2.out.cell 0
    have p2_1 := P2.out.cell 1
    have p2_2 := P2.out.cell 2
    simp only [List.getElem?_toArray, List.getElem?_cons_zero, List.getElem?_cons_succ] at p2_0 p2_1 p2_2
    have f2_0 := P2.out.frozen 0
    have f2_1 := P2.out.frozen 1
    have f2_2 := P2.out.frozen 2
    go_wp2_with fail
    have HBF := ((hb.setCell (p := ⟨w.heap.size + 1 + 1, 0, none⟩) (by simp; omega) (.int .i64 0)).setCell (p := ⟨w.heap.size + 1 + 1, 1, none⟩) (by simp; omega) (.int .i64 0)).setCell (p := ⟨w.heap.size + 1 + 1, 2, none⟩) (by simp; omega) (.int .i64 0)
    obtain ⟨y0, y1, y2⟩ := put3 P2.out (.int .i64 0) (.int .i64 0) (.int .i64 0)
    (try simp only [Exit.inBlock, Exit.then])
    refine bodyPost_ret (v := .tuple #[.agg #[.int .i64 0, .int .i64 0, .int .i64 0], .bool false]) (by rw [results_cell_tmp rfl]; go_simp) rfl ?_
    exact ⟨zero, false, rfl, HA.out, HBF⟩
  | true =>
  replace HG2 := Lib.hid (HG2.out _ h2)
  have HS := HEQ.out h1 h2
  clear HEQ
  cases h3 : good ⟨ys, ns, ks⟩ with
  | false =>
    have HA := Lib.hid (show Ans ⟨y, n, a⟩ ⟨y2, n2, a2⟩ zero false by unfold Ans addA; rw [if_neg (fun h => by rw [HS, h3] at h; exact absurd h.2.2 (by simp))])
    replace HG3 := Lib.hid (HG3.out _ h3)
    clear h1 h2 h3 HS
    go_enter Tryd.func17, Tryd.ntmps17
    go_wp2_with fail
    rw [← hW]
    clear hW
    refine HG.out _ |>.mono ?_
    rintro e w1 ⟨rfl, hb2⟩
    clear p0_0 p0_1 p0_2 p1_0 p1_1 p1_2 p2_0 p2_1 p2_2 f2_0 f2_1 f2_2
    replace P0 := Lib.hid (P0.out.kept hb2)
    replace P1 := Lib.hid (P1.out.kept hb2)
    replace P2 := Lib.hid (P2.out.kept hb2)
    replace hb := hb.trans (hb2.mono hb.size)
    clear hb2
    have p0_0 := P0.out.cell 0
    have p0_1 := P0.out.cell 1
    have p0_2 := P0.out.cell 2
    simp only [List.getElem?_toArray, List.getElem?_cons_zero, List.getElem?_cons_succ] at p0_0 p0_1 p0_2
    have p1_0 := P1.out.cell 0
    have p1_1 := P1.out.cell 1
    have p1_2 := P1.out.cell 2
    simp only [List.getElem?_toArray, List.getElem?_cons_zero, List.getElem?_cons_succ] at p1_0 p1_1 p1_2
    have p2_0 := P2.out.cell 0
    have p2_1 := P2.out.cell 1
    have p2_2 := P2.out.cell 2
    simp only [List.getElem?_toArray, List.getElem?_cons_zero, List.getElem?_cons_succ] at p2_0 p2_1 p2_2
    have f2_0 := P2.out.frozen 0
    have f2_1 := P2.out.frozen 1
    have f2_2 := P2.out.frozen 2
    go_wp2_with fail
    refine HG2.out _ |>.mono ?_
    rintro e w2 ⟨rfl, hb2⟩
    clear p0_0 p0_1 p0_2 p1_0 p1_1 p1_2 p2_0 p2_1 p2_2 f2_0 f2_1 f2_2
    replace P0 := Lib.hid (P0.out.kept hb2)
    replace P1 := Lib.hid (P1.out.kept hb2)
    replace P2 := Lib.hid (P2.out.kept hb2)
    replace hb := hb.trans (hb2.mono hb.size)
    clear hb2
    have p0_0 := P0.out.cell 0
    have p0_1 := P0.out.cell 1
    have p0_2 := P0.out.cell 2
    simp only [List.getElem?_toArray, List.getElem?_cons_zero, List.getElem?_cons_succ] at p0_0 p0_1 p0_2
    have p1_0 := P1.out.cell 0
    have p1_1 := P1.out.cell 1
    have p1_2 := P1.out.cell 2
    simp only [List.getElem?_toArray, List.getElem?_cons_zero, List.getElem?_cons_succ] at p1_0 p1_1 p1_2
    have p2_0 := P2.out.cell 0
    have p2_1 := P2.out.cell 1
    have p2_2 := P2.out.cell 2
    simp only [List.getElem?_toArray, List.getElem?_cons_zero, List.getElem?_cons_succ] at p2_0 p2_1 p2_2
    have f2_0 := P2.out.frozen 0
    have f2_1 := P2.out.frozen 1
    have f2_2 := P2.out.frozen 2
    go_wp2_with fail
    clear p0_0 p0_1 p0_2 p1_0 p1_1 p1_2 p2_0 p2_1 p2_2 f2_0 f2_1 f2_2
    clear P0 P1
    have P3 := Lib.hid (Bx.new w2 25 #[.int .i64 ys, .int .i64 ns, .int .i64 ks])
    replace P2 := Lib.hid (P2.out.alloc (Obj.cells #[.int .i64 ys, .int .i64 ns, .int .i64 ks] 25))
    replace hb := hb.alloc hb.size (Obj.cells #[.int .i64 ys, .int .i64 ns, .int .i64 ks] 25)
    refine HG3.out _ |>.mono ?_
    rintro e w3 ⟨rfl, hb2⟩
    replace P2 := Lib.hid (P2.out.kept hb2)
    replace P3 := Lib.hid (P3.out.kept hb2)
    replace hb := hb.trans (hb2.mono hb.size)
    clear hb2
    have p2_0 := P2.out.cell 0
    have p2_1 := P2.out.cell 1
    have p2_2 := P2.out.cell 2
    simp only [List.getElem?_toArray, List.getElem?_cons_zero, List.getElem?_cons_succ] at p2_0 p2_1 p2_2
    have p3_0 := P3.out.cell 0
    have p3_1 := P3.out.cell 1
    have p3_2 := P3.out.cell 2
    simp only [List.getElem?_toArray, List.getElem?_cons_zero, List.getElem?_cons_succ] at p3_0 p3_1 p3_2
    have f2_0 := P2.out.frozen 0
    have f2_1 := P2.out.frozen 1
    have f2_2 := P2.out.frozen 2
    go_wp2_with fail
    have HBF := ((hb.setCell (p := ⟨w.heap.size + 1 + 1, 0, none⟩) (by simp; omega) (.int .i64 0)).setCell (p := ⟨w.heap.size + 1 + 1, 1, none⟩) (by simp; omega) (.int .i64 0)).setCell (p := ⟨w.heap.size + 1 + 1, 2, none⟩) (by simp; omega) (.int .i64 0)
    obtain ⟨y0, y1, y2⟩ := put3 P2.out (.int .i64 0) (.int .i64 0) (.int .i64 0)
    (try simp only [Exit.inBlock, Exit.then])
    refine bodyPost_ret (v := .tuple #[.agg #[.int .i64 0, .int .i64 0, .int .i64 0], .bool false]) (by rw [results_cell_tmp rfl]; go_simp) rfl ?_
    exact ⟨zero, false, rfl, HA.out, HBF⟩
  | true =>
    have HA := Lib.hid (show Ans ⟨y, n, a⟩ ⟨y2, n2, a2⟩ ⟨ys, ns, ks⟩ true by unfold Ans addA; rw [HS, if_pos ⟨h1, h2, h3⟩])
    replace HG3 := Lib.hid (HG3.out _ h3)
    clear h1 h2 h3 HS
    go_enter Tryd.func17, Tryd.ntmps17
    go_wp2_with fail
    rw [← hW]
    clear hW
    refine HG.out _ |>.mono ?_
    rintro e w1 ⟨rfl, hb2⟩
    clear p0_0 p0_1 p0_2 p1_0 p1_1 p1_2 p2_0 p2_1 p2_2 f2_0 f2_1 f2_2
    replace P0 := Lib.hid (P0.out.kept hb2)
    replace P1 := Lib.hid (P1.out.kept hb2)
    replace P2 := Lib.hid (P2.out.kept hb2)
    replace hb := hb.trans (hb2.mono hb.size)
    clear hb2
    have p0_0 := P0.out.cell 0
    have p0_1 := P0.out.cell 1
    have p0_2 := P0.out.cell 2
    simp only [List.getElem?_toArray, List.getElem?_cons_zero, List.getElem?_cons_succ] at p0_0 p0_1 p0_2
    have p1_0 := P1.out.cell 0
    have p1_1 := P1.out.cell 1
    have p1_2 := P1.out.cell 2
    simp only [List.getElem?_toArray, List.getElem?_cons_zero, List.getElem?_cons_succ] at p1_0 p1_1 p1_2
    have p2_0 := P2.out.cell 0
    have p2_1 := P2.out.cell 1
    have p2_2 := P2.out.cell 2
    simp only [List.getElem?_toArray, List.getElem?_cons_zero, List.getElem?_cons_succ] at p2_0 p2_1 p2_2
    have f2_0 := P2.out.frozen 0
    have f2_1 := P2.out.frozen 1
    have f2_2 := P2.out.frozen 2
    go_wp2_with fail
    refine HG2.out _ |>.mono ?_
    rintro e w2 ⟨rfl, hb2⟩
    clear p0_0 p0_1 p0_2 p1_0 p1_1 p1_2 p2_0 p2_1 p2_2 f2_0 f2_1 f2_2
    replace P0 := Lib.hid (P0.out.kept hb2)
    replace P1 := Lib.hid (P1.out.kept hb2)
    replace P2 := Lib.hid (P2.out.kept hb2)
    replace hb := hb.trans (hb2.mono hb.size)
    clear hb2
    have p0_0 := P0.out.cell 0
    have p0_1 := P0.out.cell 1
    have p0_2 := P0.out.cell 2
    simp only [List.getElem?_toArray, List.getElem?_cons_zero, List.getElem?_cons_succ] at p0_0 p0_1 p0_2
    have p1_0 := P1.out.cell 0
    have p1_1 := P1.out.cell 1
    have p1_2 := P1.out.cell 2
    simp only [List.getElem?_toArray, List.getElem?_cons_zero, List.getElem?_cons_succ] at p1_0 p1_1 p1_2
    have p2_0 := P2.out.cell 0
    have p2_1 := P2.out.cell 1
    have p2_2 := P2.out.cell 2
    simp only [List.getElem?_toArray, List.getElem?_cons_zero, List.getElem?_cons_succ] at p2_0 p2_1 p2_2
    have f2_0 := P2.out.frozen 0
    have f2_1 := P2.out.frozen 1
    have f2_2 := P2.out.frozen 2
    go_wp2_with fail
    clear p0_0 p0_1 p0_2 p1_0 p1_1 p1_2 p2_0 p2_1 p2_2 f2_0 f2_1 f2_2
    clear P0 P1
    have P3 := Lib.hid (Bx.new w2 25 #[.int .i64 ys, .int .i64 ns, .int .i64 ks])
    replace P2 := Lib.hid (P2.out.alloc (Obj.cells #[.int .i64 ys, .int .i64 ns, .int .i64 ks] 25))
    replace hb := hb.alloc hb.size (Obj.cells #[.int .i64 ys, .int .i64 ns, .int .i64 ks] 25)
    refine HG3.out _ |>.mono ?_
    rintro e w3 ⟨rfl, hb2⟩
    replace P2 := Lib.hid (P2.out.kept hb2)
    replace P3 := Lib.hid (P3.out.kept hb2)
    replace hb := hb.trans (hb2.mono hb.size)
    clear hb2
    have p2_0 := P2.out.cell 0
    have p2_1 := P2.out.cell 1
    have p2_2 := P2.out.cell 2
    simp only [List.getElem?_toArray, List.getElem?_cons_zero, List.getElem?_cons_succ] at p2_0 p2_1 p2_2
    have p3_0 := P3.out.cell 0
    have p3_1 := P3.out.cell 1
    have p3_2 := P3.out.cell 2
    simp only [List.getElem?_toArray, List.getElem?_cons_zero, List.getElem?_cons_succ] at p3_0 p3_1 p3_2
    have f2_0 := P2.out.frozen 0
    have f2_1 := P2.out.frozen 1
    have f2_2 := P2.out.frozen 2
    go_wp2_with fail
    have HBF := ((hb.setCell (p := ⟨w.heap.size + 1 + 1, 0, none⟩) (by simp; omega) (.int .i64 ys)).setCell (p := ⟨w.heap.size + 1 + 1, 1, none⟩) (by simp; omega) (.int .i64 ns)).setCell (p := ⟨w.heap.size + 1 + 1, 2, none⟩) (by simp; omega) (.int .i64 ks)
    obtain ⟨y0, y1, y2⟩ := put3 P2.out (.int .i64 ys) (.int .i64 ns) (.int .i64 ks)
    (try simp only [Exit.inBlock, Exit.then])
    refine bodyPost_ret (v := .tuple #[.agg #[.int .i64 ys, .int .i64 ns, .int .i64 ks], .bool true]) (by rw [results_cell_tmp rfl]; go_simp) rfl ?_
    exact ⟨⟨ys, ns, ks⟩, true, rfl, HA.out, HBF⟩
end Go.Proofs.YtkdiedmbikkbiaaDoor.AddTalliesC
