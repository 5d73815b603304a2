/- An amendment made: the model's l9Kind, the program's changeOf. No condition. -/
import Derived.Test.YtclpdpfnlmfogaaDoorAmE
import Derived.Test.YtclpdpfnlmfogaaDoorJ1
import Derived.Test.YtclpdpfnlmfogaaDoorAppO
import Derived.Test.YtclpdpfnlmfogaaDoorLStringKclone
import Derived.Deep.DeepCutAuto
namespace Go.Proofs.YtclpdpfnlmfogaaDoor.AmK
open Go.RowKit Bs Word Am AmA AmG AmE
set_option linter.unusedVariables false
theorem kind_ins {p : Int} {ws : T} : mkKind p 0 ws = ⟨1, p, 0, ws⟩ := rfl
theorem kind_str {p c : Int} {ws : T} (h : c ≠ 0) (hw : ws.length = 0) : mkKind p c ws = ⟨2, p, c, ws⟩ := by unfold mkKind; rw [if_neg h, if_pos hw]
theorem kind_rep {p c : Int} {ws : T} (h : c ≠ 0) (hw : ws.length ≠ 0) : mkKind p c ws = ⟨3, p, c, ws⟩ := by unfold mkKind; rw [if_neg h, if_neg hw]
set_option maxRecDepth 100000 in
set_option maxHeartbeats 1600000 in
theorem l9Kind (p c : Int) (v : Value) (ws : T) (w : World) (h : IsQ LString.rec w v ws) (hl : ws.length ≤ 1048576) :
    Calls Tryd.prog 58 #[.int .i64 p, .int .i64 c, v] w fun e w' => ∃ v', e = .returned v' ∧ LAmendment.Own w' w.heap.size v' (mkKind p c ws) ∧ Below w.heap.size w w' := by
  obtain ⟨ao, n, cp, rfl⟩ := isq_slice h
  obtain ⟨hn, hnc, hcm⟩ := isq_len h
  unfold maxLen at hcm
  have HN := Lib.hid hn
  rw [hn] at hl
  clear hn
  obtain ⟨i0, hi, hz0, hz1, hz2⟩ := info_parts LString.infoK
  have HI0 := Lib.hid hi
  have HZ0 := Lib.hid (And.intro hz0 (And.intro hz1 hz2))
  clear hi hz0 hz1 hz2
  obtain ⟨X0, hX⟩ : ∃ X : World, X = w.alloc (Obj.cells #[.int .i64 0, .int .i64 0, .int .i64 0, .slice none 0 0] 26) := ⟨_, rfl⟩
  have hb0 : Below w.heap.size w X0 := by rw [hX]; exact (Below.refl _ _).alloc (Nat.le_refl _) _
  have BR := Lib.hid (show Bx X0 w.heap.size 26 #[.int .i64 0, .int .i64 0, .int .i64 0, .slice none 0 0] by rw [hX]; exact Bx.new _ _ _)
  have HZ := Lib.hid (show X0.heap.size = w.heap.size + 1 by rw [hX]; simp)
  have HS := Lib.hid (IsQ.src (IsQ.below h (hb0.trans ((Below.refl X0.heap.size X0).alloc (Nat.le_refl _) (Obj.cells #[] 9) |>.mono hb0.size)))).1
  clear h
  go_enter Tryd.func58, Tryd.ntmps58
  go_upto_region 1 with fail
  rw [← hX]
  clear hX
  go_wp2_with (at_builtin; refine wpList_append_o (T := LString.rec) _ rfl (.tmp 10) (.tmp 11) 24 rfl X0.heap.size 9 i0 (.string ⟨#[]⟩) 16 Tryd.underlying24 HI0.out HZ0.out.1 HZ0.out.2.1 HZ0.out.2.2 rfl _ _ rfl (own_start (Nat.le_refl _)) ao n cp ws rfl HN.out HS.out (by simp; unfold maxLen; omega) (by simp; omega) (by simp) ?_)
  intro v1 w1 hown hgrow hnn hat
  have hb1 : Below X0.heap.size X0 w1 := ((Below.refl X0.heap.size X0).alloc (Nat.le_refl _) (Obj.cells #[] 9)).grown hgrow (by simp) (fun k hk => own_ge (g := X0.heap.size) (n := 0) (c := 0) hk (Nat.le_refl _))
  clear hgrow hnn hat
  obtain ⟨sa, ns, cs, rfl⟩ := own_slice hown
  have hlt := fun k hk => (hown.lt k hk)
  have hz1 := hb1.size
  have HO1 := Lib.hid hown
  clear hown
  obtain ⟨w2, hw2⟩ : ∃ x : World, x = w1.alloc (Obj.cells #[.int .i64 3, .int .i64 p, .int .i64 c, .slice sa ns cs] 26) := ⟨_, rfl⟩
  obtain ⟨G, hG⟩ : ∃ G, G = w1.heap.size := ⟨_, rfl⟩
  have hb2 : Below w1.heap.size w1 w2 := by rw [hw2]; exact (Below.refl _ _).alloc (Nat.le_refl _) _
  have B7 := Lib.hid (show Bx w2 w1.heap.size 26 #[.int .i64 3, .int .i64 p, .int .i64 c, .slice sa ns cs] by rw [hw2]; exact Bx.new _ _ _)
  replace BR := Lib.hid ((BR.out.kept hb1).kept hb2)
  have HO := Lib.hid (Own.low (HO1.out.kept hb2) (show w.heap.size + 1 ≤ X0.heap.size by have := HZ.out; omega))
  have HG7 := Lib.hid (show ∀ k, (Value.slice sa ns cs).ownBlock = some k → w.heap.size + 1 ≤ k ∧ k < w1.heap.size from fun k hk => ⟨by have := (hlt k hk).1; have := HZ.out; omega, (hlt k hk).2⟩)
  have hbT : Below w.heap.size w w2 := hb0.trans ((hb1.trans (hb2.mono hb1.size)).mono hb0.size)
  have hGw : w.heap.size + 1 ≤ w1.heap.size := by have := HZ.out; omega
  clear HO1 hlt hz1 hb1 hb2 hb0 HZ
  go_upto_region 2 with fail
  rw [← hw2]
  clear hw2
  simp only [← hG]
  rw [← hG] at B7 HG7 hGw
  clear hG
  by_cases k1 : c = 0
  · subst k1
    have HMK := Lib.hid (show mkKind p 0 ws = ⟨1, p, 0, ws⟩ from rfl)
    have x0 := B7.out.cell 0
    have z7 := B7.out.frozen 0
    simp only [List.getElem?_toArray, List.getElem?_cons_zero] at x0
    go_upto_region 6 with fail
    clear x0 z7
    have BO5 := Bx.set_ B7.out 0 (.int .i64 1)
    have BR5 := Bx.far (p := ⟨G, 0, none⟩) BR.out (show w.heap.size ≠ G by omega) (.int .i64 1)
    simp only [List.setIfInBounds_toArray, List.set_cons_zero] at BO5
    have HOw := (own_set HO.out (p := ⟨G, 0, none⟩) (fun k hk => by have h2 := HG7.out k hk; show k ≠ G; omega) (.int .i64 1))
    have y0 := BO5.cell 0
    have y1 := BO5.cell 1
    have y2 := BO5.cell 2
    have y3 := BO5.cell 3
    simp only [List.getElem?_toArray, List.getElem?_cons_zero, List.getElem?_cons_succ] at y0 y1 y2 y3
    have r0 := BR5.cell 0
    have r1 := BR5.cell 1
    have r2 := BR5.cell 2
    have r3 := BR5.cell 3
    simp only [List.getElem?_toArray, List.getElem?_cons_zero, List.getElem?_cons_succ] at r0 r1 r2 r3
    have z0 := BR5.frozen 0
    have z1 := BR5.frozen 1
    have z2 := BR5.frozen 2
    have z3 := BR5.frozen 3
    have hRF := (Bx.set_ (Bx.set_ (Bx.set_ (Bx.set_ BR5 0 (.int .i64 1)) 1 (.int .i64 p)) 2 (.int .i64 0)) 3 (.slice sa ns cs))
    have c0 := hRF.cell 0
    have c1 := hRF.cell 1
    have c2 := hRF.cell 2
    have c3 := hRF.cell 3
    simp at c0 c1 c2 c3
    clear hRF
    go_wp2_with fail
    refine bodyPost_ret (v := .agg #[.int .i64 1, .int .i64 p, .int .i64 0, .slice sa ns cs]) (by simp [results, Tryd.results58, go_sem, c0, c1, c2, c3]) rfl ?_
    exact ⟨_, rfl, ⟨_, by rw [HMK.out], by rw [HMK.out]; exact Own.low (own_set (own_set (own_set (own_set HOw (p := ⟨w.heap.size, 0, none⟩) (fun k hk => by have h2 := (HOw.lt k hk).1; show k ≠ w.heap.size; omega) (.int .i64 1)) (p := ⟨w.heap.size, 1, none⟩) (fun k hk => by have h2 := (HOw.lt k hk).1; show k ≠ w.heap.size; omega) (.int .i64 p)) (p := ⟨w.heap.size, 2, none⟩) (fun k hk => by have h2 := (HOw.lt k hk).1; show k ≠ w.heap.size; omega) (.int .i64 0)) (p := ⟨w.heap.size, 3, none⟩) (fun k hk => by have h2 := (HOw.lt k hk).1; show k ≠ w.heap.size; omega) (.slice sa ns cs)) (by omega)⟩, (Below.setCell (Below.setCell (Below.setCell (Below.setCell (Below.setCell hbT (p := ⟨G, 0, none⟩) (by show w.heap.size ≤ G; omega) (.int .i64 1)) (p := ⟨w.heap.size, 0, none⟩) (by show w.heap.size ≤ w.heap.size; omega) (.int .i64 1)) (p := ⟨w.heap.size, 1, none⟩) (by show w.heap.size ≤ w.heap.size; omega) (.int .i64 p)) (p := ⟨w.heap.size, 2, none⟩) (by show w.heap.size ≤ w.heap.size; omega) (.int .i64 0)) (p := ⟨w.heap.size, 3, none⟩) (by show w.heap.size ≤ w.heap.size; omega) (.slice sa ns cs))⟩
  by_cases k2 : n = 0
  · have HMK := Lib.hid (kind_str (p := p) (ws := ws) k1 (by rw [HN.out]; exact k2))
    have e1 : (c == 0) = false := by simp [k1]
    have e2 : ((n : Int) == 0) = true := by simp [k2]
    clear k1 k2
    have x0 := B7.out.cell 0
    have z7 := B7.out.frozen 0
    simp only [List.getElem?_toArray, List.getElem?_cons_zero] at x0
    go_upto_region 6 with fail
    clear x0 z7
    have BO5 := Bx.set_ B7.out 0 (.int .i64 2)
    have BR5 := Bx.far (p := ⟨G, 0, none⟩) BR.out (show w.heap.size ≠ G by omega) (.int .i64 2)
    simp only [List.setIfInBounds_toArray, List.set_cons_zero] at BO5
    have HOw := (own_set HO.out (p := ⟨G, 0, none⟩) (fun k hk => by have h2 := HG7.out k hk; show k ≠ G; omega) (.int .i64 2))
    have y0 := BO5.cell 0
    have y1 := BO5.cell 1
    have y2 := BO5.cell 2
    have y3 := BO5.cell 3
    simp only [List.getElem?_toArray, List.getElem?_cons_zero, List.getElem?_cons_succ] at y0 y1 y2 y3
    have r0 := BR5.cell 0
    have r1 := BR5.cell 1
    have r2 := BR5.cell 2
    have r3 := BR5.cell 3
    simp only [List.getElem?_toArray, List.getElem?_cons_zero, List.getElem?_cons_succ] at r0 r1 r2 r3
    have z0 := BR5.frozen 0
    have z1 := BR5.frozen 1
    have z2 := BR5.frozen 2
    have z3 := BR5.frozen 3
    have hRF := (Bx.set_ (Bx.set_ (Bx.set_ (Bx.set_ BR5 0 (.int .i64 2)) 1 (.int .i64 p)) 2 (.int .i64 c)) 3 (.slice sa ns cs))
    have c0 := hRF.cell 0
    have c1 := hRF.cell 1
    have c2 := hRF.cell 2
    have c3 := hRF.cell 3
    simp at c0 c1 c2 c3
    clear hRF
    go_wp2_with fail
    refine bodyPost_ret (v := .agg #[.int .i64 2, .int .i64 p, .int .i64 c, .slice sa ns cs]) (by simp [results, Tryd.results58, go_sem, c0, c1, c2, c3]) rfl ?_
    exact ⟨_, rfl, ⟨_, by rw [HMK.out], by rw [HMK.out]; exact Own.low (own_set (own_set (own_set (own_set HOw (p := ⟨w.heap.size, 0, none⟩) (fun k hk => by have h2 := (HOw.lt k hk).1; show k ≠ w.heap.size; omega) (.int .i64 2)) (p := ⟨w.heap.size, 1, none⟩) (fun k hk => by have h2 := (HOw.lt k hk).1; show k ≠ w.heap.size; omega) (.int .i64 p)) (p := ⟨w.heap.size, 2, none⟩) (fun k hk => by have h2 := (HOw.lt k hk).1; show k ≠ w.heap.size; omega) (.int .i64 c)) (p := ⟨w.heap.size, 3, none⟩) (fun k hk => by have h2 := (HOw.lt k hk).1; show k ≠ w.heap.size; omega) (.slice sa ns cs)) (by omega)⟩, (Below.setCell (Below.setCell (Below.setCell (Below.setCell (Below.setCell hbT (p := ⟨G, 0, none⟩) (by show w.heap.size ≤ G; omega) (.int .i64 2)) (p := ⟨w.heap.size, 0, none⟩) (by show w.heap.size ≤ w.heap.size; omega) (.int .i64 2)) (p := ⟨w.heap.size, 1, none⟩) (by show w.heap.size ≤ w.heap.size; omega) (.int .i64 p)) (p := ⟨w.heap.size, 2, none⟩) (by show w.heap.size ≤ w.heap.size; omega) (.int .i64 c)) (p := ⟨w.heap.size, 3, none⟩) (by show w.heap.size ≤ w.heap.size; omega) (.slice sa ns cs))⟩
  · have HMK := Lib.hid (kind_rep (p := p) (ws := ws) k1 (by rw [HN.out]; exact k2))
    have e1 : (c == 0) = false := by simp [k1]
    have e2 : ((n : Int) == 0) = false := by simp [k2]
    clear k1 k2
    go_upto_region 6 with fail
    have BO5 := B7.out
    have BR5 := BR.out
    have HOw := HO.out
    have y0 := BO5.cell 0
    have y1 := BO5.cell 1
    have y2 := BO5.cell 2
    have y3 := BO5.cell 3
    simp only [List.getElem?_toArray, List.getElem?_cons_zero, List.getElem?_cons_succ] at y0 y1 y2 y3
    have r0 := BR5.cell 0
    have r1 := BR5.cell 1
    have r2 := BR5.cell 2
    have r3 := BR5.cell 3
    simp only [List.getElem?_toArray, List.getElem?_cons_zero, List.getElem?_cons_succ] at r0 r1 r2 r3
    have z0 := BR5.frozen 0
    have z1 := BR5.frozen 1
    have z2 := BR5.frozen 2
    have z3 := BR5.frozen 3
    have hRF := (Bx.set_ (Bx.set_ (Bx.set_ (Bx.set_ BR5 0 (.int .i64 3)) 1 (.int .i64 p)) 2 (.int .i64 c)) 3 (.slice sa ns cs))
    have c0 := hRF.cell 0
    have c1 := hRF.cell 1
    have c2 := hRF.cell 2
    have c3 := hRF.cell 3
    simp at c0 c1 c2 c3
    clear hRF
    go_wp2_with fail
    refine bodyPost_ret (v := .agg #[.int .i64 3, .int .i64 p, .int .i64 c, .slice sa ns cs]) (by simp [results, Tryd.results58, go_sem, c0, c1, c2, c3]) rfl ?_
    exact ⟨_, rfl, ⟨_, by rw [HMK.out], by rw [HMK.out]; exact Own.low (own_set (own_set (own_set (own_set HOw (p := ⟨w.heap.size, 0, none⟩) (fun k hk => by have h2 := (HOw.lt k hk).1; show k ≠ w.heap.size; omega) (.int .i64 3)) (p := ⟨w.heap.size, 1, none⟩) (fun k hk => by have h2 := (HOw.lt k hk).1; show k ≠ w.heap.size; omega) (.int .i64 p)) (p := ⟨w.heap.size, 2, none⟩) (fun k hk => by have h2 := (HOw.lt k hk).1; show k ≠ w.heap.size; omega) (.int .i64 c)) (p := ⟨w.heap.size, 3, none⟩) (fun k hk => by have h2 := (HOw.lt k hk).1; show k ≠ w.heap.size; omega) (.slice sa ns cs)) (by omega)⟩, (Below.setCell (Below.setCell (Below.setCell (Below.setCell hbT (p := ⟨w.heap.size, 0, none⟩) (by show w.heap.size ≤ w.heap.size; omega) (.int .i64 3)) (p := ⟨w.heap.size, 1, none⟩) (by show w.heap.size ≤ w.heap.size; omega) (.int .i64 p)) (p := ⟨w.heap.size, 2, none⟩) (by show w.heap.size ≤ w.heap.size; omega) (.int .i64 c)) (p := ⟨w.heap.size, 3, none⟩) (by show w.heap.size ≤ w.heap.size; omega) (.slice sa ns cs))⟩
end Go.Proofs.YtclpdpfnlmfogaaDoor.AmK
