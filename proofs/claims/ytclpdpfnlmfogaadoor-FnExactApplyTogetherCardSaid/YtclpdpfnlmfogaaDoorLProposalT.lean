/- The laws' helper toProposal: a copy of what came in. -/
import Derived.Test.YtclpdpfnlmfogaaDoorJ1
import Derived.Test.YtclpdpfnlmfogaaDoorLAmendmentT
namespace Go.Proofs.YtclpdpfnlmfogaaDoor.LProposal
open Go.RowKit Bs
set_option linter.unusedVariables false
set_option maxRecDepth 100000 in
set_option maxHeartbeats 1600000 in
theorem to (v : Value) (r : R) (w : World) (h : Is w v r) (hsm4 : r.words.length ≤ 1048576) :
    Calls Tryd.prog 84 #[v] w fun e w' => ∃ u, e = .returned u ∧ NotNil u ∧ Own w' w.heap.size u r ∧ Below w.heap.size w w' := by
  obtain ⟨s4, rfl, h4⟩ := h
  obtain ⟨a4, cp4, rfl, h4⟩ := h4
  obtain ⟨W0, hW0⟩ : ∃ W : World, W = ((w.alloc (.cells #[.int .i64 r.id, .int .i64 r.kind, .int .i64 r.pos, .int .i64 r.count, .slice a4 r.words.length cp4, .int .i64 r.weight] 99)).alloc (.cells #[.int .i64 0, .int .i64 0, .int .i64 0, .int .i64 0, .slice none 0 0, .int .i64 0] 42)).alloc (.cells #[.int .i64 r.id, .int .i64 0, .int .i64 0, .int .i64 0, .slice none 0 0, .int .i64 0] 42) := ⟨_, rfl⟩
  have hb : Below w.heap.size w W0 := by rw [hW0]; exact (((Below.refl _ _).alloc (Nat.le_refl _) _).alloc (by simp) _).alloc (by simp; omega) _
  have HI4 := Lib.hid (is_ch (r := r) (Bs.Is.below _ ⟨a4, cp4, rfl, h4⟩ hb))
  have B0 := Lib.hid (show Bx W0 w.heap.size 99 #[.int .i64 r.id, .int .i64 r.kind, .int .i64 r.pos, .int .i64 r.count, .slice a4 r.words.length cp4, .int .i64 r.weight] by rw [hW0]; exact (Bx.new w 99 #[.int .i64 r.id, .int .i64 r.kind, .int .i64 r.pos, .int .i64 r.count, .slice a4 r.words.length cp4, .int .i64 r.weight]).alloc _ |>.alloc _)
  have B1 := Lib.hid (show Bx W0 (w.heap.size + 1) 42 #[.int .i64 0, .int .i64 0, .int .i64 0, .int .i64 0, .slice none 0 0, .int .i64 0] by rw [hW0]; have := (Bx.new (w.alloc (.cells #[.int .i64 r.id, .int .i64 r.kind, .int .i64 r.pos, .int .i64 r.count, .slice a4 r.words.length cp4, .int .i64 r.weight] 99)) 42 #[.int .i64 0, .int .i64 0, .int .i64 0, .int .i64 0, .slice none 0 0, .int .i64 0]).alloc (.cells #[.int .i64 r.id, .int .i64 0, .int .i64 0, .int .i64 0, .slice none 0 0, .int .i64 0] 42); simpa using this)
  have B2 := Lib.hid (show Bx W0 (w.heap.size + 2) 42 #[.int .i64 r.id, .int .i64 0, .int .i64 0, .int .i64 0, .slice none 0 0, .int .i64 0] by rw [hW0]; have := Bx.new ((w.alloc (.cells #[.int .i64 r.id, .int .i64 r.kind, .int .i64 r.pos, .int .i64 r.count, .slice a4 r.words.length cp4, .int .i64 r.weight] 99)).alloc (.cells #[.int .i64 0, .int .i64 0, .int .i64 0, .int .i64 0, .slice none 0 0, .int .i64 0] 42)) 42 #[.int .i64 r.id, .int .i64 0, .int .i64 0, .int .i64 0, .slice none 0 0, .int .i64 0]; simpa using this)
  have HZ0 := Lib.hid (show W0.heap.size = w.heap.size + 3 by rw [hW0]; simp)
  have hbT := hb
  clear hb h4
  go_enter Tryd.func84, Tryd.ntmps84
  go_wp2_with fail
  rw [← hW0]
  clear hW0
  refine (LAmendment.to _ (ch r) W0 HI4.out hsm4).mono ?_
  rintro e X0 ⟨u4, rfl, hn4, ho4, hb1⟩
  obtain ⟨s5, rfl, ho5⟩ := ho4
  obtain ⟨gu4, cu4, rfl⟩ : ∃ g c, s5 = .slice (some ⟨g, 0, none⟩) r.words.length c := by
    rcases ho5.shape with ⟨rfl, _⟩ | ⟨g, c, rfl, _⟩
    · obtain ⟨x0, x1, x2, s3, e, g, hg⟩ := hn4
      simp only [Value.agg.injEq, Array.mk.injEq, List.cons.injEq, and_true] at e
      obtain ⟨_, _, _, rfl⟩ := e
      cases hg
    · exact ⟨g, c, rfl⟩
  have HX0 := Lib.hid hb1.size
  have HG4 := Lib.hid (show W0.heap.size ≤ gu4 ∧ gu4 < X0.heap.size from ho5.lt gu4 rfl)
  have HO4 := Lib.hid ho5
  clear ho5 hn4
  replace hbT := hbT.trans (hb1.mono hbT.size)
  replace B0 := Lib.hid (B0.out.kept hb1)
  replace B1 := Lib.hid (B1.out.kept hb1)
  replace B2 := Lib.hid (B2.out.kept hb1)
  clear hb1
  have b5 := B0.out.cell 5
  have c0 := B1.out.cell 0
  have d0 := B2.out.cell 0
  have e0 := B1.out.frozen 0
  have f0 := B2.out.frozen 0
  have c1 := B1.out.cell 1
  have d1 := B2.out.cell 1
  have e1 := B1.out.frozen 1
  have f1 := B2.out.frozen 1
  have c2 := B1.out.cell 2
  have d2 := B2.out.cell 2
  have e2 := B1.out.frozen 2
  have f2 := B2.out.frozen 2
  have c3 := B1.out.cell 3
  have d3 := B2.out.cell 3
  have e3 := B1.out.frozen 3
  have f3 := B2.out.frozen 3
  have c4 := B1.out.cell 4
  have d4 := B2.out.cell 4
  have e4 := B1.out.frozen 4
  have f4 := B2.out.frozen 4
  have c5 := B1.out.cell 5
  have d5 := B2.out.cell 5
  have e5 := B1.out.frozen 5
  have f5 := B2.out.frozen 5
  simp only [List.getElem?_toArray, List.getElem?_cons_zero, List.getElem?_cons_succ] at b5 c0 d0 c1 d1 c2 d2 c3 d3 c4 d4 c5 d5
  go_wp2_with fail
  have y0 := (Bx.set_ (Bx.far (p := ⟨w.heap.size + 2, 5, none⟩) (Bx.far (p := ⟨w.heap.size + 2, 4, none⟩) (Bx.far (p := ⟨w.heap.size + 2, 3, none⟩) (Bx.far (p := ⟨w.heap.size + 2, 2, none⟩) (Bx.far (p := ⟨w.heap.size + 2, 1, none⟩) B1.out (show w.heap.size + 1 ≠ w.heap.size + 2 by omega) (.int .i64 r.kind)) (show w.heap.size + 1 ≠ w.heap.size + 2 by omega) (.int .i64 r.pos)) (show w.heap.size + 1 ≠ w.heap.size + 2 by omega) (.int .i64 r.count)) (show w.heap.size + 1 ≠ w.heap.size + 2 by omega) (.slice (some ⟨gu4, 0, none⟩) r.words.length cu4)) (show w.heap.size + 1 ≠ w.heap.size + 2 by omega) (.int .i64 r.weight)) 0 (.int .i64 r.id)).cell 0
  have y1 := (Bx.set_ (Bx.set_ (Bx.far (p := ⟨w.heap.size + 2, 5, none⟩) (Bx.far (p := ⟨w.heap.size + 2, 4, none⟩) (Bx.far (p := ⟨w.heap.size + 2, 3, none⟩) (Bx.far (p := ⟨w.heap.size + 2, 2, none⟩) (Bx.far (p := ⟨w.heap.size + 2, 1, none⟩) B1.out (show w.heap.size + 1 ≠ w.heap.size + 2 by omega) (.int .i64 r.kind)) (show w.heap.size + 1 ≠ w.heap.size + 2 by omega) (.int .i64 r.pos)) (show w.heap.size + 1 ≠ w.heap.size + 2 by omega) (.int .i64 r.count)) (show w.heap.size + 1 ≠ w.heap.size + 2 by omega) (.slice (some ⟨gu4, 0, none⟩) r.words.length cu4)) (show w.heap.size + 1 ≠ w.heap.size + 2 by omega) (.int .i64 r.weight)) 0 (.int .i64 r.id)) 1 (.int .i64 r.kind)).cell 1
  have y2 := (Bx.set_ (Bx.set_ (Bx.set_ (Bx.far (p := ⟨w.heap.size + 2, 5, none⟩) (Bx.far (p := ⟨w.heap.size + 2, 4, none⟩) (Bx.far (p := ⟨w.heap.size + 2, 3, none⟩) (Bx.far (p := ⟨w.heap.size + 2, 2, none⟩) (Bx.far (p := ⟨w.heap.size + 2, 1, none⟩) B1.out (show w.heap.size + 1 ≠ w.heap.size + 2 by omega) (.int .i64 r.kind)) (show w.heap.size + 1 ≠ w.heap.size + 2 by omega) (.int .i64 r.pos)) (show w.heap.size + 1 ≠ w.heap.size + 2 by omega) (.int .i64 r.count)) (show w.heap.size + 1 ≠ w.heap.size + 2 by omega) (.slice (some ⟨gu4, 0, none⟩) r.words.length cu4)) (show w.heap.size + 1 ≠ w.heap.size + 2 by omega) (.int .i64 r.weight)) 0 (.int .i64 r.id)) 1 (.int .i64 r.kind)) 2 (.int .i64 r.pos)).cell 2
  have y3 := (Bx.set_ (Bx.set_ (Bx.set_ (Bx.set_ (Bx.far (p := ⟨w.heap.size + 2, 5, none⟩) (Bx.far (p := ⟨w.heap.size + 2, 4, none⟩) (Bx.far (p := ⟨w.heap.size + 2, 3, none⟩) (Bx.far (p := ⟨w.heap.size + 2, 2, none⟩) (Bx.far (p := ⟨w.heap.size + 2, 1, none⟩) B1.out (show w.heap.size + 1 ≠ w.heap.size + 2 by omega) (.int .i64 r.kind)) (show w.heap.size + 1 ≠ w.heap.size + 2 by omega) (.int .i64 r.pos)) (show w.heap.size + 1 ≠ w.heap.size + 2 by omega) (.int .i64 r.count)) (show w.heap.size + 1 ≠ w.heap.size + 2 by omega) (.slice (some ⟨gu4, 0, none⟩) r.words.length cu4)) (show w.heap.size + 1 ≠ w.heap.size + 2 by omega) (.int .i64 r.weight)) 0 (.int .i64 r.id)) 1 (.int .i64 r.kind)) 2 (.int .i64 r.pos)) 3 (.int .i64 r.count)).cell 3
  have y4 := (Bx.set_ (Bx.set_ (Bx.set_ (Bx.set_ (Bx.set_ (Bx.far (p := ⟨w.heap.size + 2, 5, none⟩) (Bx.far (p := ⟨w.heap.size + 2, 4, none⟩) (Bx.far (p := ⟨w.heap.size + 2, 3, none⟩) (Bx.far (p := ⟨w.heap.size + 2, 2, none⟩) (Bx.far (p := ⟨w.heap.size + 2, 1, none⟩) B1.out (show w.heap.size + 1 ≠ w.heap.size + 2 by omega) (.int .i64 r.kind)) (show w.heap.size + 1 ≠ w.heap.size + 2 by omega) (.int .i64 r.pos)) (show w.heap.size + 1 ≠ w.heap.size + 2 by omega) (.int .i64 r.count)) (show w.heap.size + 1 ≠ w.heap.size + 2 by omega) (.slice (some ⟨gu4, 0, none⟩) r.words.length cu4)) (show w.heap.size + 1 ≠ w.heap.size + 2 by omega) (.int .i64 r.weight)) 0 (.int .i64 r.id)) 1 (.int .i64 r.kind)) 2 (.int .i64 r.pos)) 3 (.int .i64 r.count)) 4 (.slice (some ⟨gu4, 0, none⟩) r.words.length cu4)).cell 4
  have y5 := (Bx.set_ (Bx.set_ (Bx.set_ (Bx.set_ (Bx.set_ (Bx.set_ (Bx.far (p := ⟨w.heap.size + 2, 5, none⟩) (Bx.far (p := ⟨w.heap.size + 2, 4, none⟩) (Bx.far (p := ⟨w.heap.size + 2, 3, none⟩) (Bx.far (p := ⟨w.heap.size + 2, 2, none⟩) (Bx.far (p := ⟨w.heap.size + 2, 1, none⟩) B1.out (show w.heap.size + 1 ≠ w.heap.size + 2 by omega) (.int .i64 r.kind)) (show w.heap.size + 1 ≠ w.heap.size + 2 by omega) (.int .i64 r.pos)) (show w.heap.size + 1 ≠ w.heap.size + 2 by omega) (.int .i64 r.count)) (show w.heap.size + 1 ≠ w.heap.size + 2 by omega) (.slice (some ⟨gu4, 0, none⟩) r.words.length cu4)) (show w.heap.size + 1 ≠ w.heap.size + 2 by omega) (.int .i64 r.weight)) 0 (.int .i64 r.id)) 1 (.int .i64 r.kind)) 2 (.int .i64 r.pos)) 3 (.int .i64 r.count)) 4 (.slice (some ⟨gu4, 0, none⟩) r.words.length cu4)) 5 (.int .i64 r.weight)).cell 5
  simp at y0 y1 y2 y3 y4 y5
  refine bodyPost_ret (v := .agg #[.int .i64 r.id, .int .i64 r.kind, .int .i64 r.pos, .int .i64 r.count, .slice (some ⟨gu4, 0, none⟩) r.words.length cu4, .int .i64 r.weight]) (by simp [results, Tryd.results84, go_sem, y0, y1, y2, y3, y4, y5]) rfl ?_
  refine ⟨_, rfl, ⟨_, _, _, _, _, _, rfl, ⟨_, rfl⟩⟩, ⟨_, rfl, ?_⟩, ?_⟩
  · exact ((own_set (own_set (own_set (own_set (own_set (own_set (own_set (own_set (own_set (own_set (own_set HO4.out (fun k hk => by (have hk2 := HO4.out.lt k hk); show k ≠ w.heap.size + 2; have := HZ0.out; have := HG4.out; have := HX0.out; omega) _) (fun k hk => by (have hk2 := HO4.out.lt k hk); show k ≠ w.heap.size + 2; have := HZ0.out; have := HG4.out; have := HX0.out; omega) _) (fun k hk => by (have hk2 := HO4.out.lt k hk); show k ≠ w.heap.size + 2; have := HZ0.out; have := HG4.out; have := HX0.out; omega) _) (fun k hk => by (have hk2 := HO4.out.lt k hk); show k ≠ w.heap.size + 2; have := HZ0.out; have := HG4.out; have := HX0.out; omega) _) (fun k hk => by (have hk2 := HO4.out.lt k hk); show k ≠ w.heap.size + 2; have := HZ0.out; have := HG4.out; have := HX0.out; omega) _) (fun k hk => by (have hk2 := HO4.out.lt k hk); show k ≠ w.heap.size + 1; have := HZ0.out; have := HG4.out; have := HX0.out; omega) _) (fun k hk => by (have hk2 := HO4.out.lt k hk); show k ≠ w.heap.size + 1; have := HZ0.out; have := HG4.out; have := HX0.out; omega) _) (fun k hk => by (have hk2 := HO4.out.lt k hk); show k ≠ w.heap.size + 1; have := HZ0.out; have := HG4.out; have := HX0.out; omega) _) (fun k hk => by (have hk2 := HO4.out.lt k hk); show k ≠ w.heap.size + 1; have := HZ0.out; have := HG4.out; have := HX0.out; omega) _) (fun k hk => by (have hk2 := HO4.out.lt k hk); show k ≠ w.heap.size + 1; have := HZ0.out; have := HG4.out; have := HX0.out; omega) _) (fun k hk => by (have hk2 := HO4.out.lt k hk); show k ≠ w.heap.size + 1; have := HZ0.out; have := HG4.out; have := HX0.out; omega) _).low (by have := HZ0.out; have := HG4.out; have := HX0.out; omega))
  · exact (Below.setCell (Below.setCell (Below.setCell (Below.setCell (Below.setCell (Below.setCell (Below.setCell (Below.setCell (Below.setCell (Below.setCell (Below.setCell hbT (by show w.heap.size ≤ w.heap.size + 2; omega) _) (by show w.heap.size ≤ w.heap.size + 2; omega) _) (by show w.heap.size ≤ w.heap.size + 2; omega) _) (by show w.heap.size ≤ w.heap.size + 2; omega) _) (by show w.heap.size ≤ w.heap.size + 2; omega) _) (by show w.heap.size ≤ w.heap.size + 1; omega) _) (by show w.heap.size ≤ w.heap.size + 1; omega) _) (by show w.heap.size ≤ w.heap.size + 1; omega) _) (by show w.heap.size ≤ w.heap.size + 1; omega) _) (by show w.heap.size ≤ w.heap.size + 1; omega) _) (by show w.heap.size ≤ w.heap.size + 1; omega) _)
end Go.Proofs.YtclpdpfnlmfogaaDoor.LProposal
