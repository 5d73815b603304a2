/- The laws' helper toAmendment: a copy of what came in. -/
import Derived.Test.YtclpdpfnlmfogaaDoorJ1
import Derived.Test.YtclpdpfnlmfogaaDoorLStringT
namespace Go.Proofs.YtclpdpfnlmfogaaDoor.LAmendment
open Go.RowKit Bs
set_option linter.unusedVariables false
set_option maxRecDepth 100000 in
set_option maxHeartbeats 1600000 in
theorem to (v : Value) (r : R) (w : World) (h : Is w v r) (hsm3 : r.words.length ≤ 1048576) :
    Calls Tryd.prog 107 #[v] w fun e w' => ∃ u, e = .returned u ∧ NotNil u ∧ Own w' w.heap.size u r ∧ Below w.heap.size w w' := by
  obtain ⟨s3, rfl, h3⟩ := h
  obtain ⟨a3, cp3, rfl, h3⟩ := h3
  obtain ⟨W0, hW0⟩ : ∃ W : World, W = ((w.alloc (.cells #[.int .i64 r.kind, .int .i64 r.pos, .int .i64 r.count, .slice a3 r.words.length cp3] 97)).alloc (.cells #[.int .i64 0, .int .i64 0, .int .i64 0, .slice none 0 0] 26)).alloc (.cells #[.int .i64 r.kind, .int .i64 r.pos, .int .i64 r.count, .slice none 0 0] 26) := ⟨_, rfl⟩
  have hb : Below w.heap.size w W0 := by rw [hW0]; exact (((Below.refl _ _).alloc (Nat.le_refl _) _).alloc (by simp) _).alloc (by simp; omega) _
  have HI3 := Lib.hid (Bs.Is.below _ ⟨a3, cp3, rfl, h3⟩ hb)
  have B0 := Lib.hid (show Bx W0 w.heap.size 97 #[.int .i64 r.kind, .int .i64 r.pos, .int .i64 r.count, .slice a3 r.words.length cp3] by rw [hW0]; exact (Bx.new w 97 #[.int .i64 r.kind, .int .i64 r.pos, .int .i64 r.count, .slice a3 r.words.length cp3]).alloc _ |>.alloc _)
  have B1 := Lib.hid (show Bx W0 (w.heap.size + 1) 26 #[.int .i64 0, .int .i64 0, .int .i64 0, .slice none 0 0] by rw [hW0]; have := (Bx.new (w.alloc (.cells #[.int .i64 r.kind, .int .i64 r.pos, .int .i64 r.count, .slice a3 r.words.length cp3] 97)) 26 #[.int .i64 0, .int .i64 0, .int .i64 0, .slice none 0 0]).alloc (.cells #[.int .i64 r.kind, .int .i64 r.pos, .int .i64 r.count, .slice none 0 0] 26); simpa using this)
  have B2 := Lib.hid (show Bx W0 (w.heap.size + 2) 26 #[.int .i64 r.kind, .int .i64 r.pos, .int .i64 r.count, .slice none 0 0] by rw [hW0]; have := Bx.new ((w.alloc (.cells #[.int .i64 r.kind, .int .i64 r.pos, .int .i64 r.count, .slice a3 r.words.length cp3] 97)).alloc (.cells #[.int .i64 0, .int .i64 0, .int .i64 0, .slice none 0 0] 26)) 26 #[.int .i64 r.kind, .int .i64 r.pos, .int .i64 r.count, .slice none 0 0]; simpa using this)
  have HZ0 := Lib.hid (show W0.heap.size = w.heap.size + 3 by rw [hW0]; simp)
  have hbT := hb
  clear hb h3
  go_enter Tryd.func107, Tryd.ntmps107
  go_wp2_with fail
  rw [← hW0]
  clear hW0
  obtain ⟨V0, hV0⟩ : ∃ V, V = w.heap.size := ⟨_, rfl⟩
  refine (LString.toS _ r.words W0 HI3.out hsm3).mono ?_
  rintro e X0 ⟨u3, rfl, hn3, ho3, hb1⟩
  obtain ⟨gu3, cu3, rfl⟩ : ∃ g c, u3 = .slice (some ⟨g, 0, none⟩) r.words.length c := by
    rcases ho3.shape with ⟨rfl, _⟩ | ⟨g, c, rfl, _⟩
    · obtain ⟨g, hg⟩ := hn3; cases hg
    · exact ⟨g, c, rfl⟩
  have HX0 := Lib.hid hb1.size
  have HG3 := Lib.hid (show W0.heap.size ≤ gu3 ∧ gu3 < X0.heap.size from ho3.lt gu3 rfl)
  have HO3 := Lib.hid ho3
  clear ho3 hn3
  replace hbT := hbT.trans (hb1.mono hbT.size)
  replace B0 := Lib.hid (B0.out.kept hb1)
  replace B1 := Lib.hid (B1.out.kept hb1)
  replace B2 := Lib.hid (B2.out.kept hb1)
  clear hb1
  have c0 := B1.out.cell 0
  have d0 := B2.out.cell 0
  have e0 := B1.out.frozen 0
  have f0 := B2.out.frozen 0
  have c1 := B1.out.cell 1
  have d1 := B2.out.cell 1
  have e1 := B1.out.frozen 1
  have f1 := B2.out.frozen 1
  have c2 := B1.out.cell 2
  have d2 := B2.out.cell 2
  have e2 := B1.out.frozen 2
  have f2 := B2.out.frozen 2
  have c3 := B1.out.cell 3
  have d3 := B2.out.cell 3
  have e3 := B1.out.frozen 3
  have f3 := B2.out.frozen 3
  simp only [List.getElem?_toArray, List.getElem?_cons_zero, List.getElem?_cons_succ] at c0 d0 c1 d1 c2 d2 c3 d3
  go_wp2_with fail
  have y0 := (Bx.set_ (Bx.far (p := ⟨w.heap.size + 2, 3, none⟩) B1.out (show w.heap.size + 1 ≠ w.heap.size + 2 by omega) (.slice (some ⟨gu3, 0, none⟩) r.words.length cu3)) 0 (.int .i64 r.kind)).cell 0
  have y1 := (Bx.set_ (Bx.set_ (Bx.far (p := ⟨w.heap.size + 2, 3, none⟩) B1.out (show w.heap.size + 1 ≠ w.heap.size + 2 by omega) (.slice (some ⟨gu3, 0, none⟩) r.words.length cu3)) 0 (.int .i64 r.kind)) 1 (.int .i64 r.pos)).cell 1
  have y2 := (Bx.set_ (Bx.set_ (Bx.set_ (Bx.far (p := ⟨w.heap.size + 2, 3, none⟩) B1.out (show w.heap.size + 1 ≠ w.heap.size + 2 by omega) (.slice (some ⟨gu3, 0, none⟩) r.words.length cu3)) 0 (.int .i64 r.kind)) 1 (.int .i64 r.pos)) 2 (.int .i64 r.count)).cell 2
  have y3 := (Bx.set_ (Bx.set_ (Bx.set_ (Bx.set_ (Bx.far (p := ⟨w.heap.size + 2, 3, none⟩) B1.out (show w.heap.size + 1 ≠ w.heap.size + 2 by omega) (.slice (some ⟨gu3, 0, none⟩) r.words.length cu3)) 0 (.int .i64 r.kind)) 1 (.int .i64 r.pos)) 2 (.int .i64 r.count)) 3 (.slice (some ⟨gu3, 0, none⟩) r.words.length cu3)).cell 3
  simp at y0 y1 y2 y3
  refine bodyPost_ret (v := .agg #[.int .i64 r.kind, .int .i64 r.pos, .int .i64 r.count, .slice (some ⟨gu3, 0, none⟩) r.words.length cu3]) (by simp [results, Tryd.results107, go_sem, y0, y1, y2, y3]) rfl ?_
  refine ⟨_, rfl, ⟨_, _, _, _, rfl, ⟨_, rfl⟩⟩, ⟨_, rfl, ?_⟩, ?_⟩
  · exact (((own_set (own_set (own_set (own_set (own_set HO3.out (fun k hk => by (have hk2 := HO3.out.lt k hk); show k ≠ w.heap.size + 2; have := HZ0.out; have := HG3.out; have := HX0.out;  omega) _) (fun k hk => by (have hk2 := HO3.out.lt k hk); show k ≠ w.heap.size + 1; have := HZ0.out; have := HG3.out; have := HX0.out;  omega) _) (fun k hk => by (have hk2 := HO3.out.lt k hk); show k ≠ w.heap.size + 1; have := HZ0.out; have := HG3.out; have := HX0.out;  omega) _) (fun k hk => by (have hk2 := HO3.out.lt k hk); show k ≠ w.heap.size + 1; have := HZ0.out; have := HG3.out; have := HX0.out;  omega) _) (fun k hk => by (have hk2 := HO3.out.lt k hk); show k ≠ w.heap.size + 1; have := HZ0.out; have := HG3.out; have := HX0.out;  omega) _).low (by have := HZ0.out; have := HG3.out; have := HX0.out;  omega)))
  · exact (Below.setCell (Below.setCell (Below.setCell (Below.setCell (Below.setCell hbT (by show w.heap.size ≤ w.heap.size + 2; omega) _) (by show w.heap.size ≤ w.heap.size + 1; omega) _) (by show w.heap.size ≤ w.heap.size + 1; omega) _) (by show w.heap.size ≤ w.heap.size + 1; omega) _) (by show w.heap.size ≤ w.heap.size + 1; omega) _)
end Go.Proofs.YtclpdpfnlmfogaaDoor.LAmendment
