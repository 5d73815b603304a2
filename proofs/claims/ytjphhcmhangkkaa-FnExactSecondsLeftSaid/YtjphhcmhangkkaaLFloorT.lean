/- The laws' helper toFloor: a copy of what came in. -/
import Derived.Test.YtjphhcmhangkkaaLFloorD
import Derived.Test.YtjphhcmhangkkaaLIntT
import Derived.Test.YtjphhcmhangkkaaLShareT
namespace Go.Proofs.Ytjphhcmhangkkaa.LFloor
open Go.RowKit Bs
set_option linter.unusedVariables false
set_option maxRecDepth 100000 in
set_option maxHeartbeats 1600000 in
theorem to (v : Value) (r : R) (w : World) (h : Is w v r) (hsm3 : r.waiting.length ≤ 1048576) (hsm4 : r.shares.length ≤ 1048576) :
    Calls Try.prog 19 #[v] w fun e w' => ∃ u, e = .returned u ∧ NotNil u ∧ Own w' w.heap.size u r ∧ Below w.heap.size w w' := by
  obtain ⟨s3, s4, rfl, h3, h4⟩ := h
  obtain ⟨a3, cp3, rfl, h3⟩ := h3
  obtain ⟨a4, cp4, rfl, h4⟩ := h4
  obtain ⟨W0, hW0⟩ : ∃ W : World, W = ((w.alloc (.cells #[.int .i64 r.turns, .int .i64 r.seconds, .int .i64 r.speaking, .slice a3 r.waiting.length cp3, .slice a4 r.shares.length cp4] 33)).alloc (.cells #[.int .i64 0, .int .i64 0, .int .i64 0, .slice none 0 0, .slice none 0 0] 25)).alloc (.cells #[.int .i64 r.turns, .int .i64 r.seconds, .int .i64 r.speaking, .slice none 0 0, .slice none 0 0] 25) := ⟨_, rfl⟩
  have hb : Below w.heap.size w W0 := by rw [hW0]; exact (((Below.refl _ _).alloc (Nat.le_refl _) _).alloc (by simp) _).alloc (by simp; omega) _
  have HI3 := Lib.hid (Bs.Is.below _ ⟨a3, cp3, rfl, h3⟩ hb)
  have HI4 := Lib.hid (Bs.Is.below _ ⟨a4, cp4, rfl, h4⟩ hb)
  have HQ4 := Lib.hid (show ∀ b o, a4 = some ⟨b, o, none⟩ → r.shares ≠ [] → b ≠ w.heap.size + 2 from fun b o e hne => by have := is_low h4 e hne; omega)
  have B0 := Lib.hid (show Bx W0 w.heap.size 33 #[.int .i64 r.turns, .int .i64 r.seconds, .int .i64 r.speaking, .slice a3 r.waiting.length cp3, .slice a4 r.shares.length cp4] by rw [hW0]; exact (Bx.new w 33 #[.int .i64 r.turns, .int .i64 r.seconds, .int .i64 r.speaking, .slice a3 r.waiting.length cp3, .slice a4 r.shares.length cp4]).alloc _ |>.alloc _)
  have B1 := Lib.hid (show Bx W0 (w.heap.size + 1) 25 #[.int .i64 0, .int .i64 0, .int .i64 0, .slice none 0 0, .slice none 0 0] by rw [hW0]; have := (Bx.new (w.alloc (.cells #[.int .i64 r.turns, .int .i64 r.seconds, .int .i64 r.speaking, .slice a3 r.waiting.length cp3, .slice a4 r.shares.length cp4] 33)) 25 #[.int .i64 0, .int .i64 0, .int .i64 0, .slice none 0 0, .slice none 0 0]).alloc (.cells #[.int .i64 r.turns, .int .i64 r.seconds, .int .i64 r.speaking, .slice none 0 0, .slice none 0 0] 25); simpa using this)
  have B2 := Lib.hid (show Bx W0 (w.heap.size + 2) 25 #[.int .i64 r.turns, .int .i64 r.seconds, .int .i64 r.speaking, .slice none 0 0, .slice none 0 0] by rw [hW0]; have := Bx.new ((w.alloc (.cells #[.int .i64 r.turns, .int .i64 r.seconds, .int .i64 r.speaking, .slice a3 r.waiting.length cp3, .slice a4 r.shares.length cp4] 33)).alloc (.cells #[.int .i64 0, .int .i64 0, .int .i64 0, .slice none 0 0, .slice none 0 0] 25)) 25 #[.int .i64 r.turns, .int .i64 r.seconds, .int .i64 r.speaking, .slice none 0 0, .slice none 0 0]; simpa using this)
  have HZ0 := Lib.hid (show W0.heap.size = w.heap.size + 3 by rw [hW0]; simp)
  have hbT := hb
  clear hb h3 h4
  go_enter Try.func19, Try.ntmps19
  go_wp2_with fail
  rw [← hW0]
  clear hW0
  obtain ⟨V0, hV0⟩ : ∃ V, V = w.heap.size := ⟨_, rfl⟩
  refine (LInt.toS _ r.waiting W0 HI3.out hsm3).mono ?_
  rintro e X0 ⟨u3, rfl, hn3, ho3, hb1⟩
  obtain ⟨gu3, cu3, rfl⟩ : ∃ g c, u3 = .slice (some ⟨g, 0, none⟩) r.waiting.length c := by
    rcases ho3.shape with ⟨rfl, _⟩ | ⟨g, c, rfl, _⟩
    · obtain ⟨g, hg⟩ := hn3; cases hg
    · exact ⟨g, c, rfl⟩
  have HX0 := Lib.hid hb1.size
  have HG3 := Lib.hid (show W0.heap.size ≤ gu3 ∧ gu3 < X0.heap.size from ho3.lt gu3 rfl)
  have HO3 := Lib.hid ho3
  clear ho3 hn3
  replace hbT := hbT.trans (hb1.mono hbT.size)
  replace B0 := Lib.hid (B0.out.kept hb1)
  replace B1 := Lib.hid (B1.out.kept hb1)
  replace B2 := Lib.hid (B2.out.kept hb1)
  replace HI4 := Lib.hid (Bs.Is.below _ HI4.out hb1)
  clear hb1
  have p4 := B0.out.cell 4
  have d3 := B2.out.cell 3
  have f3 := B2.out.frozen 3
  simp only [List.getElem?_toArray, List.getElem?_cons_zero, List.getElem?_cons_succ] at p4 d3
  obtain ⟨W1, hW1⟩ : ∃ W : World, W = (X0.setCell ⟨w.heap.size + 2, 3, none⟩ (.slice (some ⟨gu3, 0, none⟩) r.waiting.length cu3)) := ⟨_, rfl⟩
  have hbW : Below X0.heap.size X0 W1 ∨ True := .inr trivial
  have HZ1 := Lib.hid (show W1.heap.size = X0.heap.size by rw [hW1]; simp)
  replace hbT : Below w.heap.size w W1 := by rw [hW1]; exact (Below.setCell hbT (by show w.heap.size ≤ w.heap.size + 2; omega) _)
  replace HO3 := Lib.hid (show Bs.Own LInt.rec 3 W1 _ _ _ by rw [hW1]; exact (own_set HO3.out (fun k hk => by (have hk2 := HO3.out.lt k hk); show k ≠ w.heap.size + 2; have := HZ0.out; have := HG3.out; have := HX0.out;  omega) _))
  replace HI4 := Lib.hid (show Bs.Is LShare.rec W1 _ _ by rw [hW1]; exact (is_set HI4.out (w.heap.size + 2) 3 _ HQ4.out))
  replace B0 := Lib.hid (show Bx W1 w.heap.size _ _ by rw [hW1]; exact (B0.out.far (p := ⟨w.heap.size + 2, 3, none⟩) (show w.heap.size ≠ w.heap.size + 2 by omega) _))
  replace B1 := Lib.hid (show Bx W1 (w.heap.size + 1) _ _ by rw [hW1]; exact (B1.out.far (p := ⟨w.heap.size + 2, 3, none⟩) (show w.heap.size + 1 ≠ w.heap.size + 2 by omega) _))
  replace B2 := Lib.hid (show Bx W1 (w.heap.size + 2) 25 #[.int .i64 r.turns, .int .i64 r.seconds, .int .i64 r.speaking, .slice (some ⟨gu3, 0, none⟩) r.waiting.length cu3, .slice none 0 0] by rw [hW1]; exact (B2.out.set_ 3 (.slice (some ⟨gu3, 0, none⟩) r.waiting.length cu3)))
  clear hbW
  go_wp2_with fail
  rw [← hW1]
  clear hW1 p4 d3 f3
  refine (LShare.toS _ r.shares W1 HI4.out hsm4).mono ?_
  rintro e X1 ⟨u4, rfl, hn4, ho4, hb1⟩
  obtain ⟨gu4, cu4, rfl⟩ : ∃ g c, u4 = .slice (some ⟨g, 0, none⟩) r.shares.length c := by
    rcases ho4.shape with ⟨rfl, _⟩ | ⟨g, c, rfl, _⟩
    · obtain ⟨g, hg⟩ := hn4; cases hg
    · exact ⟨g, c, rfl⟩
  have HX1 := Lib.hid hb1.size
  have HG4 := Lib.hid (show W1.heap.size ≤ gu4 ∧ gu4 < X1.heap.size from ho4.lt gu4 rfl)
  have HO4 := Lib.hid ho4
  clear ho4 hn4
  replace hbT := hbT.trans (hb1.mono hbT.size)
  replace B0 := Lib.hid (B0.out.kept hb1)
  replace B1 := Lib.hid (B1.out.kept hb1)
  replace B2 := Lib.hid (B2.out.kept hb1)
  replace HO3 := Lib.hid (HO3.out.kept hb1)
  clear hb1
  have c0 := B1.out.cell 0
  have d0 := B2.out.cell 0
  have e0 := B1.out.frozen 0
  have f0 := B2.out.frozen 0
  have c1 := B1.out.cell 1
  have d1 := B2.out.cell 1
  have e1 := B1.out.frozen 1
  have f1 := B2.out.frozen 1
  have c2 := B1.out.cell 2
  have d2 := B2.out.cell 2
  have e2 := B1.out.frozen 2
  have f2 := B2.out.frozen 2
  have c3 := B1.out.cell 3
  have d3 := B2.out.cell 3
  have e3 := B1.out.frozen 3
  have f3 := B2.out.frozen 3
  have c4 := B1.out.cell 4
  have d4 := B2.out.cell 4
  have e4 := B1.out.frozen 4
  have f4 := B2.out.frozen 4
  simp only [List.getElem?_toArray, List.getElem?_cons_zero, List.getElem?_cons_succ] at c0 d0 c1 d1 c2 d2 c3 d3 c4 d4
  go_wp2_with fail
  have y0 := (Bx.set_ (Bx.far (p := ⟨w.heap.size + 2, 4, none⟩) B1.out (show w.heap.size + 1 ≠ w.heap.size + 2 by omega) (.slice (some ⟨gu4, 0, none⟩) r.shares.length cu4)) 0 (.int .i64 r.turns)).cell 0
  have y1 := (Bx.set_ (Bx.set_ (Bx.far (p := ⟨w.heap.size + 2, 4, none⟩) B1.out (show w.heap.size + 1 ≠ w.heap.size + 2 by omega) (.slice (some ⟨gu4, 0, none⟩) r.shares.length cu4)) 0 (.int .i64 r.turns)) 1 (.int .i64 r.seconds)).cell 1
  have y2 := (Bx.set_ (Bx.set_ (Bx.set_ (Bx.far (p := ⟨w.heap.size + 2, 4, none⟩) B1.out (show w.heap.size + 1 ≠ w.heap.size + 2 by omega) (.slice (some ⟨gu4, 0, none⟩) r.shares.length cu4)) 0 (.int .i64 r.turns)) 1 (.int .i64 r.seconds)) 2 (.int .i64 r.speaking)).cell 2
  have y3 := (Bx.set_ (Bx.set_ (Bx.set_ (Bx.set_ (Bx.far (p := ⟨w.heap.size + 2, 4, none⟩) B1.out (show w.heap.size + 1 ≠ w.heap.size + 2 by omega) (.slice (some ⟨gu4, 0, none⟩) r.shares.length cu4)) 0 (.int .i64 r.turns)) 1 (.int .i64 r.seconds)) 2 (.int .i64 r.speaking)) 3 (.slice (some ⟨gu3, 0, none⟩) r.waiting.length cu3)).cell 3
  have y4 := (Bx.set_ (Bx.set_ (Bx.set_ (Bx.set_ (Bx.set_ (Bx.far (p := ⟨w.heap.size + 2, 4, none⟩) B1.out (show w.heap.size + 1 ≠ w.heap.size + 2 by omega) (.slice (some ⟨gu4, 0, none⟩) r.shares.length cu4)) 0 (.int .i64 r.turns)) 1 (.int .i64 r.seconds)) 2 (.int .i64 r.speaking)) 3 (.slice (some ⟨gu3, 0, none⟩) r.waiting.length cu3)) 4 (.slice (some ⟨gu4, 0, none⟩) r.shares.length cu4)).cell 4
  simp at y0 y1 y2 y3 y4
  refine bodyPost_ret (v := .agg #[.int .i64 r.turns, .int .i64 r.seconds, .int .i64 r.speaking, .slice (some ⟨gu3, 0, none⟩) r.waiting.length cu3, .slice (some ⟨gu4, 0, none⟩) r.shares.length cu4]) (by simp [results, Try.results19, go_sem, y0, y1, y2, y3, y4]) rfl ?_
  refine ⟨_, rfl, ⟨_, _, _, _, _, rfl, ⟨_, rfl⟩, ⟨_, rfl⟩⟩, ⟨_, _, rfl, ?_⟩, ?_⟩
  · exact ⟨((own_set (own_set (own_set (own_set (own_set (own_set HO3.out (fun k hk => by (have hk2 := HO3.out.lt k hk); show k ≠ w.heap.size + 2; have := HZ0.out; have := HG3.out; have := HX0.out; have := HG4.out; have := HX1.out; have := HZ1.out;  omega) _) (fun k hk => by (have hk2 := HO3.out.lt k hk); show k ≠ w.heap.size + 1; have := HZ0.out; have := HG3.out; have := HX0.out; have := HG4.out; have := HX1.out; have := HZ1.out;  omega) _) (fun k hk => by (have hk2 := HO3.out.lt k hk); show k ≠ w.heap.size + 1; have := HZ0.out; have := HG3.out; have := HX0.out; have := HG4.out; have := HX1.out; have := HZ1.out;  omega) _) (fun k hk => by (have hk2 := HO3.out.lt k hk); show k ≠ w.heap.size + 1; have := HZ0.out; have := HG3.out; have := HX0.out; have := HG4.out; have := HX1.out; have := HZ1.out;  omega) _) (fun k hk => by (have hk2 := HO3.out.lt k hk); show k ≠ w.heap.size + 1; have := HZ0.out; have := HG3.out; have := HX0.out; have := HG4.out; have := HX1.out; have := HZ1.out;  omega) _) (fun k hk => by (have hk2 := HO3.out.lt k hk); show k ≠ w.heap.size + 1; have := HZ0.out; have := HG3.out; have := HX0.out; have := HG4.out; have := HX1.out; have := HZ1.out;  omega) _).low (by have := HZ0.out; have := HG3.out; have := HX0.out; have := HG4.out; have := HX1.out; have := HZ1.out;  omega)), ((own_set (own_set (own_set (own_set (own_set (own_set HO4.out (fun k hk => by (have hk2 := HO4.out.lt k hk); show k ≠ w.heap.size + 2; have := HZ0.out; have := HG3.out; have := HX0.out; have := HG4.out; have := HX1.out; have := HZ1.out;  omega) _) (fun k hk => by (have hk2 := HO4.out.lt k hk); show k ≠ w.heap.size + 1; have := HZ0.out; have := HG3.out; have := HX0.out; have := HG4.out; have := HX1.out; have := HZ1.out;  omega) _) (fun k hk => by (have hk2 := HO4.out.lt k hk); show k ≠ w.heap.size + 1; have := HZ0.out; have := HG3.out; have := HX0.out; have := HG4.out; have := HX1.out; have := HZ1.out;  omega) _) (fun k hk => by (have hk2 := HO4.out.lt k hk); show k ≠ w.heap.size + 1; have := HZ0.out; have := HG3.out; have := HX0.out; have := HG4.out; have := HX1.out; have := HZ1.out;  omega) _) (fun k hk => by (have hk2 := HO4.out.lt k hk); show k ≠ w.heap.size + 1; have := HZ0.out; have := HG3.out; have := HX0.out; have := HG4.out; have := HX1.out; have := HZ1.out;  omega) _) (fun k hk => by (have hk2 := HO4.out.lt k hk); show k ≠ w.heap.size + 1; have := HZ0.out; have := HG3.out; have := HX0.out; have := HG4.out; have := HX1.out; have := HZ1.out;  omega) _).low (by have := HZ0.out; have := HG3.out; have := HX0.out; have := HG4.out; have := HX1.out; have := HZ1.out;  omega)), (fun k h1 h2 => by cases h1; cases h2; have := HZ0.out; have := HG3.out; have := HX0.out; have := HG4.out; have := HX1.out; have := HZ1.out;  omega)⟩
  · exact (Below.setCell (Below.setCell (Below.setCell (Below.setCell (Below.setCell (Below.setCell hbT (by show w.heap.size ≤ w.heap.size + 2; omega) _) (by show w.heap.size ≤ w.heap.size + 1; omega) _) (by show w.heap.size ≤ w.heap.size + 1; omega) _) (by show w.heap.size ≤ w.heap.size + 1; omega) _) (by show w.heap.size ≤ w.heap.size + 1; omega) _) (by show w.heap.size ≤ w.heap.size + 1; omega) _)
end Go.Proofs.Ytjphhcmhangkkaa.LFloor
