/- The laws' helper toPrecedence: a copy of what came in. -/
import Derived.Test.YthhlhcojjeglkabLPrecedenceD
import Derived.Test.YthhlhcojjeglkabLIntA2T
namespace Go.Proofs.Ythhlhcojjeglkab.LPrecedence
open Go.RowKit Bs
set_option linter.unusedVariables false
set_option maxRecDepth 100000 in
set_option maxHeartbeats 800000 in
theorem to (v : Value) (r : R) (w : World) (h : Is w v r) (hsm : r.over.length ≤ 1048576) :
    Calls Try.prog 7 #[v] w fun e w' => ∃ u, e = .returned u ∧ NotNil u ∧ Own w' w.heap.size u r ∧ Below w.heap.size w w' := by
  obtain ⟨s, rfl, h⟩ := h
  obtain ⟨a, cp, rfl, h⟩ := h
  obtain ⟨W, hW⟩ : ∃ W : World, W = ((w.alloc (.cells #[.int .i64 r.kinds, .slice a r.over.length cp] 24)).alloc (.cells #[.int .i64 0, .slice none 0 0] 29)).alloc (.cells #[.int .i64 r.kinds, .slice none 0 0] 29) := ⟨_, rfl⟩
  have hb : Below w.heap.size w W := by rw [hW]; exact (((Below.refl _ _).alloc (Nat.le_refl _) _).alloc (by simp) _).alloc (by simp; omega) _
  have HC := Lib.hid (LIntA2.toS _ r.over W (Bs.Is.below _ ⟨a, cp, rfl, h⟩ hb) hsm)
  have B1 := Lib.hid (show Bx W (w.heap.size + 1) 29 #[.int .i64 0, .slice none 0 0] by rw [hW]; have := (Bx.new (w.alloc (.cells #[.int .i64 r.kinds, .slice a r.over.length cp] 24)) 29 #[.int .i64 0, .slice none 0 0]).alloc (.cells #[.int .i64 r.kinds, .slice none 0 0] 29); simpa using this)
  have B2 := Lib.hid (show Bx W (w.heap.size + 2) 29 #[.int .i64 r.kinds, .slice none 0 0] by rw [hW]; have := Bx.new ((w.alloc (.cells #[.int .i64 r.kinds, .slice a r.over.length cp] 24)).alloc (.cells #[.int .i64 0, .slice none 0 0] 29)) 29 #[.int .i64 r.kinds, .slice none 0 0]; simpa using this)
  have HZ := Lib.hid (show w.heap.size + 3 = W.heap.size by rw [hW]; simp)
  clear h
  go_enter Try.func7, Try.ntmps7
  go_wp2_with fail
  rw [← hW]
  refine HC.out.mono ?_
  rintro e w1 ⟨u, rfl, hn, ho, hb1⟩
  obtain ⟨gu, cu, rfl⟩ : ∃ g c, u = .slice (some ⟨g, 0, none⟩) r.over.length c := by
    rcases ho.shape with ⟨rfl, _⟩ | ⟨g, c, rfl, _⟩
    · obtain ⟨g, hg⟩ := hn; cases hg
    · exact ⟨g, c, rfl⟩
  have C1 := Lib.hid (B1.out.kept hb1)
  have C2 := Lib.hid (B2.out.kept hb1)
  have HB1 := Lib.hid hb1
  have HO := Lib.hid ho
  have HN := Lib.hid hn
  clear hb1 ho hn HC
  generalize hV : w.heap.size + 1 = V1 at *
  have hV2 : w.heap.size + 2 = V1 + 1 := by omega
  rw [hV2] at C2
  have hu1 : ∀ k, (Value.slice (some ⟨gu, 0, none⟩) r.over.length cu).ownBlock = some k → V1 + 1 < k := fun k hk => by have := (HO.out.lt k hk).1; have := HZ.out; omega
  have HU := Lib.hid hu1
  clear hu1 hV2
  have p0 := C1.out.cell 0
  have q0 := C2.out.cell 0
  have r0 := C1.out.frozen 0
  have t0 := C2.out.frozen 0
  have p1 := C1.out.cell 1
  have q1 := C2.out.cell 1
  have r1 := C1.out.frozen 1
  have t1 := C2.out.frozen 1
  simp only [List.getElem?_toArray, List.getElem?_cons_zero, List.getElem?_cons_succ] at p0 q0 p1 q1
  go_wp2_with fail
  have y0 := (Bx.set_ (Bx.far (p := ⟨V1 + 1, 1, none⟩) C1.out (show V1 ≠ V1 + 1 by omega) (.slice (some ⟨gu, 0, none⟩) r.over.length cu)) 0 (.int .i64 r.kinds)).cell 0
  have y1 := (Bx.set_ (Bx.set_ (Bx.far (p := ⟨V1 + 1, 1, none⟩) C1.out (show V1 ≠ V1 + 1 by omega) (.slice (some ⟨gu, 0, none⟩) r.over.length cu)) 0 (.int .i64 r.kinds)) 1 (.slice (some ⟨gu, 0, none⟩) r.over.length cu)).cell 1
  simp at y0 y1
  refine bodyPost_ret (v := .agg #[.int .i64 r.kinds, .slice (some ⟨gu, 0, none⟩) r.over.length cu]) (by simp [results, Try.results7, go_sem, y0, y1]) rfl ?_
  refine ⟨_, rfl, ?_, ⟨_, rfl, ?_⟩, ?_⟩
  · obtain ⟨g, hg⟩ := HN.out
    exact ⟨_, _, g, rfl, hg⟩
  · exact own_set (own_set (own_set (HO.out.low (by have := HZ.out; omega)) (fun k hk => by have := HU.out k hk; show k ≠ V1 + 1; omega) _) (fun k hk => by have := HU.out k hk; show k ≠ V1; omega) _) (fun k hk => by have := HU.out k hk; show k ≠ V1; omega) _
  · exact Below.setCell (Below.setCell (Below.setCell (hb.trans (HB1.out.mono hb.size)) (by show w.heap.size ≤ V1 + 1; omega) _) (by show w.heap.size ≤ V1; omega) _) (by show w.heap.size ≤ V1; omega) _
end Go.Proofs.Ythhlhcojjeglkab.LPrecedence
