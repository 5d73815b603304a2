/- The laws' helper toVoters: a copy of what came in. -/
import Derived.Test.YtdjnaoaniokbgaaLVotersD
import Derived.Test.YtdjnaoaniokbgaaLIntT
import Derived.Test.YtdjnaoaniokbgaaLProxyT
namespace Go.Proofs.Ytdjnaoaniokbgaa.LVoters
open Go.RowKit Bs
set_option linter.unusedVariables false
set_option maxRecDepth 100000 in
set_option maxHeartbeats 1600000 in
theorem to (v : Value) (r : R) (w : World) (h : Is w v r) (hsm0 : r.weights.length ≤ 1048576) (hsm1 : r.proxies.length ≤ 1048576) :
    Calls Try.prog 45 #[v] w fun e w' => ∃ u, e = .returned u ∧ NotNil u ∧ Own w' w.heap.size u r ∧ Below w.heap.size w w' := by
  obtain ⟨s0, s1, rfl, h0, h1⟩ := h
  obtain ⟨a0, cp0, rfl, h0⟩ := h0
  obtain ⟨a1, cp1, rfl, h1⟩ := h1
  obtain ⟨W0, hW0⟩ : ∃ W : World, W = ((w.alloc (.cells #[.slice a0 r.weights.length cp0, .slice a1 r.proxies.length cp1] 51)).alloc (.cells #[.slice none 0 0, .slice none 0 0] 27)).alloc (.cells #[.slice none 0 0, .slice none 0 0] 27) := ⟨_, rfl⟩
  have hb : Below w.heap.size w W0 := by rw [hW0]; exact (((Below.refl _ _).alloc (Nat.le_refl _) _).alloc (by simp) _).alloc (by simp; omega) _
  have HI0 := Lib.hid (Bs.Is.below _ ⟨a0, cp0, rfl, h0⟩ hb)
  have HI1 := Lib.hid (Bs.Is.below _ ⟨a1, cp1, rfl, h1⟩ hb)
  have HQ1 := Lib.hid (show ∀ b o, a1 = some ⟨b, o, none⟩ → r.proxies ≠ [] → b ≠ w.heap.size + 2 from fun b o e hne => by have := is_low h1 e hne; omega)
  have B0 := Lib.hid (show Bx W0 w.heap.size 51 #[.slice a0 r.weights.length cp0, .slice a1 r.proxies.length cp1] by rw [hW0]; exact (Bx.new w 51 #[.slice a0 r.weights.length cp0, .slice a1 r.proxies.length cp1]).alloc _ |>.alloc _)
  have B1 := Lib.hid (show Bx W0 (w.heap.size + 1) 27 #[.slice none 0 0, .slice none 0 0] by rw [hW0]; have := (Bx.new (w.alloc (.cells #[.slice a0 r.weights.length cp0, .slice a1 r.proxies.length cp1] 51)) 27 #[.slice none 0 0, .slice none 0 0]).alloc (.cells #[.slice none 0 0, .slice none 0 0] 27); simpa using this)
  have B2 := Lib.hid (show Bx W0 (w.heap.size + 2) 27 #[.slice none 0 0, .slice none 0 0] by rw [hW0]; have := Bx.new ((w.alloc (.cells #[.slice a0 r.weights.length cp0, .slice a1 r.proxies.length cp1] 51)).alloc (.cells #[.slice none 0 0, .slice none 0 0] 27)) 27 #[.slice none 0 0, .slice none 0 0]; simpa using this)
  have HZ0 := Lib.hid (show W0.heap.size = w.heap.size + 3 by rw [hW0]; simp)
  have hbT := hb
  clear hb h0 h1
  go_enter Try.func45, Try.ntmps45
  go_wp2_with fail
  rw [← hW0]
  clear hW0
  obtain ⟨V0, hV0⟩ : ∃ V, V = w.heap.size := ⟨_, rfl⟩
  refine (LInt.toS _ r.weights W0 HI0.out hsm0).mono ?_
  rintro e X0 ⟨u0, rfl, hn0, ho0, hb1⟩
  obtain ⟨gu0, cu0, rfl⟩ : ∃ g c, u0 = .slice (some ⟨g, 0, none⟩) r.weights.length c := by
    rcases ho0.shape with ⟨rfl, _⟩ | ⟨g, c, rfl, _⟩
    · obtain ⟨g, hg⟩ := hn0; cases hg
    · exact ⟨g, c, rfl⟩
  have HX0 := Lib.hid hb1.size
  have HG0 := Lib.hid (show W0.heap.size ≤ gu0 ∧ gu0 < X0.heap.size from ho0.lt gu0 rfl)
  have HO0 := Lib.hid ho0
  clear ho0 hn0
  replace hbT := hbT.trans (hb1.mono hbT.size)
  replace B0 := Lib.hid (B0.out.kept hb1)
  replace B1 := Lib.hid (B1.out.kept hb1)
  replace B2 := Lib.hid (B2.out.kept hb1)
  replace HI1 := Lib.hid (Bs.Is.below _ HI1.out hb1)
  clear hb1
  have p1 := B0.out.cell 1
  have d0 := B2.out.cell 0
  have f0 := B2.out.frozen 0
  simp only [List.getElem?_toArray, List.getElem?_cons_zero, List.getElem?_cons_succ] at p1 d0
  obtain ⟨W1, hW1⟩ : ∃ W : World, W = (X0.setCell ⟨w.heap.size + 2, 0, none⟩ (.slice (some ⟨gu0, 0, none⟩) r.weights.length cu0)) := ⟨_, rfl⟩
  have hbW : Below X0.heap.size X0 W1 ∨ True := .inr trivial
  have HZ1 := Lib.hid (show W1.heap.size = X0.heap.size by rw [hW1]; simp)
  replace hbT : Below w.heap.size w W1 := by rw [hW1]; exact (Below.setCell hbT (by show w.heap.size ≤ w.heap.size + 2; omega) _)
  replace HO0 := Lib.hid (show Bs.Own LInt.rec 3 W1 _ _ _ by rw [hW1]; exact (own_set HO0.out (fun k hk => by (have hk2 := HO0.out.lt k hk); show k ≠ w.heap.size + 2; have := HZ0.out; have := HG0.out; have := HX0.out;  omega) _))
  replace HI1 := Lib.hid (show Bs.Is LProxy.rec W1 _ _ by rw [hW1]; exact (is_set HI1.out (w.heap.size + 2) 0 _ HQ1.out))
  replace B0 := Lib.hid (show Bx W1 w.heap.size _ _ by rw [hW1]; exact (B0.out.far (p := ⟨w.heap.size + 2, 0, none⟩) (show w.heap.size ≠ w.heap.size + 2 by omega) _))
  replace B1 := Lib.hid (show Bx W1 (w.heap.size + 1) _ _ by rw [hW1]; exact (B1.out.far (p := ⟨w.heap.size + 2, 0, none⟩) (show w.heap.size + 1 ≠ w.heap.size + 2 by omega) _))
  replace B2 := Lib.hid (show Bx W1 (w.heap.size + 2) 27 #[.slice (some ⟨gu0, 0, none⟩) r.weights.length cu0, .slice none 0 0] by rw [hW1]; exact (B2.out.set_ 0 (.slice (some ⟨gu0, 0, none⟩) r.weights.length cu0)))
  clear hbW
  go_wp2_with fail
  rw [← hW1]
  clear hW1 p1 d0 f0
  refine (LProxy.toS _ r.proxies W1 HI1.out hsm1).mono ?_
  rintro e X1 ⟨u1, rfl, hn1, ho1, hb1⟩
  obtain ⟨gu1, cu1, rfl⟩ : ∃ g c, u1 = .slice (some ⟨g, 0, none⟩) r.proxies.length c := by
    rcases ho1.shape with ⟨rfl, _⟩ | ⟨g, c, rfl, _⟩
    · obtain ⟨g, hg⟩ := hn1; cases hg
    · exact ⟨g, c, rfl⟩
  have HX1 := Lib.hid hb1.size
  have HG1 := Lib.hid (show W1.heap.size ≤ gu1 ∧ gu1 < X1.heap.size from ho1.lt gu1 rfl)
  have HO1 := Lib.hid ho1
  clear ho1 hn1
  replace hbT := hbT.trans (hb1.mono hbT.size)
  replace B0 := Lib.hid (B0.out.kept hb1)
  replace B1 := Lib.hid (B1.out.kept hb1)
  replace B2 := Lib.hid (B2.out.kept hb1)
  replace HO0 := Lib.hid (HO0.out.kept hb1)
  clear hb1
  have c0 := B1.out.cell 0
  have d0 := B2.out.cell 0
  have e0 := B1.out.frozen 0
  have f0 := B2.out.frozen 0
  have c1 := B1.out.cell 1
  have d1 := B2.out.cell 1
  have e1 := B1.out.frozen 1
  have f1 := B2.out.frozen 1
  simp only [List.getElem?_toArray, List.getElem?_cons_zero, List.getElem?_cons_succ] at c0 d0 c1 d1
  go_wp2_with fail
  have y0 := (Bx.set_ (Bx.far (p := ⟨w.heap.size + 2, 1, none⟩) B1.out (show w.heap.size + 1 ≠ w.heap.size + 2 by omega) (.slice (some ⟨gu1, 0, none⟩) r.proxies.length cu1)) 0 (.slice (some ⟨gu0, 0, none⟩) r.weights.length cu0)).cell 0
  have y1 := (Bx.set_ (Bx.set_ (Bx.far (p := ⟨w.heap.size + 2, 1, none⟩) B1.out (show w.heap.size + 1 ≠ w.heap.size + 2 by omega) (.slice (some ⟨gu1, 0, none⟩) r.proxies.length cu1)) 0 (.slice (some ⟨gu0, 0, none⟩) r.weights.length cu0)) 1 (.slice (some ⟨gu1, 0, none⟩) r.proxies.length cu1)).cell 1
  simp at y0 y1
  refine bodyPost_ret (v := .agg #[.slice (some ⟨gu0, 0, none⟩) r.weights.length cu0, .slice (some ⟨gu1, 0, none⟩) r.proxies.length cu1]) (by simp [results, Try.results45, go_sem, y0, y1]) rfl ?_
  refine ⟨_, rfl, ⟨_, _, rfl, ⟨_, rfl⟩, ⟨_, rfl⟩⟩, ⟨_, _, rfl, ?_⟩, ?_⟩
  · exact ⟨((own_set (own_set (own_set HO0.out (fun k hk => by (have hk2 := HO0.out.lt k hk); show k ≠ w.heap.size + 2; have := HZ0.out; have := HG0.out; have := HX0.out; have := HG1.out; have := HX1.out; have := HZ1.out;  omega) _) (fun k hk => by (have hk2 := HO0.out.lt k hk); show k ≠ w.heap.size + 1; have := HZ0.out; have := HG0.out; have := HX0.out; have := HG1.out; have := HX1.out; have := HZ1.out;  omega) _) (fun k hk => by (have hk2 := HO0.out.lt k hk); show k ≠ w.heap.size + 1; have := HZ0.out; have := HG0.out; have := HX0.out; have := HG1.out; have := HX1.out; have := HZ1.out;  omega) _).low (by have := HZ0.out; have := HG0.out; have := HX0.out; have := HG1.out; have := HX1.out; have := HZ1.out;  omega)), ((own_set (own_set (own_set HO1.out (fun k hk => by (have hk2 := HO1.out.lt k hk); show k ≠ w.heap.size + 2; have := HZ0.out; have := HG0.out; have := HX0.out; have := HG1.out; have := HX1.out; have := HZ1.out;  omega) _) (fun k hk => by (have hk2 := HO1.out.lt k hk); show k ≠ w.heap.size + 1; have := HZ0.out; have := HG0.out; have := HX0.out; have := HG1.out; have := HX1.out; have := HZ1.out;  omega) _) (fun k hk => by (have hk2 := HO1.out.lt k hk); show k ≠ w.heap.size + 1; have := HZ0.out; have := HG0.out; have := HX0.out; have := HG1.out; have := HX1.out; have := HZ1.out;  omega) _).low (by have := HZ0.out; have := HG0.out; have := HX0.out; have := HG1.out; have := HX1.out; have := HZ1.out;  omega)), (fun k h1 h2 => by cases h1; cases h2; have := HZ0.out; have := HG0.out; have := HX0.out; have := HG1.out; have := HX1.out; have := HZ1.out;  omega)⟩
  · exact (Below.setCell (Below.setCell (Below.setCell hbT (by show w.heap.size ≤ w.heap.size + 2; omega) _) (by show w.heap.size ≤ w.heap.size + 1; omega) _) (by show w.heap.size ≤ w.heap.size + 1; omega) _)
end Go.Proofs.Ytdjnaoaniokbgaa.LVoters
