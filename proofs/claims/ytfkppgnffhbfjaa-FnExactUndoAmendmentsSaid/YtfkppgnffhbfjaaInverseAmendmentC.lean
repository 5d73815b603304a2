/- InverseAmendment: what it answers, on both sides. No condition. -/
import Derived.Test.YtfkppgnffhbfjaaAmI
namespace Go.Proofs.Ytfkppgnffhbfjaa.InverseAmendmentC
open Go.RowKit Bs Word Am AmA AmG AmE AmF AmK AmI
set_option linter.unusedVariables false
abbrev Ans := AmI.Ans
abbrev Post := AmI.Post
theorem same {z0 : T} {z1 : M} {r0 s0 : M} {r1 s1 : Bool} (h1 : Ans z0 z1 r0 r1) (h2 : Ans z0 z1 s0 s1) : r0 = s0 ∧ r1 = s1 := by
  have h := (show (r0, r1) = _ from h1).trans (show (s0, s1) = _ from h2).symm
  exact ⟨congrArg Prod.fst h, congrArg Prod.snd h⟩
theorem len0 {z0 : T} {z1 : M} {r0 : M} {r1 : Bool} (h : Ans z0 z1 r0 r1) : r0.words.length ≤ 1048576 := by
  replace h := (show (r0, r1) = _ from h)
  split at h
  · rename_i hc
    obtain ⟨h1, h2, h3⟩ := parts hc
    have := congrArg Prod.fst h
    simp only at this
    subst this
    have := good_lens (inverse_good h1 h2 h3)
    omega
  · have := congrArg Prod.fst h; simp only at this; subst this; simp [zeroM]
set_option maxRecDepth 100000 in
set_option maxHeartbeats 1600000 in
theorem specQ (v v0 : Value) (l : T) (r : M) (w : World) (h : IsQ LString.rec w v l) (h0 : LAmendment.IsQ w v0 r) (ft : ∀ x ∈ l, LString.Fine x) (f0 : LAmendment.Fine r) (hl : l.length ≤ 1048576) :
    Calls Try.prog 28 #[v, v0] w (Post l r w) := by
  obtain ⟨s3, rfl, hq⟩ := h0
  obtain ⟨a3, n3, c3, rfl⟩ := isq_slice hq
  obtain ⟨hn3, hb3, hm3⟩ := isq_len hq
  unfold maxLen at hm3
  have HN3 := Lib.hid hn3
  have HIA := Lib.hid (show LAmendment.IsQ w (.agg #[.int .i64 r.kind, .int .i64 r.pos, .int .i64 r.count, .slice a3 n3 c3]) r from ⟨_, rfl, hq⟩)
  have HTQ := Lib.hid h
  have HQ := Lib.hid hq
  clear hn3 hq
  obtain ⟨ao, n, c, rfl⟩ := isq_slice h
  obtain ⟨hn, hnc, hcm⟩ := isq_len h
  unfold maxLen at hcm
  have HN := Lib.hid hn
  clear hn h
  obtain ⟨W, hW⟩ : ∃ W : World, W = (w.alloc (Obj.cells #[.int .i64 r.kind, .int .i64 r.pos, .int .i64 r.count, .slice a3 n3 c3] 31)).alloc (Obj.cells #[.int .i64 0, .int .i64 0, .int .i64 0, .slice none 0 0] 31) := ⟨_, rfl⟩
  have hb : Below w.heap.size w W := by rw [hW]; exact ((Below.refl _ _).alloc (Nat.le_refl _) _).alloc (by simp) _
  have HZ := Lib.hid (show W.heap.size = w.heap.size + 2 by rw [hW]; simp)
  have B0 := Lib.hid (show Bx W w.heap.size 31 #[.int .i64 r.kind, .int .i64 r.pos, .int .i64 r.count, .slice a3 n3 c3] by rw [hW]; exact (Bx.new _ _ _).alloc _)
  have BR := Lib.hid (show Bx W (w.heap.size + 1) 31 #[.int .i64 0, .int .i64 0, .int .i64 0, .slice none 0 0] by rw [hW]; have := Bx.new (w.alloc (Obj.cells #[.int .i64 r.kind, .int .i64 r.pos, .int .i64 r.count, .slice a3 n3 c3] 31)) 31 #[.int .i64 0, .int .i64 0, .int .i64 0, .slice none 0 0]; simpa using this)
  have q0 := B0.out.cell 0
  have q1 := B0.out.cell 1
  have q2 := B0.out.cell 2
  have q3 := B0.out.cell 3
  simp only [List.getElem?_toArray, List.getElem?_cons_zero, List.getElem?_cons_succ] at q0 q1 q2 q3
  have HFT := Lib.hid ft
  have HFA := Lib.hid f0
  clear ft f0
  have HC1 := Lib.hid (l9Text _ l W (IsQ.is (IsQ.below HTQ.out hb)) HFT.out)
  have HC2 := Lib.hid (l9Good _ r W (LAmendment.IsQ.is (LAmendment.IsQ.below HIA.out hb)) HFA.out)
  cases g1 : textB l with
  | false =>
    have HA := Lib.hid (no (z0 := l) (z1 := r) (by rw [g1]; rfl))
    rw [g1] at HC1
    go_enter Try.func28, Try.ntmps28
    go_wp2_with fail
    rw [← hW]
    clear hW
    refine HC1.out.mono ?_
    rintro e _ ⟨rfl, rfl⟩
    have hb2 := hb
    clear q0 q1 q2 q3
    have BR5 := BR.out
    have r0 := BR5.cell 0
    have r1 := BR5.cell 1
    have r2 := BR5.cell 2
    have r3 := BR5.cell 3
    simp only [List.getElem?_toArray, List.getElem?_cons_zero, List.getElem?_cons_succ] at r0 r1 r2 r3
    have z0 := BR5.frozen 0
    have z1 := BR5.frozen 1
    have z2 := BR5.frozen 2
    have z3 := BR5.frozen 3
    have hRF := (Bx.set_ (Bx.set_ (Bx.set_ (Bx.set_ BR5 0 (.int .i64 0)) 1 (.int .i64 0)) 2 (.int .i64 0)) 3 (.slice none 0 0))
    have c0 := hRF.cell 0
    have c1 := hRF.cell 1
    have c2 := hRF.cell 2
    have c3 := hRF.cell 3
    simp at c0 c1 c2 c3
    clear hRF
    go_wp2_with fail
    refine bodyPost_ret (v := .tuple #[.agg #[.int .i64 0, .int .i64 0, .int .i64 0, .slice none 0 0], .bool false]) (by simp [results, Try.results28, go_sem, c0, c1, c2, c3]) rfl ?_
    exact ⟨_, zeroM, false, rfl, HA.out, LAmendment.Own.zero, (Below.setCell (Below.setCell (Below.setCell (Below.setCell hb2 (p := ⟨w.heap.size + 1, 0, none⟩) (by show w.heap.size ≤ w.heap.size + 1; omega) (.int .i64 0)) (p := ⟨w.heap.size + 1, 1, none⟩) (by show w.heap.size ≤ w.heap.size + 1; omega) (.int .i64 0)) (p := ⟨w.heap.size + 1, 2, none⟩) (by show w.heap.size ≤ w.heap.size + 1; omega) (.int .i64 0)) (p := ⟨w.heap.size + 1, 3, none⟩) (by show w.heap.size ≤ w.heap.size + 1; omega) (.slice none 0 0))⟩
  | true =>
  rw [g1] at HC1
  cases g2 : good r with
  | false =>
    have HA := Lib.hid (no (z0 := l) (z1 := r) (by rw [g1, g2]; rfl))
    rw [g2] at HC2
    clear g1 g2
    go_enter Try.func28, Try.ntmps28
    go_wp2_with fail
    rw [← hW]
    clear hW
    refine HC1.out.mono ?_
    rintro e _ ⟨rfl, rfl⟩
    go_wp2_with fail
    refine HC2.out.mono ?_
    rintro e w1 ⟨rfl, hb1⟩
    have hb2 := hb.trans (hb1.mono hb.size)
    replace BR := Lib.hid (BR.out.kept hb1)
    clear hb1 q0 q1 q2 q3
    have BR5 := BR.out
    have r0 := BR5.cell 0
    have r1 := BR5.cell 1
    have r2 := BR5.cell 2
    have r3 := BR5.cell 3
    simp only [List.getElem?_toArray, List.getElem?_cons_zero, List.getElem?_cons_succ] at r0 r1 r2 r3
    have z0 := BR5.frozen 0
    have z1 := BR5.frozen 1
    have z2 := BR5.frozen 2
    have z3 := BR5.frozen 3
    have hRF := (Bx.set_ (Bx.set_ (Bx.set_ (Bx.set_ BR5 0 (.int .i64 0)) 1 (.int .i64 0)) 2 (.int .i64 0)) 3 (.slice none 0 0))
    have c0 := hRF.cell 0
    have c1 := hRF.cell 1
    have c2 := hRF.cell 2
    have c3 := hRF.cell 3
    simp at c0 c1 c2 c3
    clear hRF
    go_wp2_with fail
    refine bodyPost_ret (v := .tuple #[.agg #[.int .i64 0, .int .i64 0, .int .i64 0, .slice none 0 0], .bool false]) (by simp [results, Try.results28, go_sem, c0, c1, c2, c3]) rfl ?_
    exact ⟨_, zeroM, false, rfl, HA.out, LAmendment.Own.zero, (Below.setCell (Below.setCell (Below.setCell (Below.setCell hb2 (p := ⟨w.heap.size + 1, 0, none⟩) (by show w.heap.size ≤ w.heap.size + 1; omega) (.int .i64 0)) (p := ⟨w.heap.size + 1, 1, none⟩) (by show w.heap.size ≤ w.heap.size + 1; omega) (.int .i64 0)) (p := ⟨w.heap.size + 1, 2, none⟩) (by show w.heap.size ≤ w.heap.size + 1; omega) (.int .i64 0)) (p := ⟨w.heap.size + 1, 3, none⟩) (by show w.heap.size ≤ w.heap.size + 1; omega) (.slice none 0 0))⟩
  | true =>
  rw [g2] at HC2
  have HG := Lib.hid (And.intro g1 g2)
  clear g1 g2
  go_enter Try.func28, Try.ntmps28
  go_wp2_with fail
  rw [← hW]
  clear hW
  refine HC1.out.mono ?_
  rintro e _ ⟨rfl, rfl⟩
  go_wp2_with fail
  refine HC2.out.mono ?_
  rintro e w1 ⟨rfl, hb1⟩
  replace B0 := Lib.hid (B0.out.kept hb1)
  replace BR := Lib.hid (BR.out.kept hb1)
  replace HZ := Lib.hid (show w.heap.size + 2 ≤ w1.heap.size by have := HZ.out; have := hb1.size; omega)
  clear q0 q1 q2 q3
  have q0 := B0.out.cell 0
  have q1 := B0.out.cell 1
  have q2 := B0.out.cell 2
  have q3 := B0.out.cell 3
  simp only [List.getElem?_toArray, List.getElem?_cons_zero, List.getElem?_cons_succ] at q0 q1 q2 q3
  have hb2 := hb.trans (hb1.mono hb.size)
  have HC3 := Lib.hid (l9Fits _ _ l r w1 (IsQ.below HTQ.out hb2) (LAmendment.IsQ.is (LAmendment.IsQ.below HIA.out hb2)) HG.out.2 (by have := HN.out; omega))
  clear hb1 hb
  cases g3 : fits l r with
  | false =>
    have HA := Lib.hid (no (z0 := l) (z1 := r) (by rw [HG.out.1, HG.out.2, g3]; rfl))
    rw [g3] at HC3
    clear g3
    go_wp2_with fail
    refine HC3.out.mono ?_
    rintro e w2 ⟨rfl, hb1⟩
    replace hb2 := hb2.trans (hb1.mono hb2.size)
    replace BR := Lib.hid (BR.out.kept hb1)
    clear hb1 q0 q1 q2 q3
    have BR5 := BR.out
    have r0 := BR5.cell 0
    have r1 := BR5.cell 1
    have r2 := BR5.cell 2
    have r3 := BR5.cell 3
    simp only [List.getElem?_toArray, List.getElem?_cons_zero, List.getElem?_cons_succ] at r0 r1 r2 r3
    have z0 := BR5.frozen 0
    have z1 := BR5.frozen 1
    have z2 := BR5.frozen 2
    have z3 := BR5.frozen 3
    have hRF := (Bx.set_ (Bx.set_ (Bx.set_ (Bx.set_ BR5 0 (.int .i64 0)) 1 (.int .i64 0)) 2 (.int .i64 0)) 3 (.slice none 0 0))
    have c0 := hRF.cell 0
    have c1 := hRF.cell 1
    have c2 := hRF.cell 2
    have c3 := hRF.cell 3
    simp at c0 c1 c2 c3
    clear hRF
    go_wp2_with fail
    refine bodyPost_ret (v := .tuple #[.agg #[.int .i64 0, .int .i64 0, .int .i64 0, .slice none 0 0], .bool false]) (by simp [results, Try.results28, go_sem, c0, c1, c2, c3]) rfl ?_
    exact ⟨_, zeroM, false, rfl, HA.out, LAmendment.Own.zero, (Below.setCell (Below.setCell (Below.setCell (Below.setCell hb2 (p := ⟨w.heap.size + 1, 0, none⟩) (by show w.heap.size ≤ w.heap.size + 1; omega) (.int .i64 0)) (p := ⟨w.heap.size + 1, 1, none⟩) (by show w.heap.size ≤ w.heap.size + 1; omega) (.int .i64 0)) (p := ⟨w.heap.size + 1, 2, none⟩) (by show w.heap.size ≤ w.heap.size + 1; omega) (.int .i64 0)) (p := ⟨w.heap.size + 1, 3, none⟩) (by show w.heap.size ≤ w.heap.size + 1; omega) (.slice none 0 0))⟩
  | true =>
    have HA := Lib.hid (yes (z0 := l) (z1 := r) (by rw [HG.out.1, HG.out.2, g3]; rfl))
    have HFP := Lib.hid (fits_parts g3).1
    rw [g3] at HC3
    clear g3
    go_wp2_with fail
    refine HC3.out.mono ?_
    rintro e w2 ⟨rfl, hb1⟩
    replace B0 := Lib.hid (B0.out.kept hb1)
    replace BR := Lib.hid (BR.out.kept hb1)
    replace HZ := Lib.hid (show w.heap.size + 2 ≤ w2.heap.size by have := HZ.out; have := hb1.size; omega)
    replace hb2 := hb2.trans (hb1.mono hb2.size)
    clear hb1 q0 q1 q2 q3
    have q0 := B0.out.cell 0
    have q1 := B0.out.cell 1
    have q2 := B0.out.cell 2
    have q3 := B0.out.cell 3
    simp only [List.getElem?_toArray, List.getElem?_cons_zero, List.getElem?_cons_succ] at q0 q1 q2 q3
    have HC4 := Lib.hid (l9Inverse _ _ l r w2 (IsQ.below HTQ.out hb2) (LAmendment.IsQ.below HIA.out hb2) HG.out.2 (words_len HG.out.1) HFP.out)
    go_wp2_with fail
    refine HC4.out.mono ?_
    rintro e w3 ⟨v2, rfl, ho, hb4⟩
    obtain ⟨s3, rfl, ho3⟩ := ho
    obtain ⟨fa, fn, fc, rfl⟩ := own_slice ho3
    replace ho3 := ho3.low (show w.heap.size + 2 ≤ _ from HZ.out)
    replace BR := Lib.hid (BR.out.kept hb4)
    replace hb2 := hb2.trans (hb4.mono hb2.size)
    clear hb4 q0 q1 q2 q3
    have BR5 := BR.out
    have HO3 := ho3
    have r0 := BR5.cell 0
    have r1 := BR5.cell 1
    have r2 := BR5.cell 2
    have r3 := BR5.cell 3
    simp only [List.getElem?_toArray, List.getElem?_cons_zero, List.getElem?_cons_succ] at r0 r1 r2 r3
    have z0 := BR5.frozen 0
    have z1 := BR5.frozen 1
    have z2 := BR5.frozen 2
    have z3 := BR5.frozen 3
    have hRF := (Bx.set_ (Bx.set_ (Bx.set_ (Bx.set_ BR5 0 (.int .i64 (inverse l r).kind)) 1 (.int .i64 (inverse l r).pos)) 2 (.int .i64 (inverse l r).count)) 3 (.slice fa fn fc))
    have c0 := hRF.cell 0
    have c1 := hRF.cell 1
    have c2 := hRF.cell 2
    have c3 := hRF.cell 3
    simp at c0 c1 c2 c3
    clear hRF
    go_wp2_with fail
    refine bodyPost_ret (v := .tuple #[.agg #[.int .i64 (inverse l r).kind, .int .i64 (inverse l r).pos, .int .i64 (inverse l r).count, .slice fa fn fc], .bool true]) (by simp [results, Try.results28, go_sem, c0, c1, c2, c3]) rfl ?_
    exact ⟨_, _, true, rfl, HA.out, ⟨_, rfl, Own.low (own_set (own_set (own_set (own_set HO3 (p := ⟨w.heap.size + 1, 0, none⟩) (fun k hk => by have h2 := (HO3.lt k hk).1; show k ≠ w.heap.size + 1; omega) (.int .i64 (inverse l r).kind)) (p := ⟨w.heap.size + 1, 1, none⟩) (fun k hk => by have h2 := (HO3.lt k hk).1; show k ≠ w.heap.size + 1; omega) (.int .i64 (inverse l r).pos)) (p := ⟨w.heap.size + 1, 2, none⟩) (fun k hk => by have h2 := (HO3.lt k hk).1; show k ≠ w.heap.size + 1; omega) (.int .i64 (inverse l r).count)) (p := ⟨w.heap.size + 1, 3, none⟩) (fun k hk => by have h2 := (HO3.lt k hk).1; show k ≠ w.heap.size + 1; omega) (.slice fa fn fc)) (by omega)⟩, (Below.setCell (Below.setCell (Below.setCell (Below.setCell hb2 (p := ⟨w.heap.size + 1, 0, none⟩) (by show w.heap.size ≤ w.heap.size + 1; omega) (.int .i64 (inverse l r).kind)) (p := ⟨w.heap.size + 1, 1, none⟩) (by show w.heap.size ≤ w.heap.size + 1; omega) (.int .i64 (inverse l r).pos)) (p := ⟨w.heap.size + 1, 2, none⟩) (by show w.heap.size ≤ w.heap.size + 1; omega) (.int .i64 (inverse l r).count)) (p := ⟨w.heap.size + 1, 3, none⟩) (by show w.heap.size ≤ w.heap.size + 1; omega) (.slice fa fn fc))⟩
theorem spec (v0 : Value) (z0 : T) (v1 : Value) (z1 : M) (w : World) (h0 : IsS LString.rec w v0 z0) (f0 : ∀ x ∈ z0, LString.Fine x) (l0 : z0.length ≤ 1048576) (h1 : LAmendment.IsQ w v1 z1) (f1 : LAmendment.Fine z1) (l3 : z1.words.length ≤ 1048576) :
    Calls Try.prog 28 #[v0, v1] w (Post z0 z1 w) := specQ v0 v1 z0 z1 w (.inr h0) h1 f0 f1 l0
theorem impl (v0 : Value) (z0 : T) (v1 : Value) (z1 : M) (w : World) (h0 : IsS LString.rec w v0 z0) (f0 : ∀ x ∈ z0, LString.Fine x) (l0 : z0.length ≤ 1048576) (h1 : LAmendment.IsQ w v1 z1) (f1 : LAmendment.Fine z1) (l3 : z1.words.length ≤ 1048576) :
    Calls Try.prog 29 #[v0, v1] w (Post z0 z1 w) := inverseI v0 v1 z0 z1 w (.inr h0) h1 f0 f1 l0
end Go.Proofs.Ytfkppgnffhbfjaa.InverseAmendmentC
