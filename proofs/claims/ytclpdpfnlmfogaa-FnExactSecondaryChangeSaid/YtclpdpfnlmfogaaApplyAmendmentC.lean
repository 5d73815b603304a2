/- ApplyAmendment: what it answers, on both sides. No condition. -/
import Derived.Test.YtclpdpfnlmfogaaAmP
namespace Go.Proofs.Ytclpdpfnlmfogaa.ApplyAmendmentC
open Go.RowKit Bs Word Am AmA AmG AmE AmF AmP
set_option linter.unusedVariables false
def Ans (z0 : T) (z1 : M) (r0 : T) (r1 : Bool) : Prop := (r0, r1) = if (textB z0 && (good z1 && fits z0 z1)) = true then (apply z0 z1, true) else ([], false)
theorem same {z0 : T} {z1 : M} {r0 s0 : T} {r1 s1 : Bool} (h1 : Ans z0 z1 r0 r1) (h2 : Ans z0 z1 s0 s1) : r0 = s0 ∧ r1 = s1 := by
  have h := h1.trans h2.symm
  exact ⟨congrArg Prod.fst h, congrArg Prod.snd h⟩
theorem yes {z0 : T} {z1 : M} (h : (textB z0 && (good z1 && fits z0 z1)) = true) : Ans z0 z1 (apply z0 z1) true := by unfold Ans; rw [if_pos h]
theorem no {z0 : T} {z1 : M} (h : (textB z0 && (good z1 && fits z0 z1)) = false) : Ans z0 z1 [] false := by unfold Ans; rw [h]; rfl
theorem parts {z0 : T} {z1 : M} (h : (textB z0 && (good z1 && fits z0 z1)) = true) : textB z0 = true ∧ good z1 = true ∧ fits z0 z1 = true := by
  rw [Bool.and_eq_true, Bool.and_eq_true] at h; exact h
theorem len0 {z0 : T} {z1 : M} {r0 : T} {r1 : Bool} (h : Ans z0 z1 r0 r1) : r0.length ≤ 1048576 := by
  unfold Ans at h
  split at h
  · rename_i hc
    obtain ⟨h1, h2, h3⟩ := parts hc
    have := congrArg Prod.fst h
    simp only at this
    subst this
    have := words_len (apply_text h1 h2 h3)
    omega
  · have := congrArg Prod.fst h; simp only at this; subst this; simp
def Post (z0 : T) (z1 : M) (w : World) (e : Ending) (w' : World) : Prop := ∃ v0 r0 r1, e = .returned (.tuple #[v0, .bool r1]) ∧ Ans z0 z1 r0 r1 ∧ Own LString.rec 9 w' w.heap.size v0 r0 ∧ Below w.heap.size w w'
set_option maxRecDepth 100000 in
set_option maxHeartbeats 1600000 in
theorem implQ (v v0 : Value) (l : T) (r : M) (w : World) (h : IsQ LString.rec w v l) (h0 : LAmendment.IsQ w v0 r) (ft : ∀ x ∈ l, LString.Fine x) (f0 : LAmendment.Fine r) (hl : l.length ≤ 1048576) :
    Calls Try.prog 48 #[v, v0] w (Post l r w) := by
  obtain ⟨s3, rfl, hq⟩ := h0
  obtain ⟨a3, n3, c3, rfl⟩ := isq_slice hq
  obtain ⟨hn3, hb3, hm3⟩ := isq_len hq
  unfold maxLen at hm3
  have HN3 := Lib.hid hn3
  have HIA := Lib.hid (show LAmendment.IsQ w (.agg #[.int .i64 r.kind, .int .i64 r.pos, .int .i64 r.count, .slice a3 n3 c3]) r from ⟨_, rfl, hq⟩)
  have HTQ := Lib.hid h
  have HQ := Lib.hid hq
  clear hn3 hq
  obtain ⟨ao, n, c, rfl⟩ := isq_slice h
  obtain ⟨hn, hnc, hcm⟩ := isq_len h
  unfold maxLen at hcm
  have HN := Lib.hid hn
  clear hn h
  obtain ⟨W, hW⟩ : ∃ W : World, W = w.alloc (Obj.cells #[.int .i64 r.kind, .int .i64 r.pos, .int .i64 r.count, .slice a3 n3 c3] 38) := ⟨_, rfl⟩
  have hb : Below w.heap.size w W := by rw [hW]; exact (Below.refl _ _).alloc (Nat.le_refl _) _
  have B0 := Lib.hid (show Bx W w.heap.size 38 #[.int .i64 r.kind, .int .i64 r.pos, .int .i64 r.count, .slice a3 n3 c3] by rw [hW]; exact Bx.new _ _ _)
  have q0 := B0.out.cell 0
  have q1 := B0.out.cell 1
  have q2 := B0.out.cell 2
  have q3 := B0.out.cell 3
  simp only [List.getElem?_toArray, List.getElem?_cons_zero, List.getElem?_cons_succ] at q0 q1 q2 q3
  have HFT := Lib.hid ft
  have HFA := Lib.hid f0
  clear ft f0
  have HC := Lib.hid (fitsText _ _ l r W (IsQ.below HTQ.out hb) (LAmendment.IsQ.is (LAmendment.IsQ.below HIA.out hb)) HFT.out HFA.out (by have := HN.out; omega))
  cases g : (textB l && (good r && fits l r)) with
  | false =>
    have HA := Lib.hid (no g)
    rw [g] at HC
    clear g
    go_enter Try.func48, Try.ntmps48
    go_wp2_with fail
    rw [← hW]
    clear hW
    refine HC.out.mono ?_
    rintro e w1 ⟨rfl, hb1⟩
    have hb2 := hb.trans (hb1.mono hb.size)
    go_wp2_with fail
    go_ret2
    exact ⟨_, [], false, rfl, HA.out, own_start hb2.size, hb2.alloc hb2.size _⟩
  | true =>
  have HA := Lib.hid (yes g)
  obtain ⟨g1, g2, g3⟩ := parts g
  rw [g] at HC
  obtain ⟨⟨p1, p2⟩, hw5, hk5, c1, c2⟩ := good_parts g2
  obtain ⟨f1, f2, _⟩ := fits_parts g3
  have hw := words_len hw5
  have ht := words_len g1
  have HSP := Lib.hid (fun w2 (hb2 : Below w.heap.size w w2) => spliced ao a3 n c n3 c3 l r.words r.pos r.count w2 (IsQ.below HTQ.out hb2) (IsQ.below HQ.out hb2) p1 c1 (by have := HN.out; omega) (by have := HN.out; omega) (by have := HN3.out; omega))
  have HAP := Lib.hid (show l.take r.pos.toNat ++ r.words ++ l.drop (r.pos + r.count).toNat = apply l r by unfold apply; rw [show (r.pos + r.count).toNat = r.pos.toNat + r.count.toNat by omega])
  clear g g1 g2 g3 hw5 hk5 f1 f2 hw ht p1 p2 c1 c2
  go_enter Try.func48, Try.ntmps48
  go_wp2_with fail
  rw [← hW]
  clear hW
  refine HC.out.mono ?_
  rintro e w1 ⟨rfl, hb1⟩
  have B1 := B0.out.kept hb1
  clear q0 q1 q2 q3
  have q0 := B1.cell 0
  have q1 := B1.cell 1
  have q2 := B1.cell 2
  have q3 := B1.cell 3
  simp only [List.getElem?_toArray, List.getElem?_cons_zero, List.getElem?_cons_succ] at q0 q1 q2 q3
  have hb2 := hb.trans (hb1.mono hb.size)
  go_wp2_with fail
  refine (HSP.out _ hb2).mono ?_
  rintro e w2 ⟨v2, rfl, ho, hb3'⟩
  rw [HAP.out] at ho
  have HO := Lib.hid (ho.low hb2.size)
  clear ho
  go_wp2_with fail
  go_ret2
  exact ⟨_, _, true, rfl, HA.out, HO.out, hb2.trans (hb3'.mono hb2.size)⟩
theorem impl (v0 : Value) (z0 : T) (v1 : Value) (z1 : M) (w : World) (h0 : IsS LString.rec w v0 z0) (f0 : ∀ x ∈ z0, LString.Fine x) (l0 : z0.length ≤ 1048576) (h1 : LAmendment.IsQ w v1 z1) (f1 : LAmendment.Fine z1) (l3 : z1.words.length ≤ 1048576) :
    Calls Try.prog 48 #[v0, v1] w (Post z0 z1 w) := implQ v0 v1 z0 z1 w (.inr h0) h1 f0 f1 l0
end Go.Proofs.Ytclpdpfnlmfogaa.ApplyAmendmentC
