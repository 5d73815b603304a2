/- ShiftedChange: what it answers, on both sides. No condition. -/
import Derived.Test.YtclpdpfnlmfogaaCfI
import Derived.Test.YtclpdpfnlmfogaaAmK
import Derived.Test.YtclpdpfnlmfogaaLStringKclone
namespace Go.Proofs.Ytclpdpfnlmfogaa.ShiftedChangeC
open Go.RowKit Bs Word Am AmA AmG Cf CfD CfI
set_option linter.unusedVariables false
def movedB (a b : M) : Bool := decide (b.pos < a.pos) || (decide (b.pos = a.pos) && decide (0 < a.count))
def shiftM (a b : M) : M := ⟨a.kind, if movedB a b = true then a.pos + b.words.length - b.count else a.pos, a.count, a.words⟩
def okB (a b : M) : Bool := (good a && (good b && !confB a b)) && good (shiftM a b)
def Ans (z0 z1 : M) (r0 : M) (r1 : Bool) : Prop := (r0, r1) = if okB z0 z1 = true then (shiftM z0 z1, true) else (zeroM, false)
theorem yes {z0 z1 : M} (h : okB z0 z1 = true) : Ans z0 z1 (shiftM z0 z1) true := by unfold Ans; rw [if_pos h]
theorem no {z0 z1 : M} (h : okB z0 z1 = false) : Ans z0 z1 zeroM false := by unfold Ans; rw [h]; rfl
theorem no1 {z0 z1 : M} (h : good z0 = false) : Ans z0 z1 zeroM false := no (by unfold okB; rw [h]; rfl)
theorem no2 {z0 z1 : M} (h : good z1 = false) : Ans z0 z1 zeroM false := no (by unfold okB; rw [h]; simp)
theorem no3 {z0 z1 : M} (h : confB z0 z1 = true) : Ans z0 z1 zeroM false := no (by unfold okB; rw [h]; simp)
theorem no4 {z0 z1 : M} (h : good (shiftM z0 z1) = false) : Ans z0 z1 zeroM false := no (by unfold okB; rw [h]; simp)
theorem yes4 {z0 z1 : M} (h1 : good z0 = true) (h2 : good z1 = true) (h3 : confB z0 z1 = false) (h4 : good (shiftM z0 z1) = true) : Ans z0 z1 (shiftM z0 z1) true := yes (by unfold okB; rw [h1, h2, h3, h4]; rfl)
theorem same {z0 z1 : M} {r0 s0 : M} {r1 s1 : Bool} (h1 : Ans z0 z1 r0 r1) (h2 : Ans z0 z1 s0 s1) : r0 = s0 ∧ r1 = s1 := by
  have h := (show (r0, r1) = _ from h1).trans (show (s0, s1) = _ from h2).symm
  exact ⟨congrArg Prod.fst h, congrArg Prod.snd h⟩
theorem len0 {z0 z1 : M} {r0 : M} {r1 : Bool} (h : Ans z0 z1 r0 r1) : r0.words.length ≤ 1048576 := by
  replace h := (show (r0, r1) = _ from h)
  split at h
  · rename_i hc
    have := congrArg Prod.fst h
    simp only at this
    subst this
    unfold okB at hc
    rw [Bool.and_eq_true] at hc
    have := good_lens hc.2
    omega
  · have := congrArg Prod.fst h; simp only at this; subst this; simp [zeroM]
theorem shift_yes {a b : M} (h : movedB a b = true) : shiftM a b = ⟨a.kind, a.pos + b.words.length - b.count, a.count, a.words⟩ := by unfold shiftM; rw [if_pos h]
theorem shift_no {a b : M} (h : movedB a b = false) : shiftM a b = ⟨a.kind, a.pos, a.count, a.words⟩ := by unfold shiftM; rw [h]; rfl
theorem moved1 {a b : M} (h : b.pos < a.pos) : movedB a b = true := by unfold movedB; rw [decide_eq_true h]; rfl
theorem moved2 {a b : M} (h0 : ¬ b.pos < a.pos) (h : b.pos = a.pos) : movedB a b = decide (0 < a.count) := by unfold movedB; rw [decide_eq_false h0, decide_eq_true h]; rfl
theorem moved3 {a b : M} (h0 : ¬ b.pos < a.pos) (h : ¬ b.pos = a.pos) : movedB a b = false := by unfold movedB; rw [decide_eq_false h0, decide_eq_false h]; rfl
def Post (z0 z1 : M) (w : World) (e : Ending) (w' : World) : Prop := ∃ v0 r0 r1, e = .returned (.tuple #[v0, .bool r1]) ∧ Ans z0 z1 r0 r1 ∧ LAmendment.Own w' w.heap.size v0 r0 ∧ Below w.heap.size w w'
theorem conf_as (v v' : Value) (a b : M) (bv : Bool) (hv : confB a b = bv) (w : World) (h0 : LAmendment.Is w v a) (h1 : LAmendment.Is w v' b) (ga : good a = true) (gb : good b = true) :
    Calls Try.prog 41 #[v, v'] w fun e w' => e = .returned (.bool bv) ∧ Below w.heap.size w w' := by subst hv; exact l10Conflict v v' a b w h0 h1 ga gb
theorem is_words {w : World} {a3 : Option Addr} {n3 c3 : Nat} {k p c : Value} {r : M} (h : LAmendment.IsQ w (.agg #[k, p, c, .slice a3 n3 c3]) r) : Bs.IsQ LString.rec w (.slice a3 n3 c3) r.words := by
  obtain ⟨s, e, h3⟩ := h
  simp only [Value.agg.injEq, Array.mk.injEq, List.cons.injEq, and_true] at e
  obtain ⟨_, _, _, rfl⟩ := e
  exact h3
set_option maxRecDepth 100000 in
set_option maxHeartbeats 1600000 in
theorem spec (v0 : Value) (z0 : M) (v1 : Value) (z1 : M) (w : World) (h0 : LAmendment.IsQ w v0 z0) (f0 : LAmendment.Fine z0) (l0 : z0.words.length ≤ 1048576) (h1 : LAmendment.IsQ w v1 z1) (f1 : LAmendment.Fine z1) (l1 : z1.words.length ≤ 1048576) :
    Calls Try.prog 21 #[v0, v1] w (Post z0 z1 w) := by
  obtain ⟨a, ha⟩ : ∃ a, a = z0 := ⟨_, rfl⟩
  obtain ⟨b, hbb⟩ : ∃ b, b = z1 := ⟨_, rfl⟩
  subst ha hbb
  obtain ⟨a3, n3, c3, rfl, HN3, hb3, hm3, HIA⟩ := AmG.open_is (LAmendment.IsQ.is h0)
  obtain ⟨a4, n4, c4, rfl, HN4, hb4, hm4, HIB⟩ := AmG.open_is (LAmendment.IsQ.is h1)
  have HIA0 := Lib.hid h0
  have HIB0 := Lib.hid h1
  have HFA := Lib.hid f0
  have HFB := Lib.hid f1
  have HQA := Lib.hid (is_words h0)
  clear h0 h1 f0 f1
  obtain ⟨V, hW⟩ : ∃ V : World, V = ((w.alloc (Obj.cells #[.int .i64 a.kind, .int .i64 a.pos, .int .i64 a.count, .slice a3 n3 c3] 38)).alloc (Obj.cells #[.int .i64 b.kind, .int .i64 b.pos, .int .i64 b.count, .slice a4 n4 c4] 38)).alloc (Obj.cells #[.int .i64 0, .int .i64 0, .int .i64 0, .slice none 0 0] 38) := ⟨_, rfl⟩
  have hb : Below w.heap.size w V := by rw [hW]; exact (((Below.refl _ _).alloc (Nat.le_refl _) _).alloc (by simp) _).alloc (by simp; omega) _
  have HZ := Lib.hid (show w.heap.size + 3 ≤ V.heap.size by rw [hW]; simp)
  have B0 := Lib.hid (show Bx V w.heap.size 38 #[.int .i64 a.kind, .int .i64 a.pos, .int .i64 a.count, .slice a3 n3 c3] by rw [hW]; exact ((Bx.new w 38 #[.int .i64 a.kind, .int .i64 a.pos, .int .i64 a.count, .slice a3 n3 c3]).alloc _).alloc _)
  have B1 := Lib.hid (show Bx V (w.heap.size + 1) 38 #[.int .i64 b.kind, .int .i64 b.pos, .int .i64 b.count, .slice a4 n4 c4] by rw [hW]; have := (Bx.new (w.alloc (Obj.cells #[.int .i64 a.kind, .int .i64 a.pos, .int .i64 a.count, .slice a3 n3 c3] 38)) 38 #[.int .i64 b.kind, .int .i64 b.pos, .int .i64 b.count, .slice a4 n4 c4]).alloc (Obj.cells #[.int .i64 0, .int .i64 0, .int .i64 0, .slice none 0 0] 38); simpa using this)
  have BR := Lib.hid (show Bx V (w.heap.size + 2) 38 #[.int .i64 0, .int .i64 0, .int .i64 0, .slice none 0 0] by rw [hW]; have := Bx.new ((w.alloc (Obj.cells #[.int .i64 a.kind, .int .i64 a.pos, .int .i64 a.count, .slice a3 n3 c3] 38)).alloc (Obj.cells #[.int .i64 b.kind, .int .i64 b.pos, .int .i64 b.count, .slice a4 n4 c4] 38)) 38 #[.int .i64 0, .int .i64 0, .int .i64 0, .slice none 0 0]; simpa using this)
  have HA := Lib.hid (fun bv (hv : good a = bv) W' (hb' : Below w.heap.size w W') => good_as _ a bv hv W' (LAmendment.Is.below (LAmendment.IsQ.is HIA0.out) hb') HFA.out)
  have HBi := Lib.hid (fun bv (hv : good b = bv) W' (hb' : Below w.heap.size w W') => good_as _ b bv hv W' (LAmendment.Is.below (LAmendment.IsQ.is HIB0.out) hb') HFB.out)
  have q0 := B0.out.cell 0
  have q1 := B0.out.cell 1
  have q2 := B0.out.cell 2
  have q3 := B0.out.cell 3
  simp only [List.getElem?_toArray, List.getElem?_cons_zero, List.getElem?_cons_succ] at q0 q1 q2 q3
  have p0 := B1.out.cell 0
  have p1 := B1.out.cell 1
  have p2 := B1.out.cell 2
  have p3 := B1.out.cell 3
  simp only [List.getElem?_toArray, List.getElem?_cons_zero, List.getElem?_cons_succ] at p0 p1 p2 p3
  cases ga : good a with
  | false =>
    have HAns := Lib.hid (no1 (z1 := b) ga)
    go_enter Try.func21, Try.ntmps21
    go_wp2_with fail
    rw [← hW]
    clear hW
    refine (HA.out _ ga _ hb).mono ?_
    rintro e w1 ⟨rfl, hb1⟩
    replace B0 := Lib.hid (B0.out.kept hb1)
    replace B1 := Lib.hid (B1.out.kept hb1)
    replace BR := Lib.hid (BR.out.kept hb1)
    replace HZ := Lib.hid (show w.heap.size + 3 ≤ w1.heap.size by have := HZ.out; have := hb1.size; omega)
    replace hb := hb.trans (hb1.mono hb.size)
    clear hb1 q0 q1 q2 q3 p0 p1 p2 p3
    have q0 := B0.out.cell 0
    have q1 := B0.out.cell 1
    have q2 := B0.out.cell 2
    have q3 := B0.out.cell 3
    simp only [List.getElem?_toArray, List.getElem?_cons_zero, List.getElem?_cons_succ] at q0 q1 q2 q3
    have p0 := B1.out.cell 0
    have p1 := B1.out.cell 1
    have p2 := B1.out.cell 2
    have p3 := B1.out.cell 3
    simp only [List.getElem?_toArray, List.getElem?_cons_zero, List.getElem?_cons_succ] at p0 p1 p2 p3
    clear q0 q1 q2 q3 p0 p1 p2 p3
    clear ga
    have BR5 := BR.out
    have r0 := BR5.cell 0
    have r1 := BR5.cell 1
    have r2 := BR5.cell 2
    have r3 := BR5.cell 3
    simp only [List.getElem?_toArray, List.getElem?_cons_zero, List.getElem?_cons_succ] at r0 r1 r2 r3
    have z0 := BR5.frozen 0
    have z1 := BR5.frozen 1
    have z2 := BR5.frozen 2
    have z3 := BR5.frozen 3
    have hRF := (Bx.set_ (Bx.set_ (Bx.set_ (Bx.set_ BR5 0 (.int .i64 0)) 1 (.int .i64 0)) 2 (.int .i64 0)) 3 (.slice none 0 0))
    have c0 := hRF.cell 0
    have c1 := hRF.cell 1
    have c2 := hRF.cell 2
    have c3 := hRF.cell 3
    simp at c0 c1 c2 c3
    clear hRF
    go_wp2_with fail
    refine bodyPost_ret (v := .tuple #[.agg #[.int .i64 0, .int .i64 0, .int .i64 0, .slice none 0 0], .bool false]) (by simp [results, Try.results21, go_sem, c0, c1, c2, c3]) rfl ?_
    exact ⟨_, zeroM, false, rfl, HAns.out, LAmendment.Own.zero, (Below.setCell (Below.setCell (Below.setCell (Below.setCell hb (p := ⟨w.heap.size + 2, 0, none⟩) (by show w.heap.size ≤ w.heap.size + 2; omega) (.int .i64 0)) (p := ⟨w.heap.size + 2, 1, none⟩) (by show w.heap.size ≤ w.heap.size + 2; omega) (.int .i64 0)) (p := ⟨w.heap.size + 2, 2, none⟩) (by show w.heap.size ≤ w.heap.size + 2; omega) (.int .i64 0)) (p := ⟨w.heap.size + 2, 3, none⟩) (by show w.heap.size ≤ w.heap.size + 2; omega) (.slice none 0 0))⟩
  | true =>
  cases gb : good b with
  | false =>
    have HAns := Lib.hid (no2 (z0 := a) gb)
    go_enter Try.func21, Try.ntmps21
    go_wp2_with fail
    rw [← hW]
    clear hW
    refine (HA.out _ ga _ hb).mono ?_
    rintro e w1 ⟨rfl, hb1⟩
    replace B0 := Lib.hid (B0.out.kept hb1)
    replace B1 := Lib.hid (B1.out.kept hb1)
    replace BR := Lib.hid (BR.out.kept hb1)
    replace HZ := Lib.hid (show w.heap.size + 3 ≤ w1.heap.size by have := HZ.out; have := hb1.size; omega)
    replace hb := hb.trans (hb1.mono hb.size)
    clear hb1 q0 q1 q2 q3 p0 p1 p2 p3
    have q0 := B0.out.cell 0
    have q1 := B0.out.cell 1
    have q2 := B0.out.cell 2
    have q3 := B0.out.cell 3
    simp only [List.getElem?_toArray, List.getElem?_cons_zero, List.getElem?_cons_succ] at q0 q1 q2 q3
    have p0 := B1.out.cell 0
    have p1 := B1.out.cell 1
    have p2 := B1.out.cell 2
    have p3 := B1.out.cell 3
    simp only [List.getElem?_toArray, List.getElem?_cons_zero, List.getElem?_cons_succ] at p0 p1 p2 p3
    go_wp2_with fail
    refine (HBi.out _ gb _ hb).mono ?_
    rintro e w2 ⟨rfl, hb1⟩
    replace B0 := Lib.hid (B0.out.kept hb1)
    replace B1 := Lib.hid (B1.out.kept hb1)
    replace BR := Lib.hid (BR.out.kept hb1)
    replace HZ := Lib.hid (show w.heap.size + 3 ≤ w2.heap.size by have := HZ.out; have := hb1.size; omega)
    replace hb := hb.trans (hb1.mono hb.size)
    clear hb1 q0 q1 q2 q3 p0 p1 p2 p3
    have q0 := B0.out.cell 0
    have q1 := B0.out.cell 1
    have q2 := B0.out.cell 2
    have q3 := B0.out.cell 3
    simp only [List.getElem?_toArray, List.getElem?_cons_zero, List.getElem?_cons_succ] at q0 q1 q2 q3
    have p0 := B1.out.cell 0
    have p1 := B1.out.cell 1
    have p2 := B1.out.cell 2
    have p3 := B1.out.cell 3
    simp only [List.getElem?_toArray, List.getElem?_cons_zero, List.getElem?_cons_succ] at p0 p1 p2 p3
    clear q0 q1 q2 q3 p0 p1 p2 p3
    clear ga gb
    have BR5 := BR.out
    have r0 := BR5.cell 0
    have r1 := BR5.cell 1
    have r2 := BR5.cell 2
    have r3 := BR5.cell 3
    simp only [List.getElem?_toArray, List.getElem?_cons_zero, List.getElem?_cons_succ] at r0 r1 r2 r3
    have z0 := BR5.frozen 0
    have z1 := BR5.frozen 1
    have z2 := BR5.frozen 2
    have z3 := BR5.frozen 3
    have hRF := (Bx.set_ (Bx.set_ (Bx.set_ (Bx.set_ BR5 0 (.int .i64 0)) 1 (.int .i64 0)) 2 (.int .i64 0)) 3 (.slice none 0 0))
    have c0 := hRF.cell 0
    have c1 := hRF.cell 1
    have c2 := hRF.cell 2
    have c3 := hRF.cell 3
    simp at c0 c1 c2 c3
    clear hRF
    go_wp2_with fail
    refine bodyPost_ret (v := .tuple #[.agg #[.int .i64 0, .int .i64 0, .int .i64 0, .slice none 0 0], .bool false]) (by simp [results, Try.results21, go_sem, c0, c1, c2, c3]) rfl ?_
    exact ⟨_, zeroM, false, rfl, HAns.out, LAmendment.Own.zero, (Below.setCell (Below.setCell (Below.setCell (Below.setCell hb (p := ⟨w.heap.size + 2, 0, none⟩) (by show w.heap.size ≤ w.heap.size + 2; omega) (.int .i64 0)) (p := ⟨w.heap.size + 2, 1, none⟩) (by show w.heap.size ≤ w.heap.size + 2; omega) (.int .i64 0)) (p := ⟨w.heap.size + 2, 2, none⟩) (by show w.heap.size ≤ w.heap.size + 2; omega) (.int .i64 0)) (p := ⟨w.heap.size + 2, 3, none⟩) (by show w.heap.size ≤ w.heap.size + 2; omega) (.slice none 0 0))⟩
  | true =>
  have HCF := Lib.hid (fun bv (hv : confB a b = bv) W' (hb' : Below w.heap.size w W') => conf_as _ _ a b bv hv W' (LAmendment.Is.below (LAmendment.IsQ.is HIA0.out) hb') (LAmendment.Is.below (LAmendment.IsQ.is HIB0.out) hb') ga gb)
  cases gc : confB a b with
  | true =>
    have HAns := Lib.hid (no3 gc)
    go_enter Try.func21, Try.ntmps21
    go_wp2_with fail
    rw [← hW]
    clear hW
    refine (HA.out _ ga _ hb).mono ?_
    rintro e w1 ⟨rfl, hb1⟩
    replace B0 := Lib.hid (B0.out.kept hb1)
    replace B1 := Lib.hid (B1.out.kept hb1)
    replace BR := Lib.hid (BR.out.kept hb1)
    replace HZ := Lib.hid (show w.heap.size + 3 ≤ w1.heap.size by have := HZ.out; have := hb1.size; omega)
    replace hb := hb.trans (hb1.mono hb.size)
    clear hb1 q0 q1 q2 q3 p0 p1 p2 p3
    have q0 := B0.out.cell 0
    have q1 := B0.out.cell 1
    have q2 := B0.out.cell 2
    have q3 := B0.out.cell 3
    simp only [List.getElem?_toArray, List.getElem?_cons_zero, List.getElem?_cons_succ] at q0 q1 q2 q3
    have p0 := B1.out.cell 0
    have p1 := B1.out.cell 1
    have p2 := B1.out.cell 2
    have p3 := B1.out.cell 3
    simp only [List.getElem?_toArray, List.getElem?_cons_zero, List.getElem?_cons_succ] at p0 p1 p2 p3
    go_wp2_with fail
    refine (HBi.out _ gb _ hb).mono ?_
    rintro e w2 ⟨rfl, hb1⟩
    replace B0 := Lib.hid (B0.out.kept hb1)
    replace B1 := Lib.hid (B1.out.kept hb1)
    replace BR := Lib.hid (BR.out.kept hb1)
    replace HZ := Lib.hid (show w.heap.size + 3 ≤ w2.heap.size by have := HZ.out; have := hb1.size; omega)
    replace hb := hb.trans (hb1.mono hb.size)
    clear hb1 q0 q1 q2 q3 p0 p1 p2 p3
    have q0 := B0.out.cell 0
    have q1 := B0.out.cell 1
    have q2 := B0.out.cell 2
    have q3 := B0.out.cell 3
    simp only [List.getElem?_toArray, List.getElem?_cons_zero, List.getElem?_cons_succ] at q0 q1 q2 q3
    have p0 := B1.out.cell 0
    have p1 := B1.out.cell 1
    have p2 := B1.out.cell 2
    have p3 := B1.out.cell 3
    simp only [List.getElem?_toArray, List.getElem?_cons_zero, List.getElem?_cons_succ] at p0 p1 p2 p3
    go_wp2_with fail
    refine (HCF.out _ gc _ hb).mono ?_
    rintro e w3 ⟨rfl, hb1⟩
    replace B0 := Lib.hid (B0.out.kept hb1)
    replace B1 := Lib.hid (B1.out.kept hb1)
    replace BR := Lib.hid (BR.out.kept hb1)
    replace HZ := Lib.hid (show w.heap.size + 3 ≤ w3.heap.size by have := HZ.out; have := hb1.size; omega)
    replace hb := hb.trans (hb1.mono hb.size)
    clear hb1 q0 q1 q2 q3 p0 p1 p2 p3
    have q0 := B0.out.cell 0
    have q1 := B0.out.cell 1
    have q2 := B0.out.cell 2
    have q3 := B0.out.cell 3
    simp only [List.getElem?_toArray, List.getElem?_cons_zero, List.getElem?_cons_succ] at q0 q1 q2 q3
    have p0 := B1.out.cell 0
    have p1 := B1.out.cell 1
    have p2 := B1.out.cell 2
    have p3 := B1.out.cell 3
    simp only [List.getElem?_toArray, List.getElem?_cons_zero, List.getElem?_cons_succ] at p0 p1 p2 p3
    clear q0 q1 q2 q3 p0 p1 p2 p3
    clear ga gb gc
    have BR5 := BR.out
    have r0 := BR5.cell 0
    have r1 := BR5.cell 1
    have r2 := BR5.cell 2
    have r3 := BR5.cell 3
    simp only [List.getElem?_toArray, List.getElem?_cons_zero, List.getElem?_cons_succ] at r0 r1 r2 r3
    have z0 := BR5.frozen 0
    have z1 := BR5.frozen 1
    have z2 := BR5.frozen 2
    have z3 := BR5.frozen 3
    have hRF := (Bx.set_ (Bx.set_ (Bx.set_ (Bx.set_ BR5 0 (.int .i64 0)) 1 (.int .i64 0)) 2 (.int .i64 0)) 3 (.slice none 0 0))
    have c0 := hRF.cell 0
    have c1 := hRF.cell 1
    have c2 := hRF.cell 2
    have c3 := hRF.cell 3
    simp at c0 c1 c2 c3
    clear hRF
    go_wp2_with fail
    refine bodyPost_ret (v := .tuple #[.agg #[.int .i64 0, .int .i64 0, .int .i64 0, .slice none 0 0], .bool false]) (by simp [results, Try.results21, go_sem, c0, c1, c2, c3]) rfl ?_
    exact ⟨_, zeroM, false, rfl, HAns.out, LAmendment.Own.zero, (Below.setCell (Below.setCell (Below.setCell (Below.setCell hb (p := ⟨w.heap.size + 2, 0, none⟩) (by show w.heap.size ≤ w.heap.size + 2; omega) (.int .i64 0)) (p := ⟨w.heap.size + 2, 1, none⟩) (by show w.heap.size ≤ w.heap.size + 2; omega) (.int .i64 0)) (p := ⟨w.heap.size + 2, 2, none⟩) (by show w.heap.size ≤ w.heap.size + 2; omega) (.int .i64 0)) (p := ⟨w.heap.size + 2, 3, none⟩) (by show w.heap.size ≤ w.heap.size + 2; omega) (.slice none 0 0))⟩
  | false =>
  have HG := Lib.hid (And.intro ga (And.intro gb gc))
  go_enter Try.func21, Try.ntmps21
  go_wp2_with fail
  rw [← hW]
  clear hW
  refine (HA.out _ ga _ hb).mono ?_
  rintro e w1 ⟨rfl, hb1⟩
  replace B0 := Lib.hid (B0.out.kept hb1)
  replace B1 := Lib.hid (B1.out.kept hb1)
  replace BR := Lib.hid (BR.out.kept hb1)
  replace HZ := Lib.hid (show w.heap.size + 3 ≤ w1.heap.size by have := HZ.out; have := hb1.size; omega)
  replace hb := hb.trans (hb1.mono hb.size)
  clear hb1 q0 q1 q2 q3 p0 p1 p2 p3
  have q0 := B0.out.cell 0
  have q1 := B0.out.cell 1
  have q2 := B0.out.cell 2
  have q3 := B0.out.cell 3
  simp only [List.getElem?_toArray, List.getElem?_cons_zero, List.getElem?_cons_succ] at q0 q1 q2 q3
  have p0 := B1.out.cell 0
  have p1 := B1.out.cell 1
  have p2 := B1.out.cell 2
  have p3 := B1.out.cell 3
  simp only [List.getElem?_toArray, List.getElem?_cons_zero, List.getElem?_cons_succ] at p0 p1 p2 p3
  go_wp2_with fail
  refine (HBi.out _ gb _ hb).mono ?_
  rintro e w2 ⟨rfl, hb1⟩
  replace B0 := Lib.hid (B0.out.kept hb1)
  replace B1 := Lib.hid (B1.out.kept hb1)
  replace BR := Lib.hid (BR.out.kept hb1)
  replace HZ := Lib.hid (show w.heap.size + 3 ≤ w2.heap.size by have := HZ.out; have := hb1.size; omega)
  replace hb := hb.trans (hb1.mono hb.size)
  clear hb1 q0 q1 q2 q3 p0 p1 p2 p3
  have q0 := B0.out.cell 0
  have q1 := B0.out.cell 1
  have q2 := B0.out.cell 2
  have q3 := B0.out.cell 3
  simp only [List.getElem?_toArray, List.getElem?_cons_zero, List.getElem?_cons_succ] at q0 q1 q2 q3
  have p0 := B1.out.cell 0
  have p1 := B1.out.cell 1
  have p2 := B1.out.cell 2
  have p3 := B1.out.cell 3
  simp only [List.getElem?_toArray, List.getElem?_cons_zero, List.getElem?_cons_succ] at p0 p1 p2 p3
  go_wp2_with fail
  refine (HCF.out _ gc _ hb).mono ?_
  rintro e w3 ⟨rfl, hb1⟩
  replace B0 := Lib.hid (B0.out.kept hb1)
  replace B1 := Lib.hid (B1.out.kept hb1)
  replace BR := Lib.hid (BR.out.kept hb1)
  replace HZ := Lib.hid (show w.heap.size + 3 ≤ w3.heap.size by have := HZ.out; have := hb1.size; omega)
  replace hb := hb.trans (hb1.mono hb.size)
  clear hb1 q0 q1 q2 q3 p0 p1 p2 p3
  have q0 := B0.out.cell 0
  have q1 := B0.out.cell 1
  have q2 := B0.out.cell 2
  have q3 := B0.out.cell 3
  simp only [List.getElem?_toArray, List.getElem?_cons_zero, List.getElem?_cons_succ] at q0 q1 q2 q3
  have p0 := B1.out.cell 0
  have p1 := B1.out.cell 1
  have p2 := B1.out.cell 2
  have p3 := B1.out.cell 3
  simp only [List.getElem?_toArray, List.getElem?_cons_zero, List.getElem?_cons_succ] at p0 p1 p2 p3
  clear gc
  obtain ⟨⟨a1, a2⟩, a3', -, a5, a6⟩ := good_parts ga
  obtain ⟨⟨b1, b2⟩, b3', -, b5, b6⟩ := good_parts gb
  have HLA := Lib.hid (words_len a3')
  have hlb := words_len b3'
  rw [HN4.out] at hlb
  have HK := Lib.hid (AmK.l9Kind a.pos a.count _ a.words w3 (Bs.IsQ.below HQA.out hb) (by have := HLA.out; omega))
  rw [mk_self ga] at HK
  clear ga gb a3' b3'
  go_wp2_with fail
  refine HK.out.mono ?_
  rintro e w4 ⟨v6, rfl, ho, hb1⟩
  obtain ⟨s3, rfl, ho3⟩ := ho
  obtain ⟨fa, fn, fc, rfl⟩ := own_slice ho3
  replace ho3 := ho3.low (show w.heap.size + 3 ≤ _ from HZ.out)
  replace ho3 := ho3
  replace B0 := Lib.hid (B0.out.kept hb1)
  replace B1 := Lib.hid (B1.out.kept hb1)
  replace BR := Lib.hid (BR.out.kept hb1)
  replace HZ := Lib.hid (show w.heap.size + 3 ≤ w4.heap.size by have := HZ.out; have := hb1.size; omega)
  replace hb := hb.trans (hb1.mono hb.size)
  clear hb1 q0 q1 q2 q3 p0 p1 p2 p3
  have q0 := B0.out.cell 0
  have q1 := B0.out.cell 1
  have q2 := B0.out.cell 2
  have q3 := B0.out.cell 3
  simp only [List.getElem?_toArray, List.getElem?_cons_zero, List.getElem?_cons_succ] at q0 q1 q2 q3
  have p0 := B1.out.cell 0
  have p1 := B1.out.cell 1
  have p2 := B1.out.cell 2
  have p3 := B1.out.cell 3
  simp only [List.getElem?_toArray, List.getElem?_cons_zero, List.getElem?_cons_succ] at p0 p1 p2 p3
  obtain ⟨w5, hw5⟩ : ∃ w5 : World, w5 = w4.alloc (Obj.cells #[.int .i64 a.kind, .int .i64 a.pos, .int .i64 a.count, .slice fa fn fc] 38) := ⟨_, rfl⟩
  have hb1 : Below w4.heap.size w4 w5 := by rw [hw5]; exact (Below.refl _ _).alloc (Nat.le_refl _) _
  obtain ⟨GO, hGO⟩ : ∃ GO, GO = w4.heap.size := ⟨_, rfl⟩
  have BO := Lib.hid (show Bx w5 GO 38 #[.int .i64 a.kind, .int .i64 a.pos, .int .i64 a.count, .slice fa fn fc] by rw [hw5, hGO]; exact Bx.new _ _ _)
  have HNG := Lib.hid (show ∀ k, (Value.slice fa fn fc).ownBlock = some k → k ≠ GO from fun k hk => by have h1 := (ho3.lt k hk).2; omega)
  have HGO := Lib.hid (show w.heap.size + 3 ≤ GO by rw [hGO]; exact HZ.out)
  have HO3 := Lib.hid (ho3.kept hb1)
  clear ho3
  go_upto_region 4 with fail
  rw [← hw5, ← hGO]
  clear hw5 hGO
  replace B0 := Lib.hid (B0.out.kept hb1)
  replace B1 := Lib.hid (B1.out.kept hb1)
  replace BR := Lib.hid (BR.out.kept hb1)
  replace HZ := Lib.hid (show w.heap.size + 3 ≤ w5.heap.size by have := HZ.out; have := hb1.size; omega)
  replace hb := hb.trans (hb1.mono hb.size)
  clear hb1 q0 q1 q2 q3 p0 p1 p2 p3
  have q0 := B0.out.cell 0
  have q1 := B0.out.cell 1
  have q2 := B0.out.cell 2
  have q3 := B0.out.cell 3
  simp only [List.getElem?_toArray, List.getElem?_cons_zero, List.getElem?_cons_succ] at q0 q1 q2 q3
  have p0 := B1.out.cell 0
  have p1 := B1.out.cell 1
  have p2 := B1.out.cell 2
  have p3 := B1.out.cell 3
  simp only [List.getElem?_toArray, List.getElem?_cons_zero, List.getElem?_cons_succ] at p0 p1 p2 p3
  go_cut [44] (fun t wx => t = .bool (movedB a b) ∧ w5 = wx)
  case first =>
    by_cases m1 : b.pos < a.pos
    · have HM := Lib.hid (moved1 m1)
      go_wp2_with fail
      go_meet
      exact ⟨by rw [HM.out], rfl⟩
    · by_cases m2 : b.pos = a.pos
      · have HM := Lib.hid (moved2 m1 m2)
        have e2 : (b.pos == a.pos) = true := by simp [m2]
        clear m2
        go_wp2_with fail
        go_meet
        exact ⟨by rw [HM.out], rfl⟩
      · have HM := Lib.hid (moved3 m1 m2)
        have e2 : (b.pos == a.pos) = false := by simp [m2]
        clear m2
        go_wp2_with fail
        go_meet
        exact ⟨by rw [HM.out], rfl⟩
  case rest =>
  obtain ⟨rfl, rfl⟩ := hcut
  cases gm : movedB a b with
  | false =>
    have HS := Lib.hid (shift_no gm)
    clear gm
    clear q0 q1 q2 q3 p0 p1 p2 p3
    cases gs : good (shiftM a b) with
    | false =>
      have HAns := Lib.hid (no4 (z0 := a) (z1 := b) gs)
      rw [HS.out] at gs
      have HC := Lib.hid (good_as _ (⟨a.kind, a.pos, a.count, a.words⟩ : M) false gs w5 (show LAmendment.Is w5 (.agg #[.int .i64 a.kind, .int .i64 a.pos, .int .i64 a.count, .slice fa fn fc]) (⟨a.kind, a.pos, a.count, a.words⟩ : M) from ⟨_, rfl, Bs.Own.is HO3.out⟩) HFA.out)
      clear gs
      have x0 := BO.out.cell 0
      have x1 := BO.out.cell 1
      have x2 := BO.out.cell 2
      have x3 := BO.out.cell 3
      simp only [List.getElem?_toArray, List.getElem?_cons_zero, List.getElem?_cons_succ] at x0 x1 x2 x3
      go_wp2_with fail
      refine HC.out.mono ?_
      rintro e w7 ⟨rfl, hb1⟩
      clear x0 x1 x2 x3
      replace BR := Lib.hid (BR.out.kept hb1)
      replace hb := hb.trans (hb1.mono hb.size)
      clear hb1
      have BR5 := BR.out
      have r0 := BR5.cell 0
      have r1 := BR5.cell 1
      have r2 := BR5.cell 2
      have r3 := BR5.cell 3
      simp only [List.getElem?_toArray, List.getElem?_cons_zero, List.getElem?_cons_succ] at r0 r1 r2 r3
      have z0 := BR5.frozen 0
      have z1 := BR5.frozen 1
      have z2 := BR5.frozen 2
      have z3 := BR5.frozen 3
      have hRF := (Bx.set_ (Bx.set_ (Bx.set_ (Bx.set_ BR5 0 (.int .i64 0)) 1 (.int .i64 0)) 2 (.int .i64 0)) 3 (.slice none 0 0))
      have c0 := hRF.cell 0
      have c1 := hRF.cell 1
      have c2 := hRF.cell 2
      have c3 := hRF.cell 3
      simp at c0 c1 c2 c3
      clear hRF
      go_wp2_with fail
      refine bodyPost_ret (v := .tuple #[.agg #[.int .i64 0, .int .i64 0, .int .i64 0, .slice none 0 0], .bool false]) (by simp [results, Try.results21, go_sem, c0, c1, c2, c3]) rfl ?_
      exact ⟨_, zeroM, false, rfl, HAns.out, LAmendment.Own.zero, (Below.setCell (Below.setCell (Below.setCell (Below.setCell hb (p := ⟨w.heap.size + 2, 0, none⟩) (by show w.heap.size ≤ w.heap.size + 2; omega) (.int .i64 0)) (p := ⟨w.heap.size + 2, 1, none⟩) (by show w.heap.size ≤ w.heap.size + 2; omega) (.int .i64 0)) (p := ⟨w.heap.size + 2, 2, none⟩) (by show w.heap.size ≤ w.heap.size + 2; omega) (.int .i64 0)) (p := ⟨w.heap.size + 2, 3, none⟩) (by show w.heap.size ≤ w.heap.size + 2; omega) (.slice none 0 0))⟩
    | true =>
      have HAns := Lib.hid (show Ans a b (⟨a.kind, a.pos, a.count, a.words⟩ : M) true by rw [← HS.out]; exact yes4 HG.out.1 HG.out.2.1 HG.out.2.2 gs)
      rw [HS.out] at gs
      have HC := Lib.hid (good_as _ (⟨a.kind, a.pos, a.count, a.words⟩ : M) true gs w5 (show LAmendment.Is w5 (.agg #[.int .i64 a.kind, .int .i64 a.pos, .int .i64 a.count, .slice fa fn fc]) (⟨a.kind, a.pos, a.count, a.words⟩ : M) from ⟨_, rfl, Bs.Own.is HO3.out⟩) HFA.out)
      clear gs
      have x0 := BO.out.cell 0
      have x1 := BO.out.cell 1
      have x2 := BO.out.cell 2
      have x3 := BO.out.cell 3
      simp only [List.getElem?_toArray, List.getElem?_cons_zero, List.getElem?_cons_succ] at x0 x1 x2 x3
      go_wp2_with fail
      refine HC.out.mono ?_
      rintro e w7 ⟨rfl, hb1⟩
      clear x0 x1 x2 x3
      replace BO := Lib.hid (BO.out.kept hb1)
      replace HO3 := Lib.hid (HO3.out.kept hb1)
      replace B0 := Lib.hid (B0.out.kept hb1)
      replace B1 := Lib.hid (B1.out.kept hb1)
      replace BR := Lib.hid (BR.out.kept hb1)
      replace HZ := Lib.hid (show w.heap.size + 3 ≤ w7.heap.size by have := HZ.out; have := hb1.size; omega)
      replace hb := hb.trans (hb1.mono hb.size)
      clear hb1
      have hZ := HZ.out
      have ho3 := HO3.out
      have BR5 := BR.out
      have y0 := BO.out.cell 0
      have y1 := BO.out.cell 1
      have y2 := BO.out.cell 2
      have y3 := BO.out.cell 3
      simp only [List.getElem?_toArray, List.getElem?_cons_zero, List.getElem?_cons_succ] at y0 y1 y2 y3
      have r0 := BR5.cell 0
      have r1 := BR5.cell 1
      have r2 := BR5.cell 2
      have r3 := BR5.cell 3
      simp only [List.getElem?_toArray, List.getElem?_cons_zero, List.getElem?_cons_succ] at r0 r1 r2 r3
      have z0 := BR5.frozen 0
      have z1 := BR5.frozen 1
      have z2 := BR5.frozen 2
      have z3 := BR5.frozen 3
      have hRF := (Bx.set_ (Bx.set_ (Bx.set_ (Bx.set_ BR5 0 (.int .i64 a.kind)) 1 (.int .i64 a.pos)) 2 (.int .i64 a.count)) 3 (.slice fa fn fc))
      have c0 := hRF.cell 0
      have c1 := hRF.cell 1
      have c2 := hRF.cell 2
      have c3 := hRF.cell 3
      simp at c0 c1 c2 c3
      clear hRF
      go_wp2_with fail
      refine bodyPost_ret (v := .tuple #[.agg #[.int .i64 a.kind, .int .i64 a.pos, .int .i64 a.count, .slice fa fn fc], .bool true]) (by simp [results, Try.results21, go_sem, c0, c1, c2, c3]) rfl ?_
      exact ⟨_, _, true, rfl, HAns.out, ⟨_, rfl, Bs.Own.low (own_set (own_set (own_set (own_set ho3 (p := ⟨w.heap.size + 2, 0, none⟩) (fun k hk => by have h2 := (ho3.lt k hk).1; show k ≠ w.heap.size + 2; omega) (.int .i64 a.kind)) (p := ⟨w.heap.size + 2, 1, none⟩) (fun k hk => by have h2 := (ho3.lt k hk).1; show k ≠ w.heap.size + 2; omega) (.int .i64 a.pos)) (p := ⟨w.heap.size + 2, 2, none⟩) (fun k hk => by have h2 := (ho3.lt k hk).1; show k ≠ w.heap.size + 2; omega) (.int .i64 a.count)) (p := ⟨w.heap.size + 2, 3, none⟩) (fun k hk => by have h2 := (ho3.lt k hk).1; show k ≠ w.heap.size + 2; omega) (.slice fa fn fc)) (by omega)⟩, (Below.setCell (Below.setCell (Below.setCell (Below.setCell hb (p := ⟨w.heap.size + 2, 0, none⟩) (by show w.heap.size ≤ w.heap.size + 2; omega) (.int .i64 a.kind)) (p := ⟨w.heap.size + 2, 1, none⟩) (by show w.heap.size ≤ w.heap.size + 2; omega) (.int .i64 a.pos)) (p := ⟨w.heap.size + 2, 2, none⟩) (by show w.heap.size ≤ w.heap.size + 2; omega) (.int .i64 a.count)) (p := ⟨w.heap.size + 2, 3, none⟩) (by show w.heap.size ≤ w.heap.size + 2; omega) (.slice fa fn fc))⟩
  | true =>
    obtain ⟨P, hP⟩ : ∃ P, P = a.pos + (n4 : Int) - b.count := ⟨_, rfl⟩
    have HS := Lib.hid (show shiftM a b = ⟨a.kind, P, a.count, a.words⟩ by rw [shift_yes gm, hP, HN4.out])
    have s2 : IntKind.i64.wrap (a.pos + (n4 : Int)) = a.pos + (n4 : Int) := IntWalk.i64_in _ (by omega)
    have s3 : IntKind.i64.wrap (a.pos + (n4 : Int) - b.count) = P := by rw [hP]; exact IntWalk.i64_in _ (by omega)
    clear gm hP
    have x1 := BO.out.cell 1
    have y1 := BO.out.frozen 1
    simp only [List.getElem?_toArray, List.getElem?_cons_zero, List.getElem?_cons_succ] at x1
    obtain ⟨w6, hw6⟩ : ∃ w6 : World, w6 = w5.setCell ⟨GO, 1, none⟩ (.int .i64 P) := ⟨_, rfl⟩
    have BO6 := Lib.hid (show Bx w6 GO 38 #[.int .i64 a.kind, .int .i64 P, .int .i64 a.count, .slice fa fn fc] by rw [hw6]; have := Bx.set_ BO.out 1 (.int .i64 P); simpa using this)
    have BR6 := Lib.hid (show Bx w6 (w.heap.size + 2) 38 #[.int .i64 0, .int .i64 0, .int .i64 0, .slice none 0 0] by rw [hw6]; exact Bx.far (p := ⟨GO, 1, none⟩) BR.out (show w.heap.size + 2 ≠ GO by have := HGO.out; omega) _)
    have B06 := Lib.hid (show Bx w6 w.heap.size 38 #[.int .i64 a.kind, .int .i64 a.pos, .int .i64 a.count, .slice a3 n3 c3] by rw [hw6]; exact Bx.far (p := ⟨GO, 1, none⟩) B0.out (show w.heap.size ≠ GO by have := HGO.out; omega) _)
    have B16 := Lib.hid (show Bx w6 (w.heap.size + 1) 38 #[.int .i64 b.kind, .int .i64 b.pos, .int .i64 b.count, .slice a4 n4 c4] by rw [hw6]; exact Bx.far (p := ⟨GO, 1, none⟩) B1.out (show w.heap.size + 1 ≠ GO by have := HGO.out; omega) _)
    have HO6 := Lib.hid (show Bs.Own LString.rec 9 w6 (w.heap.size + 3) (.slice fa fn fc) a.words by rw [hw6]; exact own_set HO3.out (p := ⟨GO, 1, none⟩) HNG.out _)
    have hb6 : Below w.heap.size w w6 := by rw [hw6]; exact Below.setCell hb (p := ⟨GO, 1, none⟩) (show w.heap.size ≤ GO by have := HGO.out; omega) _
    have HZ6 := Lib.hid (show w.heap.size + 3 ≤ w6.heap.size by rw [hw6]; simpa using HZ.out)
    go_upto_region 6 with fail
    rw [← hw6]
    clear hw6 x1 y1 hb BO BR B0 B1 HO3 HZ q0 q1 q2 q3 p0 p1 p2 p3 s2 s3
    have hb := hb6
    have BO := BO6
    have BR := BR6
    have B0 := B06
    have B1 := B16
    have HO3 := HO6
    have HZ := HZ6
    clear hb6 BO6 BR6 B06 B16 HO6 HZ6
    cases gs : good (shiftM a b) with
    | false =>
      have HAns := Lib.hid (no4 (z0 := a) (z1 := b) gs)
      rw [HS.out] at gs
      have HC := Lib.hid (good_as _ (⟨a.kind, P, a.count, a.words⟩ : M) false gs w6 (show LAmendment.Is w6 (.agg #[.int .i64 a.kind, .int .i64 P, .int .i64 a.count, .slice fa fn fc]) (⟨a.kind, P, a.count, a.words⟩ : M) from ⟨_, rfl, Bs.Own.is HO3.out⟩) HFA.out)
      clear gs
      have x0 := BO.out.cell 0
      have x1 := BO.out.cell 1
      have x2 := BO.out.cell 2
      have x3 := BO.out.cell 3
      simp only [List.getElem?_toArray, List.getElem?_cons_zero, List.getElem?_cons_succ] at x0 x1 x2 x3
      go_wp2_with fail
      refine HC.out.mono ?_
      rintro e w7 ⟨rfl, hb1⟩
      clear x0 x1 x2 x3
      replace BR := Lib.hid (BR.out.kept hb1)
      replace hb := hb.trans (hb1.mono hb.size)
      clear hb1
      have BR5 := BR.out
      have r0 := BR5.cell 0
      have r1 := BR5.cell 1
      have r2 := BR5.cell 2
      have r3 := BR5.cell 3
      simp only [List.getElem?_toArray, List.getElem?_cons_zero, List.getElem?_cons_succ] at r0 r1 r2 r3
      have z0 := BR5.frozen 0
      have z1 := BR5.frozen 1
      have z2 := BR5.frozen 2
      have z3 := BR5.frozen 3
      have hRF := (Bx.set_ (Bx.set_ (Bx.set_ (Bx.set_ BR5 0 (.int .i64 0)) 1 (.int .i64 0)) 2 (.int .i64 0)) 3 (.slice none 0 0))
      have c0 := hRF.cell 0
      have c1 := hRF.cell 1
      have c2 := hRF.cell 2
      have c3 := hRF.cell 3
      simp at c0 c1 c2 c3
      clear hRF
      go_wp2_with fail
      refine bodyPost_ret (v := .tuple #[.agg #[.int .i64 0, .int .i64 0, .int .i64 0, .slice none 0 0], .bool false]) (by simp [results, Try.results21, go_sem, c0, c1, c2, c3]) rfl ?_
      exact ⟨_, zeroM, false, rfl, HAns.out, LAmendment.Own.zero, (Below.setCell (Below.setCell (Below.setCell (Below.setCell hb (p := ⟨w.heap.size + 2, 0, none⟩) (by show w.heap.size ≤ w.heap.size + 2; omega) (.int .i64 0)) (p := ⟨w.heap.size + 2, 1, none⟩) (by show w.heap.size ≤ w.heap.size + 2; omega) (.int .i64 0)) (p := ⟨w.heap.size + 2, 2, none⟩) (by show w.heap.size ≤ w.heap.size + 2; omega) (.int .i64 0)) (p := ⟨w.heap.size + 2, 3, none⟩) (by show w.heap.size ≤ w.heap.size + 2; omega) (.slice none 0 0))⟩
    | true =>
      have HAns := Lib.hid (show Ans a b (⟨a.kind, P, a.count, a.words⟩ : M) true by rw [← HS.out]; exact yes4 HG.out.1 HG.out.2.1 HG.out.2.2 gs)
      rw [HS.out] at gs
      have HC := Lib.hid (good_as _ (⟨a.kind, P, a.count, a.words⟩ : M) true gs w6 (show LAmendment.Is w6 (.agg #[.int .i64 a.kind, .int .i64 P, .int .i64 a.count, .slice fa fn fc]) (⟨a.kind, P, a.count, a.words⟩ : M) from ⟨_, rfl, Bs.Own.is HO3.out⟩) HFA.out)
      clear gs
      have x0 := BO.out.cell 0
      have x1 := BO.out.cell 1
      have x2 := BO.out.cell 2
      have x3 := BO.out.cell 3
      simp only [List.getElem?_toArray, List.getElem?_cons_zero, List.getElem?_cons_succ] at x0 x1 x2 x3
      go_wp2_with fail
      refine HC.out.mono ?_
      rintro e w7 ⟨rfl, hb1⟩
      clear x0 x1 x2 x3
      replace BO := Lib.hid (BO.out.kept hb1)
      replace HO3 := Lib.hid (HO3.out.kept hb1)
      replace B0 := Lib.hid (B0.out.kept hb1)
      replace B1 := Lib.hid (B1.out.kept hb1)
      replace BR := Lib.hid (BR.out.kept hb1)
      replace HZ := Lib.hid (show w.heap.size + 3 ≤ w7.heap.size by have := HZ.out; have := hb1.size; omega)
      replace hb := hb.trans (hb1.mono hb.size)
      clear hb1
      have hZ := HZ.out
      have ho3 := HO3.out
      have BR5 := BR.out
      have y0 := BO.out.cell 0
      have y1 := BO.out.cell 1
      have y2 := BO.out.cell 2
      have y3 := BO.out.cell 3
      simp only [List.getElem?_toArray, List.getElem?_cons_zero, List.getElem?_cons_succ] at y0 y1 y2 y3
      have r0 := BR5.cell 0
      have r1 := BR5.cell 1
      have r2 := BR5.cell 2
      have r3 := BR5.cell 3
      simp only [List.getElem?_toArray, List.getElem?_cons_zero, List.getElem?_cons_succ] at r0 r1 r2 r3
      have z0 := BR5.frozen 0
      have z1 := BR5.frozen 1
      have z2 := BR5.frozen 2
      have z3 := BR5.frozen 3
      have hRF := (Bx.set_ (Bx.set_ (Bx.set_ (Bx.set_ BR5 0 (.int .i64 a.kind)) 1 (.int .i64 P)) 2 (.int .i64 a.count)) 3 (.slice fa fn fc))
      have c0 := hRF.cell 0
      have c1 := hRF.cell 1
      have c2 := hRF.cell 2
      have c3 := hRF.cell 3
      simp at c0 c1 c2 c3
      clear hRF
      go_wp2_with fail
      refine bodyPost_ret (v := .tuple #[.agg #[.int .i64 a.kind, .int .i64 P, .int .i64 a.count, .slice fa fn fc], .bool true]) (by simp [results, Try.results21, go_sem, c0, c1, c2, c3]) rfl ?_
      exact ⟨_, _, true, rfl, HAns.out, ⟨_, rfl, Bs.Own.low (own_set (own_set (own_set (own_set ho3 (p := ⟨w.heap.size + 2, 0, none⟩) (fun k hk => by have h2 := (ho3.lt k hk).1; show k ≠ w.heap.size + 2; omega) (.int .i64 a.kind)) (p := ⟨w.heap.size + 2, 1, none⟩) (fun k hk => by have h2 := (ho3.lt k hk).1; show k ≠ w.heap.size + 2; omega) (.int .i64 P)) (p := ⟨w.heap.size + 2, 2, none⟩) (fun k hk => by have h2 := (ho3.lt k hk).1; show k ≠ w.heap.size + 2; omega) (.int .i64 a.count)) (p := ⟨w.heap.size + 2, 3, none⟩) (fun k hk => by have h2 := (ho3.lt k hk).1; show k ≠ w.heap.size + 2; omega) (.slice fa fn fc)) (by omega)⟩, (Below.setCell (Below.setCell (Below.setCell (Below.setCell hb (p := ⟨w.heap.size + 2, 0, none⟩) (by show w.heap.size ≤ w.heap.size + 2; omega) (.int .i64 a.kind)) (p := ⟨w.heap.size + 2, 1, none⟩) (by show w.heap.size ≤ w.heap.size + 2; omega) (.int .i64 P)) (p := ⟨w.heap.size + 2, 2, none⟩) (by show w.heap.size ≤ w.heap.size + 2; omega) (.int .i64 a.count)) (p := ⟨w.heap.size + 2, 3, none⟩) (by show w.heap.size ≤ w.heap.size + 2; omega) (.slice fa fn fc))⟩
set_option maxRecDepth 100000 in
set_option maxHeartbeats 1600000 in
theorem impl (v0 : Value) (z0 : M) (v1 : Value) (z1 : M) (w : World) (h0 : LAmendment.IsQ w v0 z0) (f0 : LAmendment.Fine z0) (l0 : z0.words.length ≤ 1048576) (h1 : LAmendment.IsQ w v1 z1) (f1 : LAmendment.Fine z1) (l1 : z1.words.length ≤ 1048576) :
    Calls Try.prog 22 #[v0, v1] w (Post z0 z1 w) := by
  obtain ⟨a, ha⟩ : ∃ a, a = z0 := ⟨_, rfl⟩
  obtain ⟨b, hbb⟩ : ∃ b, b = z1 := ⟨_, rfl⟩
  subst ha hbb
  obtain ⟨a3, n3, c3, rfl, HN3, hb3, hm3, HIA⟩ := AmG.open_is (LAmendment.IsQ.is h0)
  obtain ⟨a4, n4, c4, rfl, HN4, hb4, hm4, HIB⟩ := AmG.open_is (LAmendment.IsQ.is h1)
  have HIA0 := Lib.hid h0
  have HIB0 := Lib.hid h1
  have HFA := Lib.hid f0
  have HFB := Lib.hid f1
  clear h0 h1 f0 f1
  obtain ⟨V, hW⟩ : ∃ V : World, V = ((w.alloc (Obj.cells #[.int .i64 a.kind, .int .i64 a.pos, .int .i64 a.count, .slice a3 n3 c3] 38)).alloc (Obj.cells #[.int .i64 b.kind, .int .i64 b.pos, .int .i64 b.count, .slice a4 n4 c4] 38)).alloc (Obj.cells #[.int .i64 0, .int .i64 0, .int .i64 0, .slice none 0 0] 38) := ⟨_, rfl⟩
  have hb : Below w.heap.size w V := by rw [hW]; exact (((Below.refl _ _).alloc (Nat.le_refl _) _).alloc (by simp) _).alloc (by simp; omega) _
  have HZ := Lib.hid (show w.heap.size + 3 ≤ V.heap.size by rw [hW]; simp)
  have B0 := Lib.hid (show Bx V w.heap.size 38 #[.int .i64 a.kind, .int .i64 a.pos, .int .i64 a.count, .slice a3 n3 c3] by rw [hW]; exact ((Bx.new w 38 #[.int .i64 a.kind, .int .i64 a.pos, .int .i64 a.count, .slice a3 n3 c3]).alloc _).alloc _)
  have B1 := Lib.hid (show Bx V (w.heap.size + 1) 38 #[.int .i64 b.kind, .int .i64 b.pos, .int .i64 b.count, .slice a4 n4 c4] by rw [hW]; have := (Bx.new (w.alloc (Obj.cells #[.int .i64 a.kind, .int .i64 a.pos, .int .i64 a.count, .slice a3 n3 c3] 38)) 38 #[.int .i64 b.kind, .int .i64 b.pos, .int .i64 b.count, .slice a4 n4 c4]).alloc (Obj.cells #[.int .i64 0, .int .i64 0, .int .i64 0, .slice none 0 0] 38); simpa using this)
  have BR := Lib.hid (show Bx V (w.heap.size + 2) 38 #[.int .i64 0, .int .i64 0, .int .i64 0, .slice none 0 0] by rw [hW]; have := Bx.new ((w.alloc (Obj.cells #[.int .i64 a.kind, .int .i64 a.pos, .int .i64 a.count, .slice a3 n3 c3] 38)).alloc (Obj.cells #[.int .i64 b.kind, .int .i64 b.pos, .int .i64 b.count, .slice a4 n4 c4] 38)) 38 #[.int .i64 0, .int .i64 0, .int .i64 0, .slice none 0 0]; simpa using this)
  have HD := Lib.hid (doConflict _ _ a b V (LAmendment.Is.below (LAmendment.IsQ.is HIA0.out) hb) (LAmendment.Is.below (LAmendment.IsQ.is HIB0.out) hb) HFA.out HFB.out)
  have q0 := B0.out.cell 0
  have q1 := B0.out.cell 1
  have q2 := B0.out.cell 2
  have q3 := B0.out.cell 3
  simp only [List.getElem?_toArray, List.getElem?_cons_zero, List.getElem?_cons_succ] at q0 q1 q2 q3
  have p0 := B1.out.cell 0
  have p1 := B1.out.cell 1
  have p2 := B1.out.cell 2
  have p3 := B1.out.cell 3
  simp only [List.getElem?_toArray, List.getElem?_cons_zero, List.getElem?_cons_succ] at p0 p1 p2 p3
  cases gg : (good a && good b) with
  | false =>
    have HAns := Lib.hid (no (z0 := a) (z1 := b) (by
      unfold okB
      cases h1 : good a with
      | false => rfl
      | true => rw [h1] at gg; rw [show good b = false from gg]; rfl))
    rw [show (good a && (good b && confB a b)) = false by rw [← Bool.and_assoc, gg]; rfl, gg] at HD
    clear gg
    go_enter Try.func22, Try.ntmps22
    go_wp2_with fail
    rw [← hW]
    clear hW
    refine (HD.out).mono ?_
    rintro e w1 ⟨rfl, hb1⟩
    replace B0 := Lib.hid (B0.out.kept hb1)
    replace B1 := Lib.hid (B1.out.kept hb1)
    replace BR := Lib.hid (BR.out.kept hb1)
    replace HZ := Lib.hid (show w.heap.size + 3 ≤ w1.heap.size by have := HZ.out; have := hb1.size; omega)
    replace hb := hb.trans (hb1.mono hb.size)
    clear hb1 q0 q1 q2 q3 p0 p1 p2 p3
    have q0 := B0.out.cell 0
    have q1 := B0.out.cell 1
    have q2 := B0.out.cell 2
    have q3 := B0.out.cell 3
    simp only [List.getElem?_toArray, List.getElem?_cons_zero, List.getElem?_cons_succ] at q0 q1 q2 q3
    have p0 := B1.out.cell 0
    have p1 := B1.out.cell 1
    have p2 := B1.out.cell 2
    have p3 := B1.out.cell 3
    simp only [List.getElem?_toArray, List.getElem?_cons_zero, List.getElem?_cons_succ] at p0 p1 p2 p3
    clear q0 q1 q2 q3 p0 p1 p2 p3
    have BR5 := BR.out
    have r0 := BR5.cell 0
    have r1 := BR5.cell 1
    have r2 := BR5.cell 2
    have r3 := BR5.cell 3
    simp only [List.getElem?_toArray, List.getElem?_cons_zero, List.getElem?_cons_succ] at r0 r1 r2 r3
    have z0 := BR5.frozen 0
    have z1 := BR5.frozen 1
    have z2 := BR5.frozen 2
    have z3 := BR5.frozen 3
    have hRF := (Bx.set_ (Bx.set_ (Bx.set_ (Bx.set_ BR5 0 (.int .i64 0)) 1 (.int .i64 0)) 2 (.int .i64 0)) 3 (.slice none 0 0))
    have c0 := hRF.cell 0
    have c1 := hRF.cell 1
    have c2 := hRF.cell 2
    have c3 := hRF.cell 3
    simp at c0 c1 c2 c3
    clear hRF
    go_wp2_with fail
    refine bodyPost_ret (v := .tuple #[.agg #[.int .i64 0, .int .i64 0, .int .i64 0, .slice none 0 0], .bool false]) (by simp [results, Try.results22, go_sem, c0, c1, c2, c3]) rfl ?_
    exact ⟨_, zeroM, false, rfl, HAns.out, LAmendment.Own.zero, (Below.setCell (Below.setCell (Below.setCell (Below.setCell hb (p := ⟨w.heap.size + 2, 0, none⟩) (by show w.heap.size ≤ w.heap.size + 2; omega) (.int .i64 0)) (p := ⟨w.heap.size + 2, 1, none⟩) (by show w.heap.size ≤ w.heap.size + 2; omega) (.int .i64 0)) (p := ⟨w.heap.size + 2, 2, none⟩) (by show w.heap.size ≤ w.heap.size + 2; omega) (.int .i64 0)) (p := ⟨w.heap.size + 2, 3, none⟩) (by show w.heap.size ≤ w.heap.size + 2; omega) (.slice none 0 0))⟩
  | true =>
  obtain ⟨ga, gb⟩ : good a = true ∧ good b = true := by rw [Bool.and_eq_true] at gg; exact gg
  rw [show (good a && (good b && confB a b)) = confB a b by rw [ga, gb]; rfl, gg] at HD
  cases gc : confB a b with
  | true =>
    have HAns := Lib.hid (no3 gc)
    rw [gc] at HD
    clear gg ga gb gc
    go_enter Try.func22, Try.ntmps22
    go_wp2_with fail
    rw [← hW]
    clear hW
    refine (HD.out).mono ?_
    rintro e w1 ⟨rfl, hb1⟩
    replace B0 := Lib.hid (B0.out.kept hb1)
    replace B1 := Lib.hid (B1.out.kept hb1)
    replace BR := Lib.hid (BR.out.kept hb1)
    replace HZ := Lib.hid (show w.heap.size + 3 ≤ w1.heap.size by have := HZ.out; have := hb1.size; omega)
    replace hb := hb.trans (hb1.mono hb.size)
    clear hb1 q0 q1 q2 q3 p0 p1 p2 p3
    have q0 := B0.out.cell 0
    have q1 := B0.out.cell 1
    have q2 := B0.out.cell 2
    have q3 := B0.out.cell 3
    simp only [List.getElem?_toArray, List.getElem?_cons_zero, List.getElem?_cons_succ] at q0 q1 q2 q3
    have p0 := B1.out.cell 0
    have p1 := B1.out.cell 1
    have p2 := B1.out.cell 2
    have p3 := B1.out.cell 3
    simp only [List.getElem?_toArray, List.getElem?_cons_zero, List.getElem?_cons_succ] at p0 p1 p2 p3
    clear q0 q1 q2 q3 p0 p1 p2 p3
    have BR5 := BR.out
    have r0 := BR5.cell 0
    have r1 := BR5.cell 1
    have r2 := BR5.cell 2
    have r3 := BR5.cell 3
    simp only [List.getElem?_toArray, List.getElem?_cons_zero, List.getElem?_cons_succ] at r0 r1 r2 r3
    have z0 := BR5.frozen 0
    have z1 := BR5.frozen 1
    have z2 := BR5.frozen 2
    have z3 := BR5.frozen 3
    have hRF := (Bx.set_ (Bx.set_ (Bx.set_ (Bx.set_ BR5 0 (.int .i64 0)) 1 (.int .i64 0)) 2 (.int .i64 0)) 3 (.slice none 0 0))
    have c0 := hRF.cell 0
    have c1 := hRF.cell 1
    have c2 := hRF.cell 2
    have c3 := hRF.cell 3
    simp at c0 c1 c2 c3
    clear hRF
    go_wp2_with fail
    refine bodyPost_ret (v := .tuple #[.agg #[.int .i64 0, .int .i64 0, .int .i64 0, .slice none 0 0], .bool false]) (by simp [results, Try.results22, go_sem, c0, c1, c2, c3]) rfl ?_
    exact ⟨_, zeroM, false, rfl, HAns.out, LAmendment.Own.zero, (Below.setCell (Below.setCell (Below.setCell (Below.setCell hb (p := ⟨w.heap.size + 2, 0, none⟩) (by show w.heap.size ≤ w.heap.size + 2; omega) (.int .i64 0)) (p := ⟨w.heap.size + 2, 1, none⟩) (by show w.heap.size ≤ w.heap.size + 2; omega) (.int .i64 0)) (p := ⟨w.heap.size + 2, 2, none⟩) (by show w.heap.size ≤ w.heap.size + 2; omega) (.int .i64 0)) (p := ⟨w.heap.size + 2, 3, none⟩) (by show w.heap.size ≤ w.heap.size + 2; omega) (.slice none 0 0))⟩
  | false =>
  have HG := Lib.hid (And.intro ga (And.intro gb gc))
  rw [gc] at HD
  clear gc gg
  go_enter Try.func22, Try.ntmps22
  go_wp2_with fail
  rw [← hW]
  clear hW
  refine (HD.out).mono ?_
  rintro e w1 ⟨rfl, hb1⟩
  replace B0 := Lib.hid (B0.out.kept hb1)
  replace B1 := Lib.hid (B1.out.kept hb1)
  replace BR := Lib.hid (BR.out.kept hb1)
  replace HZ := Lib.hid (show w.heap.size + 3 ≤ w1.heap.size by have := HZ.out; have := hb1.size; omega)
  replace hb := hb.trans (hb1.mono hb.size)
  clear hb1 q0 q1 q2 q3 p0 p1 p2 p3
  have q0 := B0.out.cell 0
  have q1 := B0.out.cell 1
  have q2 := B0.out.cell 2
  have q3 := B0.out.cell 3
  simp only [List.getElem?_toArray, List.getElem?_cons_zero, List.getElem?_cons_succ] at q0 q1 q2 q3
  have p0 := B1.out.cell 0
  have p1 := B1.out.cell 1
  have p2 := B1.out.cell 2
  have p3 := B1.out.cell 3
  simp only [List.getElem?_toArray, List.getElem?_cons_zero, List.getElem?_cons_succ] at p0 p1 p2 p3
  obtain ⟨⟨a1, a2⟩, a3', -, a5, a6⟩ := good_parts ga
  obtain ⟨⟨b1, b2⟩, b3', -, b5, b6⟩ := good_parts gb
  have HLA := Lib.hid (words_len a3')
  have hlb := words_len b3'
  rw [HN4.out] at hlb
  clear ga gb a3' b3'
  obtain ⟨w5, hw5⟩ : ∃ w5 : World, w5 = w1.alloc (Obj.cells #[.int .i64 a.kind, .int .i64 a.pos, .int .i64 a.count, .slice a3 n3 c3] 38) := ⟨_, rfl⟩
  have hb1 : Below w1.heap.size w1 w5 := by rw [hw5]; exact (Below.refl _ _).alloc (Nat.le_refl _) _
  obtain ⟨GO, hGO⟩ : ∃ GO, GO = w1.heap.size := ⟨_, rfl⟩
  have BO := Lib.hid (show Bx w5 GO 38 #[.int .i64 a.kind, .int .i64 a.pos, .int .i64 a.count, .slice a3 n3 c3] by rw [hw5, hGO]; exact Bx.new _ _ _)
  have HGO := Lib.hid (show w.heap.size + 3 ≤ GO by rw [hGO]; exact HZ.out)
  go_upto_region 5 with fail
  rw [← hw5, ← hGO]
  clear hw5 hGO
  replace B0 := Lib.hid (B0.out.kept hb1)
  replace B1 := Lib.hid (B1.out.kept hb1)
  replace BR := Lib.hid (BR.out.kept hb1)
  replace HZ := Lib.hid (show w.heap.size + 3 ≤ w5.heap.size by have := HZ.out; have := hb1.size; omega)
  replace hb := hb.trans (hb1.mono hb.size)
  clear hb1 q0 q1 q2 q3 p0 p1 p2 p3
  have q0 := B0.out.cell 0
  have q1 := B0.out.cell 1
  have q2 := B0.out.cell 2
  have q3 := B0.out.cell 3
  simp only [List.getElem?_toArray, List.getElem?_cons_zero, List.getElem?_cons_succ] at q0 q1 q2 q3
  have p0 := B1.out.cell 0
  have p1 := B1.out.cell 1
  have p2 := B1.out.cell 2
  have p3 := B1.out.cell 3
  simp only [List.getElem?_toArray, List.getElem?_cons_zero, List.getElem?_cons_succ] at p0 p1 p2 p3
  go_cut [38] (fun t wx => t = .bool (movedB a b) ∧ w5 = wx)
  case first =>
    by_cases m1 : b.pos < a.pos
    · have HM := Lib.hid (moved1 m1)
      go_wp2_with fail
      go_meet
      exact ⟨by rw [HM.out], rfl⟩
    · by_cases m2 : b.pos = a.pos
      · have HM := Lib.hid (moved2 m1 m2)
        have e2 : (b.pos == a.pos) = true := by simp [m2]
        clear m2
        go_wp2_with fail
        go_meet
        exact ⟨by rw [HM.out], rfl⟩
      · have HM := Lib.hid (moved3 m1 m2)
        have e2 : (b.pos == a.pos) = false := by simp [m2]
        clear m2
        go_wp2_with fail
        go_meet
        exact ⟨by rw [HM.out], rfl⟩
  case rest =>
  obtain ⟨rfl, rfl⟩ := hcut
  cases gm : movedB a b with
  | false =>
    have HS := Lib.hid (shift_no gm)
    clear gm
    clear q0 q1 q2 q3 p0 p1 p2 p3
    cases gs : good (shiftM a b) with
    | false =>
      have HAns := Lib.hid (no4 (z0 := a) (z1 := b) gs)
      rw [HS.out] at gs
      have HC := Lib.hid (valid_as _ (⟨a.kind, a.pos, a.count, a.words⟩ : M) false gs w5 (show LAmendment.Is w5 (.agg #[.int .i64 a.kind, .int .i64 a.pos, .int .i64 a.count, .slice a3 n3 c3]) (⟨a.kind, a.pos, a.count, a.words⟩ : M) from ⟨_, rfl, Bs.Is.below _ HIA.out hb⟩) HFA.out)
      clear gs
      have x0 := BO.out.cell 0
      have x1 := BO.out.cell 1
      have x2 := BO.out.cell 2
      have x3 := BO.out.cell 3
      simp only [List.getElem?_toArray, List.getElem?_cons_zero, List.getElem?_cons_succ] at x0 x1 x2 x3
      go_wp2_with fail
      refine HC.out.mono ?_
      rintro e w7 ⟨rfl, hb1⟩
      clear x0 x1 x2 x3
      replace BR := Lib.hid (BR.out.kept hb1)
      replace hb := hb.trans (hb1.mono hb.size)
      clear hb1
      have BR5 := BR.out
      have r0 := BR5.cell 0
      have r1 := BR5.cell 1
      have r2 := BR5.cell 2
      have r3 := BR5.cell 3
      simp only [List.getElem?_toArray, List.getElem?_cons_zero, List.getElem?_cons_succ] at r0 r1 r2 r3
      have z0 := BR5.frozen 0
      have z1 := BR5.frozen 1
      have z2 := BR5.frozen 2
      have z3 := BR5.frozen 3
      have hRF := (Bx.set_ (Bx.set_ (Bx.set_ (Bx.set_ BR5 0 (.int .i64 0)) 1 (.int .i64 0)) 2 (.int .i64 0)) 3 (.slice none 0 0))
      have c0 := hRF.cell 0
      have c1 := hRF.cell 1
      have c2 := hRF.cell 2
      have c3 := hRF.cell 3
      simp at c0 c1 c2 c3
      clear hRF
      go_wp2_with fail
      refine bodyPost_ret (v := .tuple #[.agg #[.int .i64 0, .int .i64 0, .int .i64 0, .slice none 0 0], .bool false]) (by simp [results, Try.results22, go_sem, c0, c1, c2, c3]) rfl ?_
      exact ⟨_, zeroM, false, rfl, HAns.out, LAmendment.Own.zero, (Below.setCell (Below.setCell (Below.setCell (Below.setCell hb (p := ⟨w.heap.size + 2, 0, none⟩) (by show w.heap.size ≤ w.heap.size + 2; omega) (.int .i64 0)) (p := ⟨w.heap.size + 2, 1, none⟩) (by show w.heap.size ≤ w.heap.size + 2; omega) (.int .i64 0)) (p := ⟨w.heap.size + 2, 2, none⟩) (by show w.heap.size ≤ w.heap.size + 2; omega) (.int .i64 0)) (p := ⟨w.heap.size + 2, 3, none⟩) (by show w.heap.size ≤ w.heap.size + 2; omega) (.slice none 0 0))⟩
    | true =>
      have HAns := Lib.hid (show Ans a b (⟨a.kind, a.pos, a.count, a.words⟩ : M) true by rw [← HS.out]; exact yes4 HG.out.1 HG.out.2.1 HG.out.2.2 gs)
      rw [HS.out] at gs
      have HC := Lib.hid (valid_as _ (⟨a.kind, a.pos, a.count, a.words⟩ : M) true gs w5 (show LAmendment.Is w5 (.agg #[.int .i64 a.kind, .int .i64 a.pos, .int .i64 a.count, .slice a3 n3 c3]) (⟨a.kind, a.pos, a.count, a.words⟩ : M) from ⟨_, rfl, Bs.Is.below _ HIA.out hb⟩) HFA.out)
      clear gs
      have x0 := BO.out.cell 0
      have x1 := BO.out.cell 1
      have x2 := BO.out.cell 2
      have x3 := BO.out.cell 3
      simp only [List.getElem?_toArray, List.getElem?_cons_zero, List.getElem?_cons_succ] at x0 x1 x2 x3
      go_wp2_with fail
      refine HC.out.mono ?_
      rintro e w7 ⟨rfl, hb1⟩
      clear x0 x1 x2 x3
      replace BO := Lib.hid (BO.out.kept hb1)
      replace B0 := Lib.hid (B0.out.kept hb1)
      replace B1 := Lib.hid (B1.out.kept hb1)
      replace BR := Lib.hid (BR.out.kept hb1)
      replace HZ := Lib.hid (show w.heap.size + 3 ≤ w7.heap.size by have := HZ.out; have := hb1.size; omega)
      replace hb := hb.trans (hb1.mono hb.size)
      clear hb1
      have q0 := B0.out.cell 0
      have q1 := B0.out.cell 1
      have q2 := B0.out.cell 2
      have q3 := B0.out.cell 3
      simp only [List.getElem?_toArray, List.getElem?_cons_zero, List.getElem?_cons_succ] at q0 q1 q2 q3
      go_wp2_with fail
      refine (LString.clone _ a.words w7 (Bs.Is.below _ HIA.out hb) (by have := HN3.out; have := HLA.out; omega)).mono ?_
      rintro e w8 ⟨v3, rfl, ho3, hb1⟩
      obtain ⟨fa, fn, fc, rfl⟩ := own_slice ho3
      have hNG : ∀ k, (Value.slice fa fn fc).ownBlock = some k → k ≠ GO := fun k hk => by have h1 := (ho3.lt k hk).1; have h2 := HGO.out; have h3 := BO.out.lt; omega
      have hNR : ∀ k, (Value.slice fa fn fc).ownBlock = some k → k ≠ w.heap.size + 2 := fun k hk => by have h1 := (ho3.lt k hk).1; have h2 := HZ.out; omega
      replace ho3 := ho3.low (show w.heap.size ≤ _ from by have := HZ.out; omega)
      replace BO := Lib.hid (BO.out.kept hb1)
      replace B0 := Lib.hid (B0.out.kept hb1)
      replace B1 := Lib.hid (B1.out.kept hb1)
      replace BR := Lib.hid (BR.out.kept hb1)
      replace HZ := Lib.hid (show w.heap.size + 3 ≤ w8.heap.size by have := HZ.out; have := hb1.size; omega)
      replace hb := hb.trans (hb1.mono hb.size)
      clear hb1 q0 q1 q2 q3
      have x0 := BO.out.cell 0
      have x1 := BO.out.cell 1
      have x2 := BO.out.cell 2
      have x3 := BO.out.cell 3
      have y0 := BO.out.frozen 0
      have y3 := BO.out.frozen 3
      simp only [List.getElem?_toArray, List.getElem?_cons_zero, List.getElem?_cons_succ] at x0 x1 x2 x3
      obtain ⟨W9, hW9⟩ : ∃ W9 : World, W9 = w8.setCell ⟨GO, 3, none⟩ (.slice fa fn fc) := ⟨_, rfl⟩
      have BO9 := Lib.hid (show Bx W9 GO 38 #[.int .i64 a.kind, .int .i64 a.pos, .int .i64 a.count, .slice fa fn fc] by rw [hW9]; have := Bx.set_ BO.out 3 (.slice fa fn fc); simpa using this)
      have BR9 := Lib.hid (show Bx W9 (w.heap.size + 2) 38 #[.int .i64 0, .int .i64 0, .int .i64 0, .slice none 0 0] by rw [hW9]; exact Bx.far (p := ⟨GO, 3, none⟩) BR.out (show w.heap.size + 2 ≠ GO by have := HGO.out; omega) _)
      have ho9 : Bs.Own LString.rec 9 W9 w.heap.size (.slice fa fn fc) a.words := by rw [hW9]; exact own_set ho3 (p := ⟨GO, 3, none⟩) hNG _
      have hb9 : Below w.heap.size w W9 := by rw [hW9]; exact Below.setCell hb (p := ⟨GO, 3, none⟩) (show w.heap.size ≤ GO by have := HGO.out; omega) _
      go_upto_region 10 with fail
      rw [← hW9]
      clear hW9 x0 x1 x2 x3 y0 y3 hb BO BR
      have hb := hb9
      have BO := BO9
      have BR := BR9
      have hGO := HGO.out
      have BR5 := BR.out
      have y0 := BO.out.cell 0
      have y1 := BO.out.cell 1
      have y2 := BO.out.cell 2
      have y3 := BO.out.cell 3
      simp only [List.getElem?_toArray, List.getElem?_cons_zero, List.getElem?_cons_succ] at y0 y1 y2 y3
      have r0 := BR5.cell 0
      have r1 := BR5.cell 1
      have r2 := BR5.cell 2
      have r3 := BR5.cell 3
      simp only [List.getElem?_toArray, List.getElem?_cons_zero, List.getElem?_cons_succ] at r0 r1 r2 r3
      have z0 := BR5.frozen 0
      have z1 := BR5.frozen 1
      have z2 := BR5.frozen 2
      have z3 := BR5.frozen 3
      have hRF := (Bx.set_ (Bx.set_ (Bx.set_ (Bx.set_ BR5 0 (.int .i64 a.kind)) 1 (.int .i64 a.pos)) 2 (.int .i64 a.count)) 3 (.slice fa fn fc))
      have c0 := hRF.cell 0
      have c1 := hRF.cell 1
      have c2 := hRF.cell 2
      have c3 := hRF.cell 3
      simp at c0 c1 c2 c3
      clear hRF
      go_wp2_with fail
      refine bodyPost_ret (v := .tuple #[.agg #[.int .i64 a.kind, .int .i64 a.pos, .int .i64 a.count, .slice fa fn fc], .bool true]) (by simp [results, Try.results22, go_sem, c0, c1, c2, c3]) rfl ?_
      exact ⟨_, _, true, rfl, HAns.out, ⟨_, rfl, id (own_set (own_set (own_set (own_set ho9 (p := ⟨w.heap.size + 2, 0, none⟩) (fun k hk => by have h2 := (ho9.lt k hk).1; exact hNR k hk) (.int .i64 a.kind)) (p := ⟨w.heap.size + 2, 1, none⟩) (fun k hk => by have h2 := (ho9.lt k hk).1; exact hNR k hk) (.int .i64 a.pos)) (p := ⟨w.heap.size + 2, 2, none⟩) (fun k hk => by have h2 := (ho9.lt k hk).1; exact hNR k hk) (.int .i64 a.count)) (p := ⟨w.heap.size + 2, 3, none⟩) (fun k hk => by have h2 := (ho9.lt k hk).1; exact hNR k hk) (.slice fa fn fc))⟩, (Below.setCell (Below.setCell (Below.setCell (Below.setCell hb (p := ⟨w.heap.size + 2, 0, none⟩) (by show w.heap.size ≤ w.heap.size + 2; omega) (.int .i64 a.kind)) (p := ⟨w.heap.size + 2, 1, none⟩) (by show w.heap.size ≤ w.heap.size + 2; omega) (.int .i64 a.pos)) (p := ⟨w.heap.size + 2, 2, none⟩) (by show w.heap.size ≤ w.heap.size + 2; omega) (.int .i64 a.count)) (p := ⟨w.heap.size + 2, 3, none⟩) (by show w.heap.size ≤ w.heap.size + 2; omega) (.slice fa fn fc))⟩
  | true =>
    obtain ⟨P, hP⟩ : ∃ P, P = a.pos + (n4 : Int) - b.count := ⟨_, rfl⟩
    have HS := Lib.hid (show shiftM a b = ⟨a.kind, P, a.count, a.words⟩ by rw [shift_yes gm, hP, HN4.out])
    have s2 : IntKind.i64.wrap ((n4 : Int) - b.count) = (n4 : Int) - b.count := IntWalk.i64_in _ (by omega)
    have s3 : IntKind.i64.wrap (a.pos + ((n4 : Int) - b.count)) = P := by rw [hP, show a.pos + ((n4 : Int) - b.count) = a.pos + n4 - b.count by omega]; exact IntWalk.i64_in _ (by omega)
    clear gm hP
    have x1 := BO.out.cell 1
    have y1 := BO.out.frozen 1
    simp only [List.getElem?_toArray, List.getElem?_cons_zero, List.getElem?_cons_succ] at x1
    obtain ⟨w6, hw6⟩ : ∃ w6 : World, w6 = w5.setCell ⟨GO, 1, none⟩ (.int .i64 P) := ⟨_, rfl⟩
    have BO6 := Lib.hid (show Bx w6 GO 38 #[.int .i64 a.kind, .int .i64 P, .int .i64 a.count, .slice a3 n3 c3] by rw [hw6]; have := Bx.set_ BO.out 1 (.int .i64 P); simpa using this)
    have BR6 := Lib.hid (show Bx w6 (w.heap.size + 2) 38 #[.int .i64 0, .int .i64 0, .int .i64 0, .slice none 0 0] by rw [hw6]; exact Bx.far (p := ⟨GO, 1, none⟩) BR.out (show w.heap.size + 2 ≠ GO by have := HGO.out; omega) _)
    have B06 := Lib.hid (show Bx w6 w.heap.size 38 #[.int .i64 a.kind, .int .i64 a.pos, .int .i64 a.count, .slice a3 n3 c3] by rw [hw6]; exact Bx.far (p := ⟨GO, 1, none⟩) B0.out (show w.heap.size ≠ GO by have := HGO.out; omega) _)
    have B16 := Lib.hid (show Bx w6 (w.heap.size + 1) 38 #[.int .i64 b.kind, .int .i64 b.pos, .int .i64 b.count, .slice a4 n4 c4] by rw [hw6]; exact Bx.far (p := ⟨GO, 1, none⟩) B1.out (show w.heap.size + 1 ≠ GO by have := HGO.out; omega) _)
    have hb6 : Below w.heap.size w w6 := by rw [hw6]; exact Below.setCell hb (p := ⟨GO, 1, none⟩) (show w.heap.size ≤ GO by have := HGO.out; omega) _
    have HZ6 := Lib.hid (show w.heap.size + 3 ≤ w6.heap.size by rw [hw6]; simpa using HZ.out)
    go_upto_region 7 with fail
    rw [← hw6]
    clear hw6 x1 y1 hb BO BR B0 B1 HZ q0 q1 q2 q3 p0 p1 p2 p3 s2 s3
    have hb := hb6
    have BO := BO6
    have BR := BR6
    have B0 := B06
    have B1 := B16
    have HZ := HZ6
    clear hb6 BO6 BR6 B06 B16 HZ6
    cases gs : good (shiftM a b) with
    | false =>
      have HAns := Lib.hid (no4 (z0 := a) (z1 := b) gs)
      rw [HS.out] at gs
      have HC := Lib.hid (valid_as _ (⟨a.kind, P, a.count, a.words⟩ : M) false gs w6 (show LAmendment.Is w6 (.agg #[.int .i64 a.kind, .int .i64 P, .int .i64 a.count, .slice a3 n3 c3]) (⟨a.kind, P, a.count, a.words⟩ : M) from ⟨_, rfl, Bs.Is.below _ HIA.out hb⟩) HFA.out)
      clear gs
      have x0 := BO.out.cell 0
      have x1 := BO.out.cell 1
      have x2 := BO.out.cell 2
      have x3 := BO.out.cell 3
      simp only [List.getElem?_toArray, List.getElem?_cons_zero, List.getElem?_cons_succ] at x0 x1 x2 x3
      go_wp2_with fail
      refine HC.out.mono ?_
      rintro e w7 ⟨rfl, hb1⟩
      clear x0 x1 x2 x3
      replace BR := Lib.hid (BR.out.kept hb1)
      replace hb := hb.trans (hb1.mono hb.size)
      clear hb1
      have BR5 := BR.out
      have r0 := BR5.cell 0
      have r1 := BR5.cell 1
      have r2 := BR5.cell 2
      have r3 := BR5.cell 3
      simp only [List.getElem?_toArray, List.getElem?_cons_zero, List.getElem?_cons_succ] at r0 r1 r2 r3
      have z0 := BR5.frozen 0
      have z1 := BR5.frozen 1
      have z2 := BR5.frozen 2
      have z3 := BR5.frozen 3
      have hRF := (Bx.set_ (Bx.set_ (Bx.set_ (Bx.set_ BR5 0 (.int .i64 0)) 1 (.int .i64 0)) 2 (.int .i64 0)) 3 (.slice none 0 0))
      have c0 := hRF.cell 0
      have c1 := hRF.cell 1
      have c2 := hRF.cell 2
      have c3 := hRF.cell 3
      simp at c0 c1 c2 c3
      clear hRF
      go_wp2_with fail
      refine bodyPost_ret (v := .tuple #[.agg #[.int .i64 0, .int .i64 0, .int .i64 0, .slice none 0 0], .bool false]) (by simp [results, Try.results22, go_sem, c0, c1, c2, c3]) rfl ?_
      exact ⟨_, zeroM, false, rfl, HAns.out, LAmendment.Own.zero, (Below.setCell (Below.setCell (Below.setCell (Below.setCell hb (p := ⟨w.heap.size + 2, 0, none⟩) (by show w.heap.size ≤ w.heap.size + 2; omega) (.int .i64 0)) (p := ⟨w.heap.size + 2, 1, none⟩) (by show w.heap.size ≤ w.heap.size + 2; omega) (.int .i64 0)) (p := ⟨w.heap.size + 2, 2, none⟩) (by show w.heap.size ≤ w.heap.size + 2; omega) (.int .i64 0)) (p := ⟨w.heap.size + 2, 3, none⟩) (by show w.heap.size ≤ w.heap.size + 2; omega) (.slice none 0 0))⟩
    | true =>
      have HAns := Lib.hid (show Ans a b (⟨a.kind, P, a.count, a.words⟩ : M) true by rw [← HS.out]; exact yes4 HG.out.1 HG.out.2.1 HG.out.2.2 gs)
      rw [HS.out] at gs
      have HC := Lib.hid (valid_as _ (⟨a.kind, P, a.count, a.words⟩ : M) true gs w6 (show LAmendment.Is w6 (.agg #[.int .i64 a.kind, .int .i64 P, .int .i64 a.count, .slice a3 n3 c3]) (⟨a.kind, P, a.count, a.words⟩ : M) from ⟨_, rfl, Bs.Is.below _ HIA.out hb⟩) HFA.out)
      clear gs
      have x0 := BO.out.cell 0
      have x1 := BO.out.cell 1
      have x2 := BO.out.cell 2
      have x3 := BO.out.cell 3
      simp only [List.getElem?_toArray, List.getElem?_cons_zero, List.getElem?_cons_succ] at x0 x1 x2 x3
      go_wp2_with fail
      refine HC.out.mono ?_
      rintro e w7 ⟨rfl, hb1⟩
      clear x0 x1 x2 x3
      replace BO := Lib.hid (BO.out.kept hb1)
      replace B0 := Lib.hid (B0.out.kept hb1)
      replace B1 := Lib.hid (B1.out.kept hb1)
      replace BR := Lib.hid (BR.out.kept hb1)
      replace HZ := Lib.hid (show w.heap.size + 3 ≤ w7.heap.size by have := HZ.out; have := hb1.size; omega)
      replace hb := hb.trans (hb1.mono hb.size)
      clear hb1
      have q0 := B0.out.cell 0
      have q1 := B0.out.cell 1
      have q2 := B0.out.cell 2
      have q3 := B0.out.cell 3
      simp only [List.getElem?_toArray, List.getElem?_cons_zero, List.getElem?_cons_succ] at q0 q1 q2 q3
      go_wp2_with fail
      refine (LString.clone _ a.words w7 (Bs.Is.below _ HIA.out hb) (by have := HN3.out; have := HLA.out; omega)).mono ?_
      rintro e w8 ⟨v3, rfl, ho3, hb1⟩
      obtain ⟨fa, fn, fc, rfl⟩ := own_slice ho3
      have hNG : ∀ k, (Value.slice fa fn fc).ownBlock = some k → k ≠ GO := fun k hk => by have h1 := (ho3.lt k hk).1; have h2 := HGO.out; have h3 := BO.out.lt; omega
      have hNR : ∀ k, (Value.slice fa fn fc).ownBlock = some k → k ≠ w.heap.size + 2 := fun k hk => by have h1 := (ho3.lt k hk).1; have h2 := HZ.out; omega
      replace ho3 := ho3.low (show w.heap.size ≤ _ from by have := HZ.out; omega)
      replace BO := Lib.hid (BO.out.kept hb1)
      replace B0 := Lib.hid (B0.out.kept hb1)
      replace B1 := Lib.hid (B1.out.kept hb1)
      replace BR := Lib.hid (BR.out.kept hb1)
      replace HZ := Lib.hid (show w.heap.size + 3 ≤ w8.heap.size by have := HZ.out; have := hb1.size; omega)
      replace hb := hb.trans (hb1.mono hb.size)
      clear hb1 q0 q1 q2 q3
      have x0 := BO.out.cell 0
      have x1 := BO.out.cell 1
      have x2 := BO.out.cell 2
      have x3 := BO.out.cell 3
      have y0 := BO.out.frozen 0
      have y3 := BO.out.frozen 3
      simp only [List.getElem?_toArray, List.getElem?_cons_zero, List.getElem?_cons_succ] at x0 x1 x2 x3
      obtain ⟨W9, hW9⟩ : ∃ W9 : World, W9 = w8.setCell ⟨GO, 3, none⟩ (.slice fa fn fc) := ⟨_, rfl⟩
      have BO9 := Lib.hid (show Bx W9 GO 38 #[.int .i64 a.kind, .int .i64 P, .int .i64 a.count, .slice fa fn fc] by rw [hW9]; have := Bx.set_ BO.out 3 (.slice fa fn fc); simpa using this)
      have BR9 := Lib.hid (show Bx W9 (w.heap.size + 2) 38 #[.int .i64 0, .int .i64 0, .int .i64 0, .slice none 0 0] by rw [hW9]; exact Bx.far (p := ⟨GO, 3, none⟩) BR.out (show w.heap.size + 2 ≠ GO by have := HGO.out; omega) _)
      have ho9 : Bs.Own LString.rec 9 W9 w.heap.size (.slice fa fn fc) a.words := by rw [hW9]; exact own_set ho3 (p := ⟨GO, 3, none⟩) hNG _
      have hb9 : Below w.heap.size w W9 := by rw [hW9]; exact Below.setCell hb (p := ⟨GO, 3, none⟩) (show w.heap.size ≤ GO by have := HGO.out; omega) _
      go_upto_region 10 with fail
      rw [← hW9]
      clear hW9 x0 x1 x2 x3 y0 y3 hb BO BR
      have hb := hb9
      have BO := BO9
      have BR := BR9
      have hGO := HGO.out
      have BR5 := BR.out
      have y0 := BO.out.cell 0
      have y1 := BO.out.cell 1
      have y2 := BO.out.cell 2
      have y3 := BO.out.cell 3
      simp only [List.getElem?_toArray, List.getElem?_cons_zero, List.getElem?_cons_succ] at y0 y1 y2 y3
      have r0 := BR5.cell 0
      have r1 := BR5.cell 1
      have r2 := BR5.cell 2
      have r3 := BR5.cell 3
      simp only [List.getElem?_toArray, List.getElem?_cons_zero, List.getElem?_cons_succ] at r0 r1 r2 r3
      have z0 := BR5.frozen 0
      have z1 := BR5.frozen 1
      have z2 := BR5.frozen 2
      have z3 := BR5.frozen 3
      have hRF := (Bx.set_ (Bx.set_ (Bx.set_ (Bx.set_ BR5 0 (.int .i64 a.kind)) 1 (.int .i64 P)) 2 (.int .i64 a.count)) 3 (.slice fa fn fc))
      have c0 := hRF.cell 0
      have c1 := hRF.cell 1
      have c2 := hRF.cell 2
      have c3 := hRF.cell 3
      simp at c0 c1 c2 c3
      clear hRF
      go_wp2_with fail
      refine bodyPost_ret (v := .tuple #[.agg #[.int .i64 a.kind, .int .i64 P, .int .i64 a.count, .slice fa fn fc], .bool true]) (by simp [results, Try.results22, go_sem, c0, c1, c2, c3]) rfl ?_
      exact ⟨_, _, true, rfl, HAns.out, ⟨_, rfl, id (own_set (own_set (own_set (own_set ho9 (p := ⟨w.heap.size + 2, 0, none⟩) (fun k hk => by have h2 := (ho9.lt k hk).1; exact hNR k hk) (.int .i64 a.kind)) (p := ⟨w.heap.size + 2, 1, none⟩) (fun k hk => by have h2 := (ho9.lt k hk).1; exact hNR k hk) (.int .i64 P)) (p := ⟨w.heap.size + 2, 2, none⟩) (fun k hk => by have h2 := (ho9.lt k hk).1; exact hNR k hk) (.int .i64 a.count)) (p := ⟨w.heap.size + 2, 3, none⟩) (fun k hk => by have h2 := (ho9.lt k hk).1; exact hNR k hk) (.slice fa fn fc))⟩, (Below.setCell (Below.setCell (Below.setCell (Below.setCell hb (p := ⟨w.heap.size + 2, 0, none⟩) (by show w.heap.size ≤ w.heap.size + 2; omega) (.int .i64 a.kind)) (p := ⟨w.heap.size + 2, 1, none⟩) (by show w.heap.size ≤ w.heap.size + 2; omega) (.int .i64 P)) (p := ⟨w.heap.size + 2, 2, none⟩) (by show w.heap.size ≤ w.heap.size + 2; omega) (.int .i64 a.count)) (p := ⟨w.heap.size + 2, 3, none⟩) (by show w.heap.size ≤ w.heap.size + 2; omega) (.slice fa fn fc))⟩
end Go.Proofs.Ytclpdpfnlmfogaa.ShiftedChangeC
