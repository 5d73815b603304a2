/- SecondaryChange: what it answers, on both sides. No condition. -/
import Derived.Test.YtclpdpfnlmfogaaCfD
import Derived.Test.YtclpdpfnlmfogaaCfI
import Derived.Test.YtclpdpfnlmfogaaAmF
import Derived.Test.YtclpdpfnlmfogaaAmP
import Derived.Test.YtclpdpfnlmfogaaApplyAmendmentC
namespace Go.Proofs.Ytclpdpfnlmfogaa.SecondaryChangeC
open Go.RowKit Bs Word Am AmA AmG AmE AmF AmP Cf CfD CfI
set_option linter.unusedVariables false
def secM (a b : M) : M := ⟨a.kind, a.pos, a.count, apply a.words b⟩
def okB (a b : M) : Bool := (good a && (good b && fits a.words b)) && good (secM a b)
def Ans (z0 z1 : M) (r0 : M) (r1 : Bool) : Prop := (r0, r1) = if okB z0 z1 = true then (secM z0 z1, true) else (zeroM, false)
theorem yes {z0 z1 : M} (h : okB z0 z1 = true) : Ans z0 z1 (secM z0 z1) true := by unfold Ans; rw [if_pos h]
theorem no {z0 z1 : M} (h : okB z0 z1 = false) : Ans z0 z1 zeroM false := by unfold Ans; rw [h]; rfl
theorem no1 {z0 z1 : M} (h : good z0 = false) : Ans z0 z1 zeroM false := no (by unfold okB; rw [h]; rfl)
theorem no2 {z0 z1 : M} (h : good z1 = false) : Ans z0 z1 zeroM false := no (by unfold okB; rw [h]; simp)
theorem no3 {z0 z1 : M} (h : fits z0.words z1 = false) : Ans z0 z1 zeroM false := no (by unfold okB; rw [h]; simp)
theorem no23 {z0 z1 : M} (h : (good z1 && fits z0.words z1) = false) : Ans z0 z1 zeroM false := no (by unfold okB; rw [h]; simp)
theorem no4 {z0 z1 : M} (h : good (secM z0 z1) = false) : Ans z0 z1 zeroM false := no (by unfold okB; rw [h]; simp)
theorem yes4 {z0 z1 : M} (h1 : good z0 = true) (h2 : (good z1 && fits z0.words z1) = true) (h4 : good (secM z0 z1) = true) : Ans z0 z1 (secM z0 z1) true := yes (by unfold okB; rw [h1, h2, h4]; rfl)
theorem same {z0 z1 : M} {r0 s0 : M} {r1 s1 : Bool} (h1 : Ans z0 z1 r0 r1) (h2 : Ans z0 z1 s0 s1) : r0 = s0 ∧ r1 = s1 := by
  have h := (show (r0, r1) = _ from h1).trans (show (s0, s1) = _ from h2).symm
  exact ⟨congrArg Prod.fst h, congrArg Prod.snd h⟩
theorem len0 {z0 z1 : M} {r0 : M} {r1 : Bool} (h : Ans z0 z1 r0 r1) : r0.words.length ≤ 1048576 := by
  replace h := (show (r0, r1) = _ from h)
  split at h
  · rename_i hc
    have := congrArg Prod.fst h
    simp only at this
    subst this
    unfold okB at hc
    rw [Bool.and_eq_true] at hc
    have := good_lens hc.2
    omega
  · have := congrArg Prod.fst h; simp only at this; subst this; simp [zeroM]
theorem good_text {a : M} (h : good a = true) : textB a.words = true := words_mk (by have := words_len (good_parts h).2.1; omega) (words_all (good_parts h).2.1)
theorem fine_sec {a b : M} (ha : LAmendment.Fine a) (hb : LAmendment.Fine b) : LAmendment.Fine (secM a b) := fun x hx => by
  have hx : x ∈ apply a.words b := hx
  unfold apply at hx
  rcases List.mem_append.1 hx with hx | hx
  · rcases List.mem_append.1 hx with hx | hx
    · exact ha x (List.mem_of_mem_take hx)
    · exact hb x hx
  · exact ha x (List.mem_of_mem_drop hx)
def Post (z0 z1 : M) (w : World) (e : Ending) (w' : World) : Prop := ∃ v0 r0 r1, e = .returned (.tuple #[v0, .bool r1]) ∧ Ans z0 z1 r0 r1 ∧ LAmendment.Own w' w.heap.size v0 r0 ∧ Below w.heap.size w w'
theorem is_words {w : World} {a3 : Option Addr} {n3 c3 : Nat} {k p c : Value} {r : M} (h : LAmendment.IsQ w (.agg #[k, p, c, .slice a3 n3 c3]) r) : Bs.IsQ LString.rec w (.slice a3 n3 c3) r.words := by
  obtain ⟨s, e, h3⟩ := h
  simp only [Value.agg.injEq, Array.mk.injEq, List.cons.injEq, and_true] at e
  obtain ⟨_, _, _, rfl⟩ := e
  exact h3
theorem fits_as (v v0 : Value) (l : T) (r : M) (bv : Bool) (hv : fits l r = bv) (w : World) (h : IsQ LString.rec w v l) (h0 : LAmendment.Is w v0 r) (hg : good r = true) (hl : l.length ≤ 1048576) :
    Calls Try.prog 46 #[v, v0] w fun e w' => e = .returned (.bool bv) ∧ Below w.heap.size w w' := by subst hv; exact AmF.l9Fits v v0 l r w h h0 hg hl
attribute [local go_sem ↓] Go.wp_at_zero Go.wp_at_succ in
set_option maxRecDepth 100000 in
set_option maxHeartbeats 1600000 in
theorem spec (v0 : Value) (z0 : M) (v1 : Value) (z1 : M) (w : World) (h0 : LAmendment.IsQ w v0 z0) (f0 : LAmendment.Fine z0) (l0 : z0.words.length ≤ 1048576) (h1 : LAmendment.IsQ w v1 z1) (f1 : LAmendment.Fine z1) (l1 : z1.words.length ≤ 1048576) :
    Calls Try.prog 25 #[v0, v1] w (Post z0 z1 w) := by
  obtain ⟨a, ha⟩ : ∃ a, a = z0 := ⟨_, rfl⟩
  obtain ⟨b, hbb⟩ : ∃ b, b = z1 := ⟨_, rfl⟩
  subst ha hbb
  obtain ⟨a3, n3, c3, rfl, HN3, hb3, hm3, HIA⟩ := AmG.open_is (LAmendment.IsQ.is h0)
  obtain ⟨a4, n4, c4, rfl, HN4, hb4, hm4, HIB⟩ := AmG.open_is (LAmendment.IsQ.is h1)
  have HIA0 := Lib.hid h0
  have HIB0 := Lib.hid h1
  have HFA := Lib.hid f0
  have HFB := Lib.hid f1
  have HQA := Lib.hid (is_words h0)
  clear h0 h1 f0 f1
  obtain ⟨V, hW⟩ : ∃ V : World, V = ((w.alloc (Obj.cells #[.int .i64 a.kind, .int .i64 a.pos, .int .i64 a.count, .slice a3 n3 c3] 38)).alloc (Obj.cells #[.int .i64 b.kind, .int .i64 b.pos, .int .i64 b.count, .slice a4 n4 c4] 38)).alloc (Obj.cells #[.int .i64 0, .int .i64 0, .int .i64 0, .slice none 0 0] 38) := ⟨_, rfl⟩
  have hb : Below w.heap.size w V := by rw [hW]; exact (((Below.refl _ _).alloc (Nat.le_refl _) _).alloc (by simp) _).alloc (by simp; omega) _
  have HZ := Lib.hid (show w.heap.size + 3 ≤ V.heap.size by rw [hW]; simp)
  have B0 := Lib.hid (show Bx V w.heap.size 38 #[.int .i64 a.kind, .int .i64 a.pos, .int .i64 a.count, .slice a3 n3 c3] by rw [hW]; exact ((Bx.new w 38 #[.int .i64 a.kind, .int .i64 a.pos, .int .i64 a.count, .slice a3 n3 c3]).alloc _).alloc _)
  have B1 := Lib.hid (show Bx V (w.heap.size + 1) 38 #[.int .i64 b.kind, .int .i64 b.pos, .int .i64 b.count, .slice a4 n4 c4] by rw [hW]; have := (Bx.new (w.alloc (Obj.cells #[.int .i64 a.kind, .int .i64 a.pos, .int .i64 a.count, .slice a3 n3 c3] 38)) 38 #[.int .i64 b.kind, .int .i64 b.pos, .int .i64 b.count, .slice a4 n4 c4]).alloc (Obj.cells #[.int .i64 0, .int .i64 0, .int .i64 0, .slice none 0 0] 38); simpa using this)
  have BR := Lib.hid (show Bx V (w.heap.size + 2) 38 #[.int .i64 0, .int .i64 0, .int .i64 0, .slice none 0 0] by rw [hW]; have := Bx.new ((w.alloc (Obj.cells #[.int .i64 a.kind, .int .i64 a.pos, .int .i64 a.count, .slice a3 n3 c3] 38)).alloc (Obj.cells #[.int .i64 b.kind, .int .i64 b.pos, .int .i64 b.count, .slice a4 n4 c4] 38)) 38 #[.int .i64 0, .int .i64 0, .int .i64 0, .slice none 0 0]; simpa using this)
  have HA := Lib.hid (fun bv (hv : good a = bv) W' (hb' : Below w.heap.size w W') => good_as _ a bv hv W' (LAmendment.Is.below (LAmendment.IsQ.is HIA0.out) hb') HFA.out)
  have HBi := Lib.hid (fun bv (hv : good b = bv) W' (hb' : Below w.heap.size w W') => good_as _ b bv hv W' (LAmendment.Is.below (LAmendment.IsQ.is HIB0.out) hb') HFB.out)
  have q0 := B0.out.cell 0
  have q1 := B0.out.cell 1
  have q2 := B0.out.cell 2
  have q3 := B0.out.cell 3
  simp only [List.getElem?_toArray, List.getElem?_cons_zero, List.getElem?_cons_succ] at q0 q1 q2 q3
  have p0 := B1.out.cell 0
  have p1 := B1.out.cell 1
  have p2 := B1.out.cell 2
  have p3 := B1.out.cell 3
  simp only [List.getElem?_toArray, List.getElem?_cons_zero, List.getElem?_cons_succ] at p0 p1 p2 p3
  cases ga : good a with
  | false =>
    have HAns := Lib.hid (no1 (z1 := b) ga)
    go_enter Try.func25, Try.ntmps25
    go_wp2_with fail
    rw [← hW]
    clear hW
    refine (HA.out _ ga _ hb).mono ?_
    rintro e w1 ⟨rfl, hb1⟩
    replace B0 := Lib.hid (B0.out.kept hb1)
    replace B1 := Lib.hid (B1.out.kept hb1)
    replace BR := Lib.hid (BR.out.kept hb1)
    replace HZ := Lib.hid (show w.heap.size + 3 ≤ w1.heap.size by have := HZ.out; have := hb1.size; omega)
    replace hb := hb.trans (hb1.mono hb.size)
    clear hb1 q0 q1 q2 q3 p0 p1 p2 p3
    have q0 := B0.out.cell 0
    have q1 := B0.out.cell 1
    have q2 := B0.out.cell 2
    have q3 := B0.out.cell 3
    simp only [List.getElem?_toArray, List.getElem?_cons_zero, List.getElem?_cons_succ] at q0 q1 q2 q3
    have p0 := B1.out.cell 0
    have p1 := B1.out.cell 1
    have p2 := B1.out.cell 2
    have p3 := B1.out.cell 3
    simp only [List.getElem?_toArray, List.getElem?_cons_zero, List.getElem?_cons_succ] at p0 p1 p2 p3
    clear q0 q1 q2 q3 p0 p1 p2 p3
    clear ga
    have BR5 := BR.out
    have r0 := BR5.cell 0
    have r1 := BR5.cell 1
    have r2 := BR5.cell 2
    have r3 := BR5.cell 3
    simp only [List.getElem?_toArray, List.getElem?_cons_zero, List.getElem?_cons_succ] at r0 r1 r2 r3
    have z0 := BR5.frozen 0
    have z1 := BR5.frozen 1
    have z2 := BR5.frozen 2
    have z3 := BR5.frozen 3
    have hRF := (Bx.set_ (Bx.set_ (Bx.set_ (Bx.set_ BR5 0 (.int .i64 0)) 1 (.int .i64 0)) 2 (.int .i64 0)) 3 (.slice none 0 0))
    have c0 := hRF.cell 0
    have c1 := hRF.cell 1
    have c2 := hRF.cell 2
    have c3 := hRF.cell 3
    simp at c0 c1 c2 c3
    clear hRF
    go_wp2_with fail
    refine bodyPost_ret (v := .tuple #[.agg #[.int .i64 0, .int .i64 0, .int .i64 0, .slice none 0 0], .bool false]) (by simp [results, Try.results25, go_sem, c0, c1, c2, c3]) rfl ?_
    exact ⟨_, zeroM, false, rfl, HAns.out, LAmendment.Own.zero, (Below.setCell (Below.setCell (Below.setCell (Below.setCell hb (p := ⟨w.heap.size + 2, 0, none⟩) (by show w.heap.size ≤ w.heap.size + 2; omega) (.int .i64 0)) (p := ⟨w.heap.size + 2, 1, none⟩) (by show w.heap.size ≤ w.heap.size + 2; omega) (.int .i64 0)) (p := ⟨w.heap.size + 2, 2, none⟩) (by show w.heap.size ≤ w.heap.size + 2; omega) (.int .i64 0)) (p := ⟨w.heap.size + 2, 3, none⟩) (by show w.heap.size ≤ w.heap.size + 2; omega) (.slice none 0 0))⟩
  | true =>
  cases gb : good b with
  | false =>
    have HAns := Lib.hid (no2 (z0 := a) gb)
    go_enter Try.func25, Try.ntmps25
    go_wp2_with fail
    rw [← hW]
    clear hW
    refine (HA.out _ ga _ hb).mono ?_
    rintro e w1 ⟨rfl, hb1⟩
    replace B0 := Lib.hid (B0.out.kept hb1)
    replace B1 := Lib.hid (B1.out.kept hb1)
    replace BR := Lib.hid (BR.out.kept hb1)
    replace HZ := Lib.hid (show w.heap.size + 3 ≤ w1.heap.size by have := HZ.out; have := hb1.size; omega)
    replace hb := hb.trans (hb1.mono hb.size)
    clear hb1 q0 q1 q2 q3 p0 p1 p2 p3
    have q0 := B0.out.cell 0
    have q1 := B0.out.cell 1
    have q2 := B0.out.cell 2
    have q3 := B0.out.cell 3
    simp only [List.getElem?_toArray, List.getElem?_cons_zero, List.getElem?_cons_succ] at q0 q1 q2 q3
    have p0 := B1.out.cell 0
    have p1 := B1.out.cell 1
    have p2 := B1.out.cell 2
    have p3 := B1.out.cell 3
    simp only [List.getElem?_toArray, List.getElem?_cons_zero, List.getElem?_cons_succ] at p0 p1 p2 p3
    go_wp2_with fail
    refine (HBi.out _ gb _ hb).mono ?_
    rintro e w2 ⟨rfl, hb1⟩
    replace B0 := Lib.hid (B0.out.kept hb1)
    replace B1 := Lib.hid (B1.out.kept hb1)
    replace BR := Lib.hid (BR.out.kept hb1)
    replace HZ := Lib.hid (show w.heap.size + 3 ≤ w2.heap.size by have := HZ.out; have := hb1.size; omega)
    replace hb := hb.trans (hb1.mono hb.size)
    clear hb1 q0 q1 q2 q3 p0 p1 p2 p3
    have q0 := B0.out.cell 0
    have q1 := B0.out.cell 1
    have q2 := B0.out.cell 2
    have q3 := B0.out.cell 3
    simp only [List.getElem?_toArray, List.getElem?_cons_zero, List.getElem?_cons_succ] at q0 q1 q2 q3
    have p0 := B1.out.cell 0
    have p1 := B1.out.cell 1
    have p2 := B1.out.cell 2
    have p3 := B1.out.cell 3
    simp only [List.getElem?_toArray, List.getElem?_cons_zero, List.getElem?_cons_succ] at p0 p1 p2 p3
    clear q0 q1 q2 q3 p0 p1 p2 p3
    clear ga gb
    have BR5 := BR.out
    have r0 := BR5.cell 0
    have r1 := BR5.cell 1
    have r2 := BR5.cell 2
    have r3 := BR5.cell 3
    simp only [List.getElem?_toArray, List.getElem?_cons_zero, List.getElem?_cons_succ] at r0 r1 r2 r3
    have z0 := BR5.frozen 0
    have z1 := BR5.frozen 1
    have z2 := BR5.frozen 2
    have z3 := BR5.frozen 3
    have hRF := (Bx.set_ (Bx.set_ (Bx.set_ (Bx.set_ BR5 0 (.int .i64 0)) 1 (.int .i64 0)) 2 (.int .i64 0)) 3 (.slice none 0 0))
    have c0 := hRF.cell 0
    have c1 := hRF.cell 1
    have c2 := hRF.cell 2
    have c3 := hRF.cell 3
    simp at c0 c1 c2 c3
    clear hRF
    go_wp2_with fail
    refine bodyPost_ret (v := .tuple #[.agg #[.int .i64 0, .int .i64 0, .int .i64 0, .slice none 0 0], .bool false]) (by simp [results, Try.results25, go_sem, c0, c1, c2, c3]) rfl ?_
    exact ⟨_, zeroM, false, rfl, HAns.out, LAmendment.Own.zero, (Below.setCell (Below.setCell (Below.setCell (Below.setCell hb (p := ⟨w.heap.size + 2, 0, none⟩) (by show w.heap.size ≤ w.heap.size + 2; omega) (.int .i64 0)) (p := ⟨w.heap.size + 2, 1, none⟩) (by show w.heap.size ≤ w.heap.size + 2; omega) (.int .i64 0)) (p := ⟨w.heap.size + 2, 2, none⟩) (by show w.heap.size ≤ w.heap.size + 2; omega) (.int .i64 0)) (p := ⟨w.heap.size + 2, 3, none⟩) (by show w.heap.size ≤ w.heap.size + 2; omega) (.slice none 0 0))⟩
  | true =>
  have HCF := Lib.hid (fun bv (hv : fits a.words b = bv) W' (hb' : Below w.heap.size w W') => fits_as _ _ a.words b bv hv W' (Bs.IsQ.below HQA.out hb') (LAmendment.Is.below (LAmendment.IsQ.is HIB0.out) hb') gb l0)
  cases gc : fits a.words b with
  | false =>
    have HAns := Lib.hid (no3 gc)
    go_enter Try.func25, Try.ntmps25
    go_wp2_with fail
    rw [← hW]
    clear hW
    refine (HA.out _ ga _ hb).mono ?_
    rintro e w1 ⟨rfl, hb1⟩
    replace B0 := Lib.hid (B0.out.kept hb1)
    replace B1 := Lib.hid (B1.out.kept hb1)
    replace BR := Lib.hid (BR.out.kept hb1)
    replace HZ := Lib.hid (show w.heap.size + 3 ≤ w1.heap.size by have := HZ.out; have := hb1.size; omega)
    replace hb := hb.trans (hb1.mono hb.size)
    clear hb1 q0 q1 q2 q3 p0 p1 p2 p3
    have q0 := B0.out.cell 0
    have q1 := B0.out.cell 1
    have q2 := B0.out.cell 2
    have q3 := B0.out.cell 3
    simp only [List.getElem?_toArray, List.getElem?_cons_zero, List.getElem?_cons_succ] at q0 q1 q2 q3
    have p0 := B1.out.cell 0
    have p1 := B1.out.cell 1
    have p2 := B1.out.cell 2
    have p3 := B1.out.cell 3
    simp only [List.getElem?_toArray, List.getElem?_cons_zero, List.getElem?_cons_succ] at p0 p1 p2 p3
    go_wp2_with fail
    refine (HBi.out _ gb _ hb).mono ?_
    rintro e w2 ⟨rfl, hb1⟩
    replace B0 := Lib.hid (B0.out.kept hb1)
    replace B1 := Lib.hid (B1.out.kept hb1)
    replace BR := Lib.hid (BR.out.kept hb1)
    replace HZ := Lib.hid (show w.heap.size + 3 ≤ w2.heap.size by have := HZ.out; have := hb1.size; omega)
    replace hb := hb.trans (hb1.mono hb.size)
    clear hb1 q0 q1 q2 q3 p0 p1 p2 p3
    have q0 := B0.out.cell 0
    have q1 := B0.out.cell 1
    have q2 := B0.out.cell 2
    have q3 := B0.out.cell 3
    simp only [List.getElem?_toArray, List.getElem?_cons_zero, List.getElem?_cons_succ] at q0 q1 q2 q3
    have p0 := B1.out.cell 0
    have p1 := B1.out.cell 1
    have p2 := B1.out.cell 2
    have p3 := B1.out.cell 3
    simp only [List.getElem?_toArray, List.getElem?_cons_zero, List.getElem?_cons_succ] at p0 p1 p2 p3
    go_wp2_with fail
    refine (HCF.out _ gc _ hb).mono ?_
    rintro e w3 ⟨rfl, hb1⟩
    replace B0 := Lib.hid (B0.out.kept hb1)
    replace B1 := Lib.hid (B1.out.kept hb1)
    replace BR := Lib.hid (BR.out.kept hb1)
    replace HZ := Lib.hid (show w.heap.size + 3 ≤ w3.heap.size by have := HZ.out; have := hb1.size; omega)
    replace hb := hb.trans (hb1.mono hb.size)
    clear hb1 q0 q1 q2 q3 p0 p1 p2 p3
    have q0 := B0.out.cell 0
    have q1 := B0.out.cell 1
    have q2 := B0.out.cell 2
    have q3 := B0.out.cell 3
    simp only [List.getElem?_toArray, List.getElem?_cons_zero, List.getElem?_cons_succ] at q0 q1 q2 q3
    have p0 := B1.out.cell 0
    have p1 := B1.out.cell 1
    have p2 := B1.out.cell 2
    have p3 := B1.out.cell 3
    simp only [List.getElem?_toArray, List.getElem?_cons_zero, List.getElem?_cons_succ] at p0 p1 p2 p3
    clear q0 q1 q2 q3 p0 p1 p2 p3
    clear ga gb gc
    have BR5 := BR.out
    have r0 := BR5.cell 0
    have r1 := BR5.cell 1
    have r2 := BR5.cell 2
    have r3 := BR5.cell 3
    simp only [List.getElem?_toArray, List.getElem?_cons_zero, List.getElem?_cons_succ] at r0 r1 r2 r3
    have z0 := BR5.frozen 0
    have z1 := BR5.frozen 1
    have z2 := BR5.frozen 2
    have z3 := BR5.frozen 3
    have hRF := (Bx.set_ (Bx.set_ (Bx.set_ (Bx.set_ BR5 0 (.int .i64 0)) 1 (.int .i64 0)) 2 (.int .i64 0)) 3 (.slice none 0 0))
    have c0 := hRF.cell 0
    have c1 := hRF.cell 1
    have c2 := hRF.cell 2
    have c3 := hRF.cell 3
    simp at c0 c1 c2 c3
    clear hRF
    go_wp2_with fail
    refine bodyPost_ret (v := .tuple #[.agg #[.int .i64 0, .int .i64 0, .int .i64 0, .slice none 0 0], .bool false]) (by simp [results, Try.results25, go_sem, c0, c1, c2, c3]) rfl ?_
    exact ⟨_, zeroM, false, rfl, HAns.out, LAmendment.Own.zero, (Below.setCell (Below.setCell (Below.setCell (Below.setCell hb (p := ⟨w.heap.size + 2, 0, none⟩) (by show w.heap.size ≤ w.heap.size + 2; omega) (.int .i64 0)) (p := ⟨w.heap.size + 2, 1, none⟩) (by show w.heap.size ≤ w.heap.size + 2; omega) (.int .i64 0)) (p := ⟨w.heap.size + 2, 2, none⟩) (by show w.heap.size ≤ w.heap.size + 2; omega) (.int .i64 0)) (p := ⟨w.heap.size + 2, 3, none⟩) (by show w.heap.size ≤ w.heap.size + 2; omega) (.slice none 0 0))⟩
  | true =>
  have HG := Lib.hid (show good a = true ∧ (good b && fits a.words b) = true from ⟨ga, by rw [gb, gc]; rfl⟩)
  go_enter Try.func25, Try.ntmps25
  go_wp2_with fail
  rw [← hW]
  clear hW
  refine (HA.out _ ga _ hb).mono ?_
  rintro e w1 ⟨rfl, hb1⟩
  replace B0 := Lib.hid (B0.out.kept hb1)
  replace B1 := Lib.hid (B1.out.kept hb1)
  replace BR := Lib.hid (BR.out.kept hb1)
  replace HZ := Lib.hid (show w.heap.size + 3 ≤ w1.heap.size by have := HZ.out; have := hb1.size; omega)
  replace hb := hb.trans (hb1.mono hb.size)
  clear hb1 q0 q1 q2 q3 p0 p1 p2 p3
  have q0 := B0.out.cell 0
  have q1 := B0.out.cell 1
  have q2 := B0.out.cell 2
  have q3 := B0.out.cell 3
  simp only [List.getElem?_toArray, List.getElem?_cons_zero, List.getElem?_cons_succ] at q0 q1 q2 q3
  have p0 := B1.out.cell 0
  have p1 := B1.out.cell 1
  have p2 := B1.out.cell 2
  have p3 := B1.out.cell 3
  simp only [List.getElem?_toArray, List.getElem?_cons_zero, List.getElem?_cons_succ] at p0 p1 p2 p3
  go_wp2_with fail
  refine (HBi.out _ gb _ hb).mono ?_
  rintro e w2 ⟨rfl, hb1⟩
  replace B0 := Lib.hid (B0.out.kept hb1)
  replace B1 := Lib.hid (B1.out.kept hb1)
  replace BR := Lib.hid (BR.out.kept hb1)
  replace HZ := Lib.hid (show w.heap.size + 3 ≤ w2.heap.size by have := HZ.out; have := hb1.size; omega)
  replace hb := hb.trans (hb1.mono hb.size)
  clear hb1 q0 q1 q2 q3 p0 p1 p2 p3
  have q0 := B0.out.cell 0
  have q1 := B0.out.cell 1
  have q2 := B0.out.cell 2
  have q3 := B0.out.cell 3
  simp only [List.getElem?_toArray, List.getElem?_cons_zero, List.getElem?_cons_succ] at q0 q1 q2 q3
  have p0 := B1.out.cell 0
  have p1 := B1.out.cell 1
  have p2 := B1.out.cell 2
  have p3 := B1.out.cell 3
  simp only [List.getElem?_toArray, List.getElem?_cons_zero, List.getElem?_cons_succ] at p0 p1 p2 p3
  go_wp2_with fail
  refine (HCF.out _ gc _ hb).mono ?_
  rintro e W ⟨rfl, hb1⟩
  replace B0 := Lib.hid (B0.out.kept hb1)
  replace B1 := Lib.hid (B1.out.kept hb1)
  replace BR := Lib.hid (BR.out.kept hb1)
  replace HZ := Lib.hid (show w.heap.size + 3 ≤ W.heap.size by have := HZ.out; have := hb1.size; omega)
  replace hb := hb.trans (hb1.mono hb.size)
  clear hb1 q0 q1 q2 q3 p0 p1 p2 p3
  have q0 := B0.out.cell 0
  have q1 := B0.out.cell 1
  have q2 := B0.out.cell 2
  have q3 := B0.out.cell 3
  simp only [List.getElem?_toArray, List.getElem?_cons_zero, List.getElem?_cons_succ] at q0 q1 q2 q3
  have p0 := B1.out.cell 0
  have p1 := B1.out.cell 1
  have p2 := B1.out.cell 2
  have p3 := B1.out.cell 3
  simp only [List.getElem?_toArray, List.getElem?_cons_zero, List.getElem?_cons_succ] at p0 p1 p2 p3
  have hb0 := hb
  have HAP := Lib.hid (fun W' (hB : Below W.heap.size W W') => AmP.l9Apply _ _ a.words b W' (Bs.IsQ.below HQA.out (hb.trans (hB.mono hb.size))) (LAmendment.IsQ.below HIB0.out (hb.trans (hB.mono hb.size))) gb (by have := words_len (good_parts ga).2.1; omega) (fits_parts gc).1)
  clear ga gb gc
  have HK := Lib.hid (show ∀ w' : World, Below W.heap.size W w' → Below W.heap.size W w' ∧ w'.cell? ⟨w.heap.size, 0, none⟩ = some (.int .i64 a.kind) ∧ w'.cell? ⟨w.heap.size, 1, none⟩ = some (.int .i64 a.pos) ∧ w'.cell? ⟨w.heap.size, 2, none⟩ = some (.int .i64 a.count) ∧ w'.cell? ⟨w.heap.size, 3, none⟩ = some (.slice a3 n3 c3) ∧ w'.cell? ⟨w.heap.size + 1, 0, none⟩ = some (.int .i64 b.kind) ∧ w'.cell? ⟨w.heap.size + 1, 1, none⟩ = some (.int .i64 b.pos) ∧ w'.cell? ⟨w.heap.size + 1, 2, none⟩ = some (.int .i64 b.count) ∧ w'.cell? ⟨w.heap.size + 1, 3, none⟩ = some (.slice a4 n4 c4) from fun w' hB => ⟨hB, by have h := (B0.out.kept hB).cell 0; simpa using h, by have h := (B0.out.kept hB).cell 1; simpa using h, by have h := (B0.out.kept hB).cell 2; simpa using h, by have h := (B0.out.kept hB).cell 3; simpa using h, by have h := (B1.out.kept hB).cell 0; simpa using h, by have h := (B1.out.kept hB).cell 1; simpa using h, by have h := (B1.out.kept hB).cell 2; simpa using h, by have h := (B1.out.kept hB).cell 3; simpa using h⟩)
  clear q0 q1 q2 q3 p0 p1 p2 p3
  go_upto_region 3 with fail
  go_cut [6] (fun s6 wx => ∃ (g6 : Nat) (fa : Option Addr) (fn fc : Nat), s6 = .pointer (some ⟨g6, 0, none⟩) ∧ Hid (W.heap.size ≤ g6) ∧ Hid (Bx wx g6 38 #[.int .i64 a.kind, .int .i64 a.pos, .int .i64 a.count, .slice fa fn fc]) ∧ Hid (Bs.Own LString.rec 9 wx W.heap.size (.slice fa fn fc) (apply a.words b)) ∧ Hid ((Value.slice fa fn fc).ownBlock ≠ some g6) ∧ Below W.heap.size W wx)
  case first =>
    have hB : Below W.heap.size W W.drew := (Below.refl _ _).drew
    refine wp_region_held_drew (S := fun w' => Below W.heap.size W w' ∧ w'.cell? ⟨w.heap.size, 0, none⟩ = some (.int .i64 a.kind) ∧ w'.cell? ⟨w.heap.size, 1, none⟩ = some (.int .i64 a.pos) ∧ w'.cell? ⟨w.heap.size, 2, none⟩ = some (.int .i64 a.count) ∧ w'.cell? ⟨w.heap.size, 3, none⟩ = some (.slice a3 n3 c3) ∧ w'.cell? ⟨w.heap.size + 1, 0, none⟩ = some (.int .i64 b.kind) ∧ w'.cell? ⟨w.heap.size + 1, 1, none⟩ = some (.int .i64 b.pos) ∧ w'.cell? ⟨w.heap.size + 1, 2, none⟩ = some (.int .i64 b.count) ∧ w'.cell? ⟨w.heap.size + 1, 3, none⟩ = some (.slice a4 n4 c4)) (by kernel_rfl) (HK.out _ hB) (fun hHeld => ?_)
    generalize W.drew = x0 at *
    refine wpAnyH_take (i := 0) (v := ?v1) rfl (by kernel_rfl) (by kernel_rfl) (by kernel_rfl) (fun _ _ _ h => h) (Or.inl ⟨by rfl, ?hy1⟩) (by assumption) ?rest1
    case hy1 => (intro wq hSw; (try dsimp only at hSw); go_split_ands; go_simp; (try with_reducible rfl))
    case rest1 =>
    refine wpAnyH_take (i := 1) (v := ?v2) rfl (by kernel_rfl) (by kernel_rfl) (by kernel_rfl) (fun _ _ _ h => h) (Or.inl ⟨by rfl, ?hy2⟩) (by assumption) ?rest2
    case hy2 => (intro wq hSw; (try dsimp only at hSw); go_split_ands; go_simp; (try with_reducible rfl))
    case rest2 =>
    refine wpAnyH_take (i := 2) (v := ?v3) rfl (by kernel_rfl) (by kernel_rfl) (by kernel_rfl) (fun _ _ _ h => h) (Or.inl ⟨by rfl, ?hy3⟩) (by assumption) ?rest3
    case hy3 => (intro wq hSw; (try dsimp only at hSw); go_split_ands; go_simp; (try with_reducible rfl))
    case rest3 =>
    refine wpAnyH_take (i := 3) (v := ?v4) rfl (by kernel_rfl) (by kernel_rfl) (by kernel_rfl) (fun _ _ _ h => h) (Or.inl ⟨by rfl, ?hy4⟩) (by assumption) ?rest4
    case hy4 => (intro wq hSw; (try dsimp only at hSw); go_split_ands; go_simp; (try with_reducible rfl))
    case rest4 =>
    refine wpAnyH_take (i := 4) (v := ?v5) rfl (by kernel_rfl) (by kernel_rfl) (by kernel_rfl) (fun _ _ _ h => h) (Or.inl ⟨by rfl, ?hy5⟩) (by assumption) ?rest5
    case hy5 => (intro wq hSw; (try dsimp only at hSw); go_split_ands; go_simp; (try with_reducible rfl))
    case rest5 =>
    refine wpAnyH_take (i := 5) (v := ?v6) rfl (by kernel_rfl) (by kernel_rfl) (by kernel_rfl) (fun _ _ _ h => h) (Or.inl ⟨by rfl, ?hy6⟩) (by assumption) ?rest6
    case hy6 => (intro wq hSw; (try dsimp only at hSw); go_split_ands; go_simp; (try with_reducible rfl))
    case rest6 =>
    refine wpAnyH_take (i := 6) (v := ?v7) rfl (by kernel_rfl) (by kernel_rfl) (by kernel_rfl) (fun _ _ _ h => h) (Or.inl ⟨by rfl, ?hy7⟩) (by assumption) ?rest7
    case hy7 => (intro wq hSw; (try dsimp only at hSw); go_split_ands; go_simp; (try with_reducible rfl))
    case rest7 =>
    refine wpAnyH_take (i := 7) (v := ?v8) rfl (by kernel_rfl) (by kernel_rfl) (by kernel_rfl) (fun _ _ _ h => h) (Or.inl ⟨by rfl, ?hy8⟩) (by assumption) ?rest8
    case hy8 => (intro wq hSw; (try dsimp only at hSw); go_split_ands; go_simp; (try with_reducible rfl))
    case rest8 =>
    refine wpAnyH_take (i := 8) (v := ?v9) rfl (by kernel_rfl) (by kernel_rfl) (by kernel_rfl) (fun _ _ _ h => h) (Or.inl ⟨by rfl, ?hy9⟩) (by assumption) ?rest9
    case hy9 => (intro wq hSw; (try dsimp only at hSw); go_split_ands; go_simp; (try with_reducible rfl))
    case rest9 =>
    refine wpAnyH_ready (rs := [9, 11]) (by kernel_rfl) (by simp) ?_
    refine AllReadyH.cons rfl (fun K hK => ?step10) ?more10
    case step10 =>
      go_simp
      go_at_call 47
      refine (HAP.out _ hB).mono ?_
      rintro e x1 ⟨v1, rfl, ho, hbc⟩
      obtain ⟨fa, fn, fc, rfl⟩ := own_slice ho
      have hO1 := ho.low hB.size
      clear ho
      replace hB := hB.trans (hbc.mono hB.size)
      clear hbc
      go_wp2_with fail
      refine hK.out _ _ (HK.out _ hB) (fun hHeld => ?_)
      clear hK K
      refine wpAnyH_take (i := 10) (v := ?v11) rfl (by kernel_rfl) (by kernel_rfl) (by kernel_rfl) (fun _ _ _ h => h) (Or.inl ⟨by rfl, ?hy11⟩) (by assumption) ?rest11
      case hy11 => (intro wq hSw; (try dsimp only at hSw); go_split_ands; go_simp; (try with_reducible rfl))
      case rest11 =>
      refine wpAnyH_ready (rs := [11]) (by kernel_rfl) (by simp) ?_
      refine AllReadyH.cons rfl (fun K hK => ?step12) ?more12
      case step12 =>
        go_simp
        refine hK.out _ _ (HK.out _ (hB.alloc hB.size _)) (fun hHeld => ?_)
        clear hK K
        have hN6_1 : (Value.slice fa fn fc).ownBlock ≠ some x1.heap.size := fun e => by have h1 := (hO1.lt _ e).2; omega
        replace hO1 := hO1.alloc (Obj.cells #[.int .i64 0, .int .i64 0, .int .i64 0, .slice none 0 0] 38)
        have hX6 := Bx.new x1 38 #[.int .i64 0, .int .i64 0, .int .i64 0, .slice none 0 0]
        have hXA6 : W.heap.size ≤ x1.heap.size := hB.size
        replace hB := hB.alloc hB.size (Obj.cells #[.int .i64 0, .int .i64 0, .int .i64 0, .slice none 0 0] 38)
        generalize x1.alloc (Obj.cells #[.int .i64 0, .int .i64 0, .int .i64 0, .slice none 0 0] 38) = x2 at *
        generalize x1.heap.size = g6x2 at *
        refine wpAnyH_ready (rs := [12]) (by kernel_rfl) (by simp) ?_
        refine AllReadyH.cons rfl (fun K hK => ?step13) ?more13
        case step13 =>
          have sc0 := hX6.cell 0
          have sf0 := hX6.frozen 0
          have sc1 := hX6.cell 1
          have sf1 := hX6.frozen 1
          have sc2 := hX6.cell 2
          have sf2 := hX6.frozen 2
          have sc3 := hX6.cell 3
          have sf3 := hX6.frozen 3
          simp only [List.getElem?_toArray, List.getElem?_cons_zero, List.getElem?_cons_succ] at sc0 sc1 sc2 sc3
          have hBs := (Below.setCell (Below.setCell (Below.setCell (Below.setCell hB (p := ⟨g6x2, 0, none⟩) hXA6 (.int .i64 a.kind)) (p := ⟨g6x2, 1, none⟩) hXA6 (.int .i64 a.pos)) (p := ⟨g6x2, 2, none⟩) hXA6 (.int .i64 a.count)) (p := ⟨g6x2, 3, none⟩) hXA6 (.slice fa fn fc))
          have hXs := (Bx.set_ (Bx.set_ (Bx.set_ (Bx.set_ hX6 0 (.int .i64 a.kind)) 1 (.int .i64 a.pos)) 2 (.int .i64 a.count)) 3 (.slice fa fn fc))
          have hOs1 := (own_set (own_set (own_set (own_set hO1 (p := ⟨g6x2, 0, none⟩) (fun q hq e => hN6_1 (by rw [hq]; exact congrArg some e)) (.int .i64 a.kind)) (p := ⟨g6x2, 1, none⟩) (fun q hq e => hN6_1 (by rw [hq]; exact congrArg some e)) (.int .i64 a.pos)) (p := ⟨g6x2, 2, none⟩) (fun q hq e => hN6_1 (by rw [hq]; exact congrArg some e)) (.int .i64 a.count)) (p := ⟨g6x2, 3, none⟩) (fun q hq e => hN6_1 (by rw [hq]; exact congrArg some e)) (.slice fa fn fc))
          go_simp
          refine hK.out _ _ (HK.out _ hBs) (fun hHeld => ?_)
          clear hK K
          clear hB hX6 hO1 sc0 sf0 sc1 sf1 sc2 sf2 sc3 sf3
          generalize ((((x2.setCell ⟨g6x2, 0, none⟩ (.int .i64 a.kind)).setCell ⟨g6x2, 1, none⟩ (.int .i64 a.pos)).setCell ⟨g6x2, 2, none⟩ (.int .i64 a.count)).setCell ⟨g6x2, 3, none⟩ (.slice fa fn fc)) = x3 at *
          have hB := hBs
          have hX6 := hXs
          have hO1 := hOs1
          clear hBs hXs hOs1
          simp at hX6
          refine wpAnyH_done (by kernel_rfl) ?_ _
          go_wp2_with fail
          all_goals
            go_meet
            exact ⟨g6x2, _, _, _, rfl, Lib.hid hXA6, Lib.hid hX6, Lib.hid hO1, Lib.hid hN6_1, hB⟩
        case more13 => exact AllReadyH.nil
      case more12 => exact AllReadyH.nil
    case more10 =>
      refine AllReadyH.cons rfl (fun K hK => ?step14) ?more14
      case step14 =>
        go_simp
        refine hK.out _ _ (HK.out _ (hB.alloc hB.size _)) (fun hHeld => ?_)
        clear hK K
        have hX6 := Bx.new x0 38 #[.int .i64 0, .int .i64 0, .int .i64 0, .slice none 0 0]
        have hXA6 : W.heap.size ≤ x0.heap.size := hB.size
        replace hB := hB.alloc hB.size (Obj.cells #[.int .i64 0, .int .i64 0, .int .i64 0, .slice none 0 0] 38)
        generalize x0.alloc (Obj.cells #[.int .i64 0, .int .i64 0, .int .i64 0, .slice none 0 0] 38) = x4 at *
        generalize x0.heap.size = g6x4 at *
        refine wpAnyH_ready (rs := [9]) (by kernel_rfl) (by simp) ?_
        refine AllReadyH.cons rfl (fun K hK => ?step15) ?more15
        case step15 =>
          go_simp
          go_at_call 47
          refine (HAP.out _ hB).mono ?_
          rintro e x5 ⟨v1, rfl, ho, hbc⟩
          obtain ⟨fa, fn, fc, rfl⟩ := own_slice ho
          have hN6_1 : (Value.slice fa fn fc).ownBlock ≠ some g6x4 := fun e => by have h1 := hX6.lt; have h2 := (ho.lt _ e).1; omega
          replace hX6 := hX6.kept hbc
          have hO1 := ho.low hB.size
          clear ho
          replace hB := hB.trans (hbc.mono hB.size)
          clear hbc
          go_wp2_with fail
          refine hK.out _ _ (HK.out _ hB) (fun hHeld => ?_)
          clear hK K
          refine wpAnyH_take (i := 10) (v := ?v16) rfl (by kernel_rfl) (by kernel_rfl) (by kernel_rfl) (fun _ _ _ h => h) (Or.inl ⟨by rfl, ?hy16⟩) (by assumption) ?rest16
          case hy16 => (intro wq hSw; (try dsimp only at hSw); go_split_ands; go_simp; (try with_reducible rfl))
          case rest16 =>
          refine wpAnyH_ready (rs := [12]) (by kernel_rfl) (by simp) ?_
          refine AllReadyH.cons rfl (fun K hK => ?step17) ?more17
          case step17 =>
            have sc0 := hX6.cell 0
            have sf0 := hX6.frozen 0
            have sc1 := hX6.cell 1
            have sf1 := hX6.frozen 1
            have sc2 := hX6.cell 2
            have sf2 := hX6.frozen 2
            have sc3 := hX6.cell 3
            have sf3 := hX6.frozen 3
            simp only [List.getElem?_toArray, List.getElem?_cons_zero, List.getElem?_cons_succ] at sc0 sc1 sc2 sc3
            have hBs := (Below.setCell (Below.setCell (Below.setCell (Below.setCell hB (p := ⟨g6x4, 0, none⟩) hXA6 (.int .i64 a.kind)) (p := ⟨g6x4, 1, none⟩) hXA6 (.int .i64 a.pos)) (p := ⟨g6x4, 2, none⟩) hXA6 (.int .i64 a.count)) (p := ⟨g6x4, 3, none⟩) hXA6 (.slice fa fn fc))
            have hXs := (Bx.set_ (Bx.set_ (Bx.set_ (Bx.set_ hX6 0 (.int .i64 a.kind)) 1 (.int .i64 a.pos)) 2 (.int .i64 a.count)) 3 (.slice fa fn fc))
            have hOs1 := (own_set (own_set (own_set (own_set hO1 (p := ⟨g6x4, 0, none⟩) (fun q hq e => hN6_1 (by rw [hq]; exact congrArg some e)) (.int .i64 a.kind)) (p := ⟨g6x4, 1, none⟩) (fun q hq e => hN6_1 (by rw [hq]; exact congrArg some e)) (.int .i64 a.pos)) (p := ⟨g6x4, 2, none⟩) (fun q hq e => hN6_1 (by rw [hq]; exact congrArg some e)) (.int .i64 a.count)) (p := ⟨g6x4, 3, none⟩) (fun q hq e => hN6_1 (by rw [hq]; exact congrArg some e)) (.slice fa fn fc))
            go_simp
            refine hK.out _ _ (HK.out _ hBs) (fun hHeld => ?_)
            clear hK K
            clear hB hX6 hO1 sc0 sf0 sc1 sf1 sc2 sf2 sc3 sf3
            generalize ((((x5.setCell ⟨g6x4, 0, none⟩ (.int .i64 a.kind)).setCell ⟨g6x4, 1, none⟩ (.int .i64 a.pos)).setCell ⟨g6x4, 2, none⟩ (.int .i64 a.count)).setCell ⟨g6x4, 3, none⟩ (.slice fa fn fc)) = x6 at *
            have hB := hBs
            have hX6 := hXs
            have hO1 := hOs1
            clear hBs hXs hOs1
            simp at hX6
            refine wpAnyH_done (by kernel_rfl) ?_ _
            go_wp2_with fail
            all_goals
              go_meet
              exact ⟨g6x4, _, _, _, rfl, Lib.hid hXA6, Lib.hid hX6, Lib.hid hO1, Lib.hid hN6_1, hB⟩
          case more17 => exact AllReadyH.nil
        case more15 => exact AllReadyH.nil
      case more14 => exact AllReadyH.nil
  case rest =>
  obtain ⟨g6, fa, fn, fc, rfl, HG6, BO, HO0, HN6, hbc⟩ := hcut
  have HNR := Lib.hid (show ∀ k, (Value.slice fa fn fc).ownBlock = some k → k ≠ w.heap.size + 2 from fun k hk => by have h1 := (HO0.out.lt k hk).1; have h2 := HZ.out; omega)
  have HO3 := Lib.hid (HO0.out.low (show w.heap.size ≤ _ from by have := HZ.out; omega))
  replace BR := Lib.hid (BR.out.kept hbc)
  replace hb := hb.trans (hbc.mono hb.size)
  clear hbc HO0 hb0
  have HIS := Lib.hid (show LAmendment.Is wc (.agg #[.int .i64 a.kind, .int .i64 a.pos, .int .i64 a.count, .slice fa fn fc]) (secM a b) from ⟨_, rfl, Bs.Own.is HO3.out⟩)
  cases gs : good (secM a b) with
  | false =>
    have HAns := Lib.hid (no4 (z0 := a) (z1 := b) gs)
    have HC := Lib.hid (good_as _ (secM a b) false gs wc HIS.out (fine_sec HFA.out HFB.out))
    clear gs
    have x0 := BO.out.cell 0
    have x1 := BO.out.cell 1
    have x2 := BO.out.cell 2
    have x3 := BO.out.cell 3
    simp only [List.getElem?_toArray, List.getElem?_cons_zero, List.getElem?_cons_succ] at x0 x1 x2 x3
    go_wp2_with fail
    refine HC.out.mono ?_
    rintro e w7 ⟨rfl, hb1⟩
    clear x0 x1 x2 x3
    replace BR := Lib.hid (BR.out.kept hb1)
    replace hb := hb.trans (hb1.mono hb.size)
    clear hb1
    have BR5 := BR.out
    have r0 := BR5.cell 0
    have r1 := BR5.cell 1
    have r2 := BR5.cell 2
    have r3 := BR5.cell 3
    simp only [List.getElem?_toArray, List.getElem?_cons_zero, List.getElem?_cons_succ] at r0 r1 r2 r3
    have z0 := BR5.frozen 0
    have z1 := BR5.frozen 1
    have z2 := BR5.frozen 2
    have z3 := BR5.frozen 3
    have hRF := (Bx.set_ (Bx.set_ (Bx.set_ (Bx.set_ BR5 0 (.int .i64 0)) 1 (.int .i64 0)) 2 (.int .i64 0)) 3 (.slice none 0 0))
    have c0 := hRF.cell 0
    have c1 := hRF.cell 1
    have c2 := hRF.cell 2
    have c3 := hRF.cell 3
    simp at c0 c1 c2 c3
    clear hRF
    go_wp2_with fail
    refine bodyPost_ret (v := .tuple #[.agg #[.int .i64 0, .int .i64 0, .int .i64 0, .slice none 0 0], .bool false]) (by simp [results, Try.results25, go_sem, c0, c1, c2, c3]) rfl ?_
    exact ⟨_, zeroM, false, rfl, HAns.out, LAmendment.Own.zero, (Below.setCell (Below.setCell (Below.setCell (Below.setCell hb (p := ⟨w.heap.size + 2, 0, none⟩) (by show w.heap.size ≤ w.heap.size + 2; omega) (.int .i64 0)) (p := ⟨w.heap.size + 2, 1, none⟩) (by show w.heap.size ≤ w.heap.size + 2; omega) (.int .i64 0)) (p := ⟨w.heap.size + 2, 2, none⟩) (by show w.heap.size ≤ w.heap.size + 2; omega) (.int .i64 0)) (p := ⟨w.heap.size + 2, 3, none⟩) (by show w.heap.size ≤ w.heap.size + 2; omega) (.slice none 0 0))⟩
  | true =>
    have HAns := Lib.hid (yes4 HG.out.1 HG.out.2 gs)
    have HC := Lib.hid (good_as _ (secM a b) true gs wc HIS.out (fine_sec HFA.out HFB.out))
    clear gs
    have x0 := BO.out.cell 0
    have x1 := BO.out.cell 1
    have x2 := BO.out.cell 2
    have x3 := BO.out.cell 3
    simp only [List.getElem?_toArray, List.getElem?_cons_zero, List.getElem?_cons_succ] at x0 x1 x2 x3
    go_wp2_with fail
    refine HC.out.mono ?_
    rintro e w7 ⟨rfl, hb1⟩
    clear x0 x1 x2 x3
    replace BO := Lib.hid (BO.out.kept hb1)
    replace HO3 := Lib.hid (HO3.out.kept hb1)
    replace BR := Lib.hid (BR.out.kept hb1)
    replace hb := hb.trans (hb1.mono hb.size)
    clear hb1
    have hNR := HNR.out
    have ho3 := HO3.out
    have BR5 := BR.out
    have y0 := BO.out.cell 0
    have y1 := BO.out.cell 1
    have y2 := BO.out.cell 2
    have y3 := BO.out.cell 3
    simp only [List.getElem?_toArray, List.getElem?_cons_zero, List.getElem?_cons_succ] at y0 y1 y2 y3
    have r0 := BR5.cell 0
    have r1 := BR5.cell 1
    have r2 := BR5.cell 2
    have r3 := BR5.cell 3
    simp only [List.getElem?_toArray, List.getElem?_cons_zero, List.getElem?_cons_succ] at r0 r1 r2 r3
    have z0 := BR5.frozen 0
    have z1 := BR5.frozen 1
    have z2 := BR5.frozen 2
    have z3 := BR5.frozen 3
    have hRF := (Bx.set_ (Bx.set_ (Bx.set_ (Bx.set_ BR5 0 (.int .i64 a.kind)) 1 (.int .i64 a.pos)) 2 (.int .i64 a.count)) 3 (.slice fa fn fc))
    have c0 := hRF.cell 0
    have c1 := hRF.cell 1
    have c2 := hRF.cell 2
    have c3 := hRF.cell 3
    simp at c0 c1 c2 c3
    clear hRF
    go_wp2_with fail
    refine bodyPost_ret (v := .tuple #[.agg #[.int .i64 a.kind, .int .i64 a.pos, .int .i64 a.count, .slice fa fn fc], .bool true]) (by simp [results, Try.results25, go_sem, c0, c1, c2, c3]) rfl ?_
    exact ⟨_, _, true, rfl, HAns.out, ⟨_, rfl, id (own_set (own_set (own_set (own_set ho3 (p := ⟨w.heap.size + 2, 0, none⟩) (fun k hk => by have h2 := (ho3.lt k hk).1; exact hNR k hk) (.int .i64 a.kind)) (p := ⟨w.heap.size + 2, 1, none⟩) (fun k hk => by have h2 := (ho3.lt k hk).1; exact hNR k hk) (.int .i64 a.pos)) (p := ⟨w.heap.size + 2, 2, none⟩) (fun k hk => by have h2 := (ho3.lt k hk).1; exact hNR k hk) (.int .i64 a.count)) (p := ⟨w.heap.size + 2, 3, none⟩) (fun k hk => by have h2 := (ho3.lt k hk).1; exact hNR k hk) (.slice fa fn fc))⟩, (Below.setCell (Below.setCell (Below.setCell (Below.setCell hb (p := ⟨w.heap.size + 2, 0, none⟩) (by show w.heap.size ≤ w.heap.size + 2; omega) (.int .i64 a.kind)) (p := ⟨w.heap.size + 2, 1, none⟩) (by show w.heap.size ≤ w.heap.size + 2; omega) (.int .i64 a.pos)) (p := ⟨w.heap.size + 2, 2, none⟩) (by show w.heap.size ≤ w.heap.size + 2; omega) (.int .i64 a.count)) (p := ⟨w.heap.size + 2, 3, none⟩) (by show w.heap.size ≤ w.heap.size + 2; omega) (.slice fa fn fc))⟩
set_option maxRecDepth 100000 in
set_option maxHeartbeats 1600000 in
theorem impl (v0 : Value) (z0 : M) (v1 : Value) (z1 : M) (w : World) (h0 : LAmendment.IsQ w v0 z0) (f0 : LAmendment.Fine z0) (l0 : z0.words.length ≤ 1048576) (h1 : LAmendment.IsQ w v1 z1) (f1 : LAmendment.Fine z1) (l1 : z1.words.length ≤ 1048576) :
    Calls Try.prog 26 #[v0, v1] w (Post z0 z1 w) := by
  obtain ⟨a, ha⟩ : ∃ a, a = z0 := ⟨_, rfl⟩
  obtain ⟨b, hbb⟩ : ∃ b, b = z1 := ⟨_, rfl⟩
  subst ha hbb
  obtain ⟨a3, n3, c3, rfl, HN3, hb3, hm3, HIA⟩ := AmG.open_is (LAmendment.IsQ.is h0)
  obtain ⟨a4, n4, c4, rfl, HN4, hb4, hm4, HIB⟩ := AmG.open_is (LAmendment.IsQ.is h1)
  have HIA0 := Lib.hid h0
  have HIB0 := Lib.hid h1
  have HFA := Lib.hid f0
  have HFB := Lib.hid f1
  have HQA := Lib.hid (is_words h0)
  clear h0 h1 f0 f1
  obtain ⟨V, hW⟩ : ∃ V : World, V = ((w.alloc (Obj.cells #[.int .i64 a.kind, .int .i64 a.pos, .int .i64 a.count, .slice a3 n3 c3] 38)).alloc (Obj.cells #[.int .i64 b.kind, .int .i64 b.pos, .int .i64 b.count, .slice a4 n4 c4] 38)).alloc (Obj.cells #[.int .i64 0, .int .i64 0, .int .i64 0, .slice none 0 0] 38) := ⟨_, rfl⟩
  have hb : Below w.heap.size w V := by rw [hW]; exact (((Below.refl _ _).alloc (Nat.le_refl _) _).alloc (by simp) _).alloc (by simp; omega) _
  have HZ := Lib.hid (show w.heap.size + 3 ≤ V.heap.size by rw [hW]; simp)
  have B0 := Lib.hid (show Bx V w.heap.size 38 #[.int .i64 a.kind, .int .i64 a.pos, .int .i64 a.count, .slice a3 n3 c3] by rw [hW]; exact ((Bx.new w 38 #[.int .i64 a.kind, .int .i64 a.pos, .int .i64 a.count, .slice a3 n3 c3]).alloc _).alloc _)
  have B1 := Lib.hid (show Bx V (w.heap.size + 1) 38 #[.int .i64 b.kind, .int .i64 b.pos, .int .i64 b.count, .slice a4 n4 c4] by rw [hW]; have := (Bx.new (w.alloc (Obj.cells #[.int .i64 a.kind, .int .i64 a.pos, .int .i64 a.count, .slice a3 n3 c3] 38)) 38 #[.int .i64 b.kind, .int .i64 b.pos, .int .i64 b.count, .slice a4 n4 c4]).alloc (Obj.cells #[.int .i64 0, .int .i64 0, .int .i64 0, .slice none 0 0] 38); simpa using this)
  have BR := Lib.hid (show Bx V (w.heap.size + 2) 38 #[.int .i64 0, .int .i64 0, .int .i64 0, .slice none 0 0] by rw [hW]; have := Bx.new ((w.alloc (Obj.cells #[.int .i64 a.kind, .int .i64 a.pos, .int .i64 a.count, .slice a3 n3 c3] 38)).alloc (Obj.cells #[.int .i64 b.kind, .int .i64 b.pos, .int .i64 b.count, .slice a4 n4 c4] 38)) 38 #[.int .i64 0, .int .i64 0, .int .i64 0, .slice none 0 0]; simpa using this)
  have HA := Lib.hid (fun bv (hv : good a = bv) W' (hb' : Below w.heap.size w W') => valid_as _ a bv hv W' (LAmendment.Is.below (LAmendment.IsQ.is HIA0.out) hb') HFA.out)
  have q0 := B0.out.cell 0
  have q1 := B0.out.cell 1
  have q2 := B0.out.cell 2
  have q3 := B0.out.cell 3
  simp only [List.getElem?_toArray, List.getElem?_cons_zero, List.getElem?_cons_succ] at q0 q1 q2 q3
  have p0 := B1.out.cell 0
  have p1 := B1.out.cell 1
  have p2 := B1.out.cell 2
  have p3 := B1.out.cell 3
  simp only [List.getElem?_toArray, List.getElem?_cons_zero, List.getElem?_cons_succ] at p0 p1 p2 p3
  cases ga : good a with
  | false =>
    have HAns := Lib.hid (no1 (z1 := b) ga)
    go_enter Try.func26, Try.ntmps26
    go_wp2_with fail
    rw [← hW]
    clear hW
    refine (HA.out _ ga _ hb).mono ?_
    rintro e w1 ⟨rfl, hb1⟩
    replace B0 := Lib.hid (B0.out.kept hb1)
    replace B1 := Lib.hid (B1.out.kept hb1)
    replace BR := Lib.hid (BR.out.kept hb1)
    replace HZ := Lib.hid (show w.heap.size + 3 ≤ w1.heap.size by have := HZ.out; have := hb1.size; omega)
    replace hb := hb.trans (hb1.mono hb.size)
    clear hb1 q0 q1 q2 q3 p0 p1 p2 p3
    have q0 := B0.out.cell 0
    have q1 := B0.out.cell 1
    have q2 := B0.out.cell 2
    have q3 := B0.out.cell 3
    simp only [List.getElem?_toArray, List.getElem?_cons_zero, List.getElem?_cons_succ] at q0 q1 q2 q3
    have p0 := B1.out.cell 0
    have p1 := B1.out.cell 1
    have p2 := B1.out.cell 2
    have p3 := B1.out.cell 3
    simp only [List.getElem?_toArray, List.getElem?_cons_zero, List.getElem?_cons_succ] at p0 p1 p2 p3
    clear q0 q1 q2 q3 p0 p1 p2 p3
    clear ga
    have BR5 := BR.out
    have r0 := BR5.cell 0
    have r1 := BR5.cell 1
    have r2 := BR5.cell 2
    have r3 := BR5.cell 3
    simp only [List.getElem?_toArray, List.getElem?_cons_zero, List.getElem?_cons_succ] at r0 r1 r2 r3
    have z0 := BR5.frozen 0
    have z1 := BR5.frozen 1
    have z2 := BR5.frozen 2
    have z3 := BR5.frozen 3
    have hRF := (Bx.set_ (Bx.set_ (Bx.set_ (Bx.set_ BR5 0 (.int .i64 0)) 1 (.int .i64 0)) 2 (.int .i64 0)) 3 (.slice none 0 0))
    have c0 := hRF.cell 0
    have c1 := hRF.cell 1
    have c2 := hRF.cell 2
    have c3 := hRF.cell 3
    simp at c0 c1 c2 c3
    clear hRF
    go_wp2_with fail
    refine bodyPost_ret (v := .tuple #[.agg #[.int .i64 0, .int .i64 0, .int .i64 0, .slice none 0 0], .bool false]) (by simp [results, Try.results26, go_sem, c0, c1, c2, c3]) rfl ?_
    exact ⟨_, zeroM, false, rfl, HAns.out, LAmendment.Own.zero, (Below.setCell (Below.setCell (Below.setCell (Below.setCell hb (p := ⟨w.heap.size + 2, 0, none⟩) (by show w.heap.size ≤ w.heap.size + 2; omega) (.int .i64 0)) (p := ⟨w.heap.size + 2, 1, none⟩) (by show w.heap.size ≤ w.heap.size + 2; omega) (.int .i64 0)) (p := ⟨w.heap.size + 2, 2, none⟩) (by show w.heap.size ≤ w.heap.size + 2; omega) (.int .i64 0)) (p := ⟨w.heap.size + 2, 3, none⟩) (by show w.heap.size ≤ w.heap.size + 2; omega) (.slice none 0 0))⟩
  | true =>
  have HTX := Lib.hid (good_text ga)
  go_enter Try.func26, Try.ntmps26
  go_wp2_with fail
  rw [← hW]
  clear hW
  refine (HA.out _ ga _ hb).mono ?_
  rintro e w1 ⟨rfl, hb1⟩
  replace B0 := Lib.hid (B0.out.kept hb1)
  replace B1 := Lib.hid (B1.out.kept hb1)
  replace BR := Lib.hid (BR.out.kept hb1)
  replace HZ := Lib.hid (show w.heap.size + 3 ≤ w1.heap.size by have := HZ.out; have := hb1.size; omega)
  replace hb := hb.trans (hb1.mono hb.size)
  clear hb1 q0 q1 q2 q3 p0 p1 p2 p3
  have q0 := B0.out.cell 0
  have q1 := B0.out.cell 1
  have q2 := B0.out.cell 2
  have q3 := B0.out.cell 3
  simp only [List.getElem?_toArray, List.getElem?_cons_zero, List.getElem?_cons_succ] at q0 q1 q2 q3
  have p0 := B1.out.cell 0
  have p1 := B1.out.cell 1
  have p2 := B1.out.cell 2
  have p3 := B1.out.cell 3
  simp only [List.getElem?_toArray, List.getElem?_cons_zero, List.getElem?_cons_succ] at p0 p1 p2 p3
  have HAP := Lib.hid (ApplyAmendmentC.implQ _ _ a.words b w1 (Bs.IsQ.below HQA.out hb) (LAmendment.IsQ.below HIB0.out hb) HFA.out HFB.out l0)
  go_wp2_with fail
  refine HAP.out.mono ?_
  rintro e w2 ⟨v6, r0, r1, rfl, hans, ho3, hb1⟩
  have hans : (r0, r1) = if (textB a.words && (good b && fits a.words b)) = true then (apply a.words b, true) else ([], false) := hans
  rw [HTX.out, Bool.true_and] at hans
  cases gc : (good b && fits a.words b) with
  | false =>
    have HAns := Lib.hid (no23 gc)
    rw [gc, if_neg (by decide)] at hans
    obtain ⟨rfl, rfl⟩ := Prod.mk.inj hans
    clear gc ga hans
    replace B0 := Lib.hid (B0.out.kept hb1)
    replace B1 := Lib.hid (B1.out.kept hb1)
    replace BR := Lib.hid (BR.out.kept hb1)
    replace HZ := Lib.hid (show w.heap.size + 3 ≤ w2.heap.size by have := HZ.out; have := hb1.size; omega)
    replace hb := hb.trans (hb1.mono hb.size)
    clear hb1 q0 q1 q2 q3 p0 p1 p2 p3
    have q0 := B0.out.cell 0
    have q1 := B0.out.cell 1
    have q2 := B0.out.cell 2
    have q3 := B0.out.cell 3
    simp only [List.getElem?_toArray, List.getElem?_cons_zero, List.getElem?_cons_succ] at q0 q1 q2 q3
    have p0 := B1.out.cell 0
    have p1 := B1.out.cell 1
    have p2 := B1.out.cell 2
    have p3 := B1.out.cell 3
    simp only [List.getElem?_toArray, List.getElem?_cons_zero, List.getElem?_cons_succ] at p0 p1 p2 p3
    clear q0 q1 q2 q3 p0 p1 p2 p3
    have BR5 := BR.out
    have r0 := BR5.cell 0
    have r1 := BR5.cell 1
    have r2 := BR5.cell 2
    have r3 := BR5.cell 3
    simp only [List.getElem?_toArray, List.getElem?_cons_zero, List.getElem?_cons_succ] at r0 r1 r2 r3
    have z0 := BR5.frozen 0
    have z1 := BR5.frozen 1
    have z2 := BR5.frozen 2
    have z3 := BR5.frozen 3
    have hRF := (Bx.set_ (Bx.set_ (Bx.set_ (Bx.set_ BR5 0 (.int .i64 0)) 1 (.int .i64 0)) 2 (.int .i64 0)) 3 (.slice none 0 0))
    have c0 := hRF.cell 0
    have c1 := hRF.cell 1
    have c2 := hRF.cell 2
    have c3 := hRF.cell 3
    simp at c0 c1 c2 c3
    clear hRF
    go_wp2_with fail
    refine bodyPost_ret (v := .tuple #[.agg #[.int .i64 0, .int .i64 0, .int .i64 0, .slice none 0 0], .bool false]) (by simp [results, Try.results26, go_sem, c0, c1, c2, c3]) rfl ?_
    exact ⟨_, zeroM, false, rfl, HAns.out, LAmendment.Own.zero, (Below.setCell (Below.setCell (Below.setCell (Below.setCell hb (p := ⟨w.heap.size + 2, 0, none⟩) (by show w.heap.size ≤ w.heap.size + 2; omega) (.int .i64 0)) (p := ⟨w.heap.size + 2, 1, none⟩) (by show w.heap.size ≤ w.heap.size + 2; omega) (.int .i64 0)) (p := ⟨w.heap.size + 2, 2, none⟩) (by show w.heap.size ≤ w.heap.size + 2; omega) (.int .i64 0)) (p := ⟨w.heap.size + 2, 3, none⟩) (by show w.heap.size ≤ w.heap.size + 2; omega) (.slice none 0 0))⟩
  | true =>
    have HG := Lib.hid (And.intro ga gc)
    rw [gc, if_pos rfl] at hans
    obtain ⟨rfl, rfl⟩ := Prod.mk.inj hans
    clear gc ga hans
    obtain ⟨fa, fn, fc, rfl⟩ := own_slice ho3
    have HNR := Lib.hid (show ∀ k, (Value.slice fa fn fc).ownBlock = some k → k ≠ w.heap.size + 2 from fun k hk => by have h1 := (ho3.lt k hk).1; have h2 := HZ.out; omega)
    have HN0 := Lib.hid (show ∀ k, (Value.slice fa fn fc).ownBlock = some k → k ≠ w.heap.size from fun k hk => by have h1 := (ho3.lt k hk).1; have h2 := HZ.out; omega)
    replace ho3 := ho3.low (show w.heap.size ≤ _ from by have := HZ.out; omega)
    replace B0 := Lib.hid (B0.out.kept hb1)
    replace B1 := Lib.hid (B1.out.kept hb1)
    replace BR := Lib.hid (BR.out.kept hb1)
    replace HZ := Lib.hid (show w.heap.size + 3 ≤ w2.heap.size by have := HZ.out; have := hb1.size; omega)
    replace hb := hb.trans (hb1.mono hb.size)
    clear hb1 q0 q1 q2 q3 p0 p1 p2 p3
    have q0 := B0.out.cell 0
    have q1 := B0.out.cell 1
    have q2 := B0.out.cell 2
    have q3 := B0.out.cell 3
    simp only [List.getElem?_toArray, List.getElem?_cons_zero, List.getElem?_cons_succ] at q0 q1 q2 q3
    have p0 := B1.out.cell 0
    have p1 := B1.out.cell 1
    have p2 := B1.out.cell 2
    have p3 := B1.out.cell 3
    simp only [List.getElem?_toArray, List.getElem?_cons_zero, List.getElem?_cons_succ] at p0 p1 p2 p3
    have y3 := B0.out.frozen 3
    obtain ⟨W9, hW9⟩ : ∃ W9 : World, W9 = w2.setCell ⟨w.heap.size, 3, none⟩ (.slice fa fn fc) := ⟨_, rfl⟩
    have BO := Lib.hid (show Bx W9 w.heap.size 38 #[.int .i64 a.kind, .int .i64 a.pos, .int .i64 a.count, .slice fa fn fc] by rw [hW9]; have := Bx.set_ B0.out 3 (.slice fa fn fc); simpa using this)
    have BR9 := Lib.hid (show Bx W9 (w.heap.size + 2) 38 #[.int .i64 0, .int .i64 0, .int .i64 0, .slice none 0 0] by rw [hW9]; exact Bx.far (p := ⟨w.heap.size, 3, none⟩) BR.out (show w.heap.size + 2 ≠ w.heap.size by omega) _)
    have HO3 := Lib.hid (show Bs.Own LString.rec 9 W9 w.heap.size (.slice fa fn fc) (apply a.words b) by rw [hW9]; exact own_set ho3 (p := ⟨w.heap.size, 3, none⟩) HN0.out _)
    have hb9 : Below w.heap.size w W9 := by rw [hW9]; exact Below.setCell hb (p := ⟨w.heap.size, 3, none⟩) (Nat.le_refl _) _
    go_upto_region 7 with fail
    rw [← hW9]
    clear hW9 q0 q1 q2 q3 p0 p1 p2 p3 y3 hb BR B0 B1 ho3
    have hb := hb9
    have BR := BR9
    clear hb9 BR9
    have HIS := Lib.hid (show LAmendment.Is W9 (.agg #[.int .i64 a.kind, .int .i64 a.pos, .int .i64 a.count, .slice fa fn fc]) (secM a b) from ⟨_, rfl, Bs.Own.is HO3.out⟩)
    cases gs : good (secM a b) with
    | false =>
      have HAns := Lib.hid (no4 (z0 := a) (z1 := b) gs)
      have HC := Lib.hid (valid_as _ (secM a b) false gs W9 HIS.out (fine_sec HFA.out HFB.out))
      clear gs
      have x0 := BO.out.cell 0
      have x1 := BO.out.cell 1
      have x2 := BO.out.cell 2
      have x3 := BO.out.cell 3
      simp only [List.getElem?_toArray, List.getElem?_cons_zero, List.getElem?_cons_succ] at x0 x1 x2 x3
      go_wp2_with fail
      refine HC.out.mono ?_
      rintro e w7 ⟨rfl, hb1⟩
      clear x0 x1 x2 x3
      replace BR := Lib.hid (BR.out.kept hb1)
      replace hb := hb.trans (hb1.mono hb.size)
      clear hb1
      have BR5 := BR.out
      have r0 := BR5.cell 0
      have r1 := BR5.cell 1
      have r2 := BR5.cell 2
      have r3 := BR5.cell 3
      simp only [List.getElem?_toArray, List.getElem?_cons_zero, List.getElem?_cons_succ] at r0 r1 r2 r3
      have z0 := BR5.frozen 0
      have z1 := BR5.frozen 1
      have z2 := BR5.frozen 2
      have z3 := BR5.frozen 3
      have hRF := (Bx.set_ (Bx.set_ (Bx.set_ (Bx.set_ BR5 0 (.int .i64 0)) 1 (.int .i64 0)) 2 (.int .i64 0)) 3 (.slice none 0 0))
      have c0 := hRF.cell 0
      have c1 := hRF.cell 1
      have c2 := hRF.cell 2
      have c3 := hRF.cell 3
      simp at c0 c1 c2 c3
      clear hRF
      go_wp2_with fail
      refine bodyPost_ret (v := .tuple #[.agg #[.int .i64 0, .int .i64 0, .int .i64 0, .slice none 0 0], .bool false]) (by simp [results, Try.results26, go_sem, c0, c1, c2, c3]) rfl ?_
      exact ⟨_, zeroM, false, rfl, HAns.out, LAmendment.Own.zero, (Below.setCell (Below.setCell (Below.setCell (Below.setCell hb (p := ⟨w.heap.size + 2, 0, none⟩) (by show w.heap.size ≤ w.heap.size + 2; omega) (.int .i64 0)) (p := ⟨w.heap.size + 2, 1, none⟩) (by show w.heap.size ≤ w.heap.size + 2; omega) (.int .i64 0)) (p := ⟨w.heap.size + 2, 2, none⟩) (by show w.heap.size ≤ w.heap.size + 2; omega) (.int .i64 0)) (p := ⟨w.heap.size + 2, 3, none⟩) (by show w.heap.size ≤ w.heap.size + 2; omega) (.slice none 0 0))⟩
    | true =>
      have HAns := Lib.hid (yes4 HG.out.1 HG.out.2 gs)
      have HC := Lib.hid (valid_as _ (secM a b) true gs W9 HIS.out (fine_sec HFA.out HFB.out))
      clear gs
      have x0 := BO.out.cell 0
      have x1 := BO.out.cell 1
      have x2 := BO.out.cell 2
      have x3 := BO.out.cell 3
      simp only [List.getElem?_toArray, List.getElem?_cons_zero, List.getElem?_cons_succ] at x0 x1 x2 x3
      go_wp2_with fail
      refine HC.out.mono ?_
      rintro e w7 ⟨rfl, hb1⟩
      clear x0 x1 x2 x3
      replace BO := Lib.hid (BO.out.kept hb1)
      replace HO3 := Lib.hid (HO3.out.kept hb1)
      replace BR := Lib.hid (BR.out.kept hb1)
      replace hb := hb.trans (hb1.mono hb.size)
      clear hb1
      have hNR := HNR.out
      have ho3 := HO3.out
      have BR5 := BR.out
      have y0 := BO.out.cell 0
      have y1 := BO.out.cell 1
      have y2 := BO.out.cell 2
      have y3 := BO.out.cell 3
      simp only [List.getElem?_toArray, List.getElem?_cons_zero, List.getElem?_cons_succ] at y0 y1 y2 y3
      have r0 := BR5.cell 0
      have r1 := BR5.cell 1
      have r2 := BR5.cell 2
      have r3 := BR5.cell 3
      simp only [List.getElem?_toArray, List.getElem?_cons_zero, List.getElem?_cons_succ] at r0 r1 r2 r3
      have z0 := BR5.frozen 0
      have z1 := BR5.frozen 1
      have z2 := BR5.frozen 2
      have z3 := BR5.frozen 3
      have hRF := (Bx.set_ (Bx.set_ (Bx.set_ (Bx.set_ BR5 0 (.int .i64 a.kind)) 1 (.int .i64 a.pos)) 2 (.int .i64 a.count)) 3 (.slice fa fn fc))
      have c0 := hRF.cell 0
      have c1 := hRF.cell 1
      have c2 := hRF.cell 2
      have c3 := hRF.cell 3
      simp at c0 c1 c2 c3
      clear hRF
      go_wp2_with fail
      refine bodyPost_ret (v := .tuple #[.agg #[.int .i64 a.kind, .int .i64 a.pos, .int .i64 a.count, .slice fa fn fc], .bool true]) (by simp [results, Try.results26, go_sem, c0, c1, c2, c3]) rfl ?_
      exact ⟨_, _, true, rfl, HAns.out, ⟨_, rfl, id (own_set (own_set (own_set (own_set ho3 (p := ⟨w.heap.size + 2, 0, none⟩) (fun k hk => by have h2 := (ho3.lt k hk).1; exact hNR k hk) (.int .i64 a.kind)) (p := ⟨w.heap.size + 2, 1, none⟩) (fun k hk => by have h2 := (ho3.lt k hk).1; exact hNR k hk) (.int .i64 a.pos)) (p := ⟨w.heap.size + 2, 2, none⟩) (fun k hk => by have h2 := (ho3.lt k hk).1; exact hNR k hk) (.int .i64 a.count)) (p := ⟨w.heap.size + 2, 3, none⟩) (fun k hk => by have h2 := (ho3.lt k hk).1; exact hNR k hk) (.slice fa fn fc))⟩, (Below.setCell (Below.setCell (Below.setCell (Below.setCell hb (p := ⟨w.heap.size + 2, 0, none⟩) (by show w.heap.size ≤ w.heap.size + 2; omega) (.int .i64 a.kind)) (p := ⟨w.heap.size + 2, 1, none⟩) (by show w.heap.size ≤ w.heap.size + 2; omega) (.int .i64 a.pos)) (p := ⟨w.heap.size + 2, 2, none⟩) (by show w.heap.size ≤ w.heap.size + 2; omega) (.int .i64 a.count)) (p := ⟨w.heap.size + 2, 3, none⟩) (by show w.heap.size ≤ w.heap.size + 2; omega) (.slice fa fn fc))⟩
end Go.Proofs.Ytclpdpfnlmfogaa.SecondaryChangeC
