/- DoConflict: what it answers, on both sides. No condition. -/
import Derived.Test.YtclpdpfnlmfogaaCfI
namespace Go.Proofs.Ytclpdpfnlmfogaa.DoConflictC
open Go.RowKit Bs Word Am AmA AmG Cf CfD CfI
set_option linter.unusedVariables false
def Ans (z0 z1 : M) (r0 r1 : Bool) : Prop := r0 = (good z0 && (good z1 && confB z0 z1)) ∧ r1 = (good z0 && good z1)
theorem same {z0 z1 : M} {r0 s0 r1 s1 : Bool} (h1 : Ans z0 z1 r0 r1) (h2 : Ans z0 z1 s0 s1) : r0 = s0 ∧ r1 = s1 := ⟨h1.1.trans h2.1.symm, h1.2.trans h2.2.symm⟩
def Post (z0 z1 : M) (w : World) (e : Ending) (w' : World) : Prop := ∃ r0 r1 : Bool, e = .returned (.tuple #[.bool r0, .bool r1]) ∧ Ans z0 z1 r0 r1 ∧ Below w.heap.size w w'
set_option maxRecDepth 100000 in
set_option maxHeartbeats 1600000 in
theorem specI (v v' : Value) (a b : M) (w : World) (h0 : LAmendment.Is w v a) (h1 : LAmendment.Is w v' b) (f0 : LAmendment.Fine a) (f1 : LAmendment.Fine b) :
    Calls Try.prog 17 #[v, v'] w fun e w' => e = .returned (.tuple #[.bool (good a && (good b && confB a b)), .bool (good a && good b)]) ∧ Below w.heap.size w w' := by
  obtain ⟨a3, n3, c3, rfl, HN3, hb3, hm3, HIA⟩ := AmG.open_is h0
  obtain ⟨a4, n4, c4, rfl, HN4, hb4, hm4, HIB⟩ := AmG.open_is h1
  have HIA0 := Lib.hid h0
  have HIB0 := Lib.hid h1
  clear h0 h1
  obtain ⟨W, hW⟩ : ∃ W : World, W = (w.alloc (Obj.cells #[.int .i64 a.kind, .int .i64 a.pos, .int .i64 a.count, .slice a3 n3 c3] 38)).alloc (Obj.cells #[.int .i64 b.kind, .int .i64 b.pos, .int .i64 b.count, .slice a4 n4 c4] 38) := ⟨_, rfl⟩
  have hb : Below w.heap.size w W := by rw [hW]; exact ((Below.refl _ _).alloc (Nat.le_refl _) _).alloc (by simp) _
  have B0 := Lib.hid (show Bx W w.heap.size 38 #[.int .i64 a.kind, .int .i64 a.pos, .int .i64 a.count, .slice a3 n3 c3] by rw [hW]; exact (Bx.new w 38 #[.int .i64 a.kind, .int .i64 a.pos, .int .i64 a.count, .slice a3 n3 c3]).alloc _)
  have B1 := Lib.hid (show Bx W (w.heap.size + 1) 38 #[.int .i64 b.kind, .int .i64 b.pos, .int .i64 b.count, .slice a4 n4 c4] by rw [hW]; have := Bx.new (w.alloc (Obj.cells #[.int .i64 a.kind, .int .i64 a.pos, .int .i64 a.count, .slice a3 n3 c3] 38)) 38 #[.int .i64 b.kind, .int .i64 b.pos, .int .i64 b.count, .slice a4 n4 c4]; simpa using this)
  have HZ := Lib.hid (show w.heap.size + 2 ≤ W.heap.size by rw [hW]; simp)
  have HA := Lib.hid (fun bv (hv : good a = bv) W' (hb' : Below w.heap.size w W') => good_as _ a bv hv W' (LAmendment.Is.below HIA0.out hb') f0)
  have HBi := Lib.hid (fun bv (hv : good b = bv) W' (hb' : Below w.heap.size w W') => good_as _ b bv hv W' (LAmendment.Is.below HIB0.out hb') f1)
  clear f0 f1
  have q0 := B0.out.cell 0
  have q1 := B0.out.cell 1
  have q2 := B0.out.cell 2
  have q3 := B0.out.cell 3
  simp only [List.getElem?_toArray, List.getElem?_cons_zero, List.getElem?_cons_succ] at q0 q1 q2 q3
  have p0 := B1.out.cell 0
  have p1 := B1.out.cell 1
  have p2 := B1.out.cell 2
  have p3 := B1.out.cell 3
  simp only [List.getElem?_toArray, List.getElem?_cons_zero, List.getElem?_cons_succ] at p0 p1 p2 p3
  cases ga : good a with
  | false =>
    go_enter Try.func17, Try.ntmps17
    go_wp2_with fail
    rw [← hW]
    clear hW
    refine (HA.out _ ga _ hb).mono ?_
    rintro e w1 ⟨rfl, hb1⟩
    replace B0 := Lib.hid (B0.out.kept hb1)
    replace B1 := Lib.hid (B1.out.kept hb1)
    replace hb := hb.trans (hb1.mono hb.size)
    clear hb1 q0 q1 q2 q3 p0 p1 p2 p3
    have q0 := B0.out.cell 0
    have q1 := B0.out.cell 1
    have q2 := B0.out.cell 2
    have q3 := B0.out.cell 3
    simp only [List.getElem?_toArray, List.getElem?_cons_zero, List.getElem?_cons_succ] at q0 q1 q2 q3
    have p0 := B1.out.cell 0
    have p1 := B1.out.cell 1
    have p2 := B1.out.cell 2
    have p3 := B1.out.cell 3
    simp only [List.getElem?_toArray, List.getElem?_cons_zero, List.getElem?_cons_succ] at p0 p1 p2 p3
    go_wp2_with fail
    go_ret2
    exact ⟨rfl, hb⟩
  | true =>
  cases gb : good b with
  | false =>
    go_enter Try.func17, Try.ntmps17
    go_wp2_with fail
    rw [← hW]
    clear hW
    refine (HA.out _ ga _ hb).mono ?_
    rintro e w1 ⟨rfl, hb1⟩
    replace B0 := Lib.hid (B0.out.kept hb1)
    replace B1 := Lib.hid (B1.out.kept hb1)
    replace hb := hb.trans (hb1.mono hb.size)
    clear hb1 q0 q1 q2 q3 p0 p1 p2 p3
    have q0 := B0.out.cell 0
    have q1 := B0.out.cell 1
    have q2 := B0.out.cell 2
    have q3 := B0.out.cell 3
    simp only [List.getElem?_toArray, List.getElem?_cons_zero, List.getElem?_cons_succ] at q0 q1 q2 q3
    have p0 := B1.out.cell 0
    have p1 := B1.out.cell 1
    have p2 := B1.out.cell 2
    have p3 := B1.out.cell 3
    simp only [List.getElem?_toArray, List.getElem?_cons_zero, List.getElem?_cons_succ] at p0 p1 p2 p3
    go_wp2_with fail
    refine (HBi.out _ gb _ hb).mono ?_
    rintro e w2 ⟨rfl, hb1⟩
    replace B0 := Lib.hid (B0.out.kept hb1)
    replace B1 := Lib.hid (B1.out.kept hb1)
    replace hb := hb.trans (hb1.mono hb.size)
    clear hb1 q0 q1 q2 q3 p0 p1 p2 p3
    have q0 := B0.out.cell 0
    have q1 := B0.out.cell 1
    have q2 := B0.out.cell 2
    have q3 := B0.out.cell 3
    simp only [List.getElem?_toArray, List.getElem?_cons_zero, List.getElem?_cons_succ] at q0 q1 q2 q3
    have p0 := B1.out.cell 0
    have p1 := B1.out.cell 1
    have p2 := B1.out.cell 2
    have p3 := B1.out.cell 3
    simp only [List.getElem?_toArray, List.getElem?_cons_zero, List.getElem?_cons_succ] at p0 p1 p2 p3
    go_wp2_with fail
    go_ret2
    exact ⟨rfl, hb⟩
  | true =>
  have HC := Lib.hid (fun W' (hb' : Below w.heap.size w W') => l10Conflict _ _ a b W' (LAmendment.Is.below HIA0.out hb') (LAmendment.Is.below HIB0.out hb') ga gb)
  go_enter Try.func17, Try.ntmps17
  go_wp2_with fail
  rw [← hW]
  clear hW
  refine (HA.out _ ga _ hb).mono ?_
  rintro e w1 ⟨rfl, hb1⟩
  replace B0 := Lib.hid (B0.out.kept hb1)
  replace B1 := Lib.hid (B1.out.kept hb1)
  replace hb := hb.trans (hb1.mono hb.size)
  clear hb1 q0 q1 q2 q3 p0 p1 p2 p3
  have q0 := B0.out.cell 0
  have q1 := B0.out.cell 1
  have q2 := B0.out.cell 2
  have q3 := B0.out.cell 3
  simp only [List.getElem?_toArray, List.getElem?_cons_zero, List.getElem?_cons_succ] at q0 q1 q2 q3
  have p0 := B1.out.cell 0
  have p1 := B1.out.cell 1
  have p2 := B1.out.cell 2
  have p3 := B1.out.cell 3
  simp only [List.getElem?_toArray, List.getElem?_cons_zero, List.getElem?_cons_succ] at p0 p1 p2 p3
  go_wp2_with fail
  refine (HBi.out _ gb _ hb).mono ?_
  rintro e w2 ⟨rfl, hb1⟩
  replace B0 := Lib.hid (B0.out.kept hb1)
  replace B1 := Lib.hid (B1.out.kept hb1)
  replace hb := hb.trans (hb1.mono hb.size)
  clear hb1 q0 q1 q2 q3 p0 p1 p2 p3
  have q0 := B0.out.cell 0
  have q1 := B0.out.cell 1
  have q2 := B0.out.cell 2
  have q3 := B0.out.cell 3
  simp only [List.getElem?_toArray, List.getElem?_cons_zero, List.getElem?_cons_succ] at q0 q1 q2 q3
  have p0 := B1.out.cell 0
  have p1 := B1.out.cell 1
  have p2 := B1.out.cell 2
  have p3 := B1.out.cell 3
  simp only [List.getElem?_toArray, List.getElem?_cons_zero, List.getElem?_cons_succ] at p0 p1 p2 p3
  go_wp2_with fail
  refine (HC.out _ hb).mono ?_
  rintro e w3 ⟨rfl, hb1⟩
  replace hb := hb.trans (hb1.mono hb.size)
  go_wp2_with fail
  go_ret2
  exact ⟨rfl, hb⟩
theorem spec (v0 : Value) (z0 : M) (v1 : Value) (z1 : M) (w : World) (h0 : LAmendment.IsQ w v0 z0) (f0 : LAmendment.Fine z0) (l0 : z0.words.length ≤ 1048576) (h1 : LAmendment.IsQ w v1 z1) (f1 : LAmendment.Fine z1) (l1 : z1.words.length ≤ 1048576) :
    Calls Try.prog 17 #[v0, v1] w (Post z0 z1 w) := (specI v0 v1 z0 z1 w (LAmendment.IsQ.is h0) (LAmendment.IsQ.is h1) f0 f1).mono fun e w' h => ⟨_, _, h.1, ⟨rfl, rfl⟩, h.2⟩
theorem impl (v0 : Value) (z0 : M) (v1 : Value) (z1 : M) (w : World) (h0 : LAmendment.IsQ w v0 z0) (f0 : LAmendment.Fine z0) (l0 : z0.words.length ≤ 1048576) (h1 : LAmendment.IsQ w v1 z1) (f1 : LAmendment.Fine z1) (l1 : z1.words.length ≤ 1048576) :
    Calls Try.prog 19 #[v0, v1] w (Post z0 z1 w) := (doConflict v0 v1 z0 z1 w (LAmendment.IsQ.is h0) (LAmendment.IsQ.is h1) f0 f1).mono fun e w' h => ⟨_, _, h.1, ⟨rfl, rfl⟩, h.2⟩
end Go.Proofs.Ytclpdpfnlmfogaa.DoConflictC
