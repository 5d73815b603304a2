/- IsAdopted: what it answers, on both sides. No condition. -/
import Derived.Test.YtankaffhapcnaaaTalG
import Derived.Test.YtankaffhapcnaaaLTallyZ
namespace Go.Proofs.Ytankaffhapcnaaa.IsAdoptedC
open Go.RowKit Bs Word Tal TalS TalG
set_option linter.unusedVariables false
def Ans (a0 : Int) (a1 : T) (r0 r1 : Bool) : Prop := adoptA a0 a1 = (r0, r1)
theorem same {a0 : Int} {a1 : T} {r0 s0 r1 s1 : Bool} (h1 : Ans a0 a1 r0 r1) (h2 : Ans a0 a1 s0 s1) : r0 = s0 ∧ r1 = s1 := by
  have h := h1.symm.trans h2
  exact ⟨congrArg Prod.fst h, congrArg Prod.snd h⟩
def Post (a0 : Int) (a1 : T) (w : World) (e : Ending) (w' : World) : Prop := ∃ r0 r1, e = .returned (.tuple #[.bool r0, .bool r1]) ∧ Ans a0 a1 r0 r1 ∧ Below w.heap.size w w'
set_option maxRecDepth 100000 in
set_option maxHeartbeats 1600000 in
theorem spec (a0 : Int) (a1 : T) (w : World) (f1 : LTally.Fine a1) : Calls Try.prog 61 #[.int .i64 a0, .agg #[.int .i64 a1.yes, .int .i64 a1.no, .int .i64 a1.abstain]] w (Post a0 a1 w) := by
  obtain ⟨k, hk0⟩ : ∃ k, k = a0 := ⟨_, rfl⟩
  subst hk0
  obtain ⟨y, n, a⟩ := a1
  simp only
  obtain ⟨W, hW⟩ : ∃ W : World, W = w.alloc (Obj.cells #[.int .i64 y, .int .i64 n, .int .i64 a] 71) := ⟨_, rfl⟩
  have hb : Below w.heap.size w W := by rw [hW]; exact (Below.refl _ _).alloc (Nat.le_refl _) _
  have B0 := Lib.hid (show Bx W w.heap.size 71 #[.int .i64 y, .int .i64 n, .int .i64 a] by rw [hW]; exact Bx.new _ _ _)
  have q0 := B0.out.cell 0
  have q1 := B0.out.cell 1
  have q2 := B0.out.cell 2
  simp only [List.getElem?_toArray, List.getElem?_cons_zero, List.getElem?_cons_succ] at q0 q1 q2
  have HN := Lib.hid (fun b (hx : need k = b) W => l11Need k b hx W)
  have HG := Lib.hid (fun b (hx : good ⟨y, n, a⟩ = b) W => l11Good ⟨y, n, a⟩ b hx W)
  simp only at HG
  cases h1 : need k with
  | false =>
    have HA := Lib.hid (show Ans k ⟨y, n, a⟩ false false by unfold Ans adoptA; rw [if_neg (by rw [h1]; simp)])
    replace HN := Lib.hid (HN.out _ h1)
    clear h1 HG
    go_enter Try.func61, Try.ntmps61
    go_wp2_with fail
    rw [← hW]
    clear hW
    refine (HN.out _).mono ?_
    rintro e w' ⟨rfl, rfl⟩
    go_wp2_with fail
    go_ret2
    exact ⟨_, _, rfl, HA.out, hb⟩
  | true =>
  cases h2 : good ⟨y, n, a⟩ with
  | false =>
    have HA := Lib.hid (show Ans k ⟨y, n, a⟩ false false by unfold Ans adoptA; rw [if_neg (by rw [h2]; simp)])
    replace HN := Lib.hid (HN.out _ h1)
    replace HG := Lib.hid (HG.out _ h2)
    clear h1 h2
    go_enter Try.func61, Try.ntmps61
    go_wp2_with fail
    rw [← hW]
    clear hW
    refine (HN.out _).mono ?_
    rintro e w' ⟨rfl, rfl⟩
    go_wp2_with fail
    refine (HG.out _).mono ?_
    rintro e w2 ⟨rfl, hb2⟩
    have hb3 := hb.trans (hb2.mono hb.size)
    clear hb2 hb
    go_wp2_with fail
    go_ret2
    exact ⟨_, _, rfl, HA.out, hb3⟩
  | true =>
  replace HN := Lib.hid (HN.out _ h1)
  replace HG := Lib.hid (HG.out _ h2)
  obtain ⟨v, hv⟩ : ∃ v, en k y n = v := ⟨_, rfl⟩
  have HA := Lib.hid (show Ans k ⟨y, n, a⟩ v true by unfold Ans adoptA; rw [if_pos ⟨h1, h2⟩]; simp only [hv])
  have HE := Lib.hid (fun W => l11Adopted k ⟨y, n, a⟩ _ h1 h2 hv W)
  simp only at HE
  clear h1 h2 hv
  go_enter Try.func61, Try.ntmps61
  go_wp2_with fail
  rw [← hW]
  clear hW
  refine (HN.out _).mono ?_
  rintro e w' ⟨rfl, rfl⟩
  go_wp2_with fail
  refine (HG.out _).mono ?_
  rintro e w2 ⟨rfl, hb2⟩
  have hb3 := hb.trans (hb2.mono hb.size)
  replace B0 := Lib.hid (B0.out.kept hb2)
  clear hb2 hb q0 q1 q2
  have q0 := B0.out.cell 0
  have q1 := B0.out.cell 1
  have q2 := B0.out.cell 2
  simp only [List.getElem?_toArray, List.getElem?_cons_zero, List.getElem?_cons_succ] at q0 q1 q2
  go_wp2_with fail
  refine (HE.out _).mono ?_
  rintro e w4 ⟨rfl, hb4⟩
  replace hb3 := hb3.trans (hb4.mono hb3.size)
  go_wp2_with fail
  go_ret2
  exact ⟨_, _, rfl, HA.out, hb3⟩
set_option maxRecDepth 100000 in
set_option maxHeartbeats 1600000 in
theorem impl (a0 : Int) (a1 : T) (w : World) (f1 : LTally.Fine a1) : Calls Try.prog 56 #[.int .i64 a0, .agg #[.int .i64 a1.yes, .int .i64 a1.no, .int .i64 a1.abstain]] w (Post a0 a1 w) := by
  obtain ⟨k, hk0⟩ : ∃ k, k = a0 := ⟨_, rfl⟩
  subst hk0
  obtain ⟨y, n, a⟩ := a1
  simp only
  obtain ⟨W, hW⟩ : ∃ W : World, W = w.alloc (Obj.cells #[.int .i64 y, .int .i64 n, .int .i64 a] 71) := ⟨_, rfl⟩
  have hb : Below w.heap.size w W := by rw [hW]; exact (Below.refl _ _).alloc (Nat.le_refl _) _
  have B0 := Lib.hid (show Bx W w.heap.size 71 #[.int .i64 y, .int .i64 n, .int .i64 a] by rw [hW]; exact Bx.new _ _ _)
  have q0 := B0.out.cell 0
  have q1 := B0.out.cell 1
  have q2 := B0.out.cell 2
  simp only [List.getElem?_toArray, List.getElem?_cons_zero, List.getElem?_cons_succ] at q0 q1 q2
  have HN := Lib.hid (fun b (hx : need k = b) W => isNeed k b hx W)
  have HG := Lib.hid (fun b (hx : good ⟨y, n, a⟩ = b) W => isValid ⟨y, n, a⟩ b hx W)
  simp only at HG
  cases h1 : need k with
  | false =>
    have HA := Lib.hid (show Ans k ⟨y, n, a⟩ false false by unfold Ans adoptA; rw [if_neg (by rw [h1]; simp)])
    replace HN := Lib.hid (HN.out _ h1)
    clear h1 HG
    go_enter Try.func56, Try.ntmps56
    go_wp2_with fail
    rw [← hW]
    clear hW
    refine (HN.out _).mono ?_
    rintro e w' ⟨rfl, rfl⟩
    go_wp2_with fail
    go_ret2
    exact ⟨_, _, rfl, HA.out, hb⟩
  | true =>
  cases h2 : good ⟨y, n, a⟩ with
  | false =>
    have HA := Lib.hid (show Ans k ⟨y, n, a⟩ false false by unfold Ans adoptA; rw [if_neg (by rw [h2]; simp)])
    replace HN := Lib.hid (HN.out _ h1)
    replace HG := Lib.hid (HG.out _ h2)
    clear h1 h2
    go_enter Try.func56, Try.ntmps56
    go_wp2_with fail
    rw [← hW]
    clear hW
    refine (HN.out _).mono ?_
    rintro e w' ⟨rfl, rfl⟩
    go_wp2_with fail
    refine (HG.out _).mono ?_
    rintro e w2 ⟨rfl, hb2⟩
    have hb3 := hb.trans (hb2.mono hb.size)
    clear hb2 hb
    go_wp2_with fail
    go_ret2
    exact ⟨_, _, rfl, HA.out, hb3⟩
  | true =>
  replace HN := Lib.hid (HN.out _ h1)
  replace HG := Lib.hid (HG.out _ h2)
  obtain ⟨v, hv⟩ : ∃ v, en k y n = v := ⟨_, rfl⟩
  have HA := Lib.hid (show Ans k ⟨y, n, a⟩ v true by unfold Ans adoptA; rw [if_pos ⟨h1, h2⟩]; simp only [hv])
  have HE := Lib.hid (fun W => isCarried k y n v (by have := good_parts h2; simp only at this; rw [car_en h1 (by omega) (by omega)]; exact hv) W)
  clear h1 h2 hv
  go_enter Try.func56, Try.ntmps56
  go_wp2_with fail
  rw [← hW]
  clear hW
  refine (HN.out _).mono ?_
  rintro e w' ⟨rfl, rfl⟩
  go_wp2_with fail
  refine (HG.out _).mono ?_
  rintro e w2 ⟨rfl, hb2⟩
  have hb3 := hb.trans (hb2.mono hb.size)
  replace B0 := Lib.hid (B0.out.kept hb2)
  clear hb2 hb q0 q1 q2
  have q0 := B0.out.cell 0
  have q1 := B0.out.cell 1
  have q2 := B0.out.cell 2
  simp only [List.getElem?_toArray, List.getElem?_cons_zero, List.getElem?_cons_succ] at q0 q1 q2
  go_wp2_with fail
  refine (HE.out _).mono ?_
  rintro e w4 ⟨rfl, rfl⟩
  go_wp2_with fail
  go_ret2
  exact ⟨_, _, rfl, HA.out, hb3⟩
end Go.Proofs.Ytankaffhapcnaaa.IsAdoptedC
