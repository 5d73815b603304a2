/- ChairMatters: what it answers, on both sides. No condition. -/
import Derived.Test.YtankaffhapcnaaaTalG
import Derived.Test.YtankaffhapcnaaaLTallyZ
namespace Go.Proofs.Ytankaffhapcnaaa.ChairMattersC
open Go.RowKit Bs Word Tal TalS TalG
set_option linter.unusedVariables false
def Ans (a0 : Int) (a1 : T) (r0 r1 : Bool) : Prop := chairA a0 a1 = (r0, r1)
theorem same {a0 : Int} {a1 : T} {r0 s0 r1 s1 : Bool} (h1 : Ans a0 a1 r0 r1) (h2 : Ans a0 a1 s0 s1) : r0 = s0 ∧ r1 = s1 := by
  have h := h1.symm.trans h2
  exact ⟨congrArg Prod.fst h, congrArg Prod.snd h⟩
def Post (a0 : Int) (a1 : T) (w : World) (e : Ending) (w' : World) : Prop := ∃ r0 r1, e = .returned (.tuple #[.bool r0, .bool r1]) ∧ Ans a0 a1 r0 r1 ∧ Below w.heap.size w w'
set_option maxRecDepth 100000 in
set_option maxHeartbeats 1600000 in
theorem spec (a0 : Int) (a1 : T) (w : World) (f1 : LTally.Fine a1) : Calls Try.prog 66 #[.int .i64 a0, .agg #[.int .i64 a1.yes, .int .i64 a1.no, .int .i64 a1.abstain]] w (Post a0 a1 w) := by
  obtain ⟨k, hk0⟩ : ∃ k, k = a0 := ⟨_, rfl⟩
  subst hk0
  obtain ⟨y, n, a⟩ := a1
  simp only
  obtain ⟨W, hW⟩ : ∃ W : World, W = w.alloc (Obj.cells #[.int .i64 y, .int .i64 n, .int .i64 a] 71) := ⟨_, rfl⟩
  have hb : Below w.heap.size w W := by rw [hW]; exact (Below.refl _ _).alloc (Nat.le_refl _) _
  have B0 := Lib.hid (show Bx W w.heap.size 71 #[.int .i64 y, .int .i64 n, .int .i64 a] by rw [hW]; exact Bx.new _ _ _)
  have q0 := B0.out.cell 0
  have q1 := B0.out.cell 1
  have q2 := B0.out.cell 2
  simp only [List.getElem?_toArray, List.getElem?_cons_zero, List.getElem?_cons_succ] at q0 q1 q2
  have HN := Lib.hid (fun b (hx : need k = b) W => l11Need k b hx W)
  have HG := Lib.hid (fun b (hx : good ⟨y, n, a⟩ = b) W => l11Good ⟨y, n, a⟩ b hx W)
  simp only at HG
  cases h1 : need k with
  | false =>
    have HA := Lib.hid (show Ans k ⟨y, n, a⟩ false false by unfold Ans chairA; rw [if_neg (by rw [h1]; simp)])
    replace HN := Lib.hid (HN.out _ h1)
    clear h1 HG
    go_enter Try.func66, Try.ntmps66
    go_wp2_with fail
    rw [← hW]
    clear hW
    refine (HN.out _).mono ?_
    rintro e w' ⟨rfl, rfl⟩
    go_wp2_with fail
    go_ret2
    exact ⟨_, _, rfl, HA.out, hb⟩
  | true =>
  cases h2 : good ⟨y, n, a⟩ with
  | false =>
    have HA := Lib.hid (show Ans k ⟨y, n, a⟩ false false by unfold Ans chairA; rw [if_neg (by rw [h2]; simp)])
    replace HN := Lib.hid (HN.out _ h1)
    replace HG := Lib.hid (HG.out _ h2)
    clear h1 h2
    go_enter Try.func66, Try.ntmps66
    go_wp2_with fail
    rw [← hW]
    clear hW
    refine (HN.out _).mono ?_
    rintro e w' ⟨rfl, rfl⟩
    go_wp2_with fail
    refine (HG.out _).mono ?_
    rintro e w2 ⟨rfl, hb2⟩
    have hb3 := hb.trans (hb2.mono hb.size)
    clear hb2 hb
    go_wp2_with fail
    go_ret2
    exact ⟨_, _, rfl, HA.out, hb3⟩
  | true =>
  replace HN := Lib.hid (HN.out _ h1)
  replace HG := Lib.hid (HG.out _ h2)
  obtain ⟨⟨g1, g2⟩, ⟨g3, g4⟩, _⟩ := good_parts h2
  simp only at g1 g2 g3 g4
  by_cases e1 : y = 1000
  · have HA := Lib.hid (show Ans k ⟨y, n, a⟩ false false by unfold Ans chairA; rw [if_neg (fun h => h.2.2.1 e1)])
    have d1 : (y == 1000) = true := by simpa using e1
    clear h1 h2 g1 g2 g3 g4 e1
    go_enter Try.func66, Try.ntmps66
    go_wp2_with fail
    rw [← hW]
    clear hW
    refine (HN.out _).mono ?_
    rintro e w' ⟨rfl, rfl⟩
    go_wp2_with fail
    refine (HG.out _).mono ?_
    rintro e w2 ⟨rfl, hb2⟩
    have hb3 := hb.trans (hb2.mono hb.size)
    replace B0 := Lib.hid (B0.out.kept hb2)
    clear hb2 hb q0 q1 q2
    have q0 := B0.out.cell 0
    have q1 := B0.out.cell 1
    have q2 := B0.out.cell 2
    simp only [List.getElem?_toArray, List.getElem?_cons_zero, List.getElem?_cons_succ] at q0 q1 q2
    go_wp2_with fail
    go_ret2
    exact ⟨_, _, rfl, HA.out, hb3⟩
  have d1 : (y == 1000) = false := by simpa using e1
  by_cases e2 : n = 1000
  · have HA := Lib.hid (show Ans k ⟨y, n, a⟩ false false by unfold Ans chairA; rw [if_neg (fun h => h.2.2.2 e2)])
    have d2 : (n == 1000) = true := by simpa using e2
    clear h1 h2 g1 g2 g3 g4 e1 e2
    go_enter Try.func66, Try.ntmps66
    go_wp2_with fail
    rw [← hW]
    clear hW
    refine (HN.out _).mono ?_
    rintro e w' ⟨rfl, rfl⟩
    go_wp2_with fail
    refine (HG.out _).mono ?_
    rintro e w2 ⟨rfl, hb2⟩
    have hb3 := hb.trans (hb2.mono hb.size)
    replace B0 := Lib.hid (B0.out.kept hb2)
    clear hb2 hb q0 q1 q2
    have q0 := B0.out.cell 0
    have q1 := B0.out.cell 1
    have q2 := B0.out.cell 2
    simp only [List.getElem?_toArray, List.getElem?_cons_zero, List.getElem?_cons_succ] at q0 q1 q2
    go_wp2_with fail
    go_ret2
    exact ⟨_, _, rfl, HA.out, hb3⟩
  have d2 : (n == 1000) = false := by simpa using e2
  obtain ⟨v, hv⟩ : ∃ v, en k (y + 1) n = v := ⟨_, rfl⟩
  obtain ⟨u, hu⟩ : ∃ u, en k y (n + 1) = u := ⟨_, rfl⟩
  have HA := Lib.hid (show Ans k ⟨y, n, a⟩ (v && !u) true by unfold Ans chairA; rw [if_pos ⟨h1, h2, e1, e2⟩]; simp only [hv, hu])
  have HE1 := Lib.hid (fun W => l11Enough k (y + 1) n v hv (by omega) (by omega) h1 W)
  have HE2 := Lib.hid (fun W => l11Enough k y (n + 1) u hu (by omega) (by omega) h1 W)
  have s1 : IntKind.i64.wrap (y + 1) = y + 1 := IntWalk.i64_in _ (by omega)
  have s2 : IntKind.i64.wrap (n + 1) = n + 1 := IntWalk.i64_in _ (by omega)
  clear h1 h2 hv hu e1 e2
  go_enter Try.func66, Try.ntmps66
  go_wp2_with fail
  rw [← hW]
  clear hW
  refine (HN.out _).mono ?_
  rintro e w' ⟨rfl, rfl⟩
  go_wp2_with fail
  refine (HG.out _).mono ?_
  rintro e w2 ⟨rfl, hb2⟩
  have hb3 := hb.trans (hb2.mono hb.size)
  replace B0 := Lib.hid (B0.out.kept hb2)
  clear hb2 hb q0 q1 q2
  have q0 := B0.out.cell 0
  have q1 := B0.out.cell 1
  have q2 := B0.out.cell 2
  simp only [List.getElem?_toArray, List.getElem?_cons_zero, List.getElem?_cons_succ] at q0 q1 q2
  cases v with
  | false =>
    go_wp2_with fail
    refine (HE1.out _).mono ?_
    rintro e w4 ⟨rfl, rfl⟩
    go_wp2_with fail
    go_ret2
    exact ⟨_, _, rfl, HA.out, hb3⟩
  | true =>
    go_wp2_with fail
    refine (HE1.out _).mono ?_
    rintro e w4 ⟨rfl, rfl⟩
    go_wp2_with fail
    refine (HE2.out _).mono ?_
    rintro e w4 ⟨rfl, rfl⟩
    go_wp2_with fail
    go_ret2
    exact ⟨_, _, rfl, HA.out, hb3⟩
set_option maxRecDepth 100000 in
set_option maxHeartbeats 1600000 in
theorem impl (a0 : Int) (a1 : T) (w : World) (f1 : LTally.Fine a1) : Calls Try.prog 65 #[.int .i64 a0, .agg #[.int .i64 a1.yes, .int .i64 a1.no, .int .i64 a1.abstain]] w (Post a0 a1 w) := by
  obtain ⟨k, hk0⟩ : ∃ k, k = a0 := ⟨_, rfl⟩
  subst hk0
  obtain ⟨y, n, a⟩ := a1
  simp only
  obtain ⟨W, hW⟩ : ∃ W : World, W = w.alloc (Obj.cells #[.int .i64 y, .int .i64 n, .int .i64 a] 71) := ⟨_, rfl⟩
  have hb : Below w.heap.size w W := by rw [hW]; exact (Below.refl _ _).alloc (Nat.le_refl _) _
  have B0 := Lib.hid (show Bx W w.heap.size 71 #[.int .i64 y, .int .i64 n, .int .i64 a] by rw [hW]; exact Bx.new _ _ _)
  have q0 := B0.out.cell 0
  have q1 := B0.out.cell 1
  have q2 := B0.out.cell 2
  simp only [List.getElem?_toArray, List.getElem?_cons_zero, List.getElem?_cons_succ] at q0 q1 q2
  have HN := Lib.hid (fun b (hx : need k = b) W => isNeed k b hx W)
  have HG := Lib.hid (fun b (hx : good ⟨y, n, a⟩ = b) W => isValid ⟨y, n, a⟩ b hx W)
  simp only at HG
  cases h1 : need k with
  | false =>
    have HA := Lib.hid (show Ans k ⟨y, n, a⟩ false false by unfold Ans chairA; rw [if_neg (by rw [h1]; simp)])
    replace HN := Lib.hid (HN.out _ h1)
    clear h1 HG
    go_enter Try.func65, Try.ntmps65
    go_wp2_with fail
    rw [← hW]
    clear hW
    refine (HN.out _).mono ?_
    rintro e w' ⟨rfl, rfl⟩
    go_wp2_with fail
    go_ret2
    exact ⟨_, _, rfl, HA.out, hb⟩
  | true =>
  cases h2 : good ⟨y, n, a⟩ with
  | false =>
    have HA := Lib.hid (show Ans k ⟨y, n, a⟩ false false by unfold Ans chairA; rw [if_neg (by rw [h2]; simp)])
    replace HN := Lib.hid (HN.out _ h1)
    replace HG := Lib.hid (HG.out _ h2)
    clear h1 h2
    go_enter Try.func65, Try.ntmps65
    go_wp2_with fail
    rw [← hW]
    clear hW
    refine (HN.out _).mono ?_
    rintro e w' ⟨rfl, rfl⟩
    go_wp2_with fail
    refine (HG.out _).mono ?_
    rintro e w2 ⟨rfl, hb2⟩
    have hb3 := hb.trans (hb2.mono hb.size)
    clear hb2 hb
    go_wp2_with fail
    go_ret2
    exact ⟨_, _, rfl, HA.out, hb3⟩
  | true =>
  replace HN := Lib.hid (HN.out _ h1)
  replace HG := Lib.hid (HG.out _ h2)
  obtain ⟨⟨g1, g2⟩, ⟨g3, g4⟩, _⟩ := good_parts h2
  simp only at g1 g2 g3 g4
  by_cases e1 : y = 1000
  · have HA := Lib.hid (show Ans k ⟨y, n, a⟩ false false by unfold Ans chairA; rw [if_neg (fun h => h.2.2.1 e1)])
    have d1 : (y == 1000) = true := by simpa using e1
    clear h1 h2 g1 g2 g3 g4 e1
    go_enter Try.func65, Try.ntmps65
    go_wp2_with fail
    rw [← hW]
    clear hW
    refine (HN.out _).mono ?_
    rintro e w' ⟨rfl, rfl⟩
    go_wp2_with fail
    refine (HG.out _).mono ?_
    rintro e w2 ⟨rfl, hb2⟩
    have hb3 := hb.trans (hb2.mono hb.size)
    replace B0 := Lib.hid (B0.out.kept hb2)
    clear hb2 hb q0 q1 q2
    have q0 := B0.out.cell 0
    have q1 := B0.out.cell 1
    have q2 := B0.out.cell 2
    simp only [List.getElem?_toArray, List.getElem?_cons_zero, List.getElem?_cons_succ] at q0 q1 q2
    go_wp2_with fail
    go_ret2
    exact ⟨_, _, rfl, HA.out, hb3⟩
  have d1 : (y == 1000) = false := by simpa using e1
  by_cases e2 : n = 1000
  · have HA := Lib.hid (show Ans k ⟨y, n, a⟩ false false by unfold Ans chairA; rw [if_neg (fun h => h.2.2.2 e2)])
    have d2 : (n == 1000) = true := by simpa using e2
    clear h1 h2 g1 g2 g3 g4 e1 e2
    go_enter Try.func65, Try.ntmps65
    go_wp2_with fail
    rw [← hW]
    clear hW
    refine (HN.out _).mono ?_
    rintro e w' ⟨rfl, rfl⟩
    go_wp2_with fail
    refine (HG.out _).mono ?_
    rintro e w2 ⟨rfl, hb2⟩
    have hb3 := hb.trans (hb2.mono hb.size)
    replace B0 := Lib.hid (B0.out.kept hb2)
    clear hb2 hb q0 q1 q2
    have q0 := B0.out.cell 0
    have q1 := B0.out.cell 1
    have q2 := B0.out.cell 2
    simp only [List.getElem?_toArray, List.getElem?_cons_zero, List.getElem?_cons_succ] at q0 q1 q2
    go_wp2_with fail
    go_ret2
    exact ⟨_, _, rfl, HA.out, hb3⟩
  have d2 : (n == 1000) = false := by simpa using e2
  obtain ⟨v, hv⟩ : ∃ v, en k (y + 1) n = v := ⟨_, rfl⟩
  obtain ⟨u, hu⟩ : ∃ u, en k y (n + 1) = u := ⟨_, rfl⟩
  have HA := Lib.hid (show Ans k ⟨y, n, a⟩ (v && !u) true by unfold Ans chairA; rw [if_pos ⟨h1, h2, e1, e2⟩]; simp only [hv, hu])
  have HE1 := Lib.hid (fun W => isCarried k (y + 1) n v (by rw [car_en h1 (by omega) (by omega)]; exact hv) W)
  have HE2 := Lib.hid (fun W => isCarried k y (n + 1) u (by rw [car_en h1 (by omega) (by omega)]; exact hu) W)
  have s1 : IntKind.i64.wrap (y + 1) = y + 1 := IntWalk.i64_in _ (by omega)
  have s2 : IntKind.i64.wrap (n + 1) = n + 1 := IntWalk.i64_in _ (by omega)
  clear h1 h2 hv hu e1 e2
  go_enter Try.func65, Try.ntmps65
  go_wp2_with fail
  rw [← hW]
  clear hW
  refine (HN.out _).mono ?_
  rintro e w' ⟨rfl, rfl⟩
  go_wp2_with fail
  refine (HG.out _).mono ?_
  rintro e w2 ⟨rfl, hb2⟩
  have hb3 := hb.trans (hb2.mono hb.size)
  replace B0 := Lib.hid (B0.out.kept hb2)
  clear hb2 hb q0 q1 q2
  have q0 := B0.out.cell 0
  have q1 := B0.out.cell 1
  have q2 := B0.out.cell 2
  simp only [List.getElem?_toArray, List.getElem?_cons_zero, List.getElem?_cons_succ] at q0 q1 q2
  cases v with
  | false =>
    go_wp2_with fail
    refine (HE1.out _).mono ?_
    rintro e w4 ⟨rfl, rfl⟩
    go_wp2_with fail
    go_ret2
    exact ⟨_, _, rfl, HA.out, hb3⟩
  | true =>
    go_wp2_with fail
    refine (HE1.out _).mono ?_
    rintro e w4 ⟨rfl, rfl⟩
    go_wp2_with fail
    refine (HE2.out _).mono ?_
    rintro e w4 ⟨rfl, rfl⟩
    go_wp2_with fail
    go_ret2
    exact ⟨_, _, rfl, HA.out, hb3⟩
end Go.Proofs.Ytankaffhapcnaaa.ChairMattersC
