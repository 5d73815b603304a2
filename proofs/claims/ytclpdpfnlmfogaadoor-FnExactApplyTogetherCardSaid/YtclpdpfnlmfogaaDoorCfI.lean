/- Two amendments that conflict: the test of the program. No condition. -/
import Derived.Test.YtclpdpfnlmfogaaDoorCfD
namespace Go.Proofs.YtclpdpfnlmfogaaDoor.CfI
open Go.RowKit Bs Word Am AmA AmG Cf CfD
set_option linter.unusedVariables false
theorem prog_eq {a b : M} (h : a.pos = b.pos) : progB a b = ((decide (0 < a.count) && decide (0 < b.count)) || (decide (0 < a.words.length) && decide (0 < b.words.length))) := by unfold progB; rw [if_pos h]
theorem prog_gt {a b : M} (h : b.pos < a.pos) : progB a b = decide (a.pos < b.pos + b.count) := by unfold progB; rw [if_neg (by omega), if_pos h]
theorem prog_lt {a b : M} (h0 : a.pos ≠ b.pos) (h : ¬ b.pos < a.pos) : progB a b = decide (b.pos < a.pos + a.count) := by unfold progB; rw [if_neg h0, if_neg h]
theorem valid_as (v0 : Value) (r : M) (bv : Bool) (hv : good r = bv) (w : World) (h0 : LAmendment.Is w v0 r) (f0 : LAmendment.Fine r) :
    Calls Tryd.prog 54 #[v0] w fun e w' => e = .returned (.bool bv) ∧ Below w.heap.size w w' := by subst hv; exact AmG.isValid v0 r w h0 f0
theorem good_as (v0 : Value) (r : M) (bv : Bool) (hv : good r = bv) (w : World) (h0 : LAmendment.Is w v0 r) (f0 : LAmendment.Fine r) :
    Calls Tryd.prog 55 #[v0] w fun e w' => e = .returned (.bool bv) ∧ Below w.heap.size w w' := by subst hv; exact AmG.l9Good v0 r w h0 f0
attribute [local go_sem ↓] Go.wp_at_zero Go.wp_at_succ in
set_option maxRecDepth 100000 in
set_option maxHeartbeats 1600000 in
theorem doConflict (v v' : Value) (a b : M) (w : World) (h0 : LAmendment.Is w v a) (h1 : LAmendment.Is w v' b) (f0 : LAmendment.Fine a) (f1 : LAmendment.Fine b) :
    Calls Tryd.prog 10 #[v, v'] w fun e w' => e = .returned (.tuple #[.bool (good a && (good b && confB a b)), .bool (good a && good b)]) ∧ Below w.heap.size w w' := by
  obtain ⟨a3, n3, c3, rfl, HN3, hb3, hm3, HIA⟩ := AmG.open_is h0
  obtain ⟨a4, n4, c4, rfl, HN4, hb4, hm4, HIB⟩ := AmG.open_is h1
  have HIA0 := Lib.hid h0
  have HIB0 := Lib.hid h1
  clear h0 h1
  obtain ⟨V, hW⟩ : ∃ V : World, V = (w.alloc (Obj.cells #[.int .i64 a.kind, .int .i64 a.pos, .int .i64 a.count, .slice a3 n3 c3] 26)).alloc (Obj.cells #[.int .i64 b.kind, .int .i64 b.pos, .int .i64 b.count, .slice a4 n4 c4] 26) := ⟨_, rfl⟩
  have hb : Below w.heap.size w V := by rw [hW]; exact ((Below.refl _ _).alloc (Nat.le_refl _) _).alloc (by simp) _
  have B0 := Lib.hid (show Bx V w.heap.size 26 #[.int .i64 a.kind, .int .i64 a.pos, .int .i64 a.count, .slice a3 n3 c3] by rw [hW]; exact (Bx.new w 26 #[.int .i64 a.kind, .int .i64 a.pos, .int .i64 a.count, .slice a3 n3 c3]).alloc _)
  have B1 := Lib.hid (show Bx V (w.heap.size + 1) 26 #[.int .i64 b.kind, .int .i64 b.pos, .int .i64 b.count, .slice a4 n4 c4] by rw [hW]; have := Bx.new (w.alloc (Obj.cells #[.int .i64 a.kind, .int .i64 a.pos, .int .i64 a.count, .slice a3 n3 c3] 26)) 26 #[.int .i64 b.kind, .int .i64 b.pos, .int .i64 b.count, .slice a4 n4 c4]; simpa using this)
  have HZ := Lib.hid (show w.heap.size + 2 ≤ V.heap.size by rw [hW]; simp)
  have HA := Lib.hid (fun bv (hv : good a = bv) W' (hb' : Below w.heap.size w W') => valid_as _ a bv hv W' (LAmendment.Is.below HIA0.out hb') f0)
  have HBi := Lib.hid (fun bv (hv : good b = bv) W' (hb' : Below w.heap.size w W') => valid_as _ b bv hv W' (LAmendment.Is.below HIB0.out hb') f1)
  clear f0 f1
  have q0 := B0.out.cell 0
  have q1 := B0.out.cell 1
  have q2 := B0.out.cell 2
  have q3 := B0.out.cell 3
  simp only [List.getElem?_toArray, List.getElem?_cons_zero, List.getElem?_cons_succ] at q0 q1 q2 q3
  have p0 := B1.out.cell 0
  have p1 := B1.out.cell 1
  have p2 := B1.out.cell 2
  have p3 := B1.out.cell 3
  simp only [List.getElem?_toArray, List.getElem?_cons_zero, List.getElem?_cons_succ] at p0 p1 p2 p3
  cases ga : good a with
  | false =>
    go_enter Tryd.func10, Tryd.ntmps10
    go_wp2_with fail
    rw [← hW]
    clear hW
    refine (HA.out _ ga _ hb).mono ?_
    rintro e w1 ⟨rfl, hb1⟩
    replace B0 := Lib.hid (B0.out.kept hb1)
    replace B1 := Lib.hid (B1.out.kept hb1)
    replace hb := hb.trans (hb1.mono hb.size)
    clear hb1 q0 q1 q2 q3 p0 p1 p2 p3
    have q0 := B0.out.cell 0
    have q1 := B0.out.cell 1
    have q2 := B0.out.cell 2
    have q3 := B0.out.cell 3
    simp only [List.getElem?_toArray, List.getElem?_cons_zero, List.getElem?_cons_succ] at q0 q1 q2 q3
    have p0 := B1.out.cell 0
    have p1 := B1.out.cell 1
    have p2 := B1.out.cell 2
    have p3 := B1.out.cell 3
    simp only [List.getElem?_toArray, List.getElem?_cons_zero, List.getElem?_cons_succ] at p0 p1 p2 p3
    go_wp2_with fail
    go_ret2
    exact ⟨rfl, hb⟩
  | true =>
  cases gb : good b with
  | false =>
    go_enter Tryd.func10, Tryd.ntmps10
    go_wp2_with fail
    rw [← hW]
    clear hW
    refine (HA.out _ ga _ hb).mono ?_
    rintro e w1 ⟨rfl, hb1⟩
    replace B0 := Lib.hid (B0.out.kept hb1)
    replace B1 := Lib.hid (B1.out.kept hb1)
    replace hb := hb.trans (hb1.mono hb.size)
    clear hb1 q0 q1 q2 q3 p0 p1 p2 p3
    have q0 := B0.out.cell 0
    have q1 := B0.out.cell 1
    have q2 := B0.out.cell 2
    have q3 := B0.out.cell 3
    simp only [List.getElem?_toArray, List.getElem?_cons_zero, List.getElem?_cons_succ] at q0 q1 q2 q3
    have p0 := B1.out.cell 0
    have p1 := B1.out.cell 1
    have p2 := B1.out.cell 2
    have p3 := B1.out.cell 3
    simp only [List.getElem?_toArray, List.getElem?_cons_zero, List.getElem?_cons_succ] at p0 p1 p2 p3
    go_wp2_with fail
    refine (HBi.out _ gb _ hb).mono ?_
    rintro e w2 ⟨rfl, hb1⟩
    replace B0 := Lib.hid (B0.out.kept hb1)
    replace B1 := Lib.hid (B1.out.kept hb1)
    replace hb := hb.trans (hb1.mono hb.size)
    clear hb1 q0 q1 q2 q3 p0 p1 p2 p3
    have q0 := B0.out.cell 0
    have q1 := B0.out.cell 1
    have q2 := B0.out.cell 2
    have q3 := B0.out.cell 3
    simp only [List.getElem?_toArray, List.getElem?_cons_zero, List.getElem?_cons_succ] at q0 q1 q2 q3
    have p0 := B1.out.cell 0
    have p1 := B1.out.cell 1
    have p2 := B1.out.cell 2
    have p3 := B1.out.cell 3
    simp only [List.getElem?_toArray, List.getElem?_cons_zero, List.getElem?_cons_succ] at p0 p1 p2 p3
    go_wp2_with fail
    go_ret2
    exact ⟨rfl, hb⟩
  | true =>
  have HPG := Lib.hid (conf_prog ga gb).symm
  have HGP := Lib.hid (And.intro (good_parts ga) (good_parts gb))
  go_enter Tryd.func10, Tryd.ntmps10
  go_wp2_with fail
  rw [← hW]
  clear hW
  refine (HA.out _ ga _ hb).mono ?_
  rintro e w1 ⟨rfl, hb1⟩
  replace B0 := Lib.hid (B0.out.kept hb1)
  replace B1 := Lib.hid (B1.out.kept hb1)
  replace hb := hb.trans (hb1.mono hb.size)
  clear hb1 q0 q1 q2 q3 p0 p1 p2 p3
  have q0 := B0.out.cell 0
  have q1 := B0.out.cell 1
  have q2 := B0.out.cell 2
  have q3 := B0.out.cell 3
  simp only [List.getElem?_toArray, List.getElem?_cons_zero, List.getElem?_cons_succ] at q0 q1 q2 q3
  have p0 := B1.out.cell 0
  have p1 := B1.out.cell 1
  have p2 := B1.out.cell 2
  have p3 := B1.out.cell 3
  simp only [List.getElem?_toArray, List.getElem?_cons_zero, List.getElem?_cons_succ] at p0 p1 p2 p3
  go_wp2_with fail
  refine (HBi.out _ gb _ hb).mono ?_
  rintro e W ⟨rfl, hb1⟩
  replace B0 := Lib.hid (B0.out.kept hb1)
  replace B1 := Lib.hid (B1.out.kept hb1)
  replace hb := hb.trans (hb1.mono hb.size)
  clear hb1 q0 q1 q2 q3 p0 p1 p2 p3
  have q0 := B0.out.cell 0
  have q1 := B0.out.cell 1
  have q2 := B0.out.cell 2
  have q3 := B0.out.cell 3
  simp only [List.getElem?_toArray, List.getElem?_cons_zero, List.getElem?_cons_succ] at q0 q1 q2 q3
  have p0 := B1.out.cell 0
  have p1 := B1.out.cell 1
  have p2 := B1.out.cell 2
  have p3 := B1.out.cell 3
  simp only [List.getElem?_toArray, List.getElem?_cons_zero, List.getElem?_cons_succ] at p0 p1 p2 p3
  clear ga gb
  obtain ⟨⟨⟨a1, a2⟩, -, -, a5, a6⟩, ⟨b1, b2⟩, -, -, b5, b6⟩ := HGP.out
  have s0 : IntKind.i64.wrap (a.pos + a.count) = a.pos + a.count := IntWalk.i64_in _ (by omega)
  have s1 : IntKind.i64.wrap (b.pos + b.count) = b.pos + b.count := IntWalk.i64_in _ (by omega)
  by_cases hp : a.pos = b.pos
  · have HQ := Lib.hid (show confB a b = ((decide (0 < a.count) && decide (0 < b.count)) || (decide (0 < n3) && decide (0 < n4))) by rw [HPG.out, prog_eq hp, HN3.out, HN4.out])
    have e0 : (a.pos == b.pos) = true := by simp [hp]
    clear hp
    have z3 : (0 < (n3 : Int)) = (0 < n3) := by simp
    have z4 : (0 < (n4 : Int)) = (0 < n4) := by simp
    by_cases ca : 0 < a.count
    · by_cases cb : 0 < b.count
      · have HV := Lib.hid (show confB a b = true by rw [HQ.out, decide_eq_true ca, decide_eq_true cb]; rfl)
        go_wp2_with fail
        go_ret2
        exact ⟨by rw [HV.out]; rfl, hb⟩
      · have hcb := decide_eq_false cb
        have HV := Lib.hid (show confB a b = (decide (0 < n3) && decide (0 < n4)) by rw [HQ.out, hcb]; simp)
        by_cases cw : 0 < n3
        · by_cases cx : 0 < n4
          · have HV2 := Lib.hid (show confB a b = true by rw [HV.out, decide_eq_true cw, decide_eq_true cx]; rfl)
            go_wp2_with fail
            go_ret2
            exact ⟨by rw [HV2.out]; rfl, hb⟩
          · have HV2 := Lib.hid (show confB a b = false by rw [HV.out, decide_eq_false cx, Bool.and_false])
            go_wp2_with fail
            go_ret2
            exact ⟨by rw [HV2.out]; rfl, hb⟩
        · have HV2 := Lib.hid (show confB a b = false by rw [HV.out, decide_eq_false cw]; rfl)
          go_wp2_with fail
          go_ret2
          exact ⟨by rw [HV2.out]; rfl, hb⟩
    · have hca := decide_eq_false ca
      have HV := Lib.hid (show confB a b = (decide (0 < n3) && decide (0 < n4)) by rw [HQ.out, hca]; simp)
      by_cases cw : 0 < n3
      · by_cases cx : 0 < n4
        · have HV2 := Lib.hid (show confB a b = true by rw [HV.out, decide_eq_true cw, decide_eq_true cx]; rfl)
          go_wp2_with fail
          go_ret2
          exact ⟨by rw [HV2.out]; rfl, hb⟩
        · have HV2 := Lib.hid (show confB a b = false by rw [HV.out, decide_eq_false cx, Bool.and_false])
          go_wp2_with fail
          go_ret2
          exact ⟨by rw [HV2.out]; rfl, hb⟩
      · have HV2 := Lib.hid (show confB a b = false by rw [HV.out, decide_eq_false cw]; rfl)
        go_wp2_with fail
        go_ret2
        exact ⟨by rw [HV2.out]; rfl, hb⟩
  have e0 : (a.pos == b.pos) = false := by simp [hp]
  have HK := Lib.hid (show ∀ w' : World, Below W.heap.size W w' → Below W.heap.size W w' ∧ w'.cell? ⟨w.heap.size, 0, none⟩ = some (.int .i64 a.kind) ∧ w'.cell? ⟨w.heap.size, 1, none⟩ = some (.int .i64 a.pos) ∧ w'.cell? ⟨w.heap.size, 2, none⟩ = some (.int .i64 a.count) ∧ w'.cell? ⟨w.heap.size, 3, none⟩ = some (.slice a3 n3 c3) ∧ w'.cell? ⟨w.heap.size + 1, 0, none⟩ = some (.int .i64 b.kind) ∧ w'.cell? ⟨w.heap.size + 1, 1, none⟩ = some (.int .i64 b.pos) ∧ w'.cell? ⟨w.heap.size + 1, 2, none⟩ = some (.int .i64 b.count) ∧ w'.cell? ⟨w.heap.size + 1, 3, none⟩ = some (.slice a4 n4 c4) from fun w' hB => ⟨hB, by have h := (B0.out.kept hB).cell 0; simpa using h, by have h := (B0.out.kept hB).cell 1; simpa using h, by have h := (B0.out.kept hB).cell 2; simpa using h, by have h := (B0.out.kept hB).cell 3; simpa using h, by have h := (B1.out.kept hB).cell 0; simpa using h, by have h := (B1.out.kept hB).cell 1; simpa using h, by have h := (B1.out.kept hB).cell 2; simpa using h, by have h := (B1.out.kept hB).cell 3; simpa using h⟩)
  have HPL := Lib.hid (show ¬ b.pos < a.pos → confB a b = decide (b.pos < a.pos + a.count) from fun h => by rw [HPG.out, prog_lt hp h])
  clear hp
  go_upto_region 5 with fail
  go_cut [6, 7] (fun s6 s7 wx => ∃ g6 g7 : Nat, s6 = .pointer (some ⟨g6, 0, none⟩) ∧ s7 = .pointer (some ⟨g7, 0, none⟩) ∧ Hid (g6 ≠ g7 ∧ W.heap.size ≤ g6 ∧ W.heap.size ≤ g7) ∧ Hid (Bx wx g6 26 #[.int .i64 a.kind, .int .i64 a.pos, .int .i64 a.count, .slice a3 n3 c3]) ∧ Hid (Bx wx g7 26 #[.int .i64 b.kind, .int .i64 b.pos, .int .i64 b.count, .slice a4 n4 c4]) ∧ Below W.heap.size W wx)
  case first =>
    have hB : Below W.heap.size W W.drew := (Below.refl _ _).drew
    refine wp_region_held_drew (S := fun w' => Below W.heap.size W w' ∧ w'.cell? ⟨w.heap.size, 0, none⟩ = some (.int .i64 a.kind) ∧ w'.cell? ⟨w.heap.size, 1, none⟩ = some (.int .i64 a.pos) ∧ w'.cell? ⟨w.heap.size, 2, none⟩ = some (.int .i64 a.count) ∧ w'.cell? ⟨w.heap.size, 3, none⟩ = some (.slice a3 n3 c3) ∧ w'.cell? ⟨w.heap.size + 1, 0, none⟩ = some (.int .i64 b.kind) ∧ w'.cell? ⟨w.heap.size + 1, 1, none⟩ = some (.int .i64 b.pos) ∧ w'.cell? ⟨w.heap.size + 1, 2, none⟩ = some (.int .i64 b.count) ∧ w'.cell? ⟨w.heap.size + 1, 3, none⟩ = some (.slice a4 n4 c4)) (by kernel_rfl) (HK.out _ hB) (fun hHeld => ?_)
    clear q0 q1 q2 q3 p0 p1 p2 p3
    generalize W.drew = x0 at *
    refine wpAnyH_take (i := 0) (v := ?v1) rfl (by kernel_rfl) (by kernel_rfl) (by kernel_rfl) (fun _ _ _ h => h) (Or.inl ⟨by rfl, ?hy1⟩) (by assumption) ?rest1
    case hy1 => (intro wq hSw; (try dsimp only at hSw); go_split_ands; go_simp; (try with_reducible rfl))
    case rest1 =>
    refine wpAnyH_take (i := 1) (v := ?v2) rfl (by kernel_rfl) (by kernel_rfl) (by kernel_rfl) (fun _ _ _ h => h) (Or.inl ⟨by rfl, ?hy2⟩) (by assumption) ?rest2
    case hy2 => (intro wq hSw; (try dsimp only at hSw); go_split_ands; go_simp; (try with_reducible rfl))
    case rest2 =>
    refine wpAnyH_ready (rs := [2, 3]) (by kernel_rfl) (by simp) ?_
    refine AllReadyH.cons rfl (fun K hK => ?step3) ?more3
    case step3 =>
      go_simp
      refine hK.out _ _ (HK.out _ (hB.alloc hB.size _)) (fun hHeld => ?_)
      clear hK K
      have hX6 := Bx.new x0 26 #[.int .i64 0, .int .i64 0, .int .i64 0, .slice none 0 0]
      have hXA6 : W.heap.size ≤ x0.heap.size := hB.size
      replace hB := hB.alloc hB.size (Obj.cells #[.int .i64 0, .int .i64 0, .int .i64 0, .slice none 0 0] 26)
      generalize x0.alloc (Obj.cells #[.int .i64 0, .int .i64 0, .int .i64 0, .slice none 0 0] 26) = x1 at *
      generalize x0.heap.size = g6x1 at *
      refine wpAnyH_ready (rs := [3]) (by kernel_rfl) (by simp) ?_
      refine AllReadyH.cons rfl (fun K hK => ?step4) ?more4
      case step4 =>
        go_simp
        refine hK.out _ _ (HK.out _ (hB.alloc hB.size _)) (fun hHeld => ?_)
        clear hK K
        have hG6_7 : g6x1 ≠ x1.heap.size := by have h1 := hX6.lt; omega
        replace hX6 := hX6.alloc (Obj.cells #[.int .i64 0, .int .i64 0, .int .i64 0, .slice none 0 0] 26)
        have hX7 := Bx.new x1 26 #[.int .i64 0, .int .i64 0, .int .i64 0, .slice none 0 0]
        have hXA7 : W.heap.size ≤ x1.heap.size := hB.size
        replace hB := hB.alloc hB.size (Obj.cells #[.int .i64 0, .int .i64 0, .int .i64 0, .slice none 0 0] 26)
        generalize x1.alloc (Obj.cells #[.int .i64 0, .int .i64 0, .int .i64 0, .slice none 0 0] 26) = x2 at *
        generalize x1.heap.size = g7x2 at *
        refine wpAnyH_ready (rs := [4]) (by kernel_rfl) (by simp) ?_
        refine AllReadyH.cons rfl (fun K hK => ?step5) ?more5
        case step5 =>
          have sc0 := hX6.cell 0
          have sf0 := hX6.frozen 0
          have sc1 := hX6.cell 1
          have sf1 := hX6.frozen 1
          have sc2 := hX6.cell 2
          have sf2 := hX6.frozen 2
          have sc3 := hX6.cell 3
          have sf3 := hX6.frozen 3
          simp only [List.getElem?_toArray, List.getElem?_cons_zero, List.getElem?_cons_succ] at sc0 sc1 sc2 sc3
          have hBs := (Below.setCell (Below.setCell (Below.setCell (Below.setCell hB (p := ⟨g6x1, 0, none⟩) hXA6 (.int .i64 a.kind)) (p := ⟨g6x1, 1, none⟩) hXA6 (.int .i64 a.pos)) (p := ⟨g6x1, 2, none⟩) hXA6 (.int .i64 a.count)) (p := ⟨g6x1, 3, none⟩) hXA6 (.slice a3 n3 c3))
          have hXs := (Bx.set_ (Bx.set_ (Bx.set_ (Bx.set_ hX6 0 (.int .i64 a.kind)) 1 (.int .i64 a.pos)) 2 (.int .i64 a.count)) 3 (.slice a3 n3 c3))
          have hXo7 := (Bx.far (p := ⟨g6x1, 3, none⟩) (Bx.far (p := ⟨g6x1, 2, none⟩) (Bx.far (p := ⟨g6x1, 1, none⟩) (Bx.far (p := ⟨g6x1, 0, none⟩) hX7 hG6_7.symm (.int .i64 a.kind)) hG6_7.symm (.int .i64 a.pos)) hG6_7.symm (.int .i64 a.count)) hG6_7.symm (.slice a3 n3 c3))
          go_simp
          refine hK.out _ _ (HK.out _ hBs) (fun hHeld => ?_)
          clear hK K
          clear hB hX6 hX7 sc0 sf0 sc1 sf1 sc2 sf2 sc3 sf3
          generalize ((((x2.setCell ⟨g6x1, 0, none⟩ (.int .i64 a.kind)).setCell ⟨g6x1, 1, none⟩ (.int .i64 a.pos)).setCell ⟨g6x1, 2, none⟩ (.int .i64 a.count)).setCell ⟨g6x1, 3, none⟩ (.slice a3 n3 c3)) = x3 at *
          have hB := hBs
          have hX6 := hXs
          have hX7 := hXo7
          clear hBs hXs hXo7
          simp at hX6
          refine wpAnyH_ready (rs := [5]) (by kernel_rfl) (by simp) ?_
          refine AllReadyH.cons rfl (fun K hK => ?step6) ?more6
          case step6 =>
            have sc0 := hX7.cell 0
            have sf0 := hX7.frozen 0
            have sc1 := hX7.cell 1
            have sf1 := hX7.frozen 1
            have sc2 := hX7.cell 2
            have sf2 := hX7.frozen 2
            have sc3 := hX7.cell 3
            have sf3 := hX7.frozen 3
            simp only [List.getElem?_toArray, List.getElem?_cons_zero, List.getElem?_cons_succ] at sc0 sc1 sc2 sc3
            have hBs := (Below.setCell (Below.setCell (Below.setCell (Below.setCell hB (p := ⟨g7x2, 0, none⟩) hXA7 (.int .i64 b.kind)) (p := ⟨g7x2, 1, none⟩) hXA7 (.int .i64 b.pos)) (p := ⟨g7x2, 2, none⟩) hXA7 (.int .i64 b.count)) (p := ⟨g7x2, 3, none⟩) hXA7 (.slice a4 n4 c4))
            have hXs := (Bx.set_ (Bx.set_ (Bx.set_ (Bx.set_ hX7 0 (.int .i64 b.kind)) 1 (.int .i64 b.pos)) 2 (.int .i64 b.count)) 3 (.slice a4 n4 c4))
            have hXo6 := (Bx.far (p := ⟨g7x2, 3, none⟩) (Bx.far (p := ⟨g7x2, 2, none⟩) (Bx.far (p := ⟨g7x2, 1, none⟩) (Bx.far (p := ⟨g7x2, 0, none⟩) hX6 hG6_7 (.int .i64 b.kind)) hG6_7 (.int .i64 b.pos)) hG6_7 (.int .i64 b.count)) hG6_7 (.slice a4 n4 c4))
            go_simp
            refine hK.out _ _ (HK.out _ hBs) (fun hHeld => ?_)
            clear hK K
            clear hB hX7 hX6 sc0 sf0 sc1 sf1 sc2 sf2 sc3 sf3
            generalize ((((x3.setCell ⟨g7x2, 0, none⟩ (.int .i64 b.kind)).setCell ⟨g7x2, 1, none⟩ (.int .i64 b.pos)).setCell ⟨g7x2, 2, none⟩ (.int .i64 b.count)).setCell ⟨g7x2, 3, none⟩ (.slice a4 n4 c4)) = x4 at *
            have hB := hBs
            have hX7 := hXs
            have hX6 := hXo6
            clear hBs hXs hXo6
            simp at hX7
            refine wpAnyH_done (by kernel_rfl) ?_ _
            go_wp2_with fail
            all_goals
              go_meet
              exact ⟨g6x1, g7x2, rfl, rfl, Lib.hid ⟨hG6_7, hXA6, hXA7⟩, Lib.hid hX6, Lib.hid hX7, hB⟩
          case more6 => exact AllReadyH.nil
        case more5 => exact AllReadyH.nil
      case more4 => exact AllReadyH.nil
    case more3 =>
      refine AllReadyH.cons rfl (fun K hK => ?step7) ?more7
      case step7 =>
        go_simp
        refine hK.out _ _ (HK.out _ (hB.alloc hB.size _)) (fun hHeld => ?_)
        clear hK K
        have hX7 := Bx.new x0 26 #[.int .i64 0, .int .i64 0, .int .i64 0, .slice none 0 0]
        have hXA7 : W.heap.size ≤ x0.heap.size := hB.size
        replace hB := hB.alloc hB.size (Obj.cells #[.int .i64 0, .int .i64 0, .int .i64 0, .slice none 0 0] 26)
        generalize x0.alloc (Obj.cells #[.int .i64 0, .int .i64 0, .int .i64 0, .slice none 0 0] 26) = x5 at *
        generalize x0.heap.size = g7x5 at *
        refine wpAnyH_ready (rs := [2]) (by kernel_rfl) (by simp) ?_
        refine AllReadyH.cons rfl (fun K hK => ?step8) ?more8
        case step8 =>
          go_simp
          refine hK.out _ _ (HK.out _ (hB.alloc hB.size _)) (fun hHeld => ?_)
          clear hK K
          have hG6_7 : x5.heap.size ≠ g7x5 := by have h1 := hX7.lt; omega
          replace hX7 := hX7.alloc (Obj.cells #[.int .i64 0, .int .i64 0, .int .i64 0, .slice none 0 0] 26)
          have hX6 := Bx.new x5 26 #[.int .i64 0, .int .i64 0, .int .i64 0, .slice none 0 0]
          have hXA6 : W.heap.size ≤ x5.heap.size := hB.size
          replace hB := hB.alloc hB.size (Obj.cells #[.int .i64 0, .int .i64 0, .int .i64 0, .slice none 0 0] 26)
          generalize x5.alloc (Obj.cells #[.int .i64 0, .int .i64 0, .int .i64 0, .slice none 0 0] 26) = x6 at *
          generalize x5.heap.size = g6x6 at *
          refine wpAnyH_ready (rs := [4]) (by kernel_rfl) (by simp) ?_
          refine AllReadyH.cons rfl (fun K hK => ?step9) ?more9
          case step9 =>
            have sc0 := hX6.cell 0
            have sf0 := hX6.frozen 0
            have sc1 := hX6.cell 1
            have sf1 := hX6.frozen 1
            have sc2 := hX6.cell 2
            have sf2 := hX6.frozen 2
            have sc3 := hX6.cell 3
            have sf3 := hX6.frozen 3
            simp only [List.getElem?_toArray, List.getElem?_cons_zero, List.getElem?_cons_succ] at sc0 sc1 sc2 sc3
            have hBs := (Below.setCell (Below.setCell (Below.setCell (Below.setCell hB (p := ⟨g6x6, 0, none⟩) hXA6 (.int .i64 a.kind)) (p := ⟨g6x6, 1, none⟩) hXA6 (.int .i64 a.pos)) (p := ⟨g6x6, 2, none⟩) hXA6 (.int .i64 a.count)) (p := ⟨g6x6, 3, none⟩) hXA6 (.slice a3 n3 c3))
            have hXs := (Bx.set_ (Bx.set_ (Bx.set_ (Bx.set_ hX6 0 (.int .i64 a.kind)) 1 (.int .i64 a.pos)) 2 (.int .i64 a.count)) 3 (.slice a3 n3 c3))
            have hXo7 := (Bx.far (p := ⟨g6x6, 3, none⟩) (Bx.far (p := ⟨g6x6, 2, none⟩) (Bx.far (p := ⟨g6x6, 1, none⟩) (Bx.far (p := ⟨g6x6, 0, none⟩) hX7 hG6_7.symm (.int .i64 a.kind)) hG6_7.symm (.int .i64 a.pos)) hG6_7.symm (.int .i64 a.count)) hG6_7.symm (.slice a3 n3 c3))
            go_simp
            refine hK.out _ _ (HK.out _ hBs) (fun hHeld => ?_)
            clear hK K
            clear hB hX6 hX7 sc0 sf0 sc1 sf1 sc2 sf2 sc3 sf3
            generalize ((((x6.setCell ⟨g6x6, 0, none⟩ (.int .i64 a.kind)).setCell ⟨g6x6, 1, none⟩ (.int .i64 a.pos)).setCell ⟨g6x6, 2, none⟩ (.int .i64 a.count)).setCell ⟨g6x6, 3, none⟩ (.slice a3 n3 c3)) = x7 at *
            have hB := hBs
            have hX6 := hXs
            have hX7 := hXo7
            clear hBs hXs hXo7
            simp at hX6
            refine wpAnyH_ready (rs := [5]) (by kernel_rfl) (by simp) ?_
            refine AllReadyH.cons rfl (fun K hK => ?step10) ?more10
            case step10 =>
              have sc0 := hX7.cell 0
              have sf0 := hX7.frozen 0
              have sc1 := hX7.cell 1
              have sf1 := hX7.frozen 1
              have sc2 := hX7.cell 2
              have sf2 := hX7.frozen 2
              have sc3 := hX7.cell 3
              have sf3 := hX7.frozen 3
              simp only [List.getElem?_toArray, List.getElem?_cons_zero, List.getElem?_cons_succ] at sc0 sc1 sc2 sc3
              have hBs := (Below.setCell (Below.setCell (Below.setCell (Below.setCell hB (p := ⟨g7x5, 0, none⟩) hXA7 (.int .i64 b.kind)) (p := ⟨g7x5, 1, none⟩) hXA7 (.int .i64 b.pos)) (p := ⟨g7x5, 2, none⟩) hXA7 (.int .i64 b.count)) (p := ⟨g7x5, 3, none⟩) hXA7 (.slice a4 n4 c4))
              have hXs := (Bx.set_ (Bx.set_ (Bx.set_ (Bx.set_ hX7 0 (.int .i64 b.kind)) 1 (.int .i64 b.pos)) 2 (.int .i64 b.count)) 3 (.slice a4 n4 c4))
              have hXo6 := (Bx.far (p := ⟨g7x5, 3, none⟩) (Bx.far (p := ⟨g7x5, 2, none⟩) (Bx.far (p := ⟨g7x5, 1, none⟩) (Bx.far (p := ⟨g7x5, 0, none⟩) hX6 hG6_7 (.int .i64 b.kind)) hG6_7 (.int .i64 b.pos)) hG6_7 (.int .i64 b.count)) hG6_7 (.slice a4 n4 c4))
              go_simp
              refine hK.out _ _ (HK.out _ hBs) (fun hHeld => ?_)
              clear hK K
              clear hB hX7 hX6 sc0 sf0 sc1 sf1 sc2 sf2 sc3 sf3
              generalize ((((x7.setCell ⟨g7x5, 0, none⟩ (.int .i64 b.kind)).setCell ⟨g7x5, 1, none⟩ (.int .i64 b.pos)).setCell ⟨g7x5, 2, none⟩ (.int .i64 b.count)).setCell ⟨g7x5, 3, none⟩ (.slice a4 n4 c4)) = x8 at *
              have hB := hBs
              have hX7 := hXs
              have hX6 := hXo6
              clear hBs hXs hXo6
              simp at hX7
              refine wpAnyH_done (by kernel_rfl) ?_ _
              go_wp2_with fail
              all_goals
                go_meet
                exact ⟨g6x6, g7x5, rfl, rfl, Lib.hid ⟨hG6_7, hXA6, hXA7⟩, Lib.hid hX6, Lib.hid hX7, hB⟩
            case more10 => exact AllReadyH.nil
          case more9 => exact AllReadyH.nil
        case more8 => exact AllReadyH.nil
      case more7 => exact AllReadyH.nil
  case rest =>
  obtain ⟨g6, g7, rfl, rfl, HG67, HX6, HX7, hbc⟩ := hcut
  have hb0 := hb
  clear q0 q1 q2 q3 p0 p1 p2 p3
  have q1 := (B0.out.kept hbc).cell 1
  have p1 := (B1.out.kept hbc).cell 1
  simp only [List.getElem?_toArray, List.getElem?_cons_zero, List.getElem?_cons_succ] at q1 p1
  by_cases hlt : b.pos < a.pos
  · have HV := Lib.hid (show confB a b = decide (a.pos < b.pos + b.count) by rw [HPG.out, prog_gt hlt])
    go_upto_region 7 with fail
    have hB : Below W.heap.size W wc.drew := hbc.drew
    have hX6 := HX6.out.kept ((Below.refl _ _).drew)
    have hX7 := HX7.out.kept ((Below.refl _ _).drew)
    obtain ⟨hG6_7, hXA6, hXA7⟩ := HG67.out
    refine wp_region_held_drew (S := fun w' => Below W.heap.size W w' ∧ w'.cell? ⟨w.heap.size, 0, none⟩ = some (.int .i64 a.kind) ∧ w'.cell? ⟨w.heap.size, 1, none⟩ = some (.int .i64 a.pos) ∧ w'.cell? ⟨w.heap.size, 2, none⟩ = some (.int .i64 a.count) ∧ w'.cell? ⟨w.heap.size, 3, none⟩ = some (.slice a3 n3 c3) ∧ w'.cell? ⟨w.heap.size + 1, 0, none⟩ = some (.int .i64 b.kind) ∧ w'.cell? ⟨w.heap.size + 1, 1, none⟩ = some (.int .i64 b.pos) ∧ w'.cell? ⟨w.heap.size + 1, 2, none⟩ = some (.int .i64 b.count) ∧ w'.cell? ⟨w.heap.size + 1, 3, none⟩ = some (.slice a4 n4 c4)) (by kernel_rfl) (HK.out _ hB) (fun hHeld => ?_)
    clear q1 p1 hbc
    generalize wc.drew = x0 at *
    refine wpAnyH_take (i := 0) (v := ?v11) rfl (by kernel_rfl) (by kernel_rfl) (by kernel_rfl) (fun _ _ _ h => h) (Or.inl ⟨by rfl, ?hy11⟩) (by assumption) ?rest11
    case hy11 => (intro wq hSw; (try dsimp only at hSw); go_split_ands; go_simp; (try with_reducible rfl))
    case rest11 =>
    refine wpAnyH_take (i := 1) (v := ?v12) rfl (by kernel_rfl) (by kernel_rfl) (by kernel_rfl) (fun _ _ _ h => h) (Or.inl ⟨by rfl, ?hy12⟩) (by assumption) ?rest12
    case hy12 => (intro wq hSw; (try dsimp only at hSw); go_split_ands; go_simp; (try with_reducible rfl))
    case rest12 =>
    refine wpAnyH_ready (rs := [2]) (by kernel_rfl) (by simp) ?_
    refine AllReadyH.cons rfl (fun K hK => ?step13) ?more13
    case step13 =>
      have sc0 := hX6.cell 0
      have sf0 := hX6.frozen 0
      have sc1 := hX6.cell 1
      have sf1 := hX6.frozen 1
      have sc2 := hX6.cell 2
      have sf2 := hX6.frozen 2
      have sc3 := hX6.cell 3
      have sf3 := hX6.frozen 3
      simp only [List.getElem?_toArray, List.getElem?_cons_zero, List.getElem?_cons_succ] at sc0 sc1 sc2 sc3
      have hBs := (Below.setCell (Below.setCell (Below.setCell (Below.setCell hB (p := ⟨g6, 0, none⟩) hXA6 (.int .i64 b.kind)) (p := ⟨g6, 1, none⟩) hXA6 (.int .i64 b.pos)) (p := ⟨g6, 2, none⟩) hXA6 (.int .i64 b.count)) (p := ⟨g6, 3, none⟩) hXA6 (.slice a4 n4 c4))
      have hXs := (Bx.set_ (Bx.set_ (Bx.set_ (Bx.set_ hX6 0 (.int .i64 b.kind)) 1 (.int .i64 b.pos)) 2 (.int .i64 b.count)) 3 (.slice a4 n4 c4))
      have hXo7 := (Bx.far (p := ⟨g6, 3, none⟩) (Bx.far (p := ⟨g6, 2, none⟩) (Bx.far (p := ⟨g6, 1, none⟩) (Bx.far (p := ⟨g6, 0, none⟩) hX7 hG6_7.symm (.int .i64 b.kind)) hG6_7.symm (.int .i64 b.pos)) hG6_7.symm (.int .i64 b.count)) hG6_7.symm (.slice a4 n4 c4))
      go_simp
      refine hK.out _ _ (HK.out _ hBs) (fun hHeld => ?_)
      clear hK K
      clear hB hX6 hX7 sc0 sf0 sc1 sf1 sc2 sf2 sc3 sf3
      generalize ((((x0.setCell ⟨g6, 0, none⟩ (.int .i64 b.kind)).setCell ⟨g6, 1, none⟩ (.int .i64 b.pos)).setCell ⟨g6, 2, none⟩ (.int .i64 b.count)).setCell ⟨g6, 3, none⟩ (.slice a4 n4 c4)) = x1 at *
      have hB := hBs
      have hX6 := hXs
      have hX7 := hXo7
      clear hBs hXs hXo7
      simp at hX6
      refine wpAnyH_ready (rs := [3]) (by kernel_rfl) (by simp) ?_
      refine AllReadyH.cons rfl (fun K hK => ?step14) ?more14
      case step14 =>
        have sc0 := hX7.cell 0
        have sf0 := hX7.frozen 0
        have sc1 := hX7.cell 1
        have sf1 := hX7.frozen 1
        have sc2 := hX7.cell 2
        have sf2 := hX7.frozen 2
        have sc3 := hX7.cell 3
        have sf3 := hX7.frozen 3
        simp only [List.getElem?_toArray, List.getElem?_cons_zero, List.getElem?_cons_succ] at sc0 sc1 sc2 sc3
        have hBs := (Below.setCell (Below.setCell (Below.setCell (Below.setCell hB (p := ⟨g7, 0, none⟩) hXA7 (.int .i64 a.kind)) (p := ⟨g7, 1, none⟩) hXA7 (.int .i64 a.pos)) (p := ⟨g7, 2, none⟩) hXA7 (.int .i64 a.count)) (p := ⟨g7, 3, none⟩) hXA7 (.slice a3 n3 c3))
        have hXs := (Bx.set_ (Bx.set_ (Bx.set_ (Bx.set_ hX7 0 (.int .i64 a.kind)) 1 (.int .i64 a.pos)) 2 (.int .i64 a.count)) 3 (.slice a3 n3 c3))
        have hXo6 := (Bx.far (p := ⟨g7, 3, none⟩) (Bx.far (p := ⟨g7, 2, none⟩) (Bx.far (p := ⟨g7, 1, none⟩) (Bx.far (p := ⟨g7, 0, none⟩) hX6 hG6_7 (.int .i64 a.kind)) hG6_7 (.int .i64 a.pos)) hG6_7 (.int .i64 a.count)) hG6_7 (.slice a3 n3 c3))
        go_simp
        refine hK.out _ _ (HK.out _ hBs) (fun hHeld => ?_)
        clear hK K
        clear hB hX7 hX6 sc0 sf0 sc1 sf1 sc2 sf2 sc3 sf3
        generalize ((((x1.setCell ⟨g7, 0, none⟩ (.int .i64 a.kind)).setCell ⟨g7, 1, none⟩ (.int .i64 a.pos)).setCell ⟨g7, 2, none⟩ (.int .i64 a.count)).setCell ⟨g7, 3, none⟩ (.slice a3 n3 c3)) = x2 at *
        have hB := hBs
        have hX7 := hXs
        have hX6 := hXo6
        clear hBs hXs hXo6
        simp at hX7
        refine wpAnyH_done (by kernel_rfl) ?_ _
        have y1 := hX6.cell 1
        have y2 := hX6.cell 2
        have z1 := hX7.cell 1
        simp only [List.getElem?_toArray, List.getElem?_cons_zero, List.getElem?_cons_succ] at y1 y2 z1
        go_wp2_with fail
        all_goals
          go_ret2
          exact ⟨by rw [HV.out]; rfl, hb0.trans (hB.mono hb0.size)⟩
      case more14 => exact AllReadyH.nil
    case more13 => exact AllReadyH.nil
  · have HV := Lib.hid (HPL.out (by omega))
    have y1 := HX6.out.cell 1
    have y2 := HX6.out.cell 2
    have z1 := HX7.out.cell 1
    simp only [List.getElem?_toArray, List.getElem?_cons_zero, List.getElem?_cons_succ] at y1 y2 z1
    go_wp2_with fail
    go_ret2
    exact ⟨by rw [HV.out]; rfl, hb0.trans (hbc.mono hb0.size)⟩
end Go.Proofs.YtclpdpfnlmfogaaDoor.CfI
