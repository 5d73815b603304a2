/- FnExactDoConflict: the law's walk, for every struct, every struct. -/
import Derived.Test.YtclpdpfnlmfogaaBx
import Derived.Test.YtclpdpfnlmfogaaDoConflictC
import Derived.Test.YtclpdpfnlmfogaaLAmendmentE
import Derived.Test.YtclpdpfnlmfogaaLAmendmentO
import Derived.Test.YtclpdpfnlmfogaaLAmendmentT
import Derived.Test.YtclpdpfnlmfogaaLAmendmentZ
import Derived.Deep.RegionHeld3
import Derived.Deep.DeepCutAuto
import Derived.Test.YtclpdpfnlmfogaaHeld
import Derived.Test.YtclpdpfnlmfogaaBx
namespace Go.Proofs.Ytclpdpfnlmfogaa.fnExactDoConflict
open Go.RowKit Bs
set_option linter.unusedVariables false
set_option maxRecDepth 100000 in
set_option maxHeartbeats 12800000 in
theorem walk (a0_3 : Option Addr) (len0_3 cap0_3 : Nat) (z0 : LAmendment.R) (a1_3 : Option Addr) (len1_3 cap1_3 : Nat) (z1 : LAmendment.R) (w : World) (sh : w.ShapedOpen Try.prog) (w0 : LAmendment.IsIn w a0_3 len0_3 cap0_3 z0) (w1 : LAmendment.IsIn w a1_3 len1_3 cap1_3 z1) :
    Calls Try.prog 4 #[.agg #[.int .i64 z0.kind, .int .i64 z0.pos, .int .i64 z0.count, .slice a0_3 len0_3 cap0_3], .agg #[.int .i64 z1.kind, .int .i64 z1.pos, .int .i64 z1.count, .slice a1_3 len1_3 cap1_3]] w fun e w' => e = .returned (.bool true) ∧ Below w.heap.size w w' := by
  have HA0 := Lib.hid (LAmendment.Is.loc (LAmendment.IsIn.is w0))
  have HF0 := Lib.hid (LAmendment.IsIn.fine w0)
  have HL0_3 := Lib.hid (LAmendment.IsIn.len3 w0)
  have HA1 := Lib.hid (LAmendment.Is.loc (LAmendment.IsIn.is w1))
  have HF1 := Lib.hid (LAmendment.IsIn.fine w1)
  have HL1_3 := Lib.hid (LAmendment.IsIn.len3 w1)
  clear sh w0 w1
  go_enter Try.func4, Try.ntmps4
  replace HA0 := Lib.hid (HA0.out.alloc (.cells #[.int .i64 z0.kind, .int .i64 z0.pos, .int .i64 z0.count, .slice a0_3 len0_3 cap0_3] 34))
  replace HA1 := Lib.hid (HA1.out.alloc (.cells #[.int .i64 z0.kind, .int .i64 z0.pos, .int .i64 z0.count, .slice a0_3 len0_3 cap0_3] 34))
  have HX0 := Lib.hid (Bx.loc (Bx.new w 34 #[.int .i64 z0.kind, .int .i64 z0.pos, .int .i64 z0.count, .slice a0_3 len0_3 cap0_3]))
  have hb := (Below.refl w.heap.size w).alloc (Nat.le_refl _) (Obj.cells #[.int .i64 z0.kind, .int .i64 z0.pos, .int .i64 z0.count, .slice a0_3 len0_3 cap0_3] 34)
  replace HA0 := Lib.hid (HA0.out.alloc (.cells #[.int .i64 z1.kind, .int .i64 z1.pos, .int .i64 z1.count, .slice a1_3 len1_3 cap1_3] 34))
  replace HA1 := Lib.hid (HA1.out.alloc (.cells #[.int .i64 z1.kind, .int .i64 z1.pos, .int .i64 z1.count, .slice a1_3 len1_3 cap1_3] 34))
  replace HX0 := Lib.hid (HX0.out.alloc (.cells #[.int .i64 z1.kind, .int .i64 z1.pos, .int .i64 z1.count, .slice a1_3 len1_3 cap1_3] 34))
  have HX1 := Lib.hid (show Bs.Loc (w.heap.size + 1) (w.heap.size + 1 + 1) (fun W => Bx W (w.heap.size + 1) 34 #[.int .i64 z1.kind, .int .i64 z1.pos, .int .i64 z1.count, .slice a1_3 len1_3 cap1_3]) ((w.alloc (.cells #[.int .i64 z0.kind, .int .i64 z0.pos, .int .i64 z0.count, .slice a0_3 len0_3 cap0_3] 34)).alloc (.cells #[.int .i64 z1.kind, .int .i64 z1.pos, .int .i64 z1.count, .slice a1_3 len1_3 cap1_3] 34)) by rw [show w.heap.size + 1 = (w.alloc (.cells #[.int .i64 z0.kind, .int .i64 z0.pos, .int .i64 z0.count, .slice a0_3 len0_3 cap0_3] 34)).heap.size by simp]; exact Bx.loc (Bx.new (w.alloc (.cells #[.int .i64 z0.kind, .int .i64 z0.pos, .int .i64 z0.count, .slice a0_3 len0_3 cap0_3] 34)) 34 #[.int .i64 z1.kind, .int .i64 z1.pos, .int .i64 z1.count, .slice a1_3 len1_3 cap1_3]))
  replace hb := hb.alloc hb.size (Obj.cells #[.int .i64 z1.kind, .int .i64 z1.pos, .int .i64 z1.count, .slice a1_3 len1_3 cap1_3] 34)
  have q0_0 := HX0.out.now.cell 0
  have q0_1 := HX0.out.now.cell 1
  have q0_2 := HX0.out.now.cell 2
  have q0_3 := HX0.out.now.cell 3
  simp only [List.getElem?_toArray, List.getElem?_cons_zero, List.getElem?_cons_succ] at q0_0 q0_1 q0_2 q0_3
  have q1_0 := HX1.out.now.cell 0
  have q1_1 := HX1.out.now.cell 1
  have q1_2 := HX1.out.now.cell 2
  have q1_3 := HX1.out.now.cell 3
  simp only [List.getElem?_toArray, List.getElem?_cons_zero, List.getElem?_cons_succ] at q1_0 q1_1 q1_2 q1_3
  go_wp2_with fail
  refine (LAmendment.sz _ z0 _ _ (by omega) (by omega) HA0.out.now HF0.out).mono ?_
  rintro e w1_ ⟨hb1, x, rfl, ⟨hx0, hxl⟩ | ⟨rfl, hxl⟩⟩
  · clear hxl
    go_wp2_with fail
    go_ret
    exact ⟨rfl, hb.trans (hb1.mono hb.size)⟩
  have hbud0 := hxl
  clear hxl
  have hzl0_3 : z0.words.length ≤ 1048576 := by (have h0 : LAmendment.wt z0 = (z0.words.length + LString.tot z0.words) := rfl); omega
  replace HA0 := Lib.hid (HA0.out.kept hb1)
  replace HA1 := Lib.hid (HA1.out.kept hb1)
  replace HX0 := Lib.hid (HX0.out.kept hb1)
  replace HX1 := Lib.hid (HX1.out.kept hb1)
  clear q0_0 q0_1 q0_2 q0_3
  have q0_0 := HX0.out.now.cell 0
  have q0_1 := HX0.out.now.cell 1
  have q0_2 := HX0.out.now.cell 2
  have q0_3 := HX0.out.now.cell 3
  simp only [List.getElem?_toArray, List.getElem?_cons_zero, List.getElem?_cons_succ] at q0_0 q0_1 q0_2 q0_3
  clear q1_0 q1_1 q1_2 q1_3
  have q1_0 := HX1.out.now.cell 0
  have q1_1 := HX1.out.now.cell 1
  have q1_2 := HX1.out.now.cell 2
  have q1_3 := HX1.out.now.cell 3
  simp only [List.getElem?_toArray, List.getElem?_cons_zero, List.getElem?_cons_succ] at q1_0 q1_1 q1_2 q1_3
  have HZ1 := Lib.hid (show w.heap.size + 2 ≤ w1_.heap.size by have := hb1.size; simp at this; omega)
  replace hb := hb.trans (hb1.mono hb.size)
  clear hb1
  go_wp2_with fail
  refine (LAmendment.sz _ z1 _ _ (by omega) (by omega) HA1.out.now HF1.out).mono ?_
  rintro e w2_ ⟨hb1, x, rfl, ⟨hx0, hxl⟩ | ⟨rfl, hxl⟩⟩
  · clear hxl
    go_wp2_with fail
    go_ret
    exact ⟨rfl, hb.trans (hb1.mono hb.size)⟩
  have hbud1 := hxl
  clear hxl
  have hzl1_3 : z1.words.length ≤ 1048576 := by (have h0 : LAmendment.wt z1 = (z1.words.length + LString.tot z1.words) := rfl); omega
  replace HA0 := Lib.hid (HA0.out.kept hb1)
  replace HA1 := Lib.hid (HA1.out.kept hb1)
  replace HX0 := Lib.hid (HX0.out.kept hb1)
  replace HX1 := Lib.hid (HX1.out.kept hb1)
  clear q0_0 q0_1 q0_2 q0_3
  have q0_0 := HX0.out.now.cell 0
  have q0_1 := HX0.out.now.cell 1
  have q0_2 := HX0.out.now.cell 2
  have q0_3 := HX0.out.now.cell 3
  simp only [List.getElem?_toArray, List.getElem?_cons_zero, List.getElem?_cons_succ] at q0_0 q0_1 q0_2 q0_3
  clear q1_0 q1_1 q1_2 q1_3
  have q1_0 := HX1.out.now.cell 0
  have q1_1 := HX1.out.now.cell 1
  have q1_2 := HX1.out.now.cell 2
  have q1_3 := HX1.out.now.cell 3
  simp only [List.getElem?_toArray, List.getElem?_cons_zero, List.getElem?_cons_succ] at q1_0 q1_1 q1_2 q1_3
  have HZ2 := Lib.hid hb1.size
  replace hb := hb.trans (hb1.mono hb.size)
  clear hb1
  go_wp2_with fail
  go_cut [6, 7] (fun s6 s7 wx => ∃ (r0 : Bool) (r1 : Bool), s6 = .bool r0 ∧ s7 = .bool r1 ∧ DoConflictC.Ans z0 z1 r0 r1 ∧ Below w2_.heap.size w2_ wx)
  case first =>
    have HK := Lib.hid (show ∀ w' : World, Below w2_.heap.size w2_ w' → Below w2_.heap.size w2_ w' ∧ w'.cell? ⟨w.heap.size, 0, none⟩ = some (.int .i64 z0.kind) ∧ w'.cell? ⟨w.heap.size, 1, none⟩ = some (.int .i64 z0.pos) ∧ w'.cell? ⟨w.heap.size, 2, none⟩ = some (.int .i64 z0.count) ∧ w'.cell? ⟨w.heap.size, 3, none⟩ = some (.slice a0_3 len0_3 cap0_3) ∧ w'.cell? ⟨w.heap.size + 1, 0, none⟩ = some (.int .i64 z1.kind) ∧ w'.cell? ⟨w.heap.size + 1, 1, none⟩ = some (.int .i64 z1.pos) ∧ w'.cell? ⟨w.heap.size + 1, 2, none⟩ = some (.int .i64 z1.count) ∧ w'.cell? ⟨w.heap.size + 1, 3, none⟩ = some (.slice a1_3 len1_3 cap1_3) from fun w' hb => ⟨hb, by (have h := (HX0.out.kept hb).now.cell 0); simpa using h, by (have h := (HX0.out.kept hb).now.cell 1); simpa using h, by (have h := (HX0.out.kept hb).now.cell 2); simpa using h, by (have h := (HX0.out.kept hb).now.cell 3); simpa using h, by (have h := (HX1.out.kept hb).now.cell 0); simpa using h, by (have h := (HX1.out.kept hb).now.cell 1); simpa using h, by (have h := (HX1.out.kept hb).now.cell 2); simpa using h, by (have h := (HX1.out.kept hb).now.cell 3); simpa using h⟩)
    have hB : Below w2_.heap.size w2_ w2_.drew := (Below.refl _ _).drew
    refine wp_region_held_drew (S := fun w' => Below w2_.heap.size w2_ w' ∧ w'.cell? ⟨w.heap.size, 0, none⟩ = some (.int .i64 z0.kind) ∧ w'.cell? ⟨w.heap.size, 1, none⟩ = some (.int .i64 z0.pos) ∧ w'.cell? ⟨w.heap.size, 2, none⟩ = some (.int .i64 z0.count) ∧ w'.cell? ⟨w.heap.size, 3, none⟩ = some (.slice a0_3 len0_3 cap0_3) ∧ w'.cell? ⟨w.heap.size + 1, 0, none⟩ = some (.int .i64 z1.kind) ∧ w'.cell? ⟨w.heap.size + 1, 1, none⟩ = some (.int .i64 z1.pos) ∧ w'.cell? ⟨w.heap.size + 1, 2, none⟩ = some (.int .i64 z1.count) ∧ w'.cell? ⟨w.heap.size + 1, 3, none⟩ = some (.slice a1_3 len1_3 cap1_3)) (by kernel_rfl) (HK.out _ hB) (fun hHeld => ?_)
    generalize w2_.drew = x0 at *
    refine wpAnyH_take (i := 0) (v := ?v1) rfl (by kernel_rfl) (by kernel_rfl) (by kernel_rfl) (fun _ _ _ h => h) (Or.inl ⟨by rfl, ?hy1⟩) (by assumption) ?rest1
    case hy1 => (intro wq hSw; (try dsimp only at hSw); go_split_ands; go_simp; (try with_reducible rfl))
    case rest1 =>
    refine wpAnyH_take (i := 2) (v := ?v2) rfl (by kernel_rfl) (by kernel_rfl) (by kernel_rfl) (fun _ _ _ h => h) (Or.inl ⟨by rfl, ?hy2⟩) (by assumption) ?rest2
    case hy2 => (intro wq hSw; (try dsimp only at hSw); go_split_ands; go_simp; (try with_reducible rfl))
    case rest2 =>
    refine wpAnyH_ready (rs := [1]) (by kernel_rfl) (by simp) ?_
    refine AllReadyH.cons rfl (fun K hK => ?step3) ?more3
    case step3 =>
      go_simp
      go_at_call 18
      refine (LAmendment.to _ z0 _ (HA0.out.kept hB).now (by omega)).mono ?_
      rintro e x1 ⟨u0, rfl, hn0, ho0, hbc⟩
      replace hB := hB.trans (hbc.mono hB.size)
      clear hbc
      go_wp2_with fail
      refine hK.out _ _ (HK.out _ hB) (fun hHeld => ?_)
      clear hK K
      refine wpAnyH_ready (rs := [3]) (by kernel_rfl) (by simp) ?_
      refine AllReadyH.cons rfl (fun K hK => ?step4) ?more4
      case step4 =>
        go_simp
        go_at_call 18
        refine (LAmendment.to _ z1 _ (HA1.out.kept hB).now (by omega)).mono ?_
        rintro e x2 ⟨u1, rfl, hn1, ho1, hbc⟩
        replace ho0 := ho0.kept hbc
        replace hB := hB.trans (hbc.mono hB.size)
        clear hbc
        go_wp2_with fail
        refine hK.out _ _ (HK.out _ hB) (fun hHeld => ?_)
        clear hK K
        refine wpAnyH_ready (rs := [4]) (by kernel_rfl) (by simp) ?_
        refine AllReadyH.cons rfl (fun K hK => ?step5) ?more5
        case step5 =>
          go_simp
          go_at_call 17
          refine (DoConflictC.spec u0 z0 u1 z1 _ ho0.isQ HF0.out (by omega) ho1.isQ HF1.out (by omega)).mono ?_
          rintro e x3 ⟨r0_, r1_, rfl, hans, hbc⟩
          replace ho0 := ho0.kept hbc
          replace ho1 := ho1.kept hbc
          replace hB := hB.trans (hbc.mono hB.size)
          clear hbc
          go_wp2_with fail
          refine hK.out _ _ (HK.out _ hB) (fun hHeld => ?_)
          clear hK K
          refine wpAnyH_take (i := 5) (v := ?v6) rfl (by kernel_rfl) (by kernel_rfl) (by kernel_rfl) (fun _ _ _ h => h) (Or.inl ⟨by rfl, ?hy6⟩) (by assumption) ?rest6
          case hy6 => (intro wq hSw; (try dsimp only at hSw); go_split_ands; go_simp; (try with_reducible rfl))
          case rest6 =>
          refine wpAnyH_take (i := 6) (v := ?v7) rfl (by kernel_rfl) (by kernel_rfl) (by kernel_rfl) (fun _ _ _ h => h) (Or.inl ⟨by rfl, ?hy7⟩) (by assumption) ?rest7
          case hy7 => (intro wq hSw; (try dsimp only at hSw); go_split_ands; go_simp; (try with_reducible rfl))
          case rest7 =>
          refine wpAnyH_take (i := 7) (v := ?v8) rfl (by kernel_rfl) (by kernel_rfl) (by kernel_rfl) (fun _ _ _ h => h) (Or.inl ⟨by rfl, ?hy8⟩) (by assumption) ?rest8
          case hy8 => (intro wq hSw; (try dsimp only at hSw); go_split_ands; go_simp; (try with_reducible rfl))
          case rest8 =>
          refine wpAnyH_take (i := 8) (v := ?v9) rfl (by kernel_rfl) (by kernel_rfl) (by kernel_rfl) (fun _ _ _ h => h) (Or.inl ⟨by rfl, ?hy9⟩) (by assumption) ?rest9
          case hy9 => (intro wq hSw; (try dsimp only at hSw); go_split_ands; go_simp; (try with_reducible rfl))
          case rest9 =>
          refine wpAnyH_take (i := 9) (v := ?v10) rfl (by kernel_rfl) (by kernel_rfl) (by kernel_rfl) (fun _ _ _ h => h) (Or.inl ⟨by rfl, ?hy10⟩) (by assumption) ?rest10
          case hy10 => (intro wq hSw; (try dsimp only at hSw); go_split_ands; go_simp; (try with_reducible rfl))
          case rest10 =>
          refine wpAnyH_done (by kernel_rfl) ?_ _
          go_wp2_with fail
          all_goals
            go_meet
            exact ⟨_, _, rfl, rfl, hans, hB⟩
        case more5 => exact AllReadyH.nil
      case more4 => exact AllReadyH.nil
    case more3 => exact AllReadyH.nil
  case rest =>
  obtain ⟨r0_3, r1_3, rfl, rfl, hans, hb1⟩ := hcut
  obtain ⟨w3_, hwc⟩ : ∃ x, x = wc := ⟨_, rfl⟩
  subst hwc
  have HS := Lib.hid hans
  clear hans
  replace HA0 := Lib.hid (HA0.out.kept hb1)
  replace HA1 := Lib.hid (HA1.out.kept hb1)
  replace HX0 := Lib.hid (HX0.out.kept hb1)
  replace HX1 := Lib.hid (HX1.out.kept hb1)
  clear q0_0 q0_1 q0_2 q0_3
  have q0_0 := HX0.out.now.cell 0
  have q0_1 := HX0.out.now.cell 1
  have q0_2 := HX0.out.now.cell 2
  have q0_3 := HX0.out.now.cell 3
  simp only [List.getElem?_toArray, List.getElem?_cons_zero, List.getElem?_cons_succ] at q0_0 q0_1 q0_2 q0_3
  clear q1_0 q1_1 q1_2 q1_3
  have q1_0 := HX1.out.now.cell 0
  have q1_1 := HX1.out.now.cell 1
  have q1_2 := HX1.out.now.cell 2
  have q1_3 := HX1.out.now.cell 3
  simp only [List.getElem?_toArray, List.getElem?_cons_zero, List.getElem?_cons_succ] at q1_0 q1_1 q1_2 q1_3
  have HZ3 := Lib.hid hb1.size
  replace hb := hb.trans (hb1.mono hb.size)
  clear hb1
  have hne0 : (r0_3 != r0_3) = false := by simp
  have hne1 : (r1_3 != r1_3) = false := by simp
  go_wp2_with fail
  refine (LAmendment.to _ z0 _ HA0.out.now (by omega)).mono ?_
  rintro e w4_ ⟨u4, rfl, hnn4, ho, hb1⟩
  replace hnn4 := Lib.hid hnn4
  have HC4 := Lib.hid ho.loc
  clear ho
  replace HA0 := Lib.hid (HA0.out.kept hb1)
  replace HA1 := Lib.hid (HA1.out.kept hb1)
  replace HX0 := Lib.hid (HX0.out.kept hb1)
  replace HX1 := Lib.hid (HX1.out.kept hb1)
  clear q0_0 q0_1 q0_2 q0_3
  have q0_0 := HX0.out.now.cell 0
  have q0_1 := HX0.out.now.cell 1
  have q0_2 := HX0.out.now.cell 2
  have q0_3 := HX0.out.now.cell 3
  simp only [List.getElem?_toArray, List.getElem?_cons_zero, List.getElem?_cons_succ] at q0_0 q0_1 q0_2 q0_3
  clear q1_0 q1_1 q1_2 q1_3
  have q1_0 := HX1.out.now.cell 0
  have q1_1 := HX1.out.now.cell 1
  have q1_2 := HX1.out.now.cell 2
  have q1_3 := HX1.out.now.cell 3
  simp only [List.getElem?_toArray, List.getElem?_cons_zero, List.getElem?_cons_succ] at q1_0 q1_1 q1_2 q1_3
  have HZ4 := Lib.hid hb1.size
  replace hb := hb.trans (hb1.mono hb.size)
  clear hb1
  obtain ⟨fa4_3, fn4_3, fc4_3, rfl⟩ := HC4.out.now.1.form
  have o0_0 := q0_0
  have o0_1 := q0_1
  have o0_2 := q0_2
  have o0_3 := q0_3
  have ol0 := HX0.out.le
  have o1_0 := q1_0
  have o1_1 := q1_1
  have o1_2 := q1_2
  have o1_3 := q1_3
  have ol1 := HX1.out.le
  have hbx := (Below.refl w4_.heap.size w4_).alloc (Nat.le_refl _) (Obj.cells #[.int .i64 z0.kind, .int .i64 z0.pos, .int .i64 z0.count, .slice fa4_3 fn4_3 fc4_3] 38)
  replace HA0 := Lib.hid (HA0.out.kept hbx)
  replace HA1 := Lib.hid (HA1.out.kept hbx)
  replace HX0 := Lib.hid (HX0.out.kept hbx)
  replace HX1 := Lib.hid (HX1.out.kept hbx)
  replace HC4 := Lib.hid (HC4.out.kept hbx)
  have HXx0 := Lib.hid (Bx.loc (Bx.new w4_ 38 #[.int .i64 z0.kind, .int .i64 z0.pos, .int .i64 z0.count, .slice fa4_3 fn4_3 fc4_3]))
  have HZ5 := Lib.hid (show w4_.heap.size + 1 ≤ (w4_.alloc (Obj.cells #[.int .i64 z0.kind, .int .i64 z0.pos, .int .i64 z0.count, .slice fa4_3 fn4_3 fc4_3] 38)).heap.size by simp)
  replace hb := hb.trans (hbx.mono hb.size)
  clear hbx
  clear q0_0 q0_1 q0_2 q0_3
  have q0_0 := HX0.out.now.cell 0
  have q0_1 := HX0.out.now.cell 1
  have q0_2 := HX0.out.now.cell 2
  have q0_3 := HX0.out.now.cell 3
  simp only [List.getElem?_toArray, List.getElem?_cons_zero, List.getElem?_cons_succ] at q0_0 q0_1 q0_2 q0_3
  clear q1_0 q1_1 q1_2 q1_3
  have q1_0 := HX1.out.now.cell 0
  have q1_1 := HX1.out.now.cell 1
  have q1_2 := HX1.out.now.cell 2
  have q1_3 := HX1.out.now.cell 3
  simp only [List.getElem?_toArray, List.getElem?_cons_zero, List.getElem?_cons_succ] at q1_0 q1_1 q1_2 q1_3
  have qx0_0 := HXx0.out.now.cell 0
  have qx0_1 := HXx0.out.now.cell 1
  have qx0_2 := HXx0.out.now.cell 2
  have qx0_3 := HXx0.out.now.cell 3
  simp only [List.getElem?_toArray, List.getElem?_cons_zero, List.getElem?_cons_succ] at qx0_0 qx0_1 qx0_2 qx0_3
  go_wp2_with fail
  clear o0_0 o0_1 o0_2 o0_3 ol0 o1_0 o1_1 o1_2 o1_3 ol1
  generalize w4_.alloc (Obj.cells #[.int .i64 z0.kind, .int .i64 z0.pos, .int .i64 z0.count, .slice fa4_3 fn4_3 fc4_3] 38) = w5_ at *
  refine (LAmendment.to _ z1 _ HA1.out.now (by omega)).mono ?_
  rintro e w6_ ⟨u6, rfl, hnn6, ho, hb1⟩
  replace hnn6 := Lib.hid hnn6
  have HC6 := Lib.hid ho.loc
  clear ho
  replace HA0 := Lib.hid (HA0.out.kept hb1)
  replace HA1 := Lib.hid (HA1.out.kept hb1)
  replace HX0 := Lib.hid (HX0.out.kept hb1)
  replace HX1 := Lib.hid (HX1.out.kept hb1)
  replace HC4 := Lib.hid (HC4.out.kept hb1)
  replace HXx0 := Lib.hid (HXx0.out.kept hb1)
  clear q0_0 q0_1 q0_2 q0_3
  have q0_0 := HX0.out.now.cell 0
  have q0_1 := HX0.out.now.cell 1
  have q0_2 := HX0.out.now.cell 2
  have q0_3 := HX0.out.now.cell 3
  simp only [List.getElem?_toArray, List.getElem?_cons_zero, List.getElem?_cons_succ] at q0_0 q0_1 q0_2 q0_3
  clear q1_0 q1_1 q1_2 q1_3
  have q1_0 := HX1.out.now.cell 0
  have q1_1 := HX1.out.now.cell 1
  have q1_2 := HX1.out.now.cell 2
  have q1_3 := HX1.out.now.cell 3
  simp only [List.getElem?_toArray, List.getElem?_cons_zero, List.getElem?_cons_succ] at q1_0 q1_1 q1_2 q1_3
  clear qx0_0 qx0_1 qx0_2 qx0_3
  have qx0_0 := HXx0.out.now.cell 0
  have qx0_1 := HXx0.out.now.cell 1
  have qx0_2 := HXx0.out.now.cell 2
  have qx0_3 := HXx0.out.now.cell 3
  simp only [List.getElem?_toArray, List.getElem?_cons_zero, List.getElem?_cons_succ] at qx0_0 qx0_1 qx0_2 qx0_3
  have HZ6 := Lib.hid hb1.size
  replace hb := hb.trans (hb1.mono hb.size)
  clear hb1
  obtain ⟨fa6_3, fn6_3, fc6_3, rfl⟩ := HC6.out.now.1.form
  have o0_0 := q0_0
  have o0_1 := q0_1
  have o0_2 := q0_2
  have o0_3 := q0_3
  have ol0 := HX0.out.le
  have o1_0 := q1_0
  have o1_1 := q1_1
  have o1_2 := q1_2
  have o1_3 := q1_3
  have ol1 := HX1.out.le
  have ox0_0 := qx0_0
  have ox0_1 := qx0_1
  have ox0_2 := qx0_2
  have ox0_3 := qx0_3
  have olx0 := HXx0.out.le
  have hbx := (Below.refl w6_.heap.size w6_).alloc (Nat.le_refl _) (Obj.cells #[.int .i64 z1.kind, .int .i64 z1.pos, .int .i64 z1.count, .slice fa6_3 fn6_3 fc6_3] 38)
  replace HA0 := Lib.hid (HA0.out.kept hbx)
  replace HA1 := Lib.hid (HA1.out.kept hbx)
  replace HX0 := Lib.hid (HX0.out.kept hbx)
  replace HX1 := Lib.hid (HX1.out.kept hbx)
  replace HC4 := Lib.hid (HC4.out.kept hbx)
  replace HXx0 := Lib.hid (HXx0.out.kept hbx)
  replace HC6 := Lib.hid (HC6.out.kept hbx)
  have HXx1 := Lib.hid (Bx.loc (Bx.new w6_ 38 #[.int .i64 z1.kind, .int .i64 z1.pos, .int .i64 z1.count, .slice fa6_3 fn6_3 fc6_3]))
  have HZ7 := Lib.hid (show w6_.heap.size + 1 ≤ (w6_.alloc (Obj.cells #[.int .i64 z1.kind, .int .i64 z1.pos, .int .i64 z1.count, .slice fa6_3 fn6_3 fc6_3] 38)).heap.size by simp)
  replace hb := hb.trans (hbx.mono hb.size)
  clear hbx
  clear q0_0 q0_1 q0_2 q0_3
  have q0_0 := HX0.out.now.cell 0
  have q0_1 := HX0.out.now.cell 1
  have q0_2 := HX0.out.now.cell 2
  have q0_3 := HX0.out.now.cell 3
  simp only [List.getElem?_toArray, List.getElem?_cons_zero, List.getElem?_cons_succ] at q0_0 q0_1 q0_2 q0_3
  clear q1_0 q1_1 q1_2 q1_3
  have q1_0 := HX1.out.now.cell 0
  have q1_1 := HX1.out.now.cell 1
  have q1_2 := HX1.out.now.cell 2
  have q1_3 := HX1.out.now.cell 3
  simp only [List.getElem?_toArray, List.getElem?_cons_zero, List.getElem?_cons_succ] at q1_0 q1_1 q1_2 q1_3
  clear qx0_0 qx0_1 qx0_2 qx0_3
  have qx0_0 := HXx0.out.now.cell 0
  have qx0_1 := HXx0.out.now.cell 1
  have qx0_2 := HXx0.out.now.cell 2
  have qx0_3 := HXx0.out.now.cell 3
  simp only [List.getElem?_toArray, List.getElem?_cons_zero, List.getElem?_cons_succ] at qx0_0 qx0_1 qx0_2 qx0_3
  have qx1_0 := HXx1.out.now.cell 0
  have qx1_1 := HXx1.out.now.cell 1
  have qx1_2 := HXx1.out.now.cell 2
  have qx1_3 := HXx1.out.now.cell 3
  simp only [List.getElem?_toArray, List.getElem?_cons_zero, List.getElem?_cons_succ] at qx1_0 qx1_1 qx1_2 qx1_3
  go_wp2_with fail
  clear o0_0 o0_1 o0_2 o0_3 ol0 o1_0 o1_1 o1_2 o1_3 ol1 ox0_0 ox0_1 ox0_2 ox0_3 olx0
  generalize w6_.alloc (Obj.cells #[.int .i64 z1.kind, .int .i64 z1.pos, .int .i64 z1.count, .slice fa6_3 fn6_3 fc6_3] 38) = w7_ at *
  refine (DoConflictC.impl _ z0 _ z1 _ (HC4.out.now.1.isQ) HF0.out (by omega) (HC6.out.now.1.isQ) HF1.out (by omega)).mono ?_
  rintro e w8_ ⟨r0_8, r1_8, rfl, hans, hb1⟩
  obtain ⟨rfl, rfl⟩ := DoConflictC.same HS.out hans
  clear hans
  replace HA0 := Lib.hid (HA0.out.kept hb1)
  replace HA1 := Lib.hid (HA1.out.kept hb1)
  replace HX0 := Lib.hid (HX0.out.kept hb1)
  replace HX1 := Lib.hid (HX1.out.kept hb1)
  replace HC4 := Lib.hid (HC4.out.kept hb1)
  replace HXx0 := Lib.hid (HXx0.out.kept hb1)
  replace HC6 := Lib.hid (HC6.out.kept hb1)
  replace HXx1 := Lib.hid (HXx1.out.kept hb1)
  clear q0_0 q0_1 q0_2 q0_3
  have q0_0 := HX0.out.now.cell 0
  have q0_1 := HX0.out.now.cell 1
  have q0_2 := HX0.out.now.cell 2
  have q0_3 := HX0.out.now.cell 3
  simp only [List.getElem?_toArray, List.getElem?_cons_zero, List.getElem?_cons_succ] at q0_0 q0_1 q0_2 q0_3
  clear q1_0 q1_1 q1_2 q1_3
  have q1_0 := HX1.out.now.cell 0
  have q1_1 := HX1.out.now.cell 1
  have q1_2 := HX1.out.now.cell 2
  have q1_3 := HX1.out.now.cell 3
  simp only [List.getElem?_toArray, List.getElem?_cons_zero, List.getElem?_cons_succ] at q1_0 q1_1 q1_2 q1_3
  clear qx0_0 qx0_1 qx0_2 qx0_3
  have qx0_0 := HXx0.out.now.cell 0
  have qx0_1 := HXx0.out.now.cell 1
  have qx0_2 := HXx0.out.now.cell 2
  have qx0_3 := HXx0.out.now.cell 3
  simp only [List.getElem?_toArray, List.getElem?_cons_zero, List.getElem?_cons_succ] at qx0_0 qx0_1 qx0_2 qx0_3
  clear qx1_0 qx1_1 qx1_2 qx1_3
  have qx1_0 := HXx1.out.now.cell 0
  have qx1_1 := HXx1.out.now.cell 1
  have qx1_2 := HXx1.out.now.cell 2
  have qx1_3 := HXx1.out.now.cell 3
  simp only [List.getElem?_toArray, List.getElem?_cons_zero, List.getElem?_cons_succ] at qx1_0 qx1_1 qx1_2 qx1_3
  have HZ8 := Lib.hid hb1.size
  replace hb := hb.trans (hb1.mono hb.size)
  clear hb1
  go_wp2_with fail
  go_cut [52] (fun t wx => t = .bool false ∧ Below w8_.heap.size w8_ wx)
  case first =>
    have hlt0 : w.heap.size < w8_.heap.size := HX0.out.le
    have hltx0 : w4_.heap.size < w8_.heap.size := HXx0.out.le
    have HK := Lib.hid (show ∀ w' : World, Below w8_.heap.size w8_ w' → Below w8_.heap.size w8_ w' ∧ w'.cell? ⟨w.heap.size, 0, none⟩ = some (.int .i64 z0.kind) ∧ w'.cell? ⟨w.heap.size, 1, none⟩ = some (.int .i64 z0.pos) ∧ w'.cell? ⟨w.heap.size, 2, none⟩ = some (.int .i64 z0.count) ∧ w'.cell? ⟨w.heap.size, 3, none⟩ = some (.slice a0_3 len0_3 cap0_3) ∧ w'.cell? ⟨w4_.heap.size, 0, none⟩ = some (.int .i64 z0.kind) ∧ w'.cell? ⟨w4_.heap.size, 1, none⟩ = some (.int .i64 z0.pos) ∧ w'.cell? ⟨w4_.heap.size, 2, none⟩ = some (.int .i64 z0.count) ∧ w'.cell? ⟨w4_.heap.size, 3, none⟩ = some (.slice fa4_3 fn4_3 fc4_3) from fun w' hb => ⟨hb, by rw [hb.cell (by assumption)]; exact q0_0, by rw [hb.cell (by assumption)]; exact q0_1, by rw [hb.cell (by assumption)]; exact q0_2, by rw [hb.cell (by assumption)]; exact q0_3, by rw [hb.cell (by assumption)]; exact qx0_0, by rw [hb.cell (by assumption)]; exact qx0_1, by rw [hb.cell (by assumption)]; exact qx0_2, by rw [hb.cell (by assumption)]; exact qx0_3⟩)
    go_region_held3 (fun w' => Below w8_.heap.size w8_ w' ∧ w'.cell? ⟨w.heap.size, 0, none⟩ = some (.int .i64 z0.kind) ∧ w'.cell? ⟨w.heap.size, 1, none⟩ = some (.int .i64 z0.pos) ∧ w'.cell? ⟨w.heap.size, 2, none⟩ = some (.int .i64 z0.count) ∧ w'.cell? ⟨w.heap.size, 3, none⟩ = some (.slice a0_3 len0_3 cap0_3) ∧ w'.cell? ⟨w4_.heap.size, 0, none⟩ = some (.int .i64 z0.kind) ∧ w'.cell? ⟨w4_.heap.size, 1, none⟩ = some (.int .i64 z0.pos) ∧ w'.cell? ⟨w4_.heap.size, 2, none⟩ = some (.int .i64 z0.count) ∧ w'.cell? ⟨w4_.heap.size, 3, none⟩ = some (.slice fa4_3 fn4_3 fc4_3)) ((refine HK.out _ ?_; (repeat (first | assumption | exact Below.refl _ _ | refine Below.drew ?_ | refine Below.alloc ?_ (by first | (simp; done) | (simp; omega) | omega) _)))) (first | ((go_at_call 18; refine (LAmendment.to _ z0 _ (HA0.out.kept (by (repeat (first | assumption | exact Below.refl _ _ | refine Below.drew ?_ | refine Below.alloc ?_ (by first | (simp; done) | (simp; omega) | omega) _)))).now (by omega)).mono ?_; rintro e wt ⟨u, rfl, hn, ho, hbt⟩; have hB : Below w8_.heap.size w8_ wt := Below.trans (by (repeat (first | assumption | exact Below.refl _ _ | refine Below.drew ?_ | refine Below.alloc ?_ (by first | (simp; done) | (simp; omega) | omega) _))) (hbt.mono (by first | (simp; done) | (simp; omega) | omega)); have hz := hB.size)) | ((go_at_call 20; refine (LAmendment.eq _ _ z0 _ (HC4.out.kept (by first | assumption | (refine Below.drew ?_; assumption) | (repeat (first | assumption | exact Below.refl _ _ | refine Below.drew ?_ | refine Below.alloc ?_ (by first | (simp; done) | (simp; omega) | omega) _)))).now.1.is (by first | exact ho.is | exact (ho.kept (by first | assumption | exact (Below.refl _ _).drew)).is)).mono ?_; rintro e wz ⟨rfl, hbz⟩; have hBz : Below w8_.heap.size w8_ wz := Below.trans (by (repeat (first | assumption | exact Below.refl _ _ | refine Below.drew ?_ | refine Below.alloc ?_ (by first | (simp; done) | (simp; omega) | omega) _))) (hbz.mono (by first | (simp; done) | (simp; omega) | omega)); have hzz := hBz.size)) | fail)
    all_goals (go_wp2_with fail; go_meet; exact ⟨rfl, hBz⟩)
  case rest =>
  obtain ⟨rfl, hb1⟩ := hcut
  obtain ⟨w9_, hwc⟩ : ∃ x, x = wc := ⟨_, rfl⟩
  subst hwc
  replace HA0 := Lib.hid (HA0.out.kept hb1)
  replace HA1 := Lib.hid (HA1.out.kept hb1)
  replace HX0 := Lib.hid (HX0.out.kept hb1)
  replace HX1 := Lib.hid (HX1.out.kept hb1)
  replace HC4 := Lib.hid (HC4.out.kept hb1)
  replace HXx0 := Lib.hid (HXx0.out.kept hb1)
  replace HC6 := Lib.hid (HC6.out.kept hb1)
  replace HXx1 := Lib.hid (HXx1.out.kept hb1)
  clear q0_0 q0_1 q0_2 q0_3
  have q0_0 := HX0.out.now.cell 0
  have q0_1 := HX0.out.now.cell 1
  have q0_2 := HX0.out.now.cell 2
  have q0_3 := HX0.out.now.cell 3
  simp only [List.getElem?_toArray, List.getElem?_cons_zero, List.getElem?_cons_succ] at q0_0 q0_1 q0_2 q0_3
  clear q1_0 q1_1 q1_2 q1_3
  have q1_0 := HX1.out.now.cell 0
  have q1_1 := HX1.out.now.cell 1
  have q1_2 := HX1.out.now.cell 2
  have q1_3 := HX1.out.now.cell 3
  simp only [List.getElem?_toArray, List.getElem?_cons_zero, List.getElem?_cons_succ] at q1_0 q1_1 q1_2 q1_3
  clear qx0_0 qx0_1 qx0_2 qx0_3
  have qx0_0 := HXx0.out.now.cell 0
  have qx0_1 := HXx0.out.now.cell 1
  have qx0_2 := HXx0.out.now.cell 2
  have qx0_3 := HXx0.out.now.cell 3
  simp only [List.getElem?_toArray, List.getElem?_cons_zero, List.getElem?_cons_succ] at qx0_0 qx0_1 qx0_2 qx0_3
  clear qx1_0 qx1_1 qx1_2 qx1_3
  have qx1_0 := HXx1.out.now.cell 0
  have qx1_1 := HXx1.out.now.cell 1
  have qx1_2 := HXx1.out.now.cell 2
  have qx1_3 := HXx1.out.now.cell 3
  simp only [List.getElem?_toArray, List.getElem?_cons_zero, List.getElem?_cons_succ] at qx1_0 qx1_1 qx1_2 qx1_3
  have HZ9 := Lib.hid hb1.size
  replace hb := hb.trans (hb1.mono hb.size)
  clear hb1
  go_wp2_with fail
  go_cut [57] (fun t wx => t = .bool false ∧ Below w9_.heap.size w9_ wx)
  case first =>
    have hlt1 : w.heap.size + 1 < w9_.heap.size := HX1.out.le
    have hltx1 : w6_.heap.size < w9_.heap.size := HXx1.out.le
    have HK := Lib.hid (show ∀ w' : World, Below w9_.heap.size w9_ w' → Below w9_.heap.size w9_ w' ∧ w'.cell? ⟨w.heap.size + 1, 0, none⟩ = some (.int .i64 z1.kind) ∧ w'.cell? ⟨w.heap.size + 1, 1, none⟩ = some (.int .i64 z1.pos) ∧ w'.cell? ⟨w.heap.size + 1, 2, none⟩ = some (.int .i64 z1.count) ∧ w'.cell? ⟨w.heap.size + 1, 3, none⟩ = some (.slice a1_3 len1_3 cap1_3) ∧ w'.cell? ⟨w6_.heap.size, 0, none⟩ = some (.int .i64 z1.kind) ∧ w'.cell? ⟨w6_.heap.size, 1, none⟩ = some (.int .i64 z1.pos) ∧ w'.cell? ⟨w6_.heap.size, 2, none⟩ = some (.int .i64 z1.count) ∧ w'.cell? ⟨w6_.heap.size, 3, none⟩ = some (.slice fa6_3 fn6_3 fc6_3) from fun w' hb => ⟨hb, by rw [hb.cell (by assumption)]; exact q1_0, by rw [hb.cell (by assumption)]; exact q1_1, by rw [hb.cell (by assumption)]; exact q1_2, by rw [hb.cell (by assumption)]; exact q1_3, by rw [hb.cell (by assumption)]; exact qx1_0, by rw [hb.cell (by assumption)]; exact qx1_1, by rw [hb.cell (by assumption)]; exact qx1_2, by rw [hb.cell (by assumption)]; exact qx1_3⟩)
    go_region_held3 (fun w' => Below w9_.heap.size w9_ w' ∧ w'.cell? ⟨w.heap.size + 1, 0, none⟩ = some (.int .i64 z1.kind) ∧ w'.cell? ⟨w.heap.size + 1, 1, none⟩ = some (.int .i64 z1.pos) ∧ w'.cell? ⟨w.heap.size + 1, 2, none⟩ = some (.int .i64 z1.count) ∧ w'.cell? ⟨w.heap.size + 1, 3, none⟩ = some (.slice a1_3 len1_3 cap1_3) ∧ w'.cell? ⟨w6_.heap.size, 0, none⟩ = some (.int .i64 z1.kind) ∧ w'.cell? ⟨w6_.heap.size, 1, none⟩ = some (.int .i64 z1.pos) ∧ w'.cell? ⟨w6_.heap.size, 2, none⟩ = some (.int .i64 z1.count) ∧ w'.cell? ⟨w6_.heap.size, 3, none⟩ = some (.slice fa6_3 fn6_3 fc6_3)) ((refine HK.out _ ?_; (repeat (first | assumption | exact Below.refl _ _ | refine Below.drew ?_ | refine Below.alloc ?_ (by first | (simp; done) | (simp; omega) | omega) _)))) (first | ((go_at_call 18; refine (LAmendment.to _ z1 _ (HA1.out.kept (by (repeat (first | assumption | exact Below.refl _ _ | refine Below.drew ?_ | refine Below.alloc ?_ (by first | (simp; done) | (simp; omega) | omega) _)))).now (by omega)).mono ?_; rintro e wt ⟨u, rfl, hn, ho, hbt⟩; have hB : Below w9_.heap.size w9_ wt := Below.trans (by (repeat (first | assumption | exact Below.refl _ _ | refine Below.drew ?_ | refine Below.alloc ?_ (by first | (simp; done) | (simp; omega) | omega) _))) (hbt.mono (by first | (simp; done) | (simp; omega) | omega)); have hz := hB.size)) | ((go_at_call 20; refine (LAmendment.eq _ _ z1 _ (HC6.out.kept (by first | assumption | (refine Below.drew ?_; assumption) | (repeat (first | assumption | exact Below.refl _ _ | refine Below.drew ?_ | refine Below.alloc ?_ (by first | (simp; done) | (simp; omega) | omega) _)))).now.1.is (by first | exact ho.is | exact (ho.kept (by first | assumption | exact (Below.refl _ _).drew)).is)).mono ?_; rintro e wz ⟨rfl, hbz⟩; have hBz : Below w9_.heap.size w9_ wz := Below.trans (by (repeat (first | assumption | exact Below.refl _ _ | refine Below.drew ?_ | refine Below.alloc ?_ (by first | (simp; done) | (simp; omega) | omega) _))) (hbz.mono (by first | (simp; done) | (simp; omega) | omega)); have hzz := hBz.size)) | fail)
    all_goals (go_wp2_with fail; go_meet; exact ⟨rfl, hBz⟩)
  case rest =>
  obtain ⟨rfl, hb1⟩ := hcut
  obtain ⟨w10_, hwc⟩ : ∃ x, x = wc := ⟨_, rfl⟩
  subst hwc
  replace HA0 := Lib.hid (HA0.out.kept hb1)
  replace HA1 := Lib.hid (HA1.out.kept hb1)
  replace HX0 := Lib.hid (HX0.out.kept hb1)
  replace HX1 := Lib.hid (HX1.out.kept hb1)
  replace HC4 := Lib.hid (HC4.out.kept hb1)
  replace HXx0 := Lib.hid (HXx0.out.kept hb1)
  replace HC6 := Lib.hid (HC6.out.kept hb1)
  replace HXx1 := Lib.hid (HXx1.out.kept hb1)
  clear q0_0 q0_1 q0_2 q0_3
  have q0_0 := HX0.out.now.cell 0
  have q0_1 := HX0.out.now.cell 1
  have q0_2 := HX0.out.now.cell 2
  have q0_3 := HX0.out.now.cell 3
  simp only [List.getElem?_toArray, List.getElem?_cons_zero, List.getElem?_cons_succ] at q0_0 q0_1 q0_2 q0_3
  clear q1_0 q1_1 q1_2 q1_3
  have q1_0 := HX1.out.now.cell 0
  have q1_1 := HX1.out.now.cell 1
  have q1_2 := HX1.out.now.cell 2
  have q1_3 := HX1.out.now.cell 3
  simp only [List.getElem?_toArray, List.getElem?_cons_zero, List.getElem?_cons_succ] at q1_0 q1_1 q1_2 q1_3
  clear qx0_0 qx0_1 qx0_2 qx0_3
  have qx0_0 := HXx0.out.now.cell 0
  have qx0_1 := HXx0.out.now.cell 1
  have qx0_2 := HXx0.out.now.cell 2
  have qx0_3 := HXx0.out.now.cell 3
  simp only [List.getElem?_toArray, List.getElem?_cons_zero, List.getElem?_cons_succ] at qx0_0 qx0_1 qx0_2 qx0_3
  clear qx1_0 qx1_1 qx1_2 qx1_3
  have qx1_0 := HXx1.out.now.cell 0
  have qx1_1 := HXx1.out.now.cell 1
  have qx1_2 := HXx1.out.now.cell 2
  have qx1_3 := HXx1.out.now.cell 3
  simp only [List.getElem?_toArray, List.getElem?_cons_zero, List.getElem?_cons_succ] at qx1_0 qx1_1 qx1_2 qx1_3
  have HZ10 := Lib.hid hb1.size
  replace hb := hb.trans (hb1.mono hb.size)
  clear hb1
  go_wp2_with fail
  go_ret
  exact ⟨rfl, hb⟩
end Go.Proofs.Ytclpdpfnlmfogaa.fnExactDoConflict
