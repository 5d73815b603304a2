/- FnExactAddTallies: the law's walk, for every record, every record. -/
import Derived.Test.YtkdiedmbikkbiaaAddTalliesC
import Derived.Test.YtkdiedmbikkbiaaBx
import Derived.Test.YtkdiedmbikkbiaaLTallyD
import Derived.Test.YtkdiedmbikkbiaaLTallyE
import Derived.Test.YtkdiedmbikkbiaaLTallyO
import Derived.Test.YtkdiedmbikkbiaaLTallyT
import Derived.Test.YtkdiedmbikkbiaaLTallyZ
import Derived.Deep.RegionHeld3
import Derived.Deep.DeepCutAuto
import Derived.Test.YtkdiedmbikkbiaaHeld
import Derived.Test.YtkdiedmbikkbiaaBx
namespace Go.Proofs.Ytkdiedmbikkbiaa.fnExactAddTallies
open Go.RowKit Bs
set_option linter.unusedVariables false
set_option maxRecDepth 100000 in
set_option maxHeartbeats 12800000 in
theorem walk (a0 : LTally.R) (a1 : LTally.R) (w : World) (sh : w.ShapedOpen Try.prog) (w0 : LTally.Fit a0) (w1 : LTally.Fit a1) :
    Calls Try.prog 7 #[.agg #[.int .i64 a0.yes, .int .i64 a0.no, .int .i64 a0.abstain], .agg #[.int .i64 a1.yes, .int .i64 a1.no, .int .i64 a1.abstain]] w fun e w' => e = .returned (.bool true) ∧ Below w.heap.size w w' := by
  have HF0 := Lib.hid (LTally.fine_of w0)
  have HF1 := Lib.hid (LTally.fine_of w1)
  clear sh w0 w1
  go_enter Try.func7, Try.ntmps7
  have HX0 := Lib.hid (Bs.boxLoc LTally.rec (LTally.box w a0 23))
  have hb := (Below.refl w.heap.size w).alloc (Nat.le_refl _) (Obj.cells #[.int .i64 a0.yes, .int .i64 a0.no, .int .i64 a0.abstain] 23)
  replace HX0 := Lib.hid (HX0.out.alloc (.cells #[.int .i64 a1.yes, .int .i64 a1.no, .int .i64 a1.abstain] 23))
  have HX1 := Lib.hid (Bs.boxLoc LTally.rec (LTally.box (w.alloc (.cells #[.int .i64 a0.yes, .int .i64 a0.no, .int .i64 a0.abstain] 23)) a1 23))
  replace hb := hb.alloc hb.size (Obj.cells #[.int .i64 a1.yes, .int .i64 a1.no, .int .i64 a1.abstain] 23)
  obtain ⟨q0_0, q0_1, q0_2⟩ := LTally.cells0 HX0.out.now
  obtain ⟨q1_0, q1_1, q1_2⟩ := LTally.cells0 HX1.out.now
  go_upto_region 1 with fail
  simp only [World.size_alloc] at HX1 q1_0 q1_1 q1_2
  obtain ⟨w00, hw00⟩ : ∃ x, x = (w.alloc (.cells #[.int .i64 a0.yes, .int .i64 a0.no, .int .i64 a0.abstain] 23)).alloc (.cells #[.int .i64 a1.yes, .int .i64 a1.no, .int .i64 a1.abstain] 23) := ⟨_, rfl⟩
  rw [← hw00]
  rw [← hw00] at HX0
  rw [← hw00] at HX1
  rw [← hw00] at hb
  rw [← hw00] at q0_0 q0_1 q0_2 q1_0 q1_1 q1_2
  have HZ0 := Lib.hid (show w.heap.size + 2 ≤ w00.heap.size by rw [hw00]; simp)
  clear hw00
  go_cut [5, 6] (fun s5 s6 wx => ∃ (g0 : Nat) (r0 : LTally.R) (r1 : Bool), s5 = .pointer (some ⟨g0, 0, none⟩) ∧ s6 = .bool r1 ∧ AddTalliesC.Ans a0 a1 r0 r1 ∧ Hid (Bx wx g0 25 #[.int .i64 r0.yes, .int .i64 r0.no, .int .i64 r0.abstain]) ∧ Below w00.heap.size w00 wx)
  case first =>
    have HK := Lib.hid (show ∀ w' : World, Below w00.heap.size w00 w' → Below w00.heap.size w00 w' ∧ w'.cell? ⟨w.heap.size, 0, none⟩ = some (.int .i64 a0.yes) ∧ w'.cell? ⟨w.heap.size, 1, none⟩ = some (.int .i64 a0.no) ∧ w'.cell? ⟨w.heap.size, 2, none⟩ = some (.int .i64 a0.abstain) ∧ w'.cell? ⟨w.heap.size + 1, 0, none⟩ = some (.int .i64 a1.yes) ∧ w'.cell? ⟨w.heap.size + 1, 1, none⟩ = some (.int .i64 a1.no) ∧ w'.cell? ⟨w.heap.size + 1, 2, none⟩ = some (.int .i64 a1.abstain) from fun w' hb => ⟨hb, by rw [hb.cell (p := ⟨w.heap.size, 0, none⟩) (by have := HX0.out.le; show w.heap.size < _; omega)]; exact q0_0, by rw [hb.cell (p := ⟨w.heap.size, 1, none⟩) (by have := HX0.out.le; show w.heap.size < _; omega)]; exact q0_1, by rw [hb.cell (p := ⟨w.heap.size, 2, none⟩) (by have := HX0.out.le; show w.heap.size < _; omega)]; exact q0_2, by rw [hb.cell (p := ⟨w.heap.size + 1, 0, none⟩) (by have := HX1.out.le; show w.heap.size + 1 < _; omega)]; exact q1_0, by rw [hb.cell (p := ⟨w.heap.size + 1, 1, none⟩) (by have := HX1.out.le; show w.heap.size + 1 < _; omega)]; exact q1_1, by rw [hb.cell (p := ⟨w.heap.size + 1, 2, none⟩) (by have := HX1.out.le; show w.heap.size + 1 < _; omega)]; exact q1_2⟩)
    have hB : Below w00.heap.size w00 w00.drew := (Below.refl _ _).drew
    refine wp_region_held_drew (S := fun w' => Below w00.heap.size w00 w' ∧ w'.cell? ⟨w.heap.size, 0, none⟩ = some (.int .i64 a0.yes) ∧ w'.cell? ⟨w.heap.size, 1, none⟩ = some (.int .i64 a0.no) ∧ w'.cell? ⟨w.heap.size, 2, none⟩ = some (.int .i64 a0.abstain) ∧ w'.cell? ⟨w.heap.size + 1, 0, none⟩ = some (.int .i64 a1.yes) ∧ w'.cell? ⟨w.heap.size + 1, 1, none⟩ = some (.int .i64 a1.no) ∧ w'.cell? ⟨w.heap.size + 1, 2, none⟩ = some (.int .i64 a1.abstain)) (by kernel_rfl) (HK.out _ hB) (fun hHeld => ?_)
    generalize w00.drew = x0 at *
    refine wpAnyH_take (i := 0) (v := ?v1) rfl (by kernel_rfl) (by kernel_rfl) (by kernel_rfl) (fun _ _ _ h => h) (Or.inl ⟨by rfl, ?hy1⟩) (by assumption) ?rest1
    case hy1 => (intro wq hSw; (try dsimp only at hSw); go_split_ands; go_simp; (try with_reducible rfl))
    case rest1 =>
    refine wpAnyH_take (i := 2) (v := ?v2) rfl (by kernel_rfl) (by kernel_rfl) (by kernel_rfl) (fun _ _ _ h => h) (Or.inl ⟨by rfl, ?hy2⟩) (by assumption) ?rest2
    case hy2 => (intro wq hSw; (try dsimp only at hSw); go_split_ands; go_simp; (try with_reducible rfl))
    case rest2 =>
    refine wpAnyH_ready (rs := [1, 8]) (by kernel_rfl) (by simp) ?_
    refine AllReadyH.cons rfl (fun K hK => ?step3) ?more3
    case step3 =>
      go_simp
      go_at_call 12
      refine (LTally.to a0 _).mono ?_
      rintro e x1 ⟨rfl, hbc⟩
      replace hB := hB.trans (hbc.mono hB.size)
      clear hbc
      go_wp2_with fail
      refine hK.out _ _ (HK.out _ hB) (fun hHeld => ?_)
      clear hK K
      refine wpAnyH_ready (rs := [3, 8]) (by kernel_rfl) (by simp) ?_
      refine AllReadyH.cons rfl (fun K hK => ?step4) ?more4
      case step4 =>
        go_simp
        go_at_call 12
        refine (LTally.to a1 _).mono ?_
        rintro e x2 ⟨rfl, hbc⟩
        replace hB := hB.trans (hbc.mono hB.size)
        clear hbc
        go_wp2_with fail
        refine hK.out _ _ (HK.out _ hB) (fun hHeld => ?_)
        clear hK K
        refine wpAnyH_ready (rs := [4, 8]) (by kernel_rfl) (by simp) ?_
        refine AllReadyH.cons rfl (fun K hK => ?step5) ?more5
        case step5 =>
          go_simp
          go_at_call 20
          refine (AddTalliesC.spec a0 a1 _ HF0.out HF1.out).mono ?_
          rintro e x3 ⟨r0_, r1_, rfl, hans, hbc⟩
          replace hB := hB.trans (hbc.mono hB.size)
          clear hbc
          go_wp2_with fail
          refine hK.out _ _ (HK.out _ hB) (fun hHeld => ?_)
          clear hK K
          refine wpAnyH_take (i := 5) (v := ?v6) rfl (by kernel_rfl) (by kernel_rfl) (by kernel_rfl) (fun _ _ _ h => h) (Or.inl ⟨by rfl, ?hy6⟩) (by assumption) ?rest6
          case hy6 => (intro wq hSw; (try dsimp only at hSw); go_split_ands; go_simp; (try with_reducible rfl))
          case rest6 =>
          refine wpAnyH_take (i := 6) (v := ?v7) rfl (by kernel_rfl) (by kernel_rfl) (by kernel_rfl) (fun _ _ _ h => h) (Or.inl ⟨by rfl, ?hy7⟩) (by assumption) ?rest7
          case hy7 => (intro wq hSw; (try dsimp only at hSw); go_split_ands; go_simp; (try with_reducible rfl))
          case rest7 =>
          refine wpAnyH_take (i := 7) (v := ?v8) rfl (by kernel_rfl) (by kernel_rfl) (by kernel_rfl) (fun _ _ _ h => h) (Or.inl ⟨by rfl, ?hy8⟩) (by assumption) ?rest8
          case hy8 => (intro wq hSw; (try dsimp only at hSw); go_split_ands; go_simp; (try with_reducible rfl))
          case rest8 =>
          refine wpAnyH_ready (rs := [8]) (by kernel_rfl) (by simp) ?_
          refine AllReadyH.cons rfl (fun K hK => ?step9) ?more9
          case step9 =>
            go_simp
            refine hK.out _ _ (HK.out _ (hB.alloc hB.size _)) (fun hHeld => ?_)
            clear hK K
            have hXC := Bx.new x3 25 #[.int .i64 0, .int .i64 0, .int .i64 0]
            have hXA : w00.heap.size ≤ x3.heap.size := hB.size
            replace hB := hB.alloc hB.size (Obj.cells #[.int .i64 0, .int .i64 0, .int .i64 0] 25)
            generalize x3.alloc (Obj.cells #[.int .i64 0, .int .i64 0, .int .i64 0] 25) = x4 at *
            generalize x3.heap.size = gbx4 at *
            have hXlt : gbx4 < x4.heap.size := hXC.lt
            clear hXlt
            refine wpAnyH_ready (rs := [9]) (by kernel_rfl) (by simp) ?_
            refine AllReadyH.cons rfl (fun K hK => ?step10) ?more10
            case step10 =>
              have c0 := hXC.cell 0
              have f0 := hXC.frozen 0
              have c1 := hXC.cell 1
              have f1 := hXC.frozen 1
              have c2 := hXC.cell 2
              have f2 := hXC.frozen 2
              simp only [List.getElem?_toArray, List.getElem?_cons_zero, List.getElem?_cons_succ] at c0 c1 c2
              have hBs := (Below.setCell (Below.setCell (Below.setCell hB (p := ⟨gbx4, 0, none⟩) hXA (.int .i64 r0_.yes)) (p := ⟨gbx4, 1, none⟩) hXA (.int .i64 r0_.no)) (p := ⟨gbx4, 2, none⟩) hXA (.int .i64 r0_.abstain))
              have hXs := (Bx.set_ (Bx.set_ (Bx.set_ hXC 0 (.int .i64 r0_.yes)) 1 (.int .i64 r0_.no)) 2 (.int .i64 r0_.abstain))
              go_simp
              refine hK.out _ _ (HK.out _ hBs) (fun hHeld => ?_)
              clear hK K
              clear hB hXC  c0 f0 c1 f1 c2 f2
              simp at hXs
              refine wpAnyH_take (i := 10) (v := ?v11) rfl (by kernel_rfl) (by kernel_rfl) (by kernel_rfl) (fun _ _ _ h => h) (Or.inl ⟨by rfl, ?hy11⟩) (by assumption) ?rest11
              case hy11 => (intro wq hSw; (try dsimp only at hSw); go_split_ands; go_simp; (try with_reducible rfl))
              case rest11 =>
              refine wpAnyH_done (by kernel_rfl) ?_ _
              go_wp2_with fail
              all_goals
                go_meet
                exact ⟨_, _, _, rfl, rfl, hans, Lib.hid hXs, hBs⟩
            case more10 => exact AllReadyH.nil
          case more9 => exact AllReadyH.nil
        case more5 =>
          refine AllReadyH.cons rfl (fun K hK => ?step12) ?more12
          case step12 =>
            go_simp
            refine hK.out _ _ (HK.out _ (hB.alloc hB.size _)) (fun hHeld => ?_)
            clear hK K
            have hXC := Bx.new x2 25 #[.int .i64 0, .int .i64 0, .int .i64 0]
            have hXA : w00.heap.size ≤ x2.heap.size := hB.size
            replace hB := hB.alloc hB.size (Obj.cells #[.int .i64 0, .int .i64 0, .int .i64 0] 25)
            generalize x2.alloc (Obj.cells #[.int .i64 0, .int .i64 0, .int .i64 0] 25) = x5 at *
            generalize x2.heap.size = gbx5 at *
            have hXlt : gbx5 < x5.heap.size := hXC.lt
            refine wpAnyH_ready (rs := [4]) (by kernel_rfl) (by simp) ?_
            refine AllReadyH.cons rfl (fun K hK => ?step13) ?more13
            case step13 =>
              go_simp
              go_at_call 20
              refine (AddTalliesC.spec a0 a1 _ HF0.out HF1.out).mono ?_
              rintro e x6 ⟨r0_, r1_, rfl, hans, hbc⟩
              replace hXC := hXC.kept hbc
              clear hXlt
              replace hB := hB.trans (hbc.mono hB.size)
              clear hbc
              go_wp2_with fail
              refine hK.out _ _ (HK.out _ hB) (fun hHeld => ?_)
              clear hK K
              refine wpAnyH_take (i := 5) (v := ?v14) rfl (by kernel_rfl) (by kernel_rfl) (by kernel_rfl) (fun _ _ _ h => h) (Or.inl ⟨by rfl, ?hy14⟩) (by assumption) ?rest14
              case hy14 => (intro wq hSw; (try dsimp only at hSw); go_split_ands; go_simp; (try with_reducible rfl))
              case rest14 =>
              refine wpAnyH_take (i := 6) (v := ?v15) rfl (by kernel_rfl) (by kernel_rfl) (by kernel_rfl) (fun _ _ _ h => h) (Or.inl ⟨by rfl, ?hy15⟩) (by assumption) ?rest15
              case hy15 => (intro wq hSw; (try dsimp only at hSw); go_split_ands; go_simp; (try with_reducible rfl))
              case rest15 =>
              refine wpAnyH_take (i := 7) (v := ?v16) rfl (by kernel_rfl) (by kernel_rfl) (by kernel_rfl) (fun _ _ _ h => h) (Or.inl ⟨by rfl, ?hy16⟩) (by assumption) ?rest16
              case hy16 => (intro wq hSw; (try dsimp only at hSw); go_split_ands; go_simp; (try with_reducible rfl))
              case rest16 =>
              refine wpAnyH_ready (rs := [9]) (by kernel_rfl) (by simp) ?_
              refine AllReadyH.cons rfl (fun K hK => ?step17) ?more17
              case step17 =>
                have c0 := hXC.cell 0
                have f0 := hXC.frozen 0
                have c1 := hXC.cell 1
                have f1 := hXC.frozen 1
                have c2 := hXC.cell 2
                have f2 := hXC.frozen 2
                simp only [List.getElem?_toArray, List.getElem?_cons_zero, List.getElem?_cons_succ] at c0 c1 c2
                have hBs := (Below.setCell (Below.setCell (Below.setCell hB (p := ⟨gbx5, 0, none⟩) hXA (.int .i64 r0_.yes)) (p := ⟨gbx5, 1, none⟩) hXA (.int .i64 r0_.no)) (p := ⟨gbx5, 2, none⟩) hXA (.int .i64 r0_.abstain))
                have hXs := (Bx.set_ (Bx.set_ (Bx.set_ hXC 0 (.int .i64 r0_.yes)) 1 (.int .i64 r0_.no)) 2 (.int .i64 r0_.abstain))
                go_simp
                refine hK.out _ _ (HK.out _ hBs) (fun hHeld => ?_)
                clear hK K
                clear hB hXC  c0 f0 c1 f1 c2 f2
                simp at hXs
                refine wpAnyH_take (i := 10) (v := ?v18) rfl (by kernel_rfl) (by kernel_rfl) (by kernel_rfl) (fun _ _ _ h => h) (Or.inl ⟨by rfl, ?hy18⟩) (by assumption) ?rest18
                case hy18 => (intro wq hSw; (try dsimp only at hSw); go_split_ands; go_simp; (try with_reducible rfl))
                case rest18 =>
                refine wpAnyH_done (by kernel_rfl) ?_ _
                go_wp2_with fail
                all_goals
                  go_meet
                  exact ⟨_, _, _, rfl, rfl, hans, Lib.hid hXs, hBs⟩
              case more17 => exact AllReadyH.nil
            case more13 => exact AllReadyH.nil
          case more12 => exact AllReadyH.nil
      case more4 =>
        refine AllReadyH.cons rfl (fun K hK => ?step19) ?more19
        case step19 =>
          go_simp
          refine hK.out _ _ (HK.out _ (hB.alloc hB.size _)) (fun hHeld => ?_)
          clear hK K
          have hXC := Bx.new x1 25 #[.int .i64 0, .int .i64 0, .int .i64 0]
          have hXA : w00.heap.size ≤ x1.heap.size := hB.size
          replace hB := hB.alloc hB.size (Obj.cells #[.int .i64 0, .int .i64 0, .int .i64 0] 25)
          generalize x1.alloc (Obj.cells #[.int .i64 0, .int .i64 0, .int .i64 0] 25) = x7 at *
          generalize x1.heap.size = gbx7 at *
          have hXlt : gbx7 < x7.heap.size := hXC.lt
          refine wpAnyH_ready (rs := [3]) (by kernel_rfl) (by simp) ?_
          refine AllReadyH.cons rfl (fun K hK => ?step20) ?more20
          case step20 =>
            go_simp
            go_at_call 12
            refine (LTally.to a1 _).mono ?_
            rintro e x8 ⟨rfl, hbc⟩
            replace hXC := hXC.kept hbc
            replace hXlt := Nat.lt_of_lt_of_le hXlt hbc.size
            replace hB := hB.trans (hbc.mono hB.size)
            clear hbc
            go_wp2_with fail
            refine hK.out _ _ (HK.out _ hB) (fun hHeld => ?_)
            clear hK K
            refine wpAnyH_ready (rs := [4]) (by kernel_rfl) (by simp) ?_
            refine AllReadyH.cons rfl (fun K hK => ?step21) ?more21
            case step21 =>
              go_simp
              go_at_call 20
              refine (AddTalliesC.spec a0 a1 _ HF0.out HF1.out).mono ?_
              rintro e x9 ⟨r0_, r1_, rfl, hans, hbc⟩
              replace hXC := hXC.kept hbc
              clear hXlt
              replace hB := hB.trans (hbc.mono hB.size)
              clear hbc
              go_wp2_with fail
              refine hK.out _ _ (HK.out _ hB) (fun hHeld => ?_)
              clear hK K
              refine wpAnyH_take (i := 5) (v := ?v22) rfl (by kernel_rfl) (by kernel_rfl) (by kernel_rfl) (fun _ _ _ h => h) (Or.inl ⟨by rfl, ?hy22⟩) (by assumption) ?rest22
              case hy22 => (intro wq hSw; (try dsimp only at hSw); go_split_ands; go_simp; (try with_reducible rfl))
              case rest22 =>
              refine wpAnyH_take (i := 6) (v := ?v23) rfl (by kernel_rfl) (by kernel_rfl) (by kernel_rfl) (fun _ _ _ h => h) (Or.inl ⟨by rfl, ?hy23⟩) (by assumption) ?rest23
              case hy23 => (intro wq hSw; (try dsimp only at hSw); go_split_ands; go_simp; (try with_reducible rfl))
              case rest23 =>
              refine wpAnyH_take (i := 7) (v := ?v24) rfl (by kernel_rfl) (by kernel_rfl) (by kernel_rfl) (fun _ _ _ h => h) (Or.inl ⟨by rfl, ?hy24⟩) (by assumption) ?rest24
              case hy24 => (intro wq hSw; (try dsimp only at hSw); go_split_ands; go_simp; (try with_reducible rfl))
              case rest24 =>
              refine wpAnyH_ready (rs := [9]) (by kernel_rfl) (by simp) ?_
              refine AllReadyH.cons rfl (fun K hK => ?step25) ?more25
              case step25 =>
                have c0 := hXC.cell 0
                have f0 := hXC.frozen 0
                have c1 := hXC.cell 1
                have f1 := hXC.frozen 1
                have c2 := hXC.cell 2
                have f2 := hXC.frozen 2
                simp only [List.getElem?_toArray, List.getElem?_cons_zero, List.getElem?_cons_succ] at c0 c1 c2
                have hBs := (Below.setCell (Below.setCell (Below.setCell hB (p := ⟨gbx7, 0, none⟩) hXA (.int .i64 r0_.yes)) (p := ⟨gbx7, 1, none⟩) hXA (.int .i64 r0_.no)) (p := ⟨gbx7, 2, none⟩) hXA (.int .i64 r0_.abstain))
                have hXs := (Bx.set_ (Bx.set_ (Bx.set_ hXC 0 (.int .i64 r0_.yes)) 1 (.int .i64 r0_.no)) 2 (.int .i64 r0_.abstain))
                go_simp
                refine hK.out _ _ (HK.out _ hBs) (fun hHeld => ?_)
                clear hK K
                clear hB hXC  c0 f0 c1 f1 c2 f2
                simp at hXs
                refine wpAnyH_take (i := 10) (v := ?v26) rfl (by kernel_rfl) (by kernel_rfl) (by kernel_rfl) (fun _ _ _ h => h) (Or.inl ⟨by rfl, ?hy26⟩) (by assumption) ?rest26
                case hy26 => (intro wq hSw; (try dsimp only at hSw); go_split_ands; go_simp; (try with_reducible rfl))
                case rest26 =>
                refine wpAnyH_done (by kernel_rfl) ?_ _
                go_wp2_with fail
                all_goals
                  go_meet
                  exact ⟨_, _, _, rfl, rfl, hans, Lib.hid hXs, hBs⟩
              case more25 => exact AllReadyH.nil
            case more21 => exact AllReadyH.nil
          case more20 => exact AllReadyH.nil
        case more19 => exact AllReadyH.nil
    case more3 =>
      refine AllReadyH.cons rfl (fun K hK => ?step27) ?more27
      case step27 =>
        go_simp
        refine hK.out _ _ (HK.out _ (hB.alloc hB.size _)) (fun hHeld => ?_)
        clear hK K
        have hXC := Bx.new x0 25 #[.int .i64 0, .int .i64 0, .int .i64 0]
        have hXA : w00.heap.size ≤ x0.heap.size := hB.size
        replace hB := hB.alloc hB.size (Obj.cells #[.int .i64 0, .int .i64 0, .int .i64 0] 25)
        generalize x0.alloc (Obj.cells #[.int .i64 0, .int .i64 0, .int .i64 0] 25) = x10 at *
        generalize x0.heap.size = gbx10 at *
        have hXlt : gbx10 < x10.heap.size := hXC.lt
        refine wpAnyH_ready (rs := [1]) (by kernel_rfl) (by simp) ?_
        refine AllReadyH.cons rfl (fun K hK => ?step28) ?more28
        case step28 =>
          go_simp
          go_at_call 12
          refine (LTally.to a0 _).mono ?_
          rintro e x11 ⟨rfl, hbc⟩
          replace hXC := hXC.kept hbc
          replace hXlt := Nat.lt_of_lt_of_le hXlt hbc.size
          replace hB := hB.trans (hbc.mono hB.size)
          clear hbc
          go_wp2_with fail
          refine hK.out _ _ (HK.out _ hB) (fun hHeld => ?_)
          clear hK K
          refine wpAnyH_ready (rs := [3]) (by kernel_rfl) (by simp) ?_
          refine AllReadyH.cons rfl (fun K hK => ?step29) ?more29
          case step29 =>
            go_simp
            go_at_call 12
            refine (LTally.to a1 _).mono ?_
            rintro e x12 ⟨rfl, hbc⟩
            replace hXC := hXC.kept hbc
            replace hXlt := Nat.lt_of_lt_of_le hXlt hbc.size
            replace hB := hB.trans (hbc.mono hB.size)
            clear hbc
            go_wp2_with fail
            refine hK.out _ _ (HK.out _ hB) (fun hHeld => ?_)
            clear hK K
            refine wpAnyH_ready (rs := [4]) (by kernel_rfl) (by simp) ?_
            refine AllReadyH.cons rfl (fun K hK => ?step30) ?more30
            case step30 =>
              go_simp
              go_at_call 20
              refine (AddTalliesC.spec a0 a1 _ HF0.out HF1.out).mono ?_
              rintro e x13 ⟨r0_, r1_, rfl, hans, hbc⟩
              replace hXC := hXC.kept hbc
              clear hXlt
              replace hB := hB.trans (hbc.mono hB.size)
              clear hbc
              go_wp2_with fail
              refine hK.out _ _ (HK.out _ hB) (fun hHeld => ?_)
              clear hK K
              refine wpAnyH_take (i := 5) (v := ?v31) rfl (by kernel_rfl) (by kernel_rfl) (by kernel_rfl) (fun _ _ _ h => h) (Or.inl ⟨by rfl, ?hy31⟩) (by assumption) ?rest31
              case hy31 => (intro wq hSw; (try dsimp only at hSw); go_split_ands; go_simp; (try with_reducible rfl))
              case rest31 =>
              refine wpAnyH_take (i := 6) (v := ?v32) rfl (by kernel_rfl) (by kernel_rfl) (by kernel_rfl) (fun _ _ _ h => h) (Or.inl ⟨by rfl, ?hy32⟩) (by assumption) ?rest32
              case hy32 => (intro wq hSw; (try dsimp only at hSw); go_split_ands; go_simp; (try with_reducible rfl))
              case rest32 =>
              refine wpAnyH_take (i := 7) (v := ?v33) rfl (by kernel_rfl) (by kernel_rfl) (by kernel_rfl) (fun _ _ _ h => h) (Or.inl ⟨by rfl, ?hy33⟩) (by assumption) ?rest33
              case hy33 => (intro wq hSw; (try dsimp only at hSw); go_split_ands; go_simp; (try with_reducible rfl))
              case rest33 =>
              refine wpAnyH_ready (rs := [9]) (by kernel_rfl) (by simp) ?_
              refine AllReadyH.cons rfl (fun K hK => ?step34) ?more34
              case step34 =>
                have c0 := hXC.cell 0
                have f0 := hXC.frozen 0
                have c1 := hXC.cell 1
                have f1 := hXC.frozen 1
                have c2 := hXC.cell 2
                have f2 := hXC.frozen 2
                simp only [List.getElem?_toArray, List.getElem?_cons_zero, List.getElem?_cons_succ] at c0 c1 c2
                have hBs := (Below.setCell (Below.setCell (Below.setCell hB (p := ⟨gbx10, 0, none⟩) hXA (.int .i64 r0_.yes)) (p := ⟨gbx10, 1, none⟩) hXA (.int .i64 r0_.no)) (p := ⟨gbx10, 2, none⟩) hXA (.int .i64 r0_.abstain))
                have hXs := (Bx.set_ (Bx.set_ (Bx.set_ hXC 0 (.int .i64 r0_.yes)) 1 (.int .i64 r0_.no)) 2 (.int .i64 r0_.abstain))
                go_simp
                refine hK.out _ _ (HK.out _ hBs) (fun hHeld => ?_)
                clear hK K
                clear hB hXC  c0 f0 c1 f1 c2 f2
                simp at hXs
                refine wpAnyH_take (i := 10) (v := ?v35) rfl (by kernel_rfl) (by kernel_rfl) (by kernel_rfl) (fun _ _ _ h => h) (Or.inl ⟨by rfl, ?hy35⟩) (by assumption) ?rest35
                case hy35 => (intro wq hSw; (try dsimp only at hSw); go_split_ands; go_simp; (try with_reducible rfl))
                case rest35 =>
                refine wpAnyH_done (by kernel_rfl) ?_ _
                go_wp2_with fail
                all_goals
                  go_meet
                  exact ⟨_, _, _, rfl, rfl, hans, Lib.hid hXs, hBs⟩
              case more34 => exact AllReadyH.nil
            case more30 => exact AllReadyH.nil
          case more29 => exact AllReadyH.nil
        case more28 => exact AllReadyH.nil
      case more27 => exact AllReadyH.nil
  case rest =>
  obtain ⟨g0_1, r0_1, r1_1, rfl, rfl, hans, hbx0, hb1⟩ := hcut
  obtain ⟨w1_, hwc⟩ : ∃ x, x = wc := ⟨_, rfl⟩
  subst hwc
  have HS := Lib.hid hans
  clear hans
  replace HX0 := Lib.hid (HX0.out.kept hb1)
  replace HX1 := Lib.hid (HX1.out.kept hb1)
  clear q0_0 q0_1 q0_2
  obtain ⟨q0_0, q0_1, q0_2⟩ := LTally.cells0 HX0.out.now
  clear q1_0 q1_1 q1_2
  obtain ⟨q1_0, q1_1, q1_2⟩ := LTally.cells0 HX1.out.now
  have HZ1 := Lib.hid hb1.size
  replace hb := hb.trans (hb1.mono hb.size)
  clear hb1
  have HZg0_1 := Lib.hid hbx0.out.lt
  have HXw0 := Lib.hid (Bx.loc hbx0.out)
  clear hbx0
  have qw0_0 := HXw0.out.now.cell 0
  have qw0_1 := HXw0.out.now.cell 1
  have qw0_2 := HXw0.out.now.cell 2
  simp only [List.getElem?_toArray, List.getElem?_cons_zero, List.getElem?_cons_succ] at qw0_0 qw0_1 qw0_2
  have hne1 : (r1_1 != r1_1) = false := by simp
  go_wp2_with fail
  go_cut [7, 8] (fun s7 s8 wx => ∃ (g0 : Nat) (r0 : LTally.R) (r1 : Bool), s7 = .pointer (some ⟨g0, 0, none⟩) ∧ s8 = .bool r1 ∧ AddTalliesC.Ans a0 a1 r0 r1 ∧ Hid (Bx wx g0 25 #[.int .i64 r0.yes, .int .i64 r0.no, .int .i64 r0.abstain]) ∧ Below w1_.heap.size w1_ wx)
  case first =>
    have HK := Lib.hid (show ∀ w' : World, Below w1_.heap.size w1_ w' → Below w1_.heap.size w1_ w' ∧ w'.cell? ⟨w.heap.size, 0, none⟩ = some (.int .i64 a0.yes) ∧ w'.cell? ⟨w.heap.size, 1, none⟩ = some (.int .i64 a0.no) ∧ w'.cell? ⟨w.heap.size, 2, none⟩ = some (.int .i64 a0.abstain) ∧ w'.cell? ⟨w.heap.size + 1, 0, none⟩ = some (.int .i64 a1.yes) ∧ w'.cell? ⟨w.heap.size + 1, 1, none⟩ = some (.int .i64 a1.no) ∧ w'.cell? ⟨w.heap.size + 1, 2, none⟩ = some (.int .i64 a1.abstain) ∧ w'.cell? ⟨g0_1, 0, none⟩ = some (.int .i64 r0_1.yes) ∧ w'.cell? ⟨g0_1, 1, none⟩ = some (.int .i64 r0_1.no) ∧ w'.cell? ⟨g0_1, 2, none⟩ = some (.int .i64 r0_1.abstain) from fun w' hb => ⟨hb, by rw [hb.cell (p := ⟨w.heap.size, 0, none⟩) (by have := HX0.out.le; show w.heap.size < _; omega)]; exact q0_0, by rw [hb.cell (p := ⟨w.heap.size, 1, none⟩) (by have := HX0.out.le; show w.heap.size < _; omega)]; exact q0_1, by rw [hb.cell (p := ⟨w.heap.size, 2, none⟩) (by have := HX0.out.le; show w.heap.size < _; omega)]; exact q0_2, by rw [hb.cell (p := ⟨w.heap.size + 1, 0, none⟩) (by have := HX1.out.le; show w.heap.size + 1 < _; omega)]; exact q1_0, by rw [hb.cell (p := ⟨w.heap.size + 1, 1, none⟩) (by have := HX1.out.le; show w.heap.size + 1 < _; omega)]; exact q1_1, by rw [hb.cell (p := ⟨w.heap.size + 1, 2, none⟩) (by have := HX1.out.le; show w.heap.size + 1 < _; omega)]; exact q1_2, by (have h := (HXw0.out.kept hb).now.cell 0); simpa using h, by (have h := (HXw0.out.kept hb).now.cell 1); simpa using h, by (have h := (HXw0.out.kept hb).now.cell 2); simpa using h⟩)
    have hB : Below w1_.heap.size w1_ w1_.drew := (Below.refl _ _).drew
    refine wp_region_held_drew (S := fun w' => Below w1_.heap.size w1_ w' ∧ w'.cell? ⟨w.heap.size, 0, none⟩ = some (.int .i64 a0.yes) ∧ w'.cell? ⟨w.heap.size, 1, none⟩ = some (.int .i64 a0.no) ∧ w'.cell? ⟨w.heap.size, 2, none⟩ = some (.int .i64 a0.abstain) ∧ w'.cell? ⟨w.heap.size + 1, 0, none⟩ = some (.int .i64 a1.yes) ∧ w'.cell? ⟨w.heap.size + 1, 1, none⟩ = some (.int .i64 a1.no) ∧ w'.cell? ⟨w.heap.size + 1, 2, none⟩ = some (.int .i64 a1.abstain) ∧ w'.cell? ⟨g0_1, 0, none⟩ = some (.int .i64 r0_1.yes) ∧ w'.cell? ⟨g0_1, 1, none⟩ = some (.int .i64 r0_1.no) ∧ w'.cell? ⟨g0_1, 2, none⟩ = some (.int .i64 r0_1.abstain)) (by kernel_rfl) (HK.out _ hB) (fun hHeld => ?_)
    generalize w1_.drew = x0 at *
    refine wpAnyH_take (i := 0) (v := ?v36) rfl (by kernel_rfl) (by kernel_rfl) (by kernel_rfl) (fun _ _ _ h => h) (Or.inl ⟨by rfl, ?hy36⟩) (by assumption) ?rest36
    case hy36 => (intro wq hSw; (try dsimp only at hSw); go_split_ands; go_simp; (try with_reducible rfl))
    case rest36 =>
    refine wpAnyH_take (i := 2) (v := ?v37) rfl (by kernel_rfl) (by kernel_rfl) (by kernel_rfl) (fun _ _ _ h => h) (Or.inl ⟨by rfl, ?hy37⟩) (by assumption) ?rest37
    case hy37 => (intro wq hSw; (try dsimp only at hSw); go_split_ands; go_simp; (try with_reducible rfl))
    case rest37 =>
    refine wpAnyH_ready (rs := [1, 8]) (by kernel_rfl) (by simp) ?_
    refine AllReadyH.cons rfl (fun K hK => ?step38) ?more38
    case step38 =>
      go_simp
      go_at_call 12
      refine (LTally.to a0 _).mono ?_
      rintro e x1 ⟨rfl, hbc⟩
      replace hB := hB.trans (hbc.mono hB.size)
      clear hbc
      go_wp2_with fail
      refine hK.out _ _ (HK.out _ hB) (fun hHeld => ?_)
      clear hK K
      refine wpAnyH_ready (rs := [3, 8]) (by kernel_rfl) (by simp) ?_
      refine AllReadyH.cons rfl (fun K hK => ?step39) ?more39
      case step39 =>
        go_simp
        go_at_call 12
        refine (LTally.to a1 _).mono ?_
        rintro e x2 ⟨rfl, hbc⟩
        replace hB := hB.trans (hbc.mono hB.size)
        clear hbc
        go_wp2_with fail
        refine hK.out _ _ (HK.out _ hB) (fun hHeld => ?_)
        clear hK K
        refine wpAnyH_ready (rs := [4, 8]) (by kernel_rfl) (by simp) ?_
        refine AllReadyH.cons rfl (fun K hK => ?step40) ?more40
        case step40 =>
          go_simp
          go_at_call 21
          refine (AddTalliesC.impl a0 a1 _ HF0.out HF1.out).mono ?_
          rintro e x3 ⟨r0_, r1_, rfl, hans, hbc⟩
          replace hB := hB.trans (hbc.mono hB.size)
          clear hbc
          go_wp2_with fail
          refine hK.out _ _ (HK.out _ hB) (fun hHeld => ?_)
          clear hK K
          refine wpAnyH_take (i := 5) (v := ?v41) rfl (by kernel_rfl) (by kernel_rfl) (by kernel_rfl) (fun _ _ _ h => h) (Or.inl ⟨by rfl, ?hy41⟩) (by assumption) ?rest41
          case hy41 => (intro wq hSw; (try dsimp only at hSw); go_split_ands; go_simp; (try with_reducible rfl))
          case rest41 =>
          refine wpAnyH_take (i := 6) (v := ?v42) rfl (by kernel_rfl) (by kernel_rfl) (by kernel_rfl) (fun _ _ _ h => h) (Or.inl ⟨by rfl, ?hy42⟩) (by assumption) ?rest42
          case hy42 => (intro wq hSw; (try dsimp only at hSw); go_split_ands; go_simp; (try with_reducible rfl))
          case rest42 =>
          refine wpAnyH_take (i := 7) (v := ?v43) rfl (by kernel_rfl) (by kernel_rfl) (by kernel_rfl) (fun _ _ _ h => h) (Or.inl ⟨by rfl, ?hy43⟩) (by assumption) ?rest43
          case hy43 => (intro wq hSw; (try dsimp only at hSw); go_split_ands; go_simp; (try with_reducible rfl))
          case rest43 =>
          refine wpAnyH_ready (rs := [8]) (by kernel_rfl) (by simp) ?_
          refine AllReadyH.cons rfl (fun K hK => ?step44) ?more44
          case step44 =>
            go_simp
            refine hK.out _ _ (HK.out _ (hB.alloc hB.size _)) (fun hHeld => ?_)
            clear hK K
            have hXC := Bx.new x3 25 #[.int .i64 0, .int .i64 0, .int .i64 0]
            have hXA : w1_.heap.size ≤ x3.heap.size := hB.size
            replace hB := hB.alloc hB.size (Obj.cells #[.int .i64 0, .int .i64 0, .int .i64 0] 25)
            generalize x3.alloc (Obj.cells #[.int .i64 0, .int .i64 0, .int .i64 0] 25) = x4 at *
            generalize x3.heap.size = gbx4 at *
            have hXlt : gbx4 < x4.heap.size := hXC.lt
            clear hXlt
            refine wpAnyH_ready (rs := [9]) (by kernel_rfl) (by simp) ?_
            refine AllReadyH.cons rfl (fun K hK => ?step45) ?more45
            case step45 =>
              have c0 := hXC.cell 0
              have f0 := hXC.frozen 0
              have c1 := hXC.cell 1
              have f1 := hXC.frozen 1
              have c2 := hXC.cell 2
              have f2 := hXC.frozen 2
              simp only [List.getElem?_toArray, List.getElem?_cons_zero, List.getElem?_cons_succ] at c0 c1 c2
              have hBs := (Below.setCell (Below.setCell (Below.setCell hB (p := ⟨gbx4, 0, none⟩) hXA (.int .i64 r0_.yes)) (p := ⟨gbx4, 1, none⟩) hXA (.int .i64 r0_.no)) (p := ⟨gbx4, 2, none⟩) hXA (.int .i64 r0_.abstain))
              have hXs := (Bx.set_ (Bx.set_ (Bx.set_ hXC 0 (.int .i64 r0_.yes)) 1 (.int .i64 r0_.no)) 2 (.int .i64 r0_.abstain))
              go_simp
              refine hK.out _ _ (HK.out _ hBs) (fun hHeld => ?_)
              clear hK K
              clear hB hXC  c0 f0 c1 f1 c2 f2
              simp at hXs
              refine wpAnyH_take (i := 10) (v := ?v46) rfl (by kernel_rfl) (by kernel_rfl) (by kernel_rfl) (fun _ _ _ h => h) (Or.inl ⟨by rfl, ?hy46⟩) (by assumption) ?rest46
              case hy46 => (intro wq hSw; (try dsimp only at hSw); go_split_ands; go_simp; (try with_reducible rfl))
              case rest46 =>
              refine wpAnyH_done (by kernel_rfl) ?_ _
              go_wp2_with fail
              all_goals
                go_meet
                exact ⟨_, _, _, rfl, rfl, hans, Lib.hid hXs, hBs⟩
            case more45 => exact AllReadyH.nil
          case more44 => exact AllReadyH.nil
        case more40 =>
          refine AllReadyH.cons rfl (fun K hK => ?step47) ?more47
          case step47 =>
            go_simp
            refine hK.out _ _ (HK.out _ (hB.alloc hB.size _)) (fun hHeld => ?_)
            clear hK K
            have hXC := Bx.new x2 25 #[.int .i64 0, .int .i64 0, .int .i64 0]
            have hXA : w1_.heap.size ≤ x2.heap.size := hB.size
            replace hB := hB.alloc hB.size (Obj.cells #[.int .i64 0, .int .i64 0, .int .i64 0] 25)
            generalize x2.alloc (Obj.cells #[.int .i64 0, .int .i64 0, .int .i64 0] 25) = x5 at *
            generalize x2.heap.size = gbx5 at *
            have hXlt : gbx5 < x5.heap.size := hXC.lt
            refine wpAnyH_ready (rs := [4]) (by kernel_rfl) (by simp) ?_
            refine AllReadyH.cons rfl (fun K hK => ?step48) ?more48
            case step48 =>
              go_simp
              go_at_call 21
              refine (AddTalliesC.impl a0 a1 _ HF0.out HF1.out).mono ?_
              rintro e x6 ⟨r0_, r1_, rfl, hans, hbc⟩
              replace hXC := hXC.kept hbc
              clear hXlt
              replace hB := hB.trans (hbc.mono hB.size)
              clear hbc
              go_wp2_with fail
              refine hK.out _ _ (HK.out _ hB) (fun hHeld => ?_)
              clear hK K
              refine wpAnyH_take (i := 5) (v := ?v49) rfl (by kernel_rfl) (by kernel_rfl) (by kernel_rfl) (fun _ _ _ h => h) (Or.inl ⟨by rfl, ?hy49⟩) (by assumption) ?rest49
              case hy49 => (intro wq hSw; (try dsimp only at hSw); go_split_ands; go_simp; (try with_reducible rfl))
              case rest49 =>
              refine wpAnyH_take (i := 6) (v := ?v50) rfl (by kernel_rfl) (by kernel_rfl) (by kernel_rfl) (fun _ _ _ h => h) (Or.inl ⟨by rfl, ?hy50⟩) (by assumption) ?rest50
              case hy50 => (intro wq hSw; (try dsimp only at hSw); go_split_ands; go_simp; (try with_reducible rfl))
              case rest50 =>
              refine wpAnyH_take (i := 7) (v := ?v51) rfl (by kernel_rfl) (by kernel_rfl) (by kernel_rfl) (fun _ _ _ h => h) (Or.inl ⟨by rfl, ?hy51⟩) (by assumption) ?rest51
              case hy51 => (intro wq hSw; (try dsimp only at hSw); go_split_ands; go_simp; (try with_reducible rfl))
              case rest51 =>
              refine wpAnyH_ready (rs := [9]) (by kernel_rfl) (by simp) ?_
              refine AllReadyH.cons rfl (fun K hK => ?step52) ?more52
              case step52 =>
                have c0 := hXC.cell 0
                have f0 := hXC.frozen 0
                have c1 := hXC.cell 1
                have f1 := hXC.frozen 1
                have c2 := hXC.cell 2
                have f2 := hXC.frozen 2
                simp only [List.getElem?_toArray, List.getElem?_cons_zero, List.getElem?_cons_succ] at c0 c1 c2
                have hBs := (Below.setCell (Below.setCell (Below.setCell hB (p := ⟨gbx5, 0, none⟩) hXA (.int .i64 r0_.yes)) (p := ⟨gbx5, 1, none⟩) hXA (.int .i64 r0_.no)) (p := ⟨gbx5, 2, none⟩) hXA (.int .i64 r0_.abstain))
                have hXs := (Bx.set_ (Bx.set_ (Bx.set_ hXC 0 (.int .i64 r0_.yes)) 1 (.int .i64 r0_.no)) 2 (.int .i64 r0_.abstain))
                go_simp
                refine hK.out _ _ (HK.out _ hBs) (fun hHeld => ?_)
                clear hK K
                clear hB hXC  c0 f0 c1 f1 c2 f2
                simp at hXs
                refine wpAnyH_take (i := 10) (v := ?v53) rfl (by kernel_rfl) (by kernel_rfl) (by kernel_rfl) (fun _ _ _ h => h) (Or.inl ⟨by rfl, ?hy53⟩) (by assumption) ?rest53
                case hy53 => (intro wq hSw; (try dsimp only at hSw); go_split_ands; go_simp; (try with_reducible rfl))
                case rest53 =>
                refine wpAnyH_done (by kernel_rfl) ?_ _
                go_wp2_with fail
                all_goals
                  go_meet
                  exact ⟨_, _, _, rfl, rfl, hans, Lib.hid hXs, hBs⟩
              case more52 => exact AllReadyH.nil
            case more48 => exact AllReadyH.nil
          case more47 => exact AllReadyH.nil
      case more39 =>
        refine AllReadyH.cons rfl (fun K hK => ?step54) ?more54
        case step54 =>
          go_simp
          refine hK.out _ _ (HK.out _ (hB.alloc hB.size _)) (fun hHeld => ?_)
          clear hK K
          have hXC := Bx.new x1 25 #[.int .i64 0, .int .i64 0, .int .i64 0]
          have hXA : w1_.heap.size ≤ x1.heap.size := hB.size
          replace hB := hB.alloc hB.size (Obj.cells #[.int .i64 0, .int .i64 0, .int .i64 0] 25)
          generalize x1.alloc (Obj.cells #[.int .i64 0, .int .i64 0, .int .i64 0] 25) = x7 at *
          generalize x1.heap.size = gbx7 at *
          have hXlt : gbx7 < x7.heap.size := hXC.lt
          refine wpAnyH_ready (rs := [3]) (by kernel_rfl) (by simp) ?_
          refine AllReadyH.cons rfl (fun K hK => ?step55) ?more55
          case step55 =>
            go_simp
            go_at_call 12
            refine (LTally.to a1 _).mono ?_
            rintro e x8 ⟨rfl, hbc⟩
            replace hXC := hXC.kept hbc
            replace hXlt := Nat.lt_of_lt_of_le hXlt hbc.size
            replace hB := hB.trans (hbc.mono hB.size)
            clear hbc
            go_wp2_with fail
            refine hK.out _ _ (HK.out _ hB) (fun hHeld => ?_)
            clear hK K
            refine wpAnyH_ready (rs := [4]) (by kernel_rfl) (by simp) ?_
            refine AllReadyH.cons rfl (fun K hK => ?step56) ?more56
            case step56 =>
              go_simp
              go_at_call 21
              refine (AddTalliesC.impl a0 a1 _ HF0.out HF1.out).mono ?_
              rintro e x9 ⟨r0_, r1_, rfl, hans, hbc⟩
              replace hXC := hXC.kept hbc
              clear hXlt
              replace hB := hB.trans (hbc.mono hB.size)
              clear hbc
              go_wp2_with fail
              refine hK.out _ _ (HK.out _ hB) (fun hHeld => ?_)
              clear hK K
              refine wpAnyH_take (i := 5) (v := ?v57) rfl (by kernel_rfl) (by kernel_rfl) (by kernel_rfl) (fun _ _ _ h => h) (Or.inl ⟨by rfl, ?hy57⟩) (by assumption) ?rest57
              case hy57 => (intro wq hSw; (try dsimp only at hSw); go_split_ands; go_simp; (try with_reducible rfl))
              case rest57 =>
              refine wpAnyH_take (i := 6) (v := ?v58) rfl (by kernel_rfl) (by kernel_rfl) (by kernel_rfl) (fun _ _ _ h => h) (Or.inl ⟨by rfl, ?hy58⟩) (by assumption) ?rest58
              case hy58 => (intro wq hSw; (try dsimp only at hSw); go_split_ands; go_simp; (try with_reducible rfl))
              case rest58 =>
              refine wpAnyH_take (i := 7) (v := ?v59) rfl (by kernel_rfl) (by kernel_rfl) (by kernel_rfl) (fun _ _ _ h => h) (Or.inl ⟨by rfl, ?hy59⟩) (by assumption) ?rest59
              case hy59 => (intro wq hSw; (try dsimp only at hSw); go_split_ands; go_simp; (try with_reducible rfl))
              case rest59 =>
              refine wpAnyH_ready (rs := [9]) (by kernel_rfl) (by simp) ?_
              refine AllReadyH.cons rfl (fun K hK => ?step60) ?more60
              case step60 =>
                have c0 := hXC.cell 0
                have f0 := hXC.frozen 0
                have c1 := hXC.cell 1
                have f1 := hXC.frozen 1
                have c2 := hXC.cell 2
                have f2 := hXC.frozen 2
                simp only [List.getElem?_toArray, List.getElem?_cons_zero, List.getElem?_cons_succ] at c0 c1 c2
                have hBs := (Below.setCell (Below.setCell (Below.setCell hB (p := ⟨gbx7, 0, none⟩) hXA (.int .i64 r0_.yes)) (p := ⟨gbx7, 1, none⟩) hXA (.int .i64 r0_.no)) (p := ⟨gbx7, 2, none⟩) hXA (.int .i64 r0_.abstain))
                have hXs := (Bx.set_ (Bx.set_ (Bx.set_ hXC 0 (.int .i64 r0_.yes)) 1 (.int .i64 r0_.no)) 2 (.int .i64 r0_.abstain))
                go_simp
                refine hK.out _ _ (HK.out _ hBs) (fun hHeld => ?_)
                clear hK K
                clear hB hXC  c0 f0 c1 f1 c2 f2
                simp at hXs
                refine wpAnyH_take (i := 10) (v := ?v61) rfl (by kernel_rfl) (by kernel_rfl) (by kernel_rfl) (fun _ _ _ h => h) (Or.inl ⟨by rfl, ?hy61⟩) (by assumption) ?rest61
                case hy61 => (intro wq hSw; (try dsimp only at hSw); go_split_ands; go_simp; (try with_reducible rfl))
                case rest61 =>
                refine wpAnyH_done (by kernel_rfl) ?_ _
                go_wp2_with fail
                all_goals
                  go_meet
                  exact ⟨_, _, _, rfl, rfl, hans, Lib.hid hXs, hBs⟩
              case more60 => exact AllReadyH.nil
            case more56 => exact AllReadyH.nil
          case more55 => exact AllReadyH.nil
        case more54 => exact AllReadyH.nil
    case more38 =>
      refine AllReadyH.cons rfl (fun K hK => ?step62) ?more62
      case step62 =>
        go_simp
        refine hK.out _ _ (HK.out _ (hB.alloc hB.size _)) (fun hHeld => ?_)
        clear hK K
        have hXC := Bx.new x0 25 #[.int .i64 0, .int .i64 0, .int .i64 0]
        have hXA : w1_.heap.size ≤ x0.heap.size := hB.size
        replace hB := hB.alloc hB.size (Obj.cells #[.int .i64 0, .int .i64 0, .int .i64 0] 25)
        generalize x0.alloc (Obj.cells #[.int .i64 0, .int .i64 0, .int .i64 0] 25) = x10 at *
        generalize x0.heap.size = gbx10 at *
        have hXlt : gbx10 < x10.heap.size := hXC.lt
        refine wpAnyH_ready (rs := [1]) (by kernel_rfl) (by simp) ?_
        refine AllReadyH.cons rfl (fun K hK => ?step63) ?more63
        case step63 =>
          go_simp
          go_at_call 12
          refine (LTally.to a0 _).mono ?_
          rintro e x11 ⟨rfl, hbc⟩
          replace hXC := hXC.kept hbc
          replace hXlt := Nat.lt_of_lt_of_le hXlt hbc.size
          replace hB := hB.trans (hbc.mono hB.size)
          clear hbc
          go_wp2_with fail
          refine hK.out _ _ (HK.out _ hB) (fun hHeld => ?_)
          clear hK K
          refine wpAnyH_ready (rs := [3]) (by kernel_rfl) (by simp) ?_
          refine AllReadyH.cons rfl (fun K hK => ?step64) ?more64
          case step64 =>
            go_simp
            go_at_call 12
            refine (LTally.to a1 _).mono ?_
            rintro e x12 ⟨rfl, hbc⟩
            replace hXC := hXC.kept hbc
            replace hXlt := Nat.lt_of_lt_of_le hXlt hbc.size
            replace hB := hB.trans (hbc.mono hB.size)
            clear hbc
            go_wp2_with fail
            refine hK.out _ _ (HK.out _ hB) (fun hHeld => ?_)
            clear hK K
            refine wpAnyH_ready (rs := [4]) (by kernel_rfl) (by simp) ?_
            refine AllReadyH.cons rfl (fun K hK => ?step65) ?more65
            case step65 =>
              go_simp
              go_at_call 21
              refine (AddTalliesC.impl a0 a1 _ HF0.out HF1.out).mono ?_
              rintro e x13 ⟨r0_, r1_, rfl, hans, hbc⟩
              replace hXC := hXC.kept hbc
              clear hXlt
              replace hB := hB.trans (hbc.mono hB.size)
              clear hbc
              go_wp2_with fail
              refine hK.out _ _ (HK.out _ hB) (fun hHeld => ?_)
              clear hK K
              refine wpAnyH_take (i := 5) (v := ?v66) rfl (by kernel_rfl) (by kernel_rfl) (by kernel_rfl) (fun _ _ _ h => h) (Or.inl ⟨by rfl, ?hy66⟩) (by assumption) ?rest66
              case hy66 => (intro wq hSw; (try dsimp only at hSw); go_split_ands; go_simp; (try with_reducible rfl))
              case rest66 =>
              refine wpAnyH_take (i := 6) (v := ?v67) rfl (by kernel_rfl) (by kernel_rfl) (by kernel_rfl) (fun _ _ _ h => h) (Or.inl ⟨by rfl, ?hy67⟩) (by assumption) ?rest67
              case hy67 => (intro wq hSw; (try dsimp only at hSw); go_split_ands; go_simp; (try with_reducible rfl))
              case rest67 =>
              refine wpAnyH_take (i := 7) (v := ?v68) rfl (by kernel_rfl) (by kernel_rfl) (by kernel_rfl) (fun _ _ _ h => h) (Or.inl ⟨by rfl, ?hy68⟩) (by assumption) ?rest68
              case hy68 => (intro wq hSw; (try dsimp only at hSw); go_split_ands; go_simp; (try with_reducible rfl))
              case rest68 =>
              refine wpAnyH_ready (rs := [9]) (by kernel_rfl) (by simp) ?_
              refine AllReadyH.cons rfl (fun K hK => ?step69) ?more69
              case step69 =>
                have c0 := hXC.cell 0
                have f0 := hXC.frozen 0
                have c1 := hXC.cell 1
                have f1 := hXC.frozen 1
                have c2 := hXC.cell 2
                have f2 := hXC.frozen 2
                simp only [List.getElem?_toArray, List.getElem?_cons_zero, List.getElem?_cons_succ] at c0 c1 c2
                have hBs := (Below.setCell (Below.setCell (Below.setCell hB (p := ⟨gbx10, 0, none⟩) hXA (.int .i64 r0_.yes)) (p := ⟨gbx10, 1, none⟩) hXA (.int .i64 r0_.no)) (p := ⟨gbx10, 2, none⟩) hXA (.int .i64 r0_.abstain))
                have hXs := (Bx.set_ (Bx.set_ (Bx.set_ hXC 0 (.int .i64 r0_.yes)) 1 (.int .i64 r0_.no)) 2 (.int .i64 r0_.abstain))
                go_simp
                refine hK.out _ _ (HK.out _ hBs) (fun hHeld => ?_)
                clear hK K
                clear hB hXC  c0 f0 c1 f1 c2 f2
                simp at hXs
                refine wpAnyH_take (i := 10) (v := ?v70) rfl (by kernel_rfl) (by kernel_rfl) (by kernel_rfl) (fun _ _ _ h => h) (Or.inl ⟨by rfl, ?hy70⟩) (by assumption) ?rest70
                case hy70 => (intro wq hSw; (try dsimp only at hSw); go_split_ands; go_simp; (try with_reducible rfl))
                case rest70 =>
                refine wpAnyH_done (by kernel_rfl) ?_ _
                go_wp2_with fail
                all_goals
                  go_meet
                  exact ⟨_, _, _, rfl, rfl, hans, Lib.hid hXs, hBs⟩
              case more69 => exact AllReadyH.nil
            case more65 => exact AllReadyH.nil
          case more64 => exact AllReadyH.nil
        case more63 => exact AllReadyH.nil
      case more62 => exact AllReadyH.nil
  case rest =>
  obtain ⟨g0_2, r0_2, r1_2, rfl, rfl, hans, hbx0, hb1⟩ := hcut
  obtain ⟨w2_, hwc⟩ : ∃ x, x = wc := ⟨_, rfl⟩
  subst hwc
  obtain ⟨rfl, rfl⟩ := AddTalliesC.same HS.out hans
  clear hans
  replace HX0 := Lib.hid (HX0.out.kept hb1)
  replace HX1 := Lib.hid (HX1.out.kept hb1)
  replace HXw0 := Lib.hid (HXw0.out.kept hb1)
  clear q0_0 q0_1 q0_2
  obtain ⟨q0_0, q0_1, q0_2⟩ := LTally.cells0 HX0.out.now
  clear q1_0 q1_1 q1_2
  obtain ⟨q1_0, q1_1, q1_2⟩ := LTally.cells0 HX1.out.now
  clear qw0_0 qw0_1 qw0_2
  have qw0_0 := HXw0.out.now.cell 0
  have qw0_1 := HXw0.out.now.cell 1
  have qw0_2 := HXw0.out.now.cell 2
  simp only [List.getElem?_toArray, List.getElem?_cons_zero, List.getElem?_cons_succ] at qw0_0 qw0_1 qw0_2
  have HZ2 := Lib.hid hb1.size
  replace hb := hb.trans (hb1.mono hb.size)
  clear hb1
  have HZg0_2 := Lib.hid hbx0.out.lt
  have HXg0 := Lib.hid (Bx.loc hbx0.out)
  clear hbx0
  have qg0_0 := HXg0.out.now.cell 0
  have qg0_1 := HXg0.out.now.cell 1
  have qg0_2 := HXg0.out.now.cell 2
  simp only [List.getElem?_toArray, List.getElem?_cons_zero, List.getElem?_cons_succ] at qg0_0 qg0_1 qg0_2
  go_wp2_with fail
  refine (LTally.eq r0_1 _).mono ?_
  rintro e w3_ ⟨rfl, hb1⟩
  replace HX0 := Lib.hid (HX0.out.kept hb1)
  replace HX1 := Lib.hid (HX1.out.kept hb1)
  replace HXw0 := Lib.hid (HXw0.out.kept hb1)
  replace HXg0 := Lib.hid (HXg0.out.kept hb1)
  clear q0_0 q0_1 q0_2
  obtain ⟨q0_0, q0_1, q0_2⟩ := LTally.cells0 HX0.out.now
  clear q1_0 q1_1 q1_2
  obtain ⟨q1_0, q1_1, q1_2⟩ := LTally.cells0 HX1.out.now
  clear qw0_0 qw0_1 qw0_2
  have qw0_0 := HXw0.out.now.cell 0
  have qw0_1 := HXw0.out.now.cell 1
  have qw0_2 := HXw0.out.now.cell 2
  simp only [List.getElem?_toArray, List.getElem?_cons_zero, List.getElem?_cons_succ] at qw0_0 qw0_1 qw0_2
  clear qg0_0 qg0_1 qg0_2
  have qg0_0 := HXg0.out.now.cell 0
  have qg0_1 := HXg0.out.now.cell 1
  have qg0_2 := HXg0.out.now.cell 2
  simp only [List.getElem?_toArray, List.getElem?_cons_zero, List.getElem?_cons_succ] at qg0_0 qg0_1 qg0_2
  have HZ3 := Lib.hid hb1.size
  replace hb := hb.trans (hb1.mono hb.size)
  clear hb1
  go_wp2_with fail
  go_ret
  exact ⟨rfl, hb⟩
end Go.Proofs.Ytkdiedmbikkbiaa.fnExactAddTallies
