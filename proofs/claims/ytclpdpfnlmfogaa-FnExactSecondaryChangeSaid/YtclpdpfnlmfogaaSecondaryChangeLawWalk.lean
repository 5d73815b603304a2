/- FnExactSecondaryChange: the law's walk, for every struct, every struct. -/
import Derived.Test.YtclpdpfnlmfogaaBx
import Derived.Test.YtclpdpfnlmfogaaLAmendmentE
import Derived.Test.YtclpdpfnlmfogaaLAmendmentM
import Derived.Test.YtclpdpfnlmfogaaLAmendmentO
import Derived.Test.YtclpdpfnlmfogaaLAmendmentT
import Derived.Test.YtclpdpfnlmfogaaLAmendmentZ
import Derived.Test.YtclpdpfnlmfogaaSecondaryChangeC
import Derived.Deep.RegionHeld3
import Derived.Deep.DeepCutAuto
import Derived.Test.YtclpdpfnlmfogaaHeld
import Derived.Test.YtclpdpfnlmfogaaBx
namespace Go.Proofs.Ytclpdpfnlmfogaa.fnExactSecondaryChange
open Go.RowKit Bs
set_option linter.unusedVariables false
set_option maxRecDepth 100000 in
set_option maxHeartbeats 12800000 in
theorem walk (a0_3 : Option Addr) (len0_3 cap0_3 : Nat) (z0 : LAmendment.R) (a1_3 : Option Addr) (len1_3 cap1_3 : Nat) (z1 : LAmendment.R) (w : World) (sh : w.ShapedOpen Try.prog) (w0 : LAmendment.IsIn w a0_3 len0_3 cap0_3 z0) (w1 : LAmendment.IsIn w a1_3 len1_3 cap1_3 z1) :
    Calls Try.prog 6 #[.agg #[.int .i64 z0.kind, .int .i64 z0.pos, .int .i64 z0.count, .slice a0_3 len0_3 cap0_3], .agg #[.int .i64 z1.kind, .int .i64 z1.pos, .int .i64 z1.count, .slice a1_3 len1_3 cap1_3]] w fun e w' => e = .returned (.bool true) ∧ Below w.heap.size w w' := by
  have HA0 := Lib.hid (LAmendment.Is.loc (LAmendment.IsIn.is w0))
  have HF0 := Lib.hid (LAmendment.IsIn.fine w0)
  have HL0_3 := Lib.hid (LAmendment.IsIn.len3 w0)
  have HA1 := Lib.hid (LAmendment.Is.loc (LAmendment.IsIn.is w1))
  have HF1 := Lib.hid (LAmendment.IsIn.fine w1)
  have HL1_3 := Lib.hid (LAmendment.IsIn.len3 w1)
  clear sh w0 w1
  go_enter Try.func6, Try.ntmps6
  replace HA0 := Lib.hid (HA0.out.alloc (.cells #[.int .i64 z0.kind, .int .i64 z0.pos, .int .i64 z0.count, .slice a0_3 len0_3 cap0_3] 34))
  replace HA1 := Lib.hid (HA1.out.alloc (.cells #[.int .i64 z0.kind, .int .i64 z0.pos, .int .i64 z0.count, .slice a0_3 len0_3 cap0_3] 34))
  have HX0 := Lib.hid (Bx.loc (Bx.new w 34 #[.int .i64 z0.kind, .int .i64 z0.pos, .int .i64 z0.count, .slice a0_3 len0_3 cap0_3]))
  have hb := (Below.refl w.heap.size w).alloc (Nat.le_refl _) (Obj.cells #[.int .i64 z0.kind, .int .i64 z0.pos, .int .i64 z0.count, .slice a0_3 len0_3 cap0_3] 34)
  replace HA0 := Lib.hid (HA0.out.alloc (.cells #[.int .i64 z1.kind, .int .i64 z1.pos, .int .i64 z1.count, .slice a1_3 len1_3 cap1_3] 34))
  replace HA1 := Lib.hid (HA1.out.alloc (.cells #[.int .i64 z1.kind, .int .i64 z1.pos, .int .i64 z1.count, .slice a1_3 len1_3 cap1_3] 34))
  replace HX0 := Lib.hid (HX0.out.alloc (.cells #[.int .i64 z1.kind, .int .i64 z1.pos, .int .i64 z1.count, .slice a1_3 len1_3 cap1_3] 34))
  have HX1 := Lib.hid (show Bs.Loc (w.heap.size + 1) (w.heap.size + 1 + 1) (fun W => Bx W (w.heap.size + 1) 34 #[.int .i64 z1.kind, .int .i64 z1.pos, .int .i64 z1.count, .slice a1_3 len1_3 cap1_3]) ((w.alloc (.cells #[.int .i64 z0.kind, .int .i64 z0.pos, .int .i64 z0.count, .slice a0_3 len0_3 cap0_3] 34)).alloc (.cells #[.int .i64 z1.kind, .int .i64 z1.pos, .int .i64 z1.count, .slice a1_3 len1_3 cap1_3] 34)) by rw [show w.heap.size + 1 = (w.alloc (.cells #[.int .i64 z0.kind, .int .i64 z0.pos, .int .i64 z0.count, .slice a0_3 len0_3 cap0_3] 34)).heap.size by simp]; exact Bx.loc (Bx.new (w.alloc (.cells #[.int .i64 z0.kind, .int .i64 z0.pos, .int .i64 z0.count, .slice a0_3 len0_3 cap0_3] 34)) 34 #[.int .i64 z1.kind, .int .i64 z1.pos, .int .i64 z1.count, .slice a1_3 len1_3 cap1_3]))
  replace hb := hb.alloc hb.size (Obj.cells #[.int .i64 z1.kind, .int .i64 z1.pos, .int .i64 z1.count, .slice a1_3 len1_3 cap1_3] 34)
  have q0_0 := HX0.out.now.cell 0
  have q0_1 := HX0.out.now.cell 1
  have q0_2 := HX0.out.now.cell 2
  have q0_3 := HX0.out.now.cell 3
  simp only [List.getElem?_toArray, List.getElem?_cons_zero, List.getElem?_cons_succ] at q0_0 q0_1 q0_2 q0_3
  have q1_0 := HX1.out.now.cell 0
  have q1_1 := HX1.out.now.cell 1
  have q1_2 := HX1.out.now.cell 2
  have q1_3 := HX1.out.now.cell 3
  simp only [List.getElem?_toArray, List.getElem?_cons_zero, List.getElem?_cons_succ] at q1_0 q1_1 q1_2 q1_3
  go_wp2_with fail
  refine (LAmendment.sz _ z0 _ _ (by omega) (by omega) HA0.out.now HF0.out).mono ?_
  rintro e w1_ ⟨hb1, x, rfl, ⟨hx0, hxl⟩ | ⟨rfl, hxl⟩⟩
  · clear hxl
    go_wp2_with fail
    go_ret
    exact ⟨rfl, hb.trans (hb1.mono hb.size)⟩
  have hbud0 := hxl
  clear hxl
  have hzl0_3 : z0.words.length ≤ 1048576 := by (have h0 : LAmendment.wt z0 = (z0.words.length + LString.tot z0.words) := rfl); omega
  replace HA0 := Lib.hid (HA0.out.kept hb1)
  replace HA1 := Lib.hid (HA1.out.kept hb1)
  replace HX0 := Lib.hid (HX0.out.kept hb1)
  replace HX1 := Lib.hid (HX1.out.kept hb1)
  clear q0_0 q0_1 q0_2 q0_3
  have q0_0 := HX0.out.now.cell 0
  have q0_1 := HX0.out.now.cell 1
  have q0_2 := HX0.out.now.cell 2
  have q0_3 := HX0.out.now.cell 3
  simp only [List.getElem?_toArray, List.getElem?_cons_zero, List.getElem?_cons_succ] at q0_0 q0_1 q0_2 q0_3
  clear q1_0 q1_1 q1_2 q1_3
  have q1_0 := HX1.out.now.cell 0
  have q1_1 := HX1.out.now.cell 1
  have q1_2 := HX1.out.now.cell 2
  have q1_3 := HX1.out.now.cell 3
  simp only [List.getElem?_toArray, List.getElem?_cons_zero, List.getElem?_cons_succ] at q1_0 q1_1 q1_2 q1_3
  have HZ1 := Lib.hid (show w.heap.size + 2 ≤ w1_.heap.size by have := hb1.size; simp at this; omega)
  replace hb := hb.trans (hb1.mono hb.size)
  clear hb1
  go_wp2_with fail
  refine (LAmendment.sz _ z1 _ _ (by omega) (by omega) HA1.out.now HF1.out).mono ?_
  rintro e w2_ ⟨hb1, x, rfl, ⟨hx0, hxl⟩ | ⟨rfl, hxl⟩⟩
  · clear hxl
    go_wp2_with fail
    go_ret
    exact ⟨rfl, hb.trans (hb1.mono hb.size)⟩
  have hbud1 := hxl
  clear hxl
  have hzl1_3 : z1.words.length ≤ 1048576 := by (have h0 : LAmendment.wt z1 = (z1.words.length + LString.tot z1.words) := rfl); omega
  replace HA0 := Lib.hid (HA0.out.kept hb1)
  replace HA1 := Lib.hid (HA1.out.kept hb1)
  replace HX0 := Lib.hid (HX0.out.kept hb1)
  replace HX1 := Lib.hid (HX1.out.kept hb1)
  clear q0_0 q0_1 q0_2 q0_3
  have q0_0 := HX0.out.now.cell 0
  have q0_1 := HX0.out.now.cell 1
  have q0_2 := HX0.out.now.cell 2
  have q0_3 := HX0.out.now.cell 3
  simp only [List.getElem?_toArray, List.getElem?_cons_zero, List.getElem?_cons_succ] at q0_0 q0_1 q0_2 q0_3
  clear q1_0 q1_1 q1_2 q1_3
  have q1_0 := HX1.out.now.cell 0
  have q1_1 := HX1.out.now.cell 1
  have q1_2 := HX1.out.now.cell 2
  have q1_3 := HX1.out.now.cell 3
  simp only [List.getElem?_toArray, List.getElem?_cons_zero, List.getElem?_cons_succ] at q1_0 q1_1 q1_2 q1_3
  have HZ2 := Lib.hid hb1.size
  replace hb := hb.trans (hb1.mono hb.size)
  clear hb1
  go_wp2_with fail
  go_cut [6, 7] (fun s6 s7 wx => ∃ (g0 : Nat) (fa0_c_3 : Option Addr) (fn0_c_3 fc0_c_3 : Nat) (r0 : LAmendment.R) (r1 : Bool), s6 = .pointer (some ⟨g0, 0, none⟩) ∧ s7 = .bool r1 ∧ SecondaryChangeC.Ans z0 z1 r0 r1 ∧ Hid (Bx wx g0 38 #[.int .i64 r0.kind, .int .i64 r0.pos, .int .i64 r0.count, .slice fa0_c_3 fn0_c_3 fc0_c_3]) ∧ LAmendment.Own wx w2_.heap.size (.agg #[.int .i64 r0.kind, .int .i64 r0.pos, .int .i64 r0.count, .slice fa0_c_3 fn0_c_3 fc0_c_3]) r0 ∧ Below w2_.heap.size w2_ wx)
  case first =>
    have HK := Lib.hid (show ∀ w' : World, Below w2_.heap.size w2_ w' → Below w2_.heap.size w2_ w' ∧ w'.cell? ⟨w.heap.size, 0, none⟩ = some (.int .i64 z0.kind) ∧ w'.cell? ⟨w.heap.size, 1, none⟩ = some (.int .i64 z0.pos) ∧ w'.cell? ⟨w.heap.size, 2, none⟩ = some (.int .i64 z0.count) ∧ w'.cell? ⟨w.heap.size, 3, none⟩ = some (.slice a0_3 len0_3 cap0_3) ∧ w'.cell? ⟨w.heap.size + 1, 0, none⟩ = some (.int .i64 z1.kind) ∧ w'.cell? ⟨w.heap.size + 1, 1, none⟩ = some (.int .i64 z1.pos) ∧ w'.cell? ⟨w.heap.size + 1, 2, none⟩ = some (.int .i64 z1.count) ∧ w'.cell? ⟨w.heap.size + 1, 3, none⟩ = some (.slice a1_3 len1_3 cap1_3) from fun w' hb => ⟨hb, by (have h := (HX0.out.kept hb).now.cell 0); simpa using h, by (have h := (HX0.out.kept hb).now.cell 1); simpa using h, by (have h := (HX0.out.kept hb).now.cell 2); simpa using h, by (have h := (HX0.out.kept hb).now.cell 3); simpa using h, by (have h := (HX1.out.kept hb).now.cell 0); simpa using h, by (have h := (HX1.out.kept hb).now.cell 1); simpa using h, by (have h := (HX1.out.kept hb).now.cell 2); simpa using h, by (have h := (HX1.out.kept hb).now.cell 3); simpa using h⟩)
    have hB : Below w2_.heap.size w2_ w2_.drew := (Below.refl _ _).drew
    refine wp_region_held_drew (S := fun w' => Below w2_.heap.size w2_ w' ∧ w'.cell? ⟨w.heap.size, 0, none⟩ = some (.int .i64 z0.kind) ∧ w'.cell? ⟨w.heap.size, 1, none⟩ = some (.int .i64 z0.pos) ∧ w'.cell? ⟨w.heap.size, 2, none⟩ = some (.int .i64 z0.count) ∧ w'.cell? ⟨w.heap.size, 3, none⟩ = some (.slice a0_3 len0_3 cap0_3) ∧ w'.cell? ⟨w.heap.size + 1, 0, none⟩ = some (.int .i64 z1.kind) ∧ w'.cell? ⟨w.heap.size + 1, 1, none⟩ = some (.int .i64 z1.pos) ∧ w'.cell? ⟨w.heap.size + 1, 2, none⟩ = some (.int .i64 z1.count) ∧ w'.cell? ⟨w.heap.size + 1, 3, none⟩ = some (.slice a1_3 len1_3 cap1_3)) (by kernel_rfl) (HK.out _ hB) (fun hHeld => ?_)
    generalize w2_.drew = x0 at *
    refine wpAnyH_take (i := 0) (v := ?v1) rfl (by kernel_rfl) (by kernel_rfl) (by kernel_rfl) (fun _ _ _ h => h) (Or.inl ⟨by rfl, ?hy1⟩) (by assumption) ?rest1
    case hy1 => (intro wq hSw; (try dsimp only at hSw); go_split_ands; go_simp; (try with_reducible rfl))
    case rest1 =>
    refine wpAnyH_take (i := 2) (v := ?v2) rfl (by kernel_rfl) (by kernel_rfl) (by kernel_rfl) (fun _ _ _ h => h) (Or.inl ⟨by rfl, ?hy2⟩) (by assumption) ?rest2
    case hy2 => (intro wq hSw; (try dsimp only at hSw); go_split_ands; go_simp; (try with_reducible rfl))
    case rest2 =>
    refine wpAnyH_ready (rs := [1, 8]) (by kernel_rfl) (by simp) ?_
    refine AllReadyH.cons rfl (fun K hK => ?step3) ?more3
    case step3 =>
      go_simp
      go_at_call 18
      refine (LAmendment.to _ z0 _ (HA0.out.kept hB).now (by omega)).mono ?_
      rintro e x1 ⟨u0, rfl, hn0, ho0, hbc⟩
      replace hB := hB.trans (hbc.mono hB.size)
      clear hbc
      go_wp2_with fail
      refine hK.out _ _ (HK.out _ hB) (fun hHeld => ?_)
      clear hK K
      refine wpAnyH_ready (rs := [3, 8]) (by kernel_rfl) (by simp) ?_
      refine AllReadyH.cons rfl (fun K hK => ?step4) ?more4
      case step4 =>
        go_simp
        go_at_call 18
        refine (LAmendment.to _ z1 _ (HA1.out.kept hB).now (by omega)).mono ?_
        rintro e x2 ⟨u1, rfl, hn1, ho1, hbc⟩
        replace ho0 := ho0.kept hbc
        replace hB := hB.trans (hbc.mono hB.size)
        clear hbc
        go_wp2_with fail
        refine hK.out _ _ (HK.out _ hB) (fun hHeld => ?_)
        clear hK K
        refine wpAnyH_ready (rs := [4, 8]) (by kernel_rfl) (by simp) ?_
        refine AllReadyH.cons rfl (fun K hK => ?step5) ?more5
        case step5 =>
          go_simp
          go_at_call 25
          refine (SecondaryChangeC.spec u0 z0 u1 z1 _ ho0.isQ HF0.out (by omega) ho1.isQ HF1.out (by omega)).mono ?_
          rintro e x3 ⟨v0_, r0_, r1_, rfl, hans, hoz0, hbc⟩
          replace ho0 := ho0.kept hbc
          replace ho1 := ho1.kept hbc
          obtain ⟨sz3, rfl, hoz0_3⟩ := hoz0
          obtain ⟨fa0_c_3, fn0_c_3, fc0_c_3, rfl⟩ := own_slice hoz0_3
          replace hoz0_3 := hoz0_3.low hB.size
          replace hB := hB.trans (hbc.mono hB.size)
          clear hbc
          go_wp2_with fail
          refine hK.out _ _ (HK.out _ hB) (fun hHeld => ?_)
          clear hK K
          refine wpAnyH_take (i := 5) (v := ?v6) rfl (by kernel_rfl) (by kernel_rfl) (by kernel_rfl) (fun _ _ _ h => h) (Or.inl ⟨by rfl, ?hy6⟩) (by assumption) ?rest6
          case hy6 => (intro wq hSw; (try dsimp only at hSw); go_split_ands; go_simp; (try with_reducible rfl))
          case rest6 =>
          refine wpAnyH_take (i := 6) (v := ?v7) rfl (by kernel_rfl) (by kernel_rfl) (by kernel_rfl) (fun _ _ _ h => h) (Or.inl ⟨by rfl, ?hy7⟩) (by assumption) ?rest7
          case hy7 => (intro wq hSw; (try dsimp only at hSw); go_split_ands; go_simp; (try with_reducible rfl))
          case rest7 =>
          refine wpAnyH_take (i := 7) (v := ?v8) rfl (by kernel_rfl) (by kernel_rfl) (by kernel_rfl) (fun _ _ _ h => h) (Or.inl ⟨by rfl, ?hy8⟩) (by assumption) ?rest8
          case hy8 => (intro wq hSw; (try dsimp only at hSw); go_split_ands; go_simp; (try with_reducible rfl))
          case rest8 =>
          refine wpAnyH_ready (rs := [8]) (by kernel_rfl) (by simp) ?_
          refine AllReadyH.cons rfl (fun K hK => ?step9) ?more9
          case step9 =>
            go_simp
            refine hK.out _ _ (HK.out _ (hB.alloc hB.size _)) (fun hHeld => ?_)
            clear hK K
            have hNZ0_3 : ∀ k, (Value.slice fa0_c_3 fn0_c_3 fc0_c_3).ownBlock = some k → k ≠ x3.heap.size := fun k hk => by have h1 := (hoz0_3.lt k hk).2; omega
            replace ho0 := ho0.kept ((Below.refl x3.heap.size x3).alloc (Nat.le_refl _) (Obj.cells #[.int .i64 0, .int .i64 0, .int .i64 0, .slice none 0 0] 38))
            replace ho1 := ho1.kept ((Below.refl x3.heap.size x3).alloc (Nat.le_refl _) (Obj.cells #[.int .i64 0, .int .i64 0, .int .i64 0, .slice none 0 0] 38))
            replace hoz0_3 := hoz0_3.kept ((Below.refl x3.heap.size x3).alloc (Nat.le_refl _) (Obj.cells #[.int .i64 0, .int .i64 0, .int .i64 0, .slice none 0 0] 38))
            have hXC := Bx.new x3 38 #[.int .i64 0, .int .i64 0, .int .i64 0, .slice none 0 0]
            have hXA : w2_.heap.size ≤ x3.heap.size := hB.size
            replace hB := hB.alloc hB.size (Obj.cells #[.int .i64 0, .int .i64 0, .int .i64 0, .slice none 0 0] 38)
            generalize x3.alloc (Obj.cells #[.int .i64 0, .int .i64 0, .int .i64 0, .slice none 0 0] 38) = x4 at *
            generalize x3.heap.size = gbx4 at *
            have hXlt : gbx4 < x4.heap.size := hXC.lt
            clear hXlt
            refine wpAnyH_ready (rs := [9]) (by kernel_rfl) (by simp) ?_
            refine AllReadyH.cons rfl (fun K hK => ?step10) ?more10
            case step10 =>
              have c0 := hXC.cell 0
              have f0 := hXC.frozen 0
              have c1 := hXC.cell 1
              have f1 := hXC.frozen 1
              have c2 := hXC.cell 2
              have f2 := hXC.frozen 2
              have c3 := hXC.cell 3
              have f3 := hXC.frozen 3
              simp only [List.getElem?_toArray, List.getElem?_cons_zero, List.getElem?_cons_succ] at c0 c1 c2 c3
              have hBs := (Below.setCell (Below.setCell (Below.setCell (Below.setCell hB (p := ⟨gbx4, 0, none⟩) hXA (.int .i64 r0_.kind)) (p := ⟨gbx4, 1, none⟩) hXA (.int .i64 r0_.pos)) (p := ⟨gbx4, 2, none⟩) hXA (.int .i64 r0_.count)) (p := ⟨gbx4, 3, none⟩) hXA (.slice fa0_c_3 fn0_c_3 fc0_c_3))
              have hXs := (Bx.set_ (Bx.set_ (Bx.set_ (Bx.set_ hXC 0 (.int .i64 r0_.kind)) 1 (.int .i64 r0_.pos)) 2 (.int .i64 r0_.count)) 3 (.slice fa0_c_3 fn0_c_3 fc0_c_3))
              have hos3 := (own_set (own_set (own_set (own_set hoz0_3 (p := ⟨gbx4, 0, none⟩) (hNZ0_3) (.int .i64 r0_.kind)) (p := ⟨gbx4, 1, none⟩) (hNZ0_3) (.int .i64 r0_.pos)) (p := ⟨gbx4, 2, none⟩) (hNZ0_3) (.int .i64 r0_.count)) (p := ⟨gbx4, 3, none⟩) (hNZ0_3) (.slice fa0_c_3 fn0_c_3 fc0_c_3))
              go_simp
              refine hK.out _ _ (HK.out _ hBs) (fun hHeld => ?_)
              clear hK K
              clear hB hXC hoz0_3 c0 f0 c1 f1 c2 f2 c3 f3
              simp at hXs
              refine wpAnyH_take (i := 10) (v := ?v11) rfl (by kernel_rfl) (by kernel_rfl) (by kernel_rfl) (fun _ _ _ h => h) (Or.inl ⟨by rfl, ?hy11⟩) (by assumption) ?rest11
              case hy11 => (intro wq hSw; (try dsimp only at hSw); go_split_ands; go_simp; (try with_reducible rfl))
              case rest11 =>
              refine wpAnyH_done (by kernel_rfl) ?_ _
              go_wp2_with fail
              all_goals
                go_meet
                exact ⟨_, _, _, _, _, _, rfl, rfl, hans, Lib.hid hXs, ⟨_, rfl, hos3⟩, hBs⟩
            case more10 => exact AllReadyH.nil
          case more9 => exact AllReadyH.nil
        case more5 =>
          refine AllReadyH.cons rfl (fun K hK => ?step12) ?more12
          case step12 =>
            go_simp
            refine hK.out _ _ (HK.out _ (hB.alloc hB.size _)) (fun hHeld => ?_)
            clear hK K
            replace ho0 := ho0.kept ((Below.refl x2.heap.size x2).alloc (Nat.le_refl _) (Obj.cells #[.int .i64 0, .int .i64 0, .int .i64 0, .slice none 0 0] 38))
            replace ho1 := ho1.kept ((Below.refl x2.heap.size x2).alloc (Nat.le_refl _) (Obj.cells #[.int .i64 0, .int .i64 0, .int .i64 0, .slice none 0 0] 38))
            have hXC := Bx.new x2 38 #[.int .i64 0, .int .i64 0, .int .i64 0, .slice none 0 0]
            have hXA : w2_.heap.size ≤ x2.heap.size := hB.size
            replace hB := hB.alloc hB.size (Obj.cells #[.int .i64 0, .int .i64 0, .int .i64 0, .slice none 0 0] 38)
            generalize x2.alloc (Obj.cells #[.int .i64 0, .int .i64 0, .int .i64 0, .slice none 0 0] 38) = x5 at *
            generalize x2.heap.size = gbx5 at *
            have hXlt : gbx5 < x5.heap.size := hXC.lt
            refine wpAnyH_ready (rs := [4]) (by kernel_rfl) (by simp) ?_
            refine AllReadyH.cons rfl (fun K hK => ?step13) ?more13
            case step13 =>
              go_simp
              go_at_call 25
              refine (SecondaryChangeC.spec u0 z0 u1 z1 _ ho0.isQ HF0.out (by omega) ho1.isQ HF1.out (by omega)).mono ?_
              rintro e x6 ⟨v0_, r0_, r1_, rfl, hans, hoz0, hbc⟩
              replace ho0 := ho0.kept hbc
              replace ho1 := ho1.kept hbc
              replace hXC := hXC.kept hbc
              obtain ⟨sz3, rfl, hoz0_3⟩ := hoz0
              obtain ⟨fa0_c_3, fn0_c_3, fc0_c_3, rfl⟩ := own_slice hoz0_3
              have hNZ0_3 : ∀ k, (Value.slice fa0_c_3 fn0_c_3 fc0_c_3).ownBlock = some k → k ≠ gbx5 := fun k hk => by have h1 := (hoz0_3.lt k hk).1; have h2 := hXlt; omega
              replace hoz0_3 := hoz0_3.low hB.size
              clear hXlt
              replace hB := hB.trans (hbc.mono hB.size)
              clear hbc
              go_wp2_with fail
              refine hK.out _ _ (HK.out _ hB) (fun hHeld => ?_)
              clear hK K
              refine wpAnyH_take (i := 5) (v := ?v14) rfl (by kernel_rfl) (by kernel_rfl) (by kernel_rfl) (fun _ _ _ h => h) (Or.inl ⟨by rfl, ?hy14⟩) (by assumption) ?rest14
              case hy14 => (intro wq hSw; (try dsimp only at hSw); go_split_ands; go_simp; (try with_reducible rfl))
              case rest14 =>
              refine wpAnyH_take (i := 6) (v := ?v15) rfl (by kernel_rfl) (by kernel_rfl) (by kernel_rfl) (fun _ _ _ h => h) (Or.inl ⟨by rfl, ?hy15⟩) (by assumption) ?rest15
              case hy15 => (intro wq hSw; (try dsimp only at hSw); go_split_ands; go_simp; (try with_reducible rfl))
              case rest15 =>
              refine wpAnyH_take (i := 7) (v := ?v16) rfl (by kernel_rfl) (by kernel_rfl) (by kernel_rfl) (fun _ _ _ h => h) (Or.inl ⟨by rfl, ?hy16⟩) (by assumption) ?rest16
              case hy16 => (intro wq hSw; (try dsimp only at hSw); go_split_ands; go_simp; (try with_reducible rfl))
              case rest16 =>
              refine wpAnyH_ready (rs := [9]) (by kernel_rfl) (by simp) ?_
              refine AllReadyH.cons rfl (fun K hK => ?step17) ?more17
              case step17 =>
                have c0 := hXC.cell 0
                have f0 := hXC.frozen 0
                have c1 := hXC.cell 1
                have f1 := hXC.frozen 1
                have c2 := hXC.cell 2
                have f2 := hXC.frozen 2
                have c3 := hXC.cell 3
                have f3 := hXC.frozen 3
                simp only [List.getElem?_toArray, List.getElem?_cons_zero, List.getElem?_cons_succ] at c0 c1 c2 c3
                have hBs := (Below.setCell (Below.setCell (Below.setCell (Below.setCell hB (p := ⟨gbx5, 0, none⟩) hXA (.int .i64 r0_.kind)) (p := ⟨gbx5, 1, none⟩) hXA (.int .i64 r0_.pos)) (p := ⟨gbx5, 2, none⟩) hXA (.int .i64 r0_.count)) (p := ⟨gbx5, 3, none⟩) hXA (.slice fa0_c_3 fn0_c_3 fc0_c_3))
                have hXs := (Bx.set_ (Bx.set_ (Bx.set_ (Bx.set_ hXC 0 (.int .i64 r0_.kind)) 1 (.int .i64 r0_.pos)) 2 (.int .i64 r0_.count)) 3 (.slice fa0_c_3 fn0_c_3 fc0_c_3))
                have hos3 := (own_set (own_set (own_set (own_set hoz0_3 (p := ⟨gbx5, 0, none⟩) (hNZ0_3) (.int .i64 r0_.kind)) (p := ⟨gbx5, 1, none⟩) (hNZ0_3) (.int .i64 r0_.pos)) (p := ⟨gbx5, 2, none⟩) (hNZ0_3) (.int .i64 r0_.count)) (p := ⟨gbx5, 3, none⟩) (hNZ0_3) (.slice fa0_c_3 fn0_c_3 fc0_c_3))
                go_simp
                refine hK.out _ _ (HK.out _ hBs) (fun hHeld => ?_)
                clear hK K
                clear hB hXC hoz0_3 c0 f0 c1 f1 c2 f2 c3 f3
                simp at hXs
                refine wpAnyH_take (i := 10) (v := ?v18) rfl (by kernel_rfl) (by kernel_rfl) (by kernel_rfl) (fun _ _ _ h => h) (Or.inl ⟨by rfl, ?hy18⟩) (by assumption) ?rest18
                case hy18 => (intro wq hSw; (try dsimp only at hSw); go_split_ands; go_simp; (try with_reducible rfl))
                case rest18 =>
                refine wpAnyH_done (by kernel_rfl) ?_ _
                go_wp2_with fail
                all_goals
                  go_meet
                  exact ⟨_, _, _, _, _, _, rfl, rfl, hans, Lib.hid hXs, ⟨_, rfl, hos3⟩, hBs⟩
              case more17 => exact AllReadyH.nil
            case more13 => exact AllReadyH.nil
          case more12 => exact AllReadyH.nil
      case more4 =>
        refine AllReadyH.cons rfl (fun K hK => ?step19) ?more19
        case step19 =>
          go_simp
          refine hK.out _ _ (HK.out _ (hB.alloc hB.size _)) (fun hHeld => ?_)
          clear hK K
          replace ho0 := ho0.kept ((Below.refl x1.heap.size x1).alloc (Nat.le_refl _) (Obj.cells #[.int .i64 0, .int .i64 0, .int .i64 0, .slice none 0 0] 38))
          have hXC := Bx.new x1 38 #[.int .i64 0, .int .i64 0, .int .i64 0, .slice none 0 0]
          have hXA : w2_.heap.size ≤ x1.heap.size := hB.size
          replace hB := hB.alloc hB.size (Obj.cells #[.int .i64 0, .int .i64 0, .int .i64 0, .slice none 0 0] 38)
          generalize x1.alloc (Obj.cells #[.int .i64 0, .int .i64 0, .int .i64 0, .slice none 0 0] 38) = x7 at *
          generalize x1.heap.size = gbx7 at *
          have hXlt : gbx7 < x7.heap.size := hXC.lt
          refine wpAnyH_ready (rs := [3]) (by kernel_rfl) (by simp) ?_
          refine AllReadyH.cons rfl (fun K hK => ?step20) ?more20
          case step20 =>
            go_simp
            go_at_call 18
            refine (LAmendment.to _ z1 _ (HA1.out.kept hB).now (by omega)).mono ?_
            rintro e x8 ⟨u1, rfl, hn1, ho1, hbc⟩
            replace ho0 := ho0.kept hbc
            replace hXC := hXC.kept hbc
            replace hXlt := Nat.lt_of_lt_of_le hXlt hbc.size
            replace hB := hB.trans (hbc.mono hB.size)
            clear hbc
            go_wp2_with fail
            refine hK.out _ _ (HK.out _ hB) (fun hHeld => ?_)
            clear hK K
            refine wpAnyH_ready (rs := [4]) (by kernel_rfl) (by simp) ?_
            refine AllReadyH.cons rfl (fun K hK => ?step21) ?more21
            case step21 =>
              go_simp
              go_at_call 25
              refine (SecondaryChangeC.spec u0 z0 u1 z1 _ ho0.isQ HF0.out (by omega) ho1.isQ HF1.out (by omega)).mono ?_
              rintro e x9 ⟨v0_, r0_, r1_, rfl, hans, hoz0, hbc⟩
              replace ho0 := ho0.kept hbc
              replace hXC := hXC.kept hbc
              replace ho1 := ho1.kept hbc
              obtain ⟨sz3, rfl, hoz0_3⟩ := hoz0
              obtain ⟨fa0_c_3, fn0_c_3, fc0_c_3, rfl⟩ := own_slice hoz0_3
              have hNZ0_3 : ∀ k, (Value.slice fa0_c_3 fn0_c_3 fc0_c_3).ownBlock = some k → k ≠ gbx7 := fun k hk => by have h1 := (hoz0_3.lt k hk).1; have h2 := hXlt; omega
              replace hoz0_3 := hoz0_3.low hB.size
              clear hXlt
              replace hB := hB.trans (hbc.mono hB.size)
              clear hbc
              go_wp2_with fail
              refine hK.out _ _ (HK.out _ hB) (fun hHeld => ?_)
              clear hK K
              refine wpAnyH_take (i := 5) (v := ?v22) rfl (by kernel_rfl) (by kernel_rfl) (by kernel_rfl) (fun _ _ _ h => h) (Or.inl ⟨by rfl, ?hy22⟩) (by assumption) ?rest22
              case hy22 => (intro wq hSw; (try dsimp only at hSw); go_split_ands; go_simp; (try with_reducible rfl))
              case rest22 =>
              refine wpAnyH_take (i := 6) (v := ?v23) rfl (by kernel_rfl) (by kernel_rfl) (by kernel_rfl) (fun _ _ _ h => h) (Or.inl ⟨by rfl, ?hy23⟩) (by assumption) ?rest23
              case hy23 => (intro wq hSw; (try dsimp only at hSw); go_split_ands; go_simp; (try with_reducible rfl))
              case rest23 =>
              refine wpAnyH_take (i := 7) (v := ?v24) rfl (by kernel_rfl) (by kernel_rfl) (by kernel_rfl) (fun _ _ _ h => h) (Or.inl ⟨by rfl, ?hy24⟩) (by assumption) ?rest24
              case hy24 => (intro wq hSw; (try dsimp only at hSw); go_split_ands; go_simp; (try with_reducible rfl))
              case rest24 =>
              refine wpAnyH_ready (rs := [9]) (by kernel_rfl) (by simp) ?_
              refine AllReadyH.cons rfl (fun K hK => ?step25) ?more25
              case step25 =>
                have c0 := hXC.cell 0
                have f0 := hXC.frozen 0
                have c1 := hXC.cell 1
                have f1 := hXC.frozen 1
                have c2 := hXC.cell 2
                have f2 := hXC.frozen 2
                have c3 := hXC.cell 3
                have f3 := hXC.frozen 3
                simp only [List.getElem?_toArray, List.getElem?_cons_zero, List.getElem?_cons_succ] at c0 c1 c2 c3
                have hBs := (Below.setCell (Below.setCell (Below.setCell (Below.setCell hB (p := ⟨gbx7, 0, none⟩) hXA (.int .i64 r0_.kind)) (p := ⟨gbx7, 1, none⟩) hXA (.int .i64 r0_.pos)) (p := ⟨gbx7, 2, none⟩) hXA (.int .i64 r0_.count)) (p := ⟨gbx7, 3, none⟩) hXA (.slice fa0_c_3 fn0_c_3 fc0_c_3))
                have hXs := (Bx.set_ (Bx.set_ (Bx.set_ (Bx.set_ hXC 0 (.int .i64 r0_.kind)) 1 (.int .i64 r0_.pos)) 2 (.int .i64 r0_.count)) 3 (.slice fa0_c_3 fn0_c_3 fc0_c_3))
                have hos3 := (own_set (own_set (own_set (own_set hoz0_3 (p := ⟨gbx7, 0, none⟩) (hNZ0_3) (.int .i64 r0_.kind)) (p := ⟨gbx7, 1, none⟩) (hNZ0_3) (.int .i64 r0_.pos)) (p := ⟨gbx7, 2, none⟩) (hNZ0_3) (.int .i64 r0_.count)) (p := ⟨gbx7, 3, none⟩) (hNZ0_3) (.slice fa0_c_3 fn0_c_3 fc0_c_3))
                go_simp
                refine hK.out _ _ (HK.out _ hBs) (fun hHeld => ?_)
                clear hK K
                clear hB hXC hoz0_3 c0 f0 c1 f1 c2 f2 c3 f3
                simp at hXs
                refine wpAnyH_take (i := 10) (v := ?v26) rfl (by kernel_rfl) (by kernel_rfl) (by kernel_rfl) (fun _ _ _ h => h) (Or.inl ⟨by rfl, ?hy26⟩) (by assumption) ?rest26
                case hy26 => (intro wq hSw; (try dsimp only at hSw); go_split_ands; go_simp; (try with_reducible rfl))
                case rest26 =>
                refine wpAnyH_done (by kernel_rfl) ?_ _
                go_wp2_with fail
                all_goals
                  go_meet
                  exact ⟨_, _, _, _, _, _, rfl, rfl, hans, Lib.hid hXs, ⟨_, rfl, hos3⟩, hBs⟩
              case more25 => exact AllReadyH.nil
            case more21 => exact AllReadyH.nil
          case more20 => exact AllReadyH.nil
        case more19 => exact AllReadyH.nil
    case more3 =>
      refine AllReadyH.cons rfl (fun K hK => ?step27) ?more27
      case step27 =>
        go_simp
        refine hK.out _ _ (HK.out _ (hB.alloc hB.size _)) (fun hHeld => ?_)
        clear hK K
        have hXC := Bx.new x0 38 #[.int .i64 0, .int .i64 0, .int .i64 0, .slice none 0 0]
        have hXA : w2_.heap.size ≤ x0.heap.size := hB.size
        replace hB := hB.alloc hB.size (Obj.cells #[.int .i64 0, .int .i64 0, .int .i64 0, .slice none 0 0] 38)
        generalize x0.alloc (Obj.cells #[.int .i64 0, .int .i64 0, .int .i64 0, .slice none 0 0] 38) = x10 at *
        generalize x0.heap.size = gbx10 at *
        have hXlt : gbx10 < x10.heap.size := hXC.lt
        refine wpAnyH_ready (rs := [1]) (by kernel_rfl) (by simp) ?_
        refine AllReadyH.cons rfl (fun K hK => ?step28) ?more28
        case step28 =>
          go_simp
          go_at_call 18
          refine (LAmendment.to _ z0 _ (HA0.out.kept hB).now (by omega)).mono ?_
          rintro e x11 ⟨u0, rfl, hn0, ho0, hbc⟩
          replace hXC := hXC.kept hbc
          replace hXlt := Nat.lt_of_lt_of_le hXlt hbc.size
          replace hB := hB.trans (hbc.mono hB.size)
          clear hbc
          go_wp2_with fail
          refine hK.out _ _ (HK.out _ hB) (fun hHeld => ?_)
          clear hK K
          refine wpAnyH_ready (rs := [3]) (by kernel_rfl) (by simp) ?_
          refine AllReadyH.cons rfl (fun K hK => ?step29) ?more29
          case step29 =>
            go_simp
            go_at_call 18
            refine (LAmendment.to _ z1 _ (HA1.out.kept hB).now (by omega)).mono ?_
            rintro e x12 ⟨u1, rfl, hn1, ho1, hbc⟩
            replace hXC := hXC.kept hbc
            replace ho0 := ho0.kept hbc
            replace hXlt := Nat.lt_of_lt_of_le hXlt hbc.size
            replace hB := hB.trans (hbc.mono hB.size)
            clear hbc
            go_wp2_with fail
            refine hK.out _ _ (HK.out _ hB) (fun hHeld => ?_)
            clear hK K
            refine wpAnyH_ready (rs := [4]) (by kernel_rfl) (by simp) ?_
            refine AllReadyH.cons rfl (fun K hK => ?step30) ?more30
            case step30 =>
              go_simp
              go_at_call 25
              refine (SecondaryChangeC.spec u0 z0 u1 z1 _ ho0.isQ HF0.out (by omega) ho1.isQ HF1.out (by omega)).mono ?_
              rintro e x13 ⟨v0_, r0_, r1_, rfl, hans, hoz0, hbc⟩
              replace hXC := hXC.kept hbc
              replace ho0 := ho0.kept hbc
              replace ho1 := ho1.kept hbc
              obtain ⟨sz3, rfl, hoz0_3⟩ := hoz0
              obtain ⟨fa0_c_3, fn0_c_3, fc0_c_3, rfl⟩ := own_slice hoz0_3
              have hNZ0_3 : ∀ k, (Value.slice fa0_c_3 fn0_c_3 fc0_c_3).ownBlock = some k → k ≠ gbx10 := fun k hk => by have h1 := (hoz0_3.lt k hk).1; have h2 := hXlt; omega
              replace hoz0_3 := hoz0_3.low hB.size
              clear hXlt
              replace hB := hB.trans (hbc.mono hB.size)
              clear hbc
              go_wp2_with fail
              refine hK.out _ _ (HK.out _ hB) (fun hHeld => ?_)
              clear hK K
              refine wpAnyH_take (i := 5) (v := ?v31) rfl (by kernel_rfl) (by kernel_rfl) (by kernel_rfl) (fun _ _ _ h => h) (Or.inl ⟨by rfl, ?hy31⟩) (by assumption) ?rest31
              case hy31 => (intro wq hSw; (try dsimp only at hSw); go_split_ands; go_simp; (try with_reducible rfl))
              case rest31 =>
              refine wpAnyH_take (i := 6) (v := ?v32) rfl (by kernel_rfl) (by kernel_rfl) (by kernel_rfl) (fun _ _ _ h => h) (Or.inl ⟨by rfl, ?hy32⟩) (by assumption) ?rest32
              case hy32 => (intro wq hSw; (try dsimp only at hSw); go_split_ands; go_simp; (try with_reducible rfl))
              case rest32 =>
              refine wpAnyH_take (i := 7) (v := ?v33) rfl (by kernel_rfl) (by kernel_rfl) (by kernel_rfl) (fun _ _ _ h => h) (Or.inl ⟨by rfl, ?hy33⟩) (by assumption) ?rest33
              case hy33 => (intro wq hSw; (try dsimp only at hSw); go_split_ands; go_simp; (try with_reducible rfl))
              case rest33 =>
              refine wpAnyH_ready (rs := [9]) (by kernel_rfl) (by simp) ?_
              refine AllReadyH.cons rfl (fun K hK => ?step34) ?more34
              case step34 =>
                have c0 := hXC.cell 0
                have f0 := hXC.frozen 0
                have c1 := hXC.cell 1
                have f1 := hXC.frozen 1
                have c2 := hXC.cell 2
                have f2 := hXC.frozen 2
                have c3 := hXC.cell 3
                have f3 := hXC.frozen 3
                simp only [List.getElem?_toArray, List.getElem?_cons_zero, List.getElem?_cons_succ] at c0 c1 c2 c3
                have hBs := (Below.setCell (Below.setCell (Below.setCell (Below.setCell hB (p := ⟨gbx10, 0, none⟩) hXA (.int .i64 r0_.kind)) (p := ⟨gbx10, 1, none⟩) hXA (.int .i64 r0_.pos)) (p := ⟨gbx10, 2, none⟩) hXA (.int .i64 r0_.count)) (p := ⟨gbx10, 3, none⟩) hXA (.slice fa0_c_3 fn0_c_3 fc0_c_3))
                have hXs := (Bx.set_ (Bx.set_ (Bx.set_ (Bx.set_ hXC 0 (.int .i64 r0_.kind)) 1 (.int .i64 r0_.pos)) 2 (.int .i64 r0_.count)) 3 (.slice fa0_c_3 fn0_c_3 fc0_c_3))
                have hos3 := (own_set (own_set (own_set (own_set hoz0_3 (p := ⟨gbx10, 0, none⟩) (hNZ0_3) (.int .i64 r0_.kind)) (p := ⟨gbx10, 1, none⟩) (hNZ0_3) (.int .i64 r0_.pos)) (p := ⟨gbx10, 2, none⟩) (hNZ0_3) (.int .i64 r0_.count)) (p := ⟨gbx10, 3, none⟩) (hNZ0_3) (.slice fa0_c_3 fn0_c_3 fc0_c_3))
                go_simp
                refine hK.out _ _ (HK.out _ hBs) (fun hHeld => ?_)
                clear hK K
                clear hB hXC hoz0_3 c0 f0 c1 f1 c2 f2 c3 f3
                simp at hXs
                refine wpAnyH_take (i := 10) (v := ?v35) rfl (by kernel_rfl) (by kernel_rfl) (by kernel_rfl) (fun _ _ _ h => h) (Or.inl ⟨by rfl, ?hy35⟩) (by assumption) ?rest35
                case hy35 => (intro wq hSw; (try dsimp only at hSw); go_split_ands; go_simp; (try with_reducible rfl))
                case rest35 =>
                refine wpAnyH_done (by kernel_rfl) ?_ _
                go_wp2_with fail
                all_goals
                  go_meet
                  exact ⟨_, _, _, _, _, _, rfl, rfl, hans, Lib.hid hXs, ⟨_, rfl, hos3⟩, hBs⟩
              case more34 => exact AllReadyH.nil
            case more30 => exact AllReadyH.nil
          case more29 => exact AllReadyH.nil
        case more28 => exact AllReadyH.nil
      case more27 => exact AllReadyH.nil
  case rest =>
  obtain ⟨g0_3, fa0_3_3, fn0_3_3, fc0_3_3, r0_3, r1_3, rfl, rfl, hans, hbx0, ho0, hb1⟩ := hcut
  obtain ⟨w3_, hwc⟩ : ∃ x, x = wc := ⟨_, rfl⟩
  subst hwc
  have HS := Lib.hid hans
  have hlen0_3 := SecondaryChangeC.len0 hans
  clear hans
  have HR0_3 := Lib.hid ho0.loc
  clear ho0
  replace HA0 := Lib.hid (HA0.out.kept hb1)
  replace HA1 := Lib.hid (HA1.out.kept hb1)
  replace HX0 := Lib.hid (HX0.out.kept hb1)
  replace HX1 := Lib.hid (HX1.out.kept hb1)
  clear q0_0 q0_1 q0_2 q0_3
  have q0_0 := HX0.out.now.cell 0
  have q0_1 := HX0.out.now.cell 1
  have q0_2 := HX0.out.now.cell 2
  have q0_3 := HX0.out.now.cell 3
  simp only [List.getElem?_toArray, List.getElem?_cons_zero, List.getElem?_cons_succ] at q0_0 q0_1 q0_2 q0_3
  clear q1_0 q1_1 q1_2 q1_3
  have q1_0 := HX1.out.now.cell 0
  have q1_1 := HX1.out.now.cell 1
  have q1_2 := HX1.out.now.cell 2
  have q1_3 := HX1.out.now.cell 3
  simp only [List.getElem?_toArray, List.getElem?_cons_zero, List.getElem?_cons_succ] at q1_0 q1_1 q1_2 q1_3
  have HZ3 := Lib.hid hb1.size
  replace hb := hb.trans (hb1.mono hb.size)
  clear hb1
  have HZg0_3 := Lib.hid hbx0.out.lt
  have HXw0 := Lib.hid (Bx.loc hbx0.out)
  clear hbx0
  have qw0_0 := HXw0.out.now.cell 0
  have qw0_1 := HXw0.out.now.cell 1
  have qw0_2 := HXw0.out.now.cell 2
  have qw0_3 := HXw0.out.now.cell 3
  simp only [List.getElem?_toArray, List.getElem?_cons_zero, List.getElem?_cons_succ] at qw0_0 qw0_1 qw0_2 qw0_3
  have hne1 : (r1_3 != r1_3) = false := by simp
  go_wp2_with fail
  refine (LAmendment.to _ z0 _ HA0.out.now (by omega)).mono ?_
  rintro e w4_ ⟨u4, rfl, hnn4, ho, hb1⟩
  replace hnn4 := Lib.hid hnn4
  have HC4 := Lib.hid ho.loc
  clear ho
  replace HA0 := Lib.hid (HA0.out.kept hb1)
  replace HA1 := Lib.hid (HA1.out.kept hb1)
  replace HX0 := Lib.hid (HX0.out.kept hb1)
  replace HX1 := Lib.hid (HX1.out.kept hb1)
  replace HR0_3 := Lib.hid (HR0_3.out.kept hb1)
  replace HXw0 := Lib.hid (HXw0.out.kept hb1)
  clear q0_0 q0_1 q0_2 q0_3
  have q0_0 := HX0.out.now.cell 0
  have q0_1 := HX0.out.now.cell 1
  have q0_2 := HX0.out.now.cell 2
  have q0_3 := HX0.out.now.cell 3
  simp only [List.getElem?_toArray, List.getElem?_cons_zero, List.getElem?_cons_succ] at q0_0 q0_1 q0_2 q0_3
  clear q1_0 q1_1 q1_2 q1_3
  have q1_0 := HX1.out.now.cell 0
  have q1_1 := HX1.out.now.cell 1
  have q1_2 := HX1.out.now.cell 2
  have q1_3 := HX1.out.now.cell 3
  simp only [List.getElem?_toArray, List.getElem?_cons_zero, List.getElem?_cons_succ] at q1_0 q1_1 q1_2 q1_3
  clear qw0_0 qw0_1 qw0_2 qw0_3
  have qw0_0 := HXw0.out.now.cell 0
  have qw0_1 := HXw0.out.now.cell 1
  have qw0_2 := HXw0.out.now.cell 2
  have qw0_3 := HXw0.out.now.cell 3
  simp only [List.getElem?_toArray, List.getElem?_cons_zero, List.getElem?_cons_succ] at qw0_0 qw0_1 qw0_2 qw0_3
  have HZ4 := Lib.hid hb1.size
  replace hb := hb.trans (hb1.mono hb.size)
  clear hb1
  obtain ⟨fa4_3, fn4_3, fc4_3, rfl⟩ := HC4.out.now.1.form
  have o0_0 := q0_0
  have o0_1 := q0_1
  have o0_2 := q0_2
  have o0_3 := q0_3
  have ol0 := HX0.out.le
  have o1_0 := q1_0
  have o1_1 := q1_1
  have o1_2 := q1_2
  have o1_3 := q1_3
  have ol1 := HX1.out.le
  have ow0_0 := qw0_0
  have ow0_1 := qw0_1
  have ow0_2 := qw0_2
  have ow0_3 := qw0_3
  have olw0 := HXw0.out.le
  have hbx := (Below.refl w4_.heap.size w4_).alloc (Nat.le_refl _) (Obj.cells #[.int .i64 z0.kind, .int .i64 z0.pos, .int .i64 z0.count, .slice fa4_3 fn4_3 fc4_3] 38)
  replace HA0 := Lib.hid (HA0.out.kept hbx)
  replace HA1 := Lib.hid (HA1.out.kept hbx)
  replace HX0 := Lib.hid (HX0.out.kept hbx)
  replace HX1 := Lib.hid (HX1.out.kept hbx)
  replace HR0_3 := Lib.hid (HR0_3.out.kept hbx)
  replace HXw0 := Lib.hid (HXw0.out.kept hbx)
  replace HC4 := Lib.hid (HC4.out.kept hbx)
  have HXx0 := Lib.hid (Bx.loc (Bx.new w4_ 38 #[.int .i64 z0.kind, .int .i64 z0.pos, .int .i64 z0.count, .slice fa4_3 fn4_3 fc4_3]))
  have HZ5 := Lib.hid (show w4_.heap.size + 1 ≤ (w4_.alloc (Obj.cells #[.int .i64 z0.kind, .int .i64 z0.pos, .int .i64 z0.count, .slice fa4_3 fn4_3 fc4_3] 38)).heap.size by simp)
  replace hb := hb.trans (hbx.mono hb.size)
  clear hbx
  clear q0_0 q0_1 q0_2 q0_3
  have q0_0 := HX0.out.now.cell 0
  have q0_1 := HX0.out.now.cell 1
  have q0_2 := HX0.out.now.cell 2
  have q0_3 := HX0.out.now.cell 3
  simp only [List.getElem?_toArray, List.getElem?_cons_zero, List.getElem?_cons_succ] at q0_0 q0_1 q0_2 q0_3
  clear q1_0 q1_1 q1_2 q1_3
  have q1_0 := HX1.out.now.cell 0
  have q1_1 := HX1.out.now.cell 1
  have q1_2 := HX1.out.now.cell 2
  have q1_3 := HX1.out.now.cell 3
  simp only [List.getElem?_toArray, List.getElem?_cons_zero, List.getElem?_cons_succ] at q1_0 q1_1 q1_2 q1_3
  clear qw0_0 qw0_1 qw0_2 qw0_3
  have qw0_0 := HXw0.out.now.cell 0
  have qw0_1 := HXw0.out.now.cell 1
  have qw0_2 := HXw0.out.now.cell 2
  have qw0_3 := HXw0.out.now.cell 3
  simp only [List.getElem?_toArray, List.getElem?_cons_zero, List.getElem?_cons_succ] at qw0_0 qw0_1 qw0_2 qw0_3
  have qx0_0 := HXx0.out.now.cell 0
  have qx0_1 := HXx0.out.now.cell 1
  have qx0_2 := HXx0.out.now.cell 2
  have qx0_3 := HXx0.out.now.cell 3
  simp only [List.getElem?_toArray, List.getElem?_cons_zero, List.getElem?_cons_succ] at qx0_0 qx0_1 qx0_2 qx0_3
  go_wp2_with fail
  clear o0_0 o0_1 o0_2 o0_3 ol0 o1_0 o1_1 o1_2 o1_3 ol1 ow0_0 ow0_1 ow0_2 ow0_3 olw0
  generalize w4_.alloc (Obj.cells #[.int .i64 z0.kind, .int .i64 z0.pos, .int .i64 z0.count, .slice fa4_3 fn4_3 fc4_3] 38) = w5_ at *
  refine (LAmendment.to _ z1 _ HA1.out.now (by omega)).mono ?_
  rintro e w6_ ⟨u6, rfl, hnn6, ho, hb1⟩
  replace hnn6 := Lib.hid hnn6
  have HC6 := Lib.hid ho.loc
  clear ho
  replace HA0 := Lib.hid (HA0.out.kept hb1)
  replace HA1 := Lib.hid (HA1.out.kept hb1)
  replace HX0 := Lib.hid (HX0.out.kept hb1)
  replace HX1 := Lib.hid (HX1.out.kept hb1)
  replace HR0_3 := Lib.hid (HR0_3.out.kept hb1)
  replace HXw0 := Lib.hid (HXw0.out.kept hb1)
  replace HC4 := Lib.hid (HC4.out.kept hb1)
  replace HXx0 := Lib.hid (HXx0.out.kept hb1)
  clear q0_0 q0_1 q0_2 q0_3
  have q0_0 := HX0.out.now.cell 0
  have q0_1 := HX0.out.now.cell 1
  have q0_2 := HX0.out.now.cell 2
  have q0_3 := HX0.out.now.cell 3
  simp only [List.getElem?_toArray, List.getElem?_cons_zero, List.getElem?_cons_succ] at q0_0 q0_1 q0_2 q0_3
  clear q1_0 q1_1 q1_2 q1_3
  have q1_0 := HX1.out.now.cell 0
  have q1_1 := HX1.out.now.cell 1
  have q1_2 := HX1.out.now.cell 2
  have q1_3 := HX1.out.now.cell 3
  simp only [List.getElem?_toArray, List.getElem?_cons_zero, List.getElem?_cons_succ] at q1_0 q1_1 q1_2 q1_3
  clear qw0_0 qw0_1 qw0_2 qw0_3
  have qw0_0 := HXw0.out.now.cell 0
  have qw0_1 := HXw0.out.now.cell 1
  have qw0_2 := HXw0.out.now.cell 2
  have qw0_3 := HXw0.out.now.cell 3
  simp only [List.getElem?_toArray, List.getElem?_cons_zero, List.getElem?_cons_succ] at qw0_0 qw0_1 qw0_2 qw0_3
  clear qx0_0 qx0_1 qx0_2 qx0_3
  have qx0_0 := HXx0.out.now.cell 0
  have qx0_1 := HXx0.out.now.cell 1
  have qx0_2 := HXx0.out.now.cell 2
  have qx0_3 := HXx0.out.now.cell 3
  simp only [List.getElem?_toArray, List.getElem?_cons_zero, List.getElem?_cons_succ] at qx0_0 qx0_1 qx0_2 qx0_3
  have HZ6 := Lib.hid hb1.size
  replace hb := hb.trans (hb1.mono hb.size)
  clear hb1
  obtain ⟨fa6_3, fn6_3, fc6_3, rfl⟩ := HC6.out.now.1.form
  have o0_0 := q0_0
  have o0_1 := q0_1
  have o0_2 := q0_2
  have o0_3 := q0_3
  have ol0 := HX0.out.le
  have o1_0 := q1_0
  have o1_1 := q1_1
  have o1_2 := q1_2
  have o1_3 := q1_3
  have ol1 := HX1.out.le
  have ow0_0 := qw0_0
  have ow0_1 := qw0_1
  have ow0_2 := qw0_2
  have ow0_3 := qw0_3
  have olw0 := HXw0.out.le
  have ox0_0 := qx0_0
  have ox0_1 := qx0_1
  have ox0_2 := qx0_2
  have ox0_3 := qx0_3
  have olx0 := HXx0.out.le
  have hbx := (Below.refl w6_.heap.size w6_).alloc (Nat.le_refl _) (Obj.cells #[.int .i64 z1.kind, .int .i64 z1.pos, .int .i64 z1.count, .slice fa6_3 fn6_3 fc6_3] 38)
  replace HA0 := Lib.hid (HA0.out.kept hbx)
  replace HA1 := Lib.hid (HA1.out.kept hbx)
  replace HX0 := Lib.hid (HX0.out.kept hbx)
  replace HX1 := Lib.hid (HX1.out.kept hbx)
  replace HR0_3 := Lib.hid (HR0_3.out.kept hbx)
  replace HXw0 := Lib.hid (HXw0.out.kept hbx)
  replace HC4 := Lib.hid (HC4.out.kept hbx)
  replace HXx0 := Lib.hid (HXx0.out.kept hbx)
  replace HC6 := Lib.hid (HC6.out.kept hbx)
  have HXx1 := Lib.hid (Bx.loc (Bx.new w6_ 38 #[.int .i64 z1.kind, .int .i64 z1.pos, .int .i64 z1.count, .slice fa6_3 fn6_3 fc6_3]))
  have HZ7 := Lib.hid (show w6_.heap.size + 1 ≤ (w6_.alloc (Obj.cells #[.int .i64 z1.kind, .int .i64 z1.pos, .int .i64 z1.count, .slice fa6_3 fn6_3 fc6_3] 38)).heap.size by simp)
  replace hb := hb.trans (hbx.mono hb.size)
  clear hbx
  clear q0_0 q0_1 q0_2 q0_3
  have q0_0 := HX0.out.now.cell 0
  have q0_1 := HX0.out.now.cell 1
  have q0_2 := HX0.out.now.cell 2
  have q0_3 := HX0.out.now.cell 3
  simp only [List.getElem?_toArray, List.getElem?_cons_zero, List.getElem?_cons_succ] at q0_0 q0_1 q0_2 q0_3
  clear q1_0 q1_1 q1_2 q1_3
  have q1_0 := HX1.out.now.cell 0
  have q1_1 := HX1.out.now.cell 1
  have q1_2 := HX1.out.now.cell 2
  have q1_3 := HX1.out.now.cell 3
  simp only [List.getElem?_toArray, List.getElem?_cons_zero, List.getElem?_cons_succ] at q1_0 q1_1 q1_2 q1_3
  clear qw0_0 qw0_1 qw0_2 qw0_3
  have qw0_0 := HXw0.out.now.cell 0
  have qw0_1 := HXw0.out.now.cell 1
  have qw0_2 := HXw0.out.now.cell 2
  have qw0_3 := HXw0.out.now.cell 3
  simp only [List.getElem?_toArray, List.getElem?_cons_zero, List.getElem?_cons_succ] at qw0_0 qw0_1 qw0_2 qw0_3
  clear qx0_0 qx0_1 qx0_2 qx0_3
  have qx0_0 := HXx0.out.now.cell 0
  have qx0_1 := HXx0.out.now.cell 1
  have qx0_2 := HXx0.out.now.cell 2
  have qx0_3 := HXx0.out.now.cell 3
  simp only [List.getElem?_toArray, List.getElem?_cons_zero, List.getElem?_cons_succ] at qx0_0 qx0_1 qx0_2 qx0_3
  have qx1_0 := HXx1.out.now.cell 0
  have qx1_1 := HXx1.out.now.cell 1
  have qx1_2 := HXx1.out.now.cell 2
  have qx1_3 := HXx1.out.now.cell 3
  simp only [List.getElem?_toArray, List.getElem?_cons_zero, List.getElem?_cons_succ] at qx1_0 qx1_1 qx1_2 qx1_3
  go_wp2_with fail
  clear o0_0 o0_1 o0_2 o0_3 ol0 o1_0 o1_1 o1_2 o1_3 ol1 ow0_0 ow0_1 ow0_2 ow0_3 olw0 ox0_0 ox0_1 ox0_2 ox0_3 olx0
  generalize w6_.alloc (Obj.cells #[.int .i64 z1.kind, .int .i64 z1.pos, .int .i64 z1.count, .slice fa6_3 fn6_3 fc6_3] 38) = w7_ at *
  refine (SecondaryChangeC.impl _ z0 _ z1 _ (HC4.out.now.1.isQ) HF0.out (by omega) (HC6.out.now.1.isQ) HF1.out (by omega)).mono ?_
  rintro e w8_ ⟨v0_8, r0_8, r1_8, rfl, hans, ho0, hb1⟩
  obtain ⟨rfl, rfl⟩ := SecondaryChangeC.same HS.out hans
  clear hans
  obtain ⟨fa0_8_3, fn0_8_3, fc0_8_3, rfl⟩ := ho0.form
  have HR0_8 := Lib.hid ho0.loc
  clear ho0
  replace HA0 := Lib.hid (HA0.out.kept hb1)
  replace HA1 := Lib.hid (HA1.out.kept hb1)
  replace HX0 := Lib.hid (HX0.out.kept hb1)
  replace HX1 := Lib.hid (HX1.out.kept hb1)
  replace HR0_3 := Lib.hid (HR0_3.out.kept hb1)
  replace HXw0 := Lib.hid (HXw0.out.kept hb1)
  replace HC4 := Lib.hid (HC4.out.kept hb1)
  replace HXx0 := Lib.hid (HXx0.out.kept hb1)
  replace HC6 := Lib.hid (HC6.out.kept hb1)
  replace HXx1 := Lib.hid (HXx1.out.kept hb1)
  clear q0_0 q0_1 q0_2 q0_3
  have q0_0 := HX0.out.now.cell 0
  have q0_1 := HX0.out.now.cell 1
  have q0_2 := HX0.out.now.cell 2
  have q0_3 := HX0.out.now.cell 3
  simp only [List.getElem?_toArray, List.getElem?_cons_zero, List.getElem?_cons_succ] at q0_0 q0_1 q0_2 q0_3
  clear q1_0 q1_1 q1_2 q1_3
  have q1_0 := HX1.out.now.cell 0
  have q1_1 := HX1.out.now.cell 1
  have q1_2 := HX1.out.now.cell 2
  have q1_3 := HX1.out.now.cell 3
  simp only [List.getElem?_toArray, List.getElem?_cons_zero, List.getElem?_cons_succ] at q1_0 q1_1 q1_2 q1_3
  clear qw0_0 qw0_1 qw0_2 qw0_3
  have qw0_0 := HXw0.out.now.cell 0
  have qw0_1 := HXw0.out.now.cell 1
  have qw0_2 := HXw0.out.now.cell 2
  have qw0_3 := HXw0.out.now.cell 3
  simp only [List.getElem?_toArray, List.getElem?_cons_zero, List.getElem?_cons_succ] at qw0_0 qw0_1 qw0_2 qw0_3
  clear qx0_0 qx0_1 qx0_2 qx0_3
  have qx0_0 := HXx0.out.now.cell 0
  have qx0_1 := HXx0.out.now.cell 1
  have qx0_2 := HXx0.out.now.cell 2
  have qx0_3 := HXx0.out.now.cell 3
  simp only [List.getElem?_toArray, List.getElem?_cons_zero, List.getElem?_cons_succ] at qx0_0 qx0_1 qx0_2 qx0_3
  clear qx1_0 qx1_1 qx1_2 qx1_3
  have qx1_0 := HXx1.out.now.cell 0
  have qx1_1 := HXx1.out.now.cell 1
  have qx1_2 := HXx1.out.now.cell 2
  have qx1_3 := HXx1.out.now.cell 3
  simp only [List.getElem?_toArray, List.getElem?_cons_zero, List.getElem?_cons_succ] at qx1_0 qx1_1 qx1_2 qx1_3
  have HZ8 := Lib.hid hb1.size
  replace hb := hb.trans (hb1.mono hb.size)
  clear hb1
  have o0_0 := q0_0
  have o0_1 := q0_1
  have o0_2 := q0_2
  have o0_3 := q0_3
  have ol0 := HX0.out.le
  have o1_0 := q1_0
  have o1_1 := q1_1
  have o1_2 := q1_2
  have o1_3 := q1_3
  have ol1 := HX1.out.le
  have ow0_0 := qw0_0
  have ow0_1 := qw0_1
  have ow0_2 := qw0_2
  have ow0_3 := qw0_3
  have olw0 := HXw0.out.le
  have ox0_0 := qx0_0
  have ox0_1 := qx0_1
  have ox0_2 := qx0_2
  have ox0_3 := qx0_3
  have olx0 := HXx0.out.le
  have ox1_0 := qx1_0
  have ox1_1 := qx1_1
  have ox1_2 := qx1_2
  have ox1_3 := qx1_3
  have olx1 := HXx1.out.le
  have hbx := (Below.refl w8_.heap.size w8_).alloc (Nat.le_refl _) (Obj.cells #[.int .i64 r0_3.kind, .int .i64 r0_3.pos, .int .i64 r0_3.count, .slice fa0_8_3 fn0_8_3 fc0_8_3] 38)
  replace HA0 := Lib.hid (HA0.out.kept hbx)
  replace HA1 := Lib.hid (HA1.out.kept hbx)
  replace HX0 := Lib.hid (HX0.out.kept hbx)
  replace HX1 := Lib.hid (HX1.out.kept hbx)
  replace HR0_3 := Lib.hid (HR0_3.out.kept hbx)
  replace HXw0 := Lib.hid (HXw0.out.kept hbx)
  replace HC4 := Lib.hid (HC4.out.kept hbx)
  replace HXx0 := Lib.hid (HXx0.out.kept hbx)
  replace HC6 := Lib.hid (HC6.out.kept hbx)
  replace HXx1 := Lib.hid (HXx1.out.kept hbx)
  replace HR0_8 := Lib.hid (HR0_8.out.kept hbx)
  have HXg0 := Lib.hid (Bx.loc (Bx.new w8_ 38 #[.int .i64 r0_3.kind, .int .i64 r0_3.pos, .int .i64 r0_3.count, .slice fa0_8_3 fn0_8_3 fc0_8_3]))
  have HZ9 := Lib.hid (show w8_.heap.size + 1 ≤ (w8_.alloc (Obj.cells #[.int .i64 r0_3.kind, .int .i64 r0_3.pos, .int .i64 r0_3.count, .slice fa0_8_3 fn0_8_3 fc0_8_3] 38)).heap.size by simp)
  replace hb := hb.trans (hbx.mono hb.size)
  clear hbx
  clear q0_0 q0_1 q0_2 q0_3
  have q0_0 := HX0.out.now.cell 0
  have q0_1 := HX0.out.now.cell 1
  have q0_2 := HX0.out.now.cell 2
  have q0_3 := HX0.out.now.cell 3
  simp only [List.getElem?_toArray, List.getElem?_cons_zero, List.getElem?_cons_succ] at q0_0 q0_1 q0_2 q0_3
  clear q1_0 q1_1 q1_2 q1_3
  have q1_0 := HX1.out.now.cell 0
  have q1_1 := HX1.out.now.cell 1
  have q1_2 := HX1.out.now.cell 2
  have q1_3 := HX1.out.now.cell 3
  simp only [List.getElem?_toArray, List.getElem?_cons_zero, List.getElem?_cons_succ] at q1_0 q1_1 q1_2 q1_3
  clear qw0_0 qw0_1 qw0_2 qw0_3
  have qw0_0 := HXw0.out.now.cell 0
  have qw0_1 := HXw0.out.now.cell 1
  have qw0_2 := HXw0.out.now.cell 2
  have qw0_3 := HXw0.out.now.cell 3
  simp only [List.getElem?_toArray, List.getElem?_cons_zero, List.getElem?_cons_succ] at qw0_0 qw0_1 qw0_2 qw0_3
  clear qx0_0 qx0_1 qx0_2 qx0_3
  have qx0_0 := HXx0.out.now.cell 0
  have qx0_1 := HXx0.out.now.cell 1
  have qx0_2 := HXx0.out.now.cell 2
  have qx0_3 := HXx0.out.now.cell 3
  simp only [List.getElem?_toArray, List.getElem?_cons_zero, List.getElem?_cons_succ] at qx0_0 qx0_1 qx0_2 qx0_3
  clear qx1_0 qx1_1 qx1_2 qx1_3
  have qx1_0 := HXx1.out.now.cell 0
  have qx1_1 := HXx1.out.now.cell 1
  have qx1_2 := HXx1.out.now.cell 2
  have qx1_3 := HXx1.out.now.cell 3
  simp only [List.getElem?_toArray, List.getElem?_cons_zero, List.getElem?_cons_succ] at qx1_0 qx1_1 qx1_2 qx1_3
  have qg0_0 := HXg0.out.now.cell 0
  have qg0_1 := HXg0.out.now.cell 1
  have qg0_2 := HXg0.out.now.cell 2
  have qg0_3 := HXg0.out.now.cell 3
  simp only [List.getElem?_toArray, List.getElem?_cons_zero, List.getElem?_cons_succ] at qg0_0 qg0_1 qg0_2 qg0_3
  go_wp2_with fail
  clear o0_0 o0_1 o0_2 o0_3 ol0 o1_0 o1_1 o1_2 o1_3 ol1 ow0_0 ow0_1 ow0_2 ow0_3 olw0 ox0_0 ox0_1 ox0_2 ox0_3 olx0 ox1_0 ox1_1 ox1_2 ox1_3 olx1
  generalize w8_.alloc (Obj.cells #[.int .i64 r0_3.kind, .int .i64 r0_3.pos, .int .i64 r0_3.count, .slice fa0_8_3 fn0_8_3 fc0_8_3] 38) = w9_ at *
  refine (LAmendment.eq _ _ r0_3 _ HR0_8.out.now.1.is HR0_3.out.now.1.is).mono ?_
  rintro e w10_ ⟨rfl, hb1⟩
  replace HA0 := Lib.hid (HA0.out.kept hb1)
  replace HA1 := Lib.hid (HA1.out.kept hb1)
  replace HX0 := Lib.hid (HX0.out.kept hb1)
  replace HX1 := Lib.hid (HX1.out.kept hb1)
  replace HR0_3 := Lib.hid (HR0_3.out.kept hb1)
  replace HXw0 := Lib.hid (HXw0.out.kept hb1)
  replace HC4 := Lib.hid (HC4.out.kept hb1)
  replace HXx0 := Lib.hid (HXx0.out.kept hb1)
  replace HC6 := Lib.hid (HC6.out.kept hb1)
  replace HXx1 := Lib.hid (HXx1.out.kept hb1)
  replace HR0_8 := Lib.hid (HR0_8.out.kept hb1)
  replace HXg0 := Lib.hid (HXg0.out.kept hb1)
  clear q0_0 q0_1 q0_2 q0_3
  have q0_0 := HX0.out.now.cell 0
  have q0_1 := HX0.out.now.cell 1
  have q0_2 := HX0.out.now.cell 2
  have q0_3 := HX0.out.now.cell 3
  simp only [List.getElem?_toArray, List.getElem?_cons_zero, List.getElem?_cons_succ] at q0_0 q0_1 q0_2 q0_3
  clear q1_0 q1_1 q1_2 q1_3
  have q1_0 := HX1.out.now.cell 0
  have q1_1 := HX1.out.now.cell 1
  have q1_2 := HX1.out.now.cell 2
  have q1_3 := HX1.out.now.cell 3
  simp only [List.getElem?_toArray, List.getElem?_cons_zero, List.getElem?_cons_succ] at q1_0 q1_1 q1_2 q1_3
  clear qw0_0 qw0_1 qw0_2 qw0_3
  have qw0_0 := HXw0.out.now.cell 0
  have qw0_1 := HXw0.out.now.cell 1
  have qw0_2 := HXw0.out.now.cell 2
  have qw0_3 := HXw0.out.now.cell 3
  simp only [List.getElem?_toArray, List.getElem?_cons_zero, List.getElem?_cons_succ] at qw0_0 qw0_1 qw0_2 qw0_3
  clear qx0_0 qx0_1 qx0_2 qx0_3
  have qx0_0 := HXx0.out.now.cell 0
  have qx0_1 := HXx0.out.now.cell 1
  have qx0_2 := HXx0.out.now.cell 2
  have qx0_3 := HXx0.out.now.cell 3
  simp only [List.getElem?_toArray, List.getElem?_cons_zero, List.getElem?_cons_succ] at qx0_0 qx0_1 qx0_2 qx0_3
  clear qx1_0 qx1_1 qx1_2 qx1_3
  have qx1_0 := HXx1.out.now.cell 0
  have qx1_1 := HXx1.out.now.cell 1
  have qx1_2 := HXx1.out.now.cell 2
  have qx1_3 := HXx1.out.now.cell 3
  simp only [List.getElem?_toArray, List.getElem?_cons_zero, List.getElem?_cons_succ] at qx1_0 qx1_1 qx1_2 qx1_3
  clear qg0_0 qg0_1 qg0_2 qg0_3
  have qg0_0 := HXg0.out.now.cell 0
  have qg0_1 := HXg0.out.now.cell 1
  have qg0_2 := HXg0.out.now.cell 2
  have qg0_3 := HXg0.out.now.cell 3
  simp only [List.getElem?_toArray, List.getElem?_cons_zero, List.getElem?_cons_succ] at qg0_0 qg0_1 qg0_2 qg0_3
  have HZ10 := Lib.hid hb1.size
  replace hb := hb.trans (hb1.mono hb.size)
  clear hb1
  go_wp2_with fail
  go_cut [58] (fun t wx => t = .bool false ∧ Below w10_.heap.size w10_ wx)
  case first =>
    have hlt0 : w.heap.size < w10_.heap.size := HX0.out.le
    have hltx0 : w4_.heap.size < w10_.heap.size := HXx0.out.le
    have HK := Lib.hid (show ∀ w' : World, Below w10_.heap.size w10_ w' → Below w10_.heap.size w10_ w' ∧ w'.cell? ⟨w.heap.size, 0, none⟩ = some (.int .i64 z0.kind) ∧ w'.cell? ⟨w.heap.size, 1, none⟩ = some (.int .i64 z0.pos) ∧ w'.cell? ⟨w.heap.size, 2, none⟩ = some (.int .i64 z0.count) ∧ w'.cell? ⟨w.heap.size, 3, none⟩ = some (.slice a0_3 len0_3 cap0_3) ∧ w'.cell? ⟨w4_.heap.size, 0, none⟩ = some (.int .i64 z0.kind) ∧ w'.cell? ⟨w4_.heap.size, 1, none⟩ = some (.int .i64 z0.pos) ∧ w'.cell? ⟨w4_.heap.size, 2, none⟩ = some (.int .i64 z0.count) ∧ w'.cell? ⟨w4_.heap.size, 3, none⟩ = some (.slice fa4_3 fn4_3 fc4_3) from fun w' hb => ⟨hb, by rw [hb.cell (by assumption)]; exact q0_0, by rw [hb.cell (by assumption)]; exact q0_1, by rw [hb.cell (by assumption)]; exact q0_2, by rw [hb.cell (by assumption)]; exact q0_3, by rw [hb.cell (by assumption)]; exact qx0_0, by rw [hb.cell (by assumption)]; exact qx0_1, by rw [hb.cell (by assumption)]; exact qx0_2, by rw [hb.cell (by assumption)]; exact qx0_3⟩)
    go_region_held3 (fun w' => Below w10_.heap.size w10_ w' ∧ w'.cell? ⟨w.heap.size, 0, none⟩ = some (.int .i64 z0.kind) ∧ w'.cell? ⟨w.heap.size, 1, none⟩ = some (.int .i64 z0.pos) ∧ w'.cell? ⟨w.heap.size, 2, none⟩ = some (.int .i64 z0.count) ∧ w'.cell? ⟨w.heap.size, 3, none⟩ = some (.slice a0_3 len0_3 cap0_3) ∧ w'.cell? ⟨w4_.heap.size, 0, none⟩ = some (.int .i64 z0.kind) ∧ w'.cell? ⟨w4_.heap.size, 1, none⟩ = some (.int .i64 z0.pos) ∧ w'.cell? ⟨w4_.heap.size, 2, none⟩ = some (.int .i64 z0.count) ∧ w'.cell? ⟨w4_.heap.size, 3, none⟩ = some (.slice fa4_3 fn4_3 fc4_3)) ((refine HK.out _ ?_; (repeat (first | assumption | exact Below.refl _ _ | refine Below.drew ?_ | refine Below.alloc ?_ (by first | (simp; done) | (simp; omega) | omega) _)))) (first | ((go_at_call 18; refine (LAmendment.to _ z0 _ (HA0.out.kept (by (repeat (first | assumption | exact Below.refl _ _ | refine Below.drew ?_ | refine Below.alloc ?_ (by first | (simp; done) | (simp; omega) | omega) _)))).now (by omega)).mono ?_; rintro e wt ⟨u, rfl, hn, ho, hbt⟩; have hB : Below w10_.heap.size w10_ wt := Below.trans (by (repeat (first | assumption | exact Below.refl _ _ | refine Below.drew ?_ | refine Below.alloc ?_ (by first | (simp; done) | (simp; omega) | omega) _))) (hbt.mono (by first | (simp; done) | (simp; omega) | omega)); have hz := hB.size)) | ((go_at_call 20; refine (LAmendment.eq _ _ z0 _ (HC4.out.kept (by first | assumption | (refine Below.drew ?_; assumption) | (repeat (first | assumption | exact Below.refl _ _ | refine Below.drew ?_ | refine Below.alloc ?_ (by first | (simp; done) | (simp; omega) | omega) _)))).now.1.is (by first | exact ho.is | exact (ho.kept (by first | assumption | exact (Below.refl _ _).drew)).is)).mono ?_; rintro e wz ⟨rfl, hbz⟩; have hBz : Below w10_.heap.size w10_ wz := Below.trans (by (repeat (first | assumption | exact Below.refl _ _ | refine Below.drew ?_ | refine Below.alloc ?_ (by first | (simp; done) | (simp; omega) | omega) _))) (hbz.mono (by first | (simp; done) | (simp; omega) | omega)); have hzz := hBz.size)) | fail)
    all_goals (go_wp2_with fail; go_meet; exact ⟨rfl, hBz⟩)
  case rest =>
  obtain ⟨rfl, hb1⟩ := hcut
  obtain ⟨w11_, hwc⟩ : ∃ x, x = wc := ⟨_, rfl⟩
  subst hwc
  replace HA0 := Lib.hid (HA0.out.kept hb1)
  replace HA1 := Lib.hid (HA1.out.kept hb1)
  replace HX0 := Lib.hid (HX0.out.kept hb1)
  replace HX1 := Lib.hid (HX1.out.kept hb1)
  replace HR0_3 := Lib.hid (HR0_3.out.kept hb1)
  replace HXw0 := Lib.hid (HXw0.out.kept hb1)
  replace HC4 := Lib.hid (HC4.out.kept hb1)
  replace HXx0 := Lib.hid (HXx0.out.kept hb1)
  replace HC6 := Lib.hid (HC6.out.kept hb1)
  replace HXx1 := Lib.hid (HXx1.out.kept hb1)
  replace HR0_8 := Lib.hid (HR0_8.out.kept hb1)
  replace HXg0 := Lib.hid (HXg0.out.kept hb1)
  clear q0_0 q0_1 q0_2 q0_3
  have q0_0 := HX0.out.now.cell 0
  have q0_1 := HX0.out.now.cell 1
  have q0_2 := HX0.out.now.cell 2
  have q0_3 := HX0.out.now.cell 3
  simp only [List.getElem?_toArray, List.getElem?_cons_zero, List.getElem?_cons_succ] at q0_0 q0_1 q0_2 q0_3
  clear q1_0 q1_1 q1_2 q1_3
  have q1_0 := HX1.out.now.cell 0
  have q1_1 := HX1.out.now.cell 1
  have q1_2 := HX1.out.now.cell 2
  have q1_3 := HX1.out.now.cell 3
  simp only [List.getElem?_toArray, List.getElem?_cons_zero, List.getElem?_cons_succ] at q1_0 q1_1 q1_2 q1_3
  clear qw0_0 qw0_1 qw0_2 qw0_3
  have qw0_0 := HXw0.out.now.cell 0
  have qw0_1 := HXw0.out.now.cell 1
  have qw0_2 := HXw0.out.now.cell 2
  have qw0_3 := HXw0.out.now.cell 3
  simp only [List.getElem?_toArray, List.getElem?_cons_zero, List.getElem?_cons_succ] at qw0_0 qw0_1 qw0_2 qw0_3
  clear qx0_0 qx0_1 qx0_2 qx0_3
  have qx0_0 := HXx0.out.now.cell 0
  have qx0_1 := HXx0.out.now.cell 1
  have qx0_2 := HXx0.out.now.cell 2
  have qx0_3 := HXx0.out.now.cell 3
  simp only [List.getElem?_toArray, List.getElem?_cons_zero, List.getElem?_cons_succ] at qx0_0 qx0_1 qx0_2 qx0_3
  clear qx1_0 qx1_1 qx1_2 qx1_3
  have qx1_0 := HXx1.out.now.cell 0
  have qx1_1 := HXx1.out.now.cell 1
  have qx1_2 := HXx1.out.now.cell 2
  have qx1_3 := HXx1.out.now.cell 3
  simp only [List.getElem?_toArray, List.getElem?_cons_zero, List.getElem?_cons_succ] at qx1_0 qx1_1 qx1_2 qx1_3
  clear qg0_0 qg0_1 qg0_2 qg0_3
  have qg0_0 := HXg0.out.now.cell 0
  have qg0_1 := HXg0.out.now.cell 1
  have qg0_2 := HXg0.out.now.cell 2
  have qg0_3 := HXg0.out.now.cell 3
  simp only [List.getElem?_toArray, List.getElem?_cons_zero, List.getElem?_cons_succ] at qg0_0 qg0_1 qg0_2 qg0_3
  have HZ11 := Lib.hid hb1.size
  replace hb := hb.trans (hb1.mono hb.size)
  clear hb1
  go_wp2_with fail
  go_cut [63] (fun t wx => t = .bool false ∧ Below w11_.heap.size w11_ wx)
  case first =>
    have hlt1 : w.heap.size + 1 < w11_.heap.size := HX1.out.le
    have hltx1 : w6_.heap.size < w11_.heap.size := HXx1.out.le
    have HK := Lib.hid (show ∀ w' : World, Below w11_.heap.size w11_ w' → Below w11_.heap.size w11_ w' ∧ w'.cell? ⟨w.heap.size + 1, 0, none⟩ = some (.int .i64 z1.kind) ∧ w'.cell? ⟨w.heap.size + 1, 1, none⟩ = some (.int .i64 z1.pos) ∧ w'.cell? ⟨w.heap.size + 1, 2, none⟩ = some (.int .i64 z1.count) ∧ w'.cell? ⟨w.heap.size + 1, 3, none⟩ = some (.slice a1_3 len1_3 cap1_3) ∧ w'.cell? ⟨w6_.heap.size, 0, none⟩ = some (.int .i64 z1.kind) ∧ w'.cell? ⟨w6_.heap.size, 1, none⟩ = some (.int .i64 z1.pos) ∧ w'.cell? ⟨w6_.heap.size, 2, none⟩ = some (.int .i64 z1.count) ∧ w'.cell? ⟨w6_.heap.size, 3, none⟩ = some (.slice fa6_3 fn6_3 fc6_3) from fun w' hb => ⟨hb, by rw [hb.cell (by assumption)]; exact q1_0, by rw [hb.cell (by assumption)]; exact q1_1, by rw [hb.cell (by assumption)]; exact q1_2, by rw [hb.cell (by assumption)]; exact q1_3, by rw [hb.cell (by assumption)]; exact qx1_0, by rw [hb.cell (by assumption)]; exact qx1_1, by rw [hb.cell (by assumption)]; exact qx1_2, by rw [hb.cell (by assumption)]; exact qx1_3⟩)
    go_region_held3 (fun w' => Below w11_.heap.size w11_ w' ∧ w'.cell? ⟨w.heap.size + 1, 0, none⟩ = some (.int .i64 z1.kind) ∧ w'.cell? ⟨w.heap.size + 1, 1, none⟩ = some (.int .i64 z1.pos) ∧ w'.cell? ⟨w.heap.size + 1, 2, none⟩ = some (.int .i64 z1.count) ∧ w'.cell? ⟨w.heap.size + 1, 3, none⟩ = some (.slice a1_3 len1_3 cap1_3) ∧ w'.cell? ⟨w6_.heap.size, 0, none⟩ = some (.int .i64 z1.kind) ∧ w'.cell? ⟨w6_.heap.size, 1, none⟩ = some (.int .i64 z1.pos) ∧ w'.cell? ⟨w6_.heap.size, 2, none⟩ = some (.int .i64 z1.count) ∧ w'.cell? ⟨w6_.heap.size, 3, none⟩ = some (.slice fa6_3 fn6_3 fc6_3)) ((refine HK.out _ ?_; (repeat (first | assumption | exact Below.refl _ _ | refine Below.drew ?_ | refine Below.alloc ?_ (by first | (simp; done) | (simp; omega) | omega) _)))) (first | ((go_at_call 18; refine (LAmendment.to _ z1 _ (HA1.out.kept (by (repeat (first | assumption | exact Below.refl _ _ | refine Below.drew ?_ | refine Below.alloc ?_ (by first | (simp; done) | (simp; omega) | omega) _)))).now (by omega)).mono ?_; rintro e wt ⟨u, rfl, hn, ho, hbt⟩; have hB : Below w11_.heap.size w11_ wt := Below.trans (by (repeat (first | assumption | exact Below.refl _ _ | refine Below.drew ?_ | refine Below.alloc ?_ (by first | (simp; done) | (simp; omega) | omega) _))) (hbt.mono (by first | (simp; done) | (simp; omega) | omega)); have hz := hB.size)) | ((go_at_call 20; refine (LAmendment.eq _ _ z1 _ (HC6.out.kept (by first | assumption | (refine Below.drew ?_; assumption) | (repeat (first | assumption | exact Below.refl _ _ | refine Below.drew ?_ | refine Below.alloc ?_ (by first | (simp; done) | (simp; omega) | omega) _)))).now.1.is (by first | exact ho.is | exact (ho.kept (by first | assumption | exact (Below.refl _ _).drew)).is)).mono ?_; rintro e wz ⟨rfl, hbz⟩; have hBz : Below w11_.heap.size w11_ wz := Below.trans (by (repeat (first | assumption | exact Below.refl _ _ | refine Below.drew ?_ | refine Below.alloc ?_ (by first | (simp; done) | (simp; omega) | omega) _))) (hbz.mono (by first | (simp; done) | (simp; omega) | omega)); have hzz := hBz.size)) | fail)
    all_goals (go_wp2_with fail; go_meet; exact ⟨rfl, hBz⟩)
  case rest =>
  obtain ⟨rfl, hb1⟩ := hcut
  obtain ⟨w12_, hwc⟩ : ∃ x, x = wc := ⟨_, rfl⟩
  subst hwc
  replace HA0 := Lib.hid (HA0.out.kept hb1)
  replace HA1 := Lib.hid (HA1.out.kept hb1)
  replace HX0 := Lib.hid (HX0.out.kept hb1)
  replace HX1 := Lib.hid (HX1.out.kept hb1)
  replace HR0_3 := Lib.hid (HR0_3.out.kept hb1)
  replace HXw0 := Lib.hid (HXw0.out.kept hb1)
  replace HC4 := Lib.hid (HC4.out.kept hb1)
  replace HXx0 := Lib.hid (HXx0.out.kept hb1)
  replace HC6 := Lib.hid (HC6.out.kept hb1)
  replace HXx1 := Lib.hid (HXx1.out.kept hb1)
  replace HR0_8 := Lib.hid (HR0_8.out.kept hb1)
  replace HXg0 := Lib.hid (HXg0.out.kept hb1)
  clear q0_0 q0_1 q0_2 q0_3
  have q0_0 := HX0.out.now.cell 0
  have q0_1 := HX0.out.now.cell 1
  have q0_2 := HX0.out.now.cell 2
  have q0_3 := HX0.out.now.cell 3
  simp only [List.getElem?_toArray, List.getElem?_cons_zero, List.getElem?_cons_succ] at q0_0 q0_1 q0_2 q0_3
  clear q1_0 q1_1 q1_2 q1_3
  have q1_0 := HX1.out.now.cell 0
  have q1_1 := HX1.out.now.cell 1
  have q1_2 := HX1.out.now.cell 2
  have q1_3 := HX1.out.now.cell 3
  simp only [List.getElem?_toArray, List.getElem?_cons_zero, List.getElem?_cons_succ] at q1_0 q1_1 q1_2 q1_3
  clear qw0_0 qw0_1 qw0_2 qw0_3
  have qw0_0 := HXw0.out.now.cell 0
  have qw0_1 := HXw0.out.now.cell 1
  have qw0_2 := HXw0.out.now.cell 2
  have qw0_3 := HXw0.out.now.cell 3
  simp only [List.getElem?_toArray, List.getElem?_cons_zero, List.getElem?_cons_succ] at qw0_0 qw0_1 qw0_2 qw0_3
  clear qx0_0 qx0_1 qx0_2 qx0_3
  have qx0_0 := HXx0.out.now.cell 0
  have qx0_1 := HXx0.out.now.cell 1
  have qx0_2 := HXx0.out.now.cell 2
  have qx0_3 := HXx0.out.now.cell 3
  simp only [List.getElem?_toArray, List.getElem?_cons_zero, List.getElem?_cons_succ] at qx0_0 qx0_1 qx0_2 qx0_3
  clear qx1_0 qx1_1 qx1_2 qx1_3
  have qx1_0 := HXx1.out.now.cell 0
  have qx1_1 := HXx1.out.now.cell 1
  have qx1_2 := HXx1.out.now.cell 2
  have qx1_3 := HXx1.out.now.cell 3
  simp only [List.getElem?_toArray, List.getElem?_cons_zero, List.getElem?_cons_succ] at qx1_0 qx1_1 qx1_2 qx1_3
  clear qg0_0 qg0_1 qg0_2 qg0_3
  have qg0_0 := HXg0.out.now.cell 0
  have qg0_1 := HXg0.out.now.cell 1
  have qg0_2 := HXg0.out.now.cell 2
  have qg0_3 := HXg0.out.now.cell 3
  simp only [List.getElem?_toArray, List.getElem?_cons_zero, List.getElem?_cons_succ] at qg0_0 qg0_1 qg0_2 qg0_3
  have HZ12 := Lib.hid hb1.size
  replace hb := hb.trans (hb1.mono hb.size)
  clear hb1
  go_wp2_with fail
  refine (LAmendment.mark _ _ 1 _ z0 _ (by omega) (by omega) HC4.out.le HC4.out.now).mono ?_
  rintro e w13_ ⟨he, ho, hap⟩
  obtain ⟨Nk13, hNk⟩ : ∃ N : Nat, N = (1 + 1 * z0.words.length) := ⟨_, rfl⟩
  rw [← hNk] at he
  have HNk13 := Lib.hid hNk
  subst he
  clear hNk
  replace HA0 := Lib.hid (HA0.out.apart hap (by have := HZ1.out; have := HZ2.out; have := HZ3.out; have := HZg0_3.out; have := HZ4.out; have := HZ5.out; have := HZ6.out; have := HZ7.out; have := HZ8.out; have := HZ9.out; have := HZ10.out; have := HZ11.out; have := HZ12.out; omega))
  replace HA1 := Lib.hid (HA1.out.apart hap (by have := HZ1.out; have := HZ2.out; have := HZ3.out; have := HZg0_3.out; have := HZ4.out; have := HZ5.out; have := HZ6.out; have := HZ7.out; have := HZ8.out; have := HZ9.out; have := HZ10.out; have := HZ11.out; have := HZ12.out; omega))
  replace HX0 := Lib.hid (HX0.out.apart hap (by have := HZ1.out; have := HZ2.out; have := HZ3.out; have := HZg0_3.out; have := HZ4.out; have := HZ5.out; have := HZ6.out; have := HZ7.out; have := HZ8.out; have := HZ9.out; have := HZ10.out; have := HZ11.out; have := HZ12.out; omega))
  replace HX1 := Lib.hid (HX1.out.apart hap (by have := HZ1.out; have := HZ2.out; have := HZ3.out; have := HZg0_3.out; have := HZ4.out; have := HZ5.out; have := HZ6.out; have := HZ7.out; have := HZ8.out; have := HZ9.out; have := HZ10.out; have := HZ11.out; have := HZ12.out; omega))
  replace HR0_3 := Lib.hid (HR0_3.out.apart hap (by have := HZ1.out; have := HZ2.out; have := HZ3.out; have := HZg0_3.out; have := HZ4.out; have := HZ5.out; have := HZ6.out; have := HZ7.out; have := HZ8.out; have := HZ9.out; have := HZ10.out; have := HZ11.out; have := HZ12.out; omega))
  replace HXw0 := Lib.hid (HXw0.out.apart hap (by have := HZ1.out; have := HZ2.out; have := HZ3.out; have := HZg0_3.out; have := HZ4.out; have := HZ5.out; have := HZ6.out; have := HZ7.out; have := HZ8.out; have := HZ9.out; have := HZ10.out; have := HZ11.out; have := HZ12.out; omega))
  replace HXx0 := Lib.hid (HXx0.out.apart hap (by have := HZ1.out; have := HZ2.out; have := HZ3.out; have := HZg0_3.out; have := HZ4.out; have := HZ5.out; have := HZ6.out; have := HZ7.out; have := HZ8.out; have := HZ9.out; have := HZ10.out; have := HZ11.out; have := HZ12.out; omega))
  replace HC6 := Lib.hid (HC6.out.apart hap (by have := HZ1.out; have := HZ2.out; have := HZ3.out; have := HZg0_3.out; have := HZ4.out; have := HZ5.out; have := HZ6.out; have := HZ7.out; have := HZ8.out; have := HZ9.out; have := HZ10.out; have := HZ11.out; have := HZ12.out; omega))
  replace HXx1 := Lib.hid (HXx1.out.apart hap (by have := HZ1.out; have := HZ2.out; have := HZ3.out; have := HZg0_3.out; have := HZ4.out; have := HZ5.out; have := HZ6.out; have := HZ7.out; have := HZ8.out; have := HZ9.out; have := HZ10.out; have := HZ11.out; have := HZ12.out; omega))
  replace HR0_8 := Lib.hid (HR0_8.out.apart hap (by have := HZ1.out; have := HZ2.out; have := HZ3.out; have := HZg0_3.out; have := HZ4.out; have := HZ5.out; have := HZ6.out; have := HZ7.out; have := HZ8.out; have := HZ9.out; have := HZ10.out; have := HZ11.out; have := HZ12.out; omega))
  replace HXg0 := Lib.hid (HXg0.out.apart hap (by have := HZ1.out; have := HZ2.out; have := HZ3.out; have := HZg0_3.out; have := HZ4.out; have := HZ5.out; have := HZ6.out; have := HZ7.out; have := HZ8.out; have := HZ9.out; have := HZ10.out; have := HZ11.out; have := HZ12.out; omega))
  have hlow := hap.below (B' := w.heap.size) (by have := hb.size; have := HZ1.out; have := HZ2.out; have := HZ3.out; have := HZg0_3.out; have := HZ4.out; have := HZ5.out; have := HZ6.out; have := HZ7.out; have := HZ8.out; have := HZ9.out; have := HZ10.out; have := HZ11.out; have := HZ12.out; omega) hb.size
  replace HC4 := Lib.hid (ho.loc (by have := hap.size; have := HZ1.out; have := HZ2.out; have := HZ3.out; have := HZg0_3.out; have := HZ4.out; have := HZ5.out; have := HZ6.out; have := HZ7.out; have := HZ8.out; have := HZ9.out; have := HZ10.out; have := HZ11.out; have := HZ12.out; omega))
  have HZ13 := Lib.hid hap.size
  replace hb := hb.trans hlow
  clear ho hap hlow
  clear q0_0 q0_1 q0_2 q0_3
  have q0_0 := HX0.out.now.cell 0
  have q0_1 := HX0.out.now.cell 1
  have q0_2 := HX0.out.now.cell 2
  have q0_3 := HX0.out.now.cell 3
  simp only [List.getElem?_toArray, List.getElem?_cons_zero, List.getElem?_cons_succ] at q0_0 q0_1 q0_2 q0_3
  clear q1_0 q1_1 q1_2 q1_3
  have q1_0 := HX1.out.now.cell 0
  have q1_1 := HX1.out.now.cell 1
  have q1_2 := HX1.out.now.cell 2
  have q1_3 := HX1.out.now.cell 3
  simp only [List.getElem?_toArray, List.getElem?_cons_zero, List.getElem?_cons_succ] at q1_0 q1_1 q1_2 q1_3
  clear qw0_0 qw0_1 qw0_2 qw0_3
  have qw0_0 := HXw0.out.now.cell 0
  have qw0_1 := HXw0.out.now.cell 1
  have qw0_2 := HXw0.out.now.cell 2
  have qw0_3 := HXw0.out.now.cell 3
  simp only [List.getElem?_toArray, List.getElem?_cons_zero, List.getElem?_cons_succ] at qw0_0 qw0_1 qw0_2 qw0_3
  clear qx0_0 qx0_1 qx0_2 qx0_3
  have qx0_0 := HXx0.out.now.cell 0
  have qx0_1 := HXx0.out.now.cell 1
  have qx0_2 := HXx0.out.now.cell 2
  have qx0_3 := HXx0.out.now.cell 3
  simp only [List.getElem?_toArray, List.getElem?_cons_zero, List.getElem?_cons_succ] at qx0_0 qx0_1 qx0_2 qx0_3
  clear qx1_0 qx1_1 qx1_2 qx1_3
  have qx1_0 := HXx1.out.now.cell 0
  have qx1_1 := HXx1.out.now.cell 1
  have qx1_2 := HXx1.out.now.cell 2
  have qx1_3 := HXx1.out.now.cell 3
  simp only [List.getElem?_toArray, List.getElem?_cons_zero, List.getElem?_cons_succ] at qx1_0 qx1_1 qx1_2 qx1_3
  clear qg0_0 qg0_1 qg0_2 qg0_3
  have qg0_0 := HXg0.out.now.cell 0
  have qg0_1 := HXg0.out.now.cell 1
  have qg0_2 := HXg0.out.now.cell 2
  have qg0_3 := HXg0.out.now.cell 3
  simp only [List.getElem?_toArray, List.getElem?_cons_zero, List.getElem?_cons_succ] at qg0_0 qg0_1 qg0_2 qg0_3
  go_wp2_with fail
  refine (LAmendment.mark _ _ Nk13 _ z1 _ (by have := HNk13.out; omega) (by have := HNk13.out; omega) HC6.out.le HC6.out.now).mono ?_
  rintro e w14_ ⟨he, ho, hap⟩
  obtain ⟨Nk14, hNk⟩ : ∃ N : Nat, N = (Nk13 + 1 * z1.words.length) := ⟨_, rfl⟩
  rw [← hNk] at he
  have HNk14 := Lib.hid hNk
  subst he
  clear hNk
  replace HA0 := Lib.hid (HA0.out.apart hap (by have := HZ1.out; have := HZ2.out; have := HZ3.out; have := HZg0_3.out; have := HZ4.out; have := HZ5.out; have := HZ6.out; have := HZ7.out; have := HZ8.out; have := HZ9.out; have := HZ10.out; have := HZ11.out; have := HZ12.out; have := HZ13.out; omega))
  replace HA1 := Lib.hid (HA1.out.apart hap (by have := HZ1.out; have := HZ2.out; have := HZ3.out; have := HZg0_3.out; have := HZ4.out; have := HZ5.out; have := HZ6.out; have := HZ7.out; have := HZ8.out; have := HZ9.out; have := HZ10.out; have := HZ11.out; have := HZ12.out; have := HZ13.out; omega))
  replace HX0 := Lib.hid (HX0.out.apart hap (by have := HZ1.out; have := HZ2.out; have := HZ3.out; have := HZg0_3.out; have := HZ4.out; have := HZ5.out; have := HZ6.out; have := HZ7.out; have := HZ8.out; have := HZ9.out; have := HZ10.out; have := HZ11.out; have := HZ12.out; have := HZ13.out; omega))
  replace HX1 := Lib.hid (HX1.out.apart hap (by have := HZ1.out; have := HZ2.out; have := HZ3.out; have := HZg0_3.out; have := HZ4.out; have := HZ5.out; have := HZ6.out; have := HZ7.out; have := HZ8.out; have := HZ9.out; have := HZ10.out; have := HZ11.out; have := HZ12.out; have := HZ13.out; omega))
  replace HR0_3 := Lib.hid (HR0_3.out.apart hap (by have := HZ1.out; have := HZ2.out; have := HZ3.out; have := HZg0_3.out; have := HZ4.out; have := HZ5.out; have := HZ6.out; have := HZ7.out; have := HZ8.out; have := HZ9.out; have := HZ10.out; have := HZ11.out; have := HZ12.out; have := HZ13.out; omega))
  replace HXw0 := Lib.hid (HXw0.out.apart hap (by have := HZ1.out; have := HZ2.out; have := HZ3.out; have := HZg0_3.out; have := HZ4.out; have := HZ5.out; have := HZ6.out; have := HZ7.out; have := HZ8.out; have := HZ9.out; have := HZ10.out; have := HZ11.out; have := HZ12.out; have := HZ13.out; omega))
  replace HC4 := Lib.hid (HC4.out.apart hap (by have := HZ1.out; have := HZ2.out; have := HZ3.out; have := HZg0_3.out; have := HZ4.out; have := HZ5.out; have := HZ6.out; have := HZ7.out; have := HZ8.out; have := HZ9.out; have := HZ10.out; have := HZ11.out; have := HZ12.out; have := HZ13.out; omega))
  replace HXx0 := Lib.hid (HXx0.out.apart hap (by have := HZ1.out; have := HZ2.out; have := HZ3.out; have := HZg0_3.out; have := HZ4.out; have := HZ5.out; have := HZ6.out; have := HZ7.out; have := HZ8.out; have := HZ9.out; have := HZ10.out; have := HZ11.out; have := HZ12.out; have := HZ13.out; omega))
  replace HXx1 := Lib.hid (HXx1.out.apart hap (by have := HZ1.out; have := HZ2.out; have := HZ3.out; have := HZg0_3.out; have := HZ4.out; have := HZ5.out; have := HZ6.out; have := HZ7.out; have := HZ8.out; have := HZ9.out; have := HZ10.out; have := HZ11.out; have := HZ12.out; have := HZ13.out; omega))
  replace HR0_8 := Lib.hid (HR0_8.out.apart hap (by have := HZ1.out; have := HZ2.out; have := HZ3.out; have := HZg0_3.out; have := HZ4.out; have := HZ5.out; have := HZ6.out; have := HZ7.out; have := HZ8.out; have := HZ9.out; have := HZ10.out; have := HZ11.out; have := HZ12.out; have := HZ13.out; omega))
  replace HXg0 := Lib.hid (HXg0.out.apart hap (by have := HZ1.out; have := HZ2.out; have := HZ3.out; have := HZg0_3.out; have := HZ4.out; have := HZ5.out; have := HZ6.out; have := HZ7.out; have := HZ8.out; have := HZ9.out; have := HZ10.out; have := HZ11.out; have := HZ12.out; have := HZ13.out; omega))
  have hlow := hap.below (B' := w.heap.size) (by have := hb.size; have := HZ1.out; have := HZ2.out; have := HZ3.out; have := HZg0_3.out; have := HZ4.out; have := HZ5.out; have := HZ6.out; have := HZ7.out; have := HZ8.out; have := HZ9.out; have := HZ10.out; have := HZ11.out; have := HZ12.out; have := HZ13.out; omega) hb.size
  replace HC6 := Lib.hid (ho.loc (by have := hap.size; have := HZ1.out; have := HZ2.out; have := HZ3.out; have := HZg0_3.out; have := HZ4.out; have := HZ5.out; have := HZ6.out; have := HZ7.out; have := HZ8.out; have := HZ9.out; have := HZ10.out; have := HZ11.out; have := HZ12.out; have := HZ13.out; omega))
  have HZ14 := Lib.hid hap.size
  replace hb := hb.trans hlow
  clear ho hap hlow
  clear q0_0 q0_1 q0_2 q0_3
  have q0_0 := HX0.out.now.cell 0
  have q0_1 := HX0.out.now.cell 1
  have q0_2 := HX0.out.now.cell 2
  have q0_3 := HX0.out.now.cell 3
  simp only [List.getElem?_toArray, List.getElem?_cons_zero, List.getElem?_cons_succ] at q0_0 q0_1 q0_2 q0_3
  clear q1_0 q1_1 q1_2 q1_3
  have q1_0 := HX1.out.now.cell 0
  have q1_1 := HX1.out.now.cell 1
  have q1_2 := HX1.out.now.cell 2
  have q1_3 := HX1.out.now.cell 3
  simp only [List.getElem?_toArray, List.getElem?_cons_zero, List.getElem?_cons_succ] at q1_0 q1_1 q1_2 q1_3
  clear qw0_0 qw0_1 qw0_2 qw0_3
  have qw0_0 := HXw0.out.now.cell 0
  have qw0_1 := HXw0.out.now.cell 1
  have qw0_2 := HXw0.out.now.cell 2
  have qw0_3 := HXw0.out.now.cell 3
  simp only [List.getElem?_toArray, List.getElem?_cons_zero, List.getElem?_cons_succ] at qw0_0 qw0_1 qw0_2 qw0_3
  clear qx0_0 qx0_1 qx0_2 qx0_3
  have qx0_0 := HXx0.out.now.cell 0
  have qx0_1 := HXx0.out.now.cell 1
  have qx0_2 := HXx0.out.now.cell 2
  have qx0_3 := HXx0.out.now.cell 3
  simp only [List.getElem?_toArray, List.getElem?_cons_zero, List.getElem?_cons_succ] at qx0_0 qx0_1 qx0_2 qx0_3
  clear qx1_0 qx1_1 qx1_2 qx1_3
  have qx1_0 := HXx1.out.now.cell 0
  have qx1_1 := HXx1.out.now.cell 1
  have qx1_2 := HXx1.out.now.cell 2
  have qx1_3 := HXx1.out.now.cell 3
  simp only [List.getElem?_toArray, List.getElem?_cons_zero, List.getElem?_cons_succ] at qx1_0 qx1_1 qx1_2 qx1_3
  clear qg0_0 qg0_1 qg0_2 qg0_3
  have qg0_0 := HXg0.out.now.cell 0
  have qg0_1 := HXg0.out.now.cell 1
  have qg0_2 := HXg0.out.now.cell 2
  have qg0_3 := HXg0.out.now.cell 3
  simp only [List.getElem?_toArray, List.getElem?_cons_zero, List.getElem?_cons_succ] at qg0_0 qg0_1 qg0_2 qg0_3
  go_wp2_with fail
  refine (LAmendment.eq _ _ r0_3 _ HR0_8.out.now.1.is HR0_3.out.now.1.is).mono ?_
  rintro e w15_ ⟨rfl, hb1⟩
  replace HA0 := Lib.hid (HA0.out.kept hb1)
  replace HA1 := Lib.hid (HA1.out.kept hb1)
  replace HX0 := Lib.hid (HX0.out.kept hb1)
  replace HX1 := Lib.hid (HX1.out.kept hb1)
  replace HR0_3 := Lib.hid (HR0_3.out.kept hb1)
  replace HXw0 := Lib.hid (HXw0.out.kept hb1)
  replace HC4 := Lib.hid (HC4.out.kept hb1)
  replace HXx0 := Lib.hid (HXx0.out.kept hb1)
  replace HC6 := Lib.hid (HC6.out.kept hb1)
  replace HXx1 := Lib.hid (HXx1.out.kept hb1)
  replace HR0_8 := Lib.hid (HR0_8.out.kept hb1)
  replace HXg0 := Lib.hid (HXg0.out.kept hb1)
  clear q0_0 q0_1 q0_2 q0_3
  have q0_0 := HX0.out.now.cell 0
  have q0_1 := HX0.out.now.cell 1
  have q0_2 := HX0.out.now.cell 2
  have q0_3 := HX0.out.now.cell 3
  simp only [List.getElem?_toArray, List.getElem?_cons_zero, List.getElem?_cons_succ] at q0_0 q0_1 q0_2 q0_3
  clear q1_0 q1_1 q1_2 q1_3
  have q1_0 := HX1.out.now.cell 0
  have q1_1 := HX1.out.now.cell 1
  have q1_2 := HX1.out.now.cell 2
  have q1_3 := HX1.out.now.cell 3
  simp only [List.getElem?_toArray, List.getElem?_cons_zero, List.getElem?_cons_succ] at q1_0 q1_1 q1_2 q1_3
  clear qw0_0 qw0_1 qw0_2 qw0_3
  have qw0_0 := HXw0.out.now.cell 0
  have qw0_1 := HXw0.out.now.cell 1
  have qw0_2 := HXw0.out.now.cell 2
  have qw0_3 := HXw0.out.now.cell 3
  simp only [List.getElem?_toArray, List.getElem?_cons_zero, List.getElem?_cons_succ] at qw0_0 qw0_1 qw0_2 qw0_3
  clear qx0_0 qx0_1 qx0_2 qx0_3
  have qx0_0 := HXx0.out.now.cell 0
  have qx0_1 := HXx0.out.now.cell 1
  have qx0_2 := HXx0.out.now.cell 2
  have qx0_3 := HXx0.out.now.cell 3
  simp only [List.getElem?_toArray, List.getElem?_cons_zero, List.getElem?_cons_succ] at qx0_0 qx0_1 qx0_2 qx0_3
  clear qx1_0 qx1_1 qx1_2 qx1_3
  have qx1_0 := HXx1.out.now.cell 0
  have qx1_1 := HXx1.out.now.cell 1
  have qx1_2 := HXx1.out.now.cell 2
  have qx1_3 := HXx1.out.now.cell 3
  simp only [List.getElem?_toArray, List.getElem?_cons_zero, List.getElem?_cons_succ] at qx1_0 qx1_1 qx1_2 qx1_3
  clear qg0_0 qg0_1 qg0_2 qg0_3
  have qg0_0 := HXg0.out.now.cell 0
  have qg0_1 := HXg0.out.now.cell 1
  have qg0_2 := HXg0.out.now.cell 2
  have qg0_3 := HXg0.out.now.cell 3
  simp only [List.getElem?_toArray, List.getElem?_cons_zero, List.getElem?_cons_succ] at qg0_0 qg0_1 qg0_2 qg0_3
  have HZ15 := Lib.hid hb1.size
  replace hb := hb.trans (hb1.mono hb.size)
  clear hb1
  go_wp2_with fail
  refine (LAmendment.mark _ _ 1 _ r0_3 _ (by have := HNk13.out; have := HNk14.out; omega) (by have := HNk13.out; have := HNk14.out; omega) HR0_8.out.le HR0_8.out.now).mono ?_
  rintro e w16_ ⟨rfl, ho, hap⟩
  replace HA0 := Lib.hid (HA0.out.apart hap (by have := HZ1.out; have := HZ2.out; have := HZ3.out; have := HZg0_3.out; have := HZ4.out; have := HZ5.out; have := HZ6.out; have := HZ7.out; have := HZ8.out; have := HZ9.out; have := HZ10.out; have := HZ11.out; have := HZ12.out; have := HZ13.out; have := HZ14.out; have := HZ15.out; omega))
  replace HA1 := Lib.hid (HA1.out.apart hap (by have := HZ1.out; have := HZ2.out; have := HZ3.out; have := HZg0_3.out; have := HZ4.out; have := HZ5.out; have := HZ6.out; have := HZ7.out; have := HZ8.out; have := HZ9.out; have := HZ10.out; have := HZ11.out; have := HZ12.out; have := HZ13.out; have := HZ14.out; have := HZ15.out; omega))
  replace HX0 := Lib.hid (HX0.out.apart hap (by have := HZ1.out; have := HZ2.out; have := HZ3.out; have := HZg0_3.out; have := HZ4.out; have := HZ5.out; have := HZ6.out; have := HZ7.out; have := HZ8.out; have := HZ9.out; have := HZ10.out; have := HZ11.out; have := HZ12.out; have := HZ13.out; have := HZ14.out; have := HZ15.out; omega))
  replace HX1 := Lib.hid (HX1.out.apart hap (by have := HZ1.out; have := HZ2.out; have := HZ3.out; have := HZg0_3.out; have := HZ4.out; have := HZ5.out; have := HZ6.out; have := HZ7.out; have := HZ8.out; have := HZ9.out; have := HZ10.out; have := HZ11.out; have := HZ12.out; have := HZ13.out; have := HZ14.out; have := HZ15.out; omega))
  replace HR0_3 := Lib.hid (HR0_3.out.apart hap (by have := HZ1.out; have := HZ2.out; have := HZ3.out; have := HZg0_3.out; have := HZ4.out; have := HZ5.out; have := HZ6.out; have := HZ7.out; have := HZ8.out; have := HZ9.out; have := HZ10.out; have := HZ11.out; have := HZ12.out; have := HZ13.out; have := HZ14.out; have := HZ15.out; omega))
  replace HXw0 := Lib.hid (HXw0.out.apart hap (by have := HZ1.out; have := HZ2.out; have := HZ3.out; have := HZg0_3.out; have := HZ4.out; have := HZ5.out; have := HZ6.out; have := HZ7.out; have := HZ8.out; have := HZ9.out; have := HZ10.out; have := HZ11.out; have := HZ12.out; have := HZ13.out; have := HZ14.out; have := HZ15.out; omega))
  replace HC4 := Lib.hid (HC4.out.apart hap (by have := HZ1.out; have := HZ2.out; have := HZ3.out; have := HZg0_3.out; have := HZ4.out; have := HZ5.out; have := HZ6.out; have := HZ7.out; have := HZ8.out; have := HZ9.out; have := HZ10.out; have := HZ11.out; have := HZ12.out; have := HZ13.out; have := HZ14.out; have := HZ15.out; omega))
  replace HXx0 := Lib.hid (HXx0.out.apart hap (by have := HZ1.out; have := HZ2.out; have := HZ3.out; have := HZg0_3.out; have := HZ4.out; have := HZ5.out; have := HZ6.out; have := HZ7.out; have := HZ8.out; have := HZ9.out; have := HZ10.out; have := HZ11.out; have := HZ12.out; have := HZ13.out; have := HZ14.out; have := HZ15.out; omega))
  replace HC6 := Lib.hid (HC6.out.apart hap (by have := HZ1.out; have := HZ2.out; have := HZ3.out; have := HZg0_3.out; have := HZ4.out; have := HZ5.out; have := HZ6.out; have := HZ7.out; have := HZ8.out; have := HZ9.out; have := HZ10.out; have := HZ11.out; have := HZ12.out; have := HZ13.out; have := HZ14.out; have := HZ15.out; omega))
  replace HXx1 := Lib.hid (HXx1.out.apart hap (by have := HZ1.out; have := HZ2.out; have := HZ3.out; have := HZg0_3.out; have := HZ4.out; have := HZ5.out; have := HZ6.out; have := HZ7.out; have := HZ8.out; have := HZ9.out; have := HZ10.out; have := HZ11.out; have := HZ12.out; have := HZ13.out; have := HZ14.out; have := HZ15.out; omega))
  replace HXg0 := Lib.hid (HXg0.out.apart hap (by have := HZ1.out; have := HZ2.out; have := HZ3.out; have := HZg0_3.out; have := HZ4.out; have := HZ5.out; have := HZ6.out; have := HZ7.out; have := HZ8.out; have := HZ9.out; have := HZ10.out; have := HZ11.out; have := HZ12.out; have := HZ13.out; have := HZ14.out; have := HZ15.out; omega))
  have hlow := hap.below (B' := w.heap.size) (by have := hb.size; have := HZ1.out; have := HZ2.out; have := HZ3.out; have := HZg0_3.out; have := HZ4.out; have := HZ5.out; have := HZ6.out; have := HZ7.out; have := HZ8.out; have := HZ9.out; have := HZ10.out; have := HZ11.out; have := HZ12.out; have := HZ13.out; have := HZ14.out; have := HZ15.out; omega) hb.size
  replace HR0_8 := Lib.hid (ho.loc (by have := hap.size; have := HZ1.out; have := HZ2.out; have := HZ3.out; have := HZg0_3.out; have := HZ4.out; have := HZ5.out; have := HZ6.out; have := HZ7.out; have := HZ8.out; have := HZ9.out; have := HZ10.out; have := HZ11.out; have := HZ12.out; have := HZ13.out; have := HZ14.out; have := HZ15.out; omega))
  have HZ16 := Lib.hid hap.size
  replace hb := hb.trans hlow
  clear ho hap hlow
  clear q0_0 q0_1 q0_2 q0_3
  have q0_0 := HX0.out.now.cell 0
  have q0_1 := HX0.out.now.cell 1
  have q0_2 := HX0.out.now.cell 2
  have q0_3 := HX0.out.now.cell 3
  simp only [List.getElem?_toArray, List.getElem?_cons_zero, List.getElem?_cons_succ] at q0_0 q0_1 q0_2 q0_3
  clear q1_0 q1_1 q1_2 q1_3
  have q1_0 := HX1.out.now.cell 0
  have q1_1 := HX1.out.now.cell 1
  have q1_2 := HX1.out.now.cell 2
  have q1_3 := HX1.out.now.cell 3
  simp only [List.getElem?_toArray, List.getElem?_cons_zero, List.getElem?_cons_succ] at q1_0 q1_1 q1_2 q1_3
  clear qw0_0 qw0_1 qw0_2 qw0_3
  have qw0_0 := HXw0.out.now.cell 0
  have qw0_1 := HXw0.out.now.cell 1
  have qw0_2 := HXw0.out.now.cell 2
  have qw0_3 := HXw0.out.now.cell 3
  simp only [List.getElem?_toArray, List.getElem?_cons_zero, List.getElem?_cons_succ] at qw0_0 qw0_1 qw0_2 qw0_3
  clear qx0_0 qx0_1 qx0_2 qx0_3
  have qx0_0 := HXx0.out.now.cell 0
  have qx0_1 := HXx0.out.now.cell 1
  have qx0_2 := HXx0.out.now.cell 2
  have qx0_3 := HXx0.out.now.cell 3
  simp only [List.getElem?_toArray, List.getElem?_cons_zero, List.getElem?_cons_succ] at qx0_0 qx0_1 qx0_2 qx0_3
  clear qx1_0 qx1_1 qx1_2 qx1_3
  have qx1_0 := HXx1.out.now.cell 0
  have qx1_1 := HXx1.out.now.cell 1
  have qx1_2 := HXx1.out.now.cell 2
  have qx1_3 := HXx1.out.now.cell 3
  simp only [List.getElem?_toArray, List.getElem?_cons_zero, List.getElem?_cons_succ] at qx1_0 qx1_1 qx1_2 qx1_3
  clear qg0_0 qg0_1 qg0_2 qg0_3
  have qg0_0 := HXg0.out.now.cell 0
  have qg0_1 := HXg0.out.now.cell 1
  have qg0_2 := HXg0.out.now.cell 2
  have qg0_3 := HXg0.out.now.cell 3
  simp only [List.getElem?_toArray, List.getElem?_cons_zero, List.getElem?_cons_succ] at qg0_0 qg0_1 qg0_2 qg0_3
  go_wp2_with fail
  refine (LAmendment.held _ 1 _ r0_3 _ (by omega) (by omega) HR0_8.out.now.1).mono ?_
  rintro e w17_ ⟨rfl, hb1⟩
  replace HA0 := Lib.hid (HA0.out.kept hb1)
  replace HA1 := Lib.hid (HA1.out.kept hb1)
  replace HX0 := Lib.hid (HX0.out.kept hb1)
  replace HX1 := Lib.hid (HX1.out.kept hb1)
  replace HR0_3 := Lib.hid (HR0_3.out.kept hb1)
  replace HXw0 := Lib.hid (HXw0.out.kept hb1)
  replace HC4 := Lib.hid (HC4.out.kept hb1)
  replace HXx0 := Lib.hid (HXx0.out.kept hb1)
  replace HC6 := Lib.hid (HC6.out.kept hb1)
  replace HXx1 := Lib.hid (HXx1.out.kept hb1)
  replace HR0_8 := Lib.hid (HR0_8.out.kept hb1)
  replace HXg0 := Lib.hid (HXg0.out.kept hb1)
  clear q0_0 q0_1 q0_2 q0_3
  have q0_0 := HX0.out.now.cell 0
  have q0_1 := HX0.out.now.cell 1
  have q0_2 := HX0.out.now.cell 2
  have q0_3 := HX0.out.now.cell 3
  simp only [List.getElem?_toArray, List.getElem?_cons_zero, List.getElem?_cons_succ] at q0_0 q0_1 q0_2 q0_3
  clear q1_0 q1_1 q1_2 q1_3
  have q1_0 := HX1.out.now.cell 0
  have q1_1 := HX1.out.now.cell 1
  have q1_2 := HX1.out.now.cell 2
  have q1_3 := HX1.out.now.cell 3
  simp only [List.getElem?_toArray, List.getElem?_cons_zero, List.getElem?_cons_succ] at q1_0 q1_1 q1_2 q1_3
  clear qw0_0 qw0_1 qw0_2 qw0_3
  have qw0_0 := HXw0.out.now.cell 0
  have qw0_1 := HXw0.out.now.cell 1
  have qw0_2 := HXw0.out.now.cell 2
  have qw0_3 := HXw0.out.now.cell 3
  simp only [List.getElem?_toArray, List.getElem?_cons_zero, List.getElem?_cons_succ] at qw0_0 qw0_1 qw0_2 qw0_3
  clear qx0_0 qx0_1 qx0_2 qx0_3
  have qx0_0 := HXx0.out.now.cell 0
  have qx0_1 := HXx0.out.now.cell 1
  have qx0_2 := HXx0.out.now.cell 2
  have qx0_3 := HXx0.out.now.cell 3
  simp only [List.getElem?_toArray, List.getElem?_cons_zero, List.getElem?_cons_succ] at qx0_0 qx0_1 qx0_2 qx0_3
  clear qx1_0 qx1_1 qx1_2 qx1_3
  have qx1_0 := HXx1.out.now.cell 0
  have qx1_1 := HXx1.out.now.cell 1
  have qx1_2 := HXx1.out.now.cell 2
  have qx1_3 := HXx1.out.now.cell 3
  simp only [List.getElem?_toArray, List.getElem?_cons_zero, List.getElem?_cons_succ] at qx1_0 qx1_1 qx1_2 qx1_3
  clear qg0_0 qg0_1 qg0_2 qg0_3
  have qg0_0 := HXg0.out.now.cell 0
  have qg0_1 := HXg0.out.now.cell 1
  have qg0_2 := HXg0.out.now.cell 2
  have qg0_3 := HXg0.out.now.cell 3
  simp only [List.getElem?_toArray, List.getElem?_cons_zero, List.getElem?_cons_succ] at qg0_0 qg0_1 qg0_2 qg0_3
  have HZ17 := Lib.hid hb1.size
  replace hb := hb.trans (hb1.mono hb.size)
  clear hb1
  go_wp2_with fail
  go_cut [15, 16] (fun s15 s16 wx => ∃ (g0 : Nat) (fa0_c_3 : Option Addr) (fn0_c_3 fc0_c_3 : Nat) (r0 : LAmendment.R) (r1 : Bool), s15 = .pointer (some ⟨g0, 0, none⟩) ∧ s16 = .bool r1 ∧ SecondaryChangeC.Ans z0 z1 r0 r1 ∧ Hid (Bx wx g0 38 #[.int .i64 r0.kind, .int .i64 r0.pos, .int .i64 r0.count, .slice fa0_c_3 fn0_c_3 fc0_c_3]) ∧ LAmendment.Own wx w17_.heap.size (.agg #[.int .i64 r0.kind, .int .i64 r0.pos, .int .i64 r0.count, .slice fa0_c_3 fn0_c_3 fc0_c_3]) r0 ∧ Below w17_.heap.size w17_ wx)
  case first =>
    have HK := Lib.hid (show ∀ w' : World, Below w17_.heap.size w17_ w' → Below w17_.heap.size w17_ w' ∧ w'.cell? ⟨w.heap.size, 0, none⟩ = some (.int .i64 z0.kind) ∧ w'.cell? ⟨w.heap.size, 1, none⟩ = some (.int .i64 z0.pos) ∧ w'.cell? ⟨w.heap.size, 2, none⟩ = some (.int .i64 z0.count) ∧ w'.cell? ⟨w.heap.size, 3, none⟩ = some (.slice a0_3 len0_3 cap0_3) ∧ w'.cell? ⟨w.heap.size + 1, 0, none⟩ = some (.int .i64 z1.kind) ∧ w'.cell? ⟨w.heap.size + 1, 1, none⟩ = some (.int .i64 z1.pos) ∧ w'.cell? ⟨w.heap.size + 1, 2, none⟩ = some (.int .i64 z1.count) ∧ w'.cell? ⟨w.heap.size + 1, 3, none⟩ = some (.slice a1_3 len1_3 cap1_3) ∧ w'.cell? ⟨g0_3, 0, none⟩ = some (.int .i64 r0_3.kind) ∧ w'.cell? ⟨g0_3, 1, none⟩ = some (.int .i64 r0_3.pos) ∧ w'.cell? ⟨g0_3, 2, none⟩ = some (.int .i64 r0_3.count) ∧ w'.cell? ⟨g0_3, 3, none⟩ = some (.slice fa0_3_3 fn0_3_3 fc0_3_3) ∧ w'.cell? ⟨w4_.heap.size, 0, none⟩ = some (.int .i64 z0.kind) ∧ w'.cell? ⟨w4_.heap.size, 1, none⟩ = some (.int .i64 z0.pos) ∧ w'.cell? ⟨w4_.heap.size, 2, none⟩ = some (.int .i64 z0.count) ∧ w'.cell? ⟨w4_.heap.size, 3, none⟩ = some (.slice fa4_3 fn4_3 fc4_3) ∧ w'.cell? ⟨w6_.heap.size, 0, none⟩ = some (.int .i64 z1.kind) ∧ w'.cell? ⟨w6_.heap.size, 1, none⟩ = some (.int .i64 z1.pos) ∧ w'.cell? ⟨w6_.heap.size, 2, none⟩ = some (.int .i64 z1.count) ∧ w'.cell? ⟨w6_.heap.size, 3, none⟩ = some (.slice fa6_3 fn6_3 fc6_3) ∧ w'.cell? ⟨w8_.heap.size, 0, none⟩ = some (.int .i64 r0_3.kind) ∧ w'.cell? ⟨w8_.heap.size, 1, none⟩ = some (.int .i64 r0_3.pos) ∧ w'.cell? ⟨w8_.heap.size, 2, none⟩ = some (.int .i64 r0_3.count) ∧ w'.cell? ⟨w8_.heap.size, 3, none⟩ = some (.slice fa0_8_3 fn0_8_3 fc0_8_3) from fun w' hb => ⟨hb, by (have h := (HX0.out.kept hb).now.cell 0); simpa using h, by (have h := (HX0.out.kept hb).now.cell 1); simpa using h, by (have h := (HX0.out.kept hb).now.cell 2); simpa using h, by (have h := (HX0.out.kept hb).now.cell 3); simpa using h, by (have h := (HX1.out.kept hb).now.cell 0); simpa using h, by (have h := (HX1.out.kept hb).now.cell 1); simpa using h, by (have h := (HX1.out.kept hb).now.cell 2); simpa using h, by (have h := (HX1.out.kept hb).now.cell 3); simpa using h, by (have h := (HXw0.out.kept hb).now.cell 0); simpa using h, by (have h := (HXw0.out.kept hb).now.cell 1); simpa using h, by (have h := (HXw0.out.kept hb).now.cell 2); simpa using h, by (have h := (HXw0.out.kept hb).now.cell 3); simpa using h, by (have h := (HXx0.out.kept hb).now.cell 0); simpa using h, by (have h := (HXx0.out.kept hb).now.cell 1); simpa using h, by (have h := (HXx0.out.kept hb).now.cell 2); simpa using h, by (have h := (HXx0.out.kept hb).now.cell 3); simpa using h, by (have h := (HXx1.out.kept hb).now.cell 0); simpa using h, by (have h := (HXx1.out.kept hb).now.cell 1); simpa using h, by (have h := (HXx1.out.kept hb).now.cell 2); simpa using h, by (have h := (HXx1.out.kept hb).now.cell 3); simpa using h, by (have h := (HXg0.out.kept hb).now.cell 0); simpa using h, by (have h := (HXg0.out.kept hb).now.cell 1); simpa using h, by (have h := (HXg0.out.kept hb).now.cell 2); simpa using h, by (have h := (HXg0.out.kept hb).now.cell 3); simpa using h⟩)
    have hB : Below w17_.heap.size w17_ w17_.drew := (Below.refl _ _).drew
    refine wp_region_held_drew (S := fun w' => Below w17_.heap.size w17_ w' ∧ w'.cell? ⟨w.heap.size, 0, none⟩ = some (.int .i64 z0.kind) ∧ w'.cell? ⟨w.heap.size, 1, none⟩ = some (.int .i64 z0.pos) ∧ w'.cell? ⟨w.heap.size, 2, none⟩ = some (.int .i64 z0.count) ∧ w'.cell? ⟨w.heap.size, 3, none⟩ = some (.slice a0_3 len0_3 cap0_3) ∧ w'.cell? ⟨w.heap.size + 1, 0, none⟩ = some (.int .i64 z1.kind) ∧ w'.cell? ⟨w.heap.size + 1, 1, none⟩ = some (.int .i64 z1.pos) ∧ w'.cell? ⟨w.heap.size + 1, 2, none⟩ = some (.int .i64 z1.count) ∧ w'.cell? ⟨w.heap.size + 1, 3, none⟩ = some (.slice a1_3 len1_3 cap1_3) ∧ w'.cell? ⟨g0_3, 0, none⟩ = some (.int .i64 r0_3.kind) ∧ w'.cell? ⟨g0_3, 1, none⟩ = some (.int .i64 r0_3.pos) ∧ w'.cell? ⟨g0_3, 2, none⟩ = some (.int .i64 r0_3.count) ∧ w'.cell? ⟨g0_3, 3, none⟩ = some (.slice fa0_3_3 fn0_3_3 fc0_3_3) ∧ w'.cell? ⟨w4_.heap.size, 0, none⟩ = some (.int .i64 z0.kind) ∧ w'.cell? ⟨w4_.heap.size, 1, none⟩ = some (.int .i64 z0.pos) ∧ w'.cell? ⟨w4_.heap.size, 2, none⟩ = some (.int .i64 z0.count) ∧ w'.cell? ⟨w4_.heap.size, 3, none⟩ = some (.slice fa4_3 fn4_3 fc4_3) ∧ w'.cell? ⟨w6_.heap.size, 0, none⟩ = some (.int .i64 z1.kind) ∧ w'.cell? ⟨w6_.heap.size, 1, none⟩ = some (.int .i64 z1.pos) ∧ w'.cell? ⟨w6_.heap.size, 2, none⟩ = some (.int .i64 z1.count) ∧ w'.cell? ⟨w6_.heap.size, 3, none⟩ = some (.slice fa6_3 fn6_3 fc6_3) ∧ w'.cell? ⟨w8_.heap.size, 0, none⟩ = some (.int .i64 r0_3.kind) ∧ w'.cell? ⟨w8_.heap.size, 1, none⟩ = some (.int .i64 r0_3.pos) ∧ w'.cell? ⟨w8_.heap.size, 2, none⟩ = some (.int .i64 r0_3.count) ∧ w'.cell? ⟨w8_.heap.size, 3, none⟩ = some (.slice fa0_8_3 fn0_8_3 fc0_8_3)) (by kernel_rfl) (HK.out _ hB) (fun hHeld => ?_)
    generalize w17_.drew = x0 at *
    refine wpAnyH_take (i := 0) (v := ?v36) rfl (by kernel_rfl) (by kernel_rfl) (by kernel_rfl) (fun _ _ _ h => h) (Or.inl ⟨by rfl, ?hy36⟩) (by assumption) ?rest36
    case hy36 => (intro wq hSw; (try dsimp only at hSw); go_split_ands; go_simp; (try with_reducible rfl))
    case rest36 =>
    refine wpAnyH_take (i := 2) (v := ?v37) rfl (by kernel_rfl) (by kernel_rfl) (by kernel_rfl) (fun _ _ _ h => h) (Or.inl ⟨by rfl, ?hy37⟩) (by assumption) ?rest37
    case hy37 => (intro wq hSw; (try dsimp only at hSw); go_split_ands; go_simp; (try with_reducible rfl))
    case rest37 =>
    refine wpAnyH_ready (rs := [1, 8]) (by kernel_rfl) (by simp) ?_
    refine AllReadyH.cons rfl (fun K hK => ?step38) ?more38
    case step38 =>
      go_simp
      go_at_call 18
      refine (LAmendment.to _ z0 _ (HA0.out.kept hB).now (by omega)).mono ?_
      rintro e x1 ⟨u0, rfl, hn0, ho0, hbc⟩
      replace hB := hB.trans (hbc.mono hB.size)
      clear hbc
      go_wp2_with fail
      refine hK.out _ _ (HK.out _ hB) (fun hHeld => ?_)
      clear hK K
      refine wpAnyH_ready (rs := [3, 8]) (by kernel_rfl) (by simp) ?_
      refine AllReadyH.cons rfl (fun K hK => ?step39) ?more39
      case step39 =>
        go_simp
        go_at_call 18
        refine (LAmendment.to _ z1 _ (HA1.out.kept hB).now (by omega)).mono ?_
        rintro e x2 ⟨u1, rfl, hn1, ho1, hbc⟩
        replace ho0 := ho0.kept hbc
        replace hB := hB.trans (hbc.mono hB.size)
        clear hbc
        go_wp2_with fail
        refine hK.out _ _ (HK.out _ hB) (fun hHeld => ?_)
        clear hK K
        refine wpAnyH_ready (rs := [4, 8]) (by kernel_rfl) (by simp) ?_
        refine AllReadyH.cons rfl (fun K hK => ?step40) ?more40
        case step40 =>
          go_simp
          go_at_call 26
          refine (SecondaryChangeC.impl u0 z0 u1 z1 _ ho0.isQ HF0.out (by omega) ho1.isQ HF1.out (by omega)).mono ?_
          rintro e x3 ⟨v0_, r0_, r1_, rfl, hans, hoz0, hbc⟩
          replace ho0 := ho0.kept hbc
          replace ho1 := ho1.kept hbc
          obtain ⟨sz3, rfl, hoz0_3⟩ := hoz0
          obtain ⟨fa0_c_3, fn0_c_3, fc0_c_3, rfl⟩ := own_slice hoz0_3
          replace hoz0_3 := hoz0_3.low hB.size
          replace hB := hB.trans (hbc.mono hB.size)
          clear hbc
          go_wp2_with fail
          refine hK.out _ _ (HK.out _ hB) (fun hHeld => ?_)
          clear hK K
          refine wpAnyH_take (i := 5) (v := ?v41) rfl (by kernel_rfl) (by kernel_rfl) (by kernel_rfl) (fun _ _ _ h => h) (Or.inl ⟨by rfl, ?hy41⟩) (by assumption) ?rest41
          case hy41 => (intro wq hSw; (try dsimp only at hSw); go_split_ands; go_simp; (try with_reducible rfl))
          case rest41 =>
          refine wpAnyH_take (i := 6) (v := ?v42) rfl (by kernel_rfl) (by kernel_rfl) (by kernel_rfl) (fun _ _ _ h => h) (Or.inl ⟨by rfl, ?hy42⟩) (by assumption) ?rest42
          case hy42 => (intro wq hSw; (try dsimp only at hSw); go_split_ands; go_simp; (try with_reducible rfl))
          case rest42 =>
          refine wpAnyH_take (i := 7) (v := ?v43) rfl (by kernel_rfl) (by kernel_rfl) (by kernel_rfl) (fun _ _ _ h => h) (Or.inl ⟨by rfl, ?hy43⟩) (by assumption) ?rest43
          case hy43 => (intro wq hSw; (try dsimp only at hSw); go_split_ands; go_simp; (try with_reducible rfl))
          case rest43 =>
          refine wpAnyH_ready (rs := [8]) (by kernel_rfl) (by simp) ?_
          refine AllReadyH.cons rfl (fun K hK => ?step44) ?more44
          case step44 =>
            go_simp
            refine hK.out _ _ (HK.out _ (hB.alloc hB.size _)) (fun hHeld => ?_)
            clear hK K
            have hNZ0_3 : ∀ k, (Value.slice fa0_c_3 fn0_c_3 fc0_c_3).ownBlock = some k → k ≠ x3.heap.size := fun k hk => by have h1 := (hoz0_3.lt k hk).2; omega
            replace ho0 := ho0.kept ((Below.refl x3.heap.size x3).alloc (Nat.le_refl _) (Obj.cells #[.int .i64 0, .int .i64 0, .int .i64 0, .slice none 0 0] 38))
            replace ho1 := ho1.kept ((Below.refl x3.heap.size x3).alloc (Nat.le_refl _) (Obj.cells #[.int .i64 0, .int .i64 0, .int .i64 0, .slice none 0 0] 38))
            replace hoz0_3 := hoz0_3.kept ((Below.refl x3.heap.size x3).alloc (Nat.le_refl _) (Obj.cells #[.int .i64 0, .int .i64 0, .int .i64 0, .slice none 0 0] 38))
            have hXC := Bx.new x3 38 #[.int .i64 0, .int .i64 0, .int .i64 0, .slice none 0 0]
            have hXA : w17_.heap.size ≤ x3.heap.size := hB.size
            replace hB := hB.alloc hB.size (Obj.cells #[.int .i64 0, .int .i64 0, .int .i64 0, .slice none 0 0] 38)
            generalize x3.alloc (Obj.cells #[.int .i64 0, .int .i64 0, .int .i64 0, .slice none 0 0] 38) = x4 at *
            generalize x3.heap.size = gbx4 at *
            have hXlt : gbx4 < x4.heap.size := hXC.lt
            clear hXlt
            refine wpAnyH_ready (rs := [9]) (by kernel_rfl) (by simp) ?_
            refine AllReadyH.cons rfl (fun K hK => ?step45) ?more45
            case step45 =>
              have c0 := hXC.cell 0
              have f0 := hXC.frozen 0
              have c1 := hXC.cell 1
              have f1 := hXC.frozen 1
              have c2 := hXC.cell 2
              have f2 := hXC.frozen 2
              have c3 := hXC.cell 3
              have f3 := hXC.frozen 3
              simp only [List.getElem?_toArray, List.getElem?_cons_zero, List.getElem?_cons_succ] at c0 c1 c2 c3
              have hBs := (Below.setCell (Below.setCell (Below.setCell (Below.setCell hB (p := ⟨gbx4, 0, none⟩) hXA (.int .i64 r0_.kind)) (p := ⟨gbx4, 1, none⟩) hXA (.int .i64 r0_.pos)) (p := ⟨gbx4, 2, none⟩) hXA (.int .i64 r0_.count)) (p := ⟨gbx4, 3, none⟩) hXA (.slice fa0_c_3 fn0_c_3 fc0_c_3))
              have hXs := (Bx.set_ (Bx.set_ (Bx.set_ (Bx.set_ hXC 0 (.int .i64 r0_.kind)) 1 (.int .i64 r0_.pos)) 2 (.int .i64 r0_.count)) 3 (.slice fa0_c_3 fn0_c_3 fc0_c_3))
              have hos3 := (own_set (own_set (own_set (own_set hoz0_3 (p := ⟨gbx4, 0, none⟩) (hNZ0_3) (.int .i64 r0_.kind)) (p := ⟨gbx4, 1, none⟩) (hNZ0_3) (.int .i64 r0_.pos)) (p := ⟨gbx4, 2, none⟩) (hNZ0_3) (.int .i64 r0_.count)) (p := ⟨gbx4, 3, none⟩) (hNZ0_3) (.slice fa0_c_3 fn0_c_3 fc0_c_3))
              go_simp
              refine hK.out _ _ (HK.out _ hBs) (fun hHeld => ?_)
              clear hK K
              clear hB hXC hoz0_3 c0 f0 c1 f1 c2 f2 c3 f3
              simp at hXs
              refine wpAnyH_take (i := 10) (v := ?v46) rfl (by kernel_rfl) (by kernel_rfl) (by kernel_rfl) (fun _ _ _ h => h) (Or.inl ⟨by rfl, ?hy46⟩) (by assumption) ?rest46
              case hy46 => (intro wq hSw; (try dsimp only at hSw); go_split_ands; go_simp; (try with_reducible rfl))
              case rest46 =>
              refine wpAnyH_done (by kernel_rfl) ?_ _
              go_wp2_with fail
              all_goals
                go_meet
                exact ⟨_, _, _, _, _, _, rfl, rfl, hans, Lib.hid hXs, ⟨_, rfl, hos3⟩, hBs⟩
            case more45 => exact AllReadyH.nil
          case more44 => exact AllReadyH.nil
        case more40 =>
          refine AllReadyH.cons rfl (fun K hK => ?step47) ?more47
          case step47 =>
            go_simp
            refine hK.out _ _ (HK.out _ (hB.alloc hB.size _)) (fun hHeld => ?_)
            clear hK K
            replace ho0 := ho0.kept ((Below.refl x2.heap.size x2).alloc (Nat.le_refl _) (Obj.cells #[.int .i64 0, .int .i64 0, .int .i64 0, .slice none 0 0] 38))
            replace ho1 := ho1.kept ((Below.refl x2.heap.size x2).alloc (Nat.le_refl _) (Obj.cells #[.int .i64 0, .int .i64 0, .int .i64 0, .slice none 0 0] 38))
            have hXC := Bx.new x2 38 #[.int .i64 0, .int .i64 0, .int .i64 0, .slice none 0 0]
            have hXA : w17_.heap.size ≤ x2.heap.size := hB.size
            replace hB := hB.alloc hB.size (Obj.cells #[.int .i64 0, .int .i64 0, .int .i64 0, .slice none 0 0] 38)
            generalize x2.alloc (Obj.cells #[.int .i64 0, .int .i64 0, .int .i64 0, .slice none 0 0] 38) = x5 at *
            generalize x2.heap.size = gbx5 at *
            have hXlt : gbx5 < x5.heap.size := hXC.lt
            refine wpAnyH_ready (rs := [4]) (by kernel_rfl) (by simp) ?_
            refine AllReadyH.cons rfl (fun K hK => ?step48) ?more48
            case step48 =>
              go_simp
              go_at_call 26
              refine (SecondaryChangeC.impl u0 z0 u1 z1 _ ho0.isQ HF0.out (by omega) ho1.isQ HF1.out (by omega)).mono ?_
              rintro e x6 ⟨v0_, r0_, r1_, rfl, hans, hoz0, hbc⟩
              replace ho0 := ho0.kept hbc
              replace ho1 := ho1.kept hbc
              replace hXC := hXC.kept hbc
              obtain ⟨sz3, rfl, hoz0_3⟩ := hoz0
              obtain ⟨fa0_c_3, fn0_c_3, fc0_c_3, rfl⟩ := own_slice hoz0_3
              have hNZ0_3 : ∀ k, (Value.slice fa0_c_3 fn0_c_3 fc0_c_3).ownBlock = some k → k ≠ gbx5 := fun k hk => by have h1 := (hoz0_3.lt k hk).1; have h2 := hXlt; omega
              replace hoz0_3 := hoz0_3.low hB.size
              clear hXlt
              replace hB := hB.trans (hbc.mono hB.size)
              clear hbc
              go_wp2_with fail
              refine hK.out _ _ (HK.out _ hB) (fun hHeld => ?_)
              clear hK K
              refine wpAnyH_take (i := 5) (v := ?v49) rfl (by kernel_rfl) (by kernel_rfl) (by kernel_rfl) (fun _ _ _ h => h) (Or.inl ⟨by rfl, ?hy49⟩) (by assumption) ?rest49
              case hy49 => (intro wq hSw; (try dsimp only at hSw); go_split_ands; go_simp; (try with_reducible rfl))
              case rest49 =>
              refine wpAnyH_take (i := 6) (v := ?v50) rfl (by kernel_rfl) (by kernel_rfl) (by kernel_rfl) (fun _ _ _ h => h) (Or.inl ⟨by rfl, ?hy50⟩) (by assumption) ?rest50
              case hy50 => (intro wq hSw; (try dsimp only at hSw); go_split_ands; go_simp; (try with_reducible rfl))
              case rest50 =>
              refine wpAnyH_take (i := 7) (v := ?v51) rfl (by kernel_rfl) (by kernel_rfl) (by kernel_rfl) (fun _ _ _ h => h) (Or.inl ⟨by rfl, ?hy51⟩) (by assumption) ?rest51
              case hy51 => (intro wq hSw; (try dsimp only at hSw); go_split_ands; go_simp; (try with_reducible rfl))
              case rest51 =>
              refine wpAnyH_ready (rs := [9]) (by kernel_rfl) (by simp) ?_
              refine AllReadyH.cons rfl (fun K hK => ?step52) ?more52
              case step52 =>
                have c0 := hXC.cell 0
                have f0 := hXC.frozen 0
                have c1 := hXC.cell 1
                have f1 := hXC.frozen 1
                have c2 := hXC.cell 2
                have f2 := hXC.frozen 2
                have c3 := hXC.cell 3
                have f3 := hXC.frozen 3
                simp only [List.getElem?_toArray, List.getElem?_cons_zero, List.getElem?_cons_succ] at c0 c1 c2 c3
                have hBs := (Below.setCell (Below.setCell (Below.setCell (Below.setCell hB (p := ⟨gbx5, 0, none⟩) hXA (.int .i64 r0_.kind)) (p := ⟨gbx5, 1, none⟩) hXA (.int .i64 r0_.pos)) (p := ⟨gbx5, 2, none⟩) hXA (.int .i64 r0_.count)) (p := ⟨gbx5, 3, none⟩) hXA (.slice fa0_c_3 fn0_c_3 fc0_c_3))
                have hXs := (Bx.set_ (Bx.set_ (Bx.set_ (Bx.set_ hXC 0 (.int .i64 r0_.kind)) 1 (.int .i64 r0_.pos)) 2 (.int .i64 r0_.count)) 3 (.slice fa0_c_3 fn0_c_3 fc0_c_3))
                have hos3 := (own_set (own_set (own_set (own_set hoz0_3 (p := ⟨gbx5, 0, none⟩) (hNZ0_3) (.int .i64 r0_.kind)) (p := ⟨gbx5, 1, none⟩) (hNZ0_3) (.int .i64 r0_.pos)) (p := ⟨gbx5, 2, none⟩) (hNZ0_3) (.int .i64 r0_.count)) (p := ⟨gbx5, 3, none⟩) (hNZ0_3) (.slice fa0_c_3 fn0_c_3 fc0_c_3))
                go_simp
                refine hK.out _ _ (HK.out _ hBs) (fun hHeld => ?_)
                clear hK K
                clear hB hXC hoz0_3 c0 f0 c1 f1 c2 f2 c3 f3
                simp at hXs
                refine wpAnyH_take (i := 10) (v := ?v53) rfl (by kernel_rfl) (by kernel_rfl) (by kernel_rfl) (fun _ _ _ h => h) (Or.inl ⟨by rfl, ?hy53⟩) (by assumption) ?rest53
                case hy53 => (intro wq hSw; (try dsimp only at hSw); go_split_ands; go_simp; (try with_reducible rfl))
                case rest53 =>
                refine wpAnyH_done (by kernel_rfl) ?_ _
                go_wp2_with fail
                all_goals
                  go_meet
                  exact ⟨_, _, _, _, _, _, rfl, rfl, hans, Lib.hid hXs, ⟨_, rfl, hos3⟩, hBs⟩
              case more52 => exact AllReadyH.nil
            case more48 => exact AllReadyH.nil
          case more47 => exact AllReadyH.nil
      case more39 =>
        refine AllReadyH.cons rfl (fun K hK => ?step54) ?more54
        case step54 =>
          go_simp
          refine hK.out _ _ (HK.out _ (hB.alloc hB.size _)) (fun hHeld => ?_)
          clear hK K
          replace ho0 := ho0.kept ((Below.refl x1.heap.size x1).alloc (Nat.le_refl _) (Obj.cells #[.int .i64 0, .int .i64 0, .int .i64 0, .slice none 0 0] 38))
          have hXC := Bx.new x1 38 #[.int .i64 0, .int .i64 0, .int .i64 0, .slice none 0 0]
          have hXA : w17_.heap.size ≤ x1.heap.size := hB.size
          replace hB := hB.alloc hB.size (Obj.cells #[.int .i64 0, .int .i64 0, .int .i64 0, .slice none 0 0] 38)
          generalize x1.alloc (Obj.cells #[.int .i64 0, .int .i64 0, .int .i64 0, .slice none 0 0] 38) = x7 at *
          generalize x1.heap.size = gbx7 at *
          have hXlt : gbx7 < x7.heap.size := hXC.lt
          refine wpAnyH_ready (rs := [3]) (by kernel_rfl) (by simp) ?_
          refine AllReadyH.cons rfl (fun K hK => ?step55) ?more55
          case step55 =>
            go_simp
            go_at_call 18
            refine (LAmendment.to _ z1 _ (HA1.out.kept hB).now (by omega)).mono ?_
            rintro e x8 ⟨u1, rfl, hn1, ho1, hbc⟩
            replace ho0 := ho0.kept hbc
            replace hXC := hXC.kept hbc
            replace hXlt := Nat.lt_of_lt_of_le hXlt hbc.size
            replace hB := hB.trans (hbc.mono hB.size)
            clear hbc
            go_wp2_with fail
            refine hK.out _ _ (HK.out _ hB) (fun hHeld => ?_)
            clear hK K
            refine wpAnyH_ready (rs := [4]) (by kernel_rfl) (by simp) ?_
            refine AllReadyH.cons rfl (fun K hK => ?step56) ?more56
            case step56 =>
              go_simp
              go_at_call 26
              refine (SecondaryChangeC.impl u0 z0 u1 z1 _ ho0.isQ HF0.out (by omega) ho1.isQ HF1.out (by omega)).mono ?_
              rintro e x9 ⟨v0_, r0_, r1_, rfl, hans, hoz0, hbc⟩
              replace ho0 := ho0.kept hbc
              replace hXC := hXC.kept hbc
              replace ho1 := ho1.kept hbc
              obtain ⟨sz3, rfl, hoz0_3⟩ := hoz0
              obtain ⟨fa0_c_3, fn0_c_3, fc0_c_3, rfl⟩ := own_slice hoz0_3
              have hNZ0_3 : ∀ k, (Value.slice fa0_c_3 fn0_c_3 fc0_c_3).ownBlock = some k → k ≠ gbx7 := fun k hk => by have h1 := (hoz0_3.lt k hk).1; have h2 := hXlt; omega
              replace hoz0_3 := hoz0_3.low hB.size
              clear hXlt
              replace hB := hB.trans (hbc.mono hB.size)
              clear hbc
              go_wp2_with fail
              refine hK.out _ _ (HK.out _ hB) (fun hHeld => ?_)
              clear hK K
              refine wpAnyH_take (i := 5) (v := ?v57) rfl (by kernel_rfl) (by kernel_rfl) (by kernel_rfl) (fun _ _ _ h => h) (Or.inl ⟨by rfl, ?hy57⟩) (by assumption) ?rest57
              case hy57 => (intro wq hSw; (try dsimp only at hSw); go_split_ands; go_simp; (try with_reducible rfl))
              case rest57 =>
              refine wpAnyH_take (i := 6) (v := ?v58) rfl (by kernel_rfl) (by kernel_rfl) (by kernel_rfl) (fun _ _ _ h => h) (Or.inl ⟨by rfl, ?hy58⟩) (by assumption) ?rest58
              case hy58 => (intro wq hSw; (try dsimp only at hSw); go_split_ands; go_simp; (try with_reducible rfl))
              case rest58 =>
              refine wpAnyH_take (i := 7) (v := ?v59) rfl (by kernel_rfl) (by kernel_rfl) (by kernel_rfl) (fun _ _ _ h => h) (Or.inl ⟨by rfl, ?hy59⟩) (by assumption) ?rest59
              case hy59 => (intro wq hSw; (try dsimp only at hSw); go_split_ands; go_simp; (try with_reducible rfl))
              case rest59 =>
              refine wpAnyH_ready (rs := [9]) (by kernel_rfl) (by simp) ?_
              refine AllReadyH.cons rfl (fun K hK => ?step60) ?more60
              case step60 =>
                have c0 := hXC.cell 0
                have f0 := hXC.frozen 0
                have c1 := hXC.cell 1
                have f1 := hXC.frozen 1
                have c2 := hXC.cell 2
                have f2 := hXC.frozen 2
                have c3 := hXC.cell 3
                have f3 := hXC.frozen 3
                simp only [List.getElem?_toArray, List.getElem?_cons_zero, List.getElem?_cons_succ] at c0 c1 c2 c3
                have hBs := (Below.setCell (Below.setCell (Below.setCell (Below.setCell hB (p := ⟨gbx7, 0, none⟩) hXA (.int .i64 r0_.kind)) (p := ⟨gbx7, 1, none⟩) hXA (.int .i64 r0_.pos)) (p := ⟨gbx7, 2, none⟩) hXA (.int .i64 r0_.count)) (p := ⟨gbx7, 3, none⟩) hXA (.slice fa0_c_3 fn0_c_3 fc0_c_3))
                have hXs := (Bx.set_ (Bx.set_ (Bx.set_ (Bx.set_ hXC 0 (.int .i64 r0_.kind)) 1 (.int .i64 r0_.pos)) 2 (.int .i64 r0_.count)) 3 (.slice fa0_c_3 fn0_c_3 fc0_c_3))
                have hos3 := (own_set (own_set (own_set (own_set hoz0_3 (p := ⟨gbx7, 0, none⟩) (hNZ0_3) (.int .i64 r0_.kind)) (p := ⟨gbx7, 1, none⟩) (hNZ0_3) (.int .i64 r0_.pos)) (p := ⟨gbx7, 2, none⟩) (hNZ0_3) (.int .i64 r0_.count)) (p := ⟨gbx7, 3, none⟩) (hNZ0_3) (.slice fa0_c_3 fn0_c_3 fc0_c_3))
                go_simp
                refine hK.out _ _ (HK.out _ hBs) (fun hHeld => ?_)
                clear hK K
                clear hB hXC hoz0_3 c0 f0 c1 f1 c2 f2 c3 f3
                simp at hXs
                refine wpAnyH_take (i := 10) (v := ?v61) rfl (by kernel_rfl) (by kernel_rfl) (by kernel_rfl) (fun _ _ _ h => h) (Or.inl ⟨by rfl, ?hy61⟩) (by assumption) ?rest61
                case hy61 => (intro wq hSw; (try dsimp only at hSw); go_split_ands; go_simp; (try with_reducible rfl))
                case rest61 =>
                refine wpAnyH_done (by kernel_rfl) ?_ _
                go_wp2_with fail
                all_goals
                  go_meet
                  exact ⟨_, _, _, _, _, _, rfl, rfl, hans, Lib.hid hXs, ⟨_, rfl, hos3⟩, hBs⟩
              case more60 => exact AllReadyH.nil
            case more56 => exact AllReadyH.nil
          case more55 => exact AllReadyH.nil
        case more54 => exact AllReadyH.nil
    case more38 =>
      refine AllReadyH.cons rfl (fun K hK => ?step62) ?more62
      case step62 =>
        go_simp
        refine hK.out _ _ (HK.out _ (hB.alloc hB.size _)) (fun hHeld => ?_)
        clear hK K
        have hXC := Bx.new x0 38 #[.int .i64 0, .int .i64 0, .int .i64 0, .slice none 0 0]
        have hXA : w17_.heap.size ≤ x0.heap.size := hB.size
        replace hB := hB.alloc hB.size (Obj.cells #[.int .i64 0, .int .i64 0, .int .i64 0, .slice none 0 0] 38)
        generalize x0.alloc (Obj.cells #[.int .i64 0, .int .i64 0, .int .i64 0, .slice none 0 0] 38) = x10 at *
        generalize x0.heap.size = gbx10 at *
        have hXlt : gbx10 < x10.heap.size := hXC.lt
        refine wpAnyH_ready (rs := [1]) (by kernel_rfl) (by simp) ?_
        refine AllReadyH.cons rfl (fun K hK => ?step63) ?more63
        case step63 =>
          go_simp
          go_at_call 18
          refine (LAmendment.to _ z0 _ (HA0.out.kept hB).now (by omega)).mono ?_
          rintro e x11 ⟨u0, rfl, hn0, ho0, hbc⟩
          replace hXC := hXC.kept hbc
          replace hXlt := Nat.lt_of_lt_of_le hXlt hbc.size
          replace hB := hB.trans (hbc.mono hB.size)
          clear hbc
          go_wp2_with fail
          refine hK.out _ _ (HK.out _ hB) (fun hHeld => ?_)
          clear hK K
          refine wpAnyH_ready (rs := [3]) (by kernel_rfl) (by simp) ?_
          refine AllReadyH.cons rfl (fun K hK => ?step64) ?more64
          case step64 =>
            go_simp
            go_at_call 18
            refine (LAmendment.to _ z1 _ (HA1.out.kept hB).now (by omega)).mono ?_
            rintro e x12 ⟨u1, rfl, hn1, ho1, hbc⟩
            replace hXC := hXC.kept hbc
            replace ho0 := ho0.kept hbc
            replace hXlt := Nat.lt_of_lt_of_le hXlt hbc.size
            replace hB := hB.trans (hbc.mono hB.size)
            clear hbc
            go_wp2_with fail
            refine hK.out _ _ (HK.out _ hB) (fun hHeld => ?_)
            clear hK K
            refine wpAnyH_ready (rs := [4]) (by kernel_rfl) (by simp) ?_
            refine AllReadyH.cons rfl (fun K hK => ?step65) ?more65
            case step65 =>
              go_simp
              go_at_call 26
              refine (SecondaryChangeC.impl u0 z0 u1 z1 _ ho0.isQ HF0.out (by omega) ho1.isQ HF1.out (by omega)).mono ?_
              rintro e x13 ⟨v0_, r0_, r1_, rfl, hans, hoz0, hbc⟩
              replace hXC := hXC.kept hbc
              replace ho0 := ho0.kept hbc
              replace ho1 := ho1.kept hbc
              obtain ⟨sz3, rfl, hoz0_3⟩ := hoz0
              obtain ⟨fa0_c_3, fn0_c_3, fc0_c_3, rfl⟩ := own_slice hoz0_3
              have hNZ0_3 : ∀ k, (Value.slice fa0_c_3 fn0_c_3 fc0_c_3).ownBlock = some k → k ≠ gbx10 := fun k hk => by have h1 := (hoz0_3.lt k hk).1; have h2 := hXlt; omega
              replace hoz0_3 := hoz0_3.low hB.size
              clear hXlt
              replace hB := hB.trans (hbc.mono hB.size)
              clear hbc
              go_wp2_with fail
              refine hK.out _ _ (HK.out _ hB) (fun hHeld => ?_)
              clear hK K
              refine wpAnyH_take (i := 5) (v := ?v66) rfl (by kernel_rfl) (by kernel_rfl) (by kernel_rfl) (fun _ _ _ h => h) (Or.inl ⟨by rfl, ?hy66⟩) (by assumption) ?rest66
              case hy66 => (intro wq hSw; (try dsimp only at hSw); go_split_ands; go_simp; (try with_reducible rfl))
              case rest66 =>
              refine wpAnyH_take (i := 6) (v := ?v67) rfl (by kernel_rfl) (by kernel_rfl) (by kernel_rfl) (fun _ _ _ h => h) (Or.inl ⟨by rfl, ?hy67⟩) (by assumption) ?rest67
              case hy67 => (intro wq hSw; (try dsimp only at hSw); go_split_ands; go_simp; (try with_reducible rfl))
              case rest67 =>
              refine wpAnyH_take (i := 7) (v := ?v68) rfl (by kernel_rfl) (by kernel_rfl) (by kernel_rfl) (fun _ _ _ h => h) (Or.inl ⟨by rfl, ?hy68⟩) (by assumption) ?rest68
              case hy68 => (intro wq hSw; (try dsimp only at hSw); go_split_ands; go_simp; (try with_reducible rfl))
              case rest68 =>
              refine wpAnyH_ready (rs := [9]) (by kernel_rfl) (by simp) ?_
              refine AllReadyH.cons rfl (fun K hK => ?step69) ?more69
              case step69 =>
                have c0 := hXC.cell 0
                have f0 := hXC.frozen 0
                have c1 := hXC.cell 1
                have f1 := hXC.frozen 1
                have c2 := hXC.cell 2
                have f2 := hXC.frozen 2
                have c3 := hXC.cell 3
                have f3 := hXC.frozen 3
                simp only [List.getElem?_toArray, List.getElem?_cons_zero, List.getElem?_cons_succ] at c0 c1 c2 c3
                have hBs := (Below.setCell (Below.setCell (Below.setCell (Below.setCell hB (p := ⟨gbx10, 0, none⟩) hXA (.int .i64 r0_.kind)) (p := ⟨gbx10, 1, none⟩) hXA (.int .i64 r0_.pos)) (p := ⟨gbx10, 2, none⟩) hXA (.int .i64 r0_.count)) (p := ⟨gbx10, 3, none⟩) hXA (.slice fa0_c_3 fn0_c_3 fc0_c_3))
                have hXs := (Bx.set_ (Bx.set_ (Bx.set_ (Bx.set_ hXC 0 (.int .i64 r0_.kind)) 1 (.int .i64 r0_.pos)) 2 (.int .i64 r0_.count)) 3 (.slice fa0_c_3 fn0_c_3 fc0_c_3))
                have hos3 := (own_set (own_set (own_set (own_set hoz0_3 (p := ⟨gbx10, 0, none⟩) (hNZ0_3) (.int .i64 r0_.kind)) (p := ⟨gbx10, 1, none⟩) (hNZ0_3) (.int .i64 r0_.pos)) (p := ⟨gbx10, 2, none⟩) (hNZ0_3) (.int .i64 r0_.count)) (p := ⟨gbx10, 3, none⟩) (hNZ0_3) (.slice fa0_c_3 fn0_c_3 fc0_c_3))
                go_simp
                refine hK.out _ _ (HK.out _ hBs) (fun hHeld => ?_)
                clear hK K
                clear hB hXC hoz0_3 c0 f0 c1 f1 c2 f2 c3 f3
                simp at hXs
                refine wpAnyH_take (i := 10) (v := ?v70) rfl (by kernel_rfl) (by kernel_rfl) (by kernel_rfl) (fun _ _ _ h => h) (Or.inl ⟨by rfl, ?hy70⟩) (by assumption) ?rest70
                case hy70 => (intro wq hSw; (try dsimp only at hSw); go_split_ands; go_simp; (try with_reducible rfl))
                case rest70 =>
                refine wpAnyH_done (by kernel_rfl) ?_ _
                go_wp2_with fail
                all_goals
                  go_meet
                  exact ⟨_, _, _, _, _, _, rfl, rfl, hans, Lib.hid hXs, ⟨_, rfl, hos3⟩, hBs⟩
              case more69 => exact AllReadyH.nil
            case more65 => exact AllReadyH.nil
          case more64 => exact AllReadyH.nil
        case more63 => exact AllReadyH.nil
      case more62 => exact AllReadyH.nil
  case rest =>
  obtain ⟨g0_18, fa0_18_3, fn0_18_3, fc0_18_3, r0_18, r1_18, rfl, rfl, hans, hbx0, ho0, hb1⟩ := hcut
  obtain ⟨w18_, hwc⟩ : ∃ x, x = wc := ⟨_, rfl⟩
  subst hwc
  obtain ⟨rfl, rfl⟩ := SecondaryChangeC.same HS.out hans
  clear hans
  have HR0_18 := Lib.hid ho0.loc
  clear ho0
  replace HA0 := Lib.hid (HA0.out.kept hb1)
  replace HA1 := Lib.hid (HA1.out.kept hb1)
  replace HX0 := Lib.hid (HX0.out.kept hb1)
  replace HX1 := Lib.hid (HX1.out.kept hb1)
  replace HR0_3 := Lib.hid (HR0_3.out.kept hb1)
  replace HXw0 := Lib.hid (HXw0.out.kept hb1)
  replace HC4 := Lib.hid (HC4.out.kept hb1)
  replace HXx0 := Lib.hid (HXx0.out.kept hb1)
  replace HC6 := Lib.hid (HC6.out.kept hb1)
  replace HXx1 := Lib.hid (HXx1.out.kept hb1)
  replace HR0_8 := Lib.hid (HR0_8.out.kept hb1)
  replace HXg0 := Lib.hid (HXg0.out.kept hb1)
  clear q0_0 q0_1 q0_2 q0_3
  have q0_0 := HX0.out.now.cell 0
  have q0_1 := HX0.out.now.cell 1
  have q0_2 := HX0.out.now.cell 2
  have q0_3 := HX0.out.now.cell 3
  simp only [List.getElem?_toArray, List.getElem?_cons_zero, List.getElem?_cons_succ] at q0_0 q0_1 q0_2 q0_3
  clear q1_0 q1_1 q1_2 q1_3
  have q1_0 := HX1.out.now.cell 0
  have q1_1 := HX1.out.now.cell 1
  have q1_2 := HX1.out.now.cell 2
  have q1_3 := HX1.out.now.cell 3
  simp only [List.getElem?_toArray, List.getElem?_cons_zero, List.getElem?_cons_succ] at q1_0 q1_1 q1_2 q1_3
  clear qw0_0 qw0_1 qw0_2 qw0_3
  have qw0_0 := HXw0.out.now.cell 0
  have qw0_1 := HXw0.out.now.cell 1
  have qw0_2 := HXw0.out.now.cell 2
  have qw0_3 := HXw0.out.now.cell 3
  simp only [List.getElem?_toArray, List.getElem?_cons_zero, List.getElem?_cons_succ] at qw0_0 qw0_1 qw0_2 qw0_3
  clear qx0_0 qx0_1 qx0_2 qx0_3
  have qx0_0 := HXx0.out.now.cell 0
  have qx0_1 := HXx0.out.now.cell 1
  have qx0_2 := HXx0.out.now.cell 2
  have qx0_3 := HXx0.out.now.cell 3
  simp only [List.getElem?_toArray, List.getElem?_cons_zero, List.getElem?_cons_succ] at qx0_0 qx0_1 qx0_2 qx0_3
  clear qx1_0 qx1_1 qx1_2 qx1_3
  have qx1_0 := HXx1.out.now.cell 0
  have qx1_1 := HXx1.out.now.cell 1
  have qx1_2 := HXx1.out.now.cell 2
  have qx1_3 := HXx1.out.now.cell 3
  simp only [List.getElem?_toArray, List.getElem?_cons_zero, List.getElem?_cons_succ] at qx1_0 qx1_1 qx1_2 qx1_3
  clear qg0_0 qg0_1 qg0_2 qg0_3
  have qg0_0 := HXg0.out.now.cell 0
  have qg0_1 := HXg0.out.now.cell 1
  have qg0_2 := HXg0.out.now.cell 2
  have qg0_3 := HXg0.out.now.cell 3
  simp only [List.getElem?_toArray, List.getElem?_cons_zero, List.getElem?_cons_succ] at qg0_0 qg0_1 qg0_2 qg0_3
  have HZ18 := Lib.hid hb1.size
  replace hb := hb.trans (hb1.mono hb.size)
  clear hb1
  have HZg0_18 := Lib.hid hbx0.out.lt
  have HXh0 := Lib.hid (Bx.loc hbx0.out)
  clear hbx0
  have qh0_0 := HXh0.out.now.cell 0
  have qh0_1 := HXh0.out.now.cell 1
  have qh0_2 := HXh0.out.now.cell 2
  have qh0_3 := HXh0.out.now.cell 3
  simp only [List.getElem?_toArray, List.getElem?_cons_zero, List.getElem?_cons_succ] at qh0_0 qh0_1 qh0_2 qh0_3
  go_wp2_with fail
  refine (LAmendment.eq _ _ r0_3 _ HR0_18.out.now.1.is HR0_3.out.now.1.is).mono ?_
  rintro e w19_ ⟨rfl, hb1⟩
  replace HA0 := Lib.hid (HA0.out.kept hb1)
  replace HA1 := Lib.hid (HA1.out.kept hb1)
  replace HX0 := Lib.hid (HX0.out.kept hb1)
  replace HX1 := Lib.hid (HX1.out.kept hb1)
  replace HR0_3 := Lib.hid (HR0_3.out.kept hb1)
  replace HXw0 := Lib.hid (HXw0.out.kept hb1)
  replace HC4 := Lib.hid (HC4.out.kept hb1)
  replace HXx0 := Lib.hid (HXx0.out.kept hb1)
  replace HC6 := Lib.hid (HC6.out.kept hb1)
  replace HXx1 := Lib.hid (HXx1.out.kept hb1)
  replace HR0_8 := Lib.hid (HR0_8.out.kept hb1)
  replace HXg0 := Lib.hid (HXg0.out.kept hb1)
  replace HR0_18 := Lib.hid (HR0_18.out.kept hb1)
  replace HXh0 := Lib.hid (HXh0.out.kept hb1)
  clear q0_0 q0_1 q0_2 q0_3
  have q0_0 := HX0.out.now.cell 0
  have q0_1 := HX0.out.now.cell 1
  have q0_2 := HX0.out.now.cell 2
  have q0_3 := HX0.out.now.cell 3
  simp only [List.getElem?_toArray, List.getElem?_cons_zero, List.getElem?_cons_succ] at q0_0 q0_1 q0_2 q0_3
  clear q1_0 q1_1 q1_2 q1_3
  have q1_0 := HX1.out.now.cell 0
  have q1_1 := HX1.out.now.cell 1
  have q1_2 := HX1.out.now.cell 2
  have q1_3 := HX1.out.now.cell 3
  simp only [List.getElem?_toArray, List.getElem?_cons_zero, List.getElem?_cons_succ] at q1_0 q1_1 q1_2 q1_3
  clear qw0_0 qw0_1 qw0_2 qw0_3
  have qw0_0 := HXw0.out.now.cell 0
  have qw0_1 := HXw0.out.now.cell 1
  have qw0_2 := HXw0.out.now.cell 2
  have qw0_3 := HXw0.out.now.cell 3
  simp only [List.getElem?_toArray, List.getElem?_cons_zero, List.getElem?_cons_succ] at qw0_0 qw0_1 qw0_2 qw0_3
  clear qx0_0 qx0_1 qx0_2 qx0_3
  have qx0_0 := HXx0.out.now.cell 0
  have qx0_1 := HXx0.out.now.cell 1
  have qx0_2 := HXx0.out.now.cell 2
  have qx0_3 := HXx0.out.now.cell 3
  simp only [List.getElem?_toArray, List.getElem?_cons_zero, List.getElem?_cons_succ] at qx0_0 qx0_1 qx0_2 qx0_3
  clear qx1_0 qx1_1 qx1_2 qx1_3
  have qx1_0 := HXx1.out.now.cell 0
  have qx1_1 := HXx1.out.now.cell 1
  have qx1_2 := HXx1.out.now.cell 2
  have qx1_3 := HXx1.out.now.cell 3
  simp only [List.getElem?_toArray, List.getElem?_cons_zero, List.getElem?_cons_succ] at qx1_0 qx1_1 qx1_2 qx1_3
  clear qg0_0 qg0_1 qg0_2 qg0_3
  have qg0_0 := HXg0.out.now.cell 0
  have qg0_1 := HXg0.out.now.cell 1
  have qg0_2 := HXg0.out.now.cell 2
  have qg0_3 := HXg0.out.now.cell 3
  simp only [List.getElem?_toArray, List.getElem?_cons_zero, List.getElem?_cons_succ] at qg0_0 qg0_1 qg0_2 qg0_3
  clear qh0_0 qh0_1 qh0_2 qh0_3
  have qh0_0 := HXh0.out.now.cell 0
  have qh0_1 := HXh0.out.now.cell 1
  have qh0_2 := HXh0.out.now.cell 2
  have qh0_3 := HXh0.out.now.cell 3
  simp only [List.getElem?_toArray, List.getElem?_cons_zero, List.getElem?_cons_succ] at qh0_0 qh0_1 qh0_2 qh0_3
  have HZ19 := Lib.hid hb1.size
  replace hb := hb.trans (hb1.mono hb.size)
  clear hb1
  go_wp2_with fail
  refine (LAmendment.held _ 1 _ r0_3 _ (by omega) (by omega) HR0_8.out.now.1).mono ?_
  rintro e w20_ ⟨rfl, hb1⟩
  replace HA0 := Lib.hid (HA0.out.kept hb1)
  replace HA1 := Lib.hid (HA1.out.kept hb1)
  replace HX0 := Lib.hid (HX0.out.kept hb1)
  replace HX1 := Lib.hid (HX1.out.kept hb1)
  replace HR0_3 := Lib.hid (HR0_3.out.kept hb1)
  replace HXw0 := Lib.hid (HXw0.out.kept hb1)
  replace HC4 := Lib.hid (HC4.out.kept hb1)
  replace HXx0 := Lib.hid (HXx0.out.kept hb1)
  replace HC6 := Lib.hid (HC6.out.kept hb1)
  replace HXx1 := Lib.hid (HXx1.out.kept hb1)
  replace HR0_8 := Lib.hid (HR0_8.out.kept hb1)
  replace HXg0 := Lib.hid (HXg0.out.kept hb1)
  replace HR0_18 := Lib.hid (HR0_18.out.kept hb1)
  replace HXh0 := Lib.hid (HXh0.out.kept hb1)
  clear q0_0 q0_1 q0_2 q0_3
  have q0_0 := HX0.out.now.cell 0
  have q0_1 := HX0.out.now.cell 1
  have q0_2 := HX0.out.now.cell 2
  have q0_3 := HX0.out.now.cell 3
  simp only [List.getElem?_toArray, List.getElem?_cons_zero, List.getElem?_cons_succ] at q0_0 q0_1 q0_2 q0_3
  clear q1_0 q1_1 q1_2 q1_3
  have q1_0 := HX1.out.now.cell 0
  have q1_1 := HX1.out.now.cell 1
  have q1_2 := HX1.out.now.cell 2
  have q1_3 := HX1.out.now.cell 3
  simp only [List.getElem?_toArray, List.getElem?_cons_zero, List.getElem?_cons_succ] at q1_0 q1_1 q1_2 q1_3
  clear qw0_0 qw0_1 qw0_2 qw0_3
  have qw0_0 := HXw0.out.now.cell 0
  have qw0_1 := HXw0.out.now.cell 1
  have qw0_2 := HXw0.out.now.cell 2
  have qw0_3 := HXw0.out.now.cell 3
  simp only [List.getElem?_toArray, List.getElem?_cons_zero, List.getElem?_cons_succ] at qw0_0 qw0_1 qw0_2 qw0_3
  clear qx0_0 qx0_1 qx0_2 qx0_3
  have qx0_0 := HXx0.out.now.cell 0
  have qx0_1 := HXx0.out.now.cell 1
  have qx0_2 := HXx0.out.now.cell 2
  have qx0_3 := HXx0.out.now.cell 3
  simp only [List.getElem?_toArray, List.getElem?_cons_zero, List.getElem?_cons_succ] at qx0_0 qx0_1 qx0_2 qx0_3
  clear qx1_0 qx1_1 qx1_2 qx1_3
  have qx1_0 := HXx1.out.now.cell 0
  have qx1_1 := HXx1.out.now.cell 1
  have qx1_2 := HXx1.out.now.cell 2
  have qx1_3 := HXx1.out.now.cell 3
  simp only [List.getElem?_toArray, List.getElem?_cons_zero, List.getElem?_cons_succ] at qx1_0 qx1_1 qx1_2 qx1_3
  clear qg0_0 qg0_1 qg0_2 qg0_3
  have qg0_0 := HXg0.out.now.cell 0
  have qg0_1 := HXg0.out.now.cell 1
  have qg0_2 := HXg0.out.now.cell 2
  have qg0_3 := HXg0.out.now.cell 3
  simp only [List.getElem?_toArray, List.getElem?_cons_zero, List.getElem?_cons_succ] at qg0_0 qg0_1 qg0_2 qg0_3
  clear qh0_0 qh0_1 qh0_2 qh0_3
  have qh0_0 := HXh0.out.now.cell 0
  have qh0_1 := HXh0.out.now.cell 1
  have qh0_2 := HXh0.out.now.cell 2
  have qh0_3 := HXh0.out.now.cell 3
  simp only [List.getElem?_toArray, List.getElem?_cons_zero, List.getElem?_cons_succ] at qh0_0 qh0_1 qh0_2 qh0_3
  have HZ20 := Lib.hid hb1.size
  replace hb := hb.trans (hb1.mono hb.size)
  clear hb1
  go_wp2_with fail
  go_ret
  exact ⟨rfl, hb⟩
end Go.Proofs.Ytclpdpfnlmfogaa.fnExactSecondaryChange
