/- The comparison that ApplyTogether sorts by. No condition. -/
import Derived.Test.YtclpdpfnlmfogaaDoorLPropHD
import Derived.Test.YtclpdpfnlmfogaaDoorCfW
import Derived.Test.YtclpdpfnlmfogaaDoorJ1
import Derived.BigQuiet
namespace Go.Proofs.YtclpdpfnlmfogaaDoor.LPropHCmpTog
open Go Go.RowKit Bs CfH CfW
set_option linter.unusedVariables false
def cf (X Y : LPropH.R) : Int := orI [CmpI.cmpI Y.pos X.pos, CmpI.cmpI Y.count X.count]
theorem is2 {w : World} {g : Nat} {a b : Int} (h : w.heap[g]? = some (.cells #[.int .i64 a, .int .i64 b] 3 (0, 0))) : Is LInt.rec w (.slice (some ⟨g, 0, none⟩) 2 2) [a, b] := by
  have hlt := (Array.getElem?_eq_some_iff.1 h).1
  refine ⟨_, 2, rfl, Nat.le_refl _, by unfold maxLen; omega, .inr ⟨g, 0, rfl, hlt, fun j r hr => ?_⟩⟩
  have hj : j < 2 := (List.getElem?_eq_some_iff.1 hr).1
  refine LInt.at_of ?_
  rw [cell_of_row w g (0 + j * LInt.rec.n) _ 3 (0, 0) h]
  match j, hj, hr with
  | 0, _, hr => simp at hr; subst hr; rfl
  | 1, _, hr => simp at hr; subst hr; rfl
set_option maxRecDepth 100000 in
set_option maxHeartbeats 1600000 in
theorem closure (X Y : LPropH.R) (w : World) :
    Calls Tryd.prog 66 #[.agg #[.int .i64 X.id, .int .i64 X.kind, .int .i64 X.pos, .int .i64 X.count, .slice X.s.a X.s.l X.s.c, .int .i64 X.weight], .agg #[.int .i64 Y.id, .int .i64 Y.kind, .int .i64 Y.pos, .int .i64 Y.count, .slice Y.s.a Y.s.l Y.s.c, .int .i64 Y.weight]] w fun e w' => e = .returned (.int .i64 (cf X Y)) ∧ Below w.heap.size w w' := by
  obtain ⟨X0, X1, X2, X3, ⟨X4, X5, X6⟩, X7⟩ := X
  obtain ⟨Y0, Y1, Y2, Y3, ⟨Y4, Y5, Y6⟩, Y7⟩ := Y
  dsimp only
  go_enter Tryd.func66, Tryd.ntmps66
  go_upto_region 1 with fail
  obtain ⟨w1, hw1⟩ : ∃ w1 : World, w1 = w.alloc (Obj.cells #[.int .i64 X0, .int .i64 X1, .int .i64 X2, .int .i64 X3, .slice X4 X5 X6, .int .i64 X7] 42) := ⟨_, rfl⟩
  obtain ⟨w2, hw2⟩ : ∃ w2 : World, w2 = w1.alloc (Obj.cells #[.int .i64 Y0, .int .i64 Y1, .int .i64 Y2, .int .i64 Y3, .slice Y4 Y5 Y6, .int .i64 Y7] 42) := ⟨_, rfl⟩
  have BX : Bx w2 w.heap.size 42 #[.int .i64 X0, .int .i64 X1, .int .i64 X2, .int .i64 X3, .slice X4 X5 X6, .int .i64 X7] := by rw [hw2, hw1]; exact (Bx.new w _ _).alloc _
  have BY : Bx w2 w1.heap.size 42 #[.int .i64 Y0, .int .i64 Y1, .int .i64 Y2, .int .i64 Y3, .slice Y4 Y5 Y6, .int .i64 Y7] := by rw [hw2]; exact Bx.new w1 _ _
  have hb : Below w.heap.size w w2 := by rw [hw2, hw1]; exact ((Below.refl _ _).alloc (Nat.le_refl _) _).alloc (by simp) _
  have hs1 : w1.heap.size = w.heap.size + 1 := by rw [hw1]; simp
  rw [hs1] at BY
  rw [← hw1, ← hw2]
  clear hw1 hw2 hs1
  have HK := Lib.hid (show ∀ w' : World, Below w2.heap.size w2 w' → Below w2.heap.size w2 w' ∧ w'.cell? ⟨w.heap.size, 2, none⟩ = some (.int .i64 X2) ∧ w'.cell? ⟨w.heap.size, 3, none⟩ = some (.int .i64 X3) ∧ w'.cell? ⟨w.heap.size + 1, 2, none⟩ = some (.int .i64 Y2) ∧ w'.cell? ⟨w.heap.size + 1, 3, none⟩ = some (.int .i64 Y3) from fun w' h => ⟨h, by rw [(BX.kept h).cell]; rfl, by rw [(BX.kept h).cell]; rfl, by rw [(BY.kept h).cell]; rfl, by rw [(BY.kept h).cell]; rfl⟩)
  have hB : Below w2.heap.size w2 w2.drew := (Below.refl _ _).drew
  refine wp_region_held_drew (S := fun w' => Below w2.heap.size w2 w' ∧ w'.cell? ⟨w.heap.size, 2, none⟩ = some (.int .i64 X2) ∧ w'.cell? ⟨w.heap.size, 3, none⟩ = some (.int .i64 X3) ∧ w'.cell? ⟨w.heap.size + 1, 2, none⟩ = some (.int .i64 Y2) ∧ w'.cell? ⟨w.heap.size + 1, 3, none⟩ = some (.int .i64 Y3)) (by kernel_rfl) (HK.out _ hB) (fun hHeld => ?_)
  generalize w2.drew = x0 at *
  refine wpAnyH_take (i := 0) (v := ?v1) rfl (by kernel_rfl) (by kernel_rfl) (by kernel_rfl) (fun _ _ _ h => h) (Or.inl ⟨by rfl, ?hy1⟩) (by assumption) ?rest1
  case hy1 => (intro wq hSw; (try dsimp only at hSw); go_split_ands; go_simp; (try with_reducible rfl))
  case rest1 =>
  refine wpAnyH_take (i := 1) (v := ?v2) rfl (by kernel_rfl) (by kernel_rfl) (by kernel_rfl) (fun _ _ _ h => h) (Or.inl ⟨by rfl, ?hy2⟩) (by assumption) ?rest2
  case hy2 => (intro wq hSw; (try dsimp only at hSw); go_split_ands; go_simp; (try with_reducible rfl))
  case rest2 =>
  refine wpAnyH_take (i := 2) (v := ?v3) rfl (by kernel_rfl) (by kernel_rfl) (by kernel_rfl) (fun _ _ _ h => h) (Or.inl ⟨by rfl, ?hy3⟩) (by assumption) ?rest3
  case hy3 => (intro wq hSw; (try dsimp only at hSw); go_split_ands; go_simp; (try with_reducible rfl))
  case rest3 =>
  refine wpAnyH_take (i := 3) (v := ?v4) rfl (by kernel_rfl) (by kernel_rfl) (by kernel_rfl) (fun _ _ _ h => h) (Or.inl ⟨by rfl, ?hy4⟩) (by assumption) ?rest4
  case hy4 => (intro wq hSw; (try dsimp only at hSw); go_split_ands; go_simp; (try with_reducible rfl))
  case rest4 =>
  refine wpAnyH_take (i := 4) (v := ?v5) rfl (by kernel_rfl) (by kernel_rfl) (by kernel_rfl) (fun _ _ _ h => h) (Or.inl ⟨by rfl, ?hy5⟩) (by assumption) ?rest5
  case hy5 => (intro wq hSw; (try dsimp only at hSw); go_split_ands; go_simp; (try with_reducible rfl))
  case rest5 =>
  refine wpAnyH_take (i := 5) (v := ?v6) rfl (by kernel_rfl) (by kernel_rfl) (by kernel_rfl) (fun _ _ _ h => h) (Or.inl ⟨by rfl, ?hy6⟩) (by assumption) ?rest6
  case hy6 => (intro wq hSw; (try dsimp only at hSw); go_split_ands; go_simp; (try with_reducible rfl))
  case rest6 =>
  refine wpAnyH_take (i := 7) (v := ?v7) rfl (by kernel_rfl) (by kernel_rfl) (by kernel_rfl) (fun _ _ _ h => h) (Or.inl ⟨by rfl, ?hy7⟩) (by assumption) ?rest7
  case hy7 => (intro wq hSw; (try dsimp only at hSw); go_split_ands; go_simp; (try with_reducible rfl))
  case rest7 =>
  refine wpAnyH_take (i := 8) (v := ?v8) rfl (by kernel_rfl) (by kernel_rfl) (by kernel_rfl) (fun _ _ _ h => h) (Or.inl ⟨by rfl, ?hy8⟩) (by assumption) ?rest8
  case hy8 => (intro wq hSw; (try dsimp only at hSw); go_split_ands; go_simp; (try with_reducible rfl))
  case rest8 =>
  refine wpAnyH_take (i := 9) (v := ?v9) rfl (by kernel_rfl) (by kernel_rfl) (by kernel_rfl) (fun _ _ _ h => h) (Or.inl ⟨by rfl, ?hy9⟩) (by assumption) ?rest9
  case hy9 => (intro wq hSw; (try dsimp only at hSw); go_split_ands; go_simp; (try with_reducible rfl))
  case rest9 =>
  refine wpAnyH_take (i := 10) (v := ?v10) rfl (by kernel_rfl) (by kernel_rfl) (by kernel_rfl) (fun _ _ _ h => h) (Or.inl ⟨by rfl, ?hy10⟩) (by assumption) ?rest10
  case hy10 => (intro wq hSw; (try dsimp only at hSw); go_split_ands; go_simp; (try with_reducible rfl))
  case rest10 =>
  refine wpAnyH_take (i := 11) (v := ?v11) rfl (by kernel_rfl) (by kernel_rfl) (by kernel_rfl) (fun _ _ _ h => h) (Or.inl ⟨by rfl, ?hy11⟩) (by assumption) ?rest11
  case hy11 => (intro wq hSw; (try dsimp only at hSw); go_split_ands; go_simp; (try with_reducible rfl))
  case rest11 =>
  refine wpAnyH_take (i := 12) (v := ?v12) rfl (by kernel_rfl) (by kernel_rfl) (by kernel_rfl) (fun _ _ _ h => h) (Or.inl ⟨by rfl, ?hy12⟩) (by assumption) ?rest12
  case hy12 => (intro wq hSw; (try dsimp only at hSw); go_split_ands; go_simp; (try with_reducible rfl))
  case rest12 =>
  refine wpAnyH_ready (rs := [6]) (by kernel_rfl) (by simp) ?_
  refine AllReadyH.cons rfl (fun K hK => ?step13) ?more13
  case step13 =>
    go_simp
    go_at_call 68
    refine (CmpI.compare Y2 X2 _).mono ?_
    rintro e _ ⟨rfl, rfl⟩
    go_wp2_with fail
    refine hK.out _ _ (HK.out _ hB) (fun hHeld => ?_)
    clear hK K
    refine wpAnyH_ready (rs := [13]) (by kernel_rfl) (by simp) ?_
    refine AllReadyH.cons rfl (fun K hK => ?step14) ?more14
    case step14 =>
      go_simp
      go_at_call 68
      refine (CmpI.compare Y3 X3 _).mono ?_
      rintro e _ ⟨rfl, rfl⟩
      go_wp2_with fail
      refine hK.out _ _ (HK.out _ hB) (fun hHeld => ?_)
      clear hK K
      refine wpAnyH_ready (rs := [14]) (by kernel_rfl) (by simp) ?_
      refine AllReadyH.cons rfl (fun K hK => ?step15) ?more15
      case step15 =>
        go_simp
        refine hK.out _ _ (HK.out _ (hB.alloc hB.size _)) (fun hHeld => ?_)
        clear hK K
        have hXL := Bx.new x0 3 #[.int .i64 (CmpI.cmpI Y2 X2), .int .i64 (CmpI.cmpI Y3 X3)]
        have hXAL : w2.heap.size ≤ x0.heap.size := hB.size
        replace hB := hB.alloc hB.size (Obj.cells #[.int .i64 (CmpI.cmpI Y2 X2), .int .i64 (CmpI.cmpI Y3 X3)] 3)
        generalize x0.alloc (Obj.cells #[.int .i64 (CmpI.cmpI Y2 X2), .int .i64 (CmpI.cmpI Y3 X3)] 3) = x1 at *
        generalize x0.heap.size = gLx1 at *
        refine wpAnyH_ready (rs := [15]) (by kernel_rfl) (by simp) ?_
        refine AllReadyH.cons rfl (fun K hK => ?step16) ?more16
        case step16 =>
          go_simp
          go_at_call 67
          refine (orL _ [CmpI.cmpI Y2 X2, CmpI.cmpI Y3 X3] _ (is2 hXL)).mono ?_
          rintro e _ ⟨rfl, rfl⟩
          go_wp2_with fail
          refine hK.out _ _ (HK.out _ hB) (fun hHeld => ?_)
          clear hK K
          refine wpAnyH_take (i := 16) (v := ?v17) rfl (by kernel_rfl) (by kernel_rfl) (by kernel_rfl) (fun _ _ _ h => h) (Or.inl ⟨by rfl, ?hy17⟩) (by assumption) ?rest17
          case hy17 => (intro wq hSw; (try dsimp only at hSw); go_split_ands; go_simp; (try with_reducible rfl))
          case rest17 =>
          refine wpAnyH_done (by kernel_rfl) ?_ _
          go_wp2_with fail
          all_goals
            go_ret
            exact ⟨rfl, hb.trans (hB.mono hb.size)⟩
        case more16 => exact AllReadyH.nil
      case more15 => exact AllReadyH.nil
    case more14 => exact AllReadyH.nil
  case more13 => exact AllReadyH.nil
end Go.Proofs.YtclpdpfnlmfogaaDoor.LPropHCmpTog
