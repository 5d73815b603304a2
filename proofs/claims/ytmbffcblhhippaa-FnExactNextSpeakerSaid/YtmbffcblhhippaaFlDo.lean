/- Floors: the comparison by finished turns. No condition. -/
import Derived.Test.YtmbffcblhhippaaFlD
import Derived.Test.YtmbffcblhhippaaFlW
namespace Go.Proofs.Ytmbffcblhhippaa.FlD
open Go.RowKit Bs Word Sq IntF Fl FlA FlG FlO FlB FlP FlQ
set_option linter.unusedVariables false
set_option maxRecDepth 100000 in
set_option maxHeartbeats 1600000 in
theorem orderBy (r : F) (G : Nat) (a3 : Option Addr) (n3 c3 : Nat) (a4 : Option Addr) (n4 c4 : Nat) (x y : Int) (w : World) (h0 : LFloor.Is w (.agg #[.int .i64 r.turns, .int .i64 r.seconds, .int .i64 r.speaking, .slice a3 n3 c3, .slice a4 n4 c4]) r) (hs : ShP r) (hG : Bx w G 29 #[.int .i64 r.turns, .int .i64 r.seconds, .int .i64 r.speaking, .slice a3 n3 c3, .slice a4 n4 c4]) :
    Calls Try.prog 57 #[.int .i64 x, .int .i64 y, .pointer (some ⟨G, 0, none⟩)] w fun e w' => e = .returned (.int .i64 (CmpI.cmpI (FlW.key r x) (FlW.key r y))) ∧ Below w.heap.size w w' := by
  have HSH := Lib.hid (show ∀ (m : Int) (w' : World), Below w.heap.size w w' → _ from fun m w' hB => shareOf _ r m w' (LFloor.Is.below h0 hB) hs)
  have hfd := fun m W => field_turns (share r.shares m) W
  have HK := Lib.hid (show ∀ w' : World, Below w.heap.size w w' → Below w.heap.size w w' ∧ w'.cell? ⟨G, 0, none⟩ = some (.int .i64 r.turns) ∧ w'.cell? ⟨G, 1, none⟩ = some (.int .i64 r.seconds) ∧ w'.cell? ⟨G, 2, none⟩ = some (.int .i64 r.speaking) ∧ w'.cell? ⟨G, 3, none⟩ = some (.slice a3 n3 c3) ∧ w'.cell? ⟨G, 4, none⟩ = some (.slice a4 n4 c4) from fun w' hb => ⟨hb, by rw [(hG.kept hb).cell 0, (hG.kept hb).cell 1, (hG.kept hb).cell 2, (hG.kept hb).cell 3, (hG.kept hb).cell 4]; exact ⟨rfl, rfl, rfl, rfl, rfl⟩⟩)
  unfold FlW.key
  clear h0 hs hG
  go_enter Try.func57, Try.ntmps57
  go_upto_region 1 with fail
  have hB : Below w.heap.size w w.drew := (Below.refl _ _).drew
  refine wp_region_held_drew (S := fun w' => Below w.heap.size w w' ∧ w'.cell? ⟨G, 0, none⟩ = some (.int .i64 r.turns) ∧ w'.cell? ⟨G, 1, none⟩ = some (.int .i64 r.seconds) ∧ w'.cell? ⟨G, 2, none⟩ = some (.int .i64 r.speaking) ∧ w'.cell? ⟨G, 3, none⟩ = some (.slice a3 n3 c3) ∧ w'.cell? ⟨G, 4, none⟩ = some (.slice a4 n4 c4)) (by kernel_rfl) (HK.out _ hB) (fun hHeld => ?_)
  generalize w.drew = x0 at *
  refine wpAnyH_take (i := 0) (v := ?v1) rfl (by kernel_rfl) (by kernel_rfl) (by kernel_rfl) (fun _ _ _ h => h) (Or.inl ⟨by rfl, ?hy1⟩) (by assumption) ?rest1
  case hy1 => (intro wq hSw; (try dsimp only at hSw); go_split_ands; go_simp; (try with_reducible rfl))
  case rest1 =>
  refine wpAnyH_take (i := 1) (v := ?v2) rfl (by kernel_rfl) (by kernel_rfl) (by kernel_rfl) (fun _ _ _ h => h) (Or.inl ⟨by rfl, ?hy2⟩) (by assumption) ?rest2
  case hy2 => (intro wq hSw; (try dsimp only at hSw); go_split_ands; go_simp; (try with_reducible rfl))
  case rest2 =>
  refine wpAnyH_take (i := 4) (v := ?v3) rfl (by kernel_rfl) (by kernel_rfl) (by kernel_rfl) (fun _ _ _ h => h) (Or.inl ⟨by rfl, ?hy3⟩) (by assumption) ?rest3
  case hy3 => (intro wq hSw; (try dsimp only at hSw); go_split_ands; go_simp; (try with_reducible rfl))
  case rest3 =>
  refine wpAnyH_take (i := 5) (v := ?v4) rfl (by kernel_rfl) (by kernel_rfl) (by kernel_rfl) (fun _ _ _ h => h) (Or.inl ⟨by rfl, ?hy4⟩) (by assumption) ?rest4
  case hy4 => (intro wq hSw; (try dsimp only at hSw); go_split_ands; go_simp; (try with_reducible rfl))
  case rest4 =>
  refine wpAnyH_ready (rs := [2]) (by kernel_rfl) (by simp) ?_
  refine AllReadyH.cons rfl (fun K hK => ?step5) ?more5
  case step5 =>
    go_simp
    go_at_call 52
    refine (HSH.out x _ hB).mono ?_
    rintro e x1 ⟨rfl, hbc⟩
    replace hB := hB.trans (hbc.mono hB.size)
    clear hbc
    go_wp2_with fail
    refine hK.out _ _ (HK.out _ hB) (fun hHeld => ?_)
    clear hK K
    refine wpAnyH_take (i := 3) (v := ?v6) rfl (by kernel_rfl) (by kernel_rfl) (by kernel_rfl) (fun _ _ _ h => h) (Or.inl ⟨by rfl, ?hy6⟩) (by assumption) ?rest6
    case hy6 => (intro wq hSw; (try dsimp only at hSw); go_split_ands; go_simp; (try with_reducible rfl))
    case rest6 =>
    refine wpAnyH_ready (rs := [6]) (by kernel_rfl) (by simp) ?_
    refine AllReadyH.cons rfl (fun K hK => ?step7) ?more7
    case step7 =>
      go_simp
      go_at_call 52
      refine (HSH.out y _ hB).mono ?_
      rintro e x2 ⟨rfl, hbc⟩
      replace hB := hB.trans (hbc.mono hB.size)
      clear hbc
      go_wp2_with fail
      refine hK.out _ _ (HK.out _ hB) (fun hHeld => ?_)
      clear hK K
      refine wpAnyH_take (i := 7) (v := ?v8) rfl (by kernel_rfl) (by kernel_rfl) (by kernel_rfl) (fun _ _ _ h => h) (Or.inl ⟨by rfl, ?hy8⟩) (by assumption) ?rest8
      case hy8 => (intro wq hSw; (try dsimp only at hSw); go_split_ands; go_simp; (try with_reducible rfl))
      case rest8 =>
      refine wpAnyH_ready (rs := [8]) (by kernel_rfl) (by simp) ?_
      refine AllReadyH.cons rfl (fun K hK => ?step9) ?more9
      case step9 =>
        go_simp
        go_at_call 58
        refine (CmpI.compare _ _ _).mono ?_
        rintro e x3 ⟨rfl, rfl⟩
        go_wp2_with fail
        refine hK.out _ _ (HK.out _ hB) (fun hHeld => ?_)
        clear hK K
        refine wpAnyH_take (i := 9) (v := ?v10) rfl (by kernel_rfl) (by kernel_rfl) (by kernel_rfl) (fun _ _ _ h => h) (Or.inl ⟨by rfl, ?hy10⟩) (by assumption) ?rest10
        case hy10 => (intro wq hSw; (try dsimp only at hSw); go_split_ands; go_simp; (try with_reducible rfl))
        case rest10 =>
        refine wpAnyH_done (by kernel_rfl) ?_ _
        go_wp2_with fail
        all_goals
          go_ret
          first | (go_simp; done) | (go_simp; exact hB)
      case more9 => exact AllReadyH.nil
    case more7 => exact AllReadyH.nil
  case more5 => exact AllReadyH.nil
end Go.Proofs.Ytmbffcblhhippaa.FlD
