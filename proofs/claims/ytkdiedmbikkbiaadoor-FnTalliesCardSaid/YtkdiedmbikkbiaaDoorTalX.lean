/- The text of a tally: the model and the program. The laid table of the program's library must lie in memory. -/
import Derived.Test.YtkdiedmbikkbiaaDoorTalG
import Derived.Test.YtkdiedmbikkbiaaDoorTalT
import Derived.Test.YtkdiedmbikkbiaaDoorNum
import Derived.Test.YtkdiedmbikkbiaaDoorLaid
import Derived.Test.YtkdiedmbikkbiaaDoorShelf
import Derived.Test.YtkdiedmbikkbiaaDoorHeldA
import Derived.Deep.DeepCutAuto
namespace Go.Proofs.YtkdiedmbikkbiaaDoor.TalX
open Go.RowKit Bs Word Tal TalT
set_option linter.unusedVariables false
theorem below_grow (w : World) (k : Nat) (os : Array Obj) : Below w.heap.size w (Sort.grow (w.drewN k) os) :=
  ⟨rfl, rfl, rfl, by show w.heap.size ≤ (w.heap ++ os).size; simp, fun i hi => by show (w.heap ++ os)[i]? = _; rw [Array.getElem?_append_left hi]⟩
theorem belowDN {B : Nat} {a w : World} (h : Below B a w) (k : Nat) : Below B a (w.drewN k) := h.trans ⟨rfl, rfl, rfl, Nat.le_refl _, fun _ _ => rfl⟩
theorem numC (n : Int) (w : World) (h0 : 0 ≤ n) (h1 : n ≤ 1000) :
    Calls Tryd.prog 41 #[.int .i64 n] w fun e w' => e = .returned (.string (num n)) ∧ Below w.heap.size w w' :=
  (Num.l1Num n w (by omega) (by omega)).mono fun e w' ⟨he, k, hk⟩ => ⟨he, by subst hk; exact belowDN (Below.refl _ _) k⟩
theorem itoaC (n : Int) (w : World) (h0 : 0 ≤ n) (h1 : n ≤ 1000) (vp : Laid.Pow w) :
    Calls Tryd.prog 23 #[.int .i64 n] w fun e w' => e = .returned (.string (num n)) ∧ Below w.heap.size w w' :=
  (Tryd.strconv_Itoa n (by omega) (by omega) w vp).mono fun e w' ⟨he, k, os, hk⟩ => ⟨he, by subst hk; exact below_grow w k os⟩
def Post (a0 : T) (w : World) (e : Ending) (w' : World) : Prop := ∃ r0 r1, e = .returned (.tuple #[.string r0, .bool r1]) ∧ TAns a0 r0 r1 ∧ Below w.heap.size w w'
set_option maxRecDepth 100000 in
set_option maxHeartbeats 1600000 in
theorem l11Text (r : T) (w : World) (hg : good r = true) : Calls Tryd.prog 27 #[.agg #[.int .i64 r.yes, .int .i64 r.no, .int .i64 r.abstain]] w fun e w' => e = .returned (.string (line r)) ∧ Below w.heap.size w w' := by
  obtain ⟨⟨g1, g2⟩, ⟨g3, g4⟩, ⟨h3, h3'⟩⟩ := good_parts hg
  obtain ⟨y, n, a⟩ := r
  simp only
  obtain ⟨W, hW⟩ : ∃ W : World, W = w.alloc (Obj.cells #[.int .i64 y, .int .i64 n, .int .i64 a] 25) := ⟨_, rfl⟩
  have hb : Below w.heap.size w W := by rw [hW]; exact (Below.refl _ _).alloc (Nat.le_refl _) _
  have B0 := Lib.hid (show Bx W w.heap.size 25 #[.int .i64 y, .int .i64 n, .int .i64 a] by rw [hW]; exact Bx.new _ _ _)
  have q0 := B0.out.cell 0
  have q1 := B0.out.cell 1
  have q2 := B0.out.cell 2
  simp only [List.getElem?_toArray, List.getElem?_cons_zero, List.getElem?_cons_succ] at q0 q1 q2
  simp only at g1 g2 g3 g4 h3 h3'
  clear hg
  go_enter Tryd.func27, Tryd.ntmps27
  go_upto_region 1 with fail
  rw [← hW]
  clear hW
  go_cut [3] (fun s3 wx => s3 = .string (front ⟨y, n, a⟩) ∧ Below W.heap.size W wx)
  case first =>
    have hbT := hb
    have HK := Lib.hid (show ∀ w' : World, Below W.heap.size W w' → Below W.heap.size W w' ∧ w'.cell? ⟨w.heap.size, 0, none⟩ = some (.int .i64 y) ∧ w'.cell? ⟨w.heap.size, 1, none⟩ = some (.int .i64 n) from fun w' hb => ⟨hb, (B0.out.kept hb).cell 0, (B0.out.kept hb).cell 1⟩)
    have hz1 := num_size y g1 g2
    have hz2 := num_size n g3 g4
    have m1 : ¬ (9223372036854775807 < (num y).size + 6) := by omega
    have m2 : ¬ (9223372036854775807 < (num y).size + 6 + (num n).size) := by omega
    have m3 : ¬ (9223372036854775807 < (num y).size + 6 + (num n).size + 3) := by omega
    have hB : Below W.heap.size W W.drew := (Below.refl _ _).drew
    clear q0 q1 q2 hb
    refine wp_region_held_drew (S := fun w' => Below W.heap.size W w' ∧ w'.cell? ⟨w.heap.size, 0, none⟩ = some (.int .i64 y) ∧ w'.cell? ⟨w.heap.size, 1, none⟩ = some (.int .i64 n)) (by kernel_rfl) (HK.out _ hB) (fun hHeld => ?_)
    generalize W.drew = x0 at *
    refine wpAnyH_take (i := 0) (v := ?v1) rfl (by kernel_rfl) (by kernel_rfl) (by kernel_rfl) (fun _ _ _ h => h) (Or.inl ⟨by rfl, ?hy1⟩) (by assumption) ?rest1
    case hy1 => (intro wq hSw; (try dsimp only at hSw); go_split_ands; go_simp; (try with_reducible rfl))
    case rest1 =>
    refine wpAnyH_take (i := 1) (v := ?v2) rfl (by kernel_rfl) (by kernel_rfl) (by kernel_rfl) (fun _ _ _ h => h) (Or.inl ⟨by rfl, ?hy2⟩) (by assumption) ?rest2
    case hy2 => (intro wq hSw; (try dsimp only at hSw); go_split_ands; go_simp; (try with_reducible rfl))
    case rest2 =>
    refine wpAnyH_take (i := 4) (v := ?v3) rfl (by kernel_rfl) (by kernel_rfl) (by kernel_rfl) (fun _ _ _ h => h) (Or.inl ⟨by rfl, ?hy3⟩) (by assumption) ?rest3
    case hy3 => (intro wq hSw; (try dsimp only at hSw); go_split_ands; go_simp; (try with_reducible rfl))
    case rest3 =>
    refine wpAnyH_take (i := 5) (v := ?v4) rfl (by kernel_rfl) (by kernel_rfl) (by kernel_rfl) (fun _ _ _ h => h) (Or.inl ⟨by rfl, ?hy4⟩) (by assumption) ?rest4
    case hy4 => (intro wq hSw; (try dsimp only at hSw); go_split_ands; go_simp; (try with_reducible rfl))
    case rest4 =>
    refine wpAnyH_ready (rs := [2]) (by kernel_rfl) (by simp) ?_
    refine AllReadyH.cons rfl (fun K hK => ?step5) ?more5
    case step5 =>
      go_simp
      go_at_call 41
      refine (numC y _ (by omega) (by omega)).mono ?_
      rintro e x1 ⟨rfl, hbc⟩
      replace hB := hB.trans (hbc.mono hB.size)
      clear hbc
      go_wp2_with fail
      refine hK.out _ _ (HK.out _ hB) (fun hHeld => ?_)
      clear hK K
      refine wpAnyH_take (i := 3) (v := ?v6) rfl (by kernel_rfl) (by kernel_rfl) (by kernel_rfl) (fun _ _ _ h => h) (Or.inl ⟨by rfl, ?hy6⟩) (by assumption) ?rest6
      case hy6 => (intro wq hSw; (try dsimp only at hSw); go_split_ands; go_simp; (try with_reducible rfl))
      case rest6 =>
      refine wpAnyH_ready (rs := [6]) (by kernel_rfl) (by simp) ?_
      refine AllReadyH.cons rfl (fun K hK => ?step7) ?more7
      case step7 =>
        go_simp
        go_at_call 41
        refine (numC n _ (by omega) (by omega)).mono ?_
        rintro e x2 ⟨rfl, hbc⟩
        replace hB := hB.trans (hbc.mono hB.size)
        clear hbc
        go_wp2_with fail
        refine hK.out _ _ (HK.out _ hB) (fun hHeld => ?_)
        clear hK K
        refine wpAnyH_take (i := 7) (v := ?v8) rfl (by kernel_rfl) (by kernel_rfl) (by kernel_rfl) (fun _ _ _ h => h) (Or.inl ⟨by rfl, ?hy8⟩) (by assumption) ?rest8
        case hy8 => (intro wq hSw; (try dsimp only at hSw); go_split_ands; go_simp; (try with_reducible rfl))
        case rest8 =>
        refine wpAnyH_take (i := 8) (v := ?v9) rfl (by kernel_rfl) (by kernel_rfl) (by kernel_rfl) (fun _ _ _ h => h) (Or.inl ⟨by rfl, ?hy9⟩) (by assumption) ?rest9
        case hy9 => (intro wq hSw; (try dsimp only at hSw); go_split_ands; go_simp; (try with_reducible rfl))
        case rest9 =>
        refine wpAnyH_take (i := 9) (v := ?v10) rfl (by kernel_rfl) (by kernel_rfl) (by kernel_rfl) (fun _ _ _ h => h) (Or.inl ⟨by rfl, ?hy10⟩) (by assumption) ?rest10
        case hy10 => (intro wq hSw; (try dsimp only at hSw); go_split_ands; go_simp; (try with_reducible rfl))
        case rest10 =>
        refine wpAnyH_done (by kernel_rfl) ?_ _
        go_wp2_with fail
        all_goals
          go_meet
          exact ⟨rfl, hB⟩
      case more7 => exact AllReadyH.nil
    case more5 => exact AllReadyH.nil
  case rest =>
  obtain ⟨rfl, hb1⟩ := hcut
  obtain ⟨w1, hwc⟩ : ∃ x, x = wc := ⟨_, rfl⟩
  subst hwc
  replace B0 := Lib.hid (B0.out.kept hb1)
  replace hb := hb.trans (hb1.mono hb.size)
  clear hb1 q0 q1 q2
  have q0 := B0.out.cell 0
  have q1 := B0.out.cell 1
  have q2 := B0.out.cell 2
  simp only [List.getElem?_toArray, List.getElem?_cons_zero, List.getElem?_cons_succ] at q0 q1 q2
  have hF := front_size (t := ⟨y, n, a⟩) (good_mk ⟨⟨g1, g2⟩, ⟨g3, g4⟩, ⟨h3, h3'⟩⟩)
  by_cases hp : 0 < a
  · have HL := Lib.hid (show line ⟨y, n, a⟩ = front ⟨y, n, a⟩ ++ ⟨#[44, 32]⟩ ++ num a ++ ⟨#[32, 97, 98, 115, 116, 97, 105, 110]⟩ by unfold line tail; simp only; rw [if_pos hp]; simp only [app_assoc])
    have hz := num_size a h3 h3'
    generalize front ⟨y, n, a⟩ = F at *
    have m1 : ¬ (9223372036854775807 < F.size + 2) := by omega
    have m2 : ¬ (9223372036854775807 < F.size + 2 + (num a).size) := by omega
    have m3 : ¬ (9223372036854775807 < F.size + 2 + (num a).size + 8) := by omega
    go_wp2_with fail
    refine (numC a _ (by omega) (by omega)).mono ?_
    rintro e w2 ⟨rfl, hb1⟩
    replace hb := hb.trans (hb1.mono hb.size)
    clear hb1 q0 q1 q2
    go_wp2_with fail
    go_ret
    exact ⟨by rw [HL.out]; rfl, hb⟩
  · have HL := Lib.hid (show line ⟨y, n, a⟩ = front ⟨y, n, a⟩ by unfold line tail; simp only; rw [if_neg hp, app_nil])
    generalize front ⟨y, n, a⟩ = F at *
    go_wp2_with fail
    go_ret
    exact ⟨by rw [HL.out]; rfl, hb⟩
set_option maxRecDepth 100000 in
set_option maxHeartbeats 1600000 in
theorem specT (r : T) (w : World) : Calls Tryd.prog 10 #[.agg #[.int .i64 r.yes, .int .i64 r.no, .int .i64 r.abstain]] w (Post r w) := by
  obtain ⟨y, n, a⟩ := r
  simp only
  obtain ⟨W, hW⟩ : ∃ W : World, W = w.alloc (Obj.cells #[.int .i64 y, .int .i64 n, .int .i64 a] 25) := ⟨_, rfl⟩
  have hb : Below w.heap.size w W := by rw [hW]; exact (Below.refl _ _).alloc (Nat.le_refl _) _
  have B0 := Lib.hid (show Bx W w.heap.size 25 #[.int .i64 y, .int .i64 n, .int .i64 a] by rw [hW]; exact Bx.new _ _ _)
  have q0 := B0.out.cell 0
  have q1 := B0.out.cell 1
  have q2 := B0.out.cell 2
  simp only [List.getElem?_toArray, List.getElem?_cons_zero, List.getElem?_cons_succ] at q0 q1 q2
  have HG := Lib.hid (fun b (hx : good ⟨y, n, a⟩ = b) W => TalG.l11Good ⟨y, n, a⟩ b hx W)
  simp only at HG
  cases h1 : good ⟨y, n, a⟩ with
  | false =>
    have HA := Lib.hid (tno h1)
    replace HG := Lib.hid (HG.out _ h1)
    clear h1
    go_enter Tryd.func10, Tryd.ntmps10
    go_wp2_with fail
    rw [← hW]
    clear hW
    refine (HG.out _).mono ?_
    rintro e w1 ⟨rfl, hb1⟩
    have hb2 := hb.trans (hb1.mono hb.size)
    go_wp2_with fail
    go_ret2
    exact ⟨_, _, rfl, HA.out, hb2⟩
  | true =>
  have HA := Lib.hid (tyes h1)
  replace HG := Lib.hid (HG.out _ h1)
  have HL := Lib.hid (fun W => l11Text ⟨y, n, a⟩ W h1)
  simp only at HL
  clear h1
  generalize line ⟨y, n, a⟩ = L at *
  go_enter Tryd.func10, Tryd.ntmps10
  go_wp2_with fail
  rw [← hW]
  clear hW
  refine (HG.out _).mono ?_
  rintro e w1 ⟨rfl, hb1⟩
  replace hb := hb.trans (hb1.mono hb.size)
  replace B0 := Lib.hid (B0.out.kept hb1)
  clear hb1 q0 q1 q2
  have q0 := B0.out.cell 0
  have q1 := B0.out.cell 1
  have q2 := B0.out.cell 2
  simp only [List.getElem?_toArray, List.getElem?_cons_zero, List.getElem?_cons_succ] at q0 q1 q2
  go_wp2_with fail
  refine (HL.out _).mono ?_
  rintro e w2 ⟨rfl, hb1⟩
  replace hb := hb.trans (hb1.mono hb.size)
  clear hb1
  go_wp2_with fail
  go_ret2
  exact ⟨_, _, rfl, HA.out, hb⟩
set_option maxRecDepth 100000 in
set_option maxHeartbeats 1600000 in
theorem implT (r : T) (w : World) (vp : Laid.Pow w) : Calls Tryd.prog 8 #[.agg #[.int .i64 r.yes, .int .i64 r.no, .int .i64 r.abstain]] w (Post r w) := by
  have HVP := Lib.hid vp
  clear vp
  obtain ⟨y, n, a⟩ := r
  simp only
  obtain ⟨W, hW⟩ : ∃ W : World, W = w.alloc (Obj.cells #[.int .i64 y, .int .i64 n, .int .i64 a] 25) := ⟨_, rfl⟩
  have hb : Below w.heap.size w W := by rw [hW]; exact (Below.refl _ _).alloc (Nat.le_refl _) _
  have B0 := Lib.hid (show Bx W w.heap.size 25 #[.int .i64 y, .int .i64 n, .int .i64 a] by rw [hW]; exact Bx.new _ _ _)
  have q0 := B0.out.cell 0
  have q1 := B0.out.cell 1
  have q2 := B0.out.cell 2
  simp only [List.getElem?_toArray, List.getElem?_cons_zero, List.getElem?_cons_succ] at q0 q1 q2
  have HG := Lib.hid (fun b (hx : good ⟨y, n, a⟩ = b) W => TalG.isValid ⟨y, n, a⟩ b hx W)
  simp only at HG
  cases h1 : good ⟨y, n, a⟩ with
  | false =>
    have HA := Lib.hid (tno h1)
    replace HG := Lib.hid (HG.out _ h1)
    clear h1
    go_enter Tryd.func8, Tryd.ntmps8
    go_wp2_with fail
    rw [← hW]
    clear hW
    refine (HG.out _).mono ?_
    rintro e w1 ⟨rfl, hb1⟩
    have hb2 := hb.trans (hb1.mono hb.size)
    go_wp2_with fail
    go_ret2
    exact ⟨_, _, rfl, HA.out, hb2⟩
  | true =>
  have HA := Lib.hid (tyes h1)
  obtain ⟨⟨g1, g2⟩, ⟨g3, g4⟩, ⟨h3, h3'⟩⟩ := good_parts h1
  simp only at g1 g2 g3 g4 h3 h3'
  replace HG := Lib.hid (HG.out _ h1)
  clear h1
  go_enter Tryd.func8, Tryd.ntmps8
  go_wp2_with fail
  rw [← hW]
  clear hW
  refine (HG.out _).mono ?_
  rintro e w0 ⟨rfl, hb1⟩
  obtain ⟨W, hWW⟩ : ∃ x, x = w0 := ⟨_, rfl⟩
  subst hWW
  replace hb := hb.trans (hb1.mono hb.size)
  replace B0 := Lib.hid (B0.out.kept hb1)
  clear hb1 q0 q1 q2
  have q0 := B0.out.cell 0
  have q1 := B0.out.cell 1
  have q2 := B0.out.cell 2
  simp only [List.getElem?_toArray, List.getElem?_cons_zero, List.getElem?_cons_succ] at q0 q1 q2
  go_upto_region 3 with fail
  go_cut [4] (fun s4 wx => s4 = .string (front ⟨y, n, a⟩) ∧ Below W.heap.size W wx)
  case first =>
    have hbT := hb
    have HK := Lib.hid (show ∀ w' : World, Below W.heap.size W w' → Below W.heap.size W w' ∧ w'.cell? ⟨w.heap.size, 0, none⟩ = some (.int .i64 y) ∧ w'.cell? ⟨w.heap.size, 1, none⟩ = some (.int .i64 n) from fun w' hb => ⟨hb, (B0.out.kept hb).cell 0, (B0.out.kept hb).cell 1⟩)
    have hz1 := num_size y g1 g2
    have hz2 := num_size n g3 g4
    have m1 : ¬ (9223372036854775807 < (num y).size + 6) := by omega
    have m2 : ¬ (9223372036854775807 < (num y).size + 6 + (num n).size) := by omega
    have m3 : ¬ (9223372036854775807 < (num y).size + 6 + (num n).size + 3) := by omega
    have hB : Below W.heap.size W W.drew := (Below.refl _ _).drew
    clear q0 q1 q2 hb
    refine wp_region_held_drew (S := fun w' => Below W.heap.size W w' ∧ w'.cell? ⟨w.heap.size, 0, none⟩ = some (.int .i64 y) ∧ w'.cell? ⟨w.heap.size, 1, none⟩ = some (.int .i64 n)) (by kernel_rfl) (HK.out _ hB) (fun hHeld => ?_)
    generalize W.drew = x0 at *
    refine wpAnyH_take (i := 0) (v := ?v1) rfl (by kernel_rfl) (by kernel_rfl) (by kernel_rfl) (fun _ _ _ h => h) (Or.inl ⟨by rfl, ?hy1⟩) (by assumption) ?rest1
    case hy1 => (intro wq hSw; (try dsimp only at hSw); go_split_ands; go_simp; (try with_reducible rfl))
    case rest1 =>
    refine wpAnyH_take (i := 1) (v := ?v2) rfl (by kernel_rfl) (by kernel_rfl) (by kernel_rfl) (fun _ _ _ h => h) (Or.inl ⟨by rfl, ?hy2⟩) (by assumption) ?rest2
    case hy2 => (intro wq hSw; (try dsimp only at hSw); go_split_ands; go_simp; (try with_reducible rfl))
    case rest2 =>
    refine wpAnyH_take (i := 4) (v := ?v3) rfl (by kernel_rfl) (by kernel_rfl) (by kernel_rfl) (fun _ _ _ h => h) (Or.inl ⟨by rfl, ?hy3⟩) (by assumption) ?rest3
    case hy3 => (intro wq hSw; (try dsimp only at hSw); go_split_ands; go_simp; (try with_reducible rfl))
    case rest3 =>
    refine wpAnyH_take (i := 5) (v := ?v4) rfl (by kernel_rfl) (by kernel_rfl) (by kernel_rfl) (fun _ _ _ h => h) (Or.inl ⟨by rfl, ?hy4⟩) (by assumption) ?rest4
    case hy4 => (intro wq hSw; (try dsimp only at hSw); go_split_ands; go_simp; (try with_reducible rfl))
    case rest4 =>
    refine wpAnyH_ready (rs := [2]) (by kernel_rfl) (by simp) ?_
    refine AllReadyH.cons rfl (fun K hK => ?step5) ?more5
    case step5 =>
      go_simp
      go_at_call 23
      refine (itoaC y _ (by omega) (by omega) (HVP.out.below (hbT.trans (hB.mono hbT.size)))).mono ?_
      rintro e x1 ⟨rfl, hbc⟩
      replace hB := hB.trans (hbc.mono hB.size)
      clear hbc
      go_wp2_with fail
      refine hK.out _ _ (HK.out _ hB) (fun hHeld => ?_)
      clear hK K
      refine wpAnyH_take (i := 3) (v := ?v6) rfl (by kernel_rfl) (by kernel_rfl) (by kernel_rfl) (fun _ _ _ h => h) (Or.inl ⟨by rfl, ?hy6⟩) (by assumption) ?rest6
      case hy6 => (intro wq hSw; (try dsimp only at hSw); go_split_ands; go_simp; (try with_reducible rfl))
      case rest6 =>
      refine wpAnyH_ready (rs := [6]) (by kernel_rfl) (by simp) ?_
      refine AllReadyH.cons rfl (fun K hK => ?step7) ?more7
      case step7 =>
        go_simp
        go_at_call 23
        refine (itoaC n _ (by omega) (by omega) (HVP.out.below (hbT.trans (hB.mono hbT.size)))).mono ?_
        rintro e x2 ⟨rfl, hbc⟩
        replace hB := hB.trans (hbc.mono hB.size)
        clear hbc
        go_wp2_with fail
        refine hK.out _ _ (HK.out _ hB) (fun hHeld => ?_)
        clear hK K
        refine wpAnyH_take (i := 7) (v := ?v8) rfl (by kernel_rfl) (by kernel_rfl) (by kernel_rfl) (fun _ _ _ h => h) (Or.inl ⟨by rfl, ?hy8⟩) (by assumption) ?rest8
        case hy8 => (intro wq hSw; (try dsimp only at hSw); go_split_ands; go_simp; (try with_reducible rfl))
        case rest8 =>
        refine wpAnyH_take (i := 8) (v := ?v9) rfl (by kernel_rfl) (by kernel_rfl) (by kernel_rfl) (fun _ _ _ h => h) (Or.inl ⟨by rfl, ?hy9⟩) (by assumption) ?rest9
        case hy9 => (intro wq hSw; (try dsimp only at hSw); go_split_ands; go_simp; (try with_reducible rfl))
        case rest9 =>
        refine wpAnyH_take (i := 9) (v := ?v10) rfl (by kernel_rfl) (by kernel_rfl) (by kernel_rfl) (fun _ _ _ h => h) (Or.inl ⟨by rfl, ?hy10⟩) (by assumption) ?rest10
        case hy10 => (intro wq hSw; (try dsimp only at hSw); go_split_ands; go_simp; (try with_reducible rfl))
        case rest10 =>
        refine wpAnyH_done (by kernel_rfl) ?_ _
        go_wp2_with fail
        all_goals
          go_meet
          exact ⟨rfl, hB⟩
      case more7 => exact AllReadyH.nil
    case more5 => exact AllReadyH.nil
  case rest =>
  obtain ⟨rfl, hb1⟩ := hcut
  obtain ⟨w1, hwc⟩ : ∃ x, x = wc := ⟨_, rfl⟩
  subst hwc
  replace B0 := Lib.hid (B0.out.kept hb1)
  replace hb := hb.trans (hb1.mono hb.size)
  clear hb1 q0 q1 q2
  have q0 := B0.out.cell 0
  have q1 := B0.out.cell 1
  have q2 := B0.out.cell 2
  simp only [List.getElem?_toArray, List.getElem?_cons_zero, List.getElem?_cons_succ] at q0 q1 q2
  have hF := front_size (t := ⟨y, n, a⟩) (good_mk ⟨⟨g1, g2⟩, ⟨g3, g4⟩, ⟨h3, h3'⟩⟩)
  by_cases hp : 0 < a
  · have HL := Lib.hid (show line ⟨y, n, a⟩ = front ⟨y, n, a⟩ ++ (⟨#[44, 32]⟩ ++ num a ++ ⟨#[32, 97, 98, 115, 116, 97, 105, 110]⟩) by unfold line tail; simp only; rw [if_pos hp])
    have hz := num_size a h3 h3'
    generalize front ⟨y, n, a⟩ = F at *
    have m1 : ¬ (9223372036854775807 < 2 + (num a).size) := by omega
    have m2 : ¬ (9223372036854775807 < 2 + (num a).size + 8) := by omega
    have m3 : ¬ (9223372036854775807 < F.size + (2 + (num a).size + 8)) := by omega
    go_wp2_with fail
    refine (itoaC a _ (by omega) (by omega) (HVP.out.below (hb))).mono ?_
    rintro e w2 ⟨rfl, hb1⟩
    replace hb := hb.trans (hb1.mono hb.size)
    clear hb1 q0 q1 q2
    go_wp2_with fail
    have HA2 := Lib.hid HA.out
    rw [HL.out] at HA2
    go_ret2
    exact ⟨_, _, rfl, HA2.out, hb⟩
  · have HL := Lib.hid (show line ⟨y, n, a⟩ = front ⟨y, n, a⟩ by unfold line tail; simp only; rw [if_neg hp, app_nil])
    generalize front ⟨y, n, a⟩ = F at *
    go_wp2_with fail
    have HA2 := Lib.hid HA.out
    rw [HL.out] at HA2
    go_ret2
    exact ⟨_, _, rfl, HA2.out, hb⟩
end Go.Proofs.YtkdiedmbikkbiaaDoor.TalX
