/- slices.SortStableFunc at short slices of PropH: insertion. No condition but the length. -/
import Derived.Test.YtclpdpfnlmfogaaDoorLPropHCmpTog
import Derived.Test.YtclpdpfnlmfogaaDoorSrt
import Derived.BigQuiet
import Derived.BigFrame
import Derived.IntWalk
import Derived.Deep.DeepCutAuto
import Derived.Shelf.SlicesQ.Load
namespace Go.Proofs.YtclpdpfnlmfogaaDoor.LPropHSortTog
open Go Go.RowKit Bs Srt LPropHCmpTog
set_option linter.unusedVariables false
def lt (X Y : LPropH.R) : Bool := decide (cf X Y < 0)
set_option maxRecDepth 100000 in
set_option maxHeartbeats 3200000 in
theorem insertion {A : Nat} (g cap n : Nat) (zs : List LPropH.R) (w : World) (h : Own LPropH.rec 42 w A (.slice (some ⟨g, 0, none⟩) n cap) zs) (h20 : n ≤ 1048576) :
    Calls Tryd.prog 111 #[.slice (some ⟨g, 0, none⟩) n cap, .int .i64 0, .int .i64 n, .func (.func 66) #[] #[]] w fun e w' => e = .returned (.tuple #[]) ∧ Own LPropH.rec 42 w' A (.slice (some ⟨g, 0, none⟩) n cap) (srt lt zs) ∧ Below A w w' := by
  obtain ⟨cur0, _, _, _, hAg, hnc, hcm, hzl⟩ := own_row h
  have HN := Lib.hid hzl
  have hcm2 := hcm
  unfold maxLen at hcm2
  have HO0 := Lib.hid (show Own LPropH.rec 42 w A (.slice (some ⟨g, 0, none⟩) n cap) (srt lt (zs.take 1) ++ zs.drop 1) by rw [srt_one]; exact h)
  have hb0 := Below.refl A w
  have mixed : Tryd.prog.follows Departure.mixedOrders = true := by kernel_rfl
  clear h hzl hcm
  go_enter Tryd.func111, Tryd.ntmps111
  go_wp2_with fail
  go_loopw [8] (fun s8 wr => ∃ i : Nat, s8 = .int .i64 i ∧ 1 ≤ i ∧ i ≤ n + 1 ∧ Hid (Own LPropH.rec 42 wr A (.slice (some ⟨g, 0, none⟩) n cap) (srt lt (zs.take i) ++ zs.drop i)) ∧ Below A w wr) (fun s8 _ => n + 1 - (intOf s8).toNat)
  case atStart => exact ⟨1, rfl, Nat.le_refl _, by omega, HO0, hb0⟩
  case round =>
    clear HO0 hb0
    obtain ⟨i, rfl, hi1, hin, HO, hb⟩ := hrel
    by_cases hlt : i < n
    · have hx : i < zs.length := by have := HN.out; omega
      have HX := Lib.hid (List.getElem?_eq_getElem hx)
      generalize zs[i] = X at HX
      obtain ⟨P, hP⟩ : ∃ P, P = srt lt (zs.take i) := ⟨_, rfl⟩
      have HPL := Lib.hid (show P.length = i by rw [hP, srt_len, List.length_take]; omega)
      have HP := Lib.hid hP
      obtain ⟨Z, hZ⟩ : ∃ Z, Z = zs.drop (i + 1) := ⟨_, rfl⟩
      have HZ := Lib.hid hZ
      have HO1 := Lib.hid (show Own LPropH.rec 42 wr A (.slice (some ⟨g, 0, none⟩) n cap) (mid P X Z i) by
        have e : srt lt (zs.take i) ++ zs.drop i = mid P X Z i := by
          obtain ⟨hk, hxx⟩ := List.getElem?_eq_some_iff.1 HX.out
          have e2 := mid_end P X Z
          rw [HPL.out] at e2
          rw [e2, hP, hZ, List.drop_eq_getElem_cons hk, hxx]
        rw [← e]; exact HO.out)
      have hZl : Z.length = n - (i + 1) := by rw [hZ, List.length_drop, HN.out]
      clear hP hZ HO
      have i0 : 0 ≤ (i : Int) := by omega
      go_wp2_with fail
      go_loopw [9] (fun s9 ws => ∃ j : Nat, s9 = .int .i64 j ∧ j ≤ i ∧ Hid (pos lt P X i = pos lt P X j) ∧ Hid (Own LPropH.rec 42 ws A (.slice (some ⟨g, 0, none⟩) n cap) (mid P X Z j)) ∧ Below A w ws) (fun s9 _ => (intOf s9).toNat)
      case atStart => exact ⟨i, rfl, Nat.le_refl _, Lib.hid rfl, HO1, hb⟩
      case round =>
        clear HO1 hb
        obtain ⟨j, rfl, hji, HJ, HO, hb⟩ := hrel
        rcases j with _ | jp
        · have HE := Lib.hid (show Own LPropH.rec 42 wr A (.slice (some ⟨g, 0, none⟩) n cap) (srt lt (zs.take (i + 1)) ++ zs.drop (i + 1)) by
            rw [srt_next HX.out, ← HP.out, ← HZ.out, ← mid_ins HPL.out (show pos lt P X i = 0 from HJ.out)]; exact HO.out)
          go_wp2_with fail
          go_cut [34] (fun t wx => t = .bool false ∧ Below wr.heap.size wr wx)
          case first =>
            go_quiet (fail)
            go_wp2_with fail
            go_meet
            exact ⟨rfl, drawn_below _ _⟩
          case rest =>
            obtain ⟨rfl, hbv⟩ := hcut
            have hb2 := hb.trans (hbv.mono (Nat.le_of_lt (by have := (HO.out.lt g rfl).2; omega)))
            have HE2 := Lib.hid (HE.out.kept hbv)
            go_wp2_with fail
            go_roundw
            case rel => exact ⟨i + 1, by go_num, by omega, by omega, HE2, hb2⟩
            case measure => first | (simp [intOf]; done) | (simp [intOf]; omega)
        · have hpj : jp < P.length := by have := HPL.out; omega
          have HY := Lib.hid (List.getElem?_eq_getElem hpj)
          generalize P[jp] = Y at HY
          have hgl := (HO.out.lt g rfl).2
          have HCX := Lib.hid (HO.out.at_ (jp + 1) X (mid_here (by have := HPL.out; omega)))
          have HCY := Lib.hid (HO.out.at_ jp Y (mid_ahead HY.out))
          have HGX := LPropH.grown HCX.out hgl
          have HGY := LPropH.grown HCY.out hgl
          have t1 : ((jp : Int) + 1).toNat = jp + 1 := by omega
          have t2 : IntKind.i64.wrap ((jp : Int) + 1 - 1) = (jp : Int) := by rw [show (jp : Int) + 1 - 1 = (jp : Int) by omega]; exact IntWalk.i64_in _ (by omega)
          have t3 : IntKind.i64.wrap ((jp : Int)) = (jp : Int) := IntWalk.i64_in _ (by omega)
          have t4 : (0 : Int) ≤ (jp : Int) + 1 := by omega
          have t5 : (jp : Int) + 1 < (n : Int) := by omega
          have t6 : (0 : Int) ≤ (jp : Int) := by omega
          have t7 : (jp : Int) < (n : Int) := by omega
          have t8 : (0 : Int) < (jp : Int) + 1 := by omega
          have t9 : ((jp : Int)).toNat = jp := by omega
          have HCL := Lib.hid (fun W => closure X Y W)
          go_wp2_with fail
          go_cut [34] (fun t wx => t = .bool (lt X Y) ∧ Below wr.heap.size wr wx)
          case first =>
            have gx := fun d os => LPropH.cells (HGX.out d os)
            have gy := fun d os => LPropH.cells (HGY.out d os)
            simp only [LPropH.rec_n] at gx gy
            have gx0 := fun d os => (gx d os).1
            have gx1 := fun d os => (gx d os).2.1
            have gx2 := fun d os => (gx d os).2.2.1
            have gx3 := fun d os => (gx d os).2.2.2.1
            have gx4 := fun d os => (gx d os).2.2.2.2.1
            have gx5 := fun d os => (gx d os).2.2.2.2.2
            have gy0 := fun d os => (gy d os).1
            have gy1 := fun d os => (gy d os).2.1
            have gy2 := fun d os => (gy d os).2.2.1
            have gy3 := fun d os => (gy d os).2.2.2.1
            have gy4 := fun d os => (gy d os).2.2.2.2.1
            have gy5 := fun d os => (gy d os).2.2.2.2.2
            clear gx gy HCX HCY
            refine wp_region_quiet_below (by kernel_rfl) (by kernel_rfl) ?_
            repeat (go_big_quiet_step ((first | (go_at_call 66; exact Calls.regrown_of (HCL.out _)))))
            refine wpQuiet_nil ?_
            intro _ hw'
            obtain ⟨⟨dq, osq⟩, hw''⟩ := hw'
            subst hw''
            go_wp2_with fail
            go_meet
            exact ⟨rfl, below_regrown _ _ _⟩
          case rest =>
            obtain ⟨rfl, hbv⟩ := hcut
            have hb2 := hb.trans (hbv.mono (by have h2 := (HO.out.lt g rfl).1; have h3 := hgl; omega))
            have HO2 := Lib.hid (HO.out.kept hbv)
            clear HGX HGY HCX HCY HO hb hbv
            cases hlv : lt X Y with
            | false =>
              have HE2 := Lib.hid (show Own LPropH.rec 42 wc A (.slice (some ⟨g, 0, none⟩) n cap) (srt lt (zs.take (i + 1)) ++ zs.drop (i + 1)) by
                rw [srt_next HX.out, ← HP.out, ← HZ.out, ← mid_ins HPL.out (show pos lt P X i = jp + 1 by rw [HJ.out]; exact pos_stop HY.out hlv)]; exact HO2.out)
              clear hlv
              go_wp2_with fail
              go_roundw
              case rel => exact ⟨i + 1, by go_num, by omega, by omega, HE2, hb2⟩
              case measure => first | (simp [intOf]; done) | (simp [intOf]; omega)
            | true =>
              have HJ2 := Lib.hid (show pos lt P X i = pos lt P X jp by rw [HJ.out]; exact pos_go HY.out hlv)
              have hOd : Own LPropH.rec 42 wc A (.slice (some ⟨g, 0, none⟩) n cap) (mid P X Z (jp + 1)) := HO2.out
              have hml : (mid P X Z (jp + 1)).length = n := by rw [mid_len (by omega), HPL.out]; omega
              obtain ⟨iX, hiX⟩ : ∃ q, q = jp + 1 := ⟨_, rfl⟩
              have t1' : ((jp : Int) + 1).toNat = iX := by omega
              have hP1 := LPropH.putAll hml hOd iX X Y (by rw [hiX]; exact mid_here (by have := HPL.out; omega))
              have hP2 := LPropH.putAll (by rw [List.length_set]; exact hml) hP1 jp Y X (by rw [List.getElem?_set_ne (by omega)]; exact mid_ahead HY.out)
              rw [hiX, mid_swap HY.out, ← hiX] at hP2
              have HO3 := Lib.hid (hP2.kept (Below.drew (Below.refl _ _)))
              have hgA : A ≤ g := (HO2.out.lt g rfl).1
              have hb3 : Below A w _ := Below.drew ((Below.setCell (Below.setCell (Below.setCell (Below.setCell (Below.setCell (Below.setCell (Below.setCell (Below.setCell (Below.setCell (Below.setCell (Below.setCell (Below.setCell hb2 (show A ≤ (⟨g, iX * 6, none⟩ : Addr).block from hgA) (.int .i64 Y.id)) (show A ≤ (⟨g, iX * 6 + 1, none⟩ : Addr).block from hgA) (.int .i64 Y.kind)) (show A ≤ (⟨g, iX * 6 + 2, none⟩ : Addr).block from hgA) (.int .i64 Y.pos)) (show A ≤ (⟨g, iX * 6 + 3, none⟩ : Addr).block from hgA) (.int .i64 Y.count)) (show A ≤ (⟨g, iX * 6 + 4, none⟩ : Addr).block from hgA) (.slice Y.s.a Y.s.l Y.s.c)) (show A ≤ (⟨g, iX * 6 + 5, none⟩ : Addr).block from hgA) (.int .i64 Y.weight)) (show A ≤ (⟨g, jp * 6, none⟩ : Addr).block from hgA) (.int .i64 X.id)) (show A ≤ (⟨g, jp * 6 + 1, none⟩ : Addr).block from hgA) (.int .i64 X.kind)) (show A ≤ (⟨g, jp * 6 + 2, none⟩ : Addr).block from hgA) (.int .i64 X.pos)) (show A ≤ (⟨g, jp * 6 + 3, none⟩ : Addr).block from hgA) (.int .i64 X.count)) (show A ≤ (⟨g, jp * 6 + 4, none⟩ : Addr).block from hgA) (.slice X.s.a X.s.l X.s.c)) (show A ≤ (⟨g, jp * 6 + 5, none⟩ : Addr).block from hgA) (.int .i64 X.weight)))
              have c1 := LPropH.cells (HO2.out.at_ (jp + 1) X (mid_here (by have := HPL.out; omega)))
              have c2 := LPropH.cells (HO2.out.at_ jp Y (mid_ahead HY.out))
              simp only [LPropH.rec_n, ← hiX] at c1 c2
              obtain ⟨x0, x1, x2, x3, x4, x5⟩ := c1
              obtain ⟨y0, y1, y2, y3, y4, y5⟩ := c2
              have hfz : ∀ o, wc.frozen? ⟨g, o, none⟩ = false := fun o => Own.frozen hml HO2.out o
              have d0_0 : ¬ (iX * 6 = jp * 6) := by omega
              have d0_1 : ¬ (iX * 6 = jp * 6 + 1) := by omega
              have d0_2 : ¬ (iX * 6 = jp * 6 + 2) := by omega
              have d0_3 : ¬ (iX * 6 = jp * 6 + 3) := by omega
              have d0_4 : ¬ (iX * 6 = jp * 6 + 4) := by omega
              have d0_5 : ¬ (iX * 6 = jp * 6 + 5) := by omega
              have d1_0 : ¬ (iX * 6 + 1 = jp * 6) := by omega
              have d1_1 : ¬ (iX * 6 + 1 = jp * 6 + 1) := by omega
              have d1_2 : ¬ (iX * 6 + 1 = jp * 6 + 2) := by omega
              have d1_3 : ¬ (iX * 6 + 1 = jp * 6 + 3) := by omega
              have d1_4 : ¬ (iX * 6 + 1 = jp * 6 + 4) := by omega
              have d1_5 : ¬ (iX * 6 + 1 = jp * 6 + 5) := by omega
              have d2_0 : ¬ (iX * 6 + 2 = jp * 6) := by omega
              have d2_1 : ¬ (iX * 6 + 2 = jp * 6 + 1) := by omega
              have d2_2 : ¬ (iX * 6 + 2 = jp * 6 + 2) := by omega
              have d2_3 : ¬ (iX * 6 + 2 = jp * 6 + 3) := by omega
              have d2_4 : ¬ (iX * 6 + 2 = jp * 6 + 4) := by omega
              have d2_5 : ¬ (iX * 6 + 2 = jp * 6 + 5) := by omega
              have d3_0 : ¬ (iX * 6 + 3 = jp * 6) := by omega
              have d3_1 : ¬ (iX * 6 + 3 = jp * 6 + 1) := by omega
              have d3_2 : ¬ (iX * 6 + 3 = jp * 6 + 2) := by omega
              have d3_3 : ¬ (iX * 6 + 3 = jp * 6 + 3) := by omega
              have d3_4 : ¬ (iX * 6 + 3 = jp * 6 + 4) := by omega
              have d3_5 : ¬ (iX * 6 + 3 = jp * 6 + 5) := by omega
              have d4_0 : ¬ (iX * 6 + 4 = jp * 6) := by omega
              have d4_1 : ¬ (iX * 6 + 4 = jp * 6 + 1) := by omega
              have d4_2 : ¬ (iX * 6 + 4 = jp * 6 + 2) := by omega
              have d4_3 : ¬ (iX * 6 + 4 = jp * 6 + 3) := by omega
              have d4_4 : ¬ (iX * 6 + 4 = jp * 6 + 4) := by omega
              have d4_5 : ¬ (iX * 6 + 4 = jp * 6 + 5) := by omega
              have d5_0 : ¬ (iX * 6 + 5 = jp * 6) := by omega
              have d5_1 : ¬ (iX * 6 + 5 = jp * 6 + 1) := by omega
              have d5_2 : ¬ (iX * 6 + 5 = jp * 6 + 2) := by omega
              have d5_3 : ¬ (iX * 6 + 5 = jp * 6 + 3) := by omega
              have d5_4 : ¬ (iX * 6 + 5 = jp * 6 + 4) := by omega
              have d5_5 : ¬ (iX * 6 + 5 = jp * 6 + 5) := by omega
              clear hlv hOd hP1 hP2 HO2 hb2 hiX t1 hml
              go_wp2_with fail
              go_big_region_o
              all_goals
                go_wp2_with fail
                go_roundw
                case rel => exact ⟨jp, by go_num, by omega, HJ2, HO3, hb3⟩
                case measure => first | (simp [intOf]; done) | (simp [intOf]; omega)
    · have HE := Lib.hid (show Own LPropH.rec 42 wr A (.slice (some ⟨g, 0, none⟩) n cap) (srt lt zs) by have h := HO.out; rw [srt_all (by have := HN.out; omega)] at h; exact h)
      go_wp2_with fail
      go_end0
      exact ⟨rfl, HE.out, hb⟩
set_option maxRecDepth 100000 in
/-- bits.Len of fewer than 9 elements: some number -/
theorem len64 (m : Nat) (h : m ≤ 8) (w : World) : Calls Tryd.prog 120 #[.int .u64 m] w fun e w' => (∃ k : Int, e = .returned (.int .i64 k)) ∧ w = w' := by
  match m, h with
  | 0, _ =>
    go_enter Tryd.func120, Tryd.ntmps120
    go_wp2_with fail
    go_ret
    exact ⟨⟨_, rfl⟩, rfl⟩
  | 1, _ =>
    go_enter Tryd.func120, Tryd.ntmps120
    go_wp2_with fail
    go_ret
    exact ⟨⟨_, rfl⟩, rfl⟩
  | 2, _ =>
    go_enter Tryd.func120, Tryd.ntmps120
    go_wp2_with fail
    go_ret
    exact ⟨⟨_, rfl⟩, rfl⟩
  | 3, _ =>
    go_enter Tryd.func120, Tryd.ntmps120
    go_wp2_with fail
    go_ret
    exact ⟨⟨_, rfl⟩, rfl⟩
  | 4, _ =>
    go_enter Tryd.func120, Tryd.ntmps120
    go_wp2_with fail
    go_ret
    exact ⟨⟨_, rfl⟩, rfl⟩
  | 5, _ =>
    go_enter Tryd.func120, Tryd.ntmps120
    go_wp2_with fail
    go_ret
    exact ⟨⟨_, rfl⟩, rfl⟩
  | 6, _ =>
    go_enter Tryd.func120, Tryd.ntmps120
    go_wp2_with fail
    go_ret
    exact ⟨⟨_, rfl⟩, rfl⟩
  | 7, _ =>
    go_enter Tryd.func120, Tryd.ntmps120
    go_wp2_with fail
    go_ret
    exact ⟨⟨_, rfl⟩, rfl⟩
  | 8, _ =>
    go_enter Tryd.func120, Tryd.ntmps120
    go_wp2_with fail
    go_ret
    exact ⟨⟨_, rfl⟩, rfl⟩
set_option maxRecDepth 100000 in
theorem len (m : Nat) (h : m ≤ 8) (w : World) : Calls Tryd.prog 99 #[.int .u64 m] w fun e w' => (∃ k : Int, e = .returned (.int .i64 k)) ∧ w = w' := by
  have HL := Lib.hid (len64 m h)
  have m0 : (0 : Int) ≤ (m : Int) := by omega
  have e1 : IntKind.u64.wrap (m : Int) = (m : Int) := IntWalk.u64_in _ (by omega)
  clear h
  go_enter Tryd.func99, Tryd.ntmps99
  go_wp2_with fail
  refine (HL.out _).mono ?_
  rintro e _ ⟨⟨k, rfl⟩, rfl⟩
  go_wp2_with fail
  go_ret
  exact ⟨⟨_, rfl⟩, rfl⟩
set_option maxRecDepth 100000 in
set_option maxHeartbeats 1600000 in
theorem pdq {A : Nat} (g cap n : Nat) (k : Int) (zs : List LPropH.R) (w : World) (h : Own LPropH.rec 42 w A (.slice (some ⟨g, 0, none⟩) n cap) zs) (h8 : n ≤ 8) :
    Calls Tryd.prog 98 #[.slice (some ⟨g, 0, none⟩) n cap, .int .i64 0, .int .i64 n, .int .i64 k, .func (.func 66) #[] #[]] w fun e w' => e = .returned (.tuple #[]) ∧ Own LPropH.rec 42 w' A (.slice (some ⟨g, 0, none⟩) n cap) (srt lt zs) ∧ Below A w w' := by
  have HI := Lib.hid (insertion g cap n zs w h (by omega))
  have h1 : (n : Int) ≤ 12 := by omega
  clear h
  go_enter Tryd.func98, Tryd.ntmps98
  go_wp2_with fail
  go_loopw [1, 2, 3, 10, 11] (fun s1 s2 s3 s10 s11 wr => s1 = .int .i64 0 ∧ s2 = .int .i64 n ∧ s3 = .int .i64 k ∧ s10 = .bool true ∧ s11 = .bool true ∧ w = wr) (fun _ _ _ _ _ _ => 0)
  case atStart => exact ⟨rfl, rfl, rfl, rfl, rfl, rfl⟩
  case round =>
    obtain ⟨rfl, rfl, rfl, rfl, rfl, rfl⟩ := hrel
    have e0 : IntKind.i64.wrap ((n : Int) - 0) = (n : Int) := by rw [Int.sub_zero]; exact IntWalk.i64_in _ (by omega)
    go_wp2_with fail
    refine HI.out.mono ?_
    rintro e w5 ⟨rfl, hO5, hb5⟩
    go_wp2_with fail
    try simp only [Exit.inBlock, Exit.then]
    refine bodyPost_ret (results_none rfl _ _ _) rfl ?_
    exact ⟨rfl, hO5, hb5⟩
set_option maxRecDepth 100000 in
set_option maxHeartbeats 1600000 in
theorem sorted {A : Nat} (g cap n : Nat) (zs : List LPropH.R) (w : World) (h : Own LPropH.rec 42 w A (.slice (some ⟨g, 0, none⟩) n cap) zs) (h8 : n ≤ 8) :
    Calls Tryd.prog 65 #[.slice (some ⟨g, 0, none⟩) n cap, .func (.func 66) #[] #[]] w fun e w' => e = .returned (.tuple #[]) ∧ Own LPropH.rec 42 w' A (.slice (some ⟨g, 0, none⟩) n cap) (srt lt zs) ∧ Below A w w' := by
  have HP := Lib.hid (fun k => pdq g cap n k zs w h h8)
  have HL := Lib.hid (len n h8)
  have m0 : (0 : Int) ≤ (n : Int) := by omega
  have e1 : IntKind.u64.wrap (n : Int) = (n : Int) := IntWalk.u64_in _ (by omega)
  clear h
  go_enter Tryd.func65, Tryd.ntmps65
  go_wp2_with fail
  refine (HL.out _).mono ?_
  rintro e _ ⟨⟨k, rfl⟩, rfl⟩
  go_wp2_with fail
  refine (HP.out k).mono ?_
  rintro e w5 ⟨rfl, hO5, hb5⟩
  go_wp2_with fail
  go_end0
  exact ⟨rfl, hO5, hb5⟩
end Go.Proofs.YtclpdpfnlmfogaaDoor.LPropHSortTog
