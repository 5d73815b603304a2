/- slices.SortStableFunc at short slices of Int: insertion. No condition but the length. -/
import Derived.Test.YtmbffcblhhippaaJ1
import Derived.Test.YtmbffcblhhippaaSrt
import Derived.BigQuiet
import Derived.BigFrame
import Derived.IntWalk
import Derived.Deep.DeepCutAuto
import Derived.Shelf.SlicesQ.Load
namespace Go.Proofs.Ytmbffcblhhippaa.LIntSortTurns
open Go Go.RowKit Bs Srt CmpI
set_option linter.unusedVariables false
def lt (key : Int → Int) (X Y : Int) : Bool := decide (cmpI (key X) (key Y) < 0)
set_option maxRecDepth 100000 in
set_option maxHeartbeats 3200000 in
theorem insertion {A : Nat} (g cap n : Nat) (zs : List LInt.R) (w : World) (key : Int → Int) (B : Nat) (hcl : ∀ (X Y : Int) (W : World), Below A w W → Calls Try.prog 57 #[.int .i64 X, .int .i64 Y, .pointer (some ⟨B, 0, none⟩)] W fun e w' => e = .returned (.int .i64 (cmpI (key X) (key Y))) ∧ Below W.heap.size W w') (h : Own LInt.rec 3 w A (.slice (some ⟨g, 0, none⟩) n cap) zs) (h20 : n ≤ 1048576) :
    Calls Try.prog 79 #[.slice (some ⟨g, 0, none⟩) n cap, .int .i64 0, .int .i64 n, .func (.func 57) #[] #[.pointer (some ⟨B, 0, none⟩)]] w fun e w' => e = .returned (.tuple #[]) ∧ Own LInt.rec 3 w' A (.slice (some ⟨g, 0, none⟩) n cap) (srt (lt key) zs) ∧ Below A w w' := by
  obtain ⟨cur0, _, _, _, hAg, hnc, hcm, hzl⟩ := own_row h
  have HN := Lib.hid hzl
  have hcm2 := hcm
  unfold maxLen at hcm2
  have HO0 := Lib.hid (show Own LInt.rec 3 w A (.slice (some ⟨g, 0, none⟩) n cap) (srt (lt key) (zs.take 1) ++ zs.drop 1) by rw [srt_one]; exact h)
  have hb0 := Below.refl A w
  have mixed : Try.prog.follows Departure.mixedOrders = true := by kernel_rfl
  have HCLO := Lib.hid hcl
  clear h hzl hcm hcl
  go_enter Try.func79, Try.ntmps79
  go_wp2_with fail
  go_loopw [8] (fun s8 wr => ∃ i : Nat, s8 = .int .i64 i ∧ 1 ≤ i ∧ i ≤ n + 1 ∧ Hid (Own LInt.rec 3 wr A (.slice (some ⟨g, 0, none⟩) n cap) (srt (lt key) (zs.take i) ++ zs.drop i)) ∧ Below A w wr) (fun s8 _ => n + 1 - (intOf s8).toNat)
  case atStart => exact ⟨1, rfl, Nat.le_refl _, by omega, HO0, hb0⟩
  case round =>
    clear HO0 hb0
    obtain ⟨i, rfl, hi1, hin, HO, hb⟩ := hrel
    by_cases hlt : i < n
    · have hx : i < zs.length := by have := HN.out; omega
      have HX := Lib.hid (List.getElem?_eq_getElem hx)
      generalize zs[i] = X at HX
      obtain ⟨P, hP⟩ : ∃ P, P = srt (lt key) (zs.take i) := ⟨_, rfl⟩
      have HPL := Lib.hid (show P.length = i by rw [hP, srt_len, List.length_take]; omega)
      have HP := Lib.hid hP
      obtain ⟨Z, hZ⟩ : ∃ Z, Z = zs.drop (i + 1) := ⟨_, rfl⟩
      have HZ := Lib.hid hZ
      have HO1 := Lib.hid (show Own LInt.rec 3 wr A (.slice (some ⟨g, 0, none⟩) n cap) (mid P X Z i) by
        have e : srt (lt key) (zs.take i) ++ zs.drop i = mid P X Z i := by
          obtain ⟨hk, hxx⟩ := List.getElem?_eq_some_iff.1 HX.out
          have e2 := mid_end P X Z
          rw [HPL.out] at e2
          rw [e2, hP, hZ, List.drop_eq_getElem_cons hk, hxx]
        rw [← e]; exact HO.out)
      have hZl : Z.length = n - (i + 1) := by rw [hZ, List.length_drop, HN.out]
      clear hP hZ HO
      have i0 : 0 ≤ (i : Int) := by omega
      go_wp2_with fail
      go_loopw [9] (fun s9 ws => ∃ j : Nat, s9 = .int .i64 j ∧ j ≤ i ∧ Hid (pos (lt key) P X i = pos (lt key) P X j) ∧ Hid (Own LInt.rec 3 ws A (.slice (some ⟨g, 0, none⟩) n cap) (mid P X Z j)) ∧ Below A w ws) (fun s9 _ => (intOf s9).toNat)
      case atStart => exact ⟨i, rfl, Nat.le_refl _, Lib.hid rfl, HO1, hb⟩
      case round =>
        clear HO1 hb
        obtain ⟨j, rfl, hji, HJ, HO, hb⟩ := hrel
        rcases j with _ | jp
        · have HE := Lib.hid (show Own LInt.rec 3 wr A (.slice (some ⟨g, 0, none⟩) n cap) (srt (lt key) (zs.take (i + 1)) ++ zs.drop (i + 1)) by
            rw [srt_next HX.out, ← HP.out, ← HZ.out, ← mid_ins HPL.out (show pos (lt key) P X i = 0 from HJ.out)]; exact HO.out)
          go_wp2_with fail
          go_cut [34] (fun t wx => t = .bool false ∧ Below wr.heap.size wr wx)
          case first =>
            go_quiet (fail)
            go_wp2_with fail
            go_meet
            exact ⟨rfl, drawn_below _ _⟩
          case rest =>
            obtain ⟨rfl, hbv⟩ := hcut
            have hb2 := hb.trans (hbv.mono (Nat.le_of_lt (by have := (HO.out.lt g rfl).2; omega)))
            have HE2 := Lib.hid (HE.out.kept hbv)
            go_wp2_with fail
            go_roundw
            case rel => exact ⟨i + 1, by go_num, by omega, by omega, HE2, hb2⟩
            case measure => first | (simp [intOf]; done) | (simp [intOf]; omega)
        · have hpj : jp < P.length := by have := HPL.out; omega
          have HY := Lib.hid (List.getElem?_eq_getElem hpj)
          generalize P[jp] = Y at HY
          have hgl := (HO.out.lt g rfl).2
          have HCX := Lib.hid (HO.out.at_ (jp + 1) X (mid_here (by have := HPL.out; omega)))
          have HCY := Lib.hid (HO.out.at_ jp Y (mid_ahead HY.out))
          have HGX := LInt.grown HCX.out hgl
          have HGY := LInt.grown HCY.out hgl
          have t1 : ((jp : Int) + 1).toNat = jp + 1 := by omega
          have t2 : IntKind.i64.wrap ((jp : Int) + 1 - 1) = (jp : Int) := by rw [show (jp : Int) + 1 - 1 = (jp : Int) by omega]; exact IntWalk.i64_in _ (by omega)
          have t3 : IntKind.i64.wrap ((jp : Int)) = (jp : Int) := IntWalk.i64_in _ (by omega)
          have t4 : (0 : Int) ≤ (jp : Int) + 1 := by omega
          have t5 : (jp : Int) + 1 < (n : Int) := by omega
          have t6 : (0 : Int) ≤ (jp : Int) := by omega
          have t7 : (jp : Int) < (n : Int) := by omega
          have t8 : (0 : Int) < (jp : Int) + 1 := by omega
          have t9 : ((jp : Int)).toNat = jp := by omega
          have HCL := Lib.hid (fun W (hW : Below wr.heap.size wr W) => HCLO.out X Y W (hb.trans (hW.mono (by have h2 := (HO.out.lt g rfl).1; have h3 := hgl; omega))))
          go_wp2_with fail
          go_cut [34] (fun t wx => t = .bool ((lt key) X Y) ∧ Below wr.heap.size wr wx)
          case first =>
            have gx := fun d os => LInt.cells (HGX.out d os)
            have gy := fun d os => LInt.cells (HGY.out d os)
            simp only [LInt.rec_n, Nat.mul_one] at gx gy
            have gx0 := fun d os => (gx d os)
            have gy0 := fun d os => (gy d os)
            clear gx gy HCX HCY
            refine wp_region_quiet_below (by kernel_rfl) (by kernel_rfl) ?_
            repeat (go_big_quiet_step ((first | (go_at_call 57; exact Calls.regrown_of (HCL.out _ (below_regrown _ _ _))))))
            refine wpQuiet_nil ?_
            intro _ hw'
            obtain ⟨⟨dq, osq⟩, hw''⟩ := hw'
            subst hw''
            go_wp2_with fail
            go_meet
            exact ⟨rfl, below_regrown _ _ _⟩
          case rest =>
            obtain ⟨rfl, hbv⟩ := hcut
            have hb2 := hb.trans (hbv.mono (by have h2 := (HO.out.lt g rfl).1; have h3 := hgl; omega))
            have HO2 := Lib.hid (HO.out.kept hbv)
            clear HGX HGY HCX HCY HO hb hbv
            cases hlv : (lt key) X Y with
            | false =>
              have HE2 := Lib.hid (show Own LInt.rec 3 wc A (.slice (some ⟨g, 0, none⟩) n cap) (srt (lt key) (zs.take (i + 1)) ++ zs.drop (i + 1)) by
                rw [srt_next HX.out, ← HP.out, ← HZ.out, ← mid_ins HPL.out (show pos (lt key) P X i = jp + 1 by rw [HJ.out]; exact pos_stop HY.out hlv)]; exact HO2.out)
              clear hlv
              go_wp2_with fail
              go_roundw
              case rel => exact ⟨i + 1, by go_num, by omega, by omega, HE2, hb2⟩
              case measure => first | (simp [intOf]; done) | (simp [intOf]; omega)
            | true =>
              have HJ2 := Lib.hid (show pos (lt key) P X i = pos (lt key) P X jp by rw [HJ.out]; exact pos_go HY.out hlv)
              have hOd : Own LInt.rec 3 wc A (.slice (some ⟨g, 0, none⟩) n cap) (mid P X Z (jp + 1)) := HO2.out
              have hml : (mid P X Z (jp + 1)).length = n := by rw [mid_len (by omega), HPL.out]; omega
              obtain ⟨iX, hiX⟩ : ∃ q, q = jp + 1 := ⟨_, rfl⟩
              have t1' : ((jp : Int) + 1).toNat = iX := by omega
              have hP1 := LInt.putAll hml hOd iX X Y (by rw [hiX]; exact mid_here (by have := HPL.out; omega))
              have hP2 := LInt.putAll (by rw [List.length_set]; exact hml) hP1 jp Y X (by rw [List.getElem?_set_ne (by omega)]; exact mid_ahead HY.out)
              rw [hiX, mid_swap HY.out, ← hiX] at hP2
              have HO3 := Lib.hid (hP2.kept (Below.drew (Below.refl _ _)))
              have hgA : A ≤ g := (HO2.out.lt g rfl).1
              have hb3 : Below A w _ := Below.drew ((Below.setCell (Below.setCell hb2 (show A ≤ (⟨g, iX, none⟩ : Addr).block from hgA) (.int .i64 Y)) (show A ≤ (⟨g, jp, none⟩ : Addr).block from hgA) (.int .i64 X)))
              have c1 := LInt.cells (HO2.out.at_ (jp + 1) X (mid_here (by have := HPL.out; omega)))
              have c2 := LInt.cells (HO2.out.at_ jp Y (mid_ahead HY.out))
              simp only [LInt.rec_n, Nat.mul_one, ← hiX] at c1 c2
              have x0 := c1
              have y0 := c2
              have hfz : ∀ o, wc.frozen? ⟨g, o, none⟩ = false := fun o => Own.frozen hml HO2.out o
              have d0_0 : ¬ (iX = jp) := by omega
              clear hlv hOd hP1 hP2 HO2 hb2 hiX t1 hml
              go_wp2_with fail
              go_big_region_o
              all_goals
                go_wp2_with fail
                go_roundw
                case rel => exact ⟨jp, by go_num, by omega, HJ2, HO3, hb3⟩
                case measure => first | (simp [intOf]; done) | (simp [intOf]; omega)
    · have HE := Lib.hid (show Own LInt.rec 3 wr A (.slice (some ⟨g, 0, none⟩) n cap) (srt (lt key) zs) by have h := HO.out; rw [srt_all (by have := HN.out; omega)] at h; exact h)
      go_wp2_with fail
      go_end0
      exact ⟨rfl, HE.out, hb⟩
set_option maxRecDepth 100000 in
set_option maxHeartbeats 1600000 in
theorem stable {A : Nat} (v : Value) (n : Nat) (zs : List LInt.R) (w : World) (key : Int → Int) (B : Nat) (hcl : ∀ (X Y : Int) (W : World), Below A w W → Calls Try.prog 57 #[.int .i64 X, .int .i64 Y, .pointer (some ⟨B, 0, none⟩)] W fun e w' => e = .returned (.int .i64 (cmpI (key X) (key Y))) ∧ Below W.heap.size W w') (h : Own LInt.rec 3 w A v zs) (hn : zs.length = n) (h20 : n < 20) (a : Option Addr) (cap : Nat) (hv : v = .slice a n cap) :
    Calls Try.prog 71 #[v, .int .i64 n, .func (.func 57) #[] #[.pointer (some ⟨B, 0, none⟩)]] w fun e w' => e = .returned (.tuple #[]) ∧ Own LInt.rec 3 w' A v (srt (lt key) zs) ∧ Below A w w' := by
  subst hv
  have h1 : ¬ ((20 : Int) ≤ (n : Int)) := by omega
  have h2 : ¬ ((20 : Int) < (n : Int)) := by omega
  rcases h.shape with ⟨e, hnil⟩ | ⟨g, cap', e, _⟩
  · simp only [Value.slice.injEq] at e
    obtain ⟨rfl, rfl, rfl⟩ := e
    subst hnil
    have HE := Lib.hid (show Own LInt.rec 3 w A (.slice none 0 0) (srt (lt key) ([] : List LInt.R)) from h)
    have HI := Lib.hid (show Calls Try.prog 79 #[.slice none 0 0, .int .i64 0, .int .i64 0, .func (.func 57) #[] #[.pointer (some ⟨B, 0, none⟩)]] w fun e w' => e = .returned (.tuple #[]) ∧ w = w' by
      clear HE h hn h1 h2 hcl
      go_enter Try.func79, Try.ntmps79
      go_wp2_with fail
      go_loopw [8] (fun s8 wr => s8 = .int .i64 1 ∧ w = wr) (fun s8 _ => 0)
      case atStart => exact ⟨rfl, rfl⟩
      case round =>
        obtain ⟨rfl, rfl⟩ := hrel
        go_wp2_with fail
        go_end0
        exact ⟨rfl, rfl⟩)
    clear h hn hcl
    go_enter Try.func71, Try.ntmps71
    go_wp2_with fail
    go_loopw [7, 8] (fun s7 s8 wr => s7 = .int .i64 0 ∧ s8 = .int .i64 20 ∧ w = wr) (fun s7 s8 _ => 0)
    case atStart => exact ⟨rfl, rfl, rfl⟩
    case round =>
      obtain ⟨rfl, rfl, rfl⟩ := hrel
      go_wp2_with fail
      refine HI.out.mono ?_
      rintro e _ ⟨rfl, rfl⟩
      go_wp2_with fail
      go_loopw [6, 7, 8] (fun s6 s7 s8 wr => s6 = .int .i64 20 ∧ s7 = .int .i64 0 ∧ s8 = .int .i64 20 ∧ w = wr) (fun s6 s7 s8 _ => 0)
      case atStart => exact ⟨rfl, rfl, rfl, rfl⟩
      case round =>
        obtain ⟨rfl, rfl, rfl, rfl⟩ := hrel
        go_wp2_with fail
        go_end0
        exact ⟨rfl, HE.out, Below.refl _ _⟩
  · simp only [Value.slice.injEq] at e
    obtain ⟨rfl, h9, rfl⟩ := e
    clear h9
    have HI := Lib.hid (insertion g cap n zs w key B hcl h (by omega))
    clear h hn hcl
    go_enter Try.func71, Try.ntmps71
    go_wp2_with fail
    go_loopw [7, 8] (fun s7 s8 wr => s7 = .int .i64 0 ∧ s8 = .int .i64 20 ∧ w = wr) (fun s7 s8 _ => 0)
    case atStart => exact ⟨rfl, rfl, rfl⟩
    case round =>
      obtain ⟨rfl, rfl, rfl⟩ := hrel
      go_wp2_with fail
      refine HI.out.mono ?_
      rintro e w5 ⟨rfl, hO5, hb5⟩
      go_wp2_with fail
      go_loopw [6, 7, 8] (fun s6 s7 s8 wr => s6 = .int .i64 20 ∧ s7 = .int .i64 0 ∧ s8 = .int .i64 20 ∧ w5 = wr) (fun s6 s7 s8 _ => 0)
      case atStart => exact ⟨rfl, rfl, rfl, rfl⟩
      case round =>
        obtain ⟨rfl, rfl, rfl, rfl⟩ := hrel
        go_wp2_with fail
        go_end0
        exact ⟨rfl, hO5, hb5⟩
theorem sorted {A : Nat} (v : Value) (zs : List LInt.R) (w : World) (key : Int → Int) (B : Nat) (hcl : ∀ (X Y : Int) (W : World), Below A w W → Calls Try.prog 57 #[.int .i64 X, .int .i64 Y, .pointer (some ⟨B, 0, none⟩)] W fun e w' => e = .returned (.int .i64 (cmpI (key X) (key Y))) ∧ Below W.heap.size W w') (h : Own LInt.rec 3 w A v zs) (h20 : zs.length < 20) :
    Calls Try.prog 56 #[v, .func (.func 57) #[] #[.pointer (some ⟨B, 0, none⟩)]] w fun e w' => e = .returned (.tuple #[]) ∧ Own LInt.rec 3 w' A v (srt (lt key) zs) ∧ Below A w w' := by
  obtain ⟨a, c, e, _⟩ := h.is
  obtain ⟨n, hn⟩ : ∃ n, n = zs.length := ⟨_, rfl⟩
  have HS := Lib.hid (stable v n zs w key B hcl h hn.symm (by omega) a c (by rw [hn]; exact e))
  rw [← hn] at e
  clear h h20 hn hcl
  subst e
  go_enter Try.func56, Try.ntmps56
  go_wp2_with fail
  refine HS.out.mono ?_
  rintro e w' ⟨rfl, hO, hb⟩
  go_wp2_with fail
  go_end0
  exact ⟨rfl, hO, hb⟩
end Go.Proofs.Ytmbffcblhhippaa.LIntSortTurns
