/- The draw of voters. No condition. -/
import Derived.Test.YtdjnaoaniokbgaaDrawVp
import Derived.Test.YtdjnaoaniokbgaaJ1
import Derived.Test.YtdjnaoaniokbgaaGiveProxyC
import Derived.Deep.DeepCutAuto
import Derived.Deep.CutBlock
import Derived.Deep.LoopGhost
namespace Go.Proofs.Ytdjnaoaniokbgaa.Draw
open Go.RowKit Cur Bs Vo
set_option linter.unusedVariables false
theorem vofine (r : LVoters.R) : LVoters.Fine r := ⟨fun _ _ => trivial, fun _ _ => trivial⟩
theorem give_true {r r0 : LVoters.R} {a b : Int} (h : GiveProxyC.Ans r a b r0 true) : r0.weights = r.weights ∧ r0.proxies.length ≤ 12 := by
  unfold GiveProxyC.Ans GiveProxyC.answer at h
  split at h
  · rename_i hg
    rw [Bool.and_eq_true] at hg
    have h1 := congrArg Prod.fst h; simp only at h1; subst h1
    exact ⟨rfl, (VoX.lens (good_of hg.2)).2⟩
  · have := congrArg Prod.snd h; cases this
set_option maxRecDepth 100000 in
set_option maxHeartbeats 3200000 in
theorem voters (B m : Nat) (w : World) (h : Cur w B m) (hm : m < 500000) : Calls Try.prog 61 #[.pointer (some ⟨B, 0, none⟩)] w (VoOf w B (m + 100)) := by
  obtain ⟨i0, hi, hz0, hz1, hz2⟩ := info_parts LInt.infoK
  have HI0 := Lib.hid hi
  have HZ0 := Lib.hid (And.intro hz0 (And.intro hz1 hz2))
  clear hi hz0 hz1 hz2
  obtain ⟨i1, hi, hz0, hz1, hz2⟩ := info_parts LProxy.infoK
  have HI1 := Lib.hid hi
  have HZ1 := Lib.hid (And.intro hz0 (And.intro hz1 hz2))
  clear hi hz0 hz1 hz2
  have hBl := h.lt
  obtain ⟨R, hR⟩ : ∃ R, R = w.heap.size := ⟨_, rfl⟩
  obtain ⟨G, hG⟩ : ∃ G, G = R + 1 := ⟨_, rfl⟩
  obtain ⟨W, hW⟩ : ∃ W : World, W = (w.alloc (.cells #[.slice none 0 0, .slice none 0 0] 27)).alloc (.cells #[.slice none 0 0, .slice none 0 0] 27) := ⟨_, rfl⟩
  have HV0 := Lib.hid (show Vp w R G B m (.slice none 0 0) (.slice none 0 0) (.slice none 0 0) (.slice none 0 0) ⟨[], []⟩ W by
    rw [hW, hG, hR]
    exact ⟨((Live.start h).alloc _).alloc _, by have := Bx.new (w.alloc (.cells #[.slice none 0 0, .slice none 0 0] 27)) 27 #[.slice none 0 0, .slice none 0 0]; simpa using this, (Bx.new _ _ _).alloc _, Own.nil, Own.nil, dist_none, by omega, Nat.le_refl _⟩)
  have HRG := Lib.hid (And.intro hR hG)
  clear h
  go_enter Try.func61, Try.ntmps61
  go_wp2_with fail
  rw [← hW, ← hR, ← hG]
  clear hW hR hG
  refine (pick B _ 8 _ HV0.out.live.cur (by omega) (by omega) (by omega)).mono ?_
  rintro e w1 ⟨q, rfl, q0, q1, hc, hg⟩
  obtain ⟨q, rfl⟩ := Int.eq_ofNat_of_zero_le q0
  have HV1 := Lib.hid (HV0.out.draw hc hg)
  clear hc hg HV0
  go_wp2_with fail
  go_loopw [4] (fun s4 wr => ∃ (n : Nat) (b0 : Option Addr) (m0 d0 : Nat) (b1 : Option Addr) (m1 d1 : Nat) (r : LVoters.R), s4 = .int .i64 n ∧ n + r.weights.length ≤ 7 ∧ r.proxies = [] ∧ Hid (Vp w R G B (m + 2 + 2 * r.weights.length) (.slice b0 m0 d0) (.slice b1 m1 d1) (.slice b0 m0 d0) (.slice b1 m1 d1) r wr)) (fun s4 _ => (intOf s4).toNat)
  case atStart => exact ⟨q, none, 0, 0, none, 0, 0, ⟨[], []⟩, rfl, by show q + 0 ≤ 7; omega, rfl, HV1⟩
  case round =>
    clear HV1 q0 q1
    obtain ⟨n, b0, m0, d0, b1, m1, d1, r, rfl, hn, hP, HV⟩ := hrel
    have HB0 := Lib.hid (show r.weights.length ≤ 7 by omega)
    have HB1 := Lib.hid (show r.proxies.length ≤ 14 by rw [hP]; simp)
    rcases n with _ | n
    rotate_left
    · have k0 : (0 : Int) < (n : Int) + 1 := by omega
      have e1 : IntKind.i64.wrap ((n : Int) + 1 - 1) = (n : Int) := by rw [show (n : Int) + 1 - 1 = n by omega]; exact IntWalk.i64_in _ (by omega)
      go_upto_region 5 with fail
      have hV := HV.out.kept ((Below.refl wr.heap.size wr).drew)
      have HK := Lib.hid (show ∀ (w' : World) (mm : Nat) (t0 t1 : Value) (q : LVoters.R), Vp w R G B mm (.slice b0 m0 d0) (.slice b1 m1 d1) t0 t1 q w' → w'.cell? ⟨G, 0, none⟩ = some (.slice b0 m0 d0) ∧ w'.cell? ⟨G, 1, none⟩ = some (.slice b1 m1 d1) from fun w' mm t0 t1 q h => h.cells)
      refine wp_region_preN (S := fun w' => w'.cell? ⟨G, 0, none⟩ = some (.slice b0 m0 d0) ∧ w'.cell? ⟨G, 1, none⟩ = some (.slice b1 m1 d1)) 7 2 (by kernel_rfl) (by kernel_rfl) (by kernel_rfl) (by kernel_rfl) (HK.out _ _ _ _ _ hV) (fun R hR hHeld => ?_)
      simp only [List.take_succ_cons, List.take_zero]
      generalize wr.drew = x0 at *
      clear HV
      refine wpAnyH_take (i := 0) (v := ?v1001) rfl (by kernel_rfl) (by kernel_rfl) (by kernel_rfl) (fun _ _ _ h => h) (Or.inl ⟨by rfl, ?hy1001⟩) (by assumption) ?rest1001
      case hy1001 => (intro wq hSw; (try dsimp only at hSw); go_split_ands; go_simp; (try with_reducible rfl))
      case rest1001 =>
      refine wpAnyH_take (i := 1) (v := ?v1002) rfl (by kernel_rfl) (by kernel_rfl) (by kernel_rfl) (fun _ _ _ h => h) (Or.inl ⟨by rfl, ?hy1002⟩) (by assumption) ?rest1002
      case hy1002 => (intro wq hSw; (try dsimp only at hSw); go_split_ands; go_simp; (try with_reducible rfl))
      case rest1002 =>
      refine wpAnyH_take (i := 2) (v := ?v1003) rfl (by kernel_rfl) (by kernel_rfl) (by kernel_rfl) (fun _ _ _ h => h) (Or.inl ⟨by rfl, ?hy1003⟩) (by assumption) ?rest1003
      case hy1003 => (intro wq hSw; (try dsimp only at hSw); go_split_ands; go_simp; (try with_reducible rfl))
      case rest1003 =>
      refine wpAnyH_ready (rs := [3]) (by kernel_rfl) (by simp) ?_
      refine AllReadyH.cons rfl (fun K hK => ?step1004) ?more1004
      case step1004 =>
        go_simp
        refine hK.out _ _ (HK.out _ _ _ _ _ (hV.alloc _)) (fun hHeld => ?_)
        clear hK K
        have hXL := Bx.new x0 3 #[.int .i64 0, .int .i64 1, .int .i64 1, .int .i64 2, .int .i64 10, .int .i64 100]
        have hgbL : x0.heap.size ≠ B := by have := hV.box.lt; have := hV.gb; omega
        replace hV := hV.alloc (Obj.cells #[.int .i64 0, .int .i64 1, .int .i64 1, .int .i64 2, .int .i64 10, .int .i64 100] 3)
        generalize x0.alloc (Obj.cells #[.int .i64 0, .int .i64 1, .int .i64 1, .int .i64 2, .int .i64 10, .int .i64 100] 3) = x1 at *
        generalize x0.heap.size = gLx1 at *
        refine wpAnyH_ready (rs := [4]) (by kernel_rfl) (by simp) ?_
        refine AllReadyH.cons rfl (fun K hK => ?step1005) ?more1005
        case step1005 =>
          go_simp
          go_at_call 68
          refine (among_pre B _ gLx1 6 [(0 : Int), (1 : Int), (1 : Int), (2 : Int), (10 : Int), (100 : Int)] x1 hV.live.cur (by omega) hXL hgbL (by omega) (by simp) (by simp)).mono ?_
          rintro e x2 ⟨x, hx, rfl, hc, hg⟩
          replace hXL := Bx.grown hXL hg hgbL
          replace hV := hV.draw hc hg
          clear hc hg
          go_wp2_with fail
          refine hK.out _ _ (HK.out _ _ _ _ _ hV) (fun hHeld => ?_)
          clear hK K
          refine wpAnyH_ready (rs := [5]) (by kernel_rfl) (by simp) ?_
          refine AllReadyH.cons rfl (fun K hK => ?step1006) ?more1006
          case step1006 =>
            go_simp
            refine hK.out _ _ (HK.out _ _ _ _ _ (hV.alloc _)) (fun hHeld => ?_)
            clear hK K
            replace hXL := Bx.alloc hXL (Obj.cells #[.int .i64 x] 3)
            have hXQ := Bx.new x2 3 #[.int .i64 x]
            have hgbQ : x2.heap.size ≠ B := by have := hV.box.lt; have := hV.gb; omega
            replace hV := hV.alloc (Obj.cells #[.int .i64 x] 3)
            generalize x2.alloc (Obj.cells #[.int .i64 x] 3) = x3 at *
            generalize x2.heap.size = gQx3 at *
            refine wpAnyH_ready (rs := [6]) (by kernel_rfl) (by simp) ?_
            refine AllReadyH.cons rfl (fun K hK => ?step1007) ?more1007
            case step1007 =>
              have hlo : G + 1 ≤ x3.heap.size := hV.box.lt
              refine step_append_o (T := LInt.rec) (by rfl) (.tmp 16) (.tmp 20) 24 (by rfl) (G + 1) 3 i0 (.int .i64 0) 8 Try.underlying24 HI0.out HZ0.out.1 HZ0.out.2.1 HZ0.out.2.2 (by decide) _ _ (by rfl) hV.o0 (some ⟨gQx3, 0, none⟩) 1 1 [x] (by rfl) (by rfl) (src_one (T := LInt.rec) hXQ) (by have := HB0.out; have := HB1.out; unfold maxLen; omega) (by have := HB0.out; have := HB1.out; omega) hlo ?_
              intro vx4 x4 hown hgrow hnn hat
              obtain ⟨e0, k0, f0, hvv⟩ := own_slice hown
              subst hvv
              have hV2 := hV.app0 hown hgrow hat
              clear hlo hV hown hgrow hat hnn hXL hgbL hXQ hgbQ
              have hV := hV2
              clear hV2
              refine hK.out _ _ (HK.out _ _ _ _ _ hV) (fun hHeld => ?_)
              clear hK K
              refine wpAnyH_done (by kernel_rfl) ?_ _
              refine hR.out _ _ (fun hHeld2 => ?_)
              clear hR
              skip
              refine wpAnyH_take (i := 7) (v := ?v1501) rfl (by kernel_rfl) (by kernel_rfl) (by kernel_rfl) (fun _ _ _ h => h) (Or.inl ⟨by rfl, ?hy1501⟩) (by assumption) ?rest1501
              case hy1501 => (intro wq hSw; (try dsimp only at hSw); go_split_ands; go_simp; (try with_reducible rfl))
              case rest1501 =>
              refine wpAnyH_ready (rs := [8]) (by kernel_rfl) (by simp) ?_
              refine AllReadyH.cons rfl (fun K hK => ?step1502) ?more1502
              case step1502 =>
                have sf := hV.box.frozen 0
                have sc := hV.cells.1
                go_simp
                refine hK.out _ _ trivial (fun hHeld => ?_)
                clear hK K
                have hV2 := hV.set0 (.slice e0 k0 f0)
                clear hV sf sc
                have hV := hV2
                clear hV2
                generalize x4.setCell ⟨G, 0, none⟩ (.slice e0 k0 f0) = x5 at *
                refine wpAnyH_done (by kernel_rfl) ?_ _
                have HVx := Lib.hid (hV.mono (m' := m + 2 + 2 * (r.weights ++ [x]).length) (by simp; omega))
                clear hV
                go_wp2_with fail
                go_roundw
                case rel => exact ⟨n, e0, k0, f0, b1, m1, d1, ⟨r.weights ++ [x], r.proxies⟩, by go_num, by show n + (r.weights ++ [x]).length ≤ 7; simp; omega, hP, HVx⟩
                case measure => (simp [intOf] <;> omega)
              case more1502 => exact AllReadyH.nil
            case more1007 => exact AllReadyH.nil
          case more1006 => exact AllReadyH.nil
        case more1005 => exact AllReadyH.nil
      case more1004 => exact AllReadyH.nil
    · have HM0 := Lib.hid (isq_len HV.out.o0.isQ).1
      have HRN := Lib.hid (show r.weights.length = m0 from HM0.out)
      obtain ⟨N, hN⟩ : ∃ N, N = m0 := ⟨_, rfl⟩
      have HV2 := Lib.hid (HV.out.mono (m' := m + 16 + 4 * 0) (by omega))
      have HNN := Lib.hid (show r.weights.length = N by rw [hN]; exact HM0.out)
      have HN7 := Lib.hid (show N ≤ 7 by have := HNN.out; omega)
      go_wp2_with fail
      clear HV HRN hN
      go_loopw [5] (fun s5 wr => ∃ (k : Nat) (b0 : Option Addr) (m0 d0 : Nat) (b1 : Option Addr) (m1 d1 : Nat) (r : LVoters.R), s5 = .int .i64 k ∧ k ≤ N ∧ r.weights.length = N ∧ r.proxies.length ≤ 12 ∧ Hid (Vp w R G B (m + 16 + 4 * k) (.slice b0 m0 d0) (.slice b1 m1 d1) (.slice b0 m0 d0) (.slice b1 m1 d1) r wr)) (fun s5 _ => N - (intOf s5).toNat)
      case atStart => exact ⟨0, b0, m0, d0, b1, m1, d1, r, rfl, Nat.zero_le _, HNN.out, by rw [hP]; simp, HV2⟩
      case round =>
        clear HV2 HNN HB0 HB1 HM0 hP hn
        obtain ⟨k, b0, m0, d0, b1, m1, d1, r, rfl, hk, hrn, hp12, HV⟩ := hrel
        have HRN := Lib.hid hrn
        have HB0 := Lib.hid (show r.weights.length ≤ 7 by have := HN7.out; omega)
        have HB1 := Lib.hid hp12
        have HM0 := Lib.hid (isq_len HV.out.o0.isQ).1
        have HMN := Lib.hid (show m0 = N by have := HM0.out; omega)
        obtain ⟨sc0, sc1⟩ := HV.out.cells
        by_cases hlt : k < m0
        · have k0 : (k : Int) < (m0 : Int) := by omega
          go_wp2_with fail
          refine (one B _ 2 _ HV.out.live.cur (by have := HN7.out; omega) (by omega) (by omega)).mono ?_
          rintro e w2 ⟨bb, rfl, hc, hg⟩
          have HV2 := Lib.hid (HV.out.draw hc hg)
          clear hc hg HV sc0 sc1
          have hN7 : m0 ≤ 7 := by have := HN7.out; have := HMN.out; omega
          cases bb with
          | false =>
            have HV9 := Lib.hid (HV2.out.mono (m' := m + 16 + 4 * (k + 1)) (by omega))
            go_wp2_with fail
            go_roundw
            case rel => exact ⟨_, _, _, _, _, _, _, _, _, _, _, _, _, _, _, _, _, _, _, _, _, _, _, _, _, ⟨k + 1, b0, m0, d0, b1, m1, d1, r, by go_num, by have := HMN.out; omega, HRN.out, HB1.out, HV9⟩, rfl⟩
            case measure => (have := HMN.out; simp [intOf]; omega)
          | true =>
            have HV := HV2
            clear HV2
            go_upto_region 10 with fail
            have hV := HV.out.kept ((Below.refl w2.heap.size w2).drew)
            have HK := Lib.hid (show ∀ (w' : World) (mm : Nat) (t0 t1 : Value) (q : LVoters.R), Vp w R G B mm (.slice b0 m0 d0) (.slice b1 m1 d1) t0 t1 q w' → w'.cell? ⟨G, 0, none⟩ = some (.slice b0 m0 d0) ∧ w'.cell? ⟨G, 1, none⟩ = some (.slice b1 m1 d1) from fun w' mm t0 t1 q h => h.cells)
            refine wp_region_held_drew (S := fun w' => w'.cell? ⟨G, 0, none⟩ = some (.slice b0 m0 d0) ∧ w'.cell? ⟨G, 1, none⟩ = some (.slice b1 m1 d1)) (by kernel_rfl) (HK.out _ _ _ _ _ hV) (fun hHeld => ?_)
            generalize w2.drew = x0 at *
            clear HV
            refine wpAnyH_take (i := 0) (v := ?v2501) rfl (by kernel_rfl) (by kernel_rfl) (by kernel_rfl) (fun _ _ _ h => h) (Or.inl ⟨by rfl, ?hy2501⟩) (by assumption) ?rest2501
            case hy2501 => (intro wq hSw; (try dsimp only at hSw); go_split_ands; go_simp; (try with_reducible rfl))
            case rest2501 =>
            refine wpAnyH_take (i := 1) (v := ?v2502) rfl (by kernel_rfl) (by kernel_rfl) (by kernel_rfl) (fun _ _ _ h => h) (Or.inl ⟨by rfl, ?hy2502⟩) (by assumption) ?rest2502
            case hy2502 => (intro wq hSw; (try dsimp only at hSw); go_split_ands; go_simp; (try with_reducible rfl))
            case rest2502 =>
            refine wpAnyH_take (i := 2) (v := ?v2503) rfl (by kernel_rfl) (by kernel_rfl) (by kernel_rfl) (fun _ _ _ h => h) (Or.inl ⟨by rfl, ?hy2503⟩) (by assumption) ?rest2503
            case hy2503 => (intro wq hSw; (try dsimp only at hSw); go_split_ands; go_simp; (try with_reducible rfl))
            case rest2503 =>
            refine wpAnyH_take (i := 3) (v := ?v2504) rfl (by kernel_rfl) (by kernel_rfl) (by kernel_rfl) (fun _ _ _ h => h) (Or.inl ⟨by rfl, ?hy2504⟩) (by assumption) ?rest2504
            case hy2504 => (intro wq hSw; (try dsimp only at hSw); go_split_ands; go_simp; (try with_reducible rfl))
            case rest2504 =>
            refine wpAnyH_take (i := 4) (v := ?v2505) rfl (by kernel_rfl) (by kernel_rfl) (by kernel_rfl) (fun _ _ _ h => h) (Or.inl ⟨by rfl, ?hy2505⟩) (by assumption) ?rest2505
            case hy2505 => (intro wq hSw; (try dsimp only at hSw); go_split_ands; go_simp; (try with_reducible rfl))
            case rest2505 =>
            refine wpAnyH_take (i := 5) (v := ?v2506) rfl (by kernel_rfl) (by kernel_rfl) (by kernel_rfl) (fun _ _ _ h => h) (Or.inl ⟨by rfl, ?hy2506⟩) (by assumption) ?rest2506
            case hy2506 => (intro wq hSw; (try dsimp only at hSw); go_split_ands; go_simp; (try with_reducible rfl))
            case rest2506 =>
            refine wpAnyH_ready (rs := [6, 11]) (by kernel_rfl) (by simp) ?_
            refine AllReadyH.cons rfl (fun K hK => ?step2507) ?more2507
            case step2507 =>
              go_simp
              go_at_call 67
              refine (pick B _ (m0 : Nat) x0 hV.live.cur (by omega) (by omega) (by omega)).mono ?_
              rintro e x1 ⟨y, rfl, y0, y1, hc, hg⟩
              replace hV := hV.draw hc hg
              clear hc hg
              go_wp2_with fail
              refine hK.out _ _ (HK.out _ _ _ _ _ hV) (fun hHeld => ?_)
              clear hK K
              refine wpAnyH_ready (rs := [7, 11]) (by kernel_rfl) (by simp) ?_
              refine AllReadyH.cons rfl (fun K hK => ?step2508) ?more2508
              case step2508 =>
                go_simp
                go_at_call 28
                refine (GiveProxyC.spec _ r (k : Nat) y x1 ⟨_, _, rfl, hV.o0.isQ, hV.o1.isQ⟩ (vofine r) (by have := HB0.out; omega) (by have := HB1.out; omega)).mono ?_
                rintro e x2 ⟨vq, r0, r1, rfl, hans, hOq, hbc⟩
                obtain ⟨u0, u1, rfl, p0, p1, d01⟩ := hOq
                obtain ⟨b3, m3, d3, rfl⟩ := own_slice p0
                obtain ⟨b4, m4, d4, rfl⟩ := own_slice p1
                have hlo : G + 1 ≤ x1.heap.size := hV.box.lt
                replace p0 := p0.low hlo
                replace p1 := p1.low hlo
                replace hV := hV.kept hbc
                clear hbc hlo
                go_wp2_with fail
                refine hK.out _ _ (HK.out _ _ _ _ _ hV) (fun hHeld => ?_)
                clear hK K
                refine wpAnyH_take (i := 8) (v := ?v2509) rfl (by kernel_rfl) (by kernel_rfl) (by kernel_rfl) (fun _ _ _ h => h) (Or.inl ⟨by rfl, ?hy2509⟩) (by assumption) ?rest2509
                case hy2509 => (intro wq hSw; (try dsimp only at hSw); go_split_ands; go_simp; (try with_reducible rfl))
                case rest2509 =>
                refine wpAnyH_take (i := 9) (v := ?v2510) rfl (by kernel_rfl) (by kernel_rfl) (by kernel_rfl) (fun _ _ _ h => h) (Or.inl ⟨by rfl, ?hy2510⟩) (by assumption) ?rest2510
                case hy2510 => (intro wq hSw; (try dsimp only at hSw); go_split_ands; go_simp; (try with_reducible rfl))
                case rest2510 =>
                refine wpAnyH_take (i := 10) (v := ?v2511) rfl (by kernel_rfl) (by kernel_rfl) (by kernel_rfl) (fun _ _ _ h => h) (Or.inl ⟨by rfl, ?hy2511⟩) (by assumption) ?rest2511
                case hy2511 => (intro wq hSw; (try dsimp only at hSw); go_split_ands; go_simp; (try with_reducible rfl))
                case rest2511 =>
                refine wpAnyH_ready (rs := [11]) (by kernel_rfl) (by simp) ?_
                refine AllReadyH.cons rfl (fun K hK => ?step2512) ?more2512
                case step2512 =>
                  go_simp
                  refine hK.out _ _ (HK.out _ _ _ _ _ (hV.alloc _)) (fun hHeld => ?_)
                  clear hK K
                  have hNs := hV.under
                  have hNp : (∀ kk, (Value.slice b3 m3 d3).ownBlock = some kk → kk ≠ x2.heap.size) ∧ ∀ kk, (Value.slice b4 m4 d4).ownBlock = some kk → kk ≠ x2.heap.size := ⟨fun kk hk => by have := (p0.lt kk hk).2; omega, fun kk hk => by have := (p1.lt kk hk).2; omega⟩
                  replace p0 := Own.alloc p0 (Obj.cells #[.slice none 0 0, .slice none 0 0] 27)
                  replace p1 := Own.alloc p1 (Obj.cells #[.slice none 0 0, .slice none 0 0] 27)
                  have hXN := Bx.new x2 27 #[.slice none 0 0, .slice none 0 0]
                  have hgbN : x2.heap.size ≠ B := by have := hV.box.lt; have := hV.gb; omega
                  replace hV := hV.alloc (Obj.cells #[.slice none 0 0, .slice none 0 0] 27)
                  generalize x2.alloc (Obj.cells #[.slice none 0 0, .slice none 0 0] 27) = x3 at *
                  generalize x2.heap.size = gNx3 at *
                  refine wpAnyH_ready (rs := [12]) (by kernel_rfl) (by simp) ?_
                  refine AllReadyH.cons rfl (fun K hK => ?step2513) ?more2513
                  case step2513 =>
                    have sf0 := Bx.frozen hXN 0
                    have sf1 := Bx.frozen hXN 1
                    have sc0 := Bx.cell hXN 0
                    have sc1 := Bx.cell hXN 1
                    simp only [List.getElem?_toArray, List.getElem?_cons_zero, List.getElem?_cons_succ] at sc0 sc1
                    have hV2 := (hV.far (p := ⟨gNx3, 0, none⟩) hNs.1 hNs.2.1 hNs.2.2 (.slice b3 m3 d3)).far (p := ⟨gNx3, 1, none⟩) hNs.1 hNs.2.1 hNs.2.2 (.slice b4 m4 d4)
                    have hN2 := Bx.set_ (Bx.set_ hXN 0 (.slice b3 m3 d3)) 1 (.slice b4 m4 d4)
                    have p2 := own_set (own_set p0 (p := ⟨gNx3, 0, none⟩) hNp.1 (.slice b3 m3 d3)) (p := ⟨gNx3, 1, none⟩) hNp.1 (.slice b4 m4 d4)
                    have p3 := own_set (own_set p1 (p := ⟨gNx3, 0, none⟩) hNp.2 (.slice b3 m3 d3)) (p := ⟨gNx3, 1, none⟩) hNp.2 (.slice b4 m4 d4)
                    go_simp
                    refine hK.out _ _ (HK.out _ _ _ _ _ hV2) (fun hHeld => ?_)
                    clear hK K hV p0 p1 hXN sf0 sf1 sc0 sc1
                    have hV := hV2
                    have p0 := p2
                    have p1 := p3
                    have hXN := hN2
                    clear hV2 p2 p3 hN2
                    generalize ((x3.setCell ⟨gNx3, 0, none⟩ (.slice b3 m3 d3)).setCell ⟨gNx3, 1, none⟩ (.slice b4 m4 d4)) = x4 at *
                    simp at hXN
                    refine wpAnyH_take (i := 13) (v := ?v2514) rfl (by kernel_rfl) (by kernel_rfl) (by kernel_rfl) (fun _ _ _ h => h) (Or.inl ⟨by rfl, ?hy2514⟩) (by assumption) ?rest2514
                    case hy2514 => (intro wq hSw; (try dsimp only at hSw); go_split_ands; go_simp; (try with_reducible rfl))
                    case rest2514 =>
                    refine wpAnyH_done (by kernel_rfl) ?_ _
                    have HVx := Lib.hid hV
                    have HP0 := Lib.hid p0
                    have HP1 := Lib.hid p1
                    have HXN := Lib.hid hXN
                    have HAN := Lib.hid hans
                    have HD := Lib.hid d01
                    clear hV p0 p1 hXN hans d01 hNs hNp hgbN
                    cases r1 with
                    | false =>
                      have HV9 := Lib.hid (HVx.out.mono (m' := m + 16 + 4 * (k + 1)) (by omega))
                      go_wp2_with fail
                      go_roundw
                      case rel => exact ⟨_, _, _, _, _, _, _, _, _, _, _, _, _, _, _, _, _, _, _, _, _, _, _, _, _, ⟨k + 1, b0, m0, d0, b1, m1, d1, r, by go_num, by have := HMN.out; omega, HRN.out, HB1.out, HV9⟩, rfl⟩
                      case measure => (have := HMN.out; simp [intOf]; omega)
                    | true =>
                      have HGT := Lib.hid (give_true HAN.out)
                      have nx0 := Bx.cell HXN.out 0
                      have nx1 := Bx.cell HXN.out 1
                      simp only [List.getElem?_toArray, List.getElem?_cons_zero, List.getElem?_cons_succ] at nx0 nx1
                      have sf0 := HVx.out.box.frozen 0
                      have sf1 := HVx.out.box.frozen 1
                      have sc0 := HVx.out.cells.1
                      have sc1 := HVx.out.cells.2
                      have HV9 := Lib.hid ((((HVx.out.swap HP0.out HP1.out HD.out).set0 (.slice b3 m3 d3)).set1 (.slice b4 m4 d4)).mono (m' := m + 16 + 4 * (k + 1)) (by omega))
                      clear HVx HP0 HP1 HXN HAN HD
                      go_wp2_with fail
                      go_roundw
                      case rel => exact ⟨_, _, _, _, _, _, _, _, _, _, _, _, _, _, _, _, _, _, _, _, _, _, _, _, _, ⟨k + 1, b3, m3, d3, b4, m4, d4, r0, by go_num, by have := HMN.out; omega, by rw [HGT.out.1]; exact HRN.out, HGT.out.2, HV9⟩, rfl⟩
                      case measure => (have := HMN.out; simp [intOf]; omega)
                  case more2513 => exact AllReadyH.nil
                case more2512 => exact AllReadyH.nil
              case more2508 =>
                refine AllReadyH.cons rfl (fun K hK => ?step2515) ?more2515
                case step2515 =>
                  go_simp
                  refine hK.out _ _ (HK.out _ _ _ _ _ (hV.alloc _)) (fun hHeld => ?_)
                  clear hK K
                  have hNs := hV.under
                  have hXN := Bx.new x1 27 #[.slice none 0 0, .slice none 0 0]
                  have hgbN : x1.heap.size ≠ B := by have := hV.box.lt; have := hV.gb; omega
                  replace hV := hV.alloc (Obj.cells #[.slice none 0 0, .slice none 0 0] 27)
                  generalize x1.alloc (Obj.cells #[.slice none 0 0, .slice none 0 0] 27) = x5 at *
                  generalize x1.heap.size = gNx5 at *
                  refine wpAnyH_ready (rs := [7]) (by kernel_rfl) (by simp) ?_
                  refine AllReadyH.cons rfl (fun K hK => ?step2516) ?more2516
                  case step2516 =>
                    go_simp
                    go_at_call 28
                    refine (GiveProxyC.spec _ r (k : Nat) y x5 ⟨_, _, rfl, hV.o0.isQ, hV.o1.isQ⟩ (vofine r) (by have := HB0.out; omega) (by have := HB1.out; omega)).mono ?_
                    rintro e x6 ⟨vq, r0, r1, rfl, hans, hOq, hbc⟩
                    obtain ⟨u0, u1, rfl, p0, p1, d01⟩ := hOq
                    obtain ⟨b3, m3, d3, rfl⟩ := own_slice p0
                    obtain ⟨b4, m4, d4, rfl⟩ := own_slice p1
                    have hlo : G + 1 ≤ x5.heap.size := hV.box.lt
                    have hNp : (∀ kk, (Value.slice b3 m3 d3).ownBlock = some kk → kk ≠ gNx5) ∧ ∀ kk, (Value.slice b4 m4 d4).ownBlock = some kk → kk ≠ gNx5 := ⟨fun kk hk => by have := (p0.lt kk hk).1; have := Bx.lt hXN; omega, fun kk hk => by have := (p1.lt kk hk).1; have := Bx.lt hXN; omega⟩
                    replace p0 := p0.low hlo
                    replace p1 := p1.low hlo
                    replace hV := hV.kept hbc
                    replace hXN := Bx.keptB hXN hbc
                    clear hbc hlo
                    go_wp2_with fail
                    refine hK.out _ _ (HK.out _ _ _ _ _ hV) (fun hHeld => ?_)
                    clear hK K
                    refine wpAnyH_take (i := 8) (v := ?v2517) rfl (by kernel_rfl) (by kernel_rfl) (by kernel_rfl) (fun _ _ _ h => h) (Or.inl ⟨by rfl, ?hy2517⟩) (by assumption) ?rest2517
                    case hy2517 => (intro wq hSw; (try dsimp only at hSw); go_split_ands; go_simp; (try with_reducible rfl))
                    case rest2517 =>
                    refine wpAnyH_take (i := 9) (v := ?v2518) rfl (by kernel_rfl) (by kernel_rfl) (by kernel_rfl) (fun _ _ _ h => h) (Or.inl ⟨by rfl, ?hy2518⟩) (by assumption) ?rest2518
                    case hy2518 => (intro wq hSw; (try dsimp only at hSw); go_split_ands; go_simp; (try with_reducible rfl))
                    case rest2518 =>
                    refine wpAnyH_take (i := 10) (v := ?v2519) rfl (by kernel_rfl) (by kernel_rfl) (by kernel_rfl) (fun _ _ _ h => h) (Or.inl ⟨by rfl, ?hy2519⟩) (by assumption) ?rest2519
                    case hy2519 => (intro wq hSw; (try dsimp only at hSw); go_split_ands; go_simp; (try with_reducible rfl))
                    case rest2519 =>
                    refine wpAnyH_ready (rs := [12]) (by kernel_rfl) (by simp) ?_
                    refine AllReadyH.cons rfl (fun K hK => ?step2520) ?more2520
                    case step2520 =>
                      have sf0 := Bx.frozen hXN 0
                      have sf1 := Bx.frozen hXN 1
                      have sc0 := Bx.cell hXN 0
                      have sc1 := Bx.cell hXN 1
                      simp only [List.getElem?_toArray, List.getElem?_cons_zero, List.getElem?_cons_succ] at sc0 sc1
                      have hV2 := (hV.far (p := ⟨gNx5, 0, none⟩) hNs.1 hNs.2.1 hNs.2.2 (.slice b3 m3 d3)).far (p := ⟨gNx5, 1, none⟩) hNs.1 hNs.2.1 hNs.2.2 (.slice b4 m4 d4)
                      have hN2 := Bx.set_ (Bx.set_ hXN 0 (.slice b3 m3 d3)) 1 (.slice b4 m4 d4)
                      have p2 := own_set (own_set p0 (p := ⟨gNx5, 0, none⟩) hNp.1 (.slice b3 m3 d3)) (p := ⟨gNx5, 1, none⟩) hNp.1 (.slice b4 m4 d4)
                      have p3 := own_set (own_set p1 (p := ⟨gNx5, 0, none⟩) hNp.2 (.slice b3 m3 d3)) (p := ⟨gNx5, 1, none⟩) hNp.2 (.slice b4 m4 d4)
                      go_simp
                      refine hK.out _ _ (HK.out _ _ _ _ _ hV2) (fun hHeld => ?_)
                      clear hK K hV p0 p1 hXN sf0 sf1 sc0 sc1
                      have hV := hV2
                      have p0 := p2
                      have p1 := p3
                      have hXN := hN2
                      clear hV2 p2 p3 hN2
                      generalize ((x6.setCell ⟨gNx5, 0, none⟩ (.slice b3 m3 d3)).setCell ⟨gNx5, 1, none⟩ (.slice b4 m4 d4)) = x7 at *
                      simp at hXN
                      refine wpAnyH_take (i := 13) (v := ?v2521) rfl (by kernel_rfl) (by kernel_rfl) (by kernel_rfl) (fun _ _ _ h => h) (Or.inl ⟨by rfl, ?hy2521⟩) (by assumption) ?rest2521
                      case hy2521 => (intro wq hSw; (try dsimp only at hSw); go_split_ands; go_simp; (try with_reducible rfl))
                      case rest2521 =>
                      refine wpAnyH_done (by kernel_rfl) ?_ _
                      have HVx := Lib.hid hV
                      have HP0 := Lib.hid p0
                      have HP1 := Lib.hid p1
                      have HXN := Lib.hid hXN
                      have HAN := Lib.hid hans
                      have HD := Lib.hid d01
                      clear hV p0 p1 hXN hans d01 hNs hNp hgbN
                      cases r1 with
                      | false =>
                        have HV9 := Lib.hid (HVx.out.mono (m' := m + 16 + 4 * (k + 1)) (by omega))
                        go_wp2_with fail
                        go_roundw
                        case rel => exact ⟨_, _, _, _, _, _, _, _, _, _, _, _, _, _, _, _, _, _, _, _, _, _, _, _, _, ⟨k + 1, b0, m0, d0, b1, m1, d1, r, by go_num, by have := HMN.out; omega, HRN.out, HB1.out, HV9⟩, rfl⟩
                        case measure => (have := HMN.out; simp [intOf]; omega)
                      | true =>
                        have HGT := Lib.hid (give_true HAN.out)
                        have nx0 := Bx.cell HXN.out 0
                        have nx1 := Bx.cell HXN.out 1
                        simp only [List.getElem?_toArray, List.getElem?_cons_zero, List.getElem?_cons_succ] at nx0 nx1
                        have sf0 := HVx.out.box.frozen 0
                        have sf1 := HVx.out.box.frozen 1
                        have sc0 := HVx.out.cells.1
                        have sc1 := HVx.out.cells.2
                        have HV9 := Lib.hid ((((HVx.out.swap HP0.out HP1.out HD.out).set0 (.slice b3 m3 d3)).set1 (.slice b4 m4 d4)).mono (m' := m + 16 + 4 * (k + 1)) (by omega))
                        clear HVx HP0 HP1 HXN HAN HD
                        go_wp2_with fail
                        go_roundw
                        case rel => exact ⟨_, _, _, _, _, _, _, _, _, _, _, _, _, _, _, _, _, _, _, _, _, _, _, _, _, ⟨k + 1, b3, m3, d3, b4, m4, d4, r0, by go_num, by have := HMN.out; omega, by rw [HGT.out.1]; exact HRN.out, HGT.out.2, HV9⟩, rfl⟩
                        case measure => (have := HMN.out; simp [intOf]; omega)
                    case more2520 => exact AllReadyH.nil
                  case more2516 => exact AllReadyH.nil
                case more2515 => exact AllReadyH.nil
            case more2507 =>
              refine AllReadyH.cons rfl (fun K hK => ?step2522) ?more2522
              case step2522 =>
                go_simp
                refine hK.out _ _ (HK.out _ _ _ _ _ (hV.alloc _)) (fun hHeld => ?_)
                clear hK K
                have hNs := hV.under
                have hXN := Bx.new x0 27 #[.slice none 0 0, .slice none 0 0]
                have hgbN : x0.heap.size ≠ B := by have := hV.box.lt; have := hV.gb; omega
                replace hV := hV.alloc (Obj.cells #[.slice none 0 0, .slice none 0 0] 27)
                generalize x0.alloc (Obj.cells #[.slice none 0 0, .slice none 0 0] 27) = x8 at *
                generalize x0.heap.size = gNx8 at *
                refine wpAnyH_ready (rs := [6]) (by kernel_rfl) (by simp) ?_
                refine AllReadyH.cons rfl (fun K hK => ?step2523) ?more2523
                case step2523 =>
                  go_simp
                  go_at_call 67
                  refine (pick B _ (m0 : Nat) x8 hV.live.cur (by omega) (by omega) (by omega)).mono ?_
                  rintro e x9 ⟨y, rfl, y0, y1, hc, hg⟩
                  replace hXN := Bx.grown hXN hg hgbN
                  replace hV := hV.draw hc hg
                  clear hc hg
                  go_wp2_with fail
                  refine hK.out _ _ (HK.out _ _ _ _ _ hV) (fun hHeld => ?_)
                  clear hK K
                  refine wpAnyH_ready (rs := [7]) (by kernel_rfl) (by simp) ?_
                  refine AllReadyH.cons rfl (fun K hK => ?step2524) ?more2524
                  case step2524 =>
                    go_simp
                    go_at_call 28
                    refine (GiveProxyC.spec _ r (k : Nat) y x9 ⟨_, _, rfl, hV.o0.isQ, hV.o1.isQ⟩ (vofine r) (by have := HB0.out; omega) (by have := HB1.out; omega)).mono ?_
                    rintro e x10 ⟨vq, r0, r1, rfl, hans, hOq, hbc⟩
                    obtain ⟨u0, u1, rfl, p0, p1, d01⟩ := hOq
                    obtain ⟨b3, m3, d3, rfl⟩ := own_slice p0
                    obtain ⟨b4, m4, d4, rfl⟩ := own_slice p1
                    have hlo : G + 1 ≤ x9.heap.size := hV.box.lt
                    have hNp : (∀ kk, (Value.slice b3 m3 d3).ownBlock = some kk → kk ≠ gNx8) ∧ ∀ kk, (Value.slice b4 m4 d4).ownBlock = some kk → kk ≠ gNx8 := ⟨fun kk hk => by have := (p0.lt kk hk).1; have := Bx.lt hXN; omega, fun kk hk => by have := (p1.lt kk hk).1; have := Bx.lt hXN; omega⟩
                    replace p0 := p0.low hlo
                    replace p1 := p1.low hlo
                    replace hV := hV.kept hbc
                    replace hXN := Bx.keptB hXN hbc
                    clear hbc hlo
                    go_wp2_with fail
                    refine hK.out _ _ (HK.out _ _ _ _ _ hV) (fun hHeld => ?_)
                    clear hK K
                    refine wpAnyH_take (i := 8) (v := ?v2525) rfl (by kernel_rfl) (by kernel_rfl) (by kernel_rfl) (fun _ _ _ h => h) (Or.inl ⟨by rfl, ?hy2525⟩) (by assumption) ?rest2525
                    case hy2525 => (intro wq hSw; (try dsimp only at hSw); go_split_ands; go_simp; (try with_reducible rfl))
                    case rest2525 =>
                    refine wpAnyH_take (i := 9) (v := ?v2526) rfl (by kernel_rfl) (by kernel_rfl) (by kernel_rfl) (fun _ _ _ h => h) (Or.inl ⟨by rfl, ?hy2526⟩) (by assumption) ?rest2526
                    case hy2526 => (intro wq hSw; (try dsimp only at hSw); go_split_ands; go_simp; (try with_reducible rfl))
                    case rest2526 =>
                    refine wpAnyH_take (i := 10) (v := ?v2527) rfl (by kernel_rfl) (by kernel_rfl) (by kernel_rfl) (fun _ _ _ h => h) (Or.inl ⟨by rfl, ?hy2527⟩) (by assumption) ?rest2527
                    case hy2527 => (intro wq hSw; (try dsimp only at hSw); go_split_ands; go_simp; (try with_reducible rfl))
                    case rest2527 =>
                    refine wpAnyH_ready (rs := [12]) (by kernel_rfl) (by simp) ?_
                    refine AllReadyH.cons rfl (fun K hK => ?step2528) ?more2528
                    case step2528 =>
                      have sf0 := Bx.frozen hXN 0
                      have sf1 := Bx.frozen hXN 1
                      have sc0 := Bx.cell hXN 0
                      have sc1 := Bx.cell hXN 1
                      simp only [List.getElem?_toArray, List.getElem?_cons_zero, List.getElem?_cons_succ] at sc0 sc1
                      have hV2 := (hV.far (p := ⟨gNx8, 0, none⟩) hNs.1 hNs.2.1 hNs.2.2 (.slice b3 m3 d3)).far (p := ⟨gNx8, 1, none⟩) hNs.1 hNs.2.1 hNs.2.2 (.slice b4 m4 d4)
                      have hN2 := Bx.set_ (Bx.set_ hXN 0 (.slice b3 m3 d3)) 1 (.slice b4 m4 d4)
                      have p2 := own_set (own_set p0 (p := ⟨gNx8, 0, none⟩) hNp.1 (.slice b3 m3 d3)) (p := ⟨gNx8, 1, none⟩) hNp.1 (.slice b4 m4 d4)
                      have p3 := own_set (own_set p1 (p := ⟨gNx8, 0, none⟩) hNp.2 (.slice b3 m3 d3)) (p := ⟨gNx8, 1, none⟩) hNp.2 (.slice b4 m4 d4)
                      go_simp
                      refine hK.out _ _ (HK.out _ _ _ _ _ hV2) (fun hHeld => ?_)
                      clear hK K hV p0 p1 hXN sf0 sf1 sc0 sc1
                      have hV := hV2
                      have p0 := p2
                      have p1 := p3
                      have hXN := hN2
                      clear hV2 p2 p3 hN2
                      generalize ((x10.setCell ⟨gNx8, 0, none⟩ (.slice b3 m3 d3)).setCell ⟨gNx8, 1, none⟩ (.slice b4 m4 d4)) = x11 at *
                      simp at hXN
                      refine wpAnyH_take (i := 13) (v := ?v2529) rfl (by kernel_rfl) (by kernel_rfl) (by kernel_rfl) (fun _ _ _ h => h) (Or.inl ⟨by rfl, ?hy2529⟩) (by assumption) ?rest2529
                      case hy2529 => (intro wq hSw; (try dsimp only at hSw); go_split_ands; go_simp; (try with_reducible rfl))
                      case rest2529 =>
                      refine wpAnyH_done (by kernel_rfl) ?_ _
                      have HVx := Lib.hid hV
                      have HP0 := Lib.hid p0
                      have HP1 := Lib.hid p1
                      have HXN := Lib.hid hXN
                      have HAN := Lib.hid hans
                      have HD := Lib.hid d01
                      clear hV p0 p1 hXN hans d01 hNs hNp hgbN
                      cases r1 with
                      | false =>
                        have HV9 := Lib.hid (HVx.out.mono (m' := m + 16 + 4 * (k + 1)) (by omega))
                        go_wp2_with fail
                        go_roundw
                        case rel => exact ⟨_, _, _, _, _, _, _, _, _, _, _, _, _, _, _, _, _, _, _, _, _, _, _, _, _, ⟨k + 1, b0, m0, d0, b1, m1, d1, r, by go_num, by have := HMN.out; omega, HRN.out, HB1.out, HV9⟩, rfl⟩
                        case measure => (have := HMN.out; simp [intOf]; omega)
                      | true =>
                        have HGT := Lib.hid (give_true HAN.out)
                        have nx0 := Bx.cell HXN.out 0
                        have nx1 := Bx.cell HXN.out 1
                        simp only [List.getElem?_toArray, List.getElem?_cons_zero, List.getElem?_cons_succ] at nx0 nx1
                        have sf0 := HVx.out.box.frozen 0
                        have sf1 := HVx.out.box.frozen 1
                        have sc0 := HVx.out.cells.1
                        have sc1 := HVx.out.cells.2
                        have HV9 := Lib.hid ((((HVx.out.swap HP0.out HP1.out HD.out).set0 (.slice b3 m3 d3)).set1 (.slice b4 m4 d4)).mono (m' := m + 16 + 4 * (k + 1)) (by omega))
                        clear HVx HP0 HP1 HXN HAN HD
                        go_wp2_with fail
                        go_roundw
                        case rel => exact ⟨_, _, _, _, _, _, _, _, _, _, _, _, _, _, _, _, _, _, _, _, _, _, _, _, _, ⟨k + 1, b3, m3, d3, b4, m4, d4, r0, by go_num, by have := HMN.out; omega, by rw [HGT.out.1]; exact HRN.out, HGT.out.2, HV9⟩, rfl⟩
                        case measure => (have := HMN.out; simp [intOf]; omega)
                    case more2528 => exact AllReadyH.nil
                  case more2524 => exact AllReadyH.nil
                case more2523 => exact AllReadyH.nil
              case more2522 => exact AllReadyH.nil
        · have k0 : ¬ (k : Int) < (m0 : Int) := by omega
          go_wp2_with fail
          refine (pick B _ 30 _ HV.out.live.cur (by have := HN7.out; omega) (by omega) (by omega)).mono ?_
          rintro e w4 ⟨s, rfl, s0, s1, hc, hg⟩
          have HV2 := Lib.hid ((HV.out.draw hc hg).mono (m' := m + 50) (by have := HN7.out; omega))
          clear hc hg HV sc0 sc1
          have HV := HV2
          clear HV2
          have hm7 : m0 ≤ 7 := by have := HN7.out; have := HMN.out; omega
          go_upto_block 4 with fail
          go_cut [3] (fun u wx => u = .pointer (some ⟨G, 0, none⟩) ∧ ∃ (b0 : Option Addr) (m0 d0 : Nat) (b1 : Option Addr) (m1 d1 : Nat) (r : LVoters.R), r.weights.length ≤ 14 ∧ r.proxies.length ≤ 14 ∧ Hid (Vp w R G B (m + 100) (.slice b0 m0 d0) (.slice b1 m1 d1) (.slice b0 m0 d0) (.slice b1 m1 d1) r wx))
          case first =>
            cases e0 : (s == 0) with
            | true =>
              go_upto_region 15 with fail
              have hV := HV.out.kept ((Below.refl w4.heap.size w4).drew)
              have HK := Lib.hid (show ∀ (w' : World) (mm : Nat) (t0 t1 : Value) (q : LVoters.R), Vp w R G B mm (.slice b0 m0 d0) (.slice b1 m1 d1) t0 t1 q w' → w'.cell? ⟨G, 0, none⟩ = some (.slice b0 m0 d0) ∧ w'.cell? ⟨G, 1, none⟩ = some (.slice b1 m1 d1) from fun w' mm t0 t1 q h => h.cells)
              refine wp_region_preN (S := fun w' => w'.cell? ⟨G, 0, none⟩ = some (.slice b0 m0 d0) ∧ w'.cell? ⟨G, 1, none⟩ = some (.slice b1 m1 d1)) 7 2 (by kernel_rfl) (by kernel_rfl) (by kernel_rfl) (by kernel_rfl) (HK.out _ _ _ _ _ hV) (fun R hR hHeld => ?_)
              simp only [List.take_succ_cons, List.take_zero]
              generalize w4.drew = x0 at *
              clear HV
              refine wpAnyH_take (i := 0) (v := ?v3501) rfl (by kernel_rfl) (by kernel_rfl) (by kernel_rfl) (fun _ _ _ h => h) (Or.inl ⟨by rfl, ?hy3501⟩) (by assumption) ?rest3501
              case hy3501 => (intro wq hSw; (try dsimp only at hSw); go_split_ands; go_simp; (try with_reducible rfl))
              case rest3501 =>
              refine wpAnyH_take (i := 1) (v := ?v3502) rfl (by kernel_rfl) (by kernel_rfl) (by kernel_rfl) (fun _ _ _ h => h) (Or.inl ⟨by rfl, ?hy3502⟩) (by assumption) ?rest3502
              case hy3502 => (intro wq hSw; (try dsimp only at hSw); go_split_ands; go_simp; (try with_reducible rfl))
              case rest3502 =>
              refine wpAnyH_take (i := 2) (v := ?v3503) rfl (by kernel_rfl) (by kernel_rfl) (by kernel_rfl) (fun _ _ _ h => h) (Or.inl ⟨by rfl, ?hy3503⟩) (by assumption) ?rest3503
              case hy3503 => (intro wq hSw; (try dsimp only at hSw); go_split_ands; go_simp; (try with_reducible rfl))
              case rest3503 =>
              refine wpAnyH_ready (rs := [3]) (by kernel_rfl) (by simp) ?_
              refine AllReadyH.cons rfl (fun K hK => ?step3504) ?more3504
              case step3504 =>
                go_simp
                refine hK.out _ _ (HK.out _ _ _ _ _ (hV.alloc _)) (fun hHeld => ?_)
                clear hK K
                have hXL := Bx.new x0 3 #[.int .i64 (-1), .int .i64 101]
                have hgbL : x0.heap.size ≠ B := by have := hV.box.lt; have := hV.gb; omega
                replace hV := hV.alloc (Obj.cells #[.int .i64 (-1), .int .i64 101] 3)
                generalize x0.alloc (Obj.cells #[.int .i64 (-1), .int .i64 101] 3) = x1 at *
                generalize x0.heap.size = gLx1 at *
                refine wpAnyH_ready (rs := [4]) (by kernel_rfl) (by simp) ?_
                refine AllReadyH.cons rfl (fun K hK => ?step3505) ?more3505
                case step3505 =>
                  go_simp
                  go_at_call 68
                  refine (among_pre B _ gLx1 2 [(-1 : Int), (101 : Int)] x1 hV.live.cur (by omega) hXL hgbL (by omega) (by simp) (by simp)).mono ?_
                  rintro e x2 ⟨x, hx, rfl, hc, hg⟩
                  replace hXL := Bx.grown hXL hg hgbL
                  replace hV := hV.draw hc hg
                  clear hc hg
                  go_wp2_with fail
                  refine hK.out _ _ (HK.out _ _ _ _ _ hV) (fun hHeld => ?_)
                  clear hK K
                  refine wpAnyH_ready (rs := [5]) (by kernel_rfl) (by simp) ?_
                  refine AllReadyH.cons rfl (fun K hK => ?step3506) ?more3506
                  case step3506 =>
                    go_simp
                    refine hK.out _ _ (HK.out _ _ _ _ _ (hV.alloc _)) (fun hHeld => ?_)
                    clear hK K
                    replace hXL := Bx.alloc hXL (Obj.cells #[.int .i64 x] 3)
                    have hXQ := Bx.new x2 3 #[.int .i64 x]
                    have hgbQ : x2.heap.size ≠ B := by have := hV.box.lt; have := hV.gb; omega
                    replace hV := hV.alloc (Obj.cells #[.int .i64 x] 3)
                    generalize x2.alloc (Obj.cells #[.int .i64 x] 3) = x3 at *
                    generalize x2.heap.size = gQx3 at *
                    refine wpAnyH_ready (rs := [6]) (by kernel_rfl) (by simp) ?_
                    refine AllReadyH.cons rfl (fun K hK => ?step3507) ?more3507
                    case step3507 =>
                      have hlo : G + 1 ≤ x3.heap.size := hV.box.lt
                      refine step_append_o (T := LInt.rec) (by rfl) (.tmp 50) (.tmp 54) 24 (by rfl) (G + 1) 3 i0 (.int .i64 0) 8 Try.underlying24 HI0.out HZ0.out.1 HZ0.out.2.1 HZ0.out.2.2 (by decide) _ _ (by rfl) hV.o0 (some ⟨gQx3, 0, none⟩) 1 1 [x] (by rfl) (by rfl) (src_one (T := LInt.rec) hXQ) (by have := HB0.out; have := HB1.out; unfold maxLen; omega) (by have := HB0.out; have := HB1.out; omega) hlo ?_
                      intro vx4 x4 hown hgrow hnn hat
                      obtain ⟨e0, k0, f0, hvv⟩ := own_slice hown
                      subst hvv
                      have hV2 := hV.app0 hown hgrow hat
                      clear hlo hV hown hgrow hat hnn hXL hgbL hXQ hgbQ
                      have hV := hV2
                      clear hV2
                      refine hK.out _ _ (HK.out _ _ _ _ _ hV) (fun hHeld => ?_)
                      clear hK K
                      refine wpAnyH_done (by kernel_rfl) ?_ _
                      refine hR.out _ _ (fun hHeld2 => ?_)
                      clear hR
                      skip
                      refine wpAnyH_take (i := 7) (v := ?v4001) rfl (by kernel_rfl) (by kernel_rfl) (by kernel_rfl) (fun _ _ _ h => h) (Or.inl ⟨by rfl, ?hy4001⟩) (by assumption) ?rest4001
                      case hy4001 => (intro wq hSw; (try dsimp only at hSw); go_split_ands; go_simp; (try with_reducible rfl))
                      case rest4001 =>
                      refine wpAnyH_ready (rs := [8]) (by kernel_rfl) (by simp) ?_
                      refine AllReadyH.cons rfl (fun K hK => ?step4002) ?more4002
                      case step4002 =>
                        have sf := hV.box.frozen 0
                        have sc := hV.cells.1
                        go_simp
                        refine hK.out _ _ trivial (fun hHeld => ?_)
                        clear hK K
                        have hV2 := hV.set0 (.slice e0 k0 f0)
                        clear hV sf sc
                        have hV := hV2
                        clear hV2
                        generalize x4.setCell ⟨G, 0, none⟩ (.slice e0 k0 f0) = x5 at *
                        refine wpAnyH_done (by kernel_rfl) ?_ _
                        have HVx := Lib.hid (hV.mono (m' := m + 100) (by omega))
                        clear hV
                        go_wp2_with fail
                        go_meet
                        exact ⟨rfl, e0, k0, f0, b1, m1, d1, ⟨r.weights ++ [x], r.proxies⟩, by show (r.weights ++ [x]).length ≤ 14; have := HB0.out; simp; omega, by have := HB1.out; show r.proxies.length ≤ 14; omega, HVx⟩
                      case more4002 => exact AllReadyH.nil
                    case more3507 => exact AllReadyH.nil
                  case more3506 => exact AllReadyH.nil
                case more3505 => exact AllReadyH.nil
              case more3504 => exact AllReadyH.nil
            | false =>
            cases e1 : (s == 1) with
            | true =>
              have s64 : IntKind.i64.wrap ((m0 : Int) - 1) = (m0 : Int) - 1 := IntWalk.i64_in _ (by omega)
              have s65 : IntKind.i64.wrap ((m0 : Int) + 1) = (m0 : Int) + 1 := IntWalk.i64_in _ (by omega)
              go_upto_region 17 with fail
              have hV := HV.out.kept ((Below.refl w4.heap.size w4).drew)
              have HK := Lib.hid (show ∀ (w' : World) (mm : Nat) (t0 t1 : Value) (q : LVoters.R), Vp w R G B mm (.slice b0 m0 d0) (.slice b1 m1 d1) t0 t1 q w' → w'.cell? ⟨G, 0, none⟩ = some (.slice b0 m0 d0) ∧ w'.cell? ⟨G, 1, none⟩ = some (.slice b1 m1 d1) from fun w' mm t0 t1 q h => h.cells)
              refine wp_region_preN (S := fun w' => w'.cell? ⟨G, 0, none⟩ = some (.slice b0 m0 d0) ∧ w'.cell? ⟨G, 1, none⟩ = some (.slice b1 m1 d1)) 15 2 (by kernel_rfl) (by kernel_rfl) (by kernel_rfl) (by kernel_rfl) (HK.out _ _ _ _ _ hV) (fun R hR hHeld => ?_)
              simp only [List.take_succ_cons, List.take_zero]
              generalize w4.drew = x0 at *
              clear HV
              refine wpAnyH_take (i := 0) (v := ?v5001) rfl (by kernel_rfl) (by kernel_rfl) (by kernel_rfl) (fun _ _ _ h => h) (Or.inl ⟨by rfl, ?hy5001⟩) (by assumption) ?rest5001
              case hy5001 => (intro wq hSw; (try dsimp only at hSw); go_split_ands; go_simp; (try with_reducible rfl))
              case rest5001 =>
              refine wpAnyH_take (i := 1) (v := ?v5002) rfl (by kernel_rfl) (by kernel_rfl) (by kernel_rfl) (fun _ _ _ h => h) (Or.inl ⟨by rfl, ?hy5002⟩) (by assumption) ?rest5002
              case hy5002 => (intro wq hSw; (try dsimp only at hSw); go_split_ands; go_simp; (try with_reducible rfl))
              case rest5002 =>
              refine wpAnyH_take (i := 2) (v := ?v5003) rfl (by kernel_rfl) (by kernel_rfl) (by kernel_rfl) (fun _ _ _ h => h) (Or.inl ⟨by rfl, ?hy5003⟩) (by assumption) ?rest5003
              case hy5003 => (intro wq hSw; (try dsimp only at hSw); go_split_ands; go_simp; (try with_reducible rfl))
              case rest5003 =>
              refine wpAnyH_take (i := 3) (v := ?v5004) rfl (by kernel_rfl) (by kernel_rfl) (by kernel_rfl) (fun _ _ _ h => h) (Or.inl ⟨by rfl, ?hy5004⟩) (by assumption) ?rest5004
              case hy5004 => (intro wq hSw; (try dsimp only at hSw); go_split_ands; go_simp; (try with_reducible rfl))
              case rest5004 =>
              refine wpAnyH_take (i := 4) (v := ?v5005) rfl (by kernel_rfl) (by kernel_rfl) (by kernel_rfl) (fun _ _ _ h => h) (Or.inl ⟨by rfl, ?hy5005⟩) (by assumption) ?rest5005
              case hy5005 => (intro wq hSw; (try dsimp only at hSw); go_split_ands; go_simp; (try with_reducible rfl))
              case rest5005 =>
              refine wpAnyH_take (i := 5) (v := ?v5006) rfl (by kernel_rfl) (by kernel_rfl) (by kernel_rfl) (fun _ _ _ h => h) (Or.inl ⟨by rfl, ?hy5006⟩) (by assumption) ?rest5006
              case hy5006 => (intro wq hSw; (try dsimp only at hSw); go_split_ands; go_simp; (try with_reducible rfl))
              case rest5006 =>
              refine wpAnyH_take (i := 6) (v := ?v5007) rfl (by kernel_rfl) (by kernel_rfl) (by kernel_rfl) (fun _ _ _ h => h) (Or.inl ⟨by rfl, ?hy5007⟩) (by assumption) ?rest5007
              case hy5007 => (intro wq hSw; (try dsimp only at hSw); go_split_ands; go_simp; (try with_reducible rfl))
              case rest5007 =>
              refine wpAnyH_take (i := 7) (v := ?v5008) rfl (by kernel_rfl) (by kernel_rfl) (by kernel_rfl) (fun _ _ _ h => h) (Or.inl ⟨by rfl, ?hy5008⟩) (by assumption) ?rest5008
              case hy5008 => (intro wq hSw; (try dsimp only at hSw); go_split_ands; go_simp; (try with_reducible rfl))
              case rest5008 =>
              refine wpAnyH_take (i := 8) (v := ?v5009) rfl (by kernel_rfl) (by kernel_rfl) (by kernel_rfl) (fun _ _ _ h => h) (Or.inl ⟨by rfl, ?hy5009⟩) (by assumption) ?rest5009
              case hy5009 => (intro wq hSw; (try dsimp only at hSw); go_split_ands; go_simp; (try with_reducible rfl))
              case rest5009 =>
              refine wpAnyH_take (i := 9) (v := ?v5010) rfl (by kernel_rfl) (by kernel_rfl) (by kernel_rfl) (fun _ _ _ h => h) (Or.inl ⟨by rfl, ?hy5010⟩) (by assumption) ?rest5010
              case hy5010 => (intro wq hSw; (try dsimp only at hSw); go_split_ands; go_simp; (try with_reducible rfl))
              case rest5010 =>
              refine wpAnyH_take (i := 10) (v := ?v5011) rfl (by kernel_rfl) (by kernel_rfl) (by kernel_rfl) (fun _ _ _ h => h) (Or.inl ⟨by rfl, ?hy5011⟩) (by assumption) ?rest5011
              case hy5011 => (intro wq hSw; (try dsimp only at hSw); go_split_ands; go_simp; (try with_reducible rfl))
              case rest5011 =>
              refine wpAnyH_ready (rs := [11]) (by kernel_rfl) (by simp) ?_
              refine AllReadyH.cons rfl (fun K hK => ?step5012) ?more5012
              case step5012 =>
                go_simp
                go_at_call 67
                refine (pick B _ ((m0 : Int) + 1) x0 hV.live.cur (by omega) (by omega) (by omega)).mono ?_
                rintro e x1 ⟨y, rfl, y0, y1, hc, hg⟩
                replace hV := hV.draw hc hg
                clear hc hg
                go_wp2_with fail
                refine hK.out _ _ (HK.out _ _ _ _ _ hV) (fun hHeld => ?_)
                clear hK K
                refine wpAnyH_take (i := 12) (v := ?v5013) rfl (by kernel_rfl) (by kernel_rfl) (by kernel_rfl) (fun _ _ _ h => h) (Or.inl ⟨by rfl, ?hy5013⟩) (by assumption) ?rest5013
                case hy5013 => (intro wq hSw; (try dsimp only at hSw); go_split_ands; go_simp; (try with_reducible rfl))
                case rest5013 =>
                refine wpAnyH_ready (rs := [13]) (by kernel_rfl) (by simp) ?_
                refine AllReadyH.cons rfl (fun K hK => ?step5014) ?more5014
                case step5014 =>
                  go_simp
                  refine hK.out _ _ (HK.out _ _ _ _ _ (hV.alloc _)) (fun hHeld => ?_)
                  clear hK K
                  have hXQ := Bx.new x1 70 #[.int .i64 ((m0 : Int) - 1), .int .i64 y]
                  have hgbQ : x1.heap.size ≠ B := by have := hV.box.lt; have := hV.gb; omega
                  replace hV := hV.alloc (Obj.cells #[.int .i64 ((m0 : Int) - 1), .int .i64 y] 70)
                  generalize x1.alloc (Obj.cells #[.int .i64 ((m0 : Int) - 1), .int .i64 y] 70) = x2 at *
                  generalize x1.heap.size = gQx2 at *
                  refine wpAnyH_ready (rs := [14]) (by kernel_rfl) (by simp) ?_
                  refine AllReadyH.cons rfl (fun K hK => ?step5015) ?more5015
                  case step5015 =>
                    have hlo : G + 1 ≤ x2.heap.size := hV.box.lt
                    refine step_append_o (T := LProxy.rec) (by rfl) (.tmp 60) (.tmp 72) 25 (by rfl) (G + 1) 70 i1 (.agg #[.int .i64 0, .int .i64 0]) 16 Try.underlying25 HI1.out HZ1.out.1 HZ1.out.2.1 HZ1.out.2.2 (by decide) _ _ (by rfl) hV.o1 (some ⟨gQx2, 0, none⟩) 1 1 [⟨(m0 : Int) - 1, y⟩] (by rfl) (by rfl) (src_one (T := LProxy.rec) hXQ) (by have := HB0.out; have := HB1.out; unfold maxLen; omega) (by have := HB0.out; have := HB1.out; omega) hlo ?_
                    intro vx3 x3 hown hgrow hnn hat
                    obtain ⟨e0, k0, f0, hvv⟩ := own_slice hown
                    subst hvv
                    have hV2 := hV.app1 hown hgrow hat
                    clear hlo hV hown hgrow hat hnn hXQ hgbQ
                    have hV := hV2
                    clear hV2
                    refine hK.out _ _ (HK.out _ _ _ _ _ hV) (fun hHeld => ?_)
                    clear hK K
                    refine wpAnyH_done (by kernel_rfl) ?_ _
                    refine hR.out _ _ (fun hHeld2 => ?_)
                    clear hR
                    skip
                    refine wpAnyH_take (i := 15) (v := ?v5501) rfl (by kernel_rfl) (by kernel_rfl) (by kernel_rfl) (fun _ _ _ h => h) (Or.inl ⟨by rfl, ?hy5501⟩) (by assumption) ?rest5501
                    case hy5501 => (intro wq hSw; (try dsimp only at hSw); go_split_ands; go_simp; (try with_reducible rfl))
                    case rest5501 =>
                    refine wpAnyH_ready (rs := [16]) (by kernel_rfl) (by simp) ?_
                    refine AllReadyH.cons rfl (fun K hK => ?step5502) ?more5502
                    case step5502 =>
                      have sf := hV.box.frozen 1
                      have sc := hV.cells.2
                      go_simp
                      refine hK.out _ _ trivial (fun hHeld => ?_)
                      clear hK K
                      have hV2 := hV.set1 (.slice e0 k0 f0)
                      clear hV sf sc
                      have hV := hV2
                      clear hV2
                      generalize x3.setCell ⟨G, 1, none⟩ (.slice e0 k0 f0) = x4 at *
                      refine wpAnyH_done (by kernel_rfl) ?_ _
                      have HVx := Lib.hid (hV.mono (m' := m + 100) (by omega))
                      clear hV
                      go_wp2_with fail
                      go_meet
                      exact ⟨rfl, b0, m0, d0, e0, k0, f0, ⟨r.weights, r.proxies ++ [⟨(m0 : Int) - 1, y⟩]⟩, by have := HB0.out; show r.weights.length ≤ 14; omega, by show (r.proxies ++ [(⟨(m0 : Int) - 1, y⟩ : LProxy.R)]).length ≤ 14; have := HB1.out; simp; omega, HVx⟩
                    case more5502 => exact AllReadyH.nil
                  case more5015 => exact AllReadyH.nil
                case more5014 => exact AllReadyH.nil
              case more5012 => exact AllReadyH.nil
            | false =>
            cases e2 : (s == 2) with
            | true =>
              go_upto_region 19 with fail
              have hV := HV.out.kept ((Below.refl w4.heap.size w4).drew)
              have HK := Lib.hid (show ∀ (w' : World) (mm : Nat) (t0 t1 : Value) (q : LVoters.R), Vp w R G B mm (.slice b0 m0 d0) (.slice b1 m1 d1) t0 t1 q w' → w'.cell? ⟨G, 0, none⟩ = some (.slice b0 m0 d0) ∧ w'.cell? ⟨G, 1, none⟩ = some (.slice b1 m1 d1) from fun w' mm t0 t1 q h => h.cells)
              refine wp_region_preN (S := fun w' => w'.cell? ⟨G, 0, none⟩ = some (.slice b0 m0 d0) ∧ w'.cell? ⟨G, 1, none⟩ = some (.slice b1 m1 d1)) 7 2 (by kernel_rfl) (by kernel_rfl) (by kernel_rfl) (by kernel_rfl) (HK.out _ _ _ _ _ hV) (fun R hR hHeld => ?_)
              simp only [List.take_succ_cons, List.take_zero]
              generalize w4.drew = x0 at *
              clear HV
              refine wpAnyH_take (i := 0) (v := ?v6501) rfl (by kernel_rfl) (by kernel_rfl) (by kernel_rfl) (fun _ _ _ h => h) (Or.inl ⟨by rfl, ?hy6501⟩) (by assumption) ?rest6501
              case hy6501 => (intro wq hSw; (try dsimp only at hSw); go_split_ands; go_simp; (try with_reducible rfl))
              case rest6501 =>
              refine wpAnyH_take (i := 1) (v := ?v6502) rfl (by kernel_rfl) (by kernel_rfl) (by kernel_rfl) (fun _ _ _ h => h) (Or.inl ⟨by rfl, ?hy6502⟩) (by assumption) ?rest6502
              case hy6502 => (intro wq hSw; (try dsimp only at hSw); go_split_ands; go_simp; (try with_reducible rfl))
              case rest6502 =>
              refine wpAnyH_take (i := 2) (v := ?v6503) rfl (by kernel_rfl) (by kernel_rfl) (by kernel_rfl) (fun _ _ _ h => h) (Or.inl ⟨by rfl, ?hy6503⟩) (by assumption) ?rest6503
              case hy6503 => (intro wq hSw; (try dsimp only at hSw); go_split_ands; go_simp; (try with_reducible rfl))
              case rest6503 =>
              refine wpAnyH_ready (rs := [3]) (by kernel_rfl) (by simp) ?_
              refine AllReadyH.cons rfl (fun K hK => ?step6504) ?more6504
              case step6504 =>
                go_simp
                go_at_call 67
                refine (pick B _ (3) x0 hV.live.cur (by omega) (by omega) (by omega)).mono ?_
                rintro e x1 ⟨y, rfl, y0, y1, hc, hg⟩
                replace hV := hV.draw hc hg
                clear hc hg
                go_wp2_with fail
                refine hK.out _ _ (HK.out _ _ _ _ _ hV) (fun hHeld => ?_)
                clear hK K
                refine wpAnyH_take (i := 4) (v := ?v6505) rfl (by kernel_rfl) (by kernel_rfl) (by kernel_rfl) (fun _ _ _ h => h) (Or.inl ⟨by rfl, ?hy6505⟩) (by assumption) ?rest6505
                case hy6505 => (intro wq hSw; (try dsimp only at hSw); go_split_ands; go_simp; (try with_reducible rfl))
                case rest6505 =>
                refine wpAnyH_ready (rs := [5]) (by kernel_rfl) (by simp) ?_
                refine AllReadyH.cons rfl (fun K hK => ?step6506) ?more6506
                case step6506 =>
                  go_simp
                  refine hK.out _ _ (HK.out _ _ _ _ _ (hV.alloc _)) (fun hHeld => ?_)
                  clear hK K
                  have hXQ := Bx.new x1 70 #[.int .i64 0, .int .i64 y]
                  have hgbQ : x1.heap.size ≠ B := by have := hV.box.lt; have := hV.gb; omega
                  replace hV := hV.alloc (Obj.cells #[.int .i64 0, .int .i64 y] 70)
                  generalize x1.alloc (Obj.cells #[.int .i64 0, .int .i64 y] 70) = x2 at *
                  generalize x1.heap.size = gQx2 at *
                  refine wpAnyH_ready (rs := [6]) (by kernel_rfl) (by simp) ?_
                  refine AllReadyH.cons rfl (fun K hK => ?step6507) ?more6507
                  case step6507 =>
                    have hlo : G + 1 ≤ x2.heap.size := hV.box.lt
                    refine step_append_o (T := LProxy.rec) (by rfl) (.tmp 78) (.tmp 82) 25 (by rfl) (G + 1) 70 i1 (.agg #[.int .i64 0, .int .i64 0]) 16 Try.underlying25 HI1.out HZ1.out.1 HZ1.out.2.1 HZ1.out.2.2 (by decide) _ _ (by rfl) hV.o1 (some ⟨gQx2, 0, none⟩) 1 1 [⟨0, y⟩] (by rfl) (by rfl) (src_one (T := LProxy.rec) hXQ) (by have := HB0.out; have := HB1.out; unfold maxLen; omega) (by have := HB0.out; have := HB1.out; omega) hlo ?_
                    intro vx3 x3 hown hgrow hnn hat
                    obtain ⟨e0, k0, f0, hvv⟩ := own_slice hown
                    subst hvv
                    have hV2 := hV.app1 hown hgrow hat
                    clear hlo hV hown hgrow hat hnn hXQ hgbQ
                    have hV := hV2
                    clear hV2
                    refine hK.out _ _ (HK.out _ _ _ _ _ hV) (fun hHeld => ?_)
                    clear hK K
                    refine wpAnyH_done (by kernel_rfl) ?_ _
                    refine hR.out _ _ (fun hHeld2 => ?_)
                    clear hR
                    skip
                    refine wpAnyH_take (i := 7) (v := ?v7001) rfl (by kernel_rfl) (by kernel_rfl) (by kernel_rfl) (fun _ _ _ h => h) (Or.inl ⟨by rfl, ?hy7001⟩) (by assumption) ?rest7001
                    case hy7001 => (intro wq hSw; (try dsimp only at hSw); go_split_ands; go_simp; (try with_reducible rfl))
                    case rest7001 =>
                    refine wpAnyH_ready (rs := [8]) (by kernel_rfl) (by simp) ?_
                    refine AllReadyH.cons rfl (fun K hK => ?step7002) ?more7002
                    case step7002 =>
                      have sf := hV.box.frozen 1
                      have sc := hV.cells.2
                      go_simp
                      refine hK.out _ _ trivial (fun hHeld => ?_)
                      clear hK K
                      have hV2 := hV.set1 (.slice e0 k0 f0)
                      clear hV sf sc
                      have hV := hV2
                      clear hV2
                      generalize x3.setCell ⟨G, 1, none⟩ (.slice e0 k0 f0) = x4 at *
                      refine wpAnyH_done (by kernel_rfl) ?_ _
                      have HVx := Lib.hid (hV.mono (m' := m + 100) (by omega))
                      clear hV
                      go_wp2_with fail
                      go_meet
                      exact ⟨rfl, b0, m0, d0, e0, k0, f0, ⟨r.weights, r.proxies ++ [⟨0, y⟩]⟩, by have := HB0.out; show r.weights.length ≤ 14; omega, by show (r.proxies ++ [(⟨0, y⟩ : LProxy.R)]).length ≤ 14; have := HB1.out; simp; omega, HVx⟩
                    case more7002 => exact AllReadyH.nil
                  case more6507 => exact AllReadyH.nil
                case more6506 => exact AllReadyH.nil
              case more6504 => exact AllReadyH.nil
            | false =>
            cases e3 : (s == 3) with
            | true =>
              have HV9 := Lib.hid (HV.out.mono (m' := m + 60 + 2 * r.weights.length) (by omega))
              go_wp2_with fail
              go_loopg [93] 14 (fun gg u wr => ∃ (b0 : Option Addr) (m0 d0 : Nat) (b1 : Option Addr) (m1 d1 : Nat) (r : LVoters.R), r.weights.length ≤ 14 ∧ 14 - r.weights.length ≤ gg ∧ r.proxies.length ≤ 12 ∧ Hid (Vp w R G B (m + 60 + 2 * r.weights.length) (.slice b0 m0 d0) (.slice b1 m1 d1) (.slice b0 m0 d0) (.slice b1 m1 d1) r wr))
              case atStart => exact ⟨b0, m0, d0, b1, m1, d1, r, by have := HB0.out; omega, Nat.sub_le _ _, HB1.out, HV9⟩
              case round =>
                clear HV HV9 HB0 HB1 HM0 HRN HMN hm7 k0
                obtain ⟨b0, m0, d0, b1, m1, d1, r, hl14, hgg, hp12, HV⟩ := hrel
                have HB0 := Lib.hid hl14
                have HB1 := Lib.hid hp12
                have HM0 := Lib.hid (isq_len HV.out.o0.isQ).1
                have HGG := Lib.hid hgg
                have hm14 : m0 ≤ 14 := by have := HM0.out; omega
                clear hgg hp12
                go_upto_region 21 with fail
                have hV := HV.out.kept ((Below.refl wr.heap.size wr).drew)
                have HK := Lib.hid (show ∀ (w' : World) (mm : Nat) (t0 t1 : Value) (q : LVoters.R), Vp w R G B mm (.slice b0 m0 d0) (.slice b1 m1 d1) t0 t1 q w' → w'.cell? ⟨G, 0, none⟩ = some (.slice b0 m0 d0) ∧ w'.cell? ⟨G, 1, none⟩ = some (.slice b1 m1 d1) from fun w' mm t0 t1 q h => h.cells)
                refine wp_region_held_drew (S := fun w' => w'.cell? ⟨G, 0, none⟩ = some (.slice b0 m0 d0) ∧ w'.cell? ⟨G, 1, none⟩ = some (.slice b1 m1 d1)) (by kernel_rfl) (HK.out _ _ _ _ _ hV) (fun hHeld => ?_)
                generalize wr.drew = x0 at *
                clear HV
                refine wpAnyH_take (i := 0) (v := ?v8001) rfl (by kernel_rfl) (by kernel_rfl) (by kernel_rfl) (fun _ _ _ h => h) (Or.inl ⟨by rfl, ?hy8001⟩) (by assumption) ?rest8001
                case hy8001 => (intro wq hSw; (try dsimp only at hSw); go_split_ands; go_simp; (try with_reducible rfl))
                case rest8001 =>
                refine wpAnyH_take (i := 1) (v := ?v8002) rfl (by kernel_rfl) (by kernel_rfl) (by kernel_rfl) (fun _ _ _ h => h) (Or.inl ⟨by rfl, ?hy8002⟩) (by assumption) ?rest8002
                case hy8002 => (intro wq hSw; (try dsimp only at hSw); go_split_ands; go_simp; (try with_reducible rfl))
                case rest8002 =>
                refine wpAnyH_take (i := 2) (v := ?v8003) rfl (by kernel_rfl) (by kernel_rfl) (by kernel_rfl) (fun _ _ _ h => h) (Or.inl ⟨by rfl, ?hy8003⟩) (by assumption) ?rest8003
                case hy8003 => (intro wq hSw; (try dsimp only at hSw); go_split_ands; go_simp; (try with_reducible rfl))
                case rest8003 =>
                refine wpAnyH_take (i := 3) (v := ?v8004) rfl (by kernel_rfl) (by kernel_rfl) (by kernel_rfl) (fun _ _ _ h => h) (Or.inl ⟨by rfl, ?hy8004⟩) (by assumption) ?rest8004
                case hy8004 => (intro wq hSw; (try dsimp only at hSw); go_split_ands; go_simp; (try with_reducible rfl))
                case rest8004 =>
                refine wpAnyH_ready (rs := [4]) (by kernel_rfl) (by simp) ?_
                refine AllReadyH.cons rfl (fun K hK => ?step8005) ?more8005
                case step8005 =>
                  go_simp
                  go_at_call 67
                  refine (pick B _ (2) x0 hV.live.cur (by omega) (by omega) (by omega)).mono ?_
                  rintro e x1 ⟨y, rfl, y0, y1, hc, hg⟩
                  replace hV := hV.draw hc hg
                  clear hc hg
                  go_wp2_with fail
                  refine hK.out _ _ (HK.out _ _ _ _ _ hV) (fun hHeld => ?_)
                  clear hK K
                  refine wpAnyH_take (i := 5) (v := ?v8006) rfl (by kernel_rfl) (by kernel_rfl) (by kernel_rfl) (fun _ _ _ h => h) (Or.inl ⟨by rfl, ?hy8006⟩) (by assumption) ?rest8006
                  case hy8006 => (intro wq hSw; (try dsimp only at hSw); go_split_ands; go_simp; (try with_reducible rfl))
                  case rest8006 =>
                  refine wpAnyH_take (i := 6) (v := ?v8007) rfl (by kernel_rfl) (by kernel_rfl) (by kernel_rfl) (fun _ _ _ h => h) (Or.inl ⟨by rfl, ?hy8007⟩) (by assumption) ?rest8007
                  case hy8007 => (intro wq hSw; (try dsimp only at hSw); go_split_ands; go_simp; (try with_reducible rfl))
                  case rest8007 =>
                  refine wpAnyH_done (by kernel_rfl) ?_ _
                  have HVx := Lib.hid hV
                  clear hV
                  have e12 : IntKind.i64.wrap (12 + y) = 12 + y := IntWalk.i64_in _ (by omega)
                  by_cases hlt : (m0 : Int) < 12 + y
                  · have HVa := Lib.hid (HVx.out.alloc (Obj.cells #[.int .i64 1] 3))
                    have hlo : G + 1 ≤ x1.heap.size := HVx.out.box.lt
                    obtain ⟨sc0, sc1⟩ := HVx.out.cells
                    go_wp2_with (at_builtin; refine wpList_append_o (T := LInt.rec) _ rfl (.tmp 95) (.tmp 96) 24 rfl (G + 1) 3 i0 (.int .i64 0) 8 Try.underlying24 HI0.out HZ0.out.1 HZ0.out.2.1 HZ0.out.2.2 rfl _ _ rfl HVa.out.o0 (some ⟨x1.heap.size, 0, none⟩) 1 1 [1] rfl rfl (src_one (T := LInt.rec) (Bx.new x1 _ _)) (by have := HB0.out; unfold maxLen; omega) (by have := HB0.out; omega) (by simp; omega) ?_)
                    intro v5 w5 ho hgrow hnn hat
                    obtain ⟨e0, k0, f0, hvv⟩ := own_slice ho
                    subst hvv
                    have HVb := Lib.hid (HVa.out.app0 ho hgrow (by simpa using hat))
                    clear ho hgrow hnn hat sc0 sc1 hlo HVx HVa
                    have sf := HVb.out.box.frozen 0
                    have sc := HVb.out.cells.1
                    have HVc := Lib.hid ((HVb.out.set0 (.slice e0 k0 f0)).mono (m' := m + 60 + 2 * (r.weights ++ [(1 : Int)]).length) (by simp; omega))
                    go_wp2_with fail
                    go_roundg (14 - (r.weights ++ [(1 : Int)]).length)
                    case rel => exact ⟨e0, k0, f0, b1, m1, d1, ⟨r.weights ++ [1], r.proxies⟩, by show (r.weights ++ [(1 : Int)]).length ≤ 14; have := HM0.out; simp; omega, Nat.le_refl _, HB1.out, HVc⟩
                    case measure => (have := HM0.out; have := HGG.out; simp; omega)
                  · have HVy := Lib.hid (HVx.out.mono (m' := m + 100) (by have := HB0.out; omega))
                    go_wp2_with fail
                    go_meet
                    exact ⟨rfl, b0, m0, d0, b1, m1, d1, r, HB0.out, by have := HB1.out; omega, HVy⟩
                case more8005 => exact AllReadyH.nil
            | false =>
              have HV9 := Lib.hid (HV.out.mono (m' := m + 100) (by omega))
              go_wp2_with fail
              go_meet
              exact ⟨rfl, b0, m0, d0, b1, m1, d1, r, by have := HB0.out; omega, by have := HB1.out; omega, HV9⟩
          case rest =>
          clear HV s0 s1 HB0 HB1 HM0 HRN
          obtain ⟨rfl, b0, m0, d0, b1, m1, d1, r, hl0, hl1, HV⟩ := hcut
          obtain ⟨sc0, sc1⟩ := HV.out.cells
          have sf0 := HV.out.res.frozen 0
          have sf1 := HV.out.res.frozen 1
          have sr0 := HV.out.res.cell 0
          have sr1 := HV.out.res.cell 1
          simp only [List.getElem?_toArray, List.getElem?_cons_zero, List.getElem?_cons_succ] at sr0 sr1
          have HDN := Lib.hid HV.out.done
          go_wp2_with fail
          clear sc0 sc1 sf0 sf1 sr0 sr1
          generalize ((wc.setCell ⟨R, 0, none⟩ (.slice b0 m0 d0)).setCell ⟨R, 1, none⟩ (.slice b1 m1 d1)) = wz at *
          have z0 := HDN.out.2.2.2.cell 0
          have z1 := HDN.out.2.2.2.cell 1
          simp only [List.getElem?_toArray, List.getElem?_cons_zero, List.getElem?_cons_succ] at z0 z1
          (try simp only [Exit.inBlock, Exit.then])
          refine bodyPost_ret (v := .agg #[.slice b0 m0 d0, .slice b1 m1 d1]) (by simp [results, Try.results61, go_sem, z0, z1]) rfl ?_
          exact ⟨_, r, rfl, HDN.out.1, hl0, hl1, HDN.out.2.1, HDN.out.2.2.1⟩
end Go.Proofs.Ytdjnaoaniokbgaa.Draw
