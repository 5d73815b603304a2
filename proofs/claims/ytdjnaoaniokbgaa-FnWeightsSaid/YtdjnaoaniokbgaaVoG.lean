/- Proxies: the model's test of voters. No condition. -/
import Derived.Test.YtdjnaoaniokbgaaVoA
namespace Go.Proofs.Ytdjnaoaniokbgaa.VoG
open Go.RowKit Bs Word Sq IntF Vo VoA
set_option linter.unusedVariables false
set_option maxRecDepth 100000 in
set_option maxHeartbeats 1600000 in
theorem l12Good (v0 : Value) (r : V) (w : World) (h0 : LVoters.Is w v0 r) (hl0 : r.weights.length ≤ 1048576) (hl : r.proxies.length ≤ 1048576) :
    Calls Try.prog 56 #[v0] w fun e w' => e = .returned (.bool (good r)) ∧ Below w.heap.size w w' := by
  have HL := Lib.hid hl
  obtain ⟨a0, n0, c0, a1, n1, c1, rfl, HN0, HN1, hb0, hb1', hm0, hm1, hc0, hc1, HI⟩ := open_is h0
  clear h0
  have hn0 : n0 ≤ 1048576 := by have := HN0.out; omega
  have hn1 : n1 ≤ 1048576 := by have := HN1.out; omega
  clear hl hl0
  obtain ⟨W, hW⟩ : ∃ W : World, W = w.alloc (Obj.cells #[.slice a0 n0 c0, .slice a1 n1 c1] 27) := ⟨_, rfl⟩
  have hb : Below w.heap.size w W := by rw [hW]; exact (Below.refl _ _).alloc (Nat.le_refl _) _
  have HZ := Lib.hid (show W.heap.size = w.heap.size + 1 by rw [hW]; simp)
  have B0 := Lib.hid (show Bx W w.heap.size 27 #[.slice a0 n0 c0, .slice a1 n1 c1] by rw [hW]; exact Bx.new _ _ _)
  have HIW := Lib.hid (LVoters.Is.below HI.out hb)
  have H2 := Lib.hid (fun x a b W => in_as x a b _ rfl W)
  have q0 := B0.out.cell 0
  have q1 := B0.out.cell 1
  simp only [List.getElem?_toArray, List.getElem?_cons_zero, List.getElem?_cons_succ] at q0 q1
  go_enter Try.func56, Try.ntmps56
  go_wp2_with fail
  rw [← hW]
  clear hW
  clear q0 q1
  go_loopw [4] (fun i wr => ∃ k : Nat, k ≤ n0 ∧ i = .int .i64 k ∧ wr = W ∧ Hid (∀ (i : Nat) (x : Int), i < k → r.weights[i]? = some x → inB x 0 100 = true)) (fun i _ => n0 - (intOf i).toNat)
  case atStart => exact ⟨0, Nat.zero_le _, rfl, rfl, Lib.hid (fun i x hi => by omega)⟩
  case round =>
    obtain ⟨k, hk, rfl, rfl, HS⟩ := hrel
    have q0 := B0.out.cell 0
    have q1 := B0.out.cell 1
    simp only [List.getElem?_toArray, List.getElem?_cons_zero, List.getElem?_cons_succ] at q0 q1
    by_cases hlt : k < n0
    · have hx : k < r.weights.length := by have := HN0.out; omega
      obtain ⟨b, o, rfl, hbl, hcell0⟩ := hc0.out k r.weights[k] (List.getElem?_eq_getElem hx)
      have y0 := LInt.cells (hcell0.below LInt.rec hb hbl)
      simp only [LInt.rec_n, Nat.mul_one] at y0
      have HX := Lib.hid (List.getElem?_eq_getElem hx)
      clear hcell0
      generalize r.weights[k] = x at *
      go_wp2_with fail
      refine (H2.out _ _ _ _).mono ?_
      rintro e w' ⟨rfl, rfl⟩
      cases g1 : inB x 0 100 with
      | false =>
        have HG := Lib.hid (w_bad HX.out g1)
        go_wp2_with fail
        go_ret
        exact ⟨ret_bool HG.out.symm, hb⟩
      | true =>
        have HN := Lib.hid (w_next HS.out HX.out g1)
        go_wp2_with fail
        go_roundw
        case rel => exact ⟨k + 1, by omega, by go_num, by first | trivial | rfl, HN⟩
        case measure => simp [intOf]; omega
    · have HWP := Lib.hid (w_all (by have := HN0.out; omega) HS.out)
      clear HS
      go_wp2_with fail
      clear hlt hk q0 q1
      generalize wr = W at *
      go_loopw [5] (fun i ws => ∃ k : Nat, k ≤ n1 ∧ i = .int .i64 k ∧ Below W.heap.size W ws ∧ Hid (∀ i, i < k → POk r i)) (fun i _ => n1 - (intOf i).toNat)
      case atStart => exact ⟨0, Nat.zero_le _, rfl, Below.refl _ _, Lib.hid (fun i hi => by omega)⟩
      case round =>
        obtain ⟨k, hk, rfl, hbr, HS⟩ := hrel
        have B1 := B0.out.kept hbr
        have q0 := B1.cell 0
        have q1 := B1.cell 1
        simp only [List.getElem?_toArray, List.getElem?_cons_zero, List.getElem?_cons_succ] at q0 q1
        by_cases hlt : k < n1
        · have hx : k < r.proxies.length := by have := HN1.out; omega
          obtain ⟨b, o, rfl, hbl, hcell0⟩ := hc1.out k r.proxies[k] (List.getElem?_eq_getElem hx)
          obtain ⟨y0, y1⟩ := LProxy.cells (hcell0.below LProxy.rec (hb.trans (hbr.mono hb.size)) hbl)
          simp only [LProxy.rec_n] at y0 y1
          have HX := Lib.hid (List.getElem?_eq_getElem hx)
          clear hcell0
          generalize r.proxies[k] = X at *
          obtain ⟨wa, hwa⟩ : ∃ wa : World, wa = wr.alloc (Obj.cells #[.int .i64 X.src, .int .i64 X.dst] 70) := ⟨_, rfl⟩
          have hba : Below wr.heap.size wr wa := by rw [hwa]; exact (Below.refl _ _).alloc (Nat.le_refl _) _
          have BX := Lib.hid (show Bx wa wr.heap.size 70 #[.int .i64 X.src, .int .i64 X.dst] by rw [hwa]; exact Bx.new _ _ _)
          go_upto_region 11 with fail
          rw [← hwa]
          clear hwa q0 q1 y0 y1
          replace B1 := B1.kept hba
          have q0 := B1.cell 0
          have q1 := B1.cell 1
          simp only [List.getElem?_toArray, List.getElem?_cons_zero, List.getElem?_cons_succ] at q0 q1
          have x0 := BX.out.cell 0
          have x1 := BX.out.cell 1
          simp only [List.getElem?_toArray, List.getElem?_cons_zero, List.getElem?_cons_succ] at x0 x1
          go_cut [66] (fun t wx => ∃ v : Bool, t = .bool v ∧ Hid (HeadP r k v) ∧ Below wr.heap.size wr wx)
          case first =>
            have k0 : 0 ≤ (k : Int) := by omega
            have k1 : (k : Int) < (n1 : Int) := by omega
            have e1 : IntKind.i64.wrap ((n0 : Int) - 1) = (n0 : Int) - 1 := IntWalk.i64_in _ (by omega)
            have HNN := Lib.hid (show r.weights.length = n0 from HN0.out)
            cases g1 : inB X.src 0 ((n0 : Int) - 1) with
            | false =>
              have HG := Lib.hid (show okP r.weights.length X = false by unfold okP; rw [HNN.out, g1]; rfl)
              have HV := Lib.hid (show HeadP r k true from headP_bad (fun h => by have := (h X HX.out).1; rw [HG.out] at this; cases this))
              go_quiet ((first | (go_at_call 69; exact quiet_eq (H2.out _ _ _ _)) | fail))
              go_wp2_with fail
              go_meet
              exact ⟨true, rfl, HV, hba.trans ((drawn_below _ _).mono hba.size)⟩
            | true =>
              cases g2 : inB X.dst 0 ((n0 : Int) - 1) with
              | false =>
                have HG := Lib.hid (show okP r.weights.length X = false by unfold okP; rw [HNN.out, g1, g2]; rfl)
                have HV := Lib.hid (show HeadP r k true from headP_bad (fun h => by have := (h X HX.out).1; rw [HG.out] at this; cases this))
                go_quiet ((first | (go_at_call 69; exact quiet_eq (H2.out _ _ _ _)) | fail))
                go_wp2_with fail
                go_meet
                exact ⟨true, rfl, HV, hba.trans ((drawn_below _ _).mono hba.size)⟩
              | true =>
                have HG := Lib.hid (show okP r.weights.length X = true by unfold okP; rw [HNN.out, g1, g2]; rfl)
                by_cases hz : k = 0
                · have hd : decide (0 < (k : Int)) = false := by simp; omega
                  have hd2 : decide (0 < k) = false := by simp; omega
                  have HZ2 := Lib.hid hz
                  clear hz
                  have HV := Lib.hid (show HeadP r k false from headP_fine (fun x hx => by rw [HX.out] at hx; rw [← Option.some.inj hx]; exact ⟨HG.out, fun p h0 => by have := HZ2.out; omega⟩))
                  go_quiet ((first | (go_at_call 69; exact quiet_eq (H2.out _ _ _ _)) | fail))
                  go_wp2_with fail
                  go_meet
                  exact ⟨false, rfl, HV, hba.trans ((drawn_below _ _).mono hba.size)⟩
                · have h0 : 0 < k := by omega
                  have hd : decide (0 < (k : Int)) = true := by simp; omega
                  have hxp : k - 1 < r.proxies.length := by omega
                  obtain ⟨b', o', he, hbl', hcell0'⟩ := hc1.out (k - 1) r.proxies[k - 1] (List.getElem?_eq_getElem hxp)
                  simp only [Option.some.injEq, Addr.mk.injEq, and_true] at he
                  obtain ⟨rfl, rfl⟩ := he
                  have HY := Lib.hid (List.getElem?_eq_getElem hxp)
                  obtain ⟨z0, z1⟩ := LProxy.cells (hcell0'.below LProxy.rec ((hb.trans (hbr.mono hb.size)).trans (hba.mono (hb.trans (hbr.mono hb.size)).size)) hbl')
                  simp only [LProxy.rec_n] at z0 z1
                  clear hz hbl' hcell0'
                  generalize r.proxies[k - 1] = Y at *
                  have s1 : IntKind.i64.wrap ((k : Int) - 1) = (k : Int) - 1 := IntWalk.i64_in _ (by omega)
                  have s2 : ((k : Int) - 1).toNat = k - 1 := by omega
                  have s3 : 0 ≤ (k : Int) - 1 := by omega
                  have s4 : (k : Int) - 1 < (n1 : Int) := by omega
                  have HV := Lib.hid (show HeadP r k (decide (X.src ≤ Y.src)) from ⟨fun hxy => (headP_bad (fun h => by have := (h X HX.out).2 Y h0 HY.out; have := of_decide_eq_true hxy; omega)).1 rfl, fun hxy x hx => by rw [HX.out] at hx; rw [← Option.some.inj hx]; exact ⟨HG.out, fun p _ hp => by have := of_decide_eq_false hxy; rw [HY.out] at hp; rw [← Option.some.inj hp]; omega⟩⟩)
                  go_quiet ((first | (go_at_call 69; exact quiet_eq (H2.out _ _ _ _)) | fail))
                  go_wp2_with fail
                  go_meet
                  exact ⟨decide (X.src ≤ Y.src), rfl, HV, hba.trans ((drawn_below _ _).mono hba.size)⟩
          case rest =>
            obtain ⟨v, rfl, HV, hbv⟩ := hcut
            have hb2 := hbr.trans (hbv.mono hbr.size)
            cases v with
            | true =>
              have HB := Lib.hid (show good r = false from HV.out.1 rfl)
              go_wp2_with fail
              go_ret
              exact ⟨ret_bool HB.out.symm, hb.trans (hb2.mono hb.size)⟩
            | false =>
              have HN2 := Lib.hid (p_next HS.out (HV.out.2 rfl))
              go_wp2_with fail
              go_roundw
              case rel => exact ⟨k + 1, by omega, by go_num, hb2, HN2⟩
              case measure => simp [intOf]; omega
        · have HPP := Lib.hid (p_all (by have := HN1.out; omega) HS.out)
          have hb3 := hb.trans (hbr.mono hb.size)
          replace B1 := Lib.hid B1
          clear HS hbr
          go_wp2_with fail
          clear hlt hk q0 q1
          generalize wr = W2 at *
          go_loopw [7] (fun i wt => ∃ k : Nat, k ≤ n1 ∧ i = .int .i64 k ∧ Below W2.heap.size W2 wt ∧ Hid (∀ (i : Nat) (X : P), i < k → r.proxies[i]? = some X → VEnds r.proxies X.src)) (fun i _ => n1 - (intOf i).toNat)
          case atStart => exact ⟨0, Nat.zero_le _, rfl, Below.refl _ _, Lib.hid (fun i X hi => by omega)⟩
          case round =>
            obtain ⟨k, hk, rfl, hbr, HS⟩ := hrel
            have B2 := Lib.hid (B1.out.kept hbr)
            have hb4 := hb3.trans (hbr.mono hb3.size)
            have q0 := B2.out.cell 0
            have q1 := B2.out.cell 1
            simp only [List.getElem?_toArray, List.getElem?_cons_zero, List.getElem?_cons_succ] at q0 q1
            by_cases h12 : n0 ≤ 12
            rotate_left
            · have HG := Lib.hid (show good r = false from good_no (fun g => h12 (by have := g.n; have := HN0.out; omega)))
              by_cases hlt : k < n1
              · go_wp2_with fail
                go_ret
                exact ⟨ret_bool (by rw [HG.out]; exact decide_eq_false (by omega)), hb4⟩
              · go_wp2_with fail
                go_ret
                exact ⟨ret_bool (by rw [HG.out]; exact decide_eq_false (by omega)), hb4⟩
            by_cases hlt : k < n1
            · have hx : k < r.proxies.length := by have := HN1.out; omega
              obtain ⟨b, o, rfl, hbl, hcell0⟩ := hc1.out k r.proxies[k] (List.getElem?_eq_getElem hx)
              obtain ⟨y0, y1⟩ := LProxy.cells (hcell0.below LProxy.rec hb4 hbl)
              simp only [LProxy.rec_n] at y0 y1
              have HX := Lib.hid (List.getElem?_eq_getElem hx)
              clear hcell0
              generalize r.proxies[k] = X at *
              have HBC := Lib.hid (show ∀ W : World, Below wr.heap.size wr W → W.cell? ⟨w.heap.size, 1, none⟩ = some (.slice (some ⟨b, o, none⟩) n1 c1) from fun W hB => by rw [(B2.out.kept hB).cell]; rfl)
              obtain ⟨st, hst⟩ : ∃ st : Nat, st = steps r.proxies X.src := ⟨_, rfl⟩
              have HC := (fun W hB => l12Steps _ r X.src W (LVoters.Is.below HI.out (hb4.trans (Below.mono hB hb4.size))) HL.out : ∀ W : World, Below wr.heap.size wr W → _)
              rw [← hst] at HC
              have HC := Lib.hid HC
              have HST := Lib.hid hst
              clear hst
              have k0 : 0 ≤ (k : Int) := by omega
              have k1 : (k : Int) < (n1 : Int) := by omega
              go_upto_region 16 with fail
              go_region_with (first | (go_at_call 72; refine (HC.out _ (by (repeat (first | assumption | exact Below.refl _ _ | refine Below.drew ?_ | refine Below.alloc ?_ (by first | (simp; done) | (simp; omega) | omega) _)))).mono ?_; rintro e wN ⟨rfl, hbn⟩; have hBn : Below wr.heap.size wr wN := Below.trans (by (repeat (first | assumption | exact Below.refl _ _ | refine Below.drew ?_ | refine Below.alloc ?_ (by first | (simp; done) | (simp; omega) | omega) _))) (hbn.mono (by first | exact Nat.le_refl _ | (simp; done) | (simp; omega))); have c1' := HBC.out _ hBn) | fail)
              all_goals
                by_cases hgt : n1 < st
                · have HG := Lib.hid (e_bad HX.out (fun h => by have h1 := HST.out; have h2 := HN1.out; unfold VEnds at h; omega))
                  go_wp2_with fail
                  go_ret
                  exact ⟨ret_bool HG.out.symm, hb4.trans (hBn.mono hb4.size)⟩
                · have HN2 := Lib.hid (e_next HS.out HX.out (by have h1 := HST.out; have h2 := HN1.out; unfold VEnds; omega))
                  go_wp2_with fail
                  go_roundw
                  case rel => exact ⟨k + 1, by omega, by go_num, hbr.trans (hBn.mono hbr.size), HN2⟩
                  case measure => simp [intOf]; omega
            · have HG := Lib.hid (show good r = true from good_yes ⟨HWP.out, HPP.out, by have := HN0.out; omega, e_all (by have := HN1.out; omega) HS.out⟩)
              go_wp2_with fail
              go_ret
              exact ⟨ret_bool (by rw [HG.out]; exact decide_eq_true (by omega)), hb4⟩
end Go.Proofs.Ytdjnaoaniokbgaa.VoG
