/- Proxies: the program's test of voters. No condition. -/
import Derived.Test.YtdjnaoaniokbgaaVoV
namespace Go.Proofs.Ytdjnaoaniokbgaa.VoI
open Go.RowKit Bs Word Sq IntF Vo VoA VoN VoV
set_option linter.unusedVariables false
/-- the number ahead of place k -/
def ahead (ps : List P) (k : Nat) : Int := if k = 0 then -1 else ((ps[k - 1]?).map (fun X => X.src)).getD (-1)
theorem ahead_next {ps : List P} {k : Nat} {X : P} (hx : ps[k]? = some X) : ahead ps (k + 1) = X.src := by
  unfold ahead; rw [if_neg (by omega), show k + 1 - 1 = k by omega, hx]; rfl
theorem pok_le {v : V} {k : Nat} {X : P} (hx : v.proxies[k]? = some X) (h : X.src ≤ ahead v.proxies k) : ¬ POk v k := fun g => by
  have h1 := g X hx
  have h2 := ok_in h1.1
  unfold ahead at h
  split at h
  · omega
  · have hk : k - 1 < v.proxies.length := by have := (List.getElem?_eq_some_iff.1 hx).1; omega
    have hp := List.getElem?_eq_getElem hk
    rw [hp] at h
    have := h1.2 _ (by omega) hp
    have h3 : X.src ≤ (v.proxies[k - 1]).src := h
    omega
theorem pok_yes {v : V} {k : Nat} {X : P} (hx : v.proxies[k]? = some X) (h : ¬ X.src ≤ ahead v.proxies k) (h1 : inB X.src 0 ((v.weights.length : Int) - 1) = true) (h2 : inB X.dst 0 ((v.weights.length : Int) - 1) = true) : POk v k := fun Y hy => by
  rw [hx] at hy
  rw [← Option.some.inj hy]
  refine ⟨by unfold okP; rw [h1, h2]; rfl, fun p h0 hp => ?_⟩
  unfold ahead at h
  rw [if_neg (by omega), hp] at h
  have h3 : ¬ X.src ≤ p.src := h
  omega
theorem pok_src {v : V} {k : Nat} {X : P} (hx : v.proxies[k]? = some X) (h : inB X.src 0 ((v.weights.length : Int) - 1) = false) : ¬ POk v k := fun g => by
  have h1 := (g X hx).1
  unfold okP at h1
  rw [h] at h1; cases h1
theorem pok_dst {v : V} {k : Nat} {X : P} (hx : v.proxies[k]? = some X) (h : inB X.dst 0 ((v.weights.length : Int) - 1) = false) : ¬ POk v k := fun g => by
  have h1 := (g X hx).1
  unfold okP at h1
  rw [h, Bool.and_false] at h1; cases h1
set_option maxRecDepth 100000 in
set_option maxHeartbeats 1600000 in
theorem areVoters (v0 : Value) (r : V) (w : World) (h0 : LVoters.Is w v0 r) (hl0 : r.weights.length ≤ 1048576) (hl : r.proxies.length ≤ 1048576) :
    Calls Try.prog 19 #[v0] w fun e w' => e = .returned (.bool (good r)) ∧ Below w.heap.size w w' := by
  have HL := Lib.hid hl
  obtain ⟨a0, n0, c0, a1, n1, c1, rfl, HN0, HN1, hb0, hb1', hm0, hm1, hc0, hc1, HI⟩ := open_is h0
  clear h0
  have hn0 : n0 ≤ 1048576 := by have := HN0.out; omega
  have hn1 : n1 ≤ 1048576 := by have := HN1.out; omega
  clear hl hl0
  obtain ⟨W, hW⟩ : ∃ W : World, W = w.alloc (Obj.cells #[.slice a0 n0 c0, .slice a1 n1 c1] 27) := ⟨_, rfl⟩
  have hb : Below w.heap.size w W := by rw [hW]; exact (Below.refl _ _).alloc (Nat.le_refl _) _
  have HZ := Lib.hid (show W.heap.size = w.heap.size + 1 by rw [hW]; simp)
  have B0 := Lib.hid (show Bx W w.heap.size 27 #[.slice a0 n0 c0, .slice a1 n1 c1] by rw [hW]; exact Bx.new _ _ _)
  have HIW := Lib.hid (LVoters.Is.below HI.out hb)
  have q0 := B0.out.cell 0
  have q1 := B0.out.cell 1
  simp only [List.getElem?_toArray, List.getElem?_cons_zero, List.getElem?_cons_succ] at q0 q1
  have HV := (fun m W hB => isVoter _ r m W (LVoters.Is.below HI.out (hb.trans (Below.mono hB hb.size))) : ∀ (m : Int) (W' : World), Below W.heap.size W W' → _)
  rw [HN0.out] at HV
  have HV := Lib.hid HV
  go_enter Try.func19, Try.ntmps19
  go_upto_region 1 with fail
  rw [← hW]
  clear hW
  by_cases h12 : 12 < n0
  · have HG := Lib.hid (show good r = false from good_no (fun g => by have := g.n; have := HN0.out; omega))
    go_wp2_with fail
    go_ret
    exact ⟨ret_bool HG.out.symm, hb⟩
  go_wp2_with fail
  go_loopw [17] (fun i wr => ∃ k : Nat, k ≤ n0 ∧ i = .int .i64 k ∧ wr = W ∧ Hid (∀ (i : Nat) (x : Int), i < k → r.weights[i]? = some x → inB x 0 100 = true)) (fun i _ => n0 - (intOf i).toNat)
  case atStart => exact ⟨0, Nat.zero_le _, rfl, rfl, Lib.hid (fun i x hi => by omega)⟩
  case round =>
    obtain ⟨k, hk, rfl, hw, HS⟩ := hrel
    subst hw
    by_cases hlt : k < n0
    · have hx : k < r.weights.length := by have := HN0.out; omega
      obtain ⟨b, o, rfl, hbl, hcell0⟩ := hc0.out k r.weights[k] (List.getElem?_eq_getElem hx)
      have y0 := LInt.cells (hcell0.below LInt.rec hb hbl)
      simp only [LInt.rec_n, Nat.mul_one] at y0
      have HX := Lib.hid (List.getElem?_eq_getElem hx)
      clear hcell0
      generalize r.weights[k] = x at *
      by_cases g1 : (0 : Int) > (x : Int)
      · have HG := Lib.hid (w_bad HX.out (inB_not (by omega)))
        go_wp2_with fail
        go_ret
        exact ⟨ret_bool HG.out.symm, hb⟩
      by_cases g2 : (100 : Int) < (x : Int)
      · have HG := Lib.hid (w_bad HX.out (inB_not (by omega)))
        go_wp2_with fail
        go_ret
        exact ⟨ret_bool HG.out.symm, hb⟩
      have HN := Lib.hid (w_next HS.out HX.out (inB_mk (by omega) (by omega)))
      go_wp2_with fail
      go_roundw
      case rel => exact ⟨k + 1, by omega, by go_num, by first | trivial | rfl, HN⟩
      case measure => simp [intOf]; omega
    · have HWP := Lib.hid (w_all (by have := HN0.out; omega) HS.out)
      clear HS
      go_wp2_with fail
      clear hlt hk q0 q1
      generalize wr = W at *
      go_loopw [5, 31] (fun s5 i wr => ∃ k : Nat, k ≤ n1 ∧ s5 = .int .i64 (ahead r.proxies k) ∧ i = .int .i64 k ∧ Below W.heap.size W wr ∧ Hid (∀ i, i < k → POk r i)) (fun _ i _ => n1 - (intOf i).toNat)
      case atStart => exact ⟨0, Nat.zero_le _, rfl, rfl, Below.refl _ _, Lib.hid (fun i hi => by omega)⟩
      case round =>
        obtain ⟨k, hk, rfl, rfl, hbr, HS⟩ := hrel
        by_cases hlt : k < n1
        · have hx : k < r.proxies.length := by have := HN1.out; omega
          obtain ⟨b, o, rfl, hbl, hcell0⟩ := hc1.out k r.proxies[k] (List.getElem?_eq_getElem hx)
          obtain ⟨y0, y1⟩ := LProxy.cells (hcell0.below LProxy.rec (hb.trans (hbr.mono hb.size)) hbl)
          simp only [LProxy.rec_n] at y0 y1
          have HX := Lib.hid (List.getElem?_eq_getElem hx)
          clear hcell0
          generalize r.proxies[k] = X at *
          obtain ⟨G, hG⟩ : ∃ G, G = wr.heap.size := ⟨_, rfl⟩
          obtain ⟨wa, hwa⟩ : ∃ wa : World, wa = wr.alloc (Obj.cells #[.int .i64 X.src, .int .i64 X.dst] 70) := ⟨_, rfl⟩
          have hba : Below wr.heap.size wr wa := by rw [hwa]; exact (Below.refl _ _).alloc (Nat.le_refl _) _
          have BX := Lib.hid (show Bx wa G 70 #[.int .i64 X.src, .int .i64 X.dst] by rw [hwa, hG]; exact Bx.new _ _ _)
          replace hbr := hbr.trans (hba.mono hbr.size)
          obtain ⟨bf, hbf⟩ : ∃ bf, bf = ahead r.proxies k := ⟨_, rfl⟩
          rw [← hbf]
          have HBF := Lib.hid hbf
          clear hbf
          go_upto_region 13 with fail
          rw [← hwa, ← hG]
          clear hwa hba hG y0 y1
          have B1 := Lib.hid (B0.out.kept hbr)
          have q0 := B1.out.cell 0
          have q1 := B1.out.cell 1
          simp only [List.getElem?_toArray, List.getElem?_cons_zero, List.getElem?_cons_succ] at q0 q1
          have x0 := BX.out.cell 0
          have x1 := BX.out.cell 1
          simp only [List.getElem?_toArray, List.getElem?_cons_zero, List.getElem?_cons_succ] at x0 x1
          by_cases g0 : X.src ≤ bf
          · have HG := Lib.hid (show good r = false from good_no (fun g => pok_le HX.out (by rw [← HBF.out]; exact g0) (g.p k)))
            go_wp2_with fail
            go_ret
            exact ⟨ret_bool HG.out.symm, hb.trans (hbr.mono hb.size)⟩
          go_wp2_with fail
          refine (HV.out _ _ hbr).mono ?_
          rintro e w2 ⟨rfl, hb2⟩
          replace hbr := hbr.trans (hb2.mono hbr.size)
          have B2 := Lib.hid (B1.out.kept hb2)
          have BX2 := Lib.hid (BX.out.kept hb2)
          clear q0 q1 x0 x1 B1 BX hb2
          have q0 := B2.out.cell 0
          have q1 := B2.out.cell 1
          simp only [List.getElem?_toArray, List.getElem?_cons_zero, List.getElem?_cons_succ] at q0 q1
          have x0 := BX2.out.cell 0
          have x1 := BX2.out.cell 1
          simp only [List.getElem?_toArray, List.getElem?_cons_zero, List.getElem?_cons_succ] at x0 x1
          cases g1 : inB X.src 0 ((n0 : Int) - 1) with
          | false =>
            have HG := Lib.hid (show good r = false from good_no (fun g => pok_src HX.out (by rw [HN0.out]; exact g1) (g.p k)))
            go_wp2_with fail
            go_ret
            exact ⟨ret_bool HG.out.symm, hb.trans (hbr.mono hb.size)⟩
          | true =>
          go_wp2_with fail
          refine (HV.out _ _ hbr).mono ?_
          rintro e w3 ⟨rfl, hb3⟩
          replace hbr := hbr.trans (hb3.mono hbr.size)
          have B3 := Lib.hid (B2.out.kept hb3)
          have BX3 := Lib.hid (BX2.out.kept hb3)
          clear q0 q1 x0 x1 B2 BX2 hb3
          have q0 := B3.out.cell 0
          have q1 := B3.out.cell 1
          simp only [List.getElem?_toArray, List.getElem?_cons_zero, List.getElem?_cons_succ] at q0 q1
          have x0 := BX3.out.cell 0
          have x1 := BX3.out.cell 1
          simp only [List.getElem?_toArray, List.getElem?_cons_zero, List.getElem?_cons_succ] at x0 x1
          cases g2 : inB X.dst 0 ((n0 : Int) - 1) with
          | false =>
            have HG := Lib.hid (show good r = false from good_no (fun g => pok_dst HX.out (by rw [HN0.out]; exact g2) (g.p k)))
            go_wp2_with fail
            go_ret
            exact ⟨ret_bool HG.out.symm, hb.trans (hbr.mono hb.size)⟩
          | true =>
          have HN2 := Lib.hid (p_next HS.out (pok_yes HX.out (by rw [← HBF.out]; omega) (by rw [HN0.out]; exact g1) (by rw [HN0.out]; exact g2)))
          have HA := Lib.hid (ahead_next HX.out)
          go_wp2_with fail
          go_roundw
          case rel => exact ⟨k + 1, by omega, by rw [HA.out], by go_num, hbr, HN2⟩
          case measure => simp [intOf]; omega
        · have HPP := Lib.hid (p_all (by have := HN1.out; omega) HS.out)
          have B1 := Lib.hid (B0.out.kept hbr)
          have hb3 := hb.trans (hbr.mono hb.size)
          have HVN := voterNodes _ r wr (LVoters.Is.below HI.out hb3) (by have := HN0.out; omega) HPP.out
          rw [HN0.out] at HVN
          have HVN := Lib.hid HVN
          have q0 := B1.out.cell 0
          have q1 := B1.out.cell 1
          simp only [List.getElem?_toArray, List.getElem?_cons_zero, List.getElem?_cons_succ] at q0 q1
          clear HS hbr
          go_wp2_with fail
          refine HVN.out.mono ?_
          rintro e w4 ⟨g, rfl, hgb, HO, hb4⟩
          have HOO := Lib.hid HO
          have hb5 := hb3.trans (hb4.mono hb3.size)
          clear HO hb4 hb3 HVN hgb hlt hk q0 q1 B1
          go_wp2_with fail
          go_loopw [60] (fun i wr => ∃ k : Nat, k ≤ n0 ∧ i = .int .i64 k ∧ Below w4.heap.size w4 wr ∧ Hid (∀ i : Nat, i < k → VEnds r.proxies (i : Nat))) (fun i _ => n0 - (intOf i).toNat)
          case atStart => exact ⟨0, Nat.zero_le _, rfl, Below.refl _ _, Lib.hid (fun i hi => by omega)⟩
          case round =>
            obtain ⟨k, hk, rfl, hbr, HS⟩ := hrel
            have HO2 := Lib.hid (HOO.out.kept hbr)
            have hb6 := hb5.trans (hbr.mono hb5.size)
            by_cases hlt : k < n0
            · have k0 : 0 ≤ (k : Int) := by omega
              have k1 : (k : Int) < (n0 : Int) := by omega
              by_cases hve : VEnds r.proxies (k : Nat)
              · have HC := leadsNot r (k : Nat) wr _ g n0 HN0.out HPP.out hve k0 k1 HO2
                have HC := Lib.hid HC
                have HN2 := Lib.hid (show ∀ i : Nat, i < k + 1 → VEnds r.proxies (i : Nat) from fun i hi => by
                  rcases Nat.lt_or_ge i k with h' | h'
                  · exact HS.out i h'
                  · rwa [show i = k by omega])
                clear hve
                go_wp2_with fail
                refine HC.out.mono ?_
                rintro e w5 ⟨rfl, hb7⟩
                go_wp2_with fail
                go_roundw
                case rel => exact ⟨k + 1, by omega, by go_num, hbr.trans (hb7.mono hbr.size), HN2⟩
                case measure => simp [intOf]; omega
              · have HC := leadsInto r (k : Nat) wr _ g n0 HN0.out HPP.out hve k0 k1 HO2
                have HC := Lib.hid HC
                have HG := Lib.hid (show good r = false from good_no (fun g => hve (ends_all g.e _)))
                clear hve
                go_wp2_with fail
                refine HC.out.mono ?_
                rintro e w5 ⟨rfl, hb7⟩
                go_wp2_with fail
                go_ret
                exact ⟨ret_bool HG.out.symm, hb6.trans (hb7.mono hb6.size)⟩
            · have HG := Lib.hid (show good r = true from good_yes ⟨HWP.out, HPP.out, by have := HN0.out; omega, ends_ep HPP.out (fun i hi => HS.out i (by have := HN0.out; omega))⟩)
              go_wp2_with fail
              go_ret
              exact ⟨ret_bool HG.out.symm, hb6⟩
end Go.Proofs.Ytdjnaoaniokbgaa.VoI
