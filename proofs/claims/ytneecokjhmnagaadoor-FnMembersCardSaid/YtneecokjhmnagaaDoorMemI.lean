/- Lists of members: the program's test of a list. No condition but that names are no longer than strings can be. -/
import Derived.Test.YtneecokjhmnagaaDoorMemG
import Derived.BigQuiet
import Derived.IntWalk
import Derived.Deep.DeepCutAuto
namespace Go.Proofs.YtneecokjhmnagaaDoor.MemI
open Go.RowKit Bs Word Mem MemG
set_option linter.unusedVariables false
theorem valid_as (r : M) (v : Bool) (h : okB r = v) (hs : r.name.size ≤ maxLen) (w : World) :
    Calls Tryd.prog 36 #[.agg #[.int .i64 r.num, .string r.name, .int .i64 r.off]] w fun e w' => e = .returned (.bool v) ∧ Below w.heap.size w w' := by
  subst h; exact isValidMember r w hs
set_option maxRecDepth 100000 in
set_option maxHeartbeats 1600000 in
theorem isValidMembers (v : Value) (xs : List M) (w : World) (h : Is LMember.rec w v xs) (hsz : ∀ x ∈ xs, LMember.Fine x) :
    Calls Tryd.prog 11 #[v] w (Post xs w) := by
  obtain ⟨a, cp, rfl, h⟩ := h
  have hc := h.at_ LMember.rec
  obtain ⟨n, hn⟩ : ∃ n, n = xs.length := ⟨_, rfl⟩
  have hnb : n ≤ cp := by have := h.1; omega
  have h2 := h.2.1
  unfold maxLen at h2
  have HN := Lib.hid hn.symm
  have HSZ := Lib.hid hsz
  rw [← hn]
  have hle : n ≤ xs.length := by omega
  clear hn h hsz
  by_cases h8 : n ≤ 12
  · go_enter Tryd.func11, Tryd.ntmps11
    go_wp2_with fail
    go_loopw [12] (fun i wr => ∃ k : Nat, k ≤ n ∧ i = .int .i64 k ∧ Below w.heap.size w wr ∧ Hid (∀ i, i < k → Step xs i)) (fun i _ => n - (intOf i).toNat)
    case atStart => exact ⟨0, Nat.zero_le _, rfl, Below.refl _ _, Lib.hid (fun i hi => by omega)⟩
    case round =>
      obtain ⟨k, hk, rfl, hb, HS⟩ := hrel
      by_cases hlt : k < n
      · have hx : k < xs.length := by omega
        obtain ⟨b, o, rfl, hbl, hcell0⟩ := hc.out k xs[k] (List.getElem?_eq_getElem hx)
        obtain ⟨q0, q1, q2⟩ := LMember.cells (hcell0.below LMember.rec hb hbl)
        simp only [LMember.rec_n] at q0 q1 q2
        have hxs := Lib.hid (HSZ.out xs[k] (List.getElem_mem hx))
        have HX := Lib.hid (List.getElem?_eq_getElem hx)
        clear hcell0
        generalize xs[k] = X at *
        go_wp2_with fail
        have HBX := Lib.hid (LMember.box wr X 60)
        have hba := hb.alloc hb.size (Obj.cells #[.int .i64 X.num, .string X.name, .int .i64 X.off] 60)
        have hGq : wr.heap.size < (wr.alloc (Obj.cells #[.int .i64 X.num, .string X.name, .int .i64 X.off] 60)).heap.size := by simp
        clear q0 q1 q2
        generalize wr.alloc (Obj.cells #[.int .i64 X.num, .string X.name, .int .i64 X.off] 60) = wq at *
        have hGl : w.heap.size ≤ wr.heap.size := hb.size
        generalize wr.heap.size = G at *
        clear hb
        go_cut [34] (fun t wx => ∃ v : Bool, t = .bool v ∧ Hid (Head xs k v) ∧ Below wq.heap.size wq wx)
        case first =>
          have HG := LMember.grown HBX.out hGq
          have c0 := fun d os => (LMember.cells0 (HG.out d os)).1
          have c1 := fun d os => (LMember.cells0 (HG.out d os)).2.1
          have c2 := fun d os => (LMember.cells0 (HG.out d os)).2.2
          have k0 : 0 ≤ (k : Int) := by omega
          have k1 : (k : Int) < (n : Int) := by omega
          cases hok : okB X with
          | false =>
            have HV := Lib.hid (show Head xs k true from head_bad (no_ok HX.out hok))
            have HC := Lib.hid (fun W => valid_as X false hok hxs.out W)
            clear hok
            refine wp_region_quiet_below (by kernel_rfl) (by kernel_rfl) ?_
            repeat (go_big_quiet_step ((first | (go_at_call 36; exact Calls.regrown_of (HC.out _)))))
            refine wpQuiet_nil ?_
            intro _ hw'
            obtain ⟨⟨dq, osq⟩, hw''⟩ := hw'
            subst hw''
            go_wp2_with fail
            go_meet
            exact ⟨true, rfl, HV, below_regrown _ _ _⟩
          | true =>
            have HOK := Lib.hid hok
            have HC := Lib.hid (fun W => valid_as X true hok hxs.out W)
            clear hok
            by_cases hz : k = 0
            · have HV := Lib.hid (show Head xs k false from head_fine ⟨X, HX.out, HOK.out, fun p h0 => by omega⟩)
              have hd : decide (0 < (k : Int)) = false := by simp; omega
              have hd2 : decide (0 < k) = false := by simp; omega
              clear hz
              refine wp_region_quiet_below (by kernel_rfl) (by kernel_rfl) ?_
              repeat (go_big_quiet_step ((first | (go_at_call 36; exact Calls.regrown_of (HC.out _)))))
              refine wpQuiet_nil ?_
              intro _ hw'
              obtain ⟨⟨dq, osq⟩, hw''⟩ := hw'
              subst hw''
              go_wp2_with fail
              go_meet
              exact ⟨false, rfl, HV, below_regrown _ _ _⟩
            · have h0 : 0 < k := by omega
              have hd : decide (0 < (k : Int)) = true := by simp; omega
              have hxp : k - 1 < xs.length := by omega
              obtain ⟨b', o', he, hbl', hcell0'⟩ := hc.out (k - 1) xs[k - 1] (List.getElem?_eq_getElem hxp)
              simp only [Option.some.injEq, Addr.mk.injEq, and_true] at he
              obtain ⟨rfl, rfl⟩ := he
              have HY := Lib.hid (List.getElem?_eq_getElem hxp)
              have HG2 := LMember.grown (hcell0'.below LMember.rec hba hbl) (Nat.lt_of_lt_of_le hbl hba.size)
              clear hz hbl' hcell0'
              generalize xs[k - 1] = Y at *
              have y0 := fun d os => (LMember.cells (HG2.out d os)).1
              simp only [LMember.rec_n] at y0
              have HV := Lib.hid (show Head xs k (decide (X.num ≤ Y.num)) from ⟨fun hxy => no_asc HX.out h0 HY.out (of_decide_eq_true hxy), fun hxy => ⟨X, HX.out, HOK.out, fun p _ hp => by have := of_decide_eq_false hxy; rw [HY.out] at hp; rw [← Option.some.inj hp]; omega⟩⟩)
              have s1 : IntKind.i64.wrap ((k : Int) - 1) = (k : Int) - 1 := IntWalk.i64_in _ (by omega)
              have s2 : ((k : Int) - 1).toNat = k - 1 := by omega
              have s3 : 0 ≤ (k : Int) - 1 := by omega
              have s4 : (k : Int) - 1 < (n : Int) := by omega
              refine wp_region_quiet_below (by kernel_rfl) (by kernel_rfl) ?_
              repeat (go_big_quiet_step ((first | (go_at_call 36; exact Calls.regrown_of (HC.out _)))))
              refine wpQuiet_nil ?_
              intro _ hw'
              obtain ⟨⟨dq, osq⟩, hw''⟩ := hw'
              subst hw''
              go_wp2_with fail
              go_meet
              exact ⟨_, rfl, HV, below_regrown _ _ _⟩
        case rest =>
          obtain ⟨v, rfl, HV, hbv⟩ := hcut
          have hb2 := hba.trans (hbv.mono hba.size)
          have HBX2 := Lib.hid (HBX.out.below LMember.rec hbv hGq)
          have hG2 : G < wc.heap.size := Nat.lt_of_lt_of_le hGq hbv.size
          have hGw : w.heap.size ≤ G := hGl
          cases v with
          | true =>
            have HB := Lib.hid (show goodB xs = false from HV.out.1 rfl)
            go_wp2_with fail
            go_ret
            exact bad HB.out hb2
          | false =>
            have HH := Lib.hid (show HeadOk xs k from HV.out.2 rfl)
            clear hba hbv HV HBX hGq
            have k2 : (k : Int) ≤ (n : Int) := by omega
            have k3 : (n : Int) ≤ (cp : Int) := by omega
            go_wp2_with fail
            go_loopw [39] (fun j ws => ∃ m : Nat, m ≤ k ∧ j = .int .i64 m ∧ Below w.heap.size w ws ∧ Hid (At LMember.rec ws G 0 X) ∧ G < ws.heap.size ∧ Hid (∀ q p, q < m → xs[q]? = some p → clash p X = false)) (fun j _ => k - (intOf j).toNat)
            case atStart => exact ⟨0, Nat.zero_le _, rfl, hb2, HBX2, hG2, Lib.hid (fun q p hq => by omega)⟩
            case round =>
              clear hb2 HBX2 hG2
              obtain ⟨m, hm, rfl, hbs, HXG, hGs, HM⟩ := hrel
              by_cases hmk : m < k
              · have hxm : m < xs.length := by omega
                obtain ⟨b', o', he, hbl', hcell1⟩ := hc.out m xs[m] (List.getElem?_eq_getElem hxm)
                simp only [Option.some.injEq, Addr.mk.injEq, and_true] at he
                obtain ⟨rfl, rfl⟩ := he
                have HP := Lib.hid (List.getElem?_eq_getElem hxm)
                obtain ⟨d0, d1, d2⟩ := LMember.cells (hcell1.below LMember.rec hbs hbl)
                simp only [LMember.rec_n] at d0 d1 d2
                clear hcell1
                generalize xs[m] = P at *
                have m0 : 0 ≤ (m : Int) := by omega
                have m1 : (m : Int) < (k : Int) := by omega
                have hbp := (Below.refl wr.heap.size wr).alloc (Nat.le_refl _) (Obj.cells #[.int .i64 P.num, .string P.name, .int .i64 P.off] 60)
                have HXP := Lib.hid (HXG.out.below LMember.rec hbp hGs)
                have hbt := hbs.trans (hbp.mono hbs.size)
                have hGt : G < (wr.alloc (Obj.cells #[.int .i64 P.num, .string P.name, .int .i64 P.off] 60)).heap.size := Nat.lt_of_lt_of_le hGs hbp.size
                obtain ⟨x0, x1, x2⟩ := LMember.cells0 HXG.out
                clear hbp
                cases e1 : (P.name.toList == X.name.toList) with
                | true =>
                  have HB := Lib.hid (no_clash HX.out hmk HP.out (show clash P X = true by unfold clash; rw [e1]; rfl))
                  go_wp2_with fail
                  go_ret
                  exact bad HB.out hbt
                | false =>
                  cases e2 : (P.off == X.off) with
                  | false =>
                    have HM2 := Lib.hid (clash_next HM.out HP.out (show clash P X = false by unfold clash; rw [e1, e2, Bool.and_false]; rfl))
                    go_wp2_with fail
                    go_roundw
                    case rel => exact ⟨m + 1, by omega, by go_num, hbt, HXP, hGt, HM2⟩
                    case measure => simp [intOf]; omega
                  | true =>
                    cases e3 : (X.off != 0) with
                    | true =>
                      have HB := Lib.hid (no_clash HX.out hmk HP.out (show clash P X = true by unfold clash; rw [e1, e2, e3]; rfl))
                      go_wp2_with fail
                      go_ret
                      exact bad HB.out hbt
                    | false =>
                      have HM2 := Lib.hid (clash_next HM.out HP.out (show clash P X = false by unfold clash; rw [e1, e3]; rfl))
                      go_wp2_with fail
                      go_roundw
                      case rel => exact ⟨m + 1, by omega, by go_num, hbt, HXP, hGt, HM2⟩
                      case measure => simp [intOf]; omega
              · obtain rfl : m = k := by omega
                have HST := Lib.hid (steps_next HS.out (step_mk HX.out HH.out HM.out))
                go_wp2_with fail
                go_roundw
                case rel => exact ⟨m + 1, by omega, by go_num, hbs, HST⟩
                case measure => simp [intOf]; omega
      · obtain rfl : k = n := by omega
        have HB := Lib.hid (good_yes (xs := xs) ⟨by rw [HN.out]; exact h8, fun i hi => HS.out i (by rw [HN.out] at hi; exact hi)⟩)
        go_wp2_with fail
        go_ret
        exact ⟨by rw [HB.out]; exact ret_bool rfl, hb⟩
  · have HB := Lib.hid (no_len (xs := xs) (by have := HN.out; omega))
    go_enter Tryd.func11, Tryd.ntmps11
    go_wp2_with fail
    go_ret
    exact bad HB.out (Below.refl _ _)
end Go.Proofs.YtneecokjhmnagaaDoor.MemI
