/- Lists of members: the model's test of a list. No condition but that names are no longer than strings can be. -/
import Derived.Test.YtneecokjhmnagaaDoorJ1
import Derived.BigQuiet
import Derived.IntWalk
import Derived.Deep.DeepCutAuto
namespace Go.Proofs.YtneecokjhmnagaaDoor.MemG
open Go.RowKit Bs Word Mem
set_option linter.unusedVariables false
def Post (xs : List M) (w : World) (e : Ending) (w' : World) : Prop := e = .returned (.bool (goodB xs)) ∧ Below w.heap.size w w'
theorem bad {xs : List M} {w w' : World} (h : goodB xs = false) (hb : Below w.heap.size w w') : Post xs w (.returned (.bool false)) w' := ⟨by rw [h], hb⟩
set_option maxRecDepth 100000 in
set_option maxHeartbeats 1600000 in
theorem l3Good (v : Value) (xs : List M) (w : World) (h : Is LMember.rec w v xs) (hsz : ∀ x ∈ xs, LMember.Fine x) :
    Calls Tryd.prog 34 #[v] w (Post xs w) := by
  obtain ⟨a, cp, rfl, h⟩ := h
  have hc := h.at_ LMember.rec
  obtain ⟨n, hn⟩ : ∃ n, n = xs.length := ⟨_, rfl⟩
  have hnb : n ≤ cp := by have := h.1; omega
  have h2 := h.2.1
  unfold maxLen at h2
  have HN := Lib.hid hn.symm
  have HSZ := Lib.hid hsz
  rw [← hn]
  have hle : n ≤ xs.length := by omega
  clear hn h hsz
  go_enter Tryd.func34, Tryd.ntmps34
  go_wp2_with fail
  go_loopw [3] (fun i wr => ∃ k : Nat, k ≤ n ∧ i = .int .i64 k ∧ Below w.heap.size w wr ∧ Hid (∀ i, i < k → Step xs i)) (fun i _ => n - (intOf i).toNat)
  case atStart => exact ⟨0, Nat.zero_le _, rfl, Below.refl _ _, Lib.hid (fun i hi => by omega)⟩
  case round =>
    obtain ⟨k, hk, rfl, hb, HS⟩ := hrel
    by_cases hlt : k < n
    · have hx : k < xs.length := by omega
      obtain ⟨b, o, rfl, hbl, hcell0⟩ := hc.out k xs[k] (List.getElem?_eq_getElem hx)
      obtain ⟨q0, q1, q2⟩ := LMember.cells (hcell0.below LMember.rec hb hbl)
      simp only [LMember.rec_n] at q0 q1 q2
      have hxs := Lib.hid (HSZ.out xs[k] (List.getElem_mem hx))
      have HX := Lib.hid (List.getElem?_eq_getElem hx)
      clear hcell0
      generalize xs[k] = X at *
      go_wp2_with fail
      have HBX := Lib.hid (LMember.box wr X 60)
      have hba := hb.alloc hb.size (Obj.cells #[.int .i64 X.num, .string X.name, .int .i64 X.off] 60)
      have hGq : wr.heap.size < (wr.alloc (Obj.cells #[.int .i64 X.num, .string X.name, .int .i64 X.off] 60)).heap.size := by simp
      clear q0 q1 q2
      generalize wr.alloc (Obj.cells #[.int .i64 X.num, .string X.name, .int .i64 X.off] 60) = wq at *
      have hGl : w.heap.size ≤ wr.heap.size := hb.size
      generalize wr.heap.size = G at *
      clear hb
      go_cut [46] (fun t wx => ∃ v : Bool, t = .bool v ∧ Hid (Head xs k v) ∧ Below wq.heap.size wq wx)
      case first =>
        obtain ⟨x0, x1, x2⟩ := LMember.cells0 HBX.out
        have k0 : 0 ≤ (k : Int) := by omega
        have k1 : (k : Int) < (n : Int) := by omega
        cases g1 : inB X.num 1 99 with
        | false =>
          have HV := Lib.hid (show Head xs k true from head_bad (no_ok HX.out (by unfold okB; rw [g1]; rfl)))
          have H1 := Lib.hid (fun W => in_as X.num 1 99 false g1 W)
          clear g1
          go_quiet ((first | (go_at_call 47; exact quiet_eq (H1.out _))))
          go_wp2_with fail
          go_meet
          exact ⟨true, rfl, HV, drawn_below _ _⟩
        | true =>
          cases g2 : isWordB X.name with
          | false =>
            have HV := Lib.hid (show Head xs k true from head_bad (no_ok HX.out (by unfold okB; rw [g2, Bool.and_false]; rfl)))
            have H1 := Lib.hid (fun W => in_as X.num 1 99 true g1 W)
            have H2 := Lib.hid (fun W => word_as X.name false g2 hxs.out W)
            clear g1 g2
            go_quiet ((first | (go_at_call 47; exact quiet_eq (H1.out _)) | (go_at_call 62; exact quiet_eq (H2.out _))))
            go_wp2_with fail
            go_meet
            exact ⟨true, rfl, HV, drawn_below _ _⟩
          | true =>
            cases g3 : inB X.off 0 3 with
            | false =>
              have HV := Lib.hid (show Head xs k true from head_bad (no_ok HX.out (by unfold okB; rw [g3, Bool.and_false])))
              have H1 := Lib.hid (fun W => in_as X.num 1 99 true g1 W)
              have H2 := Lib.hid (fun W => word_as X.name true g2 hxs.out W)
              have H3 := Lib.hid (fun W => office_as X.off false g3 W)
              clear g1 g2 g3
              go_quiet ((first | (go_at_call 47; exact quiet_eq (H1.out _)) | (go_at_call 62; exact quiet_eq (H2.out _)) | (go_at_call 63; exact quiet_eq (H3.out _))))
              go_wp2_with fail
              go_meet
              exact ⟨true, rfl, HV, drawn_below _ _⟩
            | true =>
              have HOK := Lib.hid (show okB X = true by unfold okB; rw [g1, g2, g3]; rfl)
              have H1 := Lib.hid (fun W => in_as X.num 1 99 true g1 W)
              have H2 := Lib.hid (fun W => word_as X.name true g2 hxs.out W)
              have H3 := Lib.hid (fun W => office_as X.off true g3 W)
              clear g1 g2 g3
              by_cases hz : k = 0
              · have HV := Lib.hid (show Head xs k false from head_fine ⟨X, HX.out, HOK.out, fun p h0 => by omega⟩)
                have hd : decide (0 < (k : Int)) = false := by simp; omega
                have hd2 : decide (0 < k) = false := by simp; omega
                clear hz
                go_quiet ((first | (go_at_call 47; exact quiet_eq (H1.out _)) | (go_at_call 62; exact quiet_eq (H2.out _)) | (go_at_call 63; exact quiet_eq (H3.out _))))
                go_wp2_with fail
                go_meet
                exact ⟨false, rfl, HV, drawn_below _ _⟩
              · have h0 : 0 < k := by omega
                have hd : decide (0 < (k : Int)) = true := by simp; omega
                have hxp : k - 1 < xs.length := by omega
                obtain ⟨b', o', he, hbl', hcell0'⟩ := hc.out (k - 1) xs[k - 1] (List.getElem?_eq_getElem hxp)
                simp only [Option.some.injEq, Addr.mk.injEq, and_true] at he
                obtain ⟨rfl, rfl⟩ := he
                have HY := Lib.hid (List.getElem?_eq_getElem hxp)
                have y0 := (LMember.cells (hcell0'.below LMember.rec hba hbl)).1
                simp only [LMember.rec_n] at y0
                clear hz hbl' hcell0'
                generalize xs[k - 1] = Y at *
                have HV := Lib.hid (show Head xs k (decide (X.num ≤ Y.num)) from ⟨fun hxy => no_asc HX.out h0 HY.out (of_decide_eq_true hxy), fun hxy => ⟨X, HX.out, HOK.out, fun p _ hp => by have := of_decide_eq_false hxy; rw [HY.out] at hp; rw [← Option.some.inj hp]; omega⟩⟩)
                have s1 : IntKind.i64.wrap ((k : Int) - 1) = (k : Int) - 1 := IntWalk.i64_in _ (by omega)
                have s2 : ((k : Int) - 1).toNat = k - 1 := by omega
                have s3 : 0 ≤ (k : Int) - 1 := by omega
                have s4 : (k : Int) - 1 < (n : Int) := by omega
                go_quiet ((first | (go_at_call 47; exact quiet_eq (H1.out _)) | (go_at_call 62; exact quiet_eq (H2.out _)) | (go_at_call 63; exact quiet_eq (H3.out _))))
                go_wp2_with fail
                go_meet
                exact ⟨_, rfl, HV, drawn_below _ _⟩
      case rest =>
        obtain ⟨v, rfl, HV, hbv⟩ := hcut
        have hb2 := hba.trans (hbv.mono hba.size)
        have HBX2 := Lib.hid (HBX.out.below LMember.rec hbv hGq)
        have hG2 : G < wc.heap.size := Nat.lt_of_lt_of_le hGq hbv.size
        cases v with
        | true =>
          have HB := Lib.hid (show goodB xs = false from HV.out.1 rfl)
          go_wp2_with fail
          go_ret
          exact bad HB.out hb2
        | false =>
          have HH := Lib.hid (show HeadOk xs k from HV.out.2 rfl)
          clear hba hbv HV HBX hGq
          go_wp2_with fail
          go_loopw [5] (fun j ws => ∃ m : Nat, m ≤ k ∧ j = .int .i64 m ∧ Below w.heap.size w ws ∧ Hid (At LMember.rec ws G 0 X) ∧ G < ws.heap.size ∧ Hid (∀ q p, q < m → xs[q]? = some p → clash p X = false)) (fun j _ => k - (intOf j).toNat)
          case atStart => exact ⟨0, Nat.zero_le _, rfl, hb2, HBX2, hG2, Lib.hid (fun q p hq => by omega)⟩
          case round =>
            clear hb2 HBX2 hG2
            obtain ⟨m, hm, rfl, hbs, HXG, hGs, HM⟩ := hrel
            by_cases hmk : m < k
            · have hxm : m < xs.length := by omega
              obtain ⟨b', o', he, hbl', hcell1⟩ := hc.out m xs[m] (List.getElem?_eq_getElem hxm)
              simp only [Option.some.injEq, Addr.mk.injEq, and_true] at he
              obtain ⟨rfl, rfl⟩ := he
              have HP := Lib.hid (List.getElem?_eq_getElem hxm)
              obtain ⟨d0, d1, d2⟩ := LMember.cells (hcell1.below LMember.rec hbs hbl)
              simp only [LMember.rec_n] at d0 d1 d2
              obtain ⟨x0, x1, x2⟩ := LMember.cells0 HXG.out
              clear hcell1
              generalize xs[m] = P at *
              have m0 : 0 ≤ (m : Int) := by omega
              have m1 : (m : Int) < (n : Int) := by omega
              go_wp2_with fail
              go_cut [74] (fun t wx => ∃ v : Bool, t = .bool v ∧ Hid (clash P X = v) ∧ Below wr.heap.size wr wx)
              case first =>
                cases e1 : (P.name.toList == X.name.toList) with
                | true =>
                  have HV := Lib.hid (show clash P X = true by unfold clash; rw [e1]; rfl)
                  go_quiet (fail)
                  go_wp2_with fail
                  go_meet
                  exact ⟨true, rfl, HV, drawn_below _ _⟩
                | false =>
                  cases e2 : (X.off != 0) with
                  | false =>
                    have HV := Lib.hid (show clash P X = false by unfold clash; rw [e1, e2]; rfl)
                    go_quiet (fail)
                    go_wp2_with fail
                    go_meet
                    exact ⟨false, rfl, HV, drawn_below _ _⟩
                  | true =>
                    have HV := Lib.hid (show clash P X = (P.off == X.off) by unfold clash; rw [e1, e2]; rfl)
                    go_quiet (fail)
                    go_wp2_with fail
                    go_meet
                    exact ⟨_, rfl, HV, drawn_below _ _⟩
              case rest =>
                obtain ⟨v, rfl, HV, hbv⟩ := hcut
                have hbt := hbs.trans (hbv.mono hbs.size)
                have HXG2 := Lib.hid (HXG.out.below LMember.rec hbv hGs)
                have hGt : G < wc.heap.size := Nat.lt_of_lt_of_le hGs hbv.size
                cases v with
                | true =>
                  have HB := Lib.hid (no_clash HX.out hmk HP.out HV.out)
                  go_wp2_with fail
                  go_ret
                  exact bad HB.out hbt
                | false =>
                  have HM2 := Lib.hid (clash_next HM.out HP.out HV.out)
                  go_wp2_with fail
                  go_roundw
                  case rel => exact ⟨m + 1, by omega, by go_num, hbt, HXG2, hGt, HM2⟩
                  case measure => simp [intOf]; omega
            · obtain rfl : m = k := by omega
              have HST := Lib.hid (steps_next HS.out (step_mk HX.out HH.out HM.out))
              go_wp2_with fail
              go_roundw
              case rel => exact ⟨m + 1, by omega, by go_num, hbs, HST⟩
              case measure => simp [intOf]; omega
    · obtain rfl : k = n := by omega
      have HS2 := Lib.hid (show ∀ i, i < xs.length → Step xs i from fun i hi => HS.out i (by rw [HN.out] at hi; exact hi))
      have HD := Lib.hid (show decide ((k : Int) ≤ 12) = goodB xs by
        by_cases h12 : k ≤ 12
        · rw [good_yes ⟨by rw [HN.out]; exact h12, HS2.out⟩]; exact decide_eq_true (by omega)
        · rw [no_len (by rw [HN.out]; omega)]; exact decide_eq_false (by omega))
      go_wp2_with fail
      go_ret
      exact ⟨ret_bool HD.out, hb⟩
end Go.Proofs.YtneecokjhmnagaaDoor.MemG
