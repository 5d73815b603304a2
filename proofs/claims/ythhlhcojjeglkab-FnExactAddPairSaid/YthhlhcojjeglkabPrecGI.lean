/- Precedences: whether one is valid, the program. No condition. -/
import Derived.Test.YthhlhcojjeglkabPrecH
namespace Go.Proofs.Ythhlhcojjeglkab.PrecG
open Go.RowKit Bs Word PrecM PrecB
set_option linter.unusedVariables false
set_option maxRecDepth 100000 in
set_option maxHeartbeats 8000000 in
theorem isValid (v : Value) (r : LPrecedence.R) (w : World) (h : LPrecedence.Is w v r) :
    Calls Try.prog 21 #[v] w (Post r w) := by
  obtain ⟨K, z⟩ := r
  obtain ⟨s, rfl, h⟩ := h
  obtain ⟨a, cp, rfl, h⟩ := h
  simp only at h ⊢
  have hc := h.at_ LIntA2.rec
  obtain ⟨n, hn⟩ : ∃ n, n = z.length := ⟨_, rfl⟩
  have hnb : n ≤ cp := by have := h.1; omega
  have h2 := h.2.1
  unfold maxLen at h2
  have HN := Lib.hid hn.symm
  rw [← hn]
  have hle : n ≤ z.length := by omega
  clear hn h
  have hb0 := (Below.refl w.heap.size w).alloc (Nat.le_refl _) (.cells #[.int .i64 K, .slice a n cp] 29)
  have HB := Lib.hid (Bx.new w 29 #[.int .i64 K, .slice a n cp])
  by_cases hK1 : K < 1
  · have HG := Lib.hid (show goodB K z = false from no_head fun h => by omega)
    go_enter Try.func21, Try.ntmps21
    go_wp2_with fail
    go_ret
    exact ⟨ret_bool HG.out.symm, hb0⟩
  by_cases hK8 : 8 < K
  · have HG := Lib.hid (show goodB K z = false from no_head fun h => by omega)
    go_enter Try.func21, Try.ntmps21
    go_wp2_with fail
    go_ret
    exact ⟨ret_bool HG.out.symm, hb0⟩
  by_cases hn16 : 16 < n
  · have HG := Lib.hid (show goodB K z = false from no_head fun h => by have := HN.out; omega)
    go_enter Try.func21, Try.ntmps21
    go_wp2_with fail
    go_ret
    exact ⟨ret_bool HG.out.symm, hb0⟩
  go_enter Try.func21, Try.ntmps21
  go_wp2_with fail
  generalize w.alloc (.cells #[.int .i64 K, .slice a n cp] 29) = wq at *
  go_loopw [22] (fun i wr => ∃ k : Nat, k ≤ n ∧ i = .int .i64 k ∧ Below w.heap.size w wr ∧ Hid (Bx wr w.heap.size 29 #[.int .i64 K, .slice a n cp]) ∧ Hid (∀ i, i < k → Step K z i)) (fun i _ => n - (intOf i).toNat)
  case atStart => exact ⟨0, Nat.zero_le _, rfl, hb0, HB, Lib.hid (fun i hi => by omega)⟩
  case round =>
    clear hb0 HB
    obtain ⟨k, hk, rfl, hb, HB, HS⟩ := hrel
    have p0 := HB.out.cell 0
    have p1 := HB.out.cell 1
    simp only [List.getElem?_toArray, List.getElem?_cons_zero, List.getElem?_cons_succ] at p0 p1
    by_cases hlt : k < n
    · have hx : k < z.length := by omega
      obtain ⟨b, o, rfl, hbl, hcell0⟩ := hc.out k z[k] (List.getElem?_eq_getElem hx)
      obtain ⟨q0, q1⟩ := LIntA2.cells (hcell0.below LIntA2.rec hb hbl)
      simp only [LIntA2.rec_n] at q0 q1
      have HX := Lib.hid (List.getElem?_eq_getElem hx)
      clear hcell0
      generalize z[k] = X at *
      have HBX := Lib.hid (Bx.new wr 48 #[.int .i64 X.a, .int .i64 X.b])
      have HBA := Lib.hid (HB.out.alloc (Obj.cells #[.int .i64 X.a, .int .i64 X.b] 48))
      have hba := hb.alloc hb.size (Obj.cells #[.int .i64 X.a, .int .i64 X.b] 48)
      have p2 := HBA.out.cell 0
      have p3 := HBA.out.cell 1
      simp only [List.getElem?_toArray, List.getElem?_cons_zero, List.getElem?_cons_succ] at p2 p3
      go_wp2_with fail
      refine (isKind K _ X.a _).mono ?_
      rintro e w1 ⟨rfl, hb1⟩
      have hb11 := hba.trans (hb1.mono hba.size)
      replace HBX := Lib.hid (HBX.out.kept hb1)
      replace HBA := Lib.hid (HBA.out.kept hb1)
      clear hba hb1 q0 q1 p0 p1 p2 p3
      generalize wr.heap.size = G at *
      have p0 := HBA.out.cell 0
      have p1 := HBA.out.cell 1
      have x0 := HBX.out.cell 0
      have x1 := HBX.out.cell 1
      simp only [List.getElem?_toArray, List.getElem?_cons_zero, List.getElem?_cons_succ] at p0 p1 x0 x1
      cases g1 : inK K X.a with
      | false =>
        have HG := Lib.hid (show goodB K z = false from (head_not HX.out (ok_a g1)).1 rfl)
        go_wp2_with fail
        go_ret
        exact ⟨ret_bool HG.out.symm, hb11⟩
      | true =>
        go_wp2_with fail
        refine (isKind K _ X.b _).mono ?_
        rintro e w2 ⟨rfl, hb2⟩
        have hb12 := hb11.trans (hb2.mono hb11.size)
        replace HBX := Lib.hid (HBX.out.kept hb2)
        replace HBA := Lib.hid (HBA.out.kept hb2)
        clear hb11 hb2 p0 p1 x0 x1
        have p0 := HBA.out.cell 0
        have p1 := HBA.out.cell 1
        have x0 := HBX.out.cell 0
        have x1 := HBX.out.cell 1
        simp only [List.getElem?_toArray, List.getElem?_cons_zero, List.getElem?_cons_succ] at p0 p1 x0 x1
        cases g2 : inK K X.b with
        | false =>
          have HG := Lib.hid (show goodB K z = false from (head_not HX.out (ok_b g2)).1 rfl)
          go_wp2_with fail
          go_ret
          exact ⟨ret_bool HG.out.symm, hb12⟩
        | true =>
          cases g3 : (X.a == X.b) with
          | true =>
            have HG := Lib.hid (show goodB K z = false from (head_not HX.out (ok_c g3)).1 rfl)
            go_wp2_with fail
            go_ret
            exact ⟨ret_bool HG.out.symm, hb12⟩
          | false =>
            have HOK := Lib.hid (ok_y g1 g2 g3)
            clear g1 g2
            go_wp2_with fail
            go_cut [58] (fun t wx => ∃ v : Bool, t = .bool v ∧ Hid (Head K z k v) ∧ Below w2.heap.size w2 wx)
            case first =>
              clear p0 p1 x0 x1
              have x0 := fun d os => Bxall HBX.out d os 0
              have x1 := fun d os => Bxall HBX.out d os 1
              have p0 := fun d os => Bxall HBA.out d os 0
              have p1 := fun d os => Bxall HBA.out d os 1
              simp only [List.getElem?_toArray, List.getElem?_cons_zero, List.getElem?_cons_succ] at x0 x1 p0 p1
              have k0 : 0 ≤ (k : Int) := by omega
              have k1 : (k : Int) < (n : Int) := by omega
              by_cases hz : k = 0
              · have HV := Lib.hid (show Head K z k false by subst hz; exact head_first HX.out HOK.out)
                have hd : decide (0 < (k : Int)) = false := by simp; omega
                have hd2 : decide (0 < k) = false := by simp; omega
                clear hz
                refine wp_region_quiet_below (by kernel_rfl) (by kernel_rfl) ?_
                repeat (go_big_quiet_step (fail))
                refine wpQuiet_nil ?_
                intro _ hw'
                obtain ⟨⟨dq, osq⟩, hw''⟩ := hw'
                subst hw''
                go_wp2_with fail
                go_meet
                exact ⟨false, rfl, HV, below_regrown _ _ _⟩
              · have h0 : 0 < k := by omega
                have hd : decide (0 < (k : Int)) = true := by simp; omega
                have hxp : k - 1 < z.length := by omega
                obtain ⟨b', o', he, hbl', hcell0'⟩ := hc.out (k - 1) z[k - 1] (List.getElem?_eq_getElem hxp)
                simp only [Option.some.injEq, Addr.mk.injEq, and_true] at he
                obtain ⟨rfl, rfl⟩ := he
                have HY := Lib.hid (List.getElem?_eq_getElem hxp)
                have HYG := LIntA2.grown (hcell0'.below LIntA2.rec hb12 hbl) (Nat.lt_of_lt_of_le hbl hb12.size)
                have y0 := fun d os => (LIntA2.cells (HYG.out d os)).1
                have y1 := fun d os => (LIntA2.cells (HYG.out d os)).2
                simp only [LIntA2.rec_n] at y0 y1
                clear hz hbl' hcell0' HYG
                generalize z[k - 1] = Y at *
                have HV := Lib.hid (show Head K z k (!lexB Y X) from head_next HX.out HOK.out h0 HY.out)
                have HBf := Lib.hid (fun W => isPairBefore Y X W)
                generalize lexB Y X = lb at *
                have s1 : IntKind.i64.wrap ((k : Int) - 1) = (k : Int) - 1 := IntWalk.i64_in _ (by omega)
                have s2 : ((k : Int) - 1).toNat = k - 1 := by omega
                have s3 : 0 ≤ (k : Int) - 1 := by omega
                have s4 : (k : Int) - 1 < (n : Int) := by omega
                refine wp_region_quiet_below (by kernel_rfl) (by kernel_rfl) ?_
                repeat (go_big_quiet_step ((go_at_call 29; exact Calls.regrown_of (HBf.out _))))
                refine wpQuiet_nil ?_
                intro _ hw'
                obtain ⟨⟨dq, osq⟩, hw''⟩ := hw'
                subst hw''
                go_wp2_with fail
                go_meet
                exact ⟨_, rfl, HV, below_regrown _ _ _⟩
            case rest =>
              clear p0 p1 x0 x1
              obtain ⟨v, rfl, HV, hbv⟩ := hcut
              have hb2 := hb12.trans (hbv.mono hb12.size)
              have HB2 := Lib.hid (HBA.out.kept hbv)
              cases v with
              | true =>
                have HF := Lib.hid (show goodB K z = false from HV.out.1 rfl)
                go_wp2_with fail
                go_ret
                exact ⟨ret_bool HF.out.symm, hb2⟩
              | false =>
                have HN2 := Lib.hid (steps_next HS.out (HV.out.2 rfl))
                go_wp2_with fail
                go_roundw
                case rel => exact ⟨k + 1, by omega, by go_num, hb2, HB2, HN2⟩
                case measure => simp [intOf]; omega
    · have HG := Lib.hid (show goodB K z = true from good_yes ⟨by omega, by omega, by have := HN.out; omega, fun i hi => HS.out i (by have := HN.out; omega)⟩)
      go_wp2_with fail
      go_ret
      exact ⟨ret_bool HG.out.symm, hb⟩
end Go.Proofs.Ythhlhcojjeglkab.PrecG
