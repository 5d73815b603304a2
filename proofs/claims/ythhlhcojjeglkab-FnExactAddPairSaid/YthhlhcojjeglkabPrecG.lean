/- Precedences: whether one is valid, model and program. No condition. -/
import Derived.Test.YthhlhcojjeglkabPrecH
import Derived.Deep.RegionHeld3
namespace Go.Proofs.Ythhlhcojjeglkab.PrecG
open Go.RowKit Bs Word PrecM PrecB
set_option linter.unusedVariables false
set_option maxRecDepth 100000 in
set_option maxHeartbeats 8000000 in
theorem l4Good (v : Value) (r : LPrecedence.R) (w : World) (h : LPrecedence.Is w v r) :
    Calls Try.prog 18 #[v] w (Post r w) := by
  obtain ⟨K, z⟩ := r
  obtain ⟨s, rfl, h⟩ := h
  obtain ⟨a, cp, rfl, h⟩ := h
  simp only at h ⊢
  have hc := h.at_ LIntA2.rec
  obtain ⟨n, hn⟩ : ∃ n, n = z.length := ⟨_, rfl⟩
  have hnb : n ≤ cp := by have := h.1; omega
  have h2 := h.2.1
  unfold maxLen at h2
  have HN := Lib.hid hn.symm
  rw [← hn]
  have hle : n ≤ z.length := by omega
  clear hn h
  have hb0 := (Below.refl w.heap.size w).alloc (Nat.le_refl _) (.cells #[.int .i64 K, .slice a n cp] 29)
  have HB := Lib.hid (Bx.new w 29 #[.int .i64 K, .slice a n cp])
  by_cases hK : 1 ≤ K ∧ K ≤ 8
  rotate_left
  · have HG := Lib.hid (show goodB K z = false from no_head fun h => hK ⟨h.1, h.2.1⟩)
    have H1 := Lib.hid (fun W => in_as K 1 8 false (inB_not hK) W)
    go_enter Try.func18, Try.ntmps18
    go_wp2_with fail
    refine (H1.out _).mono ?_
    rintro e _ ⟨rfl, rfl⟩
    go_wp2_with fail
    go_ret
    exact ⟨ret_bool HG.out.symm, hb0⟩
  have H1 := Lib.hid (fun W => in_as K 1 8 true (inB_mk hK.1 hK.2) W)
  by_cases hn16 : n ≤ 16
  rotate_left
  · have HG := Lib.hid (show goodB K z = false from no_head fun h => hn16 (by rw [← HN.out]; exact h.2.2))
    go_enter Try.func18, Try.ntmps18
    go_wp2_with fail
    refine (H1.out _).mono ?_
    rintro e _ ⟨rfl, rfl⟩
    go_wp2_with fail
    go_ret
    exact ⟨ret_bool HG.out.symm, hb0⟩
  go_enter Try.func18, Try.ntmps18
  go_wp2_with fail
  refine (H1.out _).mono ?_
  rintro e _ ⟨rfl, rfl⟩
  go_wp2_with fail
  generalize w.alloc (.cells #[.int .i64 K, .slice a n cp] 29) = wq at *
  go_loopw [3] (fun i wr => ∃ k : Nat, k ≤ n ∧ i = .int .i64 k ∧ Below w.heap.size w wr ∧ Hid (Bx wr w.heap.size 29 #[.int .i64 K, .slice a n cp]) ∧ Hid (∀ i, i < k → Step K z i)) (fun i _ => n - (intOf i).toNat)
  case atStart => exact ⟨0, Nat.zero_le _, rfl, hb0, HB, Lib.hid (fun i hi => by omega)⟩
  case round =>
    clear hb0 HB
    obtain ⟨k, hk, rfl, hb, HB, HS⟩ := hrel
    have p0 := HB.out.cell 0
    have p1 := HB.out.cell 1
    simp only [List.getElem?_toArray, List.getElem?_cons_zero, List.getElem?_cons_succ] at p0 p1
    by_cases hlt : k < n
    · have hx : k < z.length := by omega
      obtain ⟨b, o, rfl, hbl, hcell0⟩ := hc.out k z[k] (List.getElem?_eq_getElem hx)
      obtain ⟨q0, q1⟩ := LIntA2.cells (hcell0.below LIntA2.rec hb hbl)
      simp only [LIntA2.rec_n] at q0 q1
      have HX := Lib.hid (List.getElem?_eq_getElem hx)
      clear hcell0
      generalize z[k] = X at *
      go_wp2_with fail
      have HBX := Lib.hid (Bx.new wr 48 #[.int .i64 X.a, .int .i64 X.b])
      have HBA := Lib.hid (HB.out.alloc (Obj.cells #[.int .i64 X.a, .int .i64 X.b] 48))
      have hba := hb.alloc hb.size (Obj.cells #[.int .i64 X.a, .int .i64 X.b] 48)
      clear q0 q1 p0 p1
      generalize wr.alloc (Obj.cells #[.int .i64 X.a, .int .i64 X.b] 48) = wq2 at *
      generalize wr.heap.size = G at *
      go_cut [64] (fun t wx => ∃ v : Bool, t = .bool v ∧ Hid (Head K z k v) ∧ Below wq2.heap.size wq2 wx)
      case first =>
        have x0 := HBX.out.cell 0
        have x1 := HBX.out.cell 1
        have p0 := HBA.out.cell 0
        have p1 := HBA.out.cell 1
        simp only [List.getElem?_toArray, List.getElem?_cons_zero, List.getElem?_cons_succ] at x0 x1 p0 p1
        have k0 : 0 ≤ (k : Int) := by omega
        have k1 : (k : Int) < (n : Int) := by omega
        have e1 : IntKind.i64.wrap (K - 1) = K - 1 := IntWalk.i64_in _ (by omega)
        have hGq : G < wq2.heap.size := HBX.out.lt
        have hwq : w.heap.size < wq2.heap.size := HBA.out.lt
        cases g1 : inK K X.a with
        | false =>
          have HV := Lib.hid (show Head K z k true from head_not HX.out (ok_a g1))
          go_quiet ((go_at_call 33; exact quiet_eq (in_kind K _ _)))
          go_wp2_with fail
          go_meet
          exact ⟨true, rfl, HV, drawn_below _ _⟩
        | true =>
          cases g2 : inK K X.b with
          | false =>
            have HV := Lib.hid (show Head K z k true from head_not HX.out (ok_b g2))
            go_quiet ((go_at_call 33; exact quiet_eq (in_kind K _ _)))
            go_wp2_with fail
            go_meet
            exact ⟨true, rfl, HV, drawn_below _ _⟩
          | true =>
            cases g3 : (X.a == X.b) with
            | true =>
              have HV := Lib.hid (show Head K z k true from head_not HX.out (ok_c g3))
              go_quiet ((go_at_call 33; exact quiet_eq (in_kind K _ _)))
              go_wp2_with fail
              go_meet
              exact ⟨true, rfl, HV, drawn_below _ _⟩
            | false =>
              have HOK := Lib.hid (ok_y g1 g2 g3)
              by_cases hz : k = 0
              · have HV := Lib.hid (show Head K z k false by subst hz; exact head_first HX.out HOK.out)
                have hd : decide (0 < (k : Int)) = false := by simp; omega
                have hd2 : decide (0 < k) = false := by simp; omega
                clear hz
                go_quiet ((go_at_call 33; exact quiet_eq (in_kind K _ _)))
                go_wp2_with fail
                go_meet
                exact ⟨false, rfl, HV, drawn_below _ _⟩
              · have h0 : 0 < k := by omega
                have hd : decide (0 < (k : Int)) = true := by simp; omega
                have hxp : k - 1 < z.length := by omega
                obtain ⟨b', o', he, hbl', hcell0'⟩ := hc.out (k - 1) z[k - 1] (List.getElem?_eq_getElem hxp)
                simp only [Option.some.injEq, Addr.mk.injEq, and_true] at he
                obtain ⟨rfl, rfl⟩ := he
                have HY := Lib.hid (List.getElem?_eq_getElem hxp)
                have HYG := LIntA2.grown (hcell0'.below LIntA2.rec hba hbl) (Nat.lt_of_lt_of_le hbl hba.size)
                have y0 := fun d os => (LIntA2.cells (HYG.out d os)).1
                have y1 := fun d os => (LIntA2.cells (HYG.out d os)).2
                simp only [LIntA2.rec_n] at y0 y1
                clear hz hbl' hcell0' HYG
                generalize z[k - 1] = Y at *
                have HV := Lib.hid (show Head K z k (!lexB Y X) from head_next HX.out HOK.out h0 HY.out)
                have HBf := Lib.hid (fun W => before Y X W)
                generalize lexB Y X = lb at *
                have s1 : IntKind.i64.wrap ((k : Int) - 1) = (k : Int) - 1 := IntWalk.i64_in _ (by omega)
                have s2 : ((k : Int) - 1).toNat = k - 1 := by omega
                have s3 : 0 ≤ (k : Int) - 1 := by omega
                have s4 : (k : Int) - 1 < (n : Int) := by omega
                clear x0 x1 p0 p1
                have x0 := fun d os => Bxall HBX.out d os 0
                have x1 := fun d os => Bxall HBX.out d os 1
                have p0 := fun d os => Bxall HBA.out d os 0
                have p1 := fun d os => Bxall HBA.out d os 1
                simp only [List.getElem?_toArray, List.getElem?_cons_zero, List.getElem?_cons_succ] at x0 x1 p0 p1
                refine wp_region_quiet_below (by kernel_rfl) (by kernel_rfl) ?_
                repeat (go_big_quiet_step ((first | (go_at_call 33; exact regrown_eq (in_kind K _ _)) | (go_at_call 27; exact Calls.regrown_of (HBf.out _)))))
                refine wpQuiet_nil ?_
                intro _ hw'
                obtain ⟨⟨dq, osq⟩, hw''⟩ := hw'
                subst hw''
                go_wp2_with fail
                go_meet
                exact ⟨_, rfl, HV, below_regrown _ _ _⟩
      case rest =>
        obtain ⟨v, rfl, HV, hbv⟩ := hcut
        have hb2 := hba.trans (hbv.mono hba.size)
        have HB2 := Lib.hid (HBA.out.kept hbv)
        cases v with
        | true =>
          have HF := Lib.hid (show goodB K z = false from HV.out.1 rfl)
          go_wp2_with fail
          go_ret
          exact ⟨ret_bool HF.out.symm, hb2⟩
        | false =>
          have HN2 := Lib.hid (steps_next HS.out (HV.out.2 rfl))
          go_wp2_with fail
          go_roundw
          case rel => exact ⟨k + 1, by omega, by go_num, hb2, HB2, HN2⟩
          case measure => simp [intOf]; omega
    · have HG := Lib.hid (show goodB K z = true from good_yes ⟨hK.1, hK.2, by rw [HN.out]; exact hn16, fun i hi => HS.out i (by have := HN.out; omega)⟩)
      go_wp2_with fail
      go_ret
      exact ⟨ret_bool HG.out.symm, hb⟩
end Go.Proofs.Ythhlhcojjeglkab.PrecG
