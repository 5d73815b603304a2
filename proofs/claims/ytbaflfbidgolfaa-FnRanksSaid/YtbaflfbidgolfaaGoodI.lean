/- Lists of rules: the program's test of a list. No condition but that names are no longer than strings can be. -/
import Derived.Test.YtbaflfbidgolfaaGood
namespace Go.Proofs.Ytbaflfbidgolfaa.GoodI
open Go.RowKit Rule Gd
set_option linter.unusedVariables false
set_option maxHeartbeats 1600000 in
theorem isValidRules (a : Option Addr) (n cp : Nat) (xs : List R) (w : World) (hn : xs.length = n) (h : RulesAt w a cp xs) (hsz : ∀ x ∈ xs, x.name.size ≤ maxLen) :
    Calls Try.prog 80 #[.slice a n cp] w (GoodPost xs w) := by
  have hc := h.at_
  obtain ⟨h1, h2, h3⟩ := h
  unfold maxLen at h2
  have HN := Lib.hid hn
  have HSZ := Lib.hid hsz
  have hnb : n ≤ cp := by omega
  have hle : n ≤ xs.length := by omega
  clear hn h1 h3 hsz
  by_cases h8 : n ≤ 8
  · go_enter Try.func80, Try.ntmps80
    go_wp2_with fail
    go_loopw [12] (fun i wr => ∃ k : Nat, k ≤ n ∧ i = .int .i64 k ∧ Below w.heap.size w wr ∧ Hid (∀ i, i < k → Step xs i)) (fun i _ => n - (intOf i).toNat)
    case atStart => exact ⟨0, Nat.zero_le _, rfl, Below.refl _ _, Lib.hid (fun i hi => by omega)⟩
    case round =>
      obtain ⟨k, hk, rfl, hb, HS⟩ := hrel
      by_cases hlt : k < n
      · have hx : k < xs.length := by omega
        obtain ⟨b, o, rfl, hbl, hcell0⟩ := hc.out k xs[k] (List.getElem?_eq_getElem hx)
        have hq := hcell0.below hb hbl
        have g1 := Nat.lt_of_lt_of_le hbl hb.size
        have hxs := Lib.hid (HSZ.out xs[k] (List.getElem_mem hx))
        have HX := Lib.hid (List.getElem?_eq_getElem hx)
        have k0 : 0 ≤ (k : Int) := by omega
        have k1 : (k : Int) < (n : Int) := by omega
        clear hcell0
        obtain ⟨q0, q1, q2, q3, q4, q5, q6⟩ := hq
        cases hok : okB xs[k] with
        | false =>
          have HB := Lib.hid (no_ok hx hok)
          have HC := Lib.hid (fun W => impl_as xs[k] false hok hxs.out W)
          clear hok
          generalize xs[k] = X at *
          go_wp2_with fail
          have hbx := Rule.At.box wr X 63
          have hba := hb.alloc hb.size (Obj.cells #[.int .i64 X.id, .string X.name, .int .i64 X.rank, .bool X.sec, .bool X.deb, .bool X.am, .int .i64 X.need] 63)
          have hGq : wr.heap.size < (wr.alloc (Obj.cells #[.int .i64 X.id, .string X.name, .int .i64 X.rank, .bool X.sec, .bool X.deb, .bool X.am, .int .i64 X.need] 63)).heap.size := by simp
          clear q0 q1 q2 q3 q4 q5 q6
          generalize wr.alloc (Obj.cells #[.int .i64 X.id, .string X.name, .int .i64 X.rank, .bool X.sec, .bool X.deb, .bool X.am, .int .i64 X.need] 63) = wq at *
          generalize wr.heap.size = G at *
          have HG := grown_cells hbx hGq
          have HG0 := Lib.hid (fun d os => (HG.out d os).head)
          have c0 := fun d os => (HG0.out d os).1
          have c1 := fun d os => (HG0.out d os).2.1
          have c2 := fun d os => (HG0.out d os).2.2.1
          have c3 := fun d os => (HG0.out d os).2.2.2.1
          have c4 := fun d os => (HG0.out d os).2.2.2.2.1
          have c5 := fun d os => (HG0.out d os).2.2.2.2.2.1
          have c6 := fun d os => (HG0.out d os).2.2.2.2.2.2
          refine wp_region_quiet_below (by kernel_rfl) (by kernel_rfl) ?_
          repeat (go_big_quiet_step ((go_at_call 112; exact Calls.regrown_of (HC.out _))))
          refine wpQuiet_nil ?_
          intro _ hw'
          obtain ⟨⟨dq, osq⟩, hw''⟩ := hw'
          subst hw''
          have hb2 : Below w.heap.size w (Sort.grow (redrawn wq dq) osq) := hba.trans ((below_regrown wq dq osq).mono hba.size)
          have hX2 := Lib.hid (hbx.below (below_regrown wq dq osq) hGq)
          have hG2 : G < (Sort.grow (redrawn wq dq) osq).heap.size := Nat.lt_of_lt_of_le hGq (below_regrown wq dq osq).size
          generalize Sort.grow (redrawn wq dq) osq = wo at *
          clear c0 c1 c2 c3 c4 c5 c6 HG hbx
          go_wp2_with fail
          go_ret
          exact seen_bad HB.out hb2
        | true =>
          have HOK := Lib.hid hok
          have HC := Lib.hid (fun W => impl_as xs[k] true hok hxs.out W)
          clear hok
          by_cases hz : k = 0
          · have HID := Lib.hid (show ∀ p, 0 < k → xs[k - 1]? = some p → p.id < xs[k].id from fun p h0 => by omega)
            have hd : decide (0 < (k : Int)) = false := by simp; omega
            have hd2 : decide (0 < k) = false := by simp; omega
            clear hz
            generalize xs[k] = X at *
            go_wp2_with fail
            have hbx := Rule.At.box wr X 63
            have hba := hb.alloc hb.size (Obj.cells #[.int .i64 X.id, .string X.name, .int .i64 X.rank, .bool X.sec, .bool X.deb, .bool X.am, .int .i64 X.need] 63)
            have hGq : wr.heap.size < (wr.alloc (Obj.cells #[.int .i64 X.id, .string X.name, .int .i64 X.rank, .bool X.sec, .bool X.deb, .bool X.am, .int .i64 X.need] 63)).heap.size := by simp
            clear q0 q1 q2 q3 q4 q5 q6
            generalize wr.alloc (Obj.cells #[.int .i64 X.id, .string X.name, .int .i64 X.rank, .bool X.sec, .bool X.deb, .bool X.am, .int .i64 X.need] 63) = wq at *
            generalize wr.heap.size = G at *
            have HG := grown_cells hbx hGq
            have HG0 := Lib.hid (fun d os => (HG.out d os).head)
            have c0 := fun d os => (HG0.out d os).1
            have c1 := fun d os => (HG0.out d os).2.1
            have c2 := fun d os => (HG0.out d os).2.2.1
            have c3 := fun d os => (HG0.out d os).2.2.2.1
            have c4 := fun d os => (HG0.out d os).2.2.2.2.1
            have c5 := fun d os => (HG0.out d os).2.2.2.2.2.1
            have c6 := fun d os => (HG0.out d os).2.2.2.2.2.2
            refine wp_region_quiet_below (by kernel_rfl) (by kernel_rfl) ?_
            repeat (go_big_quiet_step ((go_at_call 112; exact Calls.regrown_of (HC.out _))))
            refine wpQuiet_nil ?_
            intro _ hw'
            obtain ⟨⟨dq, osq⟩, hw''⟩ := hw'
            subst hw''
            have hb2 : Below w.heap.size w (Sort.grow (redrawn wq dq) osq) := hba.trans ((below_regrown wq dq osq).mono hba.size)
            have hX2 := Lib.hid (hbx.below (below_regrown wq dq osq) hGq)
            have hG2 : G < (Sort.grow (redrawn wq dq) osq).heap.size := Nat.lt_of_lt_of_le hGq (below_regrown wq dq osq).size
            generalize Sort.grow (redrawn wq dq) osq = wo at *
            clear c0 c1 c2 c3 c4 c5 c6 HG hbx
            clear hd hd2
            clear HG0
            go_wp2_with fail
            go_loopw [39] (fun j ws => ∃ m : Nat, m ≤ k ∧ j = .int .i64 m ∧ Below w.heap.size w ws ∧ Hid (At ws G 0 X) ∧ G < ws.heap.size ∧ Hid (∀ q p, q < m → xs[q]? = some p → p.name ≠ X.name)) (fun j _ => k - (intOf j).toNat)
            case atStart => exact ⟨0, Nat.zero_le _, rfl, hb2, hX2, hG2, Lib.hid (fun q p hq => by omega)⟩
            case round =>
              clear hb2 hX2 hG2 hb hba hGq
              obtain ⟨m, hm, rfl, hbs, HXG, hGs, HM⟩ := hrel
              by_cases hmk : m < k
              · have hxm : m < xs.length := by omega
                obtain ⟨b', o', he, hbl', hcell1⟩ := hc.out m xs[m] (List.getElem?_eq_getElem hxm)
                simp only [Option.some.injEq, Addr.mk.injEq, and_true] at he
                obtain ⟨rfl, rfl⟩ := he
                have HP := Lib.hid (List.getElem?_eq_getElem hxm)
                obtain ⟨d0, d1, d2, d3, d4, d5, d6⟩ := hcell1.below hbs hbl
                have x1 := HXG.out.head.2.1
                have m0 : 0 ≤ (m : Int) := by omega
                have m1 : (m : Int) < (k : Int) := by omega
                clear hcell1
                generalize xs[m] = P at *
                by_cases hname : P.name = X.name
                · have HB := Lib.hid (no_name2 HX.out HP.out hmk hname)
                  have hbe : (P.name.toList == X.name.toList) = true := by rw [hname]; simp
                  clear hname
                  go_wp2_with fail
                  go_ret
                  exact seen_bad HB.out (hbs.alloc hbs.size _)
                · have HM2 := Lib.hid (show ∀ q p, q < m + 1 → xs[q]? = some p → p.name ≠ X.name from fun q p hq hp => by
                    rcases Nat.lt_or_ge q m with h' | h'
                    · exact HM.out q p h' hp
                    · obtain rfl : q = m := by omega
                      rw [HP.out] at hp
                      rw [← Option.some.inj hp]
                      exact hname)
                  have hbe : (P.name.toList == X.name.toList) = false := by
                    rw [beq_eq_false_iff_ne]
                    intro e
                    rw [ByteArray.toList_eq, ByteArray.toList_eq] at e
                    exact hname (ByteArray.ext (Array.ext' e))
                  clear hname
                  go_wp2_with fail
                  go_roundw
                  case rel => exact ⟨m + 1, by omega, by go_num, hbs.alloc hbs.size _, Lib.hid (HXG.out.below ((Below.refl _ _).alloc (Nat.le_refl _) _) hGs), by simp; omega, HM2⟩
                  case measure => simp [intOf]; omega
              · obtain rfl : m = k := by omega
                have HST := Lib.hid (steps_next HS.out ⟨X, HX.out, HOK.out, HID.out, HM.out⟩)
                go_wp2_with fail
                go_roundw
                case rel => exact ⟨m + 1, by omega, by go_num, hbs, HST⟩
                case measure => simp [intOf]; omega
          · have h0 : 0 < k := by omega
            have hxp : k - 1 < xs.length := by omega
            obtain ⟨b', o', he, hbl', hcell0'⟩ := hc.out (k - 1) xs[k - 1] (List.getElem?_eq_getElem hxp)
            simp only [Option.some.injEq, Addr.mk.injEq, and_true] at he
            obtain ⟨rfl, rfl⟩ := he
            have HY := Lib.hid hcell0'
            clear hcell0' hz hbl'
            by_cases hid : (xs[k - 1]).id < (xs[k]).id
            · have HID := Lib.hid (show ∀ p, 0 < k → xs[k - 1]? = some p → p.id < xs[k].id from fun p _ hp => by
                rw [List.getElem?_eq_getElem hxp] at hp; rw [← Option.some.inj hp]; exact hid)
              generalize xs[k] = X at *
              generalize xs[k - 1] = Y at *
              go_wp2_with fail
              have hbx := Rule.At.box wr X 63
              have hba := hb.alloc hb.size (Obj.cells #[.int .i64 X.id, .string X.name, .int .i64 X.rank, .bool X.sec, .bool X.deb, .bool X.am, .int .i64 X.need] 63)
              have hGq : wr.heap.size < (wr.alloc (Obj.cells #[.int .i64 X.id, .string X.name, .int .i64 X.rank, .bool X.sec, .bool X.deb, .bool X.am, .int .i64 X.need] 63)).heap.size := by simp
              have hgb : b < (wr.alloc (Obj.cells #[.int .i64 X.id, .string X.name, .int .i64 X.rank, .bool X.sec, .bool X.deb, .bool X.am, .int .i64 X.need] 63)).heap.size := by simp; omega
              clear q0 q1 q2 q3 q4 q5 q6
              generalize wr.alloc (Obj.cells #[.int .i64 X.id, .string X.name, .int .i64 X.rank, .bool X.sec, .bool X.deb, .bool X.am, .int .i64 X.need] 63) = wq at *
              generalize wr.heap.size = G at *
              have HG := grown_cells hbx hGq
              have HG0 := Lib.hid (fun d os => (HG.out d os).head)
              have HG' := grown_cells (HY.out.below hba hbl) hgb
              have c0 := fun d os => (HG0.out d os).1
              have c1 := fun d os => (HG0.out d os).2.1
              have c2 := fun d os => (HG0.out d os).2.2.1
              have c3 := fun d os => (HG0.out d os).2.2.2.1
              have c4 := fun d os => (HG0.out d os).2.2.2.2.1
              have c5 := fun d os => (HG0.out d os).2.2.2.2.2.1
              have c6 := fun d os => (HG0.out d os).2.2.2.2.2.2
              have e0 := fun d os => (HG'.out d os).1
              have hle2 : ¬ X.id ≤ Y.id := by omega
              have s1 : IntKind.i64.wrap ((k : Int) - 1) = (k : Int) - 1 := IntWalk.i64_in _ (by omega)
              have s2 : ((k : Int) - 1).toNat = k - 1 := by omega
              have s3 : 0 ≤ (k : Int) - 1 := by omega
              have s4 : (k : Int) - 1 < (n : Int) := by omega
              refine wp_region_quiet_below (by kernel_rfl) (by kernel_rfl) ?_
              repeat (go_big_quiet_step ((go_at_call 112; exact Calls.regrown_of (HC.out _))))
              refine wpQuiet_nil ?_
              intro _ hw'
              obtain ⟨⟨dq, osq⟩, hw''⟩ := hw'
              subst hw''
              have hb2 : Below w.heap.size w (Sort.grow (redrawn wq dq) osq) := hba.trans ((below_regrown wq dq osq).mono hba.size)
              have hX2 := Lib.hid (hbx.below (below_regrown wq dq osq) hGq)
              have hG2 : G < (Sort.grow (redrawn wq dq) osq).heap.size := Nat.lt_of_lt_of_le hGq (below_regrown wq dq osq).size
              generalize Sort.grow (redrawn wq dq) osq = wo at *
              clear c0 c1 c2 c3 c4 c5 c6 HG hbx
              clear e0 HG' s1 s2 s3 s4
              clear HG0
              go_wp2_with fail
              go_loopw [39] (fun j ws => ∃ m : Nat, m ≤ k ∧ j = .int .i64 m ∧ Below w.heap.size w ws ∧ Hid (At ws G 0 X) ∧ G < ws.heap.size ∧ Hid (∀ q p, q < m → xs[q]? = some p → p.name ≠ X.name)) (fun j _ => k - (intOf j).toNat)
              case atStart => exact ⟨0, Nat.zero_le _, rfl, hb2, hX2, hG2, Lib.hid (fun q p hq => by omega)⟩
              case round =>
                clear hb2 hX2 hG2 hb hba hGq
                obtain ⟨m, hm, rfl, hbs, HXG, hGs, HM⟩ := hrel
                by_cases hmk : m < k
                · have hxm : m < xs.length := by omega
                  obtain ⟨b', o', he, hbl', hcell1⟩ := hc.out m xs[m] (List.getElem?_eq_getElem hxm)
                  simp only [Option.some.injEq, Addr.mk.injEq, and_true] at he
                  obtain ⟨rfl, rfl⟩ := he
                  have HP := Lib.hid (List.getElem?_eq_getElem hxm)
                  obtain ⟨d0, d1, d2, d3, d4, d5, d6⟩ := hcell1.below hbs hbl
                  have x1 := HXG.out.head.2.1
                  have m0 : 0 ≤ (m : Int) := by omega
                  have m1 : (m : Int) < (k : Int) := by omega
                  clear hcell1
                  generalize xs[m] = P at *
                  by_cases hname : P.name = X.name
                  · have HB := Lib.hid (no_name2 HX.out HP.out hmk hname)
                    have hbe : (P.name.toList == X.name.toList) = true := by rw [hname]; simp
                    clear hname
                    go_wp2_with fail
                    go_ret
                    exact seen_bad HB.out (hbs.alloc hbs.size _)
                  · have HM2 := Lib.hid (show ∀ q p, q < m + 1 → xs[q]? = some p → p.name ≠ X.name from fun q p hq hp => by
                      rcases Nat.lt_or_ge q m with h' | h'
                      · exact HM.out q p h' hp
                      · obtain rfl : q = m := by omega
                        rw [HP.out] at hp
                        rw [← Option.some.inj hp]
                        exact hname)
                    have hbe : (P.name.toList == X.name.toList) = false := by
                      rw [beq_eq_false_iff_ne]
                      intro e
                      rw [ByteArray.toList_eq, ByteArray.toList_eq] at e
                      exact hname (ByteArray.ext (Array.ext' e))
                    clear hname
                    go_wp2_with fail
                    go_roundw
                    case rel => exact ⟨m + 1, by omega, by go_num, hbs.alloc hbs.size _, Lib.hid (HXG.out.below ((Below.refl _ _).alloc (Nat.le_refl _) _) hGs), by simp; omega, HM2⟩
                    case measure => simp [intOf]; omega
                · obtain rfl : m = k := by omega
                  have HST := Lib.hid (steps_next HS.out ⟨X, HX.out, HOK.out, HID.out, HM.out⟩)
                  go_wp2_with fail
                  go_roundw
                  case rel => exact ⟨m + 1, by omega, by go_num, hbs, HST⟩
                  case measure => simp [intOf]; omega
            · have HB := Lib.hid (no_id hx h0 hid)
              generalize xs[k] = X at *
              generalize xs[k - 1] = Y at *
              go_wp2_with fail
              have hbx := Rule.At.box wr X 63
              have hba := hb.alloc hb.size (Obj.cells #[.int .i64 X.id, .string X.name, .int .i64 X.rank, .bool X.sec, .bool X.deb, .bool X.am, .int .i64 X.need] 63)
              have hGq : wr.heap.size < (wr.alloc (Obj.cells #[.int .i64 X.id, .string X.name, .int .i64 X.rank, .bool X.sec, .bool X.deb, .bool X.am, .int .i64 X.need] 63)).heap.size := by simp
              have hgb : b < (wr.alloc (Obj.cells #[.int .i64 X.id, .string X.name, .int .i64 X.rank, .bool X.sec, .bool X.deb, .bool X.am, .int .i64 X.need] 63)).heap.size := by simp; omega
              clear q0 q1 q2 q3 q4 q5 q6
              generalize wr.alloc (Obj.cells #[.int .i64 X.id, .string X.name, .int .i64 X.rank, .bool X.sec, .bool X.deb, .bool X.am, .int .i64 X.need] 63) = wq at *
              generalize wr.heap.size = G at *
              have HG := grown_cells hbx hGq
              have HG0 := Lib.hid (fun d os => (HG.out d os).head)
              have HG' := grown_cells (HY.out.below hba hbl) hgb
              have c0 := fun d os => (HG0.out d os).1
              have c1 := fun d os => (HG0.out d os).2.1
              have c2 := fun d os => (HG0.out d os).2.2.1
              have c3 := fun d os => (HG0.out d os).2.2.2.1
              have c4 := fun d os => (HG0.out d os).2.2.2.2.1
              have c5 := fun d os => (HG0.out d os).2.2.2.2.2.1
              have c6 := fun d os => (HG0.out d os).2.2.2.2.2.2
              have e0 := fun d os => (HG'.out d os).1
              have hle2 : X.id ≤ Y.id := by omega
              have s1 : IntKind.i64.wrap ((k : Int) - 1) = (k : Int) - 1 := IntWalk.i64_in _ (by omega)
              have s2 : ((k : Int) - 1).toNat = k - 1 := by omega
              have s3 : 0 ≤ (k : Int) - 1 := by omega
              have s4 : (k : Int) - 1 < (n : Int) := by omega
              refine wp_region_quiet_below (by kernel_rfl) (by kernel_rfl) ?_
              repeat (go_big_quiet_step ((go_at_call 112; exact Calls.regrown_of (HC.out _))))
              refine wpQuiet_nil ?_
              intro _ hw'
              obtain ⟨⟨dq, osq⟩, hw''⟩ := hw'
              subst hw''
              have hb2 : Below w.heap.size w (Sort.grow (redrawn wq dq) osq) := hba.trans ((below_regrown wq dq osq).mono hba.size)
              have hX2 := Lib.hid (hbx.below (below_regrown wq dq osq) hGq)
              have hG2 : G < (Sort.grow (redrawn wq dq) osq).heap.size := Nat.lt_of_lt_of_le hGq (below_regrown wq dq osq).size
              generalize Sort.grow (redrawn wq dq) osq = wo at *
              clear c0 c1 c2 c3 c4 c5 c6 HG hbx
              clear e0 HG' s1 s2 s3 s4
              go_wp2_with fail
              go_ret
              exact seen_bad HB.out hb2
      · obtain rfl : k = n := by omega
        have HB := Lib.hid (good_yes (xs := xs) ⟨by rw [HN.out]; exact h8, fun i hi => HS.out i (by rw [HN.out] at hi; exact hi)⟩)
        go_wp2_with fail
        go_ret
        exact ⟨by rw [HB.out]; exact ret_bool rfl, hb⟩
  · have HB := Lib.hid (no_len (xs := xs) (by omega))
    go_enter Try.func80, Try.ntmps80
    go_wp2_with fail
    go_ret
    exact seen_bad HB.out (Below.refl _ _)
end Go.Proofs.Ytbaflfbidgolfaa.GoodI
