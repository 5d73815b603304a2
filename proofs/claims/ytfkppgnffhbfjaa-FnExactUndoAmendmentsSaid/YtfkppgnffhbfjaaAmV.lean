/- Lists of amendments: the tests of the model and of the program. No condition. -/
import Derived.Test.YtfkppgnffhbfjaaAmR
import Derived.Test.YtfkppgnffhbfjaaAmG
import Derived.Test.YtfkppgnffhbfjaaLAmendmentSD
import Derived.Deep.DeepCutAuto
namespace Go.Proofs.Ytfkppgnffhbfjaa.AmV
open Go.RowKit Bs Word Am AmA AmG AmR
set_option linter.unusedVariables false
set_option maxRecDepth 100000 in
set_option maxHeartbeats 1600000 in
theorem l9List (v : Value) (l : List M) (w : World) (h0 : LAmendmentS.Is w v l) (f0 : ∀ x ∈ l, LAmendment.Fine x) :
    Calls Try.prog 53 #[v] w fun e w' => e = .returned (.bool (goodL l)) ∧ Below w.heap.size w w' := by
  have hc := LAmendmentS.get h0
  obtain ⟨a, cp, rfl, hnb, h2⟩ := h0.form
  unfold maxLen at h2
  obtain ⟨n, hn⟩ : ∃ n, n = l.length := ⟨_, rfl⟩
  have HN := Lib.hid hn.symm
  have HF := Lib.hid f0
  rw [← hn] at hc hnb ⊢
  have hle : n ≤ l.length := by omega
  clear hn h0 f0
  have HNl := Lib.hid (fun h : ¬ n ≤ 8 => goodL_long (l := l) (by have := HN.out; omega))
  go_enter Try.func53, Try.ntmps53
  go_wp2_with fail
  go_loopw [3] (fun i wr => ∃ k : Nat, k ≤ n ∧ k ≤ 9 ∧ i = .int .i64 k ∧ Hid (UptoL l k) ∧ Below w.heap.size w wr) (fun i _ => n - (intOf i).toNat)
  case atStart => exact ⟨0, Nat.zero_le _, Nat.zero_le _, rfl, Lib.hid (uptoL_zero l), Below.refl _ _⟩
  case round =>
    obtain ⟨k, hk, hkm, rfl, HU, hb⟩ := hrel
    by_cases hlt : k < n
    · by_cases hm2 : k ≤ 8
      · have k0 : 0 ≤ (k : Int) := by omega
        have k1 : (k : Int) < (n : Int) := by omega
        have hx : k < l.length := by omega
        obtain ⟨b, o, c, x, y, z, he, hbl, hat, hI⟩ := hc.out k l[k] (List.getElem?_eq_getElem hx)
        simp only [Value.slice.injEq] at he
        obtain ⟨rfl, -, rfl⟩ := he
        obtain ⟨q0, q1, q2, q3⟩ := LAmendmentS.cells_hd (hat.below LAmendmentS.kit.row hb hbl)
        have HAT := Lib.hid (hat.below LAmendmentS.kit.row hb hbl)
        have HBL := Lib.hid (Nat.lt_of_lt_of_le hbl hb.size)
        have HX := Lib.hid (List.getElem?_eq_getElem hx)
        have HFX := Lib.hid (HF.out _ (List.getElem_mem hx))
        have HIX := Lib.hid (LAmendment.Is.below hI hb)
        clear hat hI
        generalize l[k] = X at *
        have HC := Lib.hid (AmG.l9Good _ X wr HIX.out HFX.out)
        go_wp2_with fail
        refine HC.out.mono ?_
        rintro e w1 ⟨rfl, hb1⟩
        have hb2 := hb.trans (hb1.mono hb.size)
        clear hb1 q0 q1 q2 q3
        cases hw : good X with
        | true =>
          have HU2 := Lib.hid (uptoL_next HU.out HX.out hw)
          go_wp2_with fail
          go_roundw
          case rel => exact ⟨k + 1, by omega, by omega, by go_num, HU2, hb2⟩
          case measure => simp [intOf]; omega
        | false =>
          have HB := Lib.hid (goodL_bad HX.out hw)
          go_wp2_with fail
          go_ret
          exact ⟨ret_bool HB.out.symm, hb2⟩
      · have HB := Lib.hid (HNl.out (by omega))
        have c1 : ¬ n ≤ 8 := by omega
        go_wp2_with fail
        go_ret
        exact ⟨ret_bool (by rw [HB.out]; exact decide_eq_false (by omega)), hb⟩
    · have HB := Lib.hid (fun h : n ≤ 8 => uptoL_all HU.out (by have := HN.out; omega) (by have := HN.out; omega))
      have HD := Lib.hid (show goodL l = decide (n ≤ 8) by
        by_cases h : n ≤ 8
        · rw [HB.out h, decide_eq_true h]
        · rw [HNl.out h, decide_eq_false h])
      go_wp2_with fail
      go_ret
      exact ⟨ret_bool (by rw [HD.out]; exact decide_eq_decide.2 (by omega)), hb⟩
set_option maxRecDepth 100000 in
set_option maxHeartbeats 1600000 in
theorem areAmendments (v : Value) (l : List M) (w : World) (h0 : LAmendmentS.Is w v l) (f0 : ∀ x ∈ l, LAmendment.Fine x) :
    Calls Try.prog 54 #[v] w fun e w' => e = .returned (.bool (goodL l)) ∧ Below w.heap.size w w' := by
  have hc := LAmendmentS.get h0
  obtain ⟨a, cp, rfl, hnb, h2⟩ := h0.form
  unfold maxLen at h2
  obtain ⟨n, hn⟩ : ∃ n, n = l.length := ⟨_, rfl⟩
  have HN := Lib.hid hn.symm
  have HF := Lib.hid f0
  rw [← hn] at hc hnb ⊢
  have hle : n ≤ l.length := by omega
  clear hn h0 f0
  by_cases h8 : 8 < n
  · have HB := Lib.hid (goodL_long (l := l) (by have := HN.out; omega))
    go_enter Try.func54, Try.ntmps54
    go_wp2_with fail
    go_ret
    exact ⟨ret_bool HB.out.symm, Below.refl _ _⟩
  go_enter Try.func54, Try.ntmps54
  go_wp2_with fail
  go_loopw [10] (fun i wr => ∃ k : Nat, k ≤ n ∧ i = .int .i64 k ∧ Hid (UptoL l k) ∧ Below w.heap.size w wr) (fun i _ => n - (intOf i).toNat)
  case atStart => exact ⟨0, Nat.zero_le _, rfl, Lib.hid (uptoL_zero l), Below.refl _ _⟩
  case round =>
    obtain ⟨k, hk, rfl, HU, hb⟩ := hrel
    by_cases hlt : k < n
    · have k0 : 0 ≤ (k : Int) := by omega
      have k1 : (k : Int) < (n : Int) := by omega
      have hx : k < l.length := by omega
      obtain ⟨b, o, c, x, y, z, he, hbl, hat, hI⟩ := hc.out k l[k] (List.getElem?_eq_getElem hx)
      simp only [Value.slice.injEq] at he
      obtain ⟨rfl, -, rfl⟩ := he
      obtain ⟨q0, q1, q2, q3⟩ := LAmendmentS.cells_hd (hat.below LAmendmentS.kit.row hb hbl)
      have HAT := Lib.hid (hat.below LAmendmentS.kit.row hb hbl)
      have HBL := Lib.hid (Nat.lt_of_lt_of_le hbl hb.size)
      have HX := Lib.hid (List.getElem?_eq_getElem hx)
      have HFX := Lib.hid (HF.out _ (List.getElem_mem hx))
      have HIX := Lib.hid (LAmendment.Is.below hI hb)
      clear hat hI
      generalize l[k] = X at *
      obtain ⟨wa, hwa⟩ : ∃ wa : World, wa = wr.alloc (Obj.cells #[.int .i64 X.kind, .int .i64 X.pos, .int .i64 X.count, .slice x y z] 31) := ⟨_, rfl⟩
      have hba : Below wr.heap.size wr wa := by rw [hwa]; exact (Below.refl _ _).alloc (Nat.le_refl _) _
      have BX := Lib.hid (show Bx wa wr.heap.size 31 #[.int .i64 X.kind, .int .i64 X.pos, .int .i64 X.count, .slice x y z] by rw [hwa]; exact Bx.new _ _ _)
      have hb2 := hb.trans (hba.mono hb.size)
      have HC := Lib.hid (AmG.isValid _ X wa (LAmendment.Is.below HIX.out hba) HFX.out)
      go_upto_region 6 with fail
      rw [← hwa]
      clear hwa q0 q1 q2 q3
      have x0 := BX.out.cell 0
      have x1 := BX.out.cell 1
      have x2 := BX.out.cell 2
      have x3 := BX.out.cell 3
      simp only [List.getElem?_toArray, List.getElem?_cons_zero, List.getElem?_cons_succ] at x0 x1 x2 x3
      go_wp2_with fail
      refine HC.out.mono ?_
      rintro e w1 ⟨rfl, hb1⟩
      have hb3 := hb2.trans (hb1.mono hb2.size)
      clear hb1 x0 x1 x2 x3
      cases hw : good X with
      | true =>
        have HU2 := Lib.hid (uptoL_next HU.out HX.out hw)
        go_wp2_with fail
        go_roundw
        case rel => exact ⟨k + 1, by omega, by go_num, HU2, hb3⟩
        case measure => simp [intOf]; omega
      | false =>
        have HB := Lib.hid (goodL_bad HX.out hw)
        go_wp2_with fail
        go_ret
        exact ⟨ret_bool HB.out.symm, hb3⟩
    · have HB := Lib.hid (uptoL_all HU.out (by have := HN.out; omega) (by have := HN.out; omega))
      go_wp2_with fail
      go_ret
      exact ⟨ret_bool HB.out.symm, hb⟩
end Go.Proofs.Ytfkppgnffhbfjaa.AmV
