/- SingleChange: what it answers, on both sides. No condition. -/
import Derived.Test.YtfkppgnffhbfjaaAmS
import Derived.Test.YtfkppgnffhbfjaaAmE
import Derived.Test.YtfkppgnffhbfjaaAmK
import Derived.Test.YtfkppgnffhbfjaaAmG
import Derived.Lib.MinMax
import Derived.Deep.DeepCutAuto
import Derived.Deep.CutBlock
namespace Go.Proofs.Ytfkppgnffhbfjaa.SingleChangeC
open Go.RowKit Bs Word Am AmA AmG AmE AmK AmS
set_option linter.unusedVariables false
abbrev Ans := AmS.Ans
def Post (z0 z1 : T) (w : World) (e : Ending) (w' : World) : Prop := ∃ v0 r0 r1, e = .returned (.tuple #[v0, .bool r1]) ∧ Ans z0 z1 r0 r1 ∧ LAmendment.Own w' w.heap.size v0 r0 ∧ Below w.heap.size w w'
theorem same {z0 z1 : T} {r0 s0 : M} {r1 s1 : Bool} (h1 : Ans z0 z1 r0 r1) (h2 : Ans z0 z1 s0 s1) : r0 = s0 ∧ r1 = s1 := AmS.same h1 h2
theorem len0 {z0 z1 : T} {r0 : M} {r1 : Bool} (h : Ans z0 z1 r0 r1) : r0.words.length ≤ 1048576 := AmS.len0 h
set_option maxRecDepth 100000 in
set_option maxHeartbeats 1600000 in
theorem spec (v0 : Value) (z0 : T) (v1 : Value) (z1 : T) (w : World) (h0 : IsS LString.rec w v0 z0) (f0 : ∀ x ∈ z0, LString.Fine x) (l0 : z0.length ≤ 1048576) (h1 : IsS LString.rec w v1 z1) (f1 : ∀ x ∈ z1, LString.Fine x) (l1 : z1.length ≤ 1048576) :
    Calls Try.prog 40 #[v0, v1] w (Post z0 z1 w) := by
  obtain ⟨x, hx0⟩ : ∃ x, x = z0 := ⟨_, rfl⟩
  subst hx0
  obtain ⟨y, hy0⟩ : ∃ y, y = z1 := ⟨_, rfl⟩
  subst hy0
  obtain ⟨b1, o1, c, rfl, hbl1, hnc, hcm, hat1⟩ := h0
  obtain ⟨b2, o2, d, rfl, hbl2, hmd, hdm, hat2⟩ := h1
  have HI1 := Lib.hid (show IsS LString.rec w (.slice (some ⟨b1, o1, none⟩) x.length c) x from ⟨b1, o1, c, rfl, hbl1, hnc, hcm, hat1⟩)
  have HI2 := Lib.hid (show IsS LString.rec w (.slice (some ⟨b2, o2, none⟩) y.length d) y from ⟨b2, o2, d, rfl, hbl2, hmd, hdm, hat2⟩)
  unfold maxLen at hcm hdm
  obtain ⟨n, hn⟩ : ∃ n, n = x.length := ⟨_, rfl⟩
  obtain ⟨m, hm⟩ : ∃ m, m = y.length := ⟨_, rfl⟩
  have HN := Lib.hid hn.symm
  have HM := Lib.hid hm.symm
  rw [← hn] at hnc HI1 l0 ⊢
  rw [← hm] at hmd HI2 l1 ⊢
  have HF1 := Lib.hid f0
  have HF2 := Lib.hid f1
  clear hn hm hat1 hat2 f0 f1
  obtain ⟨W, hW⟩ : ∃ W : World, W = w.alloc (Obj.cells #[.int .i64 0, .int .i64 0, .int .i64 0, .slice none 0 0] 31) := ⟨_, rfl⟩
  have hb : Below w.heap.size w W := by rw [hW]; exact (Below.refl _ _).alloc (Nat.le_refl _) _
  have HZ := Lib.hid (show W.heap.size = w.heap.size + 1 by rw [hW]; simp)
  have BR := Lib.hid (show Bx W w.heap.size 31 #[.int .i64 0, .int .i64 0, .int .i64 0, .slice none 0 0] by rw [hW]; exact Bx.new _ _ _)
  have HC1 := Lib.hid (l9Text _ x W (IsS.is _ (IsS.below LString.rec HI1.out hb)) HF1.out)
  have HC2 := Lib.hid (l9Text _ y W (IsS.is _ (IsS.below LString.rec HI2.out hb)) HF2.out)
  cases g1 : textB x with
  | false =>
    have HA := Lib.hid (no (a := x) (b := y) (by rw [g1]; rfl))
    rw [g1] at HC1
    go_enter Try.func40, Try.ntmps40
    go_wp2_with fail
    rw [← hW]
    clear hW
    refine HC1.out.mono ?_
    rintro e _ ⟨rfl, rfl⟩
    have BR5 := BR.out
    have r0 := BR5.cell 0
    have r1 := BR5.cell 1
    have r2 := BR5.cell 2
    have r3 := BR5.cell 3
    simp only [List.getElem?_toArray, List.getElem?_cons_zero, List.getElem?_cons_succ] at r0 r1 r2 r3
    have z0 := BR5.frozen 0
    have z1 := BR5.frozen 1
    have z2 := BR5.frozen 2
    have z3 := BR5.frozen 3
    have hRF := (Bx.set_ (Bx.set_ (Bx.set_ (Bx.set_ BR5 0 (.int .i64 0)) 1 (.int .i64 0)) 2 (.int .i64 0)) 3 (.slice none 0 0))
    have c0 := hRF.cell 0
    have c1 := hRF.cell 1
    have c2 := hRF.cell 2
    have c3 := hRF.cell 3
    simp at c0 c1 c2 c3
    clear hRF
    go_wp2_with fail
    refine bodyPost_ret (v := .tuple #[.agg #[.int .i64 0, .int .i64 0, .int .i64 0, .slice none 0 0], .bool false]) (by simp [results, Try.results40, go_sem, c0, c1, c2, c3]) rfl ?_
    exact ⟨_, zeroM, false, rfl, HA.out, LAmendment.Own.zero, (Below.setCell (Below.setCell (Below.setCell (Below.setCell hb (p := ⟨w.heap.size, 0, none⟩) (by show w.heap.size ≤ w.heap.size; omega) (.int .i64 0)) (p := ⟨w.heap.size, 1, none⟩) (by show w.heap.size ≤ w.heap.size; omega) (.int .i64 0)) (p := ⟨w.heap.size, 2, none⟩) (by show w.heap.size ≤ w.heap.size; omega) (.int .i64 0)) (p := ⟨w.heap.size, 3, none⟩) (by show w.heap.size ≤ w.heap.size; omega) (.slice none 0 0))⟩
  | true =>
  rw [g1] at HC1
  cases g2 : textB y with
  | false =>
    have HA := Lib.hid (no (a := x) (b := y) (by rw [g1, g2]; rfl))
    rw [g2] at HC2
    clear g1 g2
    go_enter Try.func40, Try.ntmps40
    go_wp2_with fail
    rw [← hW]
    clear hW
    refine HC1.out.mono ?_
    rintro e _ ⟨rfl, rfl⟩
    go_wp2_with fail
    refine HC2.out.mono ?_
    rintro e _ ⟨rfl, rfl⟩
    have BR5 := BR.out
    have r0 := BR5.cell 0
    have r1 := BR5.cell 1
    have r2 := BR5.cell 2
    have r3 := BR5.cell 3
    simp only [List.getElem?_toArray, List.getElem?_cons_zero, List.getElem?_cons_succ] at r0 r1 r2 r3
    have z0 := BR5.frozen 0
    have z1 := BR5.frozen 1
    have z2 := BR5.frozen 2
    have z3 := BR5.frozen 3
    have hRF := (Bx.set_ (Bx.set_ (Bx.set_ (Bx.set_ BR5 0 (.int .i64 0)) 1 (.int .i64 0)) 2 (.int .i64 0)) 3 (.slice none 0 0))
    have c0 := hRF.cell 0
    have c1 := hRF.cell 1
    have c2 := hRF.cell 2
    have c3 := hRF.cell 3
    simp at c0 c1 c2 c3
    clear hRF
    go_wp2_with fail
    refine bodyPost_ret (v := .tuple #[.agg #[.int .i64 0, .int .i64 0, .int .i64 0, .slice none 0 0], .bool false]) (by simp [results, Try.results40, go_sem, c0, c1, c2, c3]) rfl ?_
    exact ⟨_, zeroM, false, rfl, HA.out, LAmendment.Own.zero, (Below.setCell (Below.setCell (Below.setCell (Below.setCell hb (p := ⟨w.heap.size, 0, none⟩) (by show w.heap.size ≤ w.heap.size; omega) (.int .i64 0)) (p := ⟨w.heap.size, 1, none⟩) (by show w.heap.size ≤ w.heap.size; omega) (.int .i64 0)) (p := ⟨w.heap.size, 2, none⟩) (by show w.heap.size ≤ w.heap.size; omega) (.int .i64 0)) (p := ⟨w.heap.size, 3, none⟩) (by show w.heap.size ≤ w.heap.size; omega) (.slice none 0 0))⟩
  | true =>
  rw [g2] at HC2
  have HG := Lib.hid (And.intro g1 g2)
  have hl1 := words_len g1
  have hl2 := words_len g2
  rw [HN.out] at hl1
  rw [HM.out] at hl2
  clear g1 g2 l0 l1
  have HC3 := Lib.hid (fun w2 (hB : Below W.heap.size W w2) => AmE.l9Same _ _ x y w2 (IsS.is _ (IsS.below LString.rec HI1.out (hb.trans (hB.mono hb.size)))) (IsS.is _ (IsS.below LString.rec HI2.out (hb.trans (hB.mono hb.size)))))
  by_cases hxy : x = y
  · have HA := Lib.hid (no (a := x) (b := y) (by rw [← hxy, change_self]; simp))
    have HD := Lib.hid (decide_eq_true hxy)
    clear hxy
    go_enter Try.func40, Try.ntmps40
    go_wp2_with fail
    rw [← hW]
    clear hW
    refine HC1.out.mono ?_
    rintro e _ ⟨rfl, rfl⟩
    go_wp2_with fail
    refine HC2.out.mono ?_
    rintro e _ ⟨rfl, rfl⟩
    go_wp2_with fail
    refine (HC3.out _ (Below.refl _ _)).mono ?_
    rintro e w1 ⟨rfl, hb1⟩
    rw [HD.out]
    replace BR := Lib.hid (BR.out.kept hb1)
    replace hb := hb.trans (hb1.mono hb.size)
    clear hb1
    have BR5 := BR.out
    have r0 := BR5.cell 0
    have r1 := BR5.cell 1
    have r2 := BR5.cell 2
    have r3 := BR5.cell 3
    simp only [List.getElem?_toArray, List.getElem?_cons_zero, List.getElem?_cons_succ] at r0 r1 r2 r3
    have z0 := BR5.frozen 0
    have z1 := BR5.frozen 1
    have z2 := BR5.frozen 2
    have z3 := BR5.frozen 3
    have hRF := (Bx.set_ (Bx.set_ (Bx.set_ (Bx.set_ BR5 0 (.int .i64 0)) 1 (.int .i64 0)) 2 (.int .i64 0)) 3 (.slice none 0 0))
    have c0 := hRF.cell 0
    have c1 := hRF.cell 1
    have c2 := hRF.cell 2
    have c3 := hRF.cell 3
    simp at c0 c1 c2 c3
    clear hRF
    go_wp2_with fail
    refine bodyPost_ret (v := .tuple #[.agg #[.int .i64 0, .int .i64 0, .int .i64 0, .slice none 0 0], .bool false]) (by simp [results, Try.results40, go_sem, c0, c1, c2, c3]) rfl ?_
    exact ⟨_, zeroM, false, rfl, HA.out, LAmendment.Own.zero, (Below.setCell (Below.setCell (Below.setCell (Below.setCell hb (p := ⟨w.heap.size, 0, none⟩) (by show w.heap.size ≤ w.heap.size; omega) (.int .i64 0)) (p := ⟨w.heap.size, 1, none⟩) (by show w.heap.size ≤ w.heap.size; omega) (.int .i64 0)) (p := ⟨w.heap.size, 2, none⟩) (by show w.heap.size ≤ w.heap.size; omega) (.int .i64 0)) (p := ⟨w.heap.size, 3, none⟩) (by show w.heap.size ≤ w.heap.size; omega) (.slice none 0 0))⟩
  have HD := Lib.hid (decide_eq_false hxy)
  clear hxy
  go_enter Try.func40, Try.ntmps40
  go_wp2_with fail
  rw [← hW]
  clear hW
  refine HC1.out.mono ?_
  rintro e _ ⟨rfl, rfl⟩
  go_wp2_with fail
  refine HC2.out.mono ?_
  rintro e _ ⟨rfl, rfl⟩
  go_wp2_with fail
  refine (HC3.out _ (Below.refl _ _)).mono ?_
  rintro e w1 ⟨rfl, hb1⟩
  rw [HD.out]
  replace BR := Lib.hid (BR.out.kept hb1)
  replace HZ := Lib.hid (show w.heap.size + 1 ≤ w1.heap.size by have := HZ.out; have := hb1.size; omega)
  replace hb := hb.trans (hb1.mono hb.size)
  clear hb1 HC3 HD
  clear HC1 HC2
  go_upto_block 0 with fail
  go_cut [6] (fun s6 wx => s6 = .int .i64 ((pre x y : Nat) : Int) ∧ Below w1.heap.size w1 wx)
  case first =>
    go_wp2_with fail
    go_loopw [6] (fun s6 wr => ∃ k : Nat, s6 = .int .i64 k ∧ Hid (k ≤ pre x y) ∧ k ≤ n ∧ Below w1.heap.size w1 wr) (fun s6 _ => n - (intOf s6).toNat)
    case atStart => exact ⟨0, rfl, Lib.hid (Nat.zero_le _), Nat.zero_le _, Below.refl _ _⟩
    case round =>
      obtain ⟨k, rfl, HK, hkn, hbr⟩ := hrel
      have hbw := hb.trans (hbr.mono hb.size)
      have k0 : 0 ≤ (k : Int) := by omega
      by_cases h1 : k < n
      rotate_left
      · have d1 : decide ((k : Int) < (n : Int)) = false := by simp; omega
        have d2 : decide (k < n) = false := by simp; omega
        have HP := Lib.hid (show pre x y = k from pre_end HK.out (.inl (by have := HN.out; omega)))
        go_wp2_with fail
        go_quiet (fail)
        have hbq := hbr.trans ((drawn_below wr nq).mono hbr.size)
        go_wp2_with fail
        go_meet
        exact ⟨by rw [HP.out], hbq⟩
      by_cases h2 : k < m
      rotate_left
      · have d1 : decide ((k : Int) < (n : Int)) = true := by simp; omega
        have d2 : decide (k < n) = true := by simp; omega
        have d3 : decide ((k : Int) < (m : Int)) = false := by simp; omega
        have d4 : decide (k < m) = false := by simp; omega
        have HP := Lib.hid (show pre x y = k from pre_end HK.out (.inr (by have := HM.out; omega)))
        go_wp2_with fail
        go_quiet (fail)
        have hbq := hbr.trans ((drawn_below wr nq).mono hbr.size)
        go_wp2_with fail
        go_meet
        exact ⟨by rw [HP.out], hbq⟩
      have d1 : decide ((k : Int) < (n : Int)) = true := by simp; omega
      have d2 : decide (k < n) = true := by simp; omega
      have d3 : decide ((k : Int) < (m : Int)) = true := by simp; omega
      have d4 : decide (k < m) = true := by simp; omega
      have k1 : (k : Int) < (n : Int) := by omega
      have k2 : (k : Int) < (m : Int) := by omega
      have hxl : k < x.length := by have := HN.out; omega
      have hyl : k < y.length := by have := HM.out; omega
      have HX := Lib.hid (List.getElem?_eq_getElem hxl)
      have HY := Lib.hid (List.getElem?_eq_getElem hyl)
      have x0 := LString.cells ((isS_at HI1.out HX.out).2.below LString.rec hbw hbl1)
      have y0 := LString.cells ((isS_at HI2.out HY.out).2.below LString.rec hbw hbl2)
      simp only [LString.rec_n, Nat.mul_one] at x0 y0
      have HS := Lib.hid (pre_step x y k _ _ HK.out HX.out HY.out)
      clear HX HY
      generalize x[k] = X at *
      generalize y[k] = Y at *
      by_cases hxy : X = Y
      · have HK2 := Lib.hid (HS.out.1 hxy)
        have hz : (X.toList == Y.toList) = true := by rw [hxy]; simp
        clear hxy HS
        go_wp2_with fail
        go_quiet (fail)
        have hbq := hbr.trans ((drawn_below wr nq).mono hbr.size)
        go_wp2_with fail
        go_roundw
        case rel => exact ⟨k + 1, by go_num, HK2, by omega, hbq⟩
        case measure => simp [intOf]; omega
      · have HP := Lib.hid (HS.out.2 hxy)
        have hz : (X.toList == Y.toList) = false := by rw [AmE.str_eq, decide_eq_false hxy]
        clear hxy HS
        go_wp2_with fail
        go_quiet (fail)
        have hbq := hbr.trans ((drawn_below wr nq).mono hbr.size)
        go_wp2_with fail
        go_meet
        exact ⟨by rw [HP.out], hbq⟩
  case rest =>
  obtain ⟨rfl, hb1⟩ := hcut
  obtain ⟨w2, hwc⟩ : ∃ x, x = wc := ⟨_, rfl⟩
  subst hwc
  replace BR := Lib.hid (BR.out.kept hb1)
  replace HZ := Lib.hid (show w.heap.size + 1 ≤ w2.heap.size by have := HZ.out; have := hb1.size; omega)
  replace hb := hb.trans (hb1.mono hb.size)
  clear hb1
  obtain ⟨p, hp⟩ : ∃ p, p = pre x y := ⟨_, rfl⟩
  have HP := Lib.hid hp.symm
  have hpl := pre_le x y
  rw [← hp, HN.out, HM.out] at hpl
  rw [← hp]
  obtain ⟨hpn, hpm⟩ := hpl
  clear hp
  go_upto_block 2 with fail
  go_cut [7] (fun s7 wx => s7 = .int .i64 ((suf x y : Nat) : Int) ∧ Below w2.heap.size w2 wx)
  case first =>
    go_wp2_with fail
    go_loopw [7] (fun s7 wr => ∃ e : Nat, s7 = .int .i64 e ∧ Hid (e ≤ suf x y) ∧ p + e ≤ n ∧ p + e ≤ m ∧ Below w2.heap.size w2 wr) (fun s7 _ => n - (intOf s7).toNat)
    case atStart => exact ⟨0, rfl, Lib.hid (Nat.zero_le _), by omega, by omega, Below.refl _ _⟩
    case round =>
      obtain ⟨e, rfl, HE, hen, hem, hbr⟩ := hrel
      have hbw := hb.trans (hbr.mono hb.size)
      have e0 : IntKind.i64.wrap ((p : Int) + (e : Int)) = (p : Int) + (e : Int) := IntWalk.i64_in _ (by omega)
      by_cases h1 : p + e < n
      rotate_left
      · have d1 : decide ((p : Int) + (e : Int) < (n : Int)) = false := by simp; omega
        have HQ := Lib.hid (show suf x y = e from suf_end HE.out (.inl (by have := HN.out; have := HP.out; omega)))
        go_wp2_with fail
        go_quiet (fail)
        have hbq := hbr.trans ((drawn_below wr nq).mono hbr.size)
        go_wp2_with fail
        go_meet
        exact ⟨by rw [HQ.out], hbq⟩
      by_cases h2 : p + e < m
      rotate_left
      · have d1 : decide ((p : Int) + (e : Int) < (n : Int)) = true := by simp; omega
        have d2 : decide ((p : Int) + (e : Int) < (m : Int)) = false := by simp; omega
        have HQ := Lib.hid (show suf x y = e from suf_end HE.out (.inr (by have := HM.out; have := HP.out; omega)))
        go_wp2_with fail
        go_quiet (fail)
        have hbq := hbr.trans ((drawn_below wr nq).mono hbr.size)
        go_wp2_with fail
        go_meet
        exact ⟨by rw [HQ.out], hbq⟩
      have d1 : decide ((p : Int) + (e : Int) < (n : Int)) = true := by simp; omega
      have d2 : decide ((p : Int) + (e : Int) < (m : Int)) = true := by simp; omega
      have t1 : IntKind.i64.wrap ((n : Int) - 1) = (n : Int) - 1 := IntWalk.i64_in _ (by omega)
      have t2 : IntKind.i64.wrap ((n : Int) - 1 - (e : Int)) = (n : Int) - 1 - (e : Int) := IntWalk.i64_in _ (by omega)
      have t3 : ((n : Int) - 1 - (e : Int)).toNat = n - 1 - e := by omega
      have t4 : 0 ≤ (n : Int) - 1 - (e : Int) := by omega
      have t5 : (n : Int) - 1 - (e : Int) < (n : Int) := by omega
      have r1 : IntKind.i64.wrap ((m : Int) - 1) = (m : Int) - 1 := IntWalk.i64_in _ (by omega)
      have r2 : IntKind.i64.wrap ((m : Int) - 1 - (e : Int)) = (m : Int) - 1 - (e : Int) := IntWalk.i64_in _ (by omega)
      have r3 : ((m : Int) - 1 - (e : Int)).toNat = m - 1 - e := by omega
      have r4 : 0 ≤ (m : Int) - 1 - (e : Int) := by omega
      have r5 : (m : Int) - 1 - (e : Int) < (m : Int) := by omega
      have hxl : n - 1 - e < x.length := by have := HN.out; omega
      have hyl : m - 1 - e < y.length := by have := HM.out; omega
      have HX := Lib.hid (List.getElem?_eq_getElem hxl)
      have HY := Lib.hid (List.getElem?_eq_getElem hyl)
      have x0 := LString.cells ((isS_at HI1.out HX.out).2.below LString.rec hbw hbl1)
      have y0 := LString.cells ((isS_at HI2.out HY.out).2.below LString.rec hbw hbl2)
      simp only [LString.rec_n, Nat.mul_one] at x0 y0
      have HS := Lib.hid (suf_step HE.out (by have := HN.out; have := HP.out; omega) (by have := HM.out; have := HP.out; omega) (by rw [HN.out]; exact HX.out) (by rw [HM.out]; exact HY.out))
      clear HX HY
      generalize x[n - 1 - e] = X at *
      generalize y[m - 1 - e] = Y at *
      by_cases hxy : X = Y
      · have HK2 := Lib.hid (HS.out.1 hxy)
        have hz : (X.toList == Y.toList) = true := by rw [hxy]; simp
        clear hxy HS
        go_wp2_with fail
        go_quiet (fail)
        have hbq := hbr.trans ((drawn_below wr nq).mono hbr.size)
        go_wp2_with fail
        go_roundw
        case rel => exact ⟨e + 1, by go_num, HK2, by omega, by omega, hbq⟩
        case measure => simp [intOf]; omega
      · have HQ := Lib.hid (HS.out.2 hxy)
        have hz : (X.toList == Y.toList) = false := by rw [AmE.str_eq, decide_eq_false hxy]
        clear hxy HS
        go_wp2_with fail
        go_quiet (fail)
        have hbq := hbr.trans ((drawn_below wr nq).mono hbr.size)
        go_wp2_with fail
        go_meet
        exact ⟨by rw [HQ.out], hbq⟩
  case rest =>
  obtain ⟨rfl, hb1⟩ := hcut
  obtain ⟨w3, hwc⟩ : ∃ x, x = wc := ⟨_, rfl⟩
  subst hwc
  replace BR := Lib.hid (BR.out.kept hb1)
  replace HZ := Lib.hid (show w.heap.size + 1 ≤ w3.heap.size by have := HZ.out; have := hb1.size; omega)
  replace hb := hb.trans (hb1.mono hb.size)
  have HBV := Lib.hid hb1
  clear hb1
  obtain ⟨q, hq⟩ : ∃ q, q = suf x y := ⟨_, rfl⟩
  have HQ := Lib.hid hq.symm
  have hql := suf_le x y
  rw [← hq, HP.out, HN.out, HM.out] at hql
  rw [← hq]
  obtain ⟨hqn, hqm⟩ := hql
  clear hq
  obtain ⟨oD, hoD⟩ : ∃ oD, (if d = p then some (⟨b2, o2, none⟩ : Addr) else some ⟨b2, o2 + p, none⟩) = some ⟨b2, oD, none⟩ := by
    by_cases h : d = p
    · exact ⟨_, if_pos h⟩
    · exact ⟨_, if_neg h⟩
  have HIY := Lib.hid (show IsQ LString.rec w3 (.slice (some ⟨b2, oD, none⟩) (m - q - p) (d - p)) ((y.drop p).take (m - q - p)) from .inr (IsS.take LString.rec ((HI2.out.below LString.rec hb).drop LString.rec (k := p) (some ⟨b2, oD, none⟩) (by rw [show LString.rec.n = 1 from rfl, Nat.mul_one]; exact hoD.symm) (by omega) _ _ rfl rfl) (by omega)))
  have HCH := Lib.hid (show mkKind (p : Int) ((n : Int) - (q : Int) - (p : Int)) ((y.drop p).take (m - q - p)) = change x y by unfold change; rw [HP.out, HQ.out, HN.out, HM.out, show ((n - p - q : Nat) : Int) = (n : Int) - (q : Int) - (p : Int) by omega, show m - p - q = m - q - p by omega])
  have HCK := Lib.hid (l9Kind (p : Int) ((n : Int) - (q : Int) - (p : Int)) _ _ w3 HIY.out (by rw [List.length_take]; omega))
  rw [HCH.out] at HCK
  have s1 : ((m : Int) - (q : Int)).toNat = m - q := by omega
  go_wp2_with fail
  refine (HCK.out).mono ?_
  rintro e w4 ⟨v1, rfl, ho, hb1⟩
  obtain ⟨s3, rfl, ho3⟩ := ho
  obtain ⟨fa, fn, fc, rfl⟩ := own_slice ho3
  replace ho3 := ho3.low (show w.heap.size + 1 ≤ w3.heap.size from HZ.out)
  replace BR := Lib.hid (BR.out.kept hb1)
  replace HZ := Lib.hid (show w.heap.size + 1 ≤ w4.heap.size by have := HZ.out; have := hb1.size; omega)
  replace hb := hb.trans (hb1.mono hb.size)
  clear hb1
  obtain ⟨wa, hwa⟩ : ∃ wa : World, wa = w4.alloc (Obj.cells #[.int .i64 (change x y).kind, .int .i64 (change x y).pos, .int .i64 (change x y).count, .slice fa fn fc] 31) := ⟨_, rfl⟩
  have hba : Below w4.heap.size w4 wa := by rw [hwa]; exact (Below.refl _ _).alloc (Nat.le_refl _) _
  have BC := Lib.hid (show Bx wa w4.heap.size 31 #[.int .i64 (change x y).kind, .int .i64 (change x y).pos, .int .i64 (change x y).count, .slice fa fn fc] by rw [hwa]; exact Bx.new _ _ _)
  have HOC := Lib.hid (ho3.kept hba)
  have HIC := Lib.hid (show LAmendment.Is wa (.agg #[.int .i64 (change x y).kind, .int .i64 (change x y).pos, .int .i64 (change x y).count, .slice fa fn fc]) (change x y) from ⟨_, rfl, HOC.out.is⟩)
  replace BR := Lib.hid (BR.out.kept hba)
  replace hb := hb.trans (hba.mono hb.size)
  obtain ⟨G, hG⟩ : ∃ G, G = w4.heap.size := ⟨_, rfl⟩
  rw [← hG] at BC HZ
  have HCG := Lib.hid (l9Good _ (change x y) wa HIC.out (fun X hX => by
    have := words_size HG.out.2 X (words_mem hX)
    unfold LString.Fine maxLen; omega))
  clear ho3 hba
  go_upto_region 10 with fail
  rw [← hwa]
  clear hwa
  simp only [← hG]
  clear hG
  have u0 := BC.out.cell 0
  have u1 := BC.out.cell 1
  have u2 := BC.out.cell 2
  have u3 := BC.out.cell 3
  simp only [List.getElem?_toArray, List.getElem?_cons_zero, List.getElem?_cons_succ] at u0 u1 u2 u3
  go_wp2_with fail
  refine HCG.out.mono ?_
  rintro e w5 ⟨rfl, hb1⟩
  replace BR := Lib.hid (BR.out.kept hb1)
  replace BC := Lib.hid (BC.out.kept hb1)
  replace HOC := Lib.hid (HOC.out.kept hb1)
  replace hb := hb.trans (hb1.mono hb.size)
  have hGw : w.heap.size + 1 ≤ G := HZ.out
  clear hb1 HIC HCG u0 u1 u2 u3
  cases gg : good (change x y) with
  | false =>
    have HA := Lib.hid (no (a := x) (b := y) (by rw [gg]; simp))
    clear gg
    have BR5 := BR.out
    have r0 := BR5.cell 0
    have r1 := BR5.cell 1
    have r2 := BR5.cell 2
    have r3 := BR5.cell 3
    simp only [List.getElem?_toArray, List.getElem?_cons_zero, List.getElem?_cons_succ] at r0 r1 r2 r3
    have z0 := BR5.frozen 0
    have z1 := BR5.frozen 1
    have z2 := BR5.frozen 2
    have z3 := BR5.frozen 3
    have hRF := (Bx.set_ (Bx.set_ (Bx.set_ (Bx.set_ BR5 0 (.int .i64 0)) 1 (.int .i64 0)) 2 (.int .i64 0)) 3 (.slice none 0 0))
    have c0 := hRF.cell 0
    have c1 := hRF.cell 1
    have c2 := hRF.cell 2
    have c3 := hRF.cell 3
    simp at c0 c1 c2 c3
    clear hRF
    go_wp2_with fail
    refine bodyPost_ret (v := .tuple #[.agg #[.int .i64 0, .int .i64 0, .int .i64 0, .slice none 0 0], .bool false]) (by simp [results, Try.results40, go_sem, c0, c1, c2, c3]) rfl ?_
    exact ⟨_, zeroM, false, rfl, HA.out, LAmendment.Own.zero, (Below.setCell (Below.setCell (Below.setCell (Below.setCell hb (p := ⟨w.heap.size, 0, none⟩) (by show w.heap.size ≤ w.heap.size; omega) (.int .i64 0)) (p := ⟨w.heap.size, 1, none⟩) (by show w.heap.size ≤ w.heap.size; omega) (.int .i64 0)) (p := ⟨w.heap.size, 2, none⟩) (by show w.heap.size ≤ w.heap.size; omega) (.int .i64 0)) (p := ⟨w.heap.size, 3, none⟩) (by show w.heap.size ≤ w.heap.size; omega) (.slice none 0 0))⟩
  | true =>
    have HA := Lib.hid (yes HG.out.1 HG.out.2 gg)
    clear gg
    have BR5 := BR.out
    have BO5 := BC.out
    have HO3 := HOC.out
    have y0 := BO5.cell 0
    have y1 := BO5.cell 1
    have y2 := BO5.cell 2
    have y3 := BO5.cell 3
    simp only [List.getElem?_toArray, List.getElem?_cons_zero, List.getElem?_cons_succ] at y0 y1 y2 y3
    have r0 := BR5.cell 0
    have r1 := BR5.cell 1
    have r2 := BR5.cell 2
    have r3 := BR5.cell 3
    simp only [List.getElem?_toArray, List.getElem?_cons_zero, List.getElem?_cons_succ] at r0 r1 r2 r3
    have z0 := BR5.frozen 0
    have z1 := BR5.frozen 1
    have z2 := BR5.frozen 2
    have z3 := BR5.frozen 3
    have hRF := (Bx.set_ (Bx.set_ (Bx.set_ (Bx.set_ BR5 0 (.int .i64 (change x y).kind)) 1 (.int .i64 (change x y).pos)) 2 (.int .i64 (change x y).count)) 3 (.slice fa fn fc))
    have c0 := hRF.cell 0
    have c1 := hRF.cell 1
    have c2 := hRF.cell 2
    have c3 := hRF.cell 3
    simp at c0 c1 c2 c3
    clear hRF
    go_wp2_with fail
    refine bodyPost_ret (v := .tuple #[.agg #[.int .i64 (change x y).kind, .int .i64 (change x y).pos, .int .i64 (change x y).count, .slice fa fn fc], .bool true]) (by simp [results, Try.results40, go_sem, c0, c1, c2, c3]) rfl ?_
    exact ⟨_, _, true, rfl, HA.out, ⟨_, rfl, Own.low (own_set (own_set (own_set (own_set HO3 (p := ⟨w.heap.size, 0, none⟩) (fun k hk => by have h2 := (HO3.lt k hk).1; show k ≠ w.heap.size; omega) (.int .i64 (change x y).kind)) (p := ⟨w.heap.size, 1, none⟩) (fun k hk => by have h2 := (HO3.lt k hk).1; show k ≠ w.heap.size; omega) (.int .i64 (change x y).pos)) (p := ⟨w.heap.size, 2, none⟩) (fun k hk => by have h2 := (HO3.lt k hk).1; show k ≠ w.heap.size; omega) (.int .i64 (change x y).count)) (p := ⟨w.heap.size, 3, none⟩) (fun k hk => by have h2 := (HO3.lt k hk).1; show k ≠ w.heap.size; omega) (.slice fa fn fc)) (by omega)⟩, (Below.setCell (Below.setCell (Below.setCell (Below.setCell hb (p := ⟨w.heap.size, 0, none⟩) (by show w.heap.size ≤ w.heap.size; omega) (.int .i64 (change x y).kind)) (p := ⟨w.heap.size, 1, none⟩) (by show w.heap.size ≤ w.heap.size; omega) (.int .i64 (change x y).pos)) (p := ⟨w.heap.size, 2, none⟩) (by show w.heap.size ≤ w.heap.size; omega) (.int .i64 (change x y).count)) (p := ⟨w.heap.size, 3, none⟩) (by show w.heap.size ≤ w.heap.size; omega) (.slice fa fn fc))⟩

set_option maxRecDepth 100000 in
set_option maxHeartbeats 1600000 in
theorem impl (v0 : Value) (z0 : T) (v1 : Value) (z1 : T) (w : World) (h0 : IsS LString.rec w v0 z0) (f0 : ∀ x ∈ z0, LString.Fine x) (l0 : z0.length ≤ 1048576) (h1 : IsS LString.rec w v1 z1) (f1 : ∀ x ∈ z1, LString.Fine x) (l1 : z1.length ≤ 1048576) :
    Calls Try.prog 41 #[v0, v1] w (Post z0 z1 w) := by
  obtain ⟨x, hx0⟩ : ∃ x, x = z0 := ⟨_, rfl⟩
  subst hx0
  obtain ⟨y, hy0⟩ : ∃ y, y = z1 := ⟨_, rfl⟩
  subst hy0
  obtain ⟨b1, o1, c, rfl, hbl1, hnc, hcm, hat1⟩ := h0
  obtain ⟨b2, o2, d, rfl, hbl2, hmd, hdm, hat2⟩ := h1
  have HI1 := Lib.hid (show IsS LString.rec w (.slice (some ⟨b1, o1, none⟩) x.length c) x from ⟨b1, o1, c, rfl, hbl1, hnc, hcm, hat1⟩)
  have HI2 := Lib.hid (show IsS LString.rec w (.slice (some ⟨b2, o2, none⟩) y.length d) y from ⟨b2, o2, d, rfl, hbl2, hmd, hdm, hat2⟩)
  unfold maxLen at hcm hdm
  obtain ⟨n, hn⟩ : ∃ n, n = x.length := ⟨_, rfl⟩
  obtain ⟨m, hm⟩ : ∃ m, m = y.length := ⟨_, rfl⟩
  have HN := Lib.hid hn.symm
  have HM := Lib.hid hm.symm
  rw [← hn] at hnc HI1 l0 ⊢
  rw [← hm] at hmd HI2 l1 ⊢
  have HF1 := Lib.hid f0
  have HF2 := Lib.hid f1
  clear hn hm hat1 hat2 f0 f1
  obtain ⟨W, hW⟩ : ∃ W : World, W = w.alloc (Obj.cells #[.int .i64 0, .int .i64 0, .int .i64 0, .slice none 0 0] 31) := ⟨_, rfl⟩
  have hb : Below w.heap.size w W := by rw [hW]; exact (Below.refl _ _).alloc (Nat.le_refl _) _
  have HZ := Lib.hid (show W.heap.size = w.heap.size + 1 by rw [hW]; simp)
  have BR := Lib.hid (show Bx W w.heap.size 31 #[.int .i64 0, .int .i64 0, .int .i64 0, .slice none 0 0] by rw [hW]; exact Bx.new _ _ _)
  have HC1 := Lib.hid (isText _ x W (IsS.is _ (IsS.below LString.rec HI1.out hb)) HF1.out)
  have HC2 := Lib.hid (isText _ y W (IsS.is _ (IsS.below LString.rec HI2.out hb)) HF2.out)
  cases g1 : textB x with
  | false =>
    have HA := Lib.hid (no (a := x) (b := y) (by rw [g1]; rfl))
    rw [g1] at HC1
    go_enter Try.func41, Try.ntmps41
    go_wp2_with fail
    rw [← hW]
    clear hW
    refine HC1.out.mono ?_
    rintro e _ ⟨rfl, rfl⟩
    have BR5 := BR.out
    have r0 := BR5.cell 0
    have r1 := BR5.cell 1
    have r2 := BR5.cell 2
    have r3 := BR5.cell 3
    simp only [List.getElem?_toArray, List.getElem?_cons_zero, List.getElem?_cons_succ] at r0 r1 r2 r3
    have z0 := BR5.frozen 0
    have z1 := BR5.frozen 1
    have z2 := BR5.frozen 2
    have z3 := BR5.frozen 3
    have hRF := (Bx.set_ (Bx.set_ (Bx.set_ (Bx.set_ BR5 0 (.int .i64 0)) 1 (.int .i64 0)) 2 (.int .i64 0)) 3 (.slice none 0 0))
    have c0 := hRF.cell 0
    have c1 := hRF.cell 1
    have c2 := hRF.cell 2
    have c3 := hRF.cell 3
    simp at c0 c1 c2 c3
    clear hRF
    go_wp2_with fail
    refine bodyPost_ret (v := .tuple #[.agg #[.int .i64 0, .int .i64 0, .int .i64 0, .slice none 0 0], .bool false]) (by simp [results, Try.results41, go_sem, c0, c1, c2, c3]) rfl ?_
    exact ⟨_, zeroM, false, rfl, HA.out, LAmendment.Own.zero, (Below.setCell (Below.setCell (Below.setCell (Below.setCell hb (p := ⟨w.heap.size, 0, none⟩) (by show w.heap.size ≤ w.heap.size; omega) (.int .i64 0)) (p := ⟨w.heap.size, 1, none⟩) (by show w.heap.size ≤ w.heap.size; omega) (.int .i64 0)) (p := ⟨w.heap.size, 2, none⟩) (by show w.heap.size ≤ w.heap.size; omega) (.int .i64 0)) (p := ⟨w.heap.size, 3, none⟩) (by show w.heap.size ≤ w.heap.size; omega) (.slice none 0 0))⟩
  | true =>
  rw [g1] at HC1
  cases g2 : textB y with
  | false =>
    have HA := Lib.hid (no (a := x) (b := y) (by rw [g1, g2]; rfl))
    rw [g2] at HC2
    clear g1 g2
    go_enter Try.func41, Try.ntmps41
    go_wp2_with fail
    rw [← hW]
    clear hW
    refine HC1.out.mono ?_
    rintro e _ ⟨rfl, rfl⟩
    go_wp2_with fail
    refine HC2.out.mono ?_
    rintro e _ ⟨rfl, rfl⟩
    have BR5 := BR.out
    have r0 := BR5.cell 0
    have r1 := BR5.cell 1
    have r2 := BR5.cell 2
    have r3 := BR5.cell 3
    simp only [List.getElem?_toArray, List.getElem?_cons_zero, List.getElem?_cons_succ] at r0 r1 r2 r3
    have z0 := BR5.frozen 0
    have z1 := BR5.frozen 1
    have z2 := BR5.frozen 2
    have z3 := BR5.frozen 3
    have hRF := (Bx.set_ (Bx.set_ (Bx.set_ (Bx.set_ BR5 0 (.int .i64 0)) 1 (.int .i64 0)) 2 (.int .i64 0)) 3 (.slice none 0 0))
    have c0 := hRF.cell 0
    have c1 := hRF.cell 1
    have c2 := hRF.cell 2
    have c3 := hRF.cell 3
    simp at c0 c1 c2 c3
    clear hRF
    go_wp2_with fail
    refine bodyPost_ret (v := .tuple #[.agg #[.int .i64 0, .int .i64 0, .int .i64 0, .slice none 0 0], .bool false]) (by simp [results, Try.results41, go_sem, c0, c1, c2, c3]) rfl ?_
    exact ⟨_, zeroM, false, rfl, HA.out, LAmendment.Own.zero, (Below.setCell (Below.setCell (Below.setCell (Below.setCell hb (p := ⟨w.heap.size, 0, none⟩) (by show w.heap.size ≤ w.heap.size; omega) (.int .i64 0)) (p := ⟨w.heap.size, 1, none⟩) (by show w.heap.size ≤ w.heap.size; omega) (.int .i64 0)) (p := ⟨w.heap.size, 2, none⟩) (by show w.heap.size ≤ w.heap.size; omega) (.int .i64 0)) (p := ⟨w.heap.size, 3, none⟩) (by show w.heap.size ≤ w.heap.size; omega) (.slice none 0 0))⟩
  | true =>
  rw [g2] at HC2
  have HG := Lib.hid (And.intro g1 g2)
  have hl1 := words_len g1
  have hl2 := words_len g2
  rw [HN.out] at hl1
  rw [HM.out] at hl2
  clear g1 g2 l0 l1
  go_enter Try.func41, Try.ntmps41
  go_wp2_with fail
  rw [← hW]
  clear hW
  refine HC1.out.mono ?_
  rintro e _ ⟨rfl, rfl⟩
  go_wp2_with fail
  refine HC2.out.mono ?_
  rintro e _ ⟨rfl, rfl⟩
  obtain ⟨w1, hw1⟩ : ∃ w1, w1 = W := ⟨_, rfl⟩
  subst hw1
  replace HZ := Lib.hid (show w.heap.size + 1 ≤ w1.heap.size by have := HZ.out; omega)
  clear HC1 HC2
  go_upto_block 0 with fail
  go_cut [6] (fun s6 wx => s6 = .int .i64 ((pre x y : Nat) : Int) ∧ Below w1.heap.size w1 wx)
  case first =>
    obtain ⟨B, hB⟩ : ∃ B : Int, min (n : Int) (m : Int) = B := ⟨_, rfl⟩
    have HB := Lib.hid hB
    go_wp2_with fail
    go_loopw [6] (fun s6 wr => ∃ k : Nat, s6 = .int .i64 k ∧ Hid (k ≤ pre x y) ∧ k ≤ n ∧ Below w1.heap.size w1 wr) (fun s6 _ => n - (intOf s6).toNat)
    case atStart => exact ⟨0, rfl, Lib.hid (Nat.zero_le _), Nat.zero_le _, Below.refl _ _⟩
    case round =>
      obtain ⟨k, rfl, HK, hkn, hbr⟩ := hrel
      have hbw := hb.trans (hbr.mono hb.size)
      have k0 : 0 ≤ (k : Int) := by omega
      by_cases h1 : k < n ∧ k < m
      rotate_left
      · have hkB : ¬ (k : Int) < B := by have := HB.out; omega
        have d1 : decide ((k : Int) < B) = false := decide_eq_false hkB
        have HP := Lib.hid (show pre x y = k from pre_end HK.out (by have := HN.out; have := HM.out; omega))
        go_wp2_with fail
        go_quiet (fail)
        have hbq := hbr.trans ((drawn_below wr nq).mono hbr.size)
        go_wp2_with fail
        go_meet
        exact ⟨by rw [HP.out], hbq⟩
      obtain ⟨h1, h2⟩ := h1
      have hkB : (k : Int) < B := by have := HB.out; omega
      have d1 : decide ((k : Int) < B) = true := decide_eq_true hkB
      have k1 : (k : Int) < (n : Int) := by omega
      have k2 : (k : Int) < (m : Int) := by omega
      have hxl : k < x.length := by have := HN.out; omega
      have hyl : k < y.length := by have := HM.out; omega
      have HX := Lib.hid (List.getElem?_eq_getElem hxl)
      have HY := Lib.hid (List.getElem?_eq_getElem hyl)
      have x0 := LString.cells ((isS_at HI1.out HX.out).2.below LString.rec hbw hbl1)
      have y0 := LString.cells ((isS_at HI2.out HY.out).2.below LString.rec hbw hbl2)
      simp only [LString.rec_n, Nat.mul_one] at x0 y0
      have HS := Lib.hid (pre_step x y k _ _ HK.out HX.out HY.out)
      clear HX HY
      generalize x[k] = X at *
      generalize y[k] = Y at *
      by_cases hxy : X = Y
      · have HK2 := Lib.hid (HS.out.1 hxy)
        have hz : (X.toList == Y.toList) = true := by rw [hxy]; simp
        clear hxy HS
        go_wp2_with fail
        go_quiet (fail)
        have hbq := hbr.trans ((drawn_below wr nq).mono hbr.size)
        go_wp2_with fail
        go_roundw
        case rel => exact ⟨k + 1, by go_num, HK2, by omega, hbq⟩
        case measure => simp [intOf]; omega
      · have HP := Lib.hid (HS.out.2 hxy)
        have hz : (X.toList == Y.toList) = false := by rw [AmE.str_eq, decide_eq_false hxy]
        clear hxy HS
        go_wp2_with fail
        go_quiet (fail)
        have hbq := hbr.trans ((drawn_below wr nq).mono hbr.size)
        go_wp2_with fail
        go_meet
        exact ⟨by rw [HP.out], hbq⟩
  case rest =>
  obtain ⟨rfl, hb1⟩ := hcut
  obtain ⟨w2, hwc⟩ : ∃ x, x = wc := ⟨_, rfl⟩
  subst hwc
  replace BR := Lib.hid (BR.out.kept hb1)
  replace HZ := Lib.hid (show w.heap.size + 1 ≤ w2.heap.size by have := HZ.out; have := hb1.size; omega)
  replace hb := hb.trans (hb1.mono hb.size)
  clear hb1
  obtain ⟨p, hp⟩ : ∃ p, p = pre x y := ⟨_, rfl⟩
  have HP := Lib.hid hp.symm
  have hpl := pre_le x y
  rw [← hp, HN.out, HM.out] at hpl
  rw [← hp]
  obtain ⟨hpn, hpm⟩ := hpl
  clear hp
  go_wp2_with fail
  obtain ⟨oA, hoA⟩ : ∃ oD, (if c = p then some (⟨b1, o1, none⟩ : Addr) else some ⟨b1, o1 + p, none⟩) = some ⟨b1, oD, none⟩ := by
    by_cases h : c = p
    · exact ⟨_, if_pos h⟩
    · exact ⟨_, if_neg h⟩
  obtain ⟨oB, hoB⟩ : ∃ oD, (if d = p then some (⟨b2, o2, none⟩ : Addr) else some ⟨b2, o2 + p, none⟩) = some ⟨b2, oD, none⟩ := by
    by_cases h : d = p
    · exact ⟨_, if_pos h⟩
    · exact ⟨_, if_neg h⟩
  have HSA := Lib.hid (show IsS LString.rec w2 (.slice (some ⟨b1, oA, none⟩) (n - p) (c - p)) (x.drop p) from ((HI1.out.below LString.rec hb).drop LString.rec (k := p) (some ⟨b1, oA, none⟩) (by rw [show LString.rec.n = 1 from rfl, Nat.mul_one]; exact hoA.symm) (by omega) _ _ rfl rfl))
  have HSB := Lib.hid (show IsS LString.rec w2 (.slice (some ⟨b2, oB, none⟩) (m - p) (d - p)) (y.drop p) from ((HI2.out.below LString.rec hb).drop LString.rec (k := p) (some ⟨b2, oB, none⟩) (by rw [show LString.rec.n = 1 from rfl, Nat.mul_one]; exact hoB.symm) (by omega) _ _ rfl rfl))
  have hx1 : (p : Int) ≤ (n : Int) := by omega
  have hx2 : (p : Int) ≤ (m : Int) := by omega
  have hbp := (drawn_below w2 0)
  go_quiet (fail)
  replace BR := Lib.hid (BR.out.kept (drawn_below w2 nq))
  replace HZ := Lib.hid (show w.heap.size + 1 ≤ (w2.drewN nq).heap.size from HZ.out)
  replace HSA := Lib.hid (HSA.out.below LString.rec (drawn_below w2 nq))
  replace HSB := Lib.hid (HSB.out.below LString.rec (drawn_below w2 nq))
  replace hb := hb.trans ((drawn_below w2 nq).mono hb.size)
  clear hoA hoB hbp
  generalize w2.drewN nq = V at *
  obtain ⟨C1, hC1⟩ : ∃ C, c - p = C := ⟨_, rfl⟩
  obtain ⟨C2, hC2⟩ : ∃ C, d - p = C := ⟨_, rfl⟩
  obtain ⟨N1, hN1⟩ : ∃ C, n - p = C := ⟨_, rfl⟩
  obtain ⟨N2, hN2⟩ : ∃ C, m - p = C := ⟨_, rfl⟩
  have hNC1 : N1 ≤ C1 := by omega
  have hNC2 : N2 ≤ C2 := by omega
  have hN20 : N1 ≤ 20 := by omega
  have hM20 : N2 ≤ 20 := by omega
  simp only [hC1, hC2, hN1, hN2]
  rw [hC1, hN1] at HSA
  rw [hC2, hN2] at HSB
  have HCC := Lib.hid (And.intro hC1 (And.intro hC2 (And.intro hN1 (And.intro hN2 (And.intro hpn hpm)))))
  clear hC1 hC2 hN1 hN2
  go_upto_block 2 with fail
  go_cut [7, 8] (fun s7 s8 wx => ∃ i j : Nat, s7 = .slice (some ⟨b1, oA, none⟩) i C1 ∧ s8 = .slice (some ⟨b2, oB, none⟩) j C2 ∧ Hid (suf x y = n - p - i) ∧ i ≤ N1 ∧ j ≤ N2 ∧ N1 - i = N2 - j ∧ Below V.heap.size V wx)
  case first =>
    go_wp2_with fail
    go_loopw [7, 8] (fun s7 s8 wr => ∃ i j : Nat, s7 = .slice (some ⟨b1, oA, none⟩) i C1 ∧ s8 = .slice (some ⟨b2, oB, none⟩) j C2 ∧ Hid (N1 - i ≤ suf x y) ∧ i ≤ N1 ∧ j ≤ N2 ∧ N1 - i = N2 - j ∧ Below V.heap.size V wr) (fun s7 _ _ => match s7 with | .slice _ i _ => i | _ => 0)
    case atStart => exact ⟨N1, N2, rfl, rfl, Lib.hid (by omega), Nat.le_refl _, Nat.le_refl _, by omega, Below.refl _ _⟩
    case round =>
      obtain ⟨i, j, rfl, rfl, HE, hi, hj, hij, hbr⟩ := hrel
      have hbw := hb.trans (hbr.mono hb.size)
      by_cases h1 : 0 < i
      rotate_left
      · have d1 : decide (0 < (i : Int)) = false := by simp; omega
        have d1' : decide (0 < i) = false := by simp; omega
        have HQ := Lib.hid (show suf x y = n - p - i from by have := suf_end HE.out (.inl (by have := HN.out; have := HP.out; have := HCC.out; omega)); rw [this]; have := HCC.out; omega)
        go_wp2_with fail
        go_quiet (fail)
        have hbq := hbr.trans ((drawn_below wr nq).mono hbr.size)
        go_wp2_with fail
        go_meet
        exact ⟨i, j, rfl, rfl, HQ, hi, hj, hij, hbq⟩
      by_cases h2 : 0 < j
      rotate_left
      · have d1 : decide (0 < (i : Int)) = true := by simp; omega
        have d1' : decide (0 < i) = true := by simp; omega
        have d2 : decide (0 < (j : Int)) = false := by simp; omega
        have d2' : decide (0 < j) = false := by simp; omega
        have HQ := Lib.hid (show suf x y = n - p - i from by have := suf_end HE.out (.inr (by have := HM.out; have := HP.out; have := HCC.out; omega)); rw [this]; have := HCC.out; omega)
        go_wp2_with fail
        go_quiet (fail)
        have hbq := hbr.trans ((drawn_below wr nq).mono hbr.size)
        go_wp2_with fail
        go_meet
        exact ⟨i, j, rfl, rfl, HQ, hi, hj, hij, hbq⟩
      have d1 : decide (0 < (i : Int)) = true := by simp; omega
      have d1' : decide (0 < i) = true := by simp; omega
      have d2 : decide (0 < (j : Int)) = true := by simp; omega
      have d2' : decide (0 < j) = true := by simp; omega
      have t1 : IntKind.i64.wrap ((i : Int) - 1) = (i : Int) - 1 := IntWalk.i64_in _ (by omega)
      have t3 : ((i : Int) - 1).toNat = i - 1 := by omega
      have t4 : 0 ≤ (i : Int) - 1 := by omega
      have t5 : (i : Int) - 1 < (i : Int) := by omega
      have t6 : (i : Int) - 1 ≤ (C1 : Int) := by omega
      have r1 : IntKind.i64.wrap ((j : Int) - 1) = (j : Int) - 1 := IntWalk.i64_in _ (by omega)
      have r3 : ((j : Int) - 1).toNat = j - 1 := by omega
      have r4 : 0 ≤ (j : Int) - 1 := by omega
      have r5 : (j : Int) - 1 < (j : Int) := by omega
      have r6 : (j : Int) - 1 ≤ (C2 : Int) := by omega
      have hxl : n - 1 - (N1 - i) < x.length := by have := HN.out; have := HCC.out; omega
      have hyl : m - 1 - (N1 - i) < y.length := by have := HM.out; have := HCC.out; omega
      have HX := Lib.hid (List.getElem?_eq_getElem hxl)
      have HY := Lib.hid (List.getElem?_eq_getElem hyl)
      have HXd := Lib.hid (show (x.drop p)[i - 1]? = some _ by rw [List.getElem?_drop, show p + (i - 1) = n - 1 - (N1 - i) by have := HCC.out; omega]; exact HX.out)
      have HYd := Lib.hid (show (y.drop p)[j - 1]? = some _ by rw [List.getElem?_drop, show p + (j - 1) = m - 1 - (N1 - i) by have := HCC.out; omega]; exact HY.out)
      have x0 := LString.cells ((isS_at HSA.out HXd.out).2.below LString.rec hbr (isS_at HSA.out HXd.out).1)
      have y0 := LString.cells ((isS_at HSB.out HYd.out).2.below LString.rec hbr (isS_at HSB.out HYd.out).1)
      simp only [LString.rec_n, Nat.mul_one] at x0 y0
      have HS := Lib.hid (suf_step HE.out (by have := HN.out; have := HP.out; have := HCC.out; omega) (by have := HM.out; have := HP.out; have := HCC.out; omega) (by rw [HN.out]; exact HX.out) (by rw [HM.out]; exact HY.out))
      clear HX HY HXd HYd
      generalize x[n - 1 - (N1 - i)] = X at *
      generalize y[m - 1 - (N1 - i)] = Y at *
      by_cases hxy : X = Y
      · have HK2 := Lib.hid (HS.out.1 hxy)
        have hz : (X.toList == Y.toList) = true := by rw [hxy]; simp
        clear hxy HS
        go_wp2_with fail
        go_quiet (fail)
        have hbq := hbr.trans ((drawn_below wr nq).mono hbr.size)
        clear x0 y0
        go_wp2_with fail
        go_quiet (fail)
        rename_i nq2
        have hbq2 := hbq.trans ((drawn_below _ nq).mono hbq.size)
        go_wp2_with fail
        go_roundw
        case rel => exact ⟨i - 1, j - 1, rfl, rfl, Lib.hid (by have := HK2.out; omega), by omega, by omega, by omega, hbq2⟩
        case measure => show i - 1 < i; omega
      · have HQ := Lib.hid (show suf x y = n - p - i by have := HS.out.2 hxy; rw [this]; have := HCC.out; omega)
        have hz : (X.toList == Y.toList) = false := by rw [AmE.str_eq, decide_eq_false hxy]
        clear hxy HS
        go_wp2_with fail
        go_quiet (fail)
        have hbq := hbr.trans ((drawn_below wr nq).mono hbr.size)
        go_wp2_with fail
        go_meet
        exact ⟨i, j, rfl, rfl, HQ, hi, hj, hij, hbq⟩
  case rest =>
  obtain ⟨i, j, rfl, rfl, HQ, hi, hj, hij, hb1⟩ := hcut
  obtain ⟨w3, hwc⟩ : ∃ x, x = wc := ⟨_, rfl⟩
  subst hwc
  replace BR := Lib.hid (BR.out.kept hb1)
  replace HZ := Lib.hid (show w.heap.size + 1 ≤ w3.heap.size by have := HZ.out; have := hb1.size; omega)
  replace hb := hb.trans (hb1.mono hb.size)
  have HBV := Lib.hid hb1
  clear hb1
  have HXI := Lib.hid (show ((x.drop p).take i).length = i by rw [List.length_take, List.length_drop, HN.out]; have := HCC.out; omega)
  have HCH := Lib.hid (show mkKind (p : Int) ((((x.drop p).take i).length : Nat) : Int) ((y.drop p).take j) = change x y by unfold change; rw [HXI.out, HP.out, HQ.out, HN.out, HM.out, show n - p - (n - p - i) = i by have := HCC.out; omega, show m - p - (n - p - i) = j by have := HCC.out; omega])
  have HCK := Lib.hid (fun hbV : Below V.heap.size V w3 => changeOf (p : Int) (.slice (some ⟨b1, oA, none⟩) i C1) (.slice (some ⟨b2, oB, none⟩) j C2) ((x.drop p).take i) ((y.drop p).take j) w3 (IsS.is _ (IsS.take LString.rec (HSA.out.below LString.rec hbV) hi)) (IsS.is _ (IsS.take LString.rec (HSB.out.below LString.rec hbV) hj)) (by rw [List.length_take]; omega))
  rw [HCH.out] at HCK
  go_wp2_with fail
  refine (HCK.out HBV.out).mono ?_
  rintro e w4 ⟨v1, rfl, ho, hb1⟩
  obtain ⟨s3, rfl, ho3⟩ := ho
  obtain ⟨fa, fn, fc, rfl⟩ := own_slice ho3
  replace ho3 := ho3.low (show w.heap.size + 1 ≤ w3.heap.size from HZ.out)
  replace BR := Lib.hid (BR.out.kept hb1)
  replace HZ := Lib.hid (show w.heap.size + 1 ≤ w4.heap.size by have := HZ.out; have := hb1.size; omega)
  replace hb := hb.trans (hb1.mono hb.size)
  clear hb1
  obtain ⟨wa, hwa⟩ : ∃ wa : World, wa = w4.alloc (Obj.cells #[.int .i64 (change x y).kind, .int .i64 (change x y).pos, .int .i64 (change x y).count, .slice fa fn fc] 31) := ⟨_, rfl⟩
  have hba : Below w4.heap.size w4 wa := by rw [hwa]; exact (Below.refl _ _).alloc (Nat.le_refl _) _
  have BC := Lib.hid (show Bx wa w4.heap.size 31 #[.int .i64 (change x y).kind, .int .i64 (change x y).pos, .int .i64 (change x y).count, .slice fa fn fc] by rw [hwa]; exact Bx.new _ _ _)
  have HOC := Lib.hid (ho3.kept hba)
  have HIC := Lib.hid (show LAmendment.Is wa (.agg #[.int .i64 (change x y).kind, .int .i64 (change x y).pos, .int .i64 (change x y).count, .slice fa fn fc]) (change x y) from ⟨_, rfl, HOC.out.is⟩)
  replace BR := Lib.hid (BR.out.kept hba)
  replace hb := hb.trans (hba.mono hb.size)
  obtain ⟨G, hG⟩ : ∃ G, G = w4.heap.size := ⟨_, rfl⟩
  rw [← hG] at BC HZ
  have HCG := Lib.hid (isValid _ (change x y) wa HIC.out (fun X hX => by
    have := words_size HG.out.2 X (words_mem hX)
    unfold LString.Fine maxLen; omega))
  clear ho3 hba
  go_upto_region 10 with fail
  rw [← hwa]
  clear hwa
  simp only [← hG]
  clear hG
  have u0 := BC.out.cell 0
  have u1 := BC.out.cell 1
  have u2 := BC.out.cell 2
  have u3 := BC.out.cell 3
  simp only [List.getElem?_toArray, List.getElem?_cons_zero, List.getElem?_cons_succ] at u0 u1 u2 u3
  go_wp2_with fail
  refine HCG.out.mono ?_
  rintro e w5 ⟨rfl, hb1⟩
  replace BR := Lib.hid (BR.out.kept hb1)
  replace BC := Lib.hid (BC.out.kept hb1)
  replace HOC := Lib.hid (HOC.out.kept hb1)
  replace hb := hb.trans (hb1.mono hb.size)
  have hGw : w.heap.size + 1 ≤ G := HZ.out
  clear hb1 HIC HCG u0 u1 u2 u3
  cases gg : good (change x y) with
  | false =>
    have HA := Lib.hid (no (a := x) (b := y) (by rw [gg]; simp))
    clear gg
    have BR5 := BR.out
    have r0 := BR5.cell 0
    have r1 := BR5.cell 1
    have r2 := BR5.cell 2
    have r3 := BR5.cell 3
    simp only [List.getElem?_toArray, List.getElem?_cons_zero, List.getElem?_cons_succ] at r0 r1 r2 r3
    have z0 := BR5.frozen 0
    have z1 := BR5.frozen 1
    have z2 := BR5.frozen 2
    have z3 := BR5.frozen 3
    have hRF := (Bx.set_ (Bx.set_ (Bx.set_ (Bx.set_ BR5 0 (.int .i64 0)) 1 (.int .i64 0)) 2 (.int .i64 0)) 3 (.slice none 0 0))
    have c0 := hRF.cell 0
    have c1 := hRF.cell 1
    have c2 := hRF.cell 2
    have c3 := hRF.cell 3
    simp at c0 c1 c2 c3
    clear hRF
    go_wp2_with fail
    refine bodyPost_ret (v := .tuple #[.agg #[.int .i64 0, .int .i64 0, .int .i64 0, .slice none 0 0], .bool false]) (by simp [results, Try.results41, go_sem, c0, c1, c2, c3]) rfl ?_
    exact ⟨_, zeroM, false, rfl, HA.out, LAmendment.Own.zero, (Below.setCell (Below.setCell (Below.setCell (Below.setCell hb (p := ⟨w.heap.size, 0, none⟩) (by show w.heap.size ≤ w.heap.size; omega) (.int .i64 0)) (p := ⟨w.heap.size, 1, none⟩) (by show w.heap.size ≤ w.heap.size; omega) (.int .i64 0)) (p := ⟨w.heap.size, 2, none⟩) (by show w.heap.size ≤ w.heap.size; omega) (.int .i64 0)) (p := ⟨w.heap.size, 3, none⟩) (by show w.heap.size ≤ w.heap.size; omega) (.slice none 0 0))⟩
  | true =>
    have HA := Lib.hid (yes HG.out.1 HG.out.2 gg)
    clear gg
    have BR5 := BR.out
    have BO5 := BC.out
    have HO3 := HOC.out
    have y0 := BO5.cell 0
    have y1 := BO5.cell 1
    have y2 := BO5.cell 2
    have y3 := BO5.cell 3
    simp only [List.getElem?_toArray, List.getElem?_cons_zero, List.getElem?_cons_succ] at y0 y1 y2 y3
    have r0 := BR5.cell 0
    have r1 := BR5.cell 1
    have r2 := BR5.cell 2
    have r3 := BR5.cell 3
    simp only [List.getElem?_toArray, List.getElem?_cons_zero, List.getElem?_cons_succ] at r0 r1 r2 r3
    have z0 := BR5.frozen 0
    have z1 := BR5.frozen 1
    have z2 := BR5.frozen 2
    have z3 := BR5.frozen 3
    have hRF := (Bx.set_ (Bx.set_ (Bx.set_ (Bx.set_ BR5 0 (.int .i64 (change x y).kind)) 1 (.int .i64 (change x y).pos)) 2 (.int .i64 (change x y).count)) 3 (.slice fa fn fc))
    have c0 := hRF.cell 0
    have c1 := hRF.cell 1
    have c2 := hRF.cell 2
    have c3 := hRF.cell 3
    simp at c0 c1 c2 c3
    clear hRF
    go_wp2_with fail
    refine bodyPost_ret (v := .tuple #[.agg #[.int .i64 (change x y).kind, .int .i64 (change x y).pos, .int .i64 (change x y).count, .slice fa fn fc], .bool true]) (by simp [results, Try.results41, go_sem, c0, c1, c2, c3]) rfl ?_
    exact ⟨_, _, true, rfl, HA.out, ⟨_, rfl, Own.low (own_set (own_set (own_set (own_set HO3 (p := ⟨w.heap.size, 0, none⟩) (fun k hk => by have h2 := (HO3.lt k hk).1; show k ≠ w.heap.size; omega) (.int .i64 (change x y).kind)) (p := ⟨w.heap.size, 1, none⟩) (fun k hk => by have h2 := (HO3.lt k hk).1; show k ≠ w.heap.size; omega) (.int .i64 (change x y).pos)) (p := ⟨w.heap.size, 2, none⟩) (fun k hk => by have h2 := (HO3.lt k hk).1; show k ≠ w.heap.size; omega) (.int .i64 (change x y).count)) (p := ⟨w.heap.size, 3, none⟩) (fun k hk => by have h2 := (HO3.lt k hk).1; show k ≠ w.heap.size; omega) (.slice fa fn fc)) (by omega)⟩, (Below.setCell (Below.setCell (Below.setCell (Below.setCell hb (p := ⟨w.heap.size, 0, none⟩) (by show w.heap.size ≤ w.heap.size; omega) (.int .i64 (change x y).kind)) (p := ⟨w.heap.size, 1, none⟩) (by show w.heap.size ≤ w.heap.size; omega) (.int .i64 (change x y).pos)) (p := ⟨w.heap.size, 2, none⟩) (by show w.heap.size ≤ w.heap.size; omega) (.int .i64 (change x y).count)) (p := ⟨w.heap.size, 3, none⟩) (by show w.heap.size ≤ w.heap.size; omega) (.slice fa fn fc))⟩

end Go.Proofs.Ytfkppgnffhbfjaa.SingleChangeC
