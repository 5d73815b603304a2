/- Sets compared: the walks of the model and of the library. No condition. -/
import Derived.Test.YtclpdpfnlmfogaaDoorCfH
import Derived.Test.YtclpdpfnlmfogaaDoorCfD
import Derived.Test.YtclpdpfnlmfogaaDoorCfX2
import Derived.Test.YtclpdpfnlmfogaaDoorLProposalSD
import Derived.Test.YtclpdpfnlmfogaaDoorJ1
import Derived.Lib.QuietBelow
import Derived.Deep.DeepCutAuto
import Derived.BigQuiet
import Derived.IntWalk
namespace Go.Proofs.YtclpdpfnlmfogaaDoor.CfW
open Go.RowKit Bs Word Am AmA AmG Cf CfD CfM CfN CfH CfX2
set_option linter.unusedVariables false
theorem less_at {xs ys : List Int} {k : Nat} {x y : Int} (h0 : xs[k]? = some x) (h1 : ys[k]? = some y) : lessL (xs.drop k) (ys.drop k) = if x = y then lessL (xs.drop (k + 1)) (ys.drop (k + 1)) else decide (x < y) := by
  have a0 : k < xs.length := (List.getElem?_eq_some_iff.1 h0).1
  have a1 : k < ys.length := (List.getElem?_eq_some_iff.1 h1).1
  rw [List.getElem?_eq_getElem a0] at h0
  rw [List.getElem?_eq_getElem a1] at h1
  rw [List.drop_eq_getElem_cons a0, List.drop_eq_getElem_cons a1, Option.some.inj h0, Option.some.inj h1]
  rfl
theorem less_end {xs ys : List Int} {k : Nat} (h : xs.length ≤ k ∨ ys.length ≤ k) (hx : k ≤ xs.length) (hy : k ≤ ys.length) : lessL (xs.drop k) (ys.drop k) = decide (xs.length < ys.length) := by
  by_cases h0 : xs.length ≤ k
  · rw [List.drop_of_length_le h0]
    by_cases h1 : ys.length ≤ k
    · rw [List.drop_of_length_le h1, decide_eq_false (by omega)]; rfl
    · rw [List.drop_eq_getElem_cons (by omega), decide_eq_true (by omega)]; rfl
  · rw [List.drop_eq_getElem_cons (show k < xs.length by omega), List.drop_of_length_le (show ys.length ≤ k by omega), decide_eq_false (by omega)]; rfl
theorem cmp_at {xs ys : List Int} {k : Nat} {x y : Int} (h0 : xs[k]? = some x) (h1 : ys[k]? = some y) : cmpL (xs.drop k) (ys.drop k) = if cmpI x y = 0 then cmpL (xs.drop (k + 1)) (ys.drop (k + 1)) else cmpI x y := by
  have a0 : k < xs.length := (List.getElem?_eq_some_iff.1 h0).1
  have a1 : k < ys.length := (List.getElem?_eq_some_iff.1 h1).1
  rw [List.getElem?_eq_getElem a0] at h0
  rw [List.getElem?_eq_getElem a1] at h1
  rw [List.drop_eq_getElem_cons a0, List.drop_eq_getElem_cons a1, Option.some.inj h0, Option.some.inj h1]
  rfl
theorem cmp_long {xs ys : List Int} {k : Nat} (hx : k < xs.length) (hy : ys.length ≤ k) : cmpL (xs.drop k) (ys.drop k) = 1 := by
  rw [List.drop_eq_getElem_cons hx, List.drop_of_length_le hy]; rfl
theorem cmp_short {xs ys : List Int} {k : Nat} (hx : xs.length ≤ k) : cmpL (xs.drop k) (ys.drop k) = if k < ys.length then -1 else 0 := by
  rw [List.drop_of_length_le hx]
  split
  · rename_i h; rw [List.drop_eq_getElem_cons h]; rfl
  · rename_i h; rw [List.drop_of_length_le (by omega)]; rfl
theorem or_at {xs : List Int} {k : Nat} {x : Int} (h : xs[k]? = some x) : orI (xs.drop k) = if x = 0 then orI (xs.drop (k + 1)) else x := by
  have a0 : k < xs.length := (List.getElem?_eq_some_iff.1 h).1
  rw [List.getElem?_eq_getElem a0] at h
  rw [List.drop_eq_getElem_cons a0, Option.some.inj h]
  rfl
set_option maxRecDepth 100000 in
set_option maxHeartbeats 1600000 in
theorem l10Less (v0 v1 : Value) (xs ys : List Int) (w : World) (h0 : Is LInt.rec w v0 xs) (h1 : Is LInt.rec w v1 ys) :
    Calls Tryd.prog 80 #[v0, v1] w fun e w' => e = .returned (.bool (lessL xs ys)) ∧ Below w.heap.size w w' := by
  obtain ⟨a0, c0, rfl, h0⟩ := h0
  obtain ⟨a1, c1, rfl, h1⟩ := h1
  have hc0 := h0.at_ LInt.rec
  have hc1 := h1.at_ LInt.rec
  obtain ⟨n0, hn0⟩ : ∃ n, n = xs.length := ⟨_, rfl⟩
  obtain ⟨n1, hn1⟩ : ∃ n, n = ys.length := ⟨_, rfl⟩
  have hb0 : n0 ≤ c0 := by have := h0.1; omega
  have hb1 : n1 ≤ c1 := by have := h1.1; omega
  have hm0 := h0.2.1
  have hm1 := h1.2.1
  unfold maxLen at hm0 hm1
  have HN0 := Lib.hid hn0.symm
  have HN1 := Lib.hid hn1.symm
  rw [← hn0, ← hn1]
  clear hn0 hn1 h0 h1
  go_enter Tryd.func80, Tryd.ntmps80
  go_wp2_with fail
  go_loopw [5] (fun i wr => ∃ k : Nat, k ≤ n0 ∧ k ≤ n1 ∧ i = .int .i64 k ∧ Hid (lessL xs ys = lessL (xs.drop k) (ys.drop k)) ∧ Below w.heap.size w wr) (fun i _ => n0 - (intOf i).toNat)
  case atStart => exact ⟨0, Nat.zero_le _, Nat.zero_le _, rfl, Lib.hid rfl, Below.refl _ _⟩
  case round =>
    obtain ⟨k, hk0, hk1, rfl, HL, hb⟩ := hrel
    by_cases hlt : k < n0
    · by_cases hlt1 : k < n1
      · have k0 : 0 ≤ (k : Int) := by omega
        have k1 : (k : Int) < (n0 : Int) := by omega
        have k2 : (k : Int) < (n1 : Int) := by omega
        have hx0 : k < xs.length := by have := HN0.out; omega
        have hx1 : k < ys.length := by have := HN1.out; omega
        obtain ⟨b0, o0, rfl, hl0, hcell0⟩ := hc0.out k xs[k] (List.getElem?_eq_getElem hx0)
        obtain ⟨b1, o1, rfl, hl1, hcell1⟩ := hc1.out k ys[k] (List.getElem?_eq_getElem hx1)
        have q0 := LInt.cells (hcell0.below LInt.rec hb hl0)
        have q1 := LInt.cells (hcell1.below LInt.rec hb hl1)
        simp only [LInt.rec_n, Nat.mul_one] at q0 q1
        have HX0 := Lib.hid (List.getElem?_eq_getElem hx0)
        have HX1 := Lib.hid (List.getElem?_eq_getElem hx1)
        clear hcell0 hcell1
        generalize xs[k] = X at *
        generalize ys[k] = Y at *
        have HA := Lib.hid (less_at HX0.out HX1.out)
        by_cases e : X = Y
        · subst e
          have HL2 := Lib.hid (show lessL xs ys = lessL (xs.drop (k + 1)) (ys.drop (k + 1)) by rw [HL.out, HA.out, if_pos rfl])
          have e1 : (X != X) = false := by simp
          go_wp2_with fail
          go_quiet (fail)
          go_wp2_with fail
          go_roundw
          case rel => exact ⟨k + 1, by omega, by omega, by go_num, HL2, hb.trans ((drawn_below wr _).mono hb.size)⟩
          case measure => simp [intOf]; omega
        · have HL2 := Lib.hid (show lessL xs ys = decide (X < Y) by rw [HL.out, HA.out, if_neg e])
          have e1 : (X != Y) = true := bne_iff_ne.2 e
          clear e
          go_wp2_with fail
          go_quiet (fail)
          go_wp2_with fail
          go_quiet (fail)
          go_wp2_with fail
          go_ret
          exact ⟨ret_bool HL2.out.symm, hb.trans (Below.mono (Below.trans (drawn_below wr _) (drawn_below (wr.drewN _) _)) hb.size)⟩
      · have k2 : ¬ (k : Int) < (n1 : Int) := by omega
        have HE := Lib.hid (show lessL xs ys = decide (n0 < n1) by rw [HL.out, less_end (.inr (by have := HN1.out; omega)) (by have := HN0.out; omega) (by have := HN1.out; omega), HN0.out, HN1.out])
        go_wp2_with fail
        go_ret
        exact ⟨ret_bool HE.out.symm, hb⟩
    · have HE := Lib.hid (show lessL xs ys = decide (n0 < n1) by rw [HL.out, less_end (.inl (by have := HN0.out; omega)) (by have := HN0.out; omega) (by have := HN1.out; omega), HN0.out, HN1.out])
      go_wp2_with fail
      go_ret
      exact ⟨ret_bool HE.out.symm, hb⟩
set_option maxRecDepth 100000 in
set_option maxHeartbeats 1600000 in
theorem compareL (v0 v1 : Value) (xs ys : List Int) (w : World) (h0 : Is LInt.rec w v0 xs) (h1 : Is LInt.rec w v1 ys) :
    Calls Tryd.prog 79 #[v0, v1] w fun e w' => e = .returned (.int .i64 (cmpL xs ys)) ∧ w = w' := by
  obtain ⟨a0, c0, rfl, h0⟩ := h0
  obtain ⟨a1, c1, rfl, h1⟩ := h1
  have hc0 := h0.at_ LInt.rec
  have hc1 := h1.at_ LInt.rec
  obtain ⟨n0, hn0⟩ : ∃ n, n = xs.length := ⟨_, rfl⟩
  obtain ⟨n1, hn1⟩ : ∃ n, n = ys.length := ⟨_, rfl⟩
  have hb0 : n0 ≤ c0 := by have := h0.1; omega
  have hb1 : n1 ≤ c1 := by have := h1.1; omega
  have hm0 := h0.2.1
  have hm1 := h1.2.1
  unfold maxLen at hm0 hm1
  have HN0 := Lib.hid hn0.symm
  have HN1 := Lib.hid hn1.symm
  rw [← hn0, ← hn1]
  clear hn0 hn1 h0 h1
  go_enter Tryd.func79, Tryd.ntmps79
  go_wp2_with fail
  go_loop [11] (fun i => ∃ k : Nat, k ≤ n0 ∧ k ≤ n1 ∧ i = .int .i64 k ∧ Hid (cmpL xs ys = cmpL (xs.drop k) (ys.drop k))) (fun i => n0 - (intOf i).toNat)
  case atStart => exact ⟨0, Nat.zero_le _, Nat.zero_le _, rfl, Lib.hid rfl⟩
  case round =>
    obtain ⟨k, hk0, hk1, rfl, HL⟩ := hrel
    by_cases hlt : k < n0
    · have k0 : 0 ≤ (k : Int) := by omega
      have k1 : (k : Int) < (n0 : Int) := by omega
      by_cases hlt1 : k < n1
      · have k2 : (k : Int) < (n1 : Int) := by omega
        have k3 : ¬ (n1 : Int) ≤ (k : Int) := by omega
        have hx0 : k < xs.length := by have := HN0.out; omega
        have hx1 : k < ys.length := by have := HN1.out; omega
        obtain ⟨b0, o0, rfl, hl0, hcell0⟩ := hc0.out k xs[k] (List.getElem?_eq_getElem hx0)
        obtain ⟨b1, o1, rfl, hl1, hcell1⟩ := hc1.out k ys[k] (List.getElem?_eq_getElem hx1)
        have q0 := LInt.cells hcell0
        have q1 := LInt.cells hcell1
        simp only [LInt.rec_n, Nat.mul_one] at q0 q1
        have HX0 := Lib.hid (List.getElem?_eq_getElem hx0)
        have HX1 := Lib.hid (List.getElem?_eq_getElem hx1)
        clear hcell0 hcell1
        generalize xs[k] = X at *
        generalize ys[k] = Y at *
        have HA := Lib.hid (cmp_at HX0.out HX1.out)
        have HC := Lib.hid (show Calls Tryd.prog 68 #[.int .i64 X, .int .i64 Y] w (fun e w' => e = .returned (.int .i64 (CfH.cmpI X Y)) ∧ w = w') from CmpI.compare X Y w)
        generalize CfH.cmpI X Y = C at *
        by_cases e : C = 0
        · have HL2 := Lib.hid (show cmpL xs ys = cmpL (xs.drop (k + 1)) (ys.drop (k + 1)) by rw [HL.out, HA.out, if_pos e])
          have e1 : (C != 0) = false := by simp [e]
          clear e
          go_wp2_with fail
          refine HC.out.mono ?_
          rintro e _ ⟨rfl, rfl⟩
          go_wp2_with fail
          go_round
          case rel => exact ⟨k + 1, by omega, by omega, by go_num, HL2⟩
          case measure => simp [intOf]; omega
        · have HL2 := Lib.hid (show cmpL xs ys = C by rw [HL.out, HA.out, if_neg e])
          have e1 : (C != 0) = true := bne_iff_ne.2 e
          clear e
          go_wp2_with fail
          refine HC.out.mono ?_
          rintro e _ ⟨rfl, rfl⟩
          go_wp2_with fail
          go_ret
          exact ⟨by rw [HL2.out]; rfl, rfl⟩
      · have k3 : (n1 : Int) ≤ (k : Int) := by omega
        have hx0 : k < xs.length := by have := HN0.out; omega
        obtain ⟨b0, o0, rfl, hl0, hcell0⟩ := hc0.out k xs[k] (List.getElem?_eq_getElem hx0)
        have q0 := LInt.cells hcell0
        simp only [LInt.rec_n, Nat.mul_one] at q0
        have HE := Lib.hid (show cmpL xs ys = 1 by rw [HL.out]; exact cmp_long (by have := HN0.out; omega) (by have := HN1.out; omega))
        clear hcell0
        go_wp2_with fail
        go_ret
        exact ⟨by rw [HE.out]; rfl, rfl⟩
    · by_cases hlt1 : k < n1
      · have HE := Lib.hid (show cmpL xs ys = -1 by rw [HL.out, cmp_short (by have := HN0.out; omega), if_pos (by have := HN1.out; omega)])
        have k3 : (n0 : Int) < (n1 : Int) := by omega
        go_wp2_with fail
        go_ret
        exact ⟨by rw [HE.out]; rfl, rfl⟩
      · have HE := Lib.hid (show cmpL xs ys = 0 by rw [HL.out, cmp_short (by have := HN0.out; omega), if_neg (by have := HN1.out; omega)])
        have k3 : ¬ (n0 : Int) < (n1 : Int) := by omega
        go_wp2_with fail
        go_ret
        exact ⟨by rw [HE.out]; rfl, rfl⟩
set_option maxRecDepth 100000 in
set_option maxHeartbeats 1600000 in
theorem orL (v0 : Value) (xs : List Int) (w : World) (h0 : Is LInt.rec w v0 xs) :
    Calls Tryd.prog 67 #[v0] w fun e w' => e = .returned (.int .i64 (orI xs)) ∧ w = w' := by
  obtain ⟨a0, c0, rfl, h0⟩ := h0
  have hc0 := h0.at_ LInt.rec
  obtain ⟨n0, hn0⟩ : ∃ n, n = xs.length := ⟨_, rfl⟩
  have hb0 : n0 ≤ c0 := by have := h0.1; omega
  have hm0 := h0.2.1
  unfold maxLen at hm0
  have HN0 := Lib.hid hn0.symm
  rw [← hn0]
  clear hn0 h0
  go_enter Tryd.func67, Tryd.ntmps67
  go_wp2_with fail
  go_loop [8] (fun i => ∃ k : Nat, k ≤ n0 ∧ i = .int .i64 k ∧ Hid (orI xs = orI (xs.drop k))) (fun i => n0 - (intOf i).toNat)
  case atStart => exact ⟨0, Nat.zero_le _, rfl, Lib.hid rfl⟩
  case round =>
    obtain ⟨k, hk0, rfl, HL⟩ := hrel
    by_cases hlt : k < n0
    · have k0 : 0 ≤ (k : Int) := by omega
      have k1 : (k : Int) < (n0 : Int) := by omega
      have hx0 : k < xs.length := by have := HN0.out; omega
      obtain ⟨b0, o0, rfl, hl0, hcell0⟩ := hc0.out k xs[k] (List.getElem?_eq_getElem hx0)
      have q0 := LInt.cells hcell0
      simp only [LInt.rec_n, Nat.mul_one] at q0
      have HX0 := Lib.hid (List.getElem?_eq_getElem hx0)
      clear hcell0
      generalize xs[k] = X at *
      have HA := Lib.hid (or_at HX0.out)
      by_cases e : X = 0
      · have HL2 := Lib.hid (show orI xs = orI (xs.drop (k + 1)) by rw [HL.out, HA.out, if_pos e])
        have e1 : (X != 0) = false := by simp [e]
        clear e
        go_wp2_with fail
        go_round
        case rel => exact ⟨k + 1, by omega, by go_num, HL2⟩
        case measure => simp [intOf]; omega
      · have HL2 := Lib.hid (show orI xs = X by rw [HL.out, HA.out, if_neg e])
        have e1 : (X != 0) = true := bne_iff_ne.2 e
        clear e
        go_wp2_with fail
        go_ret
        exact ⟨by rw [HL2.out]; rfl, rfl⟩
    · have HE := Lib.hid (show orI xs = 0 by rw [HL.out, List.drop_of_length_le (by have := HN0.out; omega)]; rfl)
      go_wp2_with fail
      go_ret
      exact ⟨by rw [HE.out]; rfl, rfl⟩
attribute [local go_sem ↓] Go.wp_at_zero Go.wp_at_succ in
set_option maxRecDepth 100000 in
set_option maxHeartbeats 1600000 in
theorem l10Free (v1 : Value) (z : List P) (w : World) (h1 : LProposalS.Is w v1 z) (hg : ∀ x ∈ z, good (ch x) = true) (hn : z.length ≤ 1000) :
    Calls Tryd.prog 71 #[v1] w fun e w' => e = .returned (.bool (freeL z)) ∧ Below w.heap.size w w' := by
  have f1 : ∀ x ∈ z, True := fun _ _ => trivial
  have HGA := Lib.hid hg
  have hc := LProposalS.get h1
  obtain ⟨a, cp, rfl, hnb, h2⟩ := h1.form
  unfold maxLen at h2
  obtain ⟨n, hn⟩ : ∃ n, n = z.length := ⟨_, rfl⟩
  have HN := Lib.hid hn.symm
  have HF := Lib.hid f1
  have HLI := Lib.hid h1
  rw [← hn] at hc hnb HLI ⊢
  have hle : n ≤ z.length := by omega
  clear hn h1 f1
  clear hg
  go_enter Tryd.func71, Tryd.ntmps71
  go_wp2_with fail
  go_loopw [3] (fun i wr => ∃ k : Nat, k ≤ n ∧ i = .int .i64 k ∧ Hid (freeTo2 z k = true) ∧ Below w.heap.size w wr) (fun i _ => n - (intOf i).toNat)
  case atStart => exact ⟨0, Nat.zero_le _, rfl, Lib.hid rfl, Below.refl _ _⟩
  case round =>
    obtain ⟨i, hik, rfl, HT, hb⟩ := hrel
    by_cases hlt : i < n
    · have k0 : 0 ≤ (i : Int) := by omega
      have k1 : (i : Int) < (n : Int) := by omega
      have hx : i < z.length := by omega
      obtain ⟨b, o, c, x, y, s, he, hbl, hat, hI⟩ := hc.out i z[i] (List.getElem?_eq_getElem hx)
      simp only [Value.slice.injEq] at he
      obtain ⟨rfl, -, rfl⟩ := he
      have HAT := Lib.hid hat
      have HX := Lib.hid (List.getElem?_eq_getElem hx)
      have HFX := Lib.hid (HF.out _ (List.getElem_mem hx))
      have HGX := Lib.hid (HGA.out _ (List.getElem_mem hx))
      have HQX := Lib.hid hI
      clear hat hI
      generalize z[i] = X at *
      go_wp2_with fail
      go_loopw [4] (fun j wr => ∃ m : Nat, m ≤ i ∧ j = .int .i64 m ∧ Hid (freeRow z i m = true) ∧ Below w.heap.size w wr) (fun j _ => i - (intOf j).toNat)
      case atStart => exact ⟨0, Nat.zero_le _, rfl, Lib.hid rfl, hb⟩
      case round =>
        clear hb
        obtain ⟨m, hmk, rfl, HR, hb⟩ := hrel
        by_cases hlm : m < i
        · have m0 : 0 ≤ (m : Int) := by omega
          have m1 : (m : Int) < (i : Int) := by omega
          have m2 : (m : Int) < (n : Int) := by omega
          have hxb : m < z.length := by omega
          obtain ⟨bb, ob, cb, xb, yb, sb, heb, hblb, hatb, hIb⟩ := hc.out m z[m] (List.getElem?_eq_getElem hxb)
          simp only [Value.slice.injEq, Option.some.injEq, Addr.mk.injEq, and_true] at heb
          obtain ⟨⟨rfl, rfl⟩, -⟩ := heb
          have HATb := Lib.hid hatb
          have HXb := Lib.hid (List.getElem?_eq_getElem hxb)
          have HFXb := Lib.hid (HF.out _ (List.getElem_mem hxb))
          have HGXb := Lib.hid (HGA.out _ (List.getElem_mem hxb))
          have HQXb := Lib.hid hIb
          clear hatb hIb
          generalize z[m] = Y at *
          have HCF := Lib.hid (cf_at HX.out HXb.out)
          have a1 := fun d os => (isAt (HAT.out.below LProposalS.kit.row (hb.trans ((below_regrown wr d os).mono hb.size)) hbl)).1
          have a2 := fun d os => (isAt (HAT.out.below LProposalS.kit.row (hb.trans ((below_regrown wr d os).mono hb.size)) hbl)).2.1
          have a3 := fun d os => (isAt (HAT.out.below LProposalS.kit.row (hb.trans ((below_regrown wr d os).mono hb.size)) hbl)).2.2.1
          have a4 := fun d os => (isAt (HAT.out.below LProposalS.kit.row (hb.trans ((below_regrown wr d os).mono hb.size)) hbl)).2.2.2
          have d1 := fun d os => (isAt (HATb.out.below LProposalS.kit.row (hb.trans ((below_regrown wr d os).mono hb.size)) hblb)).1
          have d2 := fun d os => (isAt (HATb.out.below LProposalS.kit.row (hb.trans ((below_regrown wr d os).mono hb.size)) hblb)).2.1
          have d3 := fun d os => (isAt (HATb.out.below LProposalS.kit.row (hb.trans ((below_regrown wr d os).mono hb.size)) hblb)).2.2.1
          have d4 := fun d os => (isAt (HATb.out.below LProposalS.kit.row (hb.trans ((below_regrown wr d os).mono hb.size)) hblb)).2.2.2
          cases cv : confB (ch X) (ch Y) with
          | false =>
            have HC := Lib.hid (fun W' (hW : Below wr.heap.size wr W') => conf_as _ _ (ch X) (ch Y) false cv W' (is_ch (LProposal.Is.below HQX.out (hb.trans (hW.mono hb.size)))) (is_ch (LProposal.Is.below HQXb.out (hb.trans (hW.mono hb.size)))) HGX.out HGXb.out)
            have HR2 := Lib.hid (show freeRow z i (m + 1) = true by rw [freeRow_next, HR.out, HCF.out, cv]; rfl)
            clear cv
            go_wp2_with fail
            refine wp_region_quiet_below (by kernel_rfl) (by kernel_rfl) ?_
            repeat (go_big_quiet_step ((first | (go_at_call 56; exact Calls.regrown_of (HC.out _ (below_regrown wr _ _))) | fail)))
            refine wpQuiet_nil ?_
            intro _ hw'
            obtain ⟨⟨dq, osq⟩, hw''⟩ := hw'
            subst hw''
            have hb2 := hb.trans ((below_regrown wr dq osq).mono hb.size)
            clear a1 a2 a3 a4 d1 d2 d3 d4
            go_wp2_with fail
            go_roundw
            case rel => exact ⟨m + 1, by omega, by go_num, HR2, hb2⟩
            case measure => simp [intOf]; omega
          | true =>
            have HC := Lib.hid (fun W' (hW : Below wr.heap.size wr W') => conf_as _ _ (ch X) (ch Y) true cv W' (is_ch (LProposal.Is.below HQX.out (hb.trans (hW.mono hb.size)))) (is_ch (LProposal.Is.below HQXb.out (hb.trans (hW.mono hb.size)))) HGX.out HGXb.out)
            have HV := Lib.hid (free_bad (l := z) (by have := HN.out; omega) hlm (HCF.out.trans cv))
            clear cv
            go_wp2_with fail
            refine wp_region_quiet_below (by kernel_rfl) (by kernel_rfl) ?_
            repeat (go_big_quiet_step ((first | (go_at_call 56; exact Calls.regrown_of (HC.out _ (below_regrown wr _ _))) | fail)))
            refine wpQuiet_nil ?_
            intro _ hw'
            obtain ⟨⟨dq, osq⟩, hw''⟩ := hw'
            subst hw''
            have hb2 := hb.trans ((below_regrown wr dq osq).mono hb.size)
            clear a1 a2 a3 a4 d1 d2 d3 d4
            go_wp2_with fail
            go_ret
            exact ⟨ret_bool HV.out.symm, hb2⟩
        · obtain rfl : m = i := by omega
          have HT2 := Lib.hid (show freeTo2 z (m + 1) = true by rw [freeTo2_next, HT.out, HR.out]; rfl)
          go_wp2_with fail
          go_roundw
          case rel => exact ⟨m + 1, by omega, by go_num, HT2, hb⟩
          case measure => simp [intOf]; omega
    · obtain rfl : i = n := by omega
      have HE := Lib.hid (show freeL z = true by unfold freeL; rw [HN.out]; exact HT.out)
      go_wp2_with fail
      go_ret
      exact ⟨ret_bool HE.out.symm, hb⟩
end Go.Proofs.YtclpdpfnlmfogaaDoor.CfW
