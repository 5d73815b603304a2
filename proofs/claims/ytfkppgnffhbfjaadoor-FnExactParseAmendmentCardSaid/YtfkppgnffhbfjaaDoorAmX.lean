/- The line of an amendment: the model and the program. No condition. -/
import Derived.Test.YtfkppgnffhbfjaaDoorAmG
import Derived.Test.YtfkppgnffhbfjaaDoorAmL
import Derived.Test.YtfkppgnffhbfjaaDoorNum
import Derived.Test.YtfkppgnffhbfjaaDoorShelf
import Derived.Test.YtfkppgnffhbfjaaDoorAppO
import Derived.Deep.DeepCutAuto
namespace Go.Proofs.YtfkppgnffhbfjaaDoor.AmX
open Go.RowKit Bs Word Am AmA AmG AmL
set_option linter.unusedVariables false
theorem is_at {w : World} {a : Option Addr} {n c : Nat} {xs : T} (h : Bs.Is LString.rec w (.slice a n c) xs) : Hid (∀ (j : Nat) (x : ByteArray), xs[j]? = some x → ∃ b o, a = some ⟨b, o, none⟩ ∧ b < w.heap.size ∧ At LString.rec w b (o + j * LString.rec.n) x) := by
  obtain ⟨a', c', e, hr⟩ := h
  simp only [Value.slice.injEq] at e
  obtain ⟨rfl, _, rfl⟩ := e
  exact hr.at_ LString.rec
theorem ret_str {a b : ByteArray} (h : a = b) : Ending.returned (.string a) = .returned (.string b) := by rw [h]
theorem belowDN {B : Nat} {a w : World} (h : Below B a w) (k : Nat) : Below B a (w.drewN k) := h.trans ⟨rfl, rfl, rfl, Nat.le_refl _, fun _ _ => rfl⟩
theorem numC (n : Int) (w : World) (h0 : 0 ≤ n) (h1 : n ≤ 1000) :
    Calls Tryd.prog 31 #[.int .i64 n] w fun e w' => e = .returned (.string (num n)) ∧ Below w.heap.size w w' :=
  (Num.l1Num n w (by omega) (by omega)).mono fun e w' ⟨he, k, hk⟩ => ⟨he, by subst hk; exact belowDN (Below.refl _ _) k⟩
theorem itoaC (n : Int) (w : World) (h0 : 0 ≤ n) (h1 : n ≤ 99) :
    Calls Tryd.prog 20 #[.int .i64 n] w fun e w' => e = .returned (.string (num n)) ∧ Below w.heap.size w w' := by
  obtain ⟨m, rfl⟩ := Int.eq_ofNat_of_zero_le h0
  refine (Tryd.strconv_Itoa_small m (by omega) w).mono fun e w' ⟨he, hw⟩ => ⟨?_, by subst hw; exact Below.refl _ _⟩
  rw [he]
  have : Lib.itoa (m : Int) = Lib.decDigits m := by unfold Lib.itoa; rw [if_neg (by omega)]; rfl
  unfold num
  rw [this]
def headS (k : Int) : ByteArray := if k = 1 then ⟨#[105, 110, 115, 101, 114, 116]⟩ else if k = 2 then ⟨#[115, 116, 114, 105, 107, 101, 32]⟩ else ⟨#[114, 101, 112, 108, 97, 99, 101, 32]⟩
def cntN (c : Int) : ByteArray := if 0 < c then num c else ⟨#[]⟩
theorem head_size (k : Int) : (headS k).size ≤ 8 := by
  unfold headS; split
  · decide
  · split
    · decide
    · decide
theorem cntN_size {c : Int} (h : c ≤ 5) : (cntN c).size ≤ 21 := by
  unfold cntN; split
  · exact num_size c (by omega) (by omega)
  · decide
theorem front_spec {a : M} (h : good a = true) : headS a.kind ++ cntN a.count ++ ⟨#[32, 97, 116, 32]⟩ ++ num a.pos = front a := by
  have hk := kind_cases (good_parts h).2.2.1
  have e : headS a.kind ++ cntN a.count = verb a.kind ++ cntT a.count := by
    rcases hk with ⟨h1, h2, _⟩ | ⟨h1, h2, _⟩ | ⟨h1, h2, _⟩
    · rw [h1, h2]; rfl
    · have e1 : cntN a.count = num a.count := by unfold cntN; rw [if_pos (by omega)]
      have e2 : cntT a.count = sp ++ num a.count := by unfold cntT; rw [if_pos (by omega)]
      rw [h1, e1, e2, ← app_assoc]
      rfl
    · have e1 : cntN a.count = num a.count := by unfold cntN; rw [if_pos (by omega)]
      have e2 : cntT a.count = sp ++ num a.count := by unfold cntT; rw [if_pos (by omega)]
      rw [h1, e1, e2, ← app_assoc]
      rfl
  unfold front
  rw [e, app_assoc (verb a.kind ++ cntT a.count)]
  rfl
set_option maxRecDepth 100000 in
set_option maxHeartbeats 1600000 in
theorem l9Line (v0 : Value) (r : M) (w : World) (h0 : LAmendment.Is w v0 r) (hg : good r = true) :
    Calls Tryd.prog 16 #[v0] w fun e w' => e = .returned (.string (line r)) ∧ Below w.heap.size w w' := by
  obtain ⟨a3, n3, c3, rfl, HN3, hb3, hm3, HIW0⟩ := open_is h0
  clear h0
  obtain ⟨W, hW⟩ : ∃ W : World, W = w.alloc (Obj.cells #[.int .i64 r.kind, .int .i64 r.pos, .int .i64 r.count, .slice a3 n3 c3] 28) := ⟨_, rfl⟩
  have hb : Below w.heap.size w W := by rw [hW]; exact (Below.refl _ _).alloc (Nat.le_refl _) _
  have B0 := Lib.hid (show Bx W w.heap.size 28 #[.int .i64 r.kind, .int .i64 r.pos, .int .i64 r.count, .slice a3 n3 c3] by rw [hW]; exact Bx.new _ _ _)
  have q0 := B0.out.cell 0
  have q1 := B0.out.cell 1
  have q2 := B0.out.cell 2
  have q3 := B0.out.cell 3
  simp only [List.getElem?_toArray, List.getElem?_cons_zero, List.getElem?_cons_succ] at q0 q1 q2 q3
  obtain ⟨⟨p1, p2⟩, hw5, hk5, c1, c2⟩ := good_parts hg
  have hw := words_len hw5
  rw [HN3.out] at hw
  have HWS := Lib.hid (words_size hw5)
  have HFS := Lib.hid (front_spec hg)
  have HFZ := Lib.hid (front_size hg)
  have HK := Lib.hid (kind_cases hk5)
  have HC3 := is_at HIW0.out
  clear hw5 hk5 hg
  go_enter Tryd.func16, Tryd.ntmps16
  go_upto_region 1 with fail
  rw [← hW]
  clear hW
  go_cut [3] (fun s3 wx => s3 = .string (headS r.kind) ∧ Below W.heap.size W wx)
  case first =>
    obtain ⟨W1, hW1⟩ : ∃ W1 : World, W1 = W.alloc (Obj.cells #[.string ⟨#[]⟩, .string ⟨#[105, 110, 115, 101, 114, 116]⟩, .string ⟨#[115, 116, 114, 105, 107, 101, 32]⟩, .string ⟨#[114, 101, 112, 108, 97, 99, 101, 32]⟩] 9) := ⟨_, rfl⟩
    have hbx : Below W.heap.size W W1 := by rw [hW1]; exact (Below.refl _ _).alloc (Nat.le_refl _) _
    have BL := Lib.hid (show Bx W1 W.heap.size 9 #[.string ⟨#[]⟩, .string ⟨#[105, 110, 115, 101, 114, 116]⟩, .string ⟨#[115, 116, 114, 105, 107, 101, 32]⟩, .string ⟨#[114, 101, 112, 108, 97, 99, 101, 32]⟩] by rw [hW1]; exact Bx.new _ _ _)
    have x0 := (B0.out.kept hbx).cell 0
    have y1 := BL.out.cell 1
    have y2 := BL.out.cell 2
    have y3 := BL.out.cell 3
    simp only [List.getElem?_toArray, List.getElem?_cons_zero, List.getElem?_cons_succ] at x0 y1 y2 y3
    rcases HK.out with ⟨hk, _, _⟩ | ⟨hk, _, _⟩ | ⟨hk, _, _⟩
    · rw [hk] at x0
      have HK1 := Lib.hid hk
      clear q0 hk
      rw [hW1] at x0 y1 y2 y3
      go_wp2_with fail
      rw [← hW1]
      go_meet
      exact ⟨by rw [HK1.out]; rfl, hbx⟩
    · rw [hk] at x0
      have HK1 := Lib.hid hk
      clear q0 hk
      rw [hW1] at x0 y1 y2 y3
      go_wp2_with fail
      rw [← hW1]
      go_meet
      exact ⟨by rw [HK1.out]; rfl, hbx⟩
    · rw [hk] at x0
      have HK1 := Lib.hid hk
      clear q0 hk
      rw [hW1] at x0 y1 y2 y3
      go_wp2_with fail
      rw [← hW1]
      go_meet
      exact ⟨by rw [HK1.out]; rfl, hbx⟩
  case rest =>
  obtain ⟨rfl, hb1⟩ := hcut
  obtain ⟨w1, hwc⟩ : ∃ x, x = wc := ⟨_, rfl⟩
  subst hwc
  replace B0 := Lib.hid (B0.out.kept hb1)
  replace hb := hb.trans (hb1.mono hb.size)
  clear hb1 q0 q1 q2 q3
  have q0 := B0.out.cell 0
  have q1 := B0.out.cell 1
  have q2 := B0.out.cell 2
  have q3 := B0.out.cell 3
  simp only [List.getElem?_toArray, List.getElem?_cons_zero, List.getElem?_cons_succ] at q0 q1 q2 q3
  have hS1 := head_size r.kind
  have hC1 := cntN_size c2
  generalize headS r.kind = S at *
  go_upto_if 12 with fail
  go_cut [3] (fun s3 wx => s3 = .string (S ++ cntN r.count) ∧ Below w1.heap.size w1 wx)
  case first =>
    by_cases c0 : 0 < r.count
    · have HE := Lib.hid (show cntN r.count = num r.count by unfold cntN; rw [if_pos c0])
      have hz := num_size r.count (by omega) (by omega)
      go_wp2_with fail
      refine (numC r.count _ (by omega) (by omega)).mono ?_
      rintro e w2 ⟨rfl, hb2⟩
      have hnz : ¬ (9223372036854775807 < S.size + (num r.count).size) := by omega
      go_wp2_with fail
      go_meet
      exact ⟨by rw [HE.out], hb2⟩
    · have HE := Lib.hid (show cntN r.count = ⟨#[]⟩ by unfold cntN; rw [if_neg c0])
      go_wp2_with fail
      go_meet
      exact ⟨by rw [HE.out, app_nil], Below.refl _ _⟩
  case rest =>
  obtain ⟨rfl, hb1⟩ := hcut
  obtain ⟨w2, hwc⟩ : ∃ x, x = wc := ⟨_, rfl⟩
  subst hwc
  replace B0 := Lib.hid (B0.out.kept hb1)
  replace hb := hb.trans (hb1.mono hb.size)
  clear hb1 q0 q1 q2 q3
  have q0 := B0.out.cell 0
  have q1 := B0.out.cell 1
  have q2 := B0.out.cell 2
  have q3 := B0.out.cell 3
  simp only [List.getElem?_toArray, List.getElem?_cons_zero, List.getElem?_cons_succ] at q0 q1 q2 q3
  have hS2 : (S ++ cntN r.count).size ≤ 29 := by rw [ByteArray.size_append]; omega
  generalize S ++ cntN r.count = S2 at *
  have hz := num_size r.pos (by omega) (by omega)
  have hn1 : ¬ (9223372036854775807 < S2.size + 4) := by omega
  have hn2 : ¬ (9223372036854775807 < S2.size + 4 + (num r.pos).size) := by omega
  go_wp2_with fail
  refine (numC r.pos _ (by omega) (by omega)).mono ?_
  rintro e w3 ⟨rfl, hb2⟩
  replace B0 := Lib.hid (B0.out.kept hb2)
  replace hb := hb.trans (hb2.mono hb.size)
  clear hb2 q0 q1 q2 q3
  go_upto_region 5 with fail
  rw [HFS.out]
  have hF := HFZ.out
  have HL := Lib.hid (show line r = front r ++ tailT r.words n3 by unfold line; rw [HN3.out])
  have HT0 := Lib.hid (tail_zero (front r) r.words).symm
  generalize front r = F at *
  clear hn1 hn2 hz hS2 HFS
  go_wp2_with fail
  go_loopw [3, 4] (fun s3 s4 wr => ∃ (k : Nat) (S : ByteArray), k ≤ n3 ∧ s4 = .int .i64 k ∧ s3 = .string S ∧ Hid (S = F ++ tailT r.words k) ∧ Below w3.heap.size w3 wr) (fun _ s4 _ => n3 - (intOf s4).toNat)
  case atStart => exact ⟨0, F, Nat.zero_le _, rfl, rfl, HT0, Below.refl _ _⟩
  case round =>
    obtain ⟨k, S, hk, rfl, rfl, HS, hbr⟩ := hrel
    have B1 := B0.out.kept hbr
    have q3 := B1.cell 3
    simp only [List.getElem?_toArray, List.getElem?_cons_zero, List.getElem?_cons_succ] at q3
    have hSz : S.size ≤ 60 + (1 + 11 * k) := by
      have := tail_size r.words HWS.out k (by have := HN3.out; omega)
      rw [HS.out, ByteArray.size_append]; omega
    by_cases hlt : k < n3
    · have hx : k < r.words.length := by have := HN3.out; omega
      obtain ⟨b, o, rfl, hbl, hcell⟩ := HC3.out k r.words[k] (List.getElem?_eq_getElem hx)
      have x0 := LString.cells (hcell.below LString.rec (hb.trans (hbr.mono hb.size)) hbl)
      simp only [LString.rec_n, Nat.mul_one] at x0
      have hxs := HWS.out r.words[k] (List.getElem_mem hx)
      clear hcell
      have k0 : 0 ≤ (k : Int) := by omega
      have k1 : (k : Int) < (n3 : Int) := by omega
      by_cases hz : k = 0
      · have HNX := Lib.hid (show S ++ ⟨#[58]⟩ ++ ⟨#[32]⟩ ++ r.words[k] = F ++ tailT r.words (k + 1) by
          rw [HS.out]
          subst hz
          exact tail_one F r.words hx)
        have e1 : ((k : Int) == 0) = true := by simp [hz]
        have HZK := Lib.hid hz
        clear hz
        generalize r.words[k] = X at *
        have hn1 : ¬ (9223372036854775807 < S.size + 1) := by omega
        have hn2 : ¬ (9223372036854775807 < S.size + 1 + 1) := by omega
        have hn3 : ¬ (9223372036854775807 < S.size + 1 + 1 + X.size) := by omega
        go_wp2_with fail
        go_roundw
        case rel => exact ⟨k + 1, _, by omega, by go_num, rfl, HNX, hbr⟩
        case measure => simp [intOf]; omega
      · have HNX := Lib.hid (show S ++ ⟨#[32]⟩ ++ r.words[k] = F ++ tailT r.words (k + 1) by rw [HS.out]; exact tail_next F r.words k (by omega) hx)
        have e1 : ((k : Int) == 0) = false := by simp [hz]
        generalize r.words[k] = X at *
        have hn1 : ¬ (9223372036854775807 < S.size + 1) := by omega
        have hn2 : ¬ (9223372036854775807 < S.size + 1 + X.size) := by omega
        go_wp2_with fail
        go_roundw
        case rel => exact ⟨k + 1, _, by omega, by go_num, rfl, HNX, hbr⟩
        case measure => simp [intOf]; omega
    · obtain rfl : k = n3 := by omega
      go_wp2_with fail
      go_ret
      exact ⟨ret_str (HS.out.trans HL.out.symm), hb.trans (hbr.mono hb.size)⟩
theorem amendWord (k : Int) (w : World) : Calls Tryd.prog 19 #[.int .i64 k] w fun e w' => e = .returned (.string (verb k)) ∧ w = w' := by
  by_cases h1 : k = 1
  · subst h1
    go_enter Tryd.func19, Tryd.ntmps19
    go_wp2_with fail
    go_ret
    exact ⟨rfl, rfl⟩
  have e1 : (k == 1) = false := by simp [h1]
  by_cases h2 : k = 2
  · subst h2
    go_enter Tryd.func19, Tryd.ntmps19
    go_wp2_with fail
    go_ret
    exact ⟨rfl, rfl⟩
  have e2 : (k == 2) = false := by simp [h2]
  by_cases h3 : k = 3
  · subst h3
    go_enter Tryd.func19, Tryd.ntmps19
    go_wp2_with fail
    go_ret
    exact ⟨rfl, rfl⟩
  have e3 : (k == 3) = false := by simp [h3]
  have HV := Lib.hid (show verb k = ⟨#[]⟩ by unfold verb; rw [if_neg h1, if_neg h2, if_neg h3])
  clear h1 h2 h3
  go_enter Tryd.func19, Tryd.ntmps19
  go_wp2_with fail
  go_ret
  exact ⟨ret_str HV.out.symm, rfl⟩
def Post (z0 : M) (w : World) (e : Ending) (w' : World) : Prop := ∃ r0 r1, e = .returned (.tuple #[.string r0, .bool r1]) ∧ Ans z0 r0 r1 ∧ Below w.heap.size w w'
set_option maxRecDepth 100000 in
set_option maxHeartbeats 1600000 in
theorem lineI (v0 : Value) (r : M) (w : World) (h0 : LAmendment.IsQ w v0 r) (f0 : LAmendment.Fine r) :
    Calls Tryd.prog 8 #[v0] w (Post r w) := by
  obtain ⟨s3, rfl, hq⟩ := h0
  obtain ⟨a3, n3, c3, rfl⟩ := isq_slice hq
  obtain ⟨hn3, hb3, hm3⟩ := isq_len hq
  unfold maxLen at hm3
  have HN3 := Lib.hid hn3
  have HQ := Lib.hid hq
  clear hn3 hq
  obtain ⟨W, hW⟩ : ∃ W : World, W = w.alloc (Obj.cells #[.int .i64 r.kind, .int .i64 r.pos, .int .i64 r.count, .slice a3 n3 c3] 28) := ⟨_, rfl⟩
  have hb : Below w.heap.size w W := by rw [hW]; exact (Below.refl _ _).alloc (Nat.le_refl _) _
  have B0 := Lib.hid (show Bx W w.heap.size 28 #[.int .i64 r.kind, .int .i64 r.pos, .int .i64 r.count, .slice a3 n3 c3] by rw [hW]; exact Bx.new _ _ _)
  have q0 := B0.out.cell 0
  have q1 := B0.out.cell 1
  have q2 := B0.out.cell 2
  have q3 := B0.out.cell 3
  simp only [List.getElem?_toArray, List.getElem?_cons_zero, List.getElem?_cons_succ] at q0 q1 q2 q3
  have HC := Lib.hid (isValid _ r W (LAmendment.IsQ.is (show LAmendment.IsQ W (.agg #[.int .i64 r.kind, .int .i64 r.pos, .int .i64 r.count, .slice a3 n3 c3]) r from ⟨_, rfl, IsQ.below HQ.out hb⟩)) f0)
  cases gg : good r with
  | false =>
    have HA := Lib.hid (no gg)
    rw [gg] at HC
    clear gg
    go_enter Tryd.func8, Tryd.ntmps8
    go_wp2_with fail
    rw [← hW]
    clear hW
    refine HC.out.mono ?_
    rintro e w1 ⟨rfl, hb1⟩
    have hb2 := hb.trans (hb1.mono hb.size)
    go_wp2_with fail
    go_ret2
    exact ⟨_, _, rfl, HA.out, hb2⟩
  | true =>
  have HA := Lib.hid (yes gg)
  rw [gg] at HC
  obtain ⟨⟨p1, p2⟩, hw5, hk5, c1, c2⟩ := good_parts gg
  have hw := words_len hw5
  rw [HN3.out] at hw
  have HWS := Lib.hid (words_size hw5)
  have hF := front_size gg
  clear hw5 hk5 gg
  go_enter Tryd.func8, Tryd.ntmps8
  go_wp2_with fail
  rw [← hW]
  clear hW
  refine HC.out.mono ?_
  rintro e w1 ⟨rfl, hb1⟩
  replace B0 := Lib.hid (B0.out.kept hb1)
  replace hb := hb.trans (hb1.mono hb.size)
  clear hb1 q0 q1 q2 q3
  have q0 := B0.out.cell 0
  have q1 := B0.out.cell 1
  have q2 := B0.out.cell 2
  have q3 := B0.out.cell 3
  simp only [List.getElem?_toArray, List.getElem?_cons_zero, List.getElem?_cons_succ] at q0 q1 q2 q3
  have hV := verb_size r.kind
  have hCT := cnt_size r.count c2
  go_wp2_with fail
  refine (amendWord r.kind _).mono ?_
  rintro e _ ⟨rfl, rfl⟩
  go_upto_if 13 with fail
  go_cut [4] (fun s4 wx => s4 = .string (verb r.kind ++ cntT r.count) ∧ Below w1.heap.size w1 wx)
  case first =>
    by_cases c0 : 0 < r.count
    · have HE := Lib.hid (show cntT r.count = ⟨#[32]⟩ ++ num r.count by unfold cntT; rw [if_pos c0]; rfl)
      have hz := num_size r.count (by omega) (by omega)
      generalize verb r.kind = S at *
      go_wp2_with fail
      refine (itoaC r.count _ (by omega) (by omega)).mono ?_
      rintro e w2 ⟨rfl, hb2⟩
      have hn1 : ¬ (9223372036854775807 < 1 + (num r.count).size) := by omega
      have hn2 : ¬ (9223372036854775807 < S.size + (1 + (num r.count).size)) := by omega
      go_wp2_with fail
      go_meet
      exact ⟨by rw [HE.out], hb2⟩
    · have HE := Lib.hid (show cntT r.count = ⟨#[]⟩ by unfold cntT; rw [if_neg c0])
      go_wp2_with fail
      go_meet
      exact ⟨by rw [HE.out, app_nil], Below.refl _ _⟩
  case rest =>
  obtain ⟨rfl, hb1⟩ := hcut
  obtain ⟨w2, hwc⟩ : ∃ x, x = wc := ⟨_, rfl⟩
  subst hwc
  replace B0 := Lib.hid (B0.out.kept hb1)
  replace hb := hb.trans (hb1.mono hb.size)
  clear hb1 q0 q1 q2 q3
  have q0 := B0.out.cell 0
  have q1 := B0.out.cell 1
  have q2 := B0.out.cell 2
  have q3 := B0.out.cell 3
  simp only [List.getElem?_toArray, List.getElem?_cons_zero, List.getElem?_cons_succ] at q0 q1 q2 q3
  have HFE := Lib.hid (show verb r.kind ++ cntT r.count ++ (⟨#[32, 97, 116, 32]⟩ ++ num r.pos) = front r from rfl)
  have hS2 : (verb r.kind ++ cntT r.count).size ≤ 29 := by rw [ByteArray.size_append]; omega
  generalize verb r.kind ++ cntT r.count = S2 at *
  have hz := num_size r.pos (by omega) (by omega)
  have hn1 : ¬ (9223372036854775807 < 4 + (num r.pos).size) := by omega
  have hn2 : ¬ (9223372036854775807 < S2.size + (4 + (num r.pos).size)) := by omega
  go_wp2_with fail
  refine (itoaC r.pos _ (by omega) (by omega)).mono ?_
  rintro e w3 ⟨rfl, hb2⟩
  replace B0 := Lib.hid (B0.out.kept hb2)
  replace hb := hb.trans (hb2.mono hb.size)
  clear hb2 q0 q1 q2 q3
  have q0 := B0.out.cell 0
  have q1 := B0.out.cell 1
  have q2 := B0.out.cell 2
  have q3 := B0.out.cell 3
  simp only [List.getElem?_toArray, List.getElem?_cons_zero, List.getElem?_cons_succ] at q0 q1 q2 q3
  go_upto_region 7 with fail
  rw [HFE.out]
  have HL := Lib.hid (show line r = front r ++ tailT r.words r.words.length from rfl)
  generalize front r = F at *
  clear hn1 hn2 hz hS2 HFE
  by_cases hnz : n3 = 0
  · have HL2 := Lib.hid (show line r = F by rw [HL.out, tail_none _ (by rw [HN3.out]; exact hnz), app_nil])
    rw [HL2.out] at HA
    subst hnz
    go_wp2_with fail
    go_ret2
    exact ⟨_, _, rfl, HA.out, hb⟩
  · have HL2 := Lib.hid (show line r = F ++ (⟨#[58, 32]⟩ ++ jn r.words) by rw [HL.out, tail_all _ (by rw [HN3.out]; exact hnz)])
    have hpos : 0 < n3 := by omega
    have hjz : (jn r.words).size ≤ 56 := by
      have h1 := tail_size r.words HWS.out r.words.length (Nat.le_refl _)
      rw [tail_all _ (by rw [HN3.out]; exact hnz), ByteArray.size_append, show (⟨#[58, 32]⟩ : ByteArray).size = 2 from rfl, HN3.out] at h1
      omega
    obtain ⟨b, o, rfl, hbl, hIS⟩ := isq_some HQ.out hpos
    have HJC := Lib.hid (fun (w4 : World) (hB : Below w.heap.size w w4) => Tryd.strings_Join b o c3 r.words ⟨#[32]⟩ w4 (fun j x hx => by
      have h1 := LString.cells ((isS_at hIS hx).2.below LString.rec hB hbl)
      simpa [LString.rec_n] using h1) (Nat.lt_of_lt_of_le hbl hB.size) (by rw [HN3.out]; omega) (by rw [HN3.out]; exact hb3) (by
        have : (jn r.words).size = (Lib.join (r.words.map (·.data.toList)) [32]).length := by show (Lib.join (L r.words) [32]).toArray.size = _; simp [L]
        show (Lib.join (r.words.map (·.data.toList)) [32]).length ≤ _
        omega))
    rw [HN3.out] at HJC
    rw [HL2.out] at HA
    clear hIS HL HL2
    go_wp2_with fail
    refine (HJC.out _ hb).mono ?_
    rintro e w4 ⟨rfl, hb4⟩
    have hb5 := hb.trans (hb4.mono hb.size)
    rw [show (⟨(Lib.join (r.words.map (·.data.toList)) (⟨#[32]⟩ : ByteArray).data.toList).toArray⟩ : ByteArray) = jn r.words from rfl]
    generalize jn r.words = JJ at *
    have hn1 : ¬ (9223372036854775807 < 2 + JJ.size) := by omega
    have hn2 : ¬ (9223372036854775807 < F.size + (2 + JJ.size)) := by omega
    go_wp2_with fail
    go_ret2
    exact ⟨_, _, rfl, HA.out, hb5⟩
set_option maxRecDepth 100000 in
set_option maxHeartbeats 1600000 in
theorem specL (v0 : Value) (r : M) (w : World) (h0 : LAmendment.Is w v0 r) (f0 : LAmendment.Fine r) :
    Calls Tryd.prog 6 #[v0] w (Post r w) := by
  have HIA := Lib.hid h0
  obtain ⟨a3, n3, c3, rfl, HN3, hb3, hm3, HIW0⟩ := open_is h0
  clear h0
  obtain ⟨W, hW⟩ : ∃ W : World, W = w.alloc (Obj.cells #[.int .i64 r.kind, .int .i64 r.pos, .int .i64 r.count, .slice a3 n3 c3] 28) := ⟨_, rfl⟩
  have hb : Below w.heap.size w W := by rw [hW]; exact (Below.refl _ _).alloc (Nat.le_refl _) _
  have B0 := Lib.hid (show Bx W w.heap.size 28 #[.int .i64 r.kind, .int .i64 r.pos, .int .i64 r.count, .slice a3 n3 c3] by rw [hW]; exact Bx.new _ _ _)
  have q0 := B0.out.cell 0
  have q1 := B0.out.cell 1
  have q2 := B0.out.cell 2
  have q3 := B0.out.cell 3
  simp only [List.getElem?_toArray, List.getElem?_cons_zero, List.getElem?_cons_succ] at q0 q1 q2 q3
  have HC := Lib.hid (l9Good _ r W (LAmendment.Is.below HIA.out hb) f0)
  cases gg : good r with
  | false =>
    have HA := Lib.hid (no gg)
    rw [gg] at HC
    clear gg
    go_enter Tryd.func6, Tryd.ntmps6
    go_wp2_with fail
    rw [← hW]
    clear hW
    refine HC.out.mono ?_
    rintro e w1 ⟨rfl, hb1⟩
    have hb2 := hb.trans (hb1.mono hb.size)
    go_wp2_with fail
    go_ret2
    exact ⟨_, _, rfl, HA.out, hb2⟩
  | true =>
  have HA := Lib.hid (yes gg)
  rw [gg] at HC
  have HLN := Lib.hid (fun (w2 : World) (hB : Below w.heap.size w w2) => l9Line _ r w2 (LAmendment.Is.below HIA.out hB) gg)
  clear gg
  go_enter Tryd.func6, Tryd.ntmps6
  go_wp2_with fail
  rw [← hW]
  clear hW
  refine HC.out.mono ?_
  rintro e w1 ⟨rfl, hb1⟩
  replace B0 := Lib.hid (B0.out.kept hb1)
  replace hb := hb.trans (hb1.mono hb.size)
  clear hb1 q0 q1 q2 q3
  have q0 := B0.out.cell 0
  have q1 := B0.out.cell 1
  have q2 := B0.out.cell 2
  have q3 := B0.out.cell 3
  simp only [List.getElem?_toArray, List.getElem?_cons_zero, List.getElem?_cons_succ] at q0 q1 q2 q3
  go_wp2_with fail
  refine (HLN.out _ hb).mono ?_
  rintro e w2 ⟨rfl, hb1⟩
  go_wp2_with fail
  go_ret2
  exact ⟨_, _, rfl, HA.out, hb.trans (hb1.mono hb.size)⟩
end Go.Proofs.YtfkppgnffhbfjaaDoor.AmX
