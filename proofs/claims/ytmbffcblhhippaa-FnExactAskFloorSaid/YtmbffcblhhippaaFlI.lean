/- Floors: the program's tests of shares, of the one who speaks, of those that wait. No condition. -/
import Derived.Test.YtmbffcblhhippaaFlB
import Derived.Deep.DrawnRows
namespace Go.Proofs.Ytmbffcblhhippaa.FlI
open Go.RowKit Bs Word Sq IntF Fl FlA FlG FlB
set_option linter.unusedVariables false
theorem notin {x a b : Int} (h : x < a ∨ b < x) : inB x a b = false := inB_not (by omega)
theorem isin {x a b : Int} (h1 : ¬ x < a) (h2 : ¬ b < x) : inB x a b = true := inB_mk (by omega) (by omega)
/-- the number ahead of place k -/
def Bef (r : F) (k : Nat) (B : Int) : Prop := (k = 0 → B = 0) ∧ ∀ p, 0 < k → r.shares[k - 1]? = some p → B = p.member
theorem bef_zero (r : F) : Bef r 0 0 := ⟨fun _ => rfl, fun p h => by omega⟩
theorem bef_next {r : F} {k : Nat} {X : S} (hx : r.shares[k]? = some X) : Bef r (k + 1) X.member := ⟨fun h => by omega, fun p _ hp => by rw [Nat.add_sub_cancel, hx] at hp; rw [Option.some.inj hp]⟩
theorem bad_bef {r : F} {k : Nat} {X : S} {B : Int} (hx : r.shares[k]? = some X) (hB : Bef r k B) (h : X.member ≤ B) : shB r = false := sh_no fun g => by
  have h1 := g k X hx
  rcases Nat.eq_zero_or_pos k with rfl | h0
  · have := hB.1 rfl
    have h2 := h1.1
    unfold okS at h2
    rw [Bool.and_eq_true] at h2
    have := inB_yes h2.1
    omega
  · have hk : k - 1 < r.shares.length := by have := (List.getElem?_eq_some_iff.1 hx).1; omega
    have hp := List.getElem?_eq_getElem hk
    have := hB.2 _ h0 hp
    have h3 : r.shares[k - 1].member < X.member := h1.2 _ h0 hp
    omega
theorem bad_ok {r : F} {k : Nat} {X : S} (hx : r.shares[k]? = some X) (h : inB X.member 1 99 = false ∨ inB X.turns 0 r.turns = false ∨ inB X.seconds 0 r.seconds = false) : shB r = false := sh_no fun g => by
  have h2 := (g k X hx).1
  unfold okS at h2
  rw [Bool.and_eq_true, Bool.and_eq_true] at h2
  rcases h with h | h | h
  · rw [h] at h2; cases h2.1
  · rw [h] at h2; cases h2.2.1
  · rw [h] at h2; cases h2.2.2
theorem ok_step {r : F} {k : Nat} {X : S} {B : Int} (hx : r.shares[k]? = some X) (hB : Bef r k B) (h0 : ¬ X.member ≤ B) (h1 : inB X.member 1 99 = true) (h2 : inB X.turns 0 r.turns = true) (h3 : inB X.seconds 0 r.seconds = true) : ShOk r k := fun Y hy => by
  rw [hx] at hy
  rw [← Option.some.inj hy]
  refine ⟨by unfold okS; rw [h1, h2, h3]; rfl, fun p hk hp => ?_⟩
  have := hB.2 p hk hp
  omega
set_option maxRecDepth 100000 in
set_option maxHeartbeats 1600000 in
theorem areShares (v0 : Value) (r : F) (w : World) (h0 : LFloor.Is w v0 r) :
    Calls Try.prog 62 #[v0] w fun e w' => e = .returned (.bool (shB r)) ∧ Below w.heap.size w w' := by
  obtain ⟨a3, n3, c3, a4, n4, c4, rfl, HN3, HN4, hb3, hb4, hm3, hm4, hc3, hc4, HI⟩ := open_is h0
  clear h0
  obtain ⟨W, hW⟩ : ∃ W : World, W = w.alloc (Obj.cells #[.int .i64 r.turns, .int .i64 r.seconds, .int .i64 r.speaking, .slice a3 n3 c3, .slice a4 n4 c4] 29) := ⟨_, rfl⟩
  have hb : Below w.heap.size w W := by rw [hW]; exact (Below.refl _ _).alloc (Nat.le_refl _) _
  have B0 := Lib.hid (show Bx W w.heap.size 29 #[.int .i64 r.turns, .int .i64 r.seconds, .int .i64 r.speaking, .slice a3 n3 c3, .slice a4 n4 c4] by rw [hW]; exact Bx.new _ _ _)
  have HIW := Lib.hid (LFloor.Is.below HI.out hb)
  have q0 := B0.out.cell 0
  have q1 := B0.out.cell 1
  have q2 := B0.out.cell 2
  have q3 := B0.out.cell 3
  have q4 := B0.out.cell 4
  simp only [List.getElem?_toArray, List.getElem?_cons_zero, List.getElem?_cons_succ] at q0 q1 q2 q3 q4
  go_enter Try.func62, Try.ntmps62
  go_wp2_with fail
  rw [← hW]
  clear hW q0 q1 q2 q3 q4
  go_loopw [3, 9] (fun s3 i wr => ∃ (k : Nat) (B : Int), k ≤ n4 ∧ i = .int .i64 k ∧ s3 = .int .i64 B ∧ Below W.heap.size W wr ∧ Hid (Bef r k B) ∧ Hid (∀ i, i < k → ShOk r i)) (fun _ i _ => n4 - (intOf i).toNat)
  case atStart => exact ⟨0, 0, Nat.zero_le _, rfl, rfl, Below.refl _ _, Lib.hid (bef_zero r), Lib.hid (fun i hi => by omega)⟩
  case round =>
    obtain ⟨k, B, hk, rfl, rfl, hbr, HB, HS⟩ := hrel
    have B1 := B0.out.kept hbr
    have q0 := B1.cell 0
    have q1 := B1.cell 1
    simp only [List.getElem?_toArray, List.getElem?_cons_zero, List.getElem?_cons_succ] at q0 q1
    by_cases hlt : k < n4
    · have hx : k < r.shares.length := by have := HN4.out; omega
      obtain ⟨b, o, rfl, hbl, hcell0⟩ := hc4.out k r.shares[k] (List.getElem?_eq_getElem hx)
      obtain ⟨y0, y1, y2⟩ := LShare.cells (hcell0.below LShare.rec (hb.trans (hbr.mono hb.size)) hbl)
      simp only [LShare.rec_n] at y0 y1 y2
      have HX := Lib.hid (List.getElem?_eq_getElem hx)
      clear hcell0
      generalize r.shares[k] = X at *
      obtain ⟨wa, hwa⟩ : ∃ wa : World, wa = wr.alloc (Obj.cells #[.int .i64 X.member, .int .i64 X.turns, .int .i64 X.seconds] 60) := ⟨_, rfl⟩
      have hba : Below wr.heap.size wr wa := by rw [hwa]; exact (Below.refl _ _).alloc (Nat.le_refl _) _
      have BX := Lib.hid (show Bx wa wr.heap.size 60 #[.int .i64 X.member, .int .i64 X.turns, .int .i64 X.seconds] by rw [hwa]; exact Bx.new _ _ _)
      go_upto_region 5 with fail
      rw [← hwa]
      clear hwa q0 q1 y0 y1 y2
      replace B1 := B1.kept hba
      have q0 := B1.cell 0
      have q1 := B1.cell 1
      simp only [List.getElem?_toArray, List.getElem?_cons_zero, List.getElem?_cons_succ] at q0 q1
      have x0 := BX.out.cell 0
      have x1 := BX.out.cell 1
      have x2 := BX.out.cell 2
      simp only [List.getElem?_toArray, List.getElem?_cons_zero, List.getElem?_cons_succ] at x0 x1 x2
      have hb2 := hbr.trans (hba.mono hbr.size)
      have hbT := hb.trans (hb2.mono hb.size)
      clear B1
      by_cases c1 : X.member ≤ B
      · have HG := Lib.hid (bad_bef HX.out HB.out c1)
        go_wp2_with fail
        go_ret
        exact ⟨ret_bool HG.out.symm, hbT⟩
      have HC1 := Lib.hid c1
      cases c2 : inB X.member 1 99 with
      | false =>
        have HG := Lib.hid (bad_ok HX.out (.inl c2))
        have HM := Lib.hid (fun W => Mbr.member X.member false c2 W)
        clear c2
        go_wp2_with fail
        refine (HM.out _).mono ?_
        rintro e _ ⟨rfl, rfl⟩
        go_wp2_with fail
        go_ret
        exact ⟨ret_bool HG.out.symm, hbT⟩
      | true =>
      have HM := Lib.hid (fun W => Mbr.member X.member true c2 W)
      have HC2 := Lib.hid c2
      clear c2
      go_wp2_with fail
      refine (HM.out _).mono ?_
      rintro e _ ⟨rfl, rfl⟩
      clear HM
      by_cases c3 : X.turns < 0
      · have HG := Lib.hid (bad_ok HX.out (.inr (.inl (notin (.inl c3)))))
        go_wp2_with fail
        go_ret
        exact ⟨ret_bool HG.out.symm, hbT⟩
      by_cases c4 : r.turns < X.turns
      · have HG := Lib.hid (bad_ok HX.out (.inr (.inl (notin (.inr c4)))))
        go_wp2_with fail
        go_ret
        exact ⟨ret_bool HG.out.symm, hbT⟩
      by_cases c5 : X.seconds < 0
      · have HG := Lib.hid (bad_ok HX.out (.inr (.inr (notin (.inl c5)))))
        go_wp2_with fail
        go_ret
        exact ⟨ret_bool HG.out.symm, hbT⟩
      by_cases c6 : r.seconds < X.seconds
      · have HG := Lib.hid (bad_ok HX.out (.inr (.inr (notin (.inr c6)))))
        go_wp2_with fail
        go_ret
        exact ⟨ret_bool HG.out.symm, hbT⟩
      have HG := Lib.hid (ok_step HX.out HB.out (by have := HC1.out; omega) HC2.out (isin (by omega) (by omega)) (isin (by omega) (by omega)))
      have HN := Lib.hid (sh_next HS.out HG.out)
      have HBN := Lib.hid (bef_next HX.out)
      go_wp2_with fail
      go_roundw
      case rel => exact ⟨k + 1, X.member, by omega, by go_num, rfl, hb2, HBN, HN⟩
      case measure => simp [intOf]; omega
    · have HG := Lib.hid (sh_all (by have := HN4.out; omega) HS.out)
      go_wp2_with fail
      go_ret
      exact ⟨ret_bool HG.out.symm, hb.trans (hbr.mono hb.size)⟩
set_option maxRecDepth 100000 in
set_option maxHeartbeats 1600000 in
attribute [local go_sem ↓] Go.wp_at_zero Go.wp_at_succ in
theorem maySpeak (v0 : Value) (r : F) (w : World) (h0 : LFloor.Is w v0 r) (hs : ShP r) :
    Calls Try.prog 63 #[v0] w fun e w' => e = .returned (.bool (spk r)) ∧ Below w.heap.size w w' := by
  obtain ⟨a3, n3, c3, a4, n4, c4, rfl, HN3, HN4, hb3, hb4, hm3, hm4, hc3, hc4, HI⟩ := open_is h0
  clear h0
  obtain ⟨W, hW⟩ : ∃ W : World, W = w.alloc (Obj.cells #[.int .i64 r.turns, .int .i64 r.seconds, .int .i64 r.speaking, .slice a3 n3 c3, .slice a4 n4 c4] 29) := ⟨_, rfl⟩
  have hb : Below w.heap.size w W := by rw [hW]; exact (Below.refl _ _).alloc (Nat.le_refl _) _
  have B0 := Lib.hid (show Bx W w.heap.size 29 #[.int .i64 r.turns, .int .i64 r.seconds, .int .i64 r.speaking, .slice a3 n3 c3, .slice a4 n4 c4] by rw [hW]; exact Bx.new _ _ _)
  have HIW := Lib.hid (LFloor.Is.below HI.out hb)
  have q0 := B0.out.cell 0
  have q1 := B0.out.cell 1
  have q2 := B0.out.cell 2
  have q3 := B0.out.cell 3
  have q4 := B0.out.cell 4
  simp only [List.getElem?_toArray, List.getElem?_cons_zero, List.getElem?_cons_succ] at q0 q1 q2 q3 q4
  have HBC := Lib.hid (show ∀ W2 : World, Below W.heap.size W W2 → W2.cell? ⟨w.heap.size, 0, none⟩ = some (.int .i64 r.turns) from fun W2 hB => by rw [(B0.out.kept hB).cell]; rfl)
  have HSH := Lib.hid (show ∀ W2 : World, Below W.heap.size W W2 → _ from fun W2 hB => shareOf _ r r.speaking W2 (LFloor.Is.below HI.out (hb.trans (hB.mono hb.size))) hs)
  clear hs
  cases g1 : (r.speaking == 0) with
  | true =>
    have HGy := Lib.hid (spk1 g1)
    go_enter Try.func63, Try.ntmps63
    go_upto_region 1 with fail
    rw [← hW]
    clear hW
    go_quiet (fail)
    go_wp2_with fail
    go_ret
    exact ⟨ret_bool HGy.out.symm, hb.trans ((drawn_below _ _).mono hb.size)⟩
  | false =>
  cases g2 : inB r.speaking 1 99 with
  | false =>
    have HGy := Lib.hid (spk2 g1 g2)
    have HLF := Lib.hid (fun W => Mbr.member r.speaking false g2 W)
    clear g2
    go_enter Try.func63, Try.ntmps63
    go_upto_region 1 with fail
    rw [← hW]
    clear hW
    go_quiet ((go_at_call 73; exact quiet_eq (HLF.out _)))
    go_wp2_with fail
    go_ret
    exact ⟨ret_bool HGy.out.symm, hb.trans ((drawn_below _ _).mono hb.size)⟩
  | true =>
    have HGy := Lib.hid (spk3 g1 g2)
    have HLT := Lib.hid (fun W => Mbr.member r.speaking true g2 W)
    clear g2
    generalize share r.shares r.speaking = X at *
    have hfd := fun W => field_turns X W
    go_enter Try.func63, Try.ntmps63
    go_upto_region 1 with fail
    rw [← hW]
    clear hW
    go_region_with (first | (go_at_call 73; refine (HLT.out _).mono ?_; rintro e wM ⟨rfl, rfl⟩) | (go_at_call 52; refine (HSH.out _ (by (repeat (first | assumption | exact Below.refl _ _ | refine Below.drew ?_ | refine Below.alloc ?_ (by first | (simp; done) | (simp; omega) | omega) _)))).mono ?_; rintro e wN ⟨rfl, hbn⟩; have hBn : Below W.heap.size W wN := Below.trans (by (repeat (first | assumption | exact Below.refl _ _ | refine Below.drew ?_ | refine Below.alloc ?_ (by first | (simp; done) | (simp; omega) | omega) _))) (hbn.mono (by first | exact Nat.le_refl _ | (simp; done) | (simp; omega))); have c0 := HBC.out _ hBn) | fail)
    all_goals
      go_wp2_with fail
      go_ret
      go_simp
      exact ⟨HGy.out.symm, hb.trans (hBn.mono hb.size)⟩
theorem waits1 {f : F} (h : ¬ f.waiting.length ≤ 10) : waits f = false := by unfold waits; rw [decide_eq_false h]; rfl
theorem waits2 {f : F} (h : wtB f = false) : waits f = false := by unfold waits; rw [h]; simp
theorem waits3 {f : F} (h : f.waiting.length ≤ 10) (h2 : wtB f = true) : waits f = true := by unfold waits; rw [decide_eq_true h, h2]; rfl
theorem went {f : F} {i : Nat} {x : Int} (h : (inB x 1 99 && ent f x) = false) : waitOk f i x = false := by
  unfold waitOk
  cases h1 : inB x 1 99 with
  | false => rfl
  | true => rw [h1, Bool.true_and] at h; rw [h]; simp
theorem went5 {f : F} {i : Nat} {x : Int} (h : (inB x 1 99 && ent f x) = true) (h2 : hasB (f.waiting.take i) x = false) (h3 : (x == f.speaking) = false) : waitOk f i x = true := by
  rw [Bool.and_eq_true] at h; exact wait5 h.1 h2 h3 h.2
set_option maxRecDepth 100000 in
set_option maxHeartbeats 1600000 in
theorem mayWait (v0 : Value) (r : F) (w : World) (h0 : LFloor.Is w v0 r) (hs : ShP r) :
    Calls Try.prog 40 #[v0] w fun e w' => e = .returned (.bool (waits r)) ∧ Below w.heap.size w w' := by
  obtain ⟨a3, n3, c3, a4, n4, c4, rfl, HN3, HN4, hb3, hb4, hm3, hm4, hc3, hc4, HI⟩ := open_is h0
  clear h0
  obtain ⟨W, hW⟩ : ∃ W : World, W = w.alloc (Obj.cells #[.int .i64 r.turns, .int .i64 r.seconds, .int .i64 r.speaking, .slice a3 n3 c3, .slice a4 n4 c4] 29) := ⟨_, rfl⟩
  have hb : Below w.heap.size w W := by rw [hW]; exact (Below.refl _ _).alloc (Nat.le_refl _) _
  have B0 := Lib.hid (show Bx W w.heap.size 29 #[.int .i64 r.turns, .int .i64 r.seconds, .int .i64 r.speaking, .slice a3 n3 c3, .slice a4 n4 c4] by rw [hW]; exact Bx.new _ _ _)
  have HIW := Lib.hid (LFloor.Is.below HI.out hb)
  have q0 := B0.out.cell 0
  have q1 := B0.out.cell 1
  have q2 := B0.out.cell 2
  have q3 := B0.out.cell 3
  have q4 := B0.out.cell 4
  simp only [List.getElem?_toArray, List.getElem?_cons_zero, List.getElem?_cons_succ] at q0 q1 q2 q3 q4
  have HS := Lib.hid hs
  clear hs
  by_cases h10 : n3 ≤ 10
  rotate_left
  · have HG := Lib.hid (waits1 (f := r) (by have := HN3.out; omega))
    go_enter Try.func40, Try.ntmps40
    go_wp2_with fail
    rw [← hW]
    go_ret
    exact ⟨ret_bool HG.out.symm, hb⟩
  have HG := Lib.hid (waits3 (f := r) (by have := HN3.out; omega))
  go_enter Try.func40, Try.ntmps40
  go_wp2_with fail
  rw [← hW]
  clear hW q0 q1 q2 q3 q4
  go_loopw [12] (fun i wr => ∃ k : Nat, k ≤ n3 ∧ i = .int .i64 k ∧ Below W.heap.size W wr ∧ Hid (∀ i, i < k → WtOk r i)) (fun i _ => n3 - (intOf i).toNat)
  case atStart => exact ⟨0, Nat.zero_le _, rfl, Below.refl _ _, Lib.hid (fun i hi => by omega)⟩
  case round =>
    obtain ⟨k, hk, rfl, hbr, HWT⟩ := hrel
    have B1 := Lib.hid (B0.out.kept hbr)
    have hb3' := hb.trans (hbr.mono hb.size)
    have q0 := B1.out.cell 0
    have q1 := B1.out.cell 1
    have q2 := B1.out.cell 2
    have q3 := B1.out.cell 3
    have q4 := B1.out.cell 4
    simp only [List.getElem?_toArray, List.getElem?_cons_zero, List.getElem?_cons_succ] at q0 q1 q2 q3 q4
    by_cases hlt : k < n3
    · have hx : k < r.waiting.length := by have := HN3.out; omega
      obtain ⟨b, o, rfl, hbl, hcell0⟩ := hc3.out k r.waiting[k] (List.getElem?_eq_getElem hx)
      have y0 := LInt.cells (hcell0.below LInt.rec hb3' hbl)
      simp only [LInt.rec_n, Nat.mul_one] at y0
      have HX := Lib.hid (List.getElem?_eq_getElem hx)
      have HIR := Lib.hid (LFloor.Is.below HI.out hb3')
      clear hcell0
      generalize r.waiting[k] = x at *
      have HE := Lib.hid (isEntitled _ r x wr HIR.out HS.out)
      cases g3 : (x == r.speaking) with
      | true =>
        have HGx := Lib.hid (waits2 (wt_bad HX.out (wait3 g3)))
        go_wp2_with fail
        go_ret
        exact ⟨ret_bool HGx.out.symm, hb3'⟩
      | false =>
      go_wp2_with fail
      refine HE.out.mono ?_
      rintro e w2 ⟨rfl, hbe⟩
      have hb4' := hbr.trans (hbe.mono hbr.size)
      have hbT := hb.trans (hb4'.mono hb.size)
      have B2 := Lib.hid (B1.out.kept hbe)
      clear q0 q1 q2 q3 q4 y0
      have q3 := B2.out.cell 3
      simp only [List.getElem?_toArray, List.getElem?_cons_zero, List.getElem?_cons_succ] at q3
      cases g4 : (inB x 1 99 && ent r x) with
      | false =>
        have HGx := Lib.hid (waits2 (wt_bad HX.out (went g4)))
        go_wp2_with fail
        go_ret
        exact ⟨ret_bool HGx.out.symm, hbT⟩
      | true =>
      have HT := Lib.hid (is_take LInt.rec (is_wait (LFloor.Is.below HI.out hbT)).1 (Nat.lt_of_lt_of_le hbl hbT.size) hk)
      have HH := Lib.hid (IntF.contains _ _ x w2 HT.out)
      have k0 : 0 ≤ (k : Int) := by omega
      have k1 : (k : Int) ≤ (c3 : Int) := by omega
      go_wp2_with fail
      refine HH.out.mono ?_
      rintro e w' ⟨rfl, rfl⟩
      cases g2 : hasB (r.waiting.take k) x with
      | true =>
        have HGx := Lib.hid (waits2 (wt_bad HX.out (wait2 g2)))
        go_wp2_with fail
        go_ret
        exact ⟨ret_bool HGx.out.symm, hbT⟩
      | false =>
      have HN := Lib.hid (wt_next HWT.out HX.out (went5 g4 g2 g3))
      clear g2 g3 g4
      go_wp2_with fail
      go_roundw
      case rel => exact ⟨k + 1, by omega, by go_num, hb4', HN⟩
      case measure => simp [intOf]; omega
    · have HGx := Lib.hid (HG.out (wt_all (by have := HN3.out; omega) HWT.out))
      go_wp2_with fail
      go_ret
      exact ⟨ret_bool HGx.out.symm, hb3'⟩
end Go.Proofs.Ytmbffcblhhippaa.FlI
