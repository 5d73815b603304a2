/- Floors: a share looked up by the program. No condition. -/
import Derived.Test.YtmbffcblhhippaaFlG
import Derived.Test.YtmbffcblhhippaaJ1
namespace Go.Proofs.Ytmbffcblhhippaa.FlB
open Go.RowKit Bs Word Sq IntF Fl FlA FlG CmpI
set_option linter.unusedVariables false
theorem closure (X : S) (m : Int) (w : World) : Calls Try.prog 76 #[.agg #[.int .i64 X.member, .int .i64 X.turns, .int .i64 X.seconds], .int .i64 m] w fun e w' => e = .returned (.int .i64 (cmpI X.member m)) ∧ Below w.heap.size w w' := by
  have hb := fun o => ((Below.refl w.heap.size w).alloc (Nat.le_refl _) o)
  have HC := Lib.hid (fun W => compare X.member m W)
  go_enter Try.func76, Try.ntmps76
  go_wp2_with fail
  refine (HC.out _).mono ?_
  rintro e _ ⟨rfl, rfl⟩
  go_wp2_with fail
  go_ret
  exact ⟨rfl, hb _⟩
def Sorted (z : List S) : Prop := ∀ (j : Nat) (X : S), z[j]? = some X → ∀ (i : Nat) (Y : S), i < j → z[i]? = some Y → Y.member < X.member
theorem lo_next {z : List S} {m : Int} {k : Nat} {X : S} (hs : Sorted z) (hx : z[k]? = some X) (hl : X.member < m) : ∀ t Y, t < k + 1 → z[t]? = some Y → Y.member < m := fun t Y ht hy => by
  rcases Nat.lt_or_ge t k with h' | h'
  · have := hs k X hx t Y h' hy; omega
  · obtain rfl : t = k := by omega
    rw [hx] at hy; rw [← Option.some.inj hy]; exact hl
theorem hi_next {z : List S} {m : Int} {k : Nat} {X : S} (hs : Sorted z) (hx : z[k]? = some X) (hl : ¬ X.member < m) : ∀ t Y, k ≤ t → z[t]? = some Y → m ≤ Y.member := fun t Y ht hy => by
  rcases Nat.lt_or_ge k t with h' | h'
  · have := hs t Y hy k X h' hx; omega
  · obtain rfl : t = k := by omega
    rw [hx] at hy; rw [← Option.some.inj hy]; omega
theorem pos_of {z : List S} {m : Int} {k : Nat} (h1 : ∀ t Y, t < k → z[t]? = some Y → Y.member < m) (h2 : ∀ t Y, k ≤ t → z[t]? = some Y → m ≤ Y.member) (hk : k ≤ z.length) : pos z m = k := by
  have hf : First (fun X => !decide (X.member < m)) z k := fun j X hj hx => by have := h1 j X hj hx; simpa using this
  rcases Nat.lt_or_ge k z.length with h' | h'
  · exact pos_hit hf (List.getElem?_eq_getElem h') (by have := h2 k _ (Nat.le_refl _) (List.getElem?_eq_getElem h'); omega)
  · exact pos_none hf (by omega)
set_option maxRecDepth 100000 in
set_option maxHeartbeats 1600000 in
theorem bsearch (v : Value) (z : List S) (m : Int) (w : World) (h0 : Is LShare.rec w v z) (hs : Sorted z) (hl : z.length ≤ 1048576) :
    Calls Try.prog 75 #[v, .int .i64 m, .func (.func 76) #[] #[]] w fun e w' => e = .returned (.tuple #[.int .i64 (pos z m : Nat), .bool (has z m)]) ∧ Below w.heap.size w w' := by
  obtain ⟨a, cp, rfl, h0⟩ := h0
  have hc := h0.at_ LShare.rec
  obtain ⟨n, hn⟩ : ∃ n, n = z.length := ⟨_, rfl⟩
  have hnb : n ≤ cp := by have := h0.1; omega
  have hn2 := h0.2.1
  unfold maxLen at hn2
  have HN := Lib.hid hn.symm
  rw [← hn]
  have hnle : n ≤ z.length := by omega
  clear hn h0
  have HSo := Lib.hid hs
  clear hs
  have hnl : n ≤ 1048576 := by have := HN.out; omega
  clear hl
  have HCL := Lib.hid (fun X W => closure X m W)
  go_enter Try.func75, Try.ntmps75
  go_wp2_with fail
  go_loopw [9, 10] (fun s9 s10 wr => ∃ lo hi : Nat, s9 = .int .i64 lo ∧ s10 = .int .i64 hi ∧ lo ≤ hi ∧ hi ≤ n ∧ Below w.heap.size w wr ∧ Hid (∀ t Y, t < lo → z[t]? = some Y → Y.member < m) ∧ Hid (∀ t Y, hi ≤ t → z[t]? = some Y → m ≤ Y.member)) (fun s9 s10 _ => (intOf s10).toNat - (intOf s9).toNat)
  case atStart => exact ⟨0, n, rfl, rfl, Nat.zero_le _, Nat.le_refl _, Below.refl _ _, Lib.hid (fun t Y ht => by omega), Lib.hid (fun t Y ht hy => by have := (List.getElem?_eq_some_iff.1 hy).1; have := HN.out; omega)⟩
  case round =>
    obtain ⟨lo, hi, rfl, rfl, hlh, hin, hb, HL, HH⟩ := hrel
    by_cases hlt : lo < hi
    · have hkn : (lo + hi) / 2 < n := by omega
      have hx : (lo + hi) / 2 < z.length := by omega
      obtain ⟨b, o, rfl, hbl, hcell0⟩ := hc.out ((lo + hi) / 2) z[(lo + hi) / 2] (List.getElem?_eq_getElem hx)
      obtain ⟨y0, y1, y2⟩ := LShare.cells (hcell0.below LShare.rec hb hbl)
      simp only [LShare.rec_n] at y0 y1 y2
      have HX := Lib.hid (List.getElem?_eq_getElem hx)
      clear hcell0
      generalize z[(lo + hi) / 2] = X at *
      have hlk : lo ≤ (lo + hi) / 2 := by omega
      have hkh : (lo + hi) / 2 < hi := by omega
      by_cases hl : X.member < m
      · have h2 := cmp_neg.2 hl
        have HL2 := Lib.hid (lo_next HSo.out HX.out hl)
        go_wp2_with (go_at_call 76; refine (HCL.out X _).mono ?_; rintro e w2 ⟨rfl, hb2⟩)
        go_roundw
        case rel => exact ⟨(lo + hi) / 2 + 1, hi, by go_num, rfl, by omega, hin, hb.trans (hb2.mono hb.size), HL2, HH⟩
        case measure => simp [intOf]; omega
      · have h2 : ¬ cmpI X.member m < 0 := fun h => hl (cmp_neg.1 h)
        have HH2 := Lib.hid (hi_next HSo.out HX.out hl)
        go_wp2_with (go_at_call 76; refine (HCL.out X _).mono ?_; rintro e w2 ⟨rfl, hb2⟩)
        go_roundw
        case rel => exact ⟨lo, (lo + hi) / 2, rfl, by go_num, by omega, by omega, hb.trans (hb2.mono hb.size), HL, HH2⟩
        case measure => simp [intOf]; omega
    · obtain rfl : hi = lo := by omega
      have HP := Lib.hid (pos_of HL.out HH.out (by omega))
      by_cases hn : hi < n
      · have hx : hi < z.length := by omega
        obtain ⟨b, o, rfl, hbl, hcell0⟩ := hc.out hi z[hi] (List.getElem?_eq_getElem hx)
        obtain ⟨y0, y1, y2⟩ := LShare.cells (hcell0.below LShare.rec hb hbl)
        simp only [LShare.rec_n] at y0 y1 y2
        have HX := Lib.hid (List.getElem?_eq_getElem hx)
        clear hcell0
        generalize z[hi] = X at *
        have HB := Lib.hid (show has z m = decide (cmpI X.member m = 0) by
          rw [has_some (by rw [HP.out]; exact HX.out), Bool.eq_iff_iff, beq_iff_eq, decide_eq_true_eq, cmp_zero])
        go_wp2_with (go_at_call 76; refine (HCL.out X _).mono ?_; rintro e w2 ⟨rfl, hb2⟩)
        go_ret2
        exact ⟨by rw [HP.out, HB.out]; rfl, hb.trans (hb2.mono hb.size)⟩
      · have HB := Lib.hid (show has z m = false from has_end (by rw [HP.out]; have := HN.out; omega))
        go_wp2_with fail
        go_ret2
        exact ⟨by rw [HP.out, HB.out]; rfl, hb⟩
theorem sh_up {f : F} (h : ShP f) : ∀ (i : Nat) (X : S), f.shares[i]? = some X → (i : Int) + 1 ≤ X.member ∧ X.member ≤ 99
  | 0, X, hx => by
    have h1 := (h 0 X hx).1
    unfold okS at h1
    rw [Bool.and_eq_true] at h1
    have := inB_yes h1.1
    omega
  | i + 1, X, hx => by
    have h1 := (h (i + 1) X hx).1
    unfold okS at h1
    rw [Bool.and_eq_true] at h1
    have h2 := inB_yes h1.1
    have hi : i < f.shares.length := by have := (List.getElem?_eq_some_iff.1 hx).1; omega
    have h3 := sh_up h i _ (List.getElem?_eq_getElem hi)
    have h4 := (h (i + 1) X hx).2 _ (by omega) (List.getElem?_eq_getElem hi)
    have h5 : f.shares[i].member < X.member := h4
    omega
theorem sh_len {f : F} (h : ShP f) : f.shares.length ≤ 99 := by
  rcases Nat.lt_or_ge 99 f.shares.length with h' | h'
  · have := sh_up h 99 _ (List.getElem?_eq_getElem h')
    omega
  · exact h'
theorem sorted_of {f : F} (h : ShP f) : Sorted f.shares := sh_less h
set_option maxRecDepth 100000 in
set_option maxHeartbeats 1600000 in
theorem findShare (v0 : Value) (r : F) (m : Int) (w : World) (h0 : LFloor.Is w v0 r) (hs : ShP r) :
    Calls Try.prog 68 #[v0, .int .i64 m] w fun e w' => e = .returned (.tuple #[.int .i64 (pos r.shares m : Nat), .bool (has r.shares m)]) ∧ Below w.heap.size w w' := by
  obtain ⟨a3, n3, c3, a4, n4, c4, rfl, HN3, HN4, hb3, hb4, hm3, hm4, hc3, hc4, HI⟩ := open_is h0
  clear h0
  obtain ⟨W, hW⟩ : ∃ W : World, W = w.alloc (Obj.cells #[.int .i64 r.turns, .int .i64 r.seconds, .int .i64 r.speaking, .slice a3 n3 c3, .slice a4 n4 c4] 29) := ⟨_, rfl⟩
  have hb : Below w.heap.size w W := by rw [hW]; exact (Below.refl _ _).alloc (Nat.le_refl _) _
  have B0 := Lib.hid (show Bx W w.heap.size 29 #[.int .i64 r.turns, .int .i64 r.seconds, .int .i64 r.speaking, .slice a3 n3 c3, .slice a4 n4 c4] by rw [hW]; exact Bx.new _ _ _)
  have HIW := Lib.hid (LFloor.Is.below HI.out hb)
  have HC := Lib.hid (bsearch _ r.shares m W (is_wait HIW.out).2 (sorted_of hs) (by have := sh_len hs; omega))
  clear hs
  go_enter Try.func68, Try.ntmps68
  go_wp2_with fail
  rw [← hW]
  clear hW
  refine HC.out.mono ?_
  rintro e w1 ⟨rfl, hb1⟩
  go_wp2_with fail
  go_ret2
  exact ⟨rfl, hb.trans (hb1.mono hb.size)⟩
set_option maxRecDepth 100000 in
set_option maxHeartbeats 1600000 in
theorem shareOf (v0 : Value) (r : F) (m : Int) (w : World) (h0 : LFloor.Is w v0 r) (hs : ShP r) :
    Calls Try.prog 52 #[v0, .int .i64 m] w fun e w' => e = .returned (.agg #[.int .i64 (share r.shares m).member, .int .i64 (share r.shares m).turns, .int .i64 (share r.shares m).seconds]) ∧ Below w.heap.size w w' := by
  obtain ⟨a3, n3, c3, a4, n4, c4, rfl, HN3, HN4, hb3, hb4, hm3, hm4, hc3, hc4, HI⟩ := open_is h0
  clear h0
  obtain ⟨W, hW⟩ : ∃ W : World, W = (w.alloc (Obj.cells #[.int .i64 r.turns, .int .i64 r.seconds, .int .i64 r.speaking, .slice a3 n3 c3, .slice a4 n4 c4] 29)).alloc (.cells #[.int .i64 0, .int .i64 0, .int .i64 0] 60) := ⟨_, rfl⟩
  have hb : Below w.heap.size w W := by rw [hW]; exact ((Below.refl _ _).alloc (Nat.le_refl _) _).alloc (by simp) _
  have B0 := Lib.hid (show Bx W w.heap.size 29 #[.int .i64 r.turns, .int .i64 r.seconds, .int .i64 r.speaking, .slice a3 n3 c3, .slice a4 n4 c4] by rw [hW]; exact (Bx.new _ _ _).alloc _)
  have BR := Lib.hid (show Bx W (w.heap.size + 1) 60 #[.int .i64 0, .int .i64 0, .int .i64 0] by rw [hW]; have := Bx.new (w.alloc (Obj.cells #[.int .i64 r.turns, .int .i64 r.seconds, .int .i64 r.speaking, .slice a3 n3 c3, .slice a4 n4 c4] 29)) 60 #[.int .i64 0, .int .i64 0, .int .i64 0]; simpa using this)
  have HC := Lib.hid (findShare _ r m W (LFloor.Is.below HI.out hb) hs)
  have HS := Lib.hid hs
  clear hs
  obtain ⟨X0, hX0⟩ : ∃ X, X = share r.shares m := ⟨_, rfl⟩
  rw [← hX0]
  have HX0 := Lib.hid hX0
  clear hX0
  go_enter Try.func52, Try.ntmps52
  go_wp2_with fail
  rw [← hW]
  clear hW
  refine HC.out.mono ?_
  rintro e w1 ⟨rfl, hb1⟩
  have hb2 := hb.trans (hb1.mono hb.size)
  replace B0 := Lib.hid (B0.out.kept hb1)
  replace BR := Lib.hid (BR.out.kept hb1)
  have q0 := B0.out.cell 0
  have q1 := B0.out.cell 1
  have q2 := B0.out.cell 2
  have q3 := B0.out.cell 3
  have q4 := B0.out.cell 4
  simp only [List.getElem?_toArray, List.getElem?_cons_zero, List.getElem?_cons_succ] at q0 q1 q2 q3 q4
  have z0 := BR.out.cell 0
  have z1 := BR.out.cell 1
  have z2 := BR.out.cell 2
  have f0 := BR.out.frozen 0
  have f1 := BR.out.frozen 1
  have f2 := BR.out.frozen 2
  simp only [List.getElem?_toArray, List.getElem?_cons_zero, List.getElem?_cons_succ] at z0 z1 z2
  clear hb1
  have HP := Lib.hid (pos_le r.shares m)
  obtain ⟨k, hk⟩ : ∃ k, k = pos r.shares m := ⟨_, rfl⟩
  cases hh : has r.shares m with
  | true =>
    obtain ⟨X, hX, hXm⟩ := has_get hh
    have HR := Lib.hid (share_has hX hXm)
    rw [← hk] at hX ⊢
    have hx := (List.getElem?_eq_some_iff.1 hX).1
    obtain ⟨b, o, rfl, hbl, hcell0⟩ := hc4.out k X hX
    obtain ⟨y0, y1, y2⟩ := LShare.cells (hcell0.below LShare.rec hb2 hbl)
    simp only [LShare.rec_n] at y0 y1 y2
    have hkn : k < n4 := by have := HN4.out; omega
    have hne : b ≠ w.heap.size + 1 := by omega
    clear hX hXm hh hk hcell0
    have hXX : X0 = X := HX0.out.trans HR.out
    cases hXX
    have c0 := (((BR.out.set_ 0 (.int .i64 X0.member)).set_ 1 (.int .i64 X0.turns)).set_ 2 (.int .i64 X0.seconds)).cell 0
    have c1 := (((BR.out.set_ 0 (.int .i64 X0.member)).set_ 1 (.int .i64 X0.turns)).set_ 2 (.int .i64 X0.seconds)).cell 1
    have c2 := (((BR.out.set_ 0 (.int .i64 X0.member)).set_ 1 (.int .i64 X0.turns)).set_ 2 (.int .i64 X0.seconds)).cell 2
    simp at c0 c1 c2
    go_wp2_with fail
    refine bodyPost_ret (v := .agg #[.int .i64 X0.member, .int .i64 X0.turns, .int .i64 X0.seconds]) (by simp [results, Try.results52, go_sem, c0, c1, c2]) rfl ?_
    refine ⟨rfl, Below.setCell (Below.setCell (Below.setCell hb2 (by show w.heap.size ≤ w.heap.size + 1; omega) _) (by show w.heap.size ≤ w.heap.size + 1; omega) _) (by show w.heap.size ≤ w.heap.size + 1; omega) _⟩
  | false =>
    have hXX : X0 = ⟨m, 0, 0⟩ := HX0.out.trans (share_not HS.out hh)
    clear HX0
    subst hXX
    clear hh hk
    have c0 := (((BR.out.set_ 0 (.int .i64 m)).set_ 1 (.int .i64 0)).set_ 2 (.int .i64 0)).cell 0
    have c1 := (((BR.out.set_ 0 (.int .i64 m)).set_ 1 (.int .i64 0)).set_ 2 (.int .i64 0)).cell 1
    have c2 := (((BR.out.set_ 0 (.int .i64 m)).set_ 1 (.int .i64 0)).set_ 2 (.int .i64 0)).cell 2
    simp at c0 c1 c2
    go_wp2_with fail
    refine bodyPost_ret (v := .agg #[.int .i64 m, .int .i64 0, .int .i64 0]) (by simp [results, Try.results52, go_sem, c0, c1, c2]) rfl ?_
    refine ⟨rfl, Below.setCell (Below.setCell (Below.setCell hb2 (by show w.heap.size ≤ w.heap.size + 1; omega) _) (by show w.heap.size ≤ w.heap.size + 1; omega) _) (by show w.heap.size ≤ w.heap.size + 1; omega) _⟩
set_option maxRecDepth 100000 in
set_option maxHeartbeats 1600000 in
theorem isEntitled (v0 : Value) (r : F) (m : Int) (w : World) (h0 : LFloor.Is w v0 r) (hs : ShP r) :
    Calls Try.prog 64 #[v0, .int .i64 m] w fun e w' => e = .returned (.bool (inB m 1 99 && ent r m)) ∧ Below w.heap.size w w' := by
  obtain ⟨a3, n3, c3, a4, n4, c4, rfl, HN3, HN4, hb3, hb4, hm3, hm4, hc3, hc4, HI⟩ := open_is h0
  clear h0
  obtain ⟨W, hW⟩ : ∃ W : World, W = w.alloc (Obj.cells #[.int .i64 r.turns, .int .i64 r.seconds, .int .i64 r.speaking, .slice a3 n3 c3, .slice a4 n4 c4] 29) := ⟨_, rfl⟩
  have hb : Below w.heap.size w W := by rw [hW]; exact (Below.refl _ _).alloc (Nat.le_refl _) _
  have B0 := Lib.hid (show Bx W w.heap.size 29 #[.int .i64 r.turns, .int .i64 r.seconds, .int .i64 r.speaking, .slice a3 n3 c3, .slice a4 n4 c4] by rw [hW]; exact Bx.new _ _ _)
  have HIW := Lib.hid (LFloor.Is.below HI.out hb)
  obtain ⟨X, hX⟩ : ∃ X, X = share r.shares m := ⟨_, rfl⟩
  have HC := shareOf _ r m W HIW.out hs
  rw [← hX] at HC
  have HC := Lib.hid HC
  have HE := Lib.hid (show ent r m = (decide (X.turns < r.turns) && decide (X.seconds < r.seconds)) by rw [hX]; rfl)
  clear hX hs
  go_enter Try.func64, Try.ntmps64
  go_wp2_with fail
  rw [← hW]
  clear hW
  refine HC.out.mono ?_
  rintro e w1 ⟨rfl, hb1⟩
  have hb2 := hb.trans (hb1.mono hb.size)
  obtain ⟨wa, hwa⟩ : ∃ wa : World, wa = w1.alloc (Obj.cells #[.int .i64 X.member, .int .i64 X.turns, .int .i64 X.seconds] 60) := ⟨_, rfl⟩
  have hba : Below w1.heap.size w1 wa := by rw [hwa]; exact (Below.refl _ _).alloc (Nat.le_refl _) _
  have BX := Lib.hid (show Bx wa w1.heap.size 60 #[.int .i64 X.member, .int .i64 X.turns, .int .i64 X.seconds] by rw [hwa]; exact Bx.new _ _ _)
  have B1 := (B0.out.kept hb1).kept hba
  have q0 := B1.cell 0
  have q1 := B1.cell 1
  simp only [List.getElem?_toArray, List.getElem?_cons_zero, List.getElem?_cons_succ] at q0 q1
  have x1 := BX.out.cell 1
  have x2 := BX.out.cell 2
  simp only [List.getElem?_toArray, List.getElem?_cons_zero, List.getElem?_cons_succ] at x1 x2
  replace hb2 := hb2.trans (hba.mono hb2.size)
  clear hb1 hba
  go_upto_region 2 with fail
  rw [← hwa]
  clear hwa
  go_wp2_with fail
  cases hm : inB m 1 99 with
  | false =>
    have HM := Lib.hid hm
    refine (Mbr.member m false hm _).mono ?_
    rintro e _ ⟨rfl, rfl⟩
    clear hm
    go_wp2_with fail
    go_ret
    exact ⟨ret_bool (by rw [HM.out]; rfl), hb2⟩
  | true =>
    have HM := Lib.hid hm
    refine (Mbr.member m true hm _).mono ?_
    rintro e _ ⟨rfl, rfl⟩
    clear hm
    by_cases h1 : X.turns < r.turns
    · by_cases h2 : X.seconds < r.seconds
      · go_wp2_with fail
        go_ret
        exact ⟨ret_bool (by rw [HM.out, HE.out, decide_eq_true (show X.turns < r.turns by omega), decide_eq_true (show X.seconds < r.seconds by omega)]; rfl), hb2⟩
      · go_wp2_with fail
        go_ret
        exact ⟨ret_bool (by rw [HM.out, HE.out, decide_eq_true (show X.turns < r.turns by omega), decide_eq_false (show ¬ X.seconds < r.seconds by omega)]; rfl), hb2⟩
    · go_wp2_with fail
      go_ret
      exact ⟨ret_bool (by rw [HM.out, HE.out, decide_eq_false (show ¬ X.turns < r.turns by omega)]; rfl), hb2⟩
end Go.Proofs.Ytmbffcblhhippaa.FlB
