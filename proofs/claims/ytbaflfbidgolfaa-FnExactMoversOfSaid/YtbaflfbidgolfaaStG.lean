/- Pending questions: the model's and the program's test of a list. No condition but that names are no longer than strings can be. -/
import Derived.Test.YtbaflfbidgolfaaStL
import Derived.Test.YtbaflfbidgolfaaRuleC
import Derived.Test.YtbaflfbidgolfaaGoodI
namespace Go.Proofs.Ytbaflfbidgolfaa.StG
open Go.RowKit Bs Word Sq St StF StL
set_option linter.unusedVariables false
def Post (z : List R) (l : List Q) (w : World) (e : Ending) (w' : World) : Prop := e = .returned (.bool (goodQ z l)) ∧ Below w.heap.size w w'
theorem bad {z : List R} {l : List Q} {w w' : World} (h : goodQ z l = false) (hb : Below w.heap.size w w') : Post z l w (.returned (.bool false)) w' := ⟨by rw [h], hb⟩
theorem fine {z : List R} {l : List Q} {w w' : World} (h : goodQ z l = true) (hb : Below w.heap.size w w') : Post z l w (.returned (.bool true)) w' := ⟨by rw [h], hb⟩
theorem rulesS (v : Value) (z : List R) (b : Bool) (w : World) (h : Is LRule.rec w v z) (f : ∀ x ∈ z, LRule.Fine x) (hg : Gd.goodB z = b) :
    Calls Try.prog 103 #[v] w fun e w' => e = .returned (.bool b) ∧ Below w.heap.size w w' := by
  subst hg
  obtain ⟨a, c, rfl, h1⟩ := h
  exact Gd.l2Good a _ c z w rfl (RuleC.rules h1) f
theorem rulesI (v : Value) (z : List R) (b : Bool) (w : World) (h : Is LRule.rec w v z) (f : ∀ x ∈ z, LRule.Fine x) (hg : Gd.goodB z = b) :
    Calls Try.prog 80 #[v] w fun e w' => e = .returned (.bool b) ∧ Below w.heap.size w w' := by
  subst hg
  obtain ⟨a, c, rfl, h1⟩ := h
  exact GoodI.isValidRules a _ c z w rfl (RuleC.rules h1) f
theorem lacks_as {v0 : Value} {z : List R} {q : Q} {k : Nat} {b : Bool} {w : World} (h : Is LRule.rec w v0 z) (hk : idx z q.rule = some k) (hb : lacks z q = b) :
    Calls Try.prog 89 #[v0, .agg #[.int .i64 q.rule, .int .i64 q.mover, .bool q.sec]] w fun e w' => e = .returned (.bool b) ∧ Below w.heap.size w w' := by
  subst hb; exact l7Lacks v0 z q k w h hk
def StepV (z : List R) (l : List Q) (i : Nat) (v : Bool) : Prop := (v = true → goodQ z l = false) ∧ (v = false → Step z l i)
/-- what the first test of a question tells, its rule being there -/
theorem ok_of {z : List R} {X : Q} {j : Nat} {r : R} {m : Bool} (hi : idx z X.rule = some j) (he : ru z X.rule = r) (hm : inB X.mover 1 99 = m) : okB z X = (m && (!X.sec || r.sec)) := by
  unfold okB; rw [hi, hm, he]; rfl
theorem ok_none {z : List R} {X : Q} (hi : idx z X.rule = none) : okB z X = false := by unfold okB; rw [hi]; rfl
theorem step_first {z : List R} {l : List Q} {X : Q} (hx : l[0]? = some X) (ho : okB z X = true) : StepV z l 0 false := ⟨fun e => by (cases e), fun _ => step_mk hx ho (fun p h0 => by omega)⟩
theorem step_fol {z : List R} {l : List Q} {i : Nat} {X P : Q} {v : Bool} (hx : l[i]? = some X) (h0 : 0 < i) (hp : l[i - 1]? = some P) (ho : okB z X = true) (hv : fol z P X = !v) : StepV z l i v :=
  ⟨fun e => no_fol hx h0 hp (by rw [hv, e]; rfl), fun e => step_mk hx ho (fun p _ hp' => by rw [hp] at hp'; rw [← Option.some.inj hp', hv, e]; rfl)⟩
theorem topIn_take {z : List R} {l : List Q} {k : Nat} (hk : k ≤ l.length) (hs : ∀ i, i < k → Step z l i) : TopIn z (l.take k) := fun p hp => by
  unfold top at hp
  rw [List.length_take, Nat.min_eq_left hk, List.getElem?_take] at hp
  split at hp
  · obtain ⟨q, hq, ho, _⟩ := hs (k - 1) (by assumption)
    rw [hp] at hq
    obtain ⟨j, _, hj, _⟩ := ok_parts ho
    rw [Option.some.inj hq, hj]; rfl
  · cases hp
theorem may_step {z : List R} {l : List Q} {k j : Nat} {X : Q} {r : R} {b : Bool} (hx : l[k]? = some X) (hi : idx z X.rule = some j) (he : ru z X.rule = r) (ho : okB z X = true) (hb : mayB z (l.take k) r = b) : StepV z l k (!b) := by
  have hk : k < l.length := (List.getElem?_eq_some_iff.1 hx).1
  have hl : (l.take k).length = k := by rw [List.length_take]; omega
  rcases Nat.eq_zero_or_pos k with h0 | h0
  · subst h0
    rw [may_nil (by rw [hl])] at hb
    subst hb
    exact step_first hx ho
  · have hp : l[k - 1]? = some l[k - 1] := List.getElem?_eq_getElem (by omega)
    have ht : top (l.take k) = some l[k - 1] := by unfold top; rw [hl, List.getElem?_take, if_pos (by omega)]; exact hp
    rw [may_top ht, hl] at hb
    by_cases h6 : k < 6
    · rw [show decide (k < 6) = true from decide_eq_true h6, Bool.true_and] at hb
      exact step_fol hx h0 hp ho (by unfold fol; rw [he, hb]; simp)
    · rw [show decide (k < 6) = false from decide_eq_false h6, Bool.false_and] at hb
      subst hb
      exact ⟨fun _ => no_len (by omega), fun e => by (cases e)⟩
theorem may_six {z : List R} {l : List Q} {k : Nat} {X : Q} {r : R} (hx : l[k]? = some X) (hb : mayB z (l.take k) r = true) : k < 6 := by
  have hk : k < l.length := (List.getElem?_eq_some_iff.1 hx).1
  have hl : (l.take k).length = k := by rw [List.length_take]; omega
  rcases Nat.eq_zero_or_pos k with h0 | h0
  · omega
  · obtain ⟨p, hp⟩ := top_some (l := l.take k) (by omega)
    rw [may_top hp, hl, Bool.and_eq_true] at hb
    exact of_decide_eq_true hb.1
/-- the head of a list up to a place -/
theorem is_take {w : World} {b o cp k : Nat} {l : List Q} (h : Is LQuestion.rec w (.slice (some ⟨b, o, none⟩) l.length cp) l) (hbl : b < w.heap.size) (hk : k ≤ l.length) : Is LQuestion.rec w (.slice (some ⟨b, o, none⟩) k cp) (l.take k) := by
  obtain ⟨a', c', e, h1, h2, h3⟩ := h
  simp only [Value.slice.injEq, true_and] at e
  obtain ⟨rfl, rfl⟩ := e
  refine ⟨_, cp, by rw [List.length_take, Nat.min_eq_left hk], by rw [List.length_take]; omega, h2, .inr ⟨b, o, rfl, hbl, fun j r hr => ?_⟩⟩
  rw [List.getElem?_take] at hr
  split at hr
  · rcases h3 with rfl | ⟨b', o', he, _, hc⟩
    · simp at hr
    · simp only [Option.some.injEq, Addr.mk.injEq, and_true] at he
      obtain ⟨rfl, rfl⟩ := he
      exact hc j r hr
  · cases hr
set_option maxRecDepth 100000 in
set_option maxHeartbeats 3200000 in
theorem l7Good (v0 v1 : Value) (z : List R) (l : List Q) (w : World) (h : Is LRule.rec w v0 z) (h1 : Is LQuestion.rec w v1 l) (f0 : ∀ x ∈ z, LRule.Fine x) :
    Calls Try.prog 77 #[v0, v1] w (Post z l w) := by
  have HR := Lib.hid h
  have HQ := Lib.hid h1
  have HF0 := Lib.hid f0
  clear f0
  obtain ⟨ar, cr, rfl, h⟩ := h
  have hcr := h.at_ LRule.rec
  obtain ⟨nr, hn⟩ : ∃ n, n = z.length := ⟨_, rfl⟩
  have hnrb : nr ≤ cr := by have := h.1; omega
  have hnr2 := h.2.1
  unfold maxLen at hnr2
  have HNr := Lib.hid hn.symm
  rw [← hn] at  HR ⊢
  have hnrle : nr ≤ z.length := by omega
  clear hn h
  obtain ⟨a, cp, rfl, h1⟩ := h1
  have hc := h1.at_ LQuestion.rec
  obtain ⟨n, hn⟩ : ∃ n, n = l.length := ⟨_, rfl⟩
  have hnb : n ≤ cp := by have := h1.1; omega
  have hn2 := h1.2.1
  unfold maxLen at hn2
  have HN := Lib.hid hn.symm
  rw [← hn] at  HQ ⊢
  have hnle : n ≤ l.length := by omega
  clear hn h1
  cases hg : Gd.goodB z with
  | false =>
    have HG := Lib.hid (rulesS _ z false w HR.out HF0.out hg)
    have HB := Lib.hid (no_rules (l := l) hg)
    clear hg
    go_enter Try.func77, Try.ntmps77
    go_wp2_with fail
    refine HG.out.mono ?_
    rintro e w1 ⟨rfl, hb1⟩
    go_wp2_with fail
    go_ret
    exact bad HB.out hb1
  | true =>
    have HG := Lib.hid (rulesS _ z true w HR.out HF0.out hg)
    have HGD := Lib.hid hg
    clear hg
    by_cases h6 : n ≤ 6
    · go_enter Try.func77, Try.ntmps77
      go_wp2_with fail
      refine HG.out.mono ?_
      rintro e w1 ⟨rfl, hb1⟩
      go_wp2_with fail
      go_loopw [5] (fun i wr => ∃ k : Nat, k ≤ n ∧ i = .int .i64 k ∧ Below w.heap.size w wr ∧ Hid (∀ i, i < k → Step z l i)) (fun i _ => n - (intOf i).toNat)
      case atStart => exact ⟨0, Nat.zero_le _, rfl, hb1, Lib.hid (fun i hi => by omega)⟩
      case round =>
        clear hb1
        obtain ⟨k, hk, rfl, hb, HS⟩ := hrel
        by_cases hlt : k < n
        · have hx : k < l.length := by omega
          obtain ⟨b, o, rfl, hbl, hcell0⟩ := hc.out k l[k] (List.getElem?_eq_getElem hx)
          obtain ⟨q0, q1, q2⟩ := LQuestion.cells (hcell0.below LQuestion.rec hb hbl)
          simp only [LQuestion.rec_n] at q0 q1 q2
          have HX := Lib.hid (List.getElem?_eq_getElem hx)
          have k0 : 0 ≤ (k : Int) := by omega
          have k1 : (k : Int) < (n : Int) := by omega
          clear hcell0
          generalize l[k] = X at *
          cases hi : idx z X.rule with
          | none =>
            have HF := Lib.hid (find_no (HR.out.below LRule.rec hb) hi)
            have HB := Lib.hid (no_ok HX.out (ok_none hi))
            clear hi
            go_wp2_with fail
            refine HF.out.mono ?_
            rintro e _ ⟨rfl, rfl⟩
            go_wp2_with fail
            go_ret
            exact bad HB.out hb
          | some j =>
            obtain ⟨r, hr, hid, he, hjl⟩ := idx_get hi
            have HF := Lib.hid (find_at (HR.out.below LRule.rec hb) hi)
            have HO := Lib.hid (fun m hm => ok_of (m := m) hi he hm)
            have HE := Lib.hid he
            have j0 : 0 ≤ (j : Int) := by omega
            have j1 : (j : Int) < (nr : Int) := by have := HNr.out; omega
            obtain ⟨br, orr, rfl, hblr, hcellr⟩ := hcr.out j r hr
            have HCR := Lib.hid hcellr
            obtain ⟨p0, p1, p2, p3, p4, p5, p6⟩ := LRule.cells (hcellr.below LRule.rec hb hblr)
            simp only [LRule.rec_n] at p0 p1 p2 p3 p4 p5 p6
            clear hi hr hid he hcellr
            go_wp2_with fail
            refine HF.out.mono ?_
            rintro e _ ⟨rfl, rfl⟩
            go_upto_region 7 with fail
            go_cut [53] (fun t wx => ∃ v : Bool, t = .bool v ∧ Hid (okB z X = !v) ∧ wr = wx)
            case first =>
              cases hm : inB X.mover 1 99 with
              | false =>
                have HM := Lib.hid (fun W => l7Member X.mover false hm W)
                have HV := Lib.hid (HO.out false hm)
                clear hm
                go_wp2_with fail
                refine (HM.out _).mono ?_
                rintro e _ ⟨rfl, rfl⟩
                go_wp2_with fail
                go_meet
                exact ⟨true, rfl, HV, rfl⟩
              | true =>
                have HM := Lib.hid (fun W => l7Member X.mover true hm W)
                have HV := Lib.hid (HO.out true hm)
                clear hm
                cases hs : X.sec with
                | false =>
                  have HV2 := Lib.hid (show okB z X = !false by rw [HV.out, hs]; rfl)
                  rw [hs] at q2
                  clear hs HV HO
                  go_wp2_with fail
                  refine (HM.out _).mono ?_
                  rintro e _ ⟨rfl, rfl⟩
                  go_wp2_with fail
                  go_meet
                  exact ⟨false, rfl, HV2, rfl⟩
                | true =>
                  have HV2 := Lib.hid (show okB z X = !(!r.sec) by rw [HV.out, hs]; simp)
                  rw [hs] at q2
                  clear hs HV HO
                  go_wp2_with fail
                  refine (HM.out _).mono ?_
                  rintro e _ ⟨rfl, rfl⟩
                  go_wp2_with fail
                  go_meet
                  exact ⟨_, rfl, HV2, rfl⟩
            case rest =>
              obtain ⟨v, rfl, HV, rfl⟩ := hcut
              cases v with
              | true =>
                have HB := Lib.hid (no_ok HX.out HV.out)
                go_wp2_with fail
                go_ret
                exact bad HB.out hb
              | false =>
                have HOK := Lib.hid (show okB z X = true from HV.out)
                clear q0 q1 q2 p0 p1 p2 p3 p4 p5 p6 HV HO
                go_upto_region 9 with fail
                go_cut [79] (fun t wx => ∃ v : Bool, t = .bool v ∧ Hid (StepV z l k v) ∧ Below wr.heap.size wr wx)
                case first =>
                  by_cases hz : k = 0
                  · have HV := Lib.hid (show StepV z l k false by subst hz; exact step_first HX.out HOK.out)
                    have hd : decide (0 < (k : Int)) = false := by simp; omega
                    have hd2 : decide (0 < k) = false := by simp; omega
                    clear hz
                    refine wp_region_quiet_below (by kernel_rfl) (by kernel_rfl) ?_
                    repeat (go_big_quiet_step (fail))
                    refine wpQuiet_nil ?_
                    intro _ hw'
                    obtain ⟨⟨dq, osq⟩, hw''⟩ := hw'
                    subst hw''
                    go_wp2_with fail
                    go_meet
                    exact ⟨false, rfl, HV, below_regrown _ _ _⟩
                  · have hpx : k - 1 < l.length := by omega
                    obtain ⟨b', o', he', hbl', hcell1⟩ := hc.out (k - 1) l[k - 1] (List.getElem?_eq_getElem hpx)
                    simp only [Option.some.injEq, Addr.mk.injEq, and_true] at he'
                    obtain ⟨rfl, rfl⟩ := he'
                    have HP := Lib.hid (List.getElem?_eq_getElem hpx)
                    obtain ⟨P, hPS, hPO, _⟩ := HS.out (k - 1) (by omega)
                    obtain ⟨jp, rp, hjp, hrp, hep, _⟩ := ok_parts hPO
                    have hPe : P = l[k - 1] := Option.some.inj (hPS.symm.trans HP.out)
                    subst hPe
                    have HGP := LQuestion.grown (hcell1.below LQuestion.rec hb hbl) (Nat.lt_of_lt_of_le hbl hb.size)
                    have HGr := LRule.grown (HCR.out.below LRule.rec hb hblr) (Nat.lt_of_lt_of_le hblr hb.size)
                    have HJP := Lib.hid hjp
                    have hd : decide (0 < (k : Int)) = true := by simp; omega
                    have hd2 : decide (0 < k) = true := by simp; omega
                    have n1 : IntKind.i64.wrap ((k : Int) - 1) = (k : Int) - 1 := IntWalk.i64_in _ (by omega)
                    have n2 : ((k : Int) - 1).toNat = k - 1 := by omega
                    have n3 : 0 ≤ (k : Int) - 1 := by omega
                    have n4 : (k : Int) - 1 < (n : Int) := by omega
                    have hk0 : 0 < k := by omega
                    clear hPS hPO hjp hrp hep hcell1 hz
                    generalize l[k - 1] = P at *
                    have c0 := fun d os => (LQuestion.cells (HGP.out d os)).1
                    have c1 := fun d os => (LQuestion.cells (HGP.out d os)).2.1
                    have c2 := fun d os => (LQuestion.cells (HGP.out d os)).2.2
                    have p2 := fun d os => (LRule.cells (HGr.out d os)).2.2.1
                    simp only [LQuestion.rec_n, LRule.rec_n] at c0 c1 c2 p2
                    have HRK := Lib.hid (fun (d : Nat) (os : Array Obj) => l7Rank _ z P jp (Sort.grow (redrawn wr d) os) (HR.out.below LRule.rec (hb.trans ((below_regrown wr d os).mono hb.size))) HJP.out)
                    cases hl : lacks z P with
                    | true =>
                      have HLK := Lib.hid (fun (d : Nat) (os : Array Obj) => lacks_as (w := Sort.grow (redrawn wr d) os) (HR.out.below LRule.rec (hb.trans ((below_regrown wr d os).mono hb.size))) HJP.out hl)
                      have HV := Lib.hid (show StepV z l k true from step_fol HX.out hk0 HP.out HOK.out (by unfold fol folR; rw [hl]; rfl))
                      clear hl
                      refine wp_region_quiet_below (by kernel_rfl) (by kernel_rfl) ?_
                      repeat (go_big_quiet_step ((first | (go_at_call 89; exact Calls.regrown_of (HLK.out _ _)) | (go_at_call 111; exact Calls.regrown_of (HRK.out _ _)))))
                      refine wpQuiet_nil ?_
                      intro _ hw'
                      obtain ⟨⟨dq, osq⟩, hw''⟩ := hw'
                      subst hw''
                      go_wp2_with fail
                      go_meet
                      exact ⟨true, rfl, HV, below_regrown _ _ _⟩
                    | false =>
                      have HLK := Lib.hid (fun (d : Nat) (os : Array Obj) => lacks_as (w := Sort.grow (redrawn wr d) os) (HR.out.below LRule.rec (hb.trans ((below_regrown wr d os).mono hb.size))) HJP.out hl)
                      have HV := Lib.hid (show StepV z l k (decide (r.rank ≤ rk z P)) from step_fol HX.out hk0 HP.out HOK.out (by unfold fol folR; rw [hl, HE.out]; by_cases hq : r.rank ≤ rk z P <;> simp [hq] <;> omega))
                      clear hl
                      generalize rk z P = K at *
                      refine wp_region_quiet_below (by kernel_rfl) (by kernel_rfl) ?_
                      repeat (go_big_quiet_step ((first | (go_at_call 89; exact Calls.regrown_of (HLK.out _ _)) | (go_at_call 111; exact Calls.regrown_of (HRK.out _ _)))))
                      refine wpQuiet_nil ?_
                      intro _ hw'
                      obtain ⟨⟨dq, osq⟩, hw''⟩ := hw'
                      subst hw''
                      go_wp2_with fail
                      go_meet
                      exact ⟨_, rfl, HV, below_regrown _ _ _⟩
                case rest =>
                  obtain ⟨v, rfl, HV, hbv⟩ := hcut
                  have hb2 := hb.trans (hbv.mono hb.size)
                  cases v with
                  | true =>
                    have HB := Lib.hid (show goodQ z l = false from HV.out.1 rfl)
                    go_wp2_with fail
                    go_ret
                    exact bad HB.out hb2
                  | false =>
                    have HST := Lib.hid (steps_next HS.out (HV.out.2 rfl))
                    go_wp2_with fail
                    go_roundw
                    case rel => exact ⟨k + 1, by omega, by go_num, hb2, HST⟩
                    case measure => simp [intOf]; omega
        · obtain rfl : k = n := by omega
          have HB := Lib.hid (good_yes (z := z) (l := l) ⟨HGD.out, by rw [HN.out]; exact h6, fun i hi => HS.out i (by rw [HN.out] at hi; exact hi)⟩)
          go_wp2_with fail
          go_ret
          exact fine HB.out hb
    · have HB := Lib.hid (no_len (z := z) (l := l) (by have := HN.out; omega))
      go_enter Try.func77, Try.ntmps77
      go_wp2_with fail
      refine HG.out.mono ?_
      rintro e w1 ⟨rfl, hb1⟩
      go_wp2_with fail
      go_ret
      exact bad HB.out hb1
set_option maxRecDepth 100000 in
set_option maxHeartbeats 3200000 in
theorem arePending (v0 v1 : Value) (z : List R) (l : List Q) (w : World) (h : Is LRule.rec w v0 z) (h1 : Is LQuestion.rec w v1 l) (f0 : ∀ x ∈ z, LRule.Fine x) :
    Calls Try.prog 21 #[v0, v1] w (Post z l w) := by
  have HR := Lib.hid h
  have HQ := Lib.hid h1
  have HF0 := Lib.hid f0
  clear f0
  obtain ⟨ar, cr, rfl, h⟩ := h
  have hcr := h.at_ LRule.rec
  obtain ⟨nr, hn⟩ : ∃ n, n = z.length := ⟨_, rfl⟩
  have hnrb : nr ≤ cr := by have := h.1; omega
  have hnr2 := h.2.1
  unfold maxLen at hnr2
  have HNr := Lib.hid hn.symm
  rw [← hn] at  HR ⊢
  have hnrle : nr ≤ z.length := by omega
  clear hn h
  obtain ⟨a, cp, rfl, h1⟩ := h1
  have hc := h1.at_ LQuestion.rec
  obtain ⟨n, hn⟩ : ∃ n, n = l.length := ⟨_, rfl⟩
  have hnb : n ≤ cp := by have := h1.1; omega
  have hn2 := h1.2.1
  unfold maxLen at hn2
  have HN := Lib.hid hn.symm
  rw [← hn] at  HQ ⊢
  have hnle : n ≤ l.length := by omega
  clear hn h1
  cases hg : Gd.goodB z with
  | false =>
    have HG := Lib.hid (rulesI _ z false w HR.out HF0.out hg)
    have HB := Lib.hid (no_rules (l := l) hg)
    clear hg
    go_enter Try.func21, Try.ntmps21
    go_wp2_with fail
    refine HG.out.mono ?_
    rintro e w1 ⟨rfl, hb1⟩
    go_wp2_with fail
    go_ret
    exact bad HB.out hb1
  | true =>
    have HG := Lib.hid (rulesI _ z true w HR.out HF0.out hg)
    have HGD := Lib.hid hg
    clear hg
    go_enter Try.func21, Try.ntmps21
    go_wp2_with fail
    refine HG.out.mono ?_
    rintro e w1 ⟨rfl, hb1⟩
    go_wp2_with fail
    go_loopw [13] (fun i wr => ∃ k : Nat, k ≤ n ∧ i = .int .i64 k ∧ Below w.heap.size w wr ∧ Hid (∀ i, i < k → Step z l i) ∧ k ≤ 6) (fun i _ => n - (intOf i).toNat)
    case atStart => exact ⟨0, Nat.zero_le _, rfl, hb1, Lib.hid (fun i hi => by omega), by omega⟩
    case round =>
      clear hb1
      obtain ⟨k, hk, rfl, hb, HS, hk6⟩ := hrel
      by_cases hlt : k < n
      · have hx : k < l.length := by omega
        obtain ⟨b, o, rfl, hbl, hcell0⟩ := hc.out k l[k] (List.getElem?_eq_getElem hx)
        obtain ⟨q0, q1, q2⟩ := LQuestion.cells (hcell0.below LQuestion.rec hb hbl)
        simp only [LQuestion.rec_n] at q0 q1 q2
        have HX := Lib.hid (List.getElem?_eq_getElem hx)
        have k0 : 0 ≤ (k : Int) := by omega
        have k1 : (k : Int) < (n : Int) := by omega
        have k2 : (k : Int) ≤ (cp : Int) := by omega
        have k3 : k ≤ cp := by omega
        clear hcell0
        generalize l[k] = X at *
        go_upto_region 6 with fail
        have HBX := Lib.hid (LQuestion.box wr X 47)
        have hba := hb.alloc hb.size (Obj.cells #[.int .i64 X.rule, .int .i64 X.mover, .bool X.sec] 47)
        have hGq : wr.heap.size < (wr.alloc (Obj.cells #[.int .i64 X.rule, .int .i64 X.mover, .bool X.sec] 47)).heap.size := by simp
        clear q0 q1 q2
        generalize wr.alloc (Obj.cells #[.int .i64 X.rule, .int .i64 X.mover, .bool X.sec] 47) = wq at *
        generalize wr.heap.size = G at *
        clear hb
        cases hi : idx z X.rule with
        | none =>
          have HF := Lib.hid (index_no (HR.out.below LRule.rec hba) hi)
          have HB := Lib.hid (no_ok HX.out (ok_none hi))
          obtain ⟨x0, x1, x2⟩ := LQuestion.cells0 HBX.out
          clear hi
          go_wp2_with fail
          refine HF.out.mono ?_
          rintro e w2 ⟨rfl, hb2⟩
          go_wp2_with fail
          go_ret
          exact bad HB.out (hba.trans (hb2.mono hba.size))
        | some j =>
          obtain ⟨r, hr, hid, he, hjl⟩ := idx_get hi
          have HF := Lib.hid (index_at (HR.out.below LRule.rec hba) hi)
          have HO := Lib.hid (fun m hm => ok_of (m := m) hi he hm)
          have HI := Lib.hid hi
          have HE := Lib.hid he
          have j0 : 0 ≤ (j : Int) := by omega
          have j1 : (j : Int) < (nr : Int) := by have := HNr.out; omega
          obtain ⟨br, orr, rfl, hblr, hcellr⟩ := hcr.out j r hr
          have HCR := Lib.hid hcellr
          obtain ⟨x0, x1, x2⟩ := LQuestion.cells0 HBX.out
          clear hi hr hid he hcellr
          go_wp2_with fail
          refine HF.out.mono ?_
          rintro e w2 ⟨rfl, hb2⟩
          have hbw := hba.trans (hb2.mono hba.size)
          obtain ⟨y0, y1, y2⟩ := LQuestion.cells0 (HBX.out.below LQuestion.rec hb2 hGq)
          obtain ⟨p0, p1, p2, p3, p4, p5, p6⟩ := LRule.cells (HCR.out.below LRule.rec hbw hblr)
          simp only [LRule.rec_n] at p0 p1 p2 p3 p4 p5 p6
          clear x0 x1 x2 hb2
          go_upto_region 7 with fail
          go_cut [41] (fun t wx => ∃ v : Bool, t = .bool v ∧ Hid (okB z X = !v) ∧ w2 = wx)
          case first =>
            cases hm : inB X.mover 1 99 with
            | false =>
              have HM := Lib.hid (fun W => member X.mover false hm W)
              have HV := Lib.hid (HO.out false hm)
              clear hm
              go_wp2_with fail
              refine (HM.out _).mono ?_
              rintro e _ ⟨rfl, rfl⟩
              go_wp2_with fail
              go_meet
              exact ⟨true, rfl, HV, rfl⟩
            | true =>
              have HM := Lib.hid (fun W => member X.mover true hm W)
              have HV := Lib.hid (HO.out true hm)
              clear hm
              cases hs : X.sec with
              | false =>
                have HV2 := Lib.hid (show okB z X = !false by rw [HV.out, hs]; rfl)
                rw [hs] at y2
                clear hs HV HO
                go_wp2_with fail
                refine (HM.out _).mono ?_
                rintro e _ ⟨rfl, rfl⟩
                go_wp2_with fail
                go_meet
                exact ⟨false, rfl, HV2, rfl⟩
              | true =>
                have HV2 := Lib.hid (show okB z X = !(!r.sec) by rw [HV.out, hs]; simp)
                rw [hs] at y2
                clear hs HV HO
                go_wp2_with fail
                refine (HM.out _).mono ?_
                rintro e _ ⟨rfl, rfl⟩
                go_wp2_with fail
                go_meet
                exact ⟨_, rfl, HV2, rfl⟩
          case rest =>
            obtain ⟨v, rfl, HV, rfl⟩ := hcut
            cases v with
            | true =>
              have HB := Lib.hid (no_ok HX.out HV.out)
              go_wp2_with fail
              go_ret
              exact bad HB.out hbw
            | false =>
              have HOK := Lib.hid (show okB z X = true from HV.out)
              clear y0 y1 y2 p0 p1 p2 p3 p4 p5 p6 HV HO hba
              have HT := Lib.hid (show ∀ W, Below w.heap.size w W → Is LQuestion.rec W (.slice (some ⟨b, o, none⟩) k cp) (l.take k) from fun W hW => is_take (by have := HQ.out.below LQuestion.rec hW; rw [← HN.out] at this; exact this) (Nat.lt_of_lt_of_le hbl hW.size) (by omega))
              have HTI := Lib.hid (topIn_take (z := z) (l := l) (k := k) (by omega) HS.out)
              have HGr := LRule.grown (HCR.out.below LRule.rec hbw hblr) (Nat.lt_of_lt_of_le hblr hbw.size)
              have c0 := fun d os => (LRule.cells (HGr.out d os)).1
              have c1 := fun d os => (LRule.cells (HGr.out d os)).2.1
              have c2 := fun d os => (LRule.cells (HGr.out d os)).2.2.1
              have c3 := fun d os => (LRule.cells (HGr.out d os)).2.2.2.1
              have c4 := fun d os => (LRule.cells (HGr.out d os)).2.2.2.2.1
              have c5 := fun d os => (LRule.cells (HGr.out d os)).2.2.2.2.2.1
              have c6 := fun d os => (LRule.cells (HGr.out d os)).2.2.2.2.2.2
              simp only [LRule.rec_n] at c0 c1 c2 c3 c4 c5 c6
              have HMF := Lib.hid (fun (d : Nat) (os : Array Obj) => mayFollow _ _ z (l.take k) r (Sort.grow (redrawn w2 d) os) (HR.out.below LRule.rec (hbw.trans ((below_regrown w2 d os).mono hbw.size))) (HT.out _ (hbw.trans ((below_regrown w2 d os).mono hbw.size))) HTI.out)
              obtain ⟨B, hB⟩ : ∃ B, B = mayB z (l.take k) r := ⟨_, rfl⟩
              rw [← hB] at HMF
              have HV := Lib.hid (may_step HX.out HI.out HE.out HOK.out hB.symm)
              have H6 := Lib.hid (fun e : B = true => may_six HX.out (hB.symm.trans e))
              clear hB
              go_upto_region 9 with fail
              go_cut [51] (fun t wx => t = .bool (!B) ∧ Below w2.heap.size w2 wx)
              case first =>
                refine wp_region_quiet_below (by kernel_rfl) (by kernel_rfl) ?_
                repeat (go_big_quiet_step ((go_at_call 83; exact Calls.regrown_of (HMF.out _ _))))
                refine wpQuiet_nil ?_
                intro _ hw'
                obtain ⟨⟨dq, osq⟩, hw''⟩ := hw'
                subst hw''
                go_wp2_with fail
                go_meet
                exact ⟨rfl, below_regrown _ _ _⟩
              case rest =>
                obtain ⟨rfl, hbv⟩ := hcut
                have hb2 := hbw.trans (hbv.mono hbw.size)
                clear c0 c1 c2 c3 c4 c5 c6 HGr
                cases B with
                | false =>
                  have HB := Lib.hid (show goodQ z l = false from HV.out.1 rfl)
                  go_wp2_with fail
                  go_ret
                  exact bad HB.out hb2
                | true =>
                  have HST := Lib.hid (steps_next HS.out (HV.out.2 rfl))
                  have h6 := H6.out rfl
                  go_wp2_with fail
                  go_roundw
                  case rel => exact ⟨k + 1, by omega, by go_num, hb2, HST, by omega⟩
                  case measure => simp [intOf]; omega
      · obtain rfl : k = n := by omega
        have HB := Lib.hid (good_yes (z := z) (l := l) ⟨HGD.out, by rw [HN.out]; exact hk6, fun i hi => HS.out i (by rw [HN.out] at hi; exact hi)⟩)
        go_wp2_with fail
        go_ret
        exact fine HB.out hb
end Go.Proofs.Ytbaflfbidgolfaa.StG
