/- Documents: the model's and the program's test of a list. No condition but that titles are no longer than strings can be. -/
import Derived.Test.YtmpolpeomabcfaaDoorDoc
import Derived.BigQuiet
import Derived.IntWalk
import Derived.Lib.MinMax
import Derived.Deep.DeepCutAuto
namespace Go.Proofs.YtmpolpeomabcfaaDoor.DocG
open Go.RowKit Bs Word Doc
set_option linter.unusedVariables false
def Post (xs : List M) (w : World) (e : Ending) (w' : World) : Prop := e = .returned (.bool (goodB xs)) ∧ Below w.heap.size w w'
theorem bad {xs : List M} {w w' : World} (h : goodB xs = false) (hb : Below w.heap.size w w') : Post xs w (.returned (.bool false)) w' := ⟨by rw [h], hb⟩
theorem top_min (d : Int) : top d = min (d + 1) 4 := by unfold top; split <;> omega
theorem least (a b : Int) (w : World) : Calls Tryd.prog 51 #[.int .i64 a, .int .i64 b] w fun e w' => e = .returned (.int .i64 (if a < b then a else b)) ∧ w = w' := by
  by_cases h : a < b
  · have HM := Lib.hid (show (if a < b then a else b) = a from if_pos h)
    go_enter Tryd.func51, Tryd.ntmps51
    go_wp2_with fail
    go_ret
    exact ⟨rfl, rfl⟩
  · have HM := Lib.hid (show (if a < b then a else b) = b from if_neg h)
    go_enter Tryd.func51, Tryd.ntmps51
    go_wp2_with fail
    go_ret
    exact ⟨rfl, rfl⟩
theorem least_as (d T : Int) (h : top d = T) (w : World) : Calls Tryd.prog 51 #[.int .i64 (d + 1), .int .i64 4] w fun e w' => e = .returned (.int .i64 T) ∧ w = w' := by
  subst h; exact least (d + 1) 4 w
theorem ok_no1 {d : Int} {X : M} (h : inB X.depth 1 (top d) = false) : okB d X = false := by unfold okB; rw [h]; rfl
theorem ok_no2 {d : Int} {X : M} (h : isWordB X.title = false) : okB d X = false := by unfold okB; rw [h, Bool.and_false]
theorem ok_yes {d : Int} {X : M} (h : inB X.depth 1 (top d) = true) (h2 : isWordB X.title = true) : okB d X = true := by unfold okB; rw [h, h2]; rfl
set_option maxRecDepth 100000 in
set_option maxHeartbeats 1600000 in
theorem l6Good (v : Value) (xs : List M) (w : World) (h : Is LSection.rec w v xs) (hsz : ∀ x ∈ xs, LSection.Fine x) :
    Calls Tryd.prog 38 #[v] w (Post xs w) := by
  obtain ⟨a, cp, rfl, h⟩ := h
  have hc := h.at_ LSection.rec
  obtain ⟨n, hn⟩ : ∃ n, n = xs.length := ⟨_, rfl⟩
  have hnb : n ≤ cp := by have := h.1; omega
  have hn2 := h.2.1
  unfold maxLen at hn2
  have HN := Lib.hid hn.symm
  rw [← hn]
  have hnle : n ≤ xs.length := by omega
  clear hn h
  have HSZ := Lib.hid hsz
  clear hsz
  go_enter Tryd.func38, Tryd.ntmps38
  go_wp2_with fail
  go_loopw [3, 4] (fun b i wr => ∃ k : Nat, k ≤ n ∧ i = .int .i64 k ∧ b = .int .i64 (bef xs k) ∧ Below w.heap.size w wr ∧ Hid (Pre xs k)) (fun _ i _ => n - (intOf i).toNat)
  case atStart => exact ⟨0, Nat.zero_le _, rfl, rfl, Below.refl _ _, Lib.hid pre_zero⟩
  case round =>
    obtain ⟨k, hk, rfl, rfl, hb, HS⟩ := hrel
    by_cases hlt : k < n
    · have hx : k < xs.length := by omega
      obtain ⟨b, o, rfl, hbl, hcell0⟩ := hc.out k xs[k] (List.getElem?_eq_getElem hx)
      obtain ⟨q0, q1⟩ := LSection.cells (hcell0.below LSection.rec hb hbl)
      simp only [LSection.rec_n] at q0 q1
      have hxs := Lib.hid (HSZ.out xs[k] (List.getElem_mem hx))
      have HX := Lib.hid (List.getElem?_eq_getElem hx)
      have hbd := bef_bd HS.out (by omega)
      clear hcell0
      generalize xs[k] = X at *
      have HBN := Lib.hid (bef_next HX.out)
      obtain ⟨d, hd⟩ : ∃ d, d = bef xs k := ⟨_, rfl⟩
      have HD := Lib.hid hd
      rw [← hd] at hbd ⊢
      clear hd
      have s1 : IntKind.i64.wrap (d + 1) = d + 1 := IntWalk.i64_in _ (by omega)
      have k0 : 0 ≤ (k : Int) := by omega
      have k1 : (k : Int) < (n : Int) := by omega
      have H1 := Lib.hid (fun W => least_as d (top d) rfl W)
      have H2 := Lib.hid (fun (v : Bool) (h : inB X.depth 1 (top d) = v) W => in_as X.depth 1 (top d) v h W)
      have H3 := Lib.hid (fun (v : Bool) (h : isWordB X.title = v) W => word_as X.title v h hxs.out W)
      have HNO := Lib.hid (fun (h : okB d X = false) => no_ok HX.out (by rw [← HD.out]; exact h))
      have HYES := Lib.hid (fun (h : okB d X = true) => pre_next HS.out HX.out (by rw [← HD.out]; exact h))
      cases g1 : inB X.depth 1 (top d) with
      | false =>
        have HB := Lib.hid (HNO.out (ok_no1 g1))
        have HI := Lib.hid (H2.out false g1)
        clear H2 g1 HNO HYES
        generalize top d = T at *
        go_upto_region 5 with fail
        go_quiet ((first | (go_at_call 51; exact quiet_eq (H1.out _)) | (go_at_call 55; exact quiet_eq (HI.out _))))
        go_wp2_with fail
        go_ret
        exact bad HB.out (hb.trans ((drawn_below _ _).mono hb.size))
      | true =>
        cases g2 : isWordB X.title with
        | false =>
          have HB := Lib.hid (HNO.out (ok_no2 g2))
          have HI := Lib.hid (H2.out true g1)
          have HW := Lib.hid (H3.out false g2)
          clear H2 H3 g1 g2 HNO HYES
          generalize top d = T at *
          go_upto_region 5 with fail
          go_quiet ((first | (go_at_call 51; exact quiet_eq (H1.out _)) | (go_at_call 55; exact quiet_eq (HI.out _)) | (go_at_call 58; exact quiet_eq (HW.out _))))
          go_wp2_with fail
          go_ret
          exact bad HB.out (hb.trans ((drawn_below _ _).mono hb.size))
        | true =>
          have HST := Lib.hid (HYES.out (ok_yes g1 g2))
          have HI := Lib.hid (H2.out true g1)
          have HW := Lib.hid (H3.out true g2)
          clear H2 H3 g1 g2 HNO HYES
          generalize top d = T at *
          go_upto_region 5 with fail
          go_quiet ((first | (go_at_call 51; exact quiet_eq (H1.out _)) | (go_at_call 55; exact quiet_eq (HI.out _)) | (go_at_call 58; exact quiet_eq (HW.out _))))
          have hb2 : ∀ n, Below w.heap.size w (wr.drewN n) := fun n => (hb.trans ((drawn_below _ _).mono hb.size))
          go_wp2_with fail
          go_roundw
          case rel => exact ⟨k + 1, by omega, by go_num, by rw [HBN.out], hb2 _, HST⟩
          case measure => simp [intOf]; omega
    · obtain rfl : k = n := by omega
      have HD := Lib.hid (show decide ((k : Int) ≤ 12) = goodB xs by
        by_cases h12 : k ≤ 12
        · rw [good_yes ⟨by rw [HN.out]; exact h12, by rw [HN.out]; exact HS.out⟩]; exact decide_eq_true (by omega)
        · rw [no_len (by rw [HN.out]; omega)]; exact decide_eq_false (by omega))
      go_wp2_with fail
      go_ret
      exact ⟨ret_bool HD.out, hb⟩
set_option maxRecDepth 100000 in
set_option maxHeartbeats 1600000 in
theorem isDocument (v : Value) (xs : List M) (w : World) (h : Is LSection.rec w v xs) (hsz : ∀ x ∈ xs, LSection.Fine x) :
    Calls Tryd.prog 19 #[v] w (Post xs w) := by
  obtain ⟨a, cp, rfl, h⟩ := h
  have hc := h.at_ LSection.rec
  obtain ⟨n, hn⟩ : ∃ n, n = xs.length := ⟨_, rfl⟩
  have hnb : n ≤ cp := by have := h.1; omega
  have hn2 := h.2.1
  unfold maxLen at hn2
  have HN := Lib.hid hn.symm
  rw [← hn]
  have hnle : n ≤ xs.length := by omega
  clear hn h
  have HSZ := Lib.hid hsz
  clear hsz
  by_cases h12 : n ≤ 12
  · go_enter Tryd.func19, Tryd.ntmps19
    go_wp2_with fail
    go_loopw [3, 11] (fun b i wr => ∃ k : Nat, k ≤ n ∧ i = .int .i64 k ∧ b = .int .i64 (bef xs k) ∧ Below w.heap.size w wr ∧ Hid (Pre xs k)) (fun _ i _ => n - (intOf i).toNat)
    case atStart => exact ⟨0, Nat.zero_le _, rfl, rfl, Below.refl _ _, Lib.hid pre_zero⟩
    case round =>
      obtain ⟨k, hk, rfl, rfl, hb, HS⟩ := hrel
      by_cases hlt : k < n
      · have hx : k < xs.length := by omega
        obtain ⟨b, o, rfl, hbl, hcell0⟩ := hc.out k xs[k] (List.getElem?_eq_getElem hx)
        obtain ⟨q0, q1⟩ := LSection.cells (hcell0.below LSection.rec hb hbl)
        simp only [LSection.rec_n] at q0 q1
        have hxs := Lib.hid (HSZ.out xs[k] (List.getElem_mem hx))
        have HX := Lib.hid (List.getElem?_eq_getElem hx)
        have hbd := bef_bd HS.out (by omega)
        clear hcell0
        generalize xs[k] = X at *
        have HBN := Lib.hid (bef_next HX.out)
        obtain ⟨d, hd⟩ : ∃ d, d = bef xs k := ⟨_, rfl⟩
        have HD := Lib.hid hd
        rw [← hd] at hbd ⊢
        clear hd
        have HT := Lib.hid (top_min d)
        have HNO := Lib.hid (fun (h : okB d X = false) => no_ok HX.out (by rw [← HD.out]; exact h))
        have HYES := Lib.hid (fun (h : okB d X = true) => pre_next HS.out HX.out (by rw [← HD.out]; exact h))
        have hba := hb.alloc hb.size (Obj.cells #[.int .i64 X.depth, .string X.title] 33)
        by_cases h1 : X.depth < 1
        · have HB := Lib.hid (HNO.out (ok_no1 (inB_not (by omega))))
          clear HNO HYES
          go_wp2_with fail
          go_ret
          exact bad HB.out hba
        · by_cases h2 : min (d + 1) 4 < X.depth
          · have HB := Lib.hid (HNO.out (ok_no1 (inB_not (by rw [HT.out]; omega))))
            clear HNO HYES
            go_wp2_with fail
            go_ret
            exact bad HB.out hba
          · have g1 := Lib.hid (show inB X.depth 1 (top d) = true from inB_mk (by omega) (by rw [HT.out]; omega))
            have H3 := Lib.hid (fun (v : Bool) (h : isWordB X.title = v) W => iword_as X.title v h hxs.out W)
            cases g2 : isWordB X.title with
            | false =>
              have HB := Lib.hid (HNO.out (ok_no2 g2))
              have HW := Lib.hid (H3.out false g2)
              clear H3 g1 g2 HNO HYES
              go_wp2_with fail
              refine (HW.out _).mono ?_
              rintro e _ ⟨rfl, rfl⟩
              go_wp2_with fail
              go_ret
              exact bad HB.out hba
            | true =>
              have HST := Lib.hid (HYES.out (ok_yes g1.out g2))
              have HW := Lib.hid (H3.out true g2)
              clear H3 g1 g2 HNO HYES
              go_wp2_with fail
              refine (HW.out _).mono ?_
              rintro e _ ⟨rfl, rfl⟩
              go_wp2_with fail
              go_roundw
              case rel => exact ⟨k + 1, by omega, by go_num, by rw [HBN.out], hba, HST⟩
              case measure => simp [intOf]; omega
      · have HB := Lib.hid (good_yes (xs := xs) ⟨by rw [HN.out]; exact h12, by rw [HN.out, show n = k by omega]; exact HS.out⟩)
        go_wp2_with fail
        go_ret
        exact ⟨by rw [HB.out]; exact ret_bool rfl, hb⟩
  · have HB := Lib.hid (no_len (xs := xs) (by have := HN.out; omega))
    go_enter Tryd.func19, Tryd.ntmps19
    go_wp2_with fail
    go_ret
    exact bad HB.out (Below.refl _ _)
end Go.Proofs.YtmpolpeomabcfaaDoor.DocG
