/- Documents: what is asked, to which section one belongs, how many parts one has: the model's and the program's functions. No condition but that titles are no longer than strings can be. -/
import Derived.Test.YtmpolpeomabcfaaDoorDocG
namespace Go.Proofs.YtmpolpeomabcfaaDoor.DocO
open Go.RowKit Bs Word Doc
set_option linter.unusedVariables false
theorem belowD {B : Nat} {a w : World} (h : Below B a w) (n : Nat) : Below B a (w.drewN n) := h.trans ⟨rfl, rfl, rfl, Nat.le_refl _, fun _ _ => rfl⟩
theorem ask_no {xs : List M} {i : Int} (h : goodB xs = false) : askB xs i = false := by unfold askB; rw [h]; rfl
theorem ask_in {xs : List M} {i : Int} (h : goodB xs = true) : askB xs i = inB i 0 ((xs.length : Int) - 1) := by unfold askB; rw [h]; rfl
theorem ret_int {a b : Int} (h : a = b) : Ending.returned (.int .i64 a) = .returned (.int .i64 b) := by rw [h]
theorem l6Asked (v : Value) (xs : List M) (i : Int) (w : World) (h : Is LSection.rec w v xs) (hsz : ∀ x ∈ xs, LSection.Fine x) :
    Calls Tryd.prog 33 #[v, .int .i64 i] w fun e w' => e = .returned (.bool (askB xs i)) ∧ Below w.heap.size w w' := by
  have HG := Lib.hid (DocG.l6Good v xs w h hsz)
  obtain ⟨a, cp, rfl, h⟩ := h
  have hc := h.at_ LSection.rec
  obtain ⟨n, hn⟩ : ∃ n, n = xs.length := ⟨_, rfl⟩
  have hnb : n ≤ cp := by have := h.1; omega
  have hn2 := h.2.1
  unfold maxLen at hn2
  have HN := Lib.hid hn.symm
  rw [← hn] at  HG ⊢
  have hnle : n ≤ xs.length := by omega
  clear hn h
  clear hsz
  cases hg : goodB xs with
  | false =>
    have HA := Lib.hid (ask_no (i := i) hg)
    rw [show DocG.Post xs w = fun e w' => e = .returned (.bool false) ∧ Below w.heap.size w w' by unfold DocG.Post; rw [hg]] at HG
    clear hg
    go_enter Tryd.func33, Tryd.ntmps33
    go_wp2_with fail
    refine HG.out.mono ?_
    rintro e w1 ⟨rfl, hb1⟩
    go_wp2_with fail
    go_ret
    exact ⟨ret_bool HA.out.symm, hb1⟩
  | true =>
    have HA := Lib.hid (ask_in (i := i) hg)
    rw [HN.out] at HA
    have h12 : n ≤ 12 := by have := good_len hg; have := HN.out; omega
    rw [show DocG.Post xs w = fun e w' => e = .returned (.bool true) ∧ Below w.heap.size w w' by unfold DocG.Post; rw [hg]] at HG
    clear hg
    have s1 : IntKind.i64.wrap ((n : Int) - 1) = (n : Int) - 1 := IntWalk.i64_in _ (by omega)
    have HI := Lib.hid (fun W => in_as i 0 ((n : Int) - 1) _ rfl W)
    go_enter Tryd.func33, Tryd.ntmps33
    go_wp2_with fail
    refine HG.out.mono ?_
    rintro e w1 ⟨rfl, hb1⟩
    go_wp2_with fail
    refine (HI.out _).mono ?_
    rintro e _ ⟨rfl, rfl⟩
    generalize inB i 0 ((n : Int) - 1) = V at *
    go_wp2_with fail
    go_ret
    exact ⟨ret_bool HA.out.symm, hb1⟩
theorem hasSection (v : Value) (xs : List M) (i : Int) (w : World) (h : Is LSection.rec w v xs) (hsz : ∀ x ∈ xs, LSection.Fine x) :
    Calls Tryd.prog 31 #[v, .int .i64 i] w fun e w' => e = .returned (.bool (askB xs i)) ∧ Below w.heap.size w w' := by
  have HG := Lib.hid (DocG.isDocument v xs w h hsz)
  obtain ⟨a, cp, rfl, h⟩ := h
  have hc := h.at_ LSection.rec
  obtain ⟨n, hn⟩ : ∃ n, n = xs.length := ⟨_, rfl⟩
  have hnb : n ≤ cp := by have := h.1; omega
  have hn2 := h.2.1
  unfold maxLen at hn2
  have HN := Lib.hid hn.symm
  rw [← hn] at  HG ⊢
  have hnle : n ≤ xs.length := by omega
  clear hn h
  clear hsz
  cases hg : goodB xs with
  | false =>
    have HA := Lib.hid (ask_no (i := i) hg)
    rw [show DocG.Post xs w = fun e w' => e = .returned (.bool false) ∧ Below w.heap.size w w' by unfold DocG.Post; rw [hg]] at HG
    clear hg
    go_enter Tryd.func31, Tryd.ntmps31
    go_wp2_with fail
    refine HG.out.mono ?_
    rintro e w1 ⟨rfl, hb1⟩
    go_wp2_with fail
    go_ret
    exact ⟨ret_bool HA.out.symm, hb1⟩
  | true =>
    have HA := Lib.hid (ask_in (i := i) hg)
    rw [HN.out] at HA
    rw [show DocG.Post xs w = fun e w' => e = .returned (.bool true) ∧ Below w.heap.size w w' by unfold DocG.Post; rw [hg]] at HG
    clear hg
    by_cases h0 : 0 ≤ i
    · have HD := Lib.hid (show decide (i < (n : Int)) = inB i 0 ((n : Int) - 1) by unfold inB; by_cases h : i < (n : Int) <;> simp [h, h0] <;> omega)
      go_enter Tryd.func31, Tryd.ntmps31
      go_wp2_with fail
      refine HG.out.mono ?_
      rintro e w1 ⟨rfl, hb1⟩
      go_wp2_with fail
      go_ret
      exact ⟨ret_bool (by rw [HA.out]; exact HD.out), hb1⟩
    · have HD := Lib.hid (show inB i 0 ((n : Int) - 1) = false from inB_not (fun h => h0 h.1))
      go_enter Tryd.func31, Tryd.ntmps31
      go_wp2_with fail
      refine HG.out.mono ?_
      rintro e w1 ⟨rfl, hb1⟩
      go_wp2_with fail
      go_ret
      exact ⟨ret_bool (by rw [HA.out]; exact HD.out.symm), hb1⟩
set_option maxRecDepth 100000 in
theorem l6Up (v : Value) (xs : List M) (i : Nat) (w : World) (h : Is LSection.rec w v xs) (hi : i < xs.length) :
    Calls Tryd.prog 56 #[v, .int .i64 i] w fun e w' => e = .returned (.int .i64 (up xs i)) ∧ Below w.heap.size w w' := by
  obtain ⟨a, cp, rfl, h⟩ := h
  have hc := h.at_ LSection.rec
  obtain ⟨n, hn⟩ : ∃ n, n = xs.length := ⟨_, rfl⟩
  have hnb : n ≤ cp := by have := h.1; omega
  have hn2 := h.2.1
  unfold maxLen at hn2
  have HN := Lib.hid hn.symm
  rw [← hn]
  have hnle : n ≤ xs.length := by omega
  clear hn h
  obtain ⟨b, o, rfl, hbl, hcellI⟩ := hc.out i xs[i] (List.getElem?_eq_getElem hi)
  have HDI := Lib.hid (dep_at (List.getElem?_eq_getElem hi))
  have hi2 : i < n := by have := HN.out; omega
  have HEC := Lib.hid hcellI
  clear hcellI
  have i0 : 0 ≤ (i : Int) := by omega
  have i1 : (i : Int) < (n : Int) := by omega
  have HU := Lib.hid (show up xs i = upF xs (dep xs i) i from rfl)
  rw [HDI.out] at HU
  clear HDI
  generalize xs[i] = Y at *
  go_enter Tryd.func56, Tryd.ntmps56
  go_wp2_with fail
  go_loopw [5] (fun t wr => ∃ k : Int, -1 ≤ k ∧ k < (n : Int) ∧ t = .int .i64 k ∧ Hid (up xs i = upF xs Y.depth (k + 1).toNat) ∧ Below w.heap.size w wr) (fun t _ => (intOf t + 1).toNat)
  case atStart => exact ⟨(i : Int) - 1, by omega, by omega, rfl, Lib.hid (by rw [HU.out]; congr 1; omega), Below.refl _ _⟩
  case round =>
    clear HU
    obtain ⟨k, hk1, hk2, rfl, HU, hb⟩ := hrel
    by_cases hk0 : 0 ≤ k
    · obtain ⟨m, rfl⟩ := Int.eq_ofNat_of_zero_le hk0
      have hxm : m < xs.length := by omega
      obtain ⟨b', o', he, hbl', hcell1⟩ := hc.out (m) xs[m] (List.getElem?_eq_getElem hxm)
      simp only [Option.some.injEq, Addr.mk.injEq, and_true] at he
      obtain ⟨rfl, rfl⟩ := he
      have HP := Lib.hid (List.getElem?_eq_getElem hxm)
      obtain ⟨d0, d1⟩ := LSection.cells (hcell1.below LSection.rec hb hbl)
      obtain ⟨q0, q1⟩ := LSection.cells (HEC.out.below LSection.rec hb hbl)
      simp only [LSection.rec_n] at d0 d1 q0 q1
      clear hcell1 hbl'
      generalize xs[m] = P at *
      have HDP := Lib.hid (dep_at HP.out)
      have HU1 := Lib.hid (show up xs i = upF xs Y.depth (m + 1) by rw [HU.out]; congr 1)
      clear HU
      by_cases hd : P.depth < Y.depth
      · have HR := Lib.hid (show (m : Int) = up xs i by rw [HU1.out, upF_hit (by rw [HDP.out]; exact hd)])
        clear HU1
        go_upto_region 4 with fail
        go_quiet (fail)
        go_wp2_with fail
        go_ret
        exact ⟨ret_int HR.out, belowD hb _⟩
      · have HU2 := Lib.hid (show up xs i = upF xs Y.depth ((m : Int) - 1 + 1).toNat by rw [HU1.out, upF_miss (by rw [HDP.out]; exact hd)]; congr 1; omega)
        clear HU1
        go_upto_region 4 with fail
        go_quiet (fail)
        have hb2 := fun n => belowD hb n
        go_wp2_with fail
        go_roundw
        case rel => exact ⟨(m : Int) - 1, by omega, by omega, rfl, HU2, hb2 _⟩
        case measure => simp [intOf]
    · have HR := Lib.hid (show (-1 : Int) = up xs i by rw [HU.out, show (k + 1).toNat = 0 by omega]; rfl)
      go_wp2_with fail
      go_ret
      exact ⟨ret_int HR.out, hb⟩
set_option maxRecDepth 100000 in
theorem ownerOf (v : Value) (xs : List M) (i : Nat) (w : World) (h : Is LSection.rec w v xs) (hi : i < xs.length) :
    Calls Tryd.prog 35 #[v, .int .i64 i] w fun e w' => e = .returned (.int .i64 (up xs i)) ∧ Below w.heap.size w w' := by
  obtain ⟨a, cp, rfl, h⟩ := h
  have hc := h.at_ LSection.rec
  obtain ⟨n, hn⟩ : ∃ n, n = xs.length := ⟨_, rfl⟩
  have hnb : n ≤ cp := by have := h.1; omega
  have hn2 := h.2.1
  unfold maxLen at hn2
  have HN := Lib.hid hn.symm
  rw [← hn]
  have hnle : n ≤ xs.length := by omega
  clear hn h
  obtain ⟨b, o, rfl, hbl, hcellI⟩ := hc.out i xs[i] (List.getElem?_eq_getElem hi)
  have HDI := Lib.hid (dep_at (List.getElem?_eq_getElem hi))
  have hi2 : i < n := by have := HN.out; omega
  have HEC := Lib.hid hcellI
  clear hcellI
  have i0 : 0 ≤ (i : Int) := by omega
  have i1 : (i : Int) < (n : Int) := by omega
  have HU := Lib.hid (show up xs i = upF xs (dep xs i) i from rfl)
  rw [HDI.out] at HU
  clear HDI
  generalize xs[i] = Y at *
  go_enter Tryd.func35, Tryd.ntmps35
  go_wp2_with fail
  go_loopw [5] (fun t wr => ∃ k : Int, -1 ≤ k ∧ k < (n : Int) ∧ t = .int .i64 k ∧ Hid (up xs i = upF xs Y.depth (k + 1).toNat) ∧ Below w.heap.size w wr) (fun t _ => (intOf t + 1).toNat)
  case atStart => exact ⟨(i : Int) - 1, by omega, by omega, rfl, Lib.hid (by rw [HU.out]; congr 1; omega), Below.refl _ _⟩
  case round =>
    clear HU
    obtain ⟨k, hk1, hk2, rfl, HU, hb⟩ := hrel
    by_cases hk0 : 0 ≤ k
    · obtain ⟨m, rfl⟩ := Int.eq_ofNat_of_zero_le hk0
      have hxm : m < xs.length := by omega
      obtain ⟨b', o', he, hbl', hcell1⟩ := hc.out (m) xs[m] (List.getElem?_eq_getElem hxm)
      simp only [Option.some.injEq, Addr.mk.injEq, and_true] at he
      obtain ⟨rfl, rfl⟩ := he
      have HP := Lib.hid (List.getElem?_eq_getElem hxm)
      obtain ⟨d0, d1⟩ := LSection.cells (hcell1.below LSection.rec hb hbl)
      obtain ⟨q0, q1⟩ := LSection.cells (HEC.out.below LSection.rec hb hbl)
      simp only [LSection.rec_n] at d0 d1 q0 q1
      clear hcell1 hbl'
      generalize xs[m] = P at *
      have HDP := Lib.hid (dep_at HP.out)
      have HU1 := Lib.hid (show up xs i = upF xs Y.depth (m + 1) by rw [HU.out]; congr 1)
      clear HU
      by_cases hd : Y.depth ≤ P.depth
      · have HU2 := Lib.hid (show up xs i = upF xs Y.depth ((m : Int) - 1 + 1).toNat by rw [HU1.out, upF_miss (by rw [HDP.out]; omega)]; congr 1; omega)
        clear HU1
        go_wp2_with fail
        go_quiet (fail)
        have hb2 := fun n => belowD hb n
        go_wp2_with fail
        go_roundw
        case rel => exact ⟨(m : Int) - 1, by omega, by omega, rfl, HU2, hb2 _⟩
        case measure => simp [intOf]
      · have HR := Lib.hid (show (m : Int) = up xs i by rw [HU1.out, upF_hit (by rw [HDP.out]; omega)])
        clear HU1
        go_wp2_with fail
        go_quiet (fail)
        go_wp2_with fail
        go_ret
        exact ⟨ret_int HR.out, belowD hb _⟩
    · have HR := Lib.hid (show k = up xs i by rw [HU.out, show (k + 1).toNat = 0 by omega]; show k = -1; omega)
      have hd0 : decide (0 ≤ k) = false := by simpa using hk0
      go_wp2_with fail
      go_quiet (fail)
      go_wp2_with fail
      go_ret
      exact ⟨ret_int HR.out, belowD hb _⟩
end Go.Proofs.YtmpolpeomabcfaaDoor.DocO
