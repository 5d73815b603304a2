/- Documents: a section's number, the model's and the program's functions. No condition but that titles are no longer than strings can be. -/
import Derived.Test.YtmpolpeomabcfaaDoorDocO
import Derived.Test.YtmpolpeomabcfaaDoorNum
import Derived.Test.YtmpolpeomabcfaaDoorShelf
import Derived.BigQuiet
namespace Go.Proofs.YtmpolpeomabcfaaDoor.DocN
open Go.RowKit Bs Word Doc DocO
set_option linter.unusedVariables false
theorem below_grow (w : World) (k : Nat) (os : Array Obj) : Below w.heap.size w (Sort.grow (w.drewN k) os) :=
  ⟨rfl, rfl, rfl, by show w.heap.size ≤ (w.heap ++ os).size; simp, fun i hi => by show (w.heap ++ os)[i]? = _; rw [Array.getElem?_append_left hi]⟩
theorem numC (n : Int) (w : World) (h0 : 0 ≤ n) (h1 : n ≤ 1000) :
    Calls Tryd.prog 57 #[.int .i64 n] w fun e w' => e = .returned (.string (num n)) ∧ Below w.heap.size w w' :=
  (Num.l1Num n w (by omega) (by omega)).mono fun e w' ⟨he, k, hk⟩ => ⟨he, by subst hk; exact belowD (Below.refl _ _) k⟩
theorem itoaC (k : Nat) (w : World) (h : k < 100) :
    Calls Tryd.prog 54 #[.int .i64 (k : Int)] w fun e w' => e = .returned (.string (num k)) ∧ Below w.heap.size w w' :=
  (Tryd.strconv_Itoa_small k h w).mono fun e w' ⟨he, hk⟩ => ⟨he.trans (by unfold num Lib.itoa; rw [if_neg (by omega)]; rfl), by subst hk; exact Below.refl _ _⟩
theorem ret_str {a b : ByteArray} (h : a = b) : Ending.returned (.string a) = .returned (.string b) := by rw [h]
/-- of one depth or not: who belongs where -/
theorem sib_no {xs : List M} {i m : Nat} (h : goodB xs = true) (hi : i < xs.length) (hm : m < xs.length) (hd : (dep xs m == dep xs i) = false) : sib xs i m = false := by
  unfold sib
  rw [beq_eq_false_iff_ne] at hd ⊢
  exact fun e => hd (same_dep h hi hm e)
set_option maxRecDepth 100000 in
set_option maxHeartbeats 1600000 in
theorem l6Number (K : Nat) : ∀ (v : Value) (xs : List M) (i : Nat) (w : World), i < K → Is LSection.rec w v xs → goodB xs = true → i < xs.length →
    Calls Tryd.prog 34 #[v, .int .i64 i] w fun e w' => e = .returned (.string (numB xs i)) ∧ Below w.heap.size w w' := by
  induction K with
  | zero => intro v xs i w hK; omega
  | succ K ih =>
  intro v xs i w hK h hg hi
  have HI := Lib.hid h
  obtain ⟨a, cp, rfl, h⟩ := h
  have hc := h.at_ LSection.rec
  obtain ⟨n, hn⟩ : ∃ n, n = xs.length := ⟨_, rfl⟩
  have hnb : n ≤ cp := by have := h.1; omega
  have hn2 := h.2.1
  unfold maxLen at hn2
  have HN := Lib.hid hn.symm
  rw [← hn] at  HI ⊢
  have hnle : n ≤ xs.length := by omega
  clear hn h
  obtain ⟨b, o, rfl, hbl, hcellI⟩ := hc.out i xs[i] (List.getElem?_eq_getElem hi)
  have HDI := Lib.hid (dep_at (List.getElem?_eq_getElem hi))
  have hi2 : i < n := by have := HN.out; omega
  have HEC := Lib.hid hcellI
  clear hcellI
  have i0 : 0 ≤ (i : Int) := by omega
  have i1 : (i : Int) < (n : Int) := by omega
  have HIS := Lib.hid (fun j hj => @sib_no xs i j hg hi hj)
  have HUp := Lib.hid (fun (m : Nat) (hm : m < xs.length) W (hW : Below w.heap.size w W) => DocO.l6Up _ xs m W (HI.out.below LSection.rec hW) hm)
  have HIH := Lib.hid (fun (u : Nat) (hu : u < i) W (hW : Below w.heap.size w W) => ih _ xs u W (by omega) (HI.out.below LSection.rec hW) hg (by omega))
  have h12 := good_len hg
  rw [HN.out] at h12
  have HUL := Lib.hid (up_lt xs i)
  have HIL := Lib.hid hi
  generalize xs[i] = Y at *
  clear ih hg hi
  have HTop := Lib.hid (fun h => @numB_top xs i h)
  have HUpN := Lib.hid (fun u h => @numB_up xs i u h)
  have HCE := Lib.hid (show cntP (sib xs i) (i + 1) = cnt xs i from rfl)
  go_enter Tryd.func34, Tryd.ntmps34
  go_wp2_with fail
  refine (HUp.out i HIL.out _ (Below.refl _ _)).mono ?_
  rintro e w1 ⟨rfl, hb1⟩
  obtain ⟨U, hU⟩ : ∃ U, U = up xs i := ⟨_, rfl⟩
  rw [← hU] at HUL ⊢
  have HUE := Lib.hid hU.symm
  clear hU
  have hul1 : -1 ≤ U := HUL.out.1
  have hul2 : U < (i : Int) := HUL.out.2
  go_wp2_with fail
  go_loopw [6, 7] (fun q t wr => ∃ m : Nat, m ≤ i + 1 ∧ t = .int .i64 m ∧ q = .int .i64 (cntP (sib xs i) m : Nat) ∧ Below w.heap.size w wr) (fun _ t _ => i + 1 - (intOf t).toNat)
  case atStart => exact ⟨0, by omega, rfl, rfl, hb1⟩
  case round =>
    clear hb1
    obtain ⟨m, hm, rfl, rfl, hb⟩ := hrel
    have hcl := cntP_le (sib xs i) m
    obtain ⟨c, hc'⟩ : ∃ c, c = cntP (sib xs i) m := ⟨_, rfl⟩
    rw [← hc'] at hcl ⊢
    have HCc := Lib.hid hc'
    clear hc'
    have m0 : 0 ≤ (m : Int) := by omega
    by_cases hle : m ≤ i
    · have hxm : m < xs.length := by have := HN.out; omega
      obtain ⟨b', o', he, hbl', hcell1⟩ := hc.out (m) xs[m] (List.getElem?_eq_getElem hxm)
      simp only [Option.some.injEq, Addr.mk.injEq, and_true] at he
      obtain ⟨rfl, rfl⟩ := he
      have HP := Lib.hid (List.getElem?_eq_getElem hxm)
      have HDP := Lib.hid (dep_at (List.getElem?_eq_getElem hxm))
      have HGP := LSection.grown (hcell1.below LSection.rec hb hbl) (Nat.lt_of_lt_of_le hbl hb.size)
      have HGY := LSection.grown (HEC.out.below LSection.rec hb hbl) (Nat.lt_of_lt_of_le hbl hb.size)
      have d0 := fun d os => (LSection.cells (HGP.out d os)).1
      have q0 := fun d os => (LSection.cells (HGY.out d os)).1
      simp only [LSection.rec_n] at d0 q0
      clear hcell1 hbl' HGP HGY
      generalize xs[m] = P at *
      have m1 : (m : Int) ≤ (i : Int) := by omega
      have m2 : (m : Int) < (n : Int) := by omega
      cases hd : (P.depth == Y.depth) with
      | false =>
        have HC2 := Lib.hid (show c = cntP (sib xs i) (m + 1) by rw [HCc.out, cntP_no (HIS.out m hxm (by rw [HDP.out, HDI.out]; exact hd))])
        go_wp2_with fail
        refine wp_region_quiet_below (by kernel_rfl) (by kernel_rfl) ?_
        repeat (go_big_quiet_step (fail))
        refine wpQuiet_nil ?_
        intro _ hw'
        obtain ⟨⟨dq, osq⟩, hw''⟩ := hw'
        subst hw''
        have hb2 := hb.trans ((below_regrown wr dq osq).mono hb.size)
        clear hb d0 q0
        go_wp2_with fail
        go_roundw
        case rel => exact ⟨m + 1, by omega, by go_num, by rw [← HC2.out], hb2⟩
        case measure => simp [intOf]; omega
      | true =>
        have HUm := Lib.hid (fun d os => HUp.out m hxm (Sort.grow (redrawn wr d) os) (hb.trans ((below_regrown wr d os).mono hb.size)))
        have HSm := Lib.hid (show sib xs i m = (up xs m == U) by rw [← HUE.out]; rfl)
        generalize up xs m = Um at *
        cases hs : (Um == U) with
        | false =>
          have HC2 := Lib.hid (show c = cntP (sib xs i) (m + 1) by rw [HCc.out, cntP_no (by rw [HSm.out]; exact hs)])
          go_wp2_with fail
          refine wp_region_quiet_below (by kernel_rfl) (by kernel_rfl) ?_
          repeat (go_big_quiet_step ((go_at_call 56; exact Calls.regrown_of (HUm.out _ _))))
          refine wpQuiet_nil ?_
          intro _ hw'
          obtain ⟨⟨dq, osq⟩, hw''⟩ := hw'
          subst hw''
          have hb2 := hb.trans ((below_regrown wr dq osq).mono hb.size)
          clear hb d0 q0
          go_wp2_with fail
          go_roundw
          case rel => exact ⟨m + 1, by omega, by go_num, by rw [← HC2.out], hb2⟩
          case measure => simp [intOf]; omega
        | true =>
          have HC2 := Lib.hid (show c + 1 = cntP (sib xs i) (m + 1) by rw [HCc.out, cntP_yes (by rw [HSm.out]; exact hs)])
          go_wp2_with fail
          refine wp_region_quiet_below (by kernel_rfl) (by kernel_rfl) ?_
          repeat (go_big_quiet_step ((go_at_call 56; exact Calls.regrown_of (HUm.out _ _))))
          refine wpQuiet_nil ?_
          intro _ hw'
          obtain ⟨⟨dq, osq⟩, hw''⟩ := hw'
          subst hw''
          have hb2 := hb.trans ((below_regrown wr dq osq).mono hb.size)
          clear hb d0 q0
          go_wp2_with fail
          go_roundw
          case rel => exact ⟨m + 1, by omega, by go_num, by rw [← HC2.out]; go_num, hb2⟩
          case measure => simp [intOf]; omega
    · have m1 : ¬ (m : Int) ≤ (i : Int) := by omega
      have HC2 := Lib.hid (show c = cnt xs i by rw [← HCE.out, HCc.out, show m = i + 1 by omega])
      have HNm := Lib.hid (fun W => numC (c : Nat) W (by omega) (by omega))
      by_cases hu : U < 0
      · have HR := Lib.hid (show num (c : Nat) = numB xs i by rw [HTop.out (by rw [HUE.out]; exact hu), HC2.out])
        generalize num (c : Nat) = NC at *
        go_wp2_with fail
        refine (HNm.out _).mono ?_
        rintro e w4 ⟨rfl, hb4⟩
        have hb5 := hb.trans (hb4.mono hb.size)
        go_wp2_with fail
        go_ret
        exact ⟨ret_str HR.out, hb5⟩
      · obtain ⟨u, rfl⟩ := Int.eq_ofNat_of_zero_le (show 0 ≤ U by omega)
        have HR := Lib.hid (show numB xs u ++ ⟨#[46]⟩ ++ num (c : Nat) = numB xs i by rw [HUpN.out u HUE.out, HC2.out])
        have hsz := numB_size (xs := xs) (u + 1) u (by omega) (by omega)
        have hsn := num_size (c : Nat) (by omega) (by omega)
        have g1 : ¬ (9223372036854775807 < (numB xs u).size + 1) := by omega
        have g2 : ¬ (9223372036854775807 < (numB xs u).size + 1 + (num (c : Nat)).size) := by omega
        have HIu := Lib.hid (HIH.out u (by omega))
        clear hsz hsn HIH
        generalize num (c : Nat) = NC at *
        generalize numB xs u = NU at *
        go_wp2_with fail
        refine (HIu.out _ hb).mono ?_
        rintro e w4 ⟨rfl, hb4⟩
        have hb5 := hb.trans (hb4.mono hb.size)
        go_wp2_with fail
        refine (HNm.out _).mono ?_
        rintro e w6 ⟨rfl, hb6⟩
        have hb7 := hb5.trans (hb6.mono hb5.size)
        go_wp2_with fail
        go_ret
        exact ⟨ret_str HR.out, hb7⟩
set_option maxRecDepth 100000 in
set_option maxHeartbeats 1600000 in
theorem numberOf (K : Nat) : ∀ (v : Value) (xs : List M) (i : Nat) (w : World), i < K → Is LSection.rec w v xs → goodB xs = true → i < xs.length →
    Calls Tryd.prog 32 #[v, .int .i64 i] w fun e w' => e = .returned (.string (numB xs i)) ∧ Below w.heap.size w w' := by
  induction K with
  | zero => intro v xs i w hK; omega
  | succ K ih =>
  intro v xs i w hK h hg hi
  have HI := Lib.hid h
  obtain ⟨a, cp, rfl, h⟩ := h
  have hc := h.at_ LSection.rec
  obtain ⟨n, hn⟩ : ∃ n, n = xs.length := ⟨_, rfl⟩
  have hnb : n ≤ cp := by have := h.1; omega
  have hn2 := h.2.1
  unfold maxLen at hn2
  have HN := Lib.hid hn.symm
  rw [← hn] at  HI ⊢
  have hnle : n ≤ xs.length := by omega
  clear hn h
  obtain ⟨b, o, rfl, hbl, hcellI⟩ := hc.out i xs[i] (List.getElem?_eq_getElem hi)
  have HDI := Lib.hid (dep_at (List.getElem?_eq_getElem hi))
  have hi2 : i < n := by have := HN.out; omega
  have HEC := Lib.hid hcellI
  clear hcellI
  have i0 : 0 ≤ (i : Int) := by omega
  have i1 : (i : Int) < (n : Int) := by omega
  have HIS := Lib.hid (fun j hj => @sib_no xs i j hg hi hj)
  have HUp := Lib.hid (fun (m : Nat) (hm : m < xs.length) W (hW : Below w.heap.size w W) => DocO.ownerOf _ xs m W (HI.out.below LSection.rec hW) hm)
  have HIH := Lib.hid (fun (u : Nat) (hu : u < i) W (hW : Below w.heap.size w W) => ih _ xs u W (by omega) (HI.out.below LSection.rec hW) hg (by omega))
  have h12 := good_len hg
  rw [HN.out] at h12
  have HUL := Lib.hid (up_lt xs i)
  have HIL := Lib.hid hi
  generalize xs[i] = Y at *
  clear ih hg hi
  have HTop := Lib.hid (fun h => @numB_top xs i h)
  have HUpN := Lib.hid (fun u h => @numB_up xs i u h)
  have HCE := Lib.hid (show cntP (sib xs i) (i + 1) = cnt xs i from rfl)
  go_enter Tryd.func32, Tryd.ntmps32
  go_wp2_with fail
  refine (HUp.out i HIL.out _ (Below.refl _ _)).mono ?_
  rintro e w1 ⟨rfl, hb1⟩
  obtain ⟨U, hU⟩ : ∃ U, U = up xs i := ⟨_, rfl⟩
  rw [← hU] at HUL ⊢
  have HUE := Lib.hid hU.symm
  clear hU
  have hul1 : -1 ≤ U := HUL.out.1
  have hul2 : U < (i : Int) := HUL.out.2
  have s1 : IntKind.i64.wrap (U + 1) = U + 1 := IntWalk.i64_in _ (by omega)
  have HLow := Lib.hid (fun (m : Nat) (h : (m : Int) ≤ U + 1) => @cnt_low xs i m (by rw [HUE.out]; exact h))
  go_wp2_with fail
  go_loopw [6, 7] (fun q t wr => ∃ m : Nat, m ≤ i + 1 ∧ t = .int .i64 m ∧ q = .int .i64 (cntP (sib xs i) m : Nat) ∧ Below w.heap.size w wr) (fun _ t _ => i + 1 - (intOf t).toNat)
  case atStart => exact ⟨(U + 1).toNat, by omega, by rw [Int.toNat_of_nonneg (by omega)], by rw [HLow.out _ (by omega)]; rfl, hb1⟩
  case round =>
    clear hb1 s1
    obtain ⟨m, hm, rfl, rfl, hb⟩ := hrel
    have hcl := cntP_le (sib xs i) m
    obtain ⟨c, hc'⟩ : ∃ c, c = cntP (sib xs i) m := ⟨_, rfl⟩
    rw [← hc'] at hcl ⊢
    have HCc := Lib.hid hc'
    clear hc'
    have m0 : 0 ≤ (m : Int) := by omega
    by_cases hle : m ≤ i
    · have hxm : m < xs.length := by have := HN.out; omega
      have m1 : (m : Int) ≤ (i : Int) := by omega
      have HUm := Lib.hid (HUp.out m hxm wr hb)
      have HSm := Lib.hid (show sib xs i m = (up xs m == U) by rw [← HUE.out]; rfl)
      generalize up xs m = Um at *
      cases hs : (Um == U) with
      | false =>
        have HC2 := Lib.hid (show c = cntP (sib xs i) (m + 1) by rw [HCc.out, cntP_no (by rw [HSm.out]; exact hs)])
        go_wp2_with fail
        refine HUm.out.mono ?_
        rintro e w2 ⟨rfl, hb2⟩
        have hb3 := hb.trans (hb2.mono hb.size)
        go_wp2_with fail
        go_roundw
        case rel => exact ⟨m + 1, by omega, by go_num, by rw [← HC2.out], hb3⟩
        case measure => simp [intOf]; omega
      | true =>
        have HC2 := Lib.hid (show c + 1 = cntP (sib xs i) (m + 1) by rw [HCc.out, cntP_yes (by rw [HSm.out]; exact hs)])
        go_wp2_with fail
        refine HUm.out.mono ?_
        rintro e w2 ⟨rfl, hb2⟩
        have hb3 := hb.trans (hb2.mono hb.size)
        go_wp2_with fail
        go_roundw
        case rel => exact ⟨m + 1, by omega, by go_num, by rw [← HC2.out]; go_num, hb3⟩
        case measure => simp [intOf]; omega
    · have m1 : ¬ (m : Int) ≤ (i : Int) := by omega
      have HC2 := Lib.hid (show c = cnt xs i by rw [← HCE.out, HCc.out, show m = i + 1 by omega])
      have HNm := Lib.hid (fun W => itoaC c W (by omega))
      go_wp2_with fail
      refine (HNm.out _).mono ?_
      rintro e w4 ⟨rfl, hb4⟩
      have hb5 := hb.trans (hb4.mono hb.size)
      by_cases hu : U < 0
      · have HR := Lib.hid (show num (c : Nat) = numB xs i by rw [HTop.out (by rw [HUE.out]; exact hu), HC2.out])
        generalize num (c : Nat) = NC at *
        go_wp2_with fail
        go_ret
        exact ⟨ret_str HR.out, hb5⟩
      · obtain ⟨u, rfl⟩ := Int.eq_ofNat_of_zero_le (show 0 ≤ U by omega)
        have HR := Lib.hid (show numB xs u ++ ⟨#[46]⟩ ++ num (c : Nat) = numB xs i by rw [HUpN.out u HUE.out, HC2.out])
        have hsz := numB_size (xs := xs) (u + 1) u (by omega) (by omega)
        have hsn := num_size (c : Nat) (by omega) (by omega)
        have g1 : ¬ (9223372036854775807 < (numB xs u).size + 1) := by omega
        have g2 : ¬ (9223372036854775807 < (numB xs u).size + 1 + (num (c : Nat)).size) := by omega
        have HIu := Lib.hid (HIH.out u (by omega))
        clear hsz hsn HIH
        generalize num (c : Nat) = NC at *
        generalize numB xs u = NU at *
        go_wp2_with fail
        refine (HIu.out _ hb5).mono ?_
        rintro e w6 ⟨rfl, hb6⟩
        have hb7 := hb5.trans (hb6.mono hb5.size)
        go_wp2_with fail
        go_ret
        exact ⟨ret_str HR.out, hb7⟩
end Go.Proofs.YtmpolpeomabcfaaDoor.DocN
