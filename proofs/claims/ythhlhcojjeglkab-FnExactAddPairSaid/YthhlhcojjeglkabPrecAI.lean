/- AddPair, the program. No condition. -/
import Derived.Test.YthhlhcojjeglkabPrecAS
import Derived.Test.YthhlhcojjeglkabPrecGI
namespace Go.Proofs.Ythhlhcojjeglkab.PrecA
open Go.RowKit Bs Word PrecM PrecB PrecG PrecR PrecS IntF Sq
set_option linter.unusedVariables false
theorem at_pair {w : World} {g : Nat} {a b : Int} (h : Bx w g 48 #[.int .i64 a, .int .i64 b]) : At LIntA2.rec w g 0 ⟨a, b⟩ := fun j v hv => by
  have hj : j < 2 := (List.getElem?_eq_some_iff.1 hv).1
  rw [Nat.zero_add, h.cell j]
  match j, hj with
  | 0, _ => exact hv
  | 1, _ => exact hv
theorem own_len {w : World} {A : Nat} {v : Value} {xs : List M} (h : Own LIntA2.rec 48 w A v xs) : ∃ a n c, v = .slice a n c ∧ n = xs.length := by
  obtain ⟨a, c, e, _⟩ := h.is
  exact ⟨a, _, c, e, rfl⟩
theorem concat3 (X : World) (B : Nat) (v1 v2 v3 : Value) (z1 z2 z3 : List LIntA2.R) (h1 : IsS LIntA2.rec X v1 z1) (h2 : IsS LIntA2.rec X v2 z2) (h3 : IsS LIntA2.rec X v3 z3) (hX : Bx X B 22 #[v1, v2, v3]) (hsum : (z1 ++ z2 ++ z3).length ≤ 1048576) :
    Calls Try.prog 30 #[.slice (some ⟨B, 0, none⟩) 3 3] X fun e w' => ∃ v, e = .returned v ∧ Own LIntA2.rec 48 w' X.heap.size v (z1 ++ z2 ++ z3) ∧ Below X.heap.size X w' := by
  have hl : [z1, z2, z3].flatten = z1 ++ z2 ++ z3 := by simp
  rw [← hl] at hsum ⊢
  refine LIntA2.concat B 3 3 [v1, v2, v3] [z1, z2, z3] X hX.lt (Nat.le_refl _) (by unfold maxLen; omega) rfl rfl ?_ ?_ hsum
  · intro j v hv
    rw [hX.cell j]
    simpa using hv
  · intro j v xs hv hx
    match j, hv, hx with
    | 0, hv, hx =>
      obtain rfl : v1 = v := by simpa using hv
      obtain rfl : z1 = xs := by simpa using hx
      exact h1
    | 1, hv, hx =>
      obtain rfl : v2 = v := by simpa using hv
      obtain rfl : z2 = xs := by simpa using hx
      exact h2
    | 2, hv, hx =>
      obtain rfl : v3 = v := by simpa using hv
      obtain rfl : z3 = xs := by simpa using hx
      exact h3
    | j + 3, hv, hx => simp at hv
set_option maxRecDepth 100000 in
set_option maxHeartbeats 12800000 in
theorem addI (v : Value) (r : LPrecedence.R) (a b : Int) (w : World) (h0 : LPrecedence.IsS w v r) :
    Calls Try.prog 15 #[v, .int .i64 a, .int .i64 b] w (Post r a b w) := by
  have hIs0 := h0.is
  obtain ⟨Kd, z⟩ := r
  obtain ⟨s, rfl, hS⟩ := h0
  have hS0 := hS
  obtain ⟨b0, o0, cp, rfl, hbl, hxc, hcm, hcell⟩ := hS
  simp only at hS0 hcell hxc hIs0 ⊢
  have HIS := Lib.hid hS0
  have HC := Lib.hid hcell
  have hIs := Lib.hid hIs0
  obtain ⟨n, hn⟩ : ∃ n, n = z.length := ⟨_, rfl⟩
  have HN := Lib.hid hn.symm
  rw [← hn] at HIS hIs hxc ⊢
  unfold maxLen at hcm
  clear hn hS0 hcell hIs0
  obtain ⟨i0, hi, hz0, hz1, hz2⟩ := info_parts LIntA2.infoK
  have HI0 := Lib.hid hi
  have HZ0 := Lib.hid (And.intro hz0 (And.intro hz1 hz2))
  clear hi hz0 hz1 hz2
  have hb0 := (Below.refl w.heap.size w).alloc (Nat.le_refl _) (.cells #[.int .i64 Kd, .slice (some ⟨b0, o0, none⟩) n cp] 29)
  have HBP0 := Lib.hid (Bx.alloc (Bx.new w 29 #[.int .i64 Kd, .slice (some ⟨b0, o0, none⟩) n cp]) (.cells #[.int .i64 0, .slice none 0 0] 29))
  have HBR0 := Lib.hid (Bx.new (w.alloc (.cells #[.int .i64 Kd, .slice (some ⟨b0, o0, none⟩) n cp] 29)) 29 #[.int .i64 0, .slice none 0 0])
  have hba := hb0.alloc hb0.size (.cells #[.int .i64 0, .slice none 0 0] 29)
  have hRB : w.heap.size ≤ (w.alloc (.cells #[.int .i64 Kd, .slice (some ⟨b0, o0, none⟩) n cp] 29)).heap.size := hb0.size
  have hPR : w.heap.size ≠ (w.alloc (.cells #[.int .i64 Kd, .slice (some ⟨b0, o0, none⟩) n cp] 29)).heap.size := by simp
  go_enter Try.func15, Try.ntmps15
  go_upto_region 1 with fail
  generalize (w.alloc (.cells #[.int .i64 Kd, .slice (some ⟨b0, o0, none⟩) n cp] 29)).alloc (.cells #[.int .i64 0, .slice none 0 0] 29) = wa at *
  have eRB : (w.alloc (.cells #[.int .i64 Kd, .slice (some ⟨b0, o0, none⟩) n cp] 29)).heap.size = w.heap.size + 1 := by simp
  rw [eRB] at HBR0 hRB hPR
  clear eRB
  generalize w.heap.size + 1 = RB at *
  obtain ⟨P0, hP0⟩ : ∃ P, P = w.heap.size := ⟨_, rfl⟩
  have HIA := Lib.hid (hIs.out.below hba)
  have hPl := HBP0.out.lt
  have p0 := HBP0.out.cell 0
  have p1 := HBP0.out.cell 1
  simp only [List.getElem?_toArray, List.getElem?_cons_zero, List.getElem?_cons_succ] at p0 p1
  go_wp2_with fail
  refine (isValid _ ⟨Kd, z⟩ _ HIA.out).mono ?_
  rintro e w1 ⟨rfl, hb1⟩
  have hbx := hba.trans (hb1.mono hba.size)
  have HBP1 := Lib.hid (HBP0.out.kept hb1)
  have HBR1 := Lib.hid (HBR0.out.kept hb1)
  clear hb1 HBP0 HBR0 HIA hba p0 p1 hb0 hPl
  simp only
  cases hg : goodB Kd z with
  | false =>
    have HA := Lib.hid (ad_bad (r := ⟨Kd, z⟩) (a := a) (b := b) (by unfold okA; rw [hg]; rfl))
    clear hg
    have r0 := HBR1.out.cell 0
    have r1 := HBR1.out.cell 1
    have f0 := HBR1.out.frozen 0
    have f1 := HBR1.out.frozen 1
    simp only [List.getElem?_toArray, List.getElem?_cons_zero, List.getElem?_cons_succ] at r0 r1
    have HRS := Lib.hid (show Bx _ _ 29 #[.int .i64 0, .slice none 0 0] from Bx.set_ (Bx.set_ HBR1.out 0 (.int .i64 0)) 1 (.slice none 0 0))
    have hbs := (hbx.setCell (p := ⟨RB, 0, none⟩) hRB (.int .i64 0)).setCell (p := ⟨RB, 1, none⟩) hRB (.slice none 0 0)
    go_wp2_with fail
    clear r0 r1 f0 f1
    generalize ((w1.setCell ⟨RB, 0, none⟩ (.int .i64 0)).setCell ⟨RB, 1, none⟩ (.slice none 0 0)) = wz at *
    have r0 := HRS.out.cell 0
    have r1 := HRS.out.cell 1
    simp only [List.getElem?_toArray, List.getElem?_cons_zero, List.getElem?_cons_succ] at r0 r1
    (try simp only [Exit.inBlock, Exit.then])
    refine bodyPost_ret (v := .tuple #[.agg #[.int .i64 0, .slice none 0 0], .bool false]) (by rw [results_cell_tmp rfl]; go_simp) rfl ?_
    exact ⟨_, ⟨0, []⟩, false, rfl, HA.out, LPrecedence.Own.zero, hbs⟩
  | true =>
    have HG := Lib.hid hg
    have hzl : n ≤ 16 := by have := (good_of hg).2.2.1; have := HN.out; omega
    clear hg
    have HB8 := Lib.hid (Bx.new w1 48 #[.int .i64 a, .int .i64 b])
    have hbz := hbx.alloc hbx.size (.cells #[.int .i64 a, .int .i64 b] 48)
    have HBP3 := Lib.hid (HBP1.out.alloc (.cells #[.int .i64 a, .int .i64 b] 48))
    have HBR3 := Lib.hid (HBR1.out.alloc (.cells #[.int .i64 a, .int .i64 b] 48))
    have hG8 : w1.heap.size ≠ RB := by have := HBR1.out.lt; omega
    go_upto_region 4 with fail
    generalize w1.alloc (.cells #[.int .i64 a, .int .i64 b] 48) = w3 at *
    generalize w1.heap.size = G8 at *
    clear hbx HBP1 HBR1
    go_wp2_with fail
    go_loopw [9] (fun s9 wr => ∃ k : Nat, s9 = .int .i64 k ∧ k ≤ n ∧ Hid (First (fun y => !lexB y ⟨a, b⟩) z k) ∧ Below w.heap.size w wr ∧ Hid (Bx wr w.heap.size 29 #[.int .i64 Kd, .slice (some ⟨b0, o0, none⟩) n cp]) ∧ Hid (Bx wr RB 29 #[.int .i64 0, .slice none 0 0]) ∧ Hid (Bx wr G8 48 #[.int .i64 a, .int .i64 b])) (fun s9 _ => n - (intOf s9).toNat)
    case atStart => exact ⟨0, rfl, Nat.zero_le _, Lib.hid first_zero, hbz, HBP3, HBR3, HB8⟩
    case round =>
      clear hbz HBP3 HBR3 HB8
      obtain ⟨k, rfl, hk, HF, hb, HBP, HBR, HBG⟩ := hrel
      go_upto_region 5 with fail
      go_cut [33] (fun t wx => ∃ v : Bool, t = .bool v ∧ Hid (PosT z ⟨a, b⟩ k v) ∧ Below wr.heap.size wr wx)
      case first =>
        have p1 := fun d os => show World.cell? (Sort.grow (redrawn wr d) os) ⟨w.heap.size, 1, none⟩ = some (.slice (some ⟨b0, o0, none⟩) n cp) from (HBP.out.kept (below_regrown wr d os)).cell 1
        by_cases hlt : k < n
        · have hx : k < z.length := by have := HN.out; omega
          have HQ := Lib.hid ((HC.out k z[k] (List.getElem?_eq_getElem hx)).below LIntA2.rec hb hbl)
          have HX := Lib.hid (List.getElem?_eq_getElem hx)
          generalize z[k] = Y at *
          have hbl2 : b0 < wr.heap.size := Nat.lt_of_lt_of_le hbl hb.size
          have HGY := LIntA2.grown HQ.out hbl2
          have y0 := fun d os => (LIntA2.cells (HGY.out d os)).1
          have y1 := fun d os => (LIntA2.cells (HGY.out d os)).2
          simp only [LIntA2.rec_n] at y0 y1
          have x0 := fun d os => show World.cell? (Sort.grow (redrawn wr d) os) ⟨G8, 0, none⟩ = some (.int .i64 a) from (HBG.out.kept (below_regrown wr d os)).cell 0
          have x1 := fun d os => show World.cell? (Sort.grow (redrawn wr d) os) ⟨G8, 1, none⟩ = some (.int .i64 b) from (HBG.out.kept (below_regrown wr d os)).cell 1
          have HV := Lib.hid (posT_yes HF.out HX.out)
          have HBF := Lib.hid (fun W => isPairBefore Y ⟨a, b⟩ W)
          have k0 : (0 : Int) ≤ (k : Int) := by omega
          have k1 : (k : Int) < (n : Int) := by omega
          refine wp_region_quiet_below (by kernel_rfl) (by kernel_rfl) ?_
          repeat (go_big_quiet_step ((first | (go_at_call 29; exact Calls.regrown_of (HBF.out _)))))
          refine wpQuiet_nil ?_
          intro _ hw'
          obtain ⟨⟨dq, osq⟩, hw''⟩ := hw'
          subst hw''
          go_wp2_with fail
          go_meet
          exact ⟨_, rfl, HV, below_regrown _ _ _⟩
        · have HV := Lib.hid (posT_no (x := ⟨a, b⟩) HF.out (show z.length = k by have := HN.out; omega))
          have k1 : ¬ (k : Int) < (n : Int) := by omega
          refine wp_region_quiet_below (by kernel_rfl) (by kernel_rfl) ?_
          repeat (go_big_quiet_step (fail))
          refine wpQuiet_nil ?_
          intro _ hw'
          obtain ⟨⟨dq, osq⟩, hw''⟩ := hw'
          subst hw''
          go_wp2_with fail
          go_meet
          exact ⟨false, rfl, HV, below_regrown _ _ _⟩
      case rest =>
        obtain ⟨v, rfl, HV, hbv⟩ := hcut
        have hb2 := hb.trans (hbv.mono hb.size)
        have HBP2 := Lib.hid (HBP.out.kept hbv)
        have HBR2 := Lib.hid (HBR.out.kept hbv)
        have HBG2 := Lib.hid (HBG.out.kept hbv)
        clear hb hbv HBP HBR HBG
        cases v with
        | true =>
          have HF2 := Lib.hid (first_more HF.out (HV.out.1 rfl))
          have hkn : k < n := by obtain ⟨Y, hY, _⟩ := HV.out.1 rfl; have := (List.getElem?_eq_some_iff.1 hY).1; have := HN.out; omega
          go_wp2_with fail
          go_roundw
          case rel => exact ⟨k + 1, by go_num, by omega, HF2, hb2, HBP2, HBR2, HBG2⟩
          case measure => simp [intOf]; omega
        | false =>
          have HPos := Lib.hid (show posL z ⟨a, b⟩ = k from HV.out.2 rfl)
          clear HV HF
          go_upto_region 7 with fail
          generalize hWe : wc = W at *
          clear hWe
          have s1 : (k : Int) ≤ (n : Int) := by omega
          have s2 : (n : Int) ≤ (cp : Int) := by omega
          have s3 : (k : Int) ≤ (cp : Int) := by omega
          have s4 : (0 : Int) ≤ (k : Int) := by omega
          have HIW := Lib.hid (HIS.out.below LIntA2.rec hb2)
          have p0 := HBP2.out.cell 0
          have p1 := HBP2.out.cell 1
          have g0 := HBG2.out.cell 0
          have g1 := HBG2.out.cell 1
          simp only [List.getElem?_toArray, List.getElem?_cons_zero, List.getElem?_cons_succ] at p0 p1 g0 g1
          have hPl := HBP2.out.lt
          have hGl := HBG2.out.lt
          have HP1 := Lib.hid (show ∀ w' : World, Below W.heap.size W w' → IsS LIntA2.rec w' (.slice (some ⟨b0, o0, none⟩) k cp) (z.take k) from fun w' hb => (HIW.out.below LIntA2.rec hb).take LIntA2.rec (k := k) (by omega))
          obtain ⟨oD, hoD⟩ : ∃ oD, (if cp = k then some (⟨b0, o0, none⟩ : Addr) else some ⟨b0, o0 + k * 2, none⟩) = some ⟨b0, oD, none⟩ := by
            by_cases h : cp = k
            · exact ⟨_, if_pos h⟩
            · exact ⟨_, if_neg h⟩
          have HP3 := Lib.hid (show ∀ w' : World, Below W.heap.size W w' → IsS LIntA2.rec w' (.slice (some ⟨b0, oD, none⟩) (n - k) (cp - k)) (z.drop k) from fun w' hb => (HIW.out.below LIntA2.rec hb).drop LIntA2.rec (k := k) (some ⟨b0, oD, none⟩) hoD.symm (by omega) _ _ rfl rfl)
          have HK := Lib.hid (show ∀ w' : World, Below W.heap.size W w' → Below W.heap.size W w' ∧ w'.cell? ⟨w.heap.size, 0, none⟩ = some (.int .i64 Kd) ∧ w'.cell? ⟨w.heap.size, 1, none⟩ = some (.slice (some ⟨b0, o0, none⟩) n cp) ∧ w'.cell? ⟨G8, 0, none⟩ = some (.int .i64 a) ∧ w'.cell? ⟨G8, 1, none⟩ = some (.int .i64 b) from fun w' hb => ⟨hb, by rw [hb.cell (by assumption)]; exact p0, by rw [hb.cell (by assumption)]; exact p1, by rw [hb.cell (by assumption)]; exact g0, by rw [hb.cell (by assumption)]; exact g1⟩)
          clear p0 p1 g0 g1
          go_cut [10] (fun t wx => ∃ (g : Nat) (av : Option Addr) (cnt cv : Nat), t = .pointer (some ⟨g, 0, none⟩) ∧ Hid (Bx wx g 29 #[.int .i64 Kd, .slice av cnt cv]) ∧ Hid (Own LIntA2.rec 48 wx W.heap.size (.slice av cnt cv) (insL z ⟨a, b⟩)) ∧ Below W.heap.size W wx)
          case first =>
            have hB : Below W.heap.size W W.drew := (Below.refl _ _).drew
            refine wp_region_held_drew (S := fun w' => Below W.heap.size W w' ∧ w'.cell? ⟨w.heap.size, 0, none⟩ = some (.int .i64 Kd) ∧ w'.cell? ⟨w.heap.size, 1, none⟩ = some (.slice (some ⟨b0, o0, none⟩) n cp) ∧ w'.cell? ⟨G8, 0, none⟩ = some (.int .i64 a) ∧ w'.cell? ⟨G8, 1, none⟩ = some (.int .i64 b)) (by kernel_rfl) (HK.out _ hB) (fun hHeld => ?_)
            generalize W.drew = x0 at *
            refine wpAnyH_take (i := 0) (v := ?v1) rfl (by kernel_rfl) (by kernel_rfl) (by kernel_rfl) (fun _ _ _ h => h) (Or.inl ⟨by rfl, ?hy1⟩) (by assumption) ?rest1
            case hy1 => (intro wq hSw; (try dsimp only at hSw); go_split_ands; go_simp; (try with_reducible rfl))
            case rest1 =>
            refine wpAnyH_take (i := 1) (v := ?v2) rfl (by kernel_rfl) (by kernel_rfl) (by kernel_rfl) (fun _ _ _ h => h) (Or.inl ⟨by rfl, ?hy2⟩) (by assumption) ?rest2
            case hy2 => (intro wq hSw; (try dsimp only at hSw); go_split_ands; go_simp; (try with_reducible rfl))
            case rest2 =>
            refine wpAnyH_take (i := 2) (v := ?v3) rfl (by kernel_rfl) (by kernel_rfl) (by kernel_rfl) (fun _ _ _ h => h) (Or.inl ⟨by rfl, ?hy3⟩) (by assumption) ?rest3
            case hy3 => (intro wq hSw; (try dsimp only at hSw); go_split_ands; go_simp; (try with_reducible rfl))
            case rest3 =>
            refine wpAnyH_take (i := 3) (v := ?v4) rfl (by kernel_rfl) (by kernel_rfl) (by kernel_rfl) (fun _ _ _ h => h) (Or.inl ⟨by rfl, ?hy4⟩) (by assumption) ?rest4
            case hy4 => (intro wq hSw; (try dsimp only at hSw); go_split_ands; go_simp; (try with_reducible rfl))
            case rest4 =>
            refine wpAnyH_take (i := 4) (v := ?v5) rfl (by kernel_rfl) (by kernel_rfl) (by kernel_rfl) (fun _ _ _ h => h) (Or.inl ⟨by rfl, ?hy5⟩) (by assumption) ?rest5
            case hy5 => (intro wq hSw; (try dsimp only at hSw); go_split_ands; go_simp; (try with_reducible rfl))
            case rest5 =>
            refine wpAnyH_take (i := 5) (v := ?v6) rfl (by kernel_rfl) (by kernel_rfl) (by kernel_rfl) (fun _ _ _ h => h) (Or.inl ⟨by rfl, ?hy6⟩) (by assumption) ?rest6
            case hy6 => (intro wq hSw; (try dsimp only at hSw); go_split_ands; go_simp; (try with_reducible rfl))
            case rest6 =>
            refine wpAnyH_take (i := 6) (v := ?v7) rfl (by kernel_rfl) (by kernel_rfl) (by kernel_rfl) (fun _ _ _ h => h) (Or.inl ⟨by rfl, ?hy7⟩) (by assumption) ?rest7
            case hy7 => (intro wq hSw; (try dsimp only at hSw); go_split_ands; go_simp; (try with_reducible rfl))
            case rest7 =>
            refine wpAnyH_take (i := 8) (v := ?v8) rfl (by kernel_rfl) (by kernel_rfl) (by kernel_rfl) (fun _ _ _ h => h) (Or.inl ⟨by rfl, ?hy8⟩) (by assumption) ?rest8
            case hy8 => (intro wq hSw; (try dsimp only at hSw); go_split_ands; go_simp; (try with_reducible rfl))
            case rest8 =>
            refine wpAnyH_take (i := 9) (v := ?v9) rfl (by kernel_rfl) (by kernel_rfl) (by kernel_rfl) (fun _ _ _ h => h) (Or.inl ⟨by rfl, ?hy9⟩) (by assumption) ?rest9
            case hy9 => (intro wq hSw; (try dsimp only at hSw); go_split_ands; go_simp; (try with_reducible rfl))
            case rest9 =>
            refine wpAnyH_take (i := 10) (v := ?v10) rfl (by kernel_rfl) (by kernel_rfl) (by kernel_rfl) (fun _ _ _ h => h) (Or.inl ⟨by rfl, ?hy10⟩) (by assumption) ?rest10
            case hy10 => (intro wq hSw; (try dsimp only at hSw); go_split_ands; go_simp; (try with_reducible rfl))
            case rest10 =>
            refine wpAnyH_take (i := 11) (v := ?v11) rfl (by kernel_rfl) (by kernel_rfl) (by kernel_rfl) (fun _ _ _ h => h) (Or.inl ⟨by rfl, ?hy11⟩) (by assumption) ?rest11
            case hy11 => (intro wq hSw; (try dsimp only at hSw); go_split_ands; go_simp; (try with_reducible rfl))
            case rest11 =>
            refine wpAnyH_ready (rs := [7, 15]) (by kernel_rfl) (by simp) ?_
            refine AllReadyH.cons rfl (fun K hK => ?step12) ?more12
            case step12 =>
              go_simp
              refine hK.out _ _ (HK.out _ (hB.alloc hB.size _)) (fun hHeld => ?_)
              clear hK K
              have hXB := Bx.new x0 48 #[.int .i64 a, .int .i64 b]
              replace hB := hB.alloc hB.size (Obj.cells #[.int .i64 a, .int .i64 b] 48)
              generalize x0.alloc (Obj.cells #[.int .i64 a, .int .i64 b] 48) = x1 at *
              generalize x0.heap.size = gBx1 at *
              refine wpAnyH_ready (rs := [12, 15]) (by kernel_rfl) (by simp) ?_
              refine AllReadyH.cons rfl (fun K hK => ?step13) ?more13
              case step13 =>
                go_simp
                refine hK.out _ _ (HK.out _ (hB.alloc hB.size _)) (fun hHeld => ?_)
                clear hK K
                have hL := Bx.new x1 22 #[.slice (some ⟨b0, o0, none⟩) k cp, .slice (some ⟨gBx1, 0, none⟩) 1 1, .slice (some ⟨b0, oD, none⟩) (n - k) (cp - k)]
                replace hXB := Bx.alloc hXB (Obj.cells #[.slice (some ⟨b0, o0, none⟩) k cp, .slice (some ⟨gBx1, 0, none⟩) 1 1, .slice (some ⟨b0, oD, none⟩) (n - k) (cp - k)] 22)
                replace hB := hB.alloc hB.size (Obj.cells #[.slice (some ⟨b0, o0, none⟩) k cp, .slice (some ⟨gBx1, 0, none⟩) 1 1, .slice (some ⟨b0, oD, none⟩) (n - k) (cp - k)] 22)
                generalize x1.alloc (Obj.cells #[.slice (some ⟨b0, o0, none⟩) k cp, .slice (some ⟨gBx1, 0, none⟩) 1 1, .slice (some ⟨b0, oD, none⟩) (n - k) (cp - k)] 22) = x2 at *
                generalize x1.heap.size = gLx2 at *
                refine wpAnyH_ready (rs := [13, 15]) (by kernel_rfl) (by simp) ?_
                refine AllReadyH.cons rfl (fun K hK => ?step14) ?more14
                case step14 =>
                  go_simp
                  go_at_call 30
                  refine (concat3 x2 gLx2 _ _ _ _ _ _ (HP1.out _ hB) (IsS.unit LIntA2.rec hXB.lt (at_pair hXB)) (HP3.out _ hB) hL (by have := HN.out; simp; omega)).mono ?_
                  rintro e x3 ⟨vl, rfl, hOl0, hbc⟩
                  have hOl := Own.low hOl0 hB.size
                  replace hB := hB.trans (hbc.mono hB.size)
                  clear hbc hOl0 hL hXB
                  obtain ⟨av, cnt, cv, rfl, hcnt⟩ := own_len hOl
                  clear hcnt
                  go_wp2_with fail
                  refine hK.out _ _ (HK.out _ hB) (fun hHeld => ?_)
                  clear hK K
                  refine wpAnyH_take (i := 14) (v := ?v15) rfl (by kernel_rfl) (by kernel_rfl) (by kernel_rfl) (fun _ _ _ h => h) (Or.inl ⟨by rfl, ?hy15⟩) (by assumption) ?rest15
                  case hy15 => (intro wq hSw; (try dsimp only at hSw); go_split_ands; go_simp; (try with_reducible rfl))
                  case rest15 =>
                  refine wpAnyH_ready (rs := [15]) (by kernel_rfl) (by simp) ?_
                  refine AllReadyH.cons rfl (fun K hK => ?step16) ?more16
                  case step16 =>
                    go_simp
                    refine hK.out _ _ (HK.out _ (hB.alloc hB.size _)) (fun hHeld => ?_)
                    clear hK K
                    have hOl1 := hOl
                    replace hOl := hOl.alloc (Obj.cells #[.int .i64 0, .slice none 0 0] 29)
                    have hNeC : (Value.slice av cnt cv).ownBlock ≠ some x3.heap.size := fun e => by have h1 := (hOl1.lt _ e).2; omega
                    have hXC := Bx.new x3 29 #[.int .i64 0, .slice none 0 0]
                    have hCW : W.heap.size ≤ x3.heap.size := hB.size
                    replace hB := hB.alloc hB.size (Obj.cells #[.int .i64 0, .slice none 0 0] 29)
                    generalize x3.alloc (Obj.cells #[.int .i64 0, .slice none 0 0] 29) = x4 at *
                    generalize x3.heap.size = gCx4 at *
                    refine wpAnyH_ready (rs := [16]) (by kernel_rfl) (by simp) ?_
                    refine AllReadyH.cons rfl (fun K hK => ?step17) ?more17
                    case step17 =>
                      have c0 := hXC.cell 0
                      have c1 := hXC.cell 1
                      have f0 := hXC.frozen 0
                      have f1 := hXC.frozen 1
                      simp only [List.getElem?_toArray, List.getElem?_cons_zero, List.getElem?_cons_succ] at c0 c1
                      have hB3 := (hB.setCell (p := ⟨gCx4, 0, none⟩) hCW (.int .i64 Kd)).setCell (p := ⟨gCx4, 1, none⟩) hCW (.slice av cnt cv)
                      have hC3 := Lib.hid (show Bx _ _ 29 #[.int .i64 Kd, .slice av cnt cv] from Bx.set_ (Bx.set_ hXC 0 (.int .i64 Kd)) 1 (.slice av cnt cv))
                      have hO3 := Lib.hid (own_set (own_set hOl (p := ⟨gCx4, 0, none⟩) (fun q hq e => hNeC (by rw [hq, e])) (.int .i64 Kd)) (p := ⟨gCx4, 1, none⟩) (fun q hq e => hNeC (by rw [hq, e])) (.slice av cnt cv))
                      rw [show z.take k ++ [(⟨a, b⟩ : M)] ++ z.drop k = insL z ⟨a, b⟩ by unfold insL; rw [HPos.out]] at hO3
                      go_simp
                      refine hK.out _ _ (HK.out _ hB3) (fun hHeld => ?_)
                      clear hK K
                      refine wpAnyH_done (by kernel_rfl) ?_ _
                      go_wp2_with fail
                      go_meet
                      exact ⟨gCx4, av, cnt, cv, rfl, hC3, hO3, hB3⟩
                    case more17 => exact AllReadyH.nil
                  case more16 => exact AllReadyH.nil
                case more14 =>
                  refine AllReadyH.cons rfl (fun K hK => ?step18) ?more18
                  case step18 =>
                    go_simp
                    refine hK.out _ _ (HK.out _ (hB.alloc hB.size _)) (fun hHeld => ?_)
                    clear hK K
                    replace hXB := Bx.alloc hXB (Obj.cells #[.int .i64 0, .slice none 0 0] 29)
                    replace hL := Bx.alloc hL (Obj.cells #[.int .i64 0, .slice none 0 0] 29)
                    have hXC := Bx.new x2 29 #[.int .i64 0, .slice none 0 0]
                    have hCW : W.heap.size ≤ x2.heap.size := hB.size
                    replace hB := hB.alloc hB.size (Obj.cells #[.int .i64 0, .slice none 0 0] 29)
                    generalize x2.alloc (Obj.cells #[.int .i64 0, .slice none 0 0] 29) = x5 at *
                    generalize x2.heap.size = gCx5 at *
                    refine wpAnyH_ready (rs := [13]) (by kernel_rfl) (by simp) ?_
                    refine AllReadyH.cons rfl (fun K hK => ?step19) ?more19
                    case step19 =>
                      go_simp
                      go_at_call 30
                      have hXCl := hXC.lt
                      refine (concat3 x5 gLx2 _ _ _ _ _ _ (HP1.out _ hB) (IsS.unit LIntA2.rec hXB.lt (at_pair hXB)) (HP3.out _ hB) hL (by have := HN.out; simp; omega)).mono ?_
                      rintro e x6 ⟨vl, rfl, hOl0, hbc⟩
                      replace hXC := Bx.kept hXC hbc
                      have hOl := Own.low hOl0 hB.size
                      have hNeC : vl.ownBlock ≠ some gCx5 := fun e => by have h1 := (hOl0.lt _ e).1; have h2 := hXCl; omega
                      replace hB := hB.trans (hbc.mono hB.size)
                      clear hbc hOl0 hL hXB
                      obtain ⟨av, cnt, cv, rfl, hcnt⟩ := own_len hOl
                      clear hcnt
                      go_wp2_with fail
                      refine hK.out _ _ (HK.out _ hB) (fun hHeld => ?_)
                      clear hK K
                      refine wpAnyH_take (i := 14) (v := ?v20) rfl (by kernel_rfl) (by kernel_rfl) (by kernel_rfl) (fun _ _ _ h => h) (Or.inl ⟨by rfl, ?hy20⟩) (by assumption) ?rest20
                      case hy20 => (intro wq hSw; (try dsimp only at hSw); go_split_ands; go_simp; (try with_reducible rfl))
                      case rest20 =>
                      refine wpAnyH_ready (rs := [16]) (by kernel_rfl) (by simp) ?_
                      refine AllReadyH.cons rfl (fun K hK => ?step21) ?more21
                      case step21 =>
                        have c0 := hXC.cell 0
                        have c1 := hXC.cell 1
                        have f0 := hXC.frozen 0
                        have f1 := hXC.frozen 1
                        simp only [List.getElem?_toArray, List.getElem?_cons_zero, List.getElem?_cons_succ] at c0 c1
                        have hB3 := (hB.setCell (p := ⟨gCx5, 0, none⟩) hCW (.int .i64 Kd)).setCell (p := ⟨gCx5, 1, none⟩) hCW (.slice av cnt cv)
                        have hC3 := Lib.hid (show Bx _ _ 29 #[.int .i64 Kd, .slice av cnt cv] from Bx.set_ (Bx.set_ hXC 0 (.int .i64 Kd)) 1 (.slice av cnt cv))
                        have hO3 := Lib.hid (own_set (own_set hOl (p := ⟨gCx5, 0, none⟩) (fun q hq e => hNeC (by rw [hq, e])) (.int .i64 Kd)) (p := ⟨gCx5, 1, none⟩) (fun q hq e => hNeC (by rw [hq, e])) (.slice av cnt cv))
                        rw [show z.take k ++ [(⟨a, b⟩ : M)] ++ z.drop k = insL z ⟨a, b⟩ by unfold insL; rw [HPos.out]] at hO3
                        go_simp
                        refine hK.out _ _ (HK.out _ hB3) (fun hHeld => ?_)
                        clear hK K
                        refine wpAnyH_done (by kernel_rfl) ?_ _
                        go_wp2_with fail
                        go_meet
                        exact ⟨gCx5, av, cnt, cv, rfl, hC3, hO3, hB3⟩
                      case more21 => exact AllReadyH.nil
                    case more19 => exact AllReadyH.nil
                  case more18 => exact AllReadyH.nil
              case more13 =>
                refine AllReadyH.cons rfl (fun K hK => ?step22) ?more22
                case step22 =>
                  go_simp
                  refine hK.out _ _ (HK.out _ (hB.alloc hB.size _)) (fun hHeld => ?_)
                  clear hK K
                  replace hXB := Bx.alloc hXB (Obj.cells #[.int .i64 0, .slice none 0 0] 29)
                  have hXC := Bx.new x1 29 #[.int .i64 0, .slice none 0 0]
                  have hCW : W.heap.size ≤ x1.heap.size := hB.size
                  replace hB := hB.alloc hB.size (Obj.cells #[.int .i64 0, .slice none 0 0] 29)
                  generalize x1.alloc (Obj.cells #[.int .i64 0, .slice none 0 0] 29) = x7 at *
                  generalize x1.heap.size = gCx7 at *
                  refine wpAnyH_ready (rs := [12]) (by kernel_rfl) (by simp) ?_
                  refine AllReadyH.cons rfl (fun K hK => ?step23) ?more23
                  case step23 =>
                    go_simp
                    refine hK.out _ _ (HK.out _ (hB.alloc hB.size _)) (fun hHeld => ?_)
                    clear hK K
                    have hL := Bx.new x7 22 #[.slice (some ⟨b0, o0, none⟩) k cp, .slice (some ⟨gBx1, 0, none⟩) 1 1, .slice (some ⟨b0, oD, none⟩) (n - k) (cp - k)]
                    replace hXB := Bx.alloc hXB (Obj.cells #[.slice (some ⟨b0, o0, none⟩) k cp, .slice (some ⟨gBx1, 0, none⟩) 1 1, .slice (some ⟨b0, oD, none⟩) (n - k) (cp - k)] 22)
                    replace hXC := Bx.alloc hXC (Obj.cells #[.slice (some ⟨b0, o0, none⟩) k cp, .slice (some ⟨gBx1, 0, none⟩) 1 1, .slice (some ⟨b0, oD, none⟩) (n - k) (cp - k)] 22)
                    replace hB := hB.alloc hB.size (Obj.cells #[.slice (some ⟨b0, o0, none⟩) k cp, .slice (some ⟨gBx1, 0, none⟩) 1 1, .slice (some ⟨b0, oD, none⟩) (n - k) (cp - k)] 22)
                    generalize x7.alloc (Obj.cells #[.slice (some ⟨b0, o0, none⟩) k cp, .slice (some ⟨gBx1, 0, none⟩) 1 1, .slice (some ⟨b0, oD, none⟩) (n - k) (cp - k)] 22) = x8 at *
                    generalize x7.heap.size = gLx8 at *
                    refine wpAnyH_ready (rs := [13]) (by kernel_rfl) (by simp) ?_
                    refine AllReadyH.cons rfl (fun K hK => ?step24) ?more24
                    case step24 =>
                      go_simp
                      go_at_call 30
                      have hXCl := hXC.lt
                      refine (concat3 x8 gLx8 _ _ _ _ _ _ (HP1.out _ hB) (IsS.unit LIntA2.rec hXB.lt (at_pair hXB)) (HP3.out _ hB) hL (by have := HN.out; simp; omega)).mono ?_
                      rintro e x9 ⟨vl, rfl, hOl0, hbc⟩
                      replace hXC := Bx.kept hXC hbc
                      have hOl := Own.low hOl0 hB.size
                      have hNeC : vl.ownBlock ≠ some gCx7 := fun e => by have h1 := (hOl0.lt _ e).1; have h2 := hXCl; omega
                      replace hB := hB.trans (hbc.mono hB.size)
                      clear hbc hOl0 hL hXB
                      obtain ⟨av, cnt, cv, rfl, hcnt⟩ := own_len hOl
                      clear hcnt
                      go_wp2_with fail
                      refine hK.out _ _ (HK.out _ hB) (fun hHeld => ?_)
                      clear hK K
                      refine wpAnyH_take (i := 14) (v := ?v25) rfl (by kernel_rfl) (by kernel_rfl) (by kernel_rfl) (fun _ _ _ h => h) (Or.inl ⟨by rfl, ?hy25⟩) (by assumption) ?rest25
                      case hy25 => (intro wq hSw; (try dsimp only at hSw); go_split_ands; go_simp; (try with_reducible rfl))
                      case rest25 =>
                      refine wpAnyH_ready (rs := [16]) (by kernel_rfl) (by simp) ?_
                      refine AllReadyH.cons rfl (fun K hK => ?step26) ?more26
                      case step26 =>
                        have c0 := hXC.cell 0
                        have c1 := hXC.cell 1
                        have f0 := hXC.frozen 0
                        have f1 := hXC.frozen 1
                        simp only [List.getElem?_toArray, List.getElem?_cons_zero, List.getElem?_cons_succ] at c0 c1
                        have hB3 := (hB.setCell (p := ⟨gCx7, 0, none⟩) hCW (.int .i64 Kd)).setCell (p := ⟨gCx7, 1, none⟩) hCW (.slice av cnt cv)
                        have hC3 := Lib.hid (show Bx _ _ 29 #[.int .i64 Kd, .slice av cnt cv] from Bx.set_ (Bx.set_ hXC 0 (.int .i64 Kd)) 1 (.slice av cnt cv))
                        have hO3 := Lib.hid (own_set (own_set hOl (p := ⟨gCx7, 0, none⟩) (fun q hq e => hNeC (by rw [hq, e])) (.int .i64 Kd)) (p := ⟨gCx7, 1, none⟩) (fun q hq e => hNeC (by rw [hq, e])) (.slice av cnt cv))
                        rw [show z.take k ++ [(⟨a, b⟩ : M)] ++ z.drop k = insL z ⟨a, b⟩ by unfold insL; rw [HPos.out]] at hO3
                        go_simp
                        refine hK.out _ _ (HK.out _ hB3) (fun hHeld => ?_)
                        clear hK K
                        refine wpAnyH_done (by kernel_rfl) ?_ _
                        go_wp2_with fail
                        go_meet
                        exact ⟨gCx7, av, cnt, cv, rfl, hC3, hO3, hB3⟩
                      case more26 => exact AllReadyH.nil
                    case more24 => exact AllReadyH.nil
                  case more23 => exact AllReadyH.nil
                case more22 => exact AllReadyH.nil
            case more12 =>
              refine AllReadyH.cons rfl (fun K hK => ?step27) ?more27
              case step27 =>
                go_simp
                refine hK.out _ _ (HK.out _ (hB.alloc hB.size _)) (fun hHeld => ?_)
                clear hK K
                have hXC := Bx.new x0 29 #[.int .i64 0, .slice none 0 0]
                have hCW : W.heap.size ≤ x0.heap.size := hB.size
                replace hB := hB.alloc hB.size (Obj.cells #[.int .i64 0, .slice none 0 0] 29)
                generalize x0.alloc (Obj.cells #[.int .i64 0, .slice none 0 0] 29) = x10 at *
                generalize x0.heap.size = gCx10 at *
                refine wpAnyH_ready (rs := [7]) (by kernel_rfl) (by simp) ?_
                refine AllReadyH.cons rfl (fun K hK => ?step28) ?more28
                case step28 =>
                  go_simp
                  refine hK.out _ _ (HK.out _ (hB.alloc hB.size _)) (fun hHeld => ?_)
                  clear hK K
                  replace hXC := Bx.alloc hXC (Obj.cells #[.int .i64 a, .int .i64 b] 48)
                  have hXB := Bx.new x10 48 #[.int .i64 a, .int .i64 b]
                  replace hB := hB.alloc hB.size (Obj.cells #[.int .i64 a, .int .i64 b] 48)
                  generalize x10.alloc (Obj.cells #[.int .i64 a, .int .i64 b] 48) = x11 at *
                  generalize x10.heap.size = gBx11 at *
                  refine wpAnyH_ready (rs := [12]) (by kernel_rfl) (by simp) ?_
                  refine AllReadyH.cons rfl (fun K hK => ?step29) ?more29
                  case step29 =>
                    go_simp
                    refine hK.out _ _ (HK.out _ (hB.alloc hB.size _)) (fun hHeld => ?_)
                    clear hK K
                    have hL := Bx.new x11 22 #[.slice (some ⟨b0, o0, none⟩) k cp, .slice (some ⟨gBx11, 0, none⟩) 1 1, .slice (some ⟨b0, oD, none⟩) (n - k) (cp - k)]
                    replace hXB := Bx.alloc hXB (Obj.cells #[.slice (some ⟨b0, o0, none⟩) k cp, .slice (some ⟨gBx11, 0, none⟩) 1 1, .slice (some ⟨b0, oD, none⟩) (n - k) (cp - k)] 22)
                    replace hXC := Bx.alloc hXC (Obj.cells #[.slice (some ⟨b0, o0, none⟩) k cp, .slice (some ⟨gBx11, 0, none⟩) 1 1, .slice (some ⟨b0, oD, none⟩) (n - k) (cp - k)] 22)
                    replace hB := hB.alloc hB.size (Obj.cells #[.slice (some ⟨b0, o0, none⟩) k cp, .slice (some ⟨gBx11, 0, none⟩) 1 1, .slice (some ⟨b0, oD, none⟩) (n - k) (cp - k)] 22)
                    generalize x11.alloc (Obj.cells #[.slice (some ⟨b0, o0, none⟩) k cp, .slice (some ⟨gBx11, 0, none⟩) 1 1, .slice (some ⟨b0, oD, none⟩) (n - k) (cp - k)] 22) = x12 at *
                    generalize x11.heap.size = gLx12 at *
                    refine wpAnyH_ready (rs := [13]) (by kernel_rfl) (by simp) ?_
                    refine AllReadyH.cons rfl (fun K hK => ?step30) ?more30
                    case step30 =>
                      go_simp
                      go_at_call 30
                      have hXCl := hXC.lt
                      refine (concat3 x12 gLx12 _ _ _ _ _ _ (HP1.out _ hB) (IsS.unit LIntA2.rec hXB.lt (at_pair hXB)) (HP3.out _ hB) hL (by have := HN.out; simp; omega)).mono ?_
                      rintro e x13 ⟨vl, rfl, hOl0, hbc⟩
                      replace hXC := Bx.kept hXC hbc
                      have hOl := Own.low hOl0 hB.size
                      have hNeC : vl.ownBlock ≠ some gCx10 := fun e => by have h1 := (hOl0.lt _ e).1; have h2 := hXCl; omega
                      replace hB := hB.trans (hbc.mono hB.size)
                      clear hbc hOl0 hL hXB
                      obtain ⟨av, cnt, cv, rfl, hcnt⟩ := own_len hOl
                      clear hcnt
                      go_wp2_with fail
                      refine hK.out _ _ (HK.out _ hB) (fun hHeld => ?_)
                      clear hK K
                      refine wpAnyH_take (i := 14) (v := ?v31) rfl (by kernel_rfl) (by kernel_rfl) (by kernel_rfl) (fun _ _ _ h => h) (Or.inl ⟨by rfl, ?hy31⟩) (by assumption) ?rest31
                      case hy31 => (intro wq hSw; (try dsimp only at hSw); go_split_ands; go_simp; (try with_reducible rfl))
                      case rest31 =>
                      refine wpAnyH_ready (rs := [16]) (by kernel_rfl) (by simp) ?_
                      refine AllReadyH.cons rfl (fun K hK => ?step32) ?more32
                      case step32 =>
                        have c0 := hXC.cell 0
                        have c1 := hXC.cell 1
                        have f0 := hXC.frozen 0
                        have f1 := hXC.frozen 1
                        simp only [List.getElem?_toArray, List.getElem?_cons_zero, List.getElem?_cons_succ] at c0 c1
                        have hB3 := (hB.setCell (p := ⟨gCx10, 0, none⟩) hCW (.int .i64 Kd)).setCell (p := ⟨gCx10, 1, none⟩) hCW (.slice av cnt cv)
                        have hC3 := Lib.hid (show Bx _ _ 29 #[.int .i64 Kd, .slice av cnt cv] from Bx.set_ (Bx.set_ hXC 0 (.int .i64 Kd)) 1 (.slice av cnt cv))
                        have hO3 := Lib.hid (own_set (own_set hOl (p := ⟨gCx10, 0, none⟩) (fun q hq e => hNeC (by rw [hq, e])) (.int .i64 Kd)) (p := ⟨gCx10, 1, none⟩) (fun q hq e => hNeC (by rw [hq, e])) (.slice av cnt cv))
                        rw [show z.take k ++ [(⟨a, b⟩ : M)] ++ z.drop k = insL z ⟨a, b⟩ by unfold insL; rw [HPos.out]] at hO3
                        go_simp
                        refine hK.out _ _ (HK.out _ hB3) (fun hHeld => ?_)
                        clear hK K
                        refine wpAnyH_done (by kernel_rfl) ?_ _
                        go_wp2_with fail
                        go_meet
                        exact ⟨gCx10, av, cnt, cv, rfl, hC3, hO3, hB3⟩
                      case more32 => exact AllReadyH.nil
                    case more30 => exact AllReadyH.nil
                  case more29 => exact AllReadyH.nil
                case more28 => exact AllReadyH.nil
              case more27 => exact AllReadyH.nil
          case rest =>
            obtain ⟨g, av, cnt, cv, rfl, HC6, HL, hbW⟩ := hcut
            have hb3 := hb2.trans (hbW.mono hb2.size)
            have HBR3 := Lib.hid (HBR2.out.kept hbW)
            have HOI0 := Lib.hid (show Own LIntA2.rec 48 wc W.heap.size (.slice av cnt cv) (insL z ⟨a, b⟩) from HL.out)
            have hRW : RB < W.heap.size := HBR2.out.lt
            have HIL := Lib.hid (show LPrecedence.Is wc (.agg #[.int .i64 Kd, .slice av cnt cv]) ⟨Kd, insL z ⟨a, b⟩⟩ from ⟨_, rfl, HOI0.out.is⟩)
            clear HP1 HP3 HK hoD hbW HBP2 HBR2 HBG2 hPl hGl HIW HL s1 s2 s3 s4
            generalize wc = w5 at *
            have c0 := HC6.out.cell 0
            have c1 := HC6.out.cell 1
            simp only [List.getElem?_toArray, List.getElem?_cons_zero, List.getElem?_cons_succ] at c0 c1
            go_wp2_with fail
            refine (soundI _ ⟨Kd, insL z ⟨a, b⟩⟩ _ HIL.out).mono ?_
            rintro e w6 ⟨q0, q1, rfl, hsa, hb6⟩
            have hb7 := hb3.trans (hb6.mono hb3.size)
            have HBR4 := Lib.hid (HBR3.out.kept hb6)
            have HC7 := Lib.hid (HC6.out.kept hb6)
            have HOI := Lib.hid (HOI0.out.kept hb6)
            clear hb6 hb3 HBR3 HC6 HOI0 HIL c0 c1
            cases hg2 : goodB Kd (insL z ⟨a, b⟩) with
            | false =>
              have HA := Lib.hid (ad_bad (r := ⟨Kd, z⟩) (a := a) (b := b) (by unfold okA; simp only; rw [hg2, Bool.false_and, Bool.and_false]))
              rw [sound_bad (r := ⟨Kd, insL z ⟨a, b⟩⟩) hg2] at hsa
              simp only [Prod.mk.injEq] at hsa
              obtain ⟨rfl, rfl⟩ := hsa
              clear hg2
              have r0 := HBR4.out.cell 0
              have r1 := HBR4.out.cell 1
              have f0 := HBR4.out.frozen 0
              have f1 := HBR4.out.frozen 1
              simp only [List.getElem?_toArray, List.getElem?_cons_zero, List.getElem?_cons_succ] at r0 r1
              have HRS := Lib.hid (show Bx _ _ 29 #[.int .i64 0, .slice none 0 0] from Bx.set_ (Bx.set_ HBR4.out 0 (.int .i64 0)) 1 (.slice none 0 0))
              have hbs := (hb7.setCell (p := ⟨RB, 0, none⟩) hRB (.int .i64 0)).setCell (p := ⟨RB, 1, none⟩) hRB (.slice none 0 0)
              go_wp2_with fail
              clear r0 r1 f0 f1
              generalize ((w6.setCell ⟨RB, 0, none⟩ (.int .i64 0)).setCell ⟨RB, 1, none⟩ (.slice none 0 0)) = wz at *
              have r0 := HRS.out.cell 0
              have r1 := HRS.out.cell 1
              simp only [List.getElem?_toArray, List.getElem?_cons_zero, List.getElem?_cons_succ] at r0 r1
              (try simp only [Exit.inBlock, Exit.then])
              refine bodyPost_ret (v := .tuple #[.agg #[.int .i64 0, .slice none 0 0], .bool false]) (by rw [results_cell_tmp rfl]; go_simp) rfl ?_
              exact ⟨_, ⟨0, []⟩, false, rfl, HA.out, LPrecedence.Own.zero, hbs⟩
            | true =>
              rw [sound_good (r := ⟨Kd, insL z ⟨a, b⟩⟩) hg2] at hsa
              simp only [Prod.mk.injEq] at hsa
              obtain ⟨hq0, rfl⟩ := hsa
              cases hs : soundB Kd (insL z ⟨a, b⟩) with
              | false =>
                have HA := Lib.hid (ad_bad (r := ⟨Kd, z⟩) (a := a) (b := b) (by unfold okA; simp only; rw [hs, Bool.and_false, Bool.and_false]))
                rw [hs] at hq0
                subst hq0
                clear hs hg2
                have r0 := HBR4.out.cell 0
                have r1 := HBR4.out.cell 1
                have f0 := HBR4.out.frozen 0
                have f1 := HBR4.out.frozen 1
                simp only [List.getElem?_toArray, List.getElem?_cons_zero, List.getElem?_cons_succ] at r0 r1
                have HRS := Lib.hid (show Bx _ _ 29 #[.int .i64 0, .slice none 0 0] from Bx.set_ (Bx.set_ HBR4.out 0 (.int .i64 0)) 1 (.slice none 0 0))
                have hbs := (hb7.setCell (p := ⟨RB, 0, none⟩) hRB (.int .i64 0)).setCell (p := ⟨RB, 1, none⟩) hRB (.slice none 0 0)
                go_wp2_with fail
                clear r0 r1 f0 f1
                generalize ((w6.setCell ⟨RB, 0, none⟩ (.int .i64 0)).setCell ⟨RB, 1, none⟩ (.slice none 0 0)) = wz at *
                have r0 := HRS.out.cell 0
                have r1 := HRS.out.cell 1
                simp only [List.getElem?_toArray, List.getElem?_cons_zero, List.getElem?_cons_succ] at r0 r1
                (try simp only [Exit.inBlock, Exit.then])
                refine bodyPost_ret (v := .tuple #[.agg #[.int .i64 0, .slice none 0 0], .bool false]) (by rw [results_cell_tmp rfl]; go_simp) rfl ?_
                exact ⟨_, ⟨0, []⟩, false, rfl, HA.out, LPrecedence.Own.zero, hbs⟩
              | true =>
                have HA := Lib.hid (ad_good (r := ⟨Kd, z⟩) (a := a) (b := b) (by unfold okA; simp only; rw [HG.out, hg2, hs]; rfl))
                rw [hs] at hq0
                subst hq0
                clear hs hg2
                have c0 := HC7.out.cell 0
                have c1 := HC7.out.cell 1
                simp only [List.getElem?_toArray, List.getElem?_cons_zero, List.getElem?_cons_succ] at c0 c1
                have r0 := HBR4.out.cell 0
                have r1 := HBR4.out.cell 1
                have f0 := HBR4.out.frozen 0
                have f1 := HBR4.out.frozen 1
                simp only [List.getElem?_toArray, List.getElem?_cons_zero, List.getElem?_cons_succ] at r0 r1
                have HRS := Lib.hid (show Bx _ _ 29 #[.int .i64 Kd, .slice av cnt cv] from Bx.set_ (Bx.set_ HBR4.out 0 (.int .i64 Kd)) 1 (.slice av cnt cv))
                have hbs := (hb7.setCell (p := ⟨RB, 0, none⟩) hRB (.int .i64 Kd)).setCell (p := ⟨RB, 1, none⟩) hRB (.slice av cnt cv)
                have hOx := Lib.hid (own_set (own_set HOI.out (p := ⟨RB, 0, none⟩) (fun q hq => by have := (HOI.out.lt q hq).1; show q ≠ RB; omega) (.int .i64 Kd)) (p := ⟨RB, 1, none⟩) (fun q hq => by have := (HOI.out.lt q hq).1; show q ≠ RB; omega) (.slice av cnt cv))
                go_wp2_with fail
                clear r0 r1 f0 f1
                generalize ((w6.setCell ⟨RB, 0, none⟩ (.int .i64 Kd)).setCell ⟨RB, 1, none⟩ (.slice av cnt cv)) = wz at *
                have r0 := HRS.out.cell 0
                have r1 := HRS.out.cell 1
                simp only [List.getElem?_toArray, List.getElem?_cons_zero, List.getElem?_cons_succ] at r0 r1
                (try simp only [Exit.inBlock, Exit.then])
                refine bodyPost_ret (v := .tuple #[.agg #[.int .i64 Kd, .slice av cnt cv], .bool true]) (by rw [results_cell_tmp rfl]; go_simp) rfl ?_
                exact ⟨_, ⟨Kd, insL z ⟨a, b⟩⟩, true, rfl, HA.out, ⟨_, rfl, hOx.out.low (by have := hb2.size; omega)⟩, hbs⟩
theorem impl (v0 : Value) (z0 : LPrecedence.R) (a1 a2 : Int) (w : World) (h0 : LPrecedence.IsS w v0 z0) (f0 : LPrecedence.Fine z0) (l0 : z0.over.length ≤ 1048576) :
    Calls Try.prog 15 #[v0, .int .i64 a1, .int .i64 a2] w (Post z0 a1 a2 w) := addI v0 z0 a1 a2 w h0
end Go.Proofs.Ythhlhcojjeglkab.PrecA
