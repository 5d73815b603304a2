/- AddPair, the model. No condition. -/
import Derived.Test.YthhlhcojjeglkabPrecA
import Derived.Test.YthhlhcojjeglkabHeldA
import Derived.Test.YthhlhcojjeglkabLIntA2K
import Derived.Deep.DeepCutAuto
import Derived.Deep.RegionHeld3
import Derived.Laws.ResultCell
namespace Go.Proofs.Ythhlhcojjeglkab.PrecA
open Go.RowKit Bs Word PrecM PrecB PrecG PrecR PrecS IntF Sq
set_option linter.unusedVariables false
theorem own_rows2 {w : World} {A E n cnt g : Nat} {v : Value} {cs : List Value} (h : w.ownsRow A E n v cnt cs) (hne : v.ownBlock ≠ some g) (u1 u2 : Value) : ((w.setCell ⟨g, 0, none⟩ u1).setCell ⟨g, 1, none⟩ u2).ownsRow A E n v cnt cs := by
  refine ⟨h.1, ?_⟩
  rcases h.2 with hn | ⟨q, cap, cur, rfl, hbg, hgg, rest⟩
  · exact .inl hn
  · refine .inr ⟨q, cap, cur, rfl, hbg, ?_, rest⟩
    have hq : q ≠ g := fun e => hne (by rw [e]; rfl)
    rw [Below.heap_setCell _ _ _ _ hq, Below.heap_setCell _ _ _ _ hq]
    exact hgg
theorem own_ins {w : World} {A k n : Nat} {v : Value} {z : List M} {x : M} (hn : z.length = n) (hp : posL z x = k) (hk : k ≤ n) (h : w.ownsRow A 48 2 v (k + 1 + (n - k)) ([] ++ flat LIntA2.rec (z.take k) ++ [.int .i64 x.a, .int .i64 x.b] ++ flat LIntA2.rec (z.drop k))) : Own LIntA2.rec 48 w A v (insL z x) :=
  own_of LIntA2.rec h (by rw [ins_len]; omega) (by unfold insL; rw [hp, flat_append, flat_append]; rfl)
theorem posT_yes {z : List M} {x Y : M} {k : Nat} (hF : First (fun y => !lexB y x) z k) (hY : z[k]? = some Y) : PosT z x k (lexB Y x) := ⟨fun e => ⟨Y, hY, e⟩, fun e => pos_hit hF hY e⟩
theorem posT_no {z : List M} {x : M} {k : Nat} (hF : First (fun y => !lexB y x) z k) (hk : z.length = k) : PosT z x k false := ⟨(fun e => by cases e), fun _ => pos_end hF hk⟩
set_option maxRecDepth 100000 in
set_option maxHeartbeats 12800000 in
theorem addS (v : Value) (r : LPrecedence.R) (a b : Int) (w : World) (h0 : LPrecedence.IsS w v r) :
    Calls Try.prog 14 #[v, .int .i64 a, .int .i64 b] w (Post r a b w) := by
  have hIs0 := h0.is
  obtain ⟨Kd, z⟩ := r
  obtain ⟨s, rfl, hS⟩ := h0
  have hS0 := hS
  obtain ⟨b0, o0, cp, rfl, hbl, hxc, hcm, hcell⟩ := hS
  simp only at hS0 hcell hxc hIs0 ⊢
  have HIS := Lib.hid hS0
  have HC := Lib.hid hcell
  have hIs := Lib.hid hIs0
  obtain ⟨n, hn⟩ : ∃ n, n = z.length := ⟨_, rfl⟩
  have HN := Lib.hid hn.symm
  rw [← hn] at HIS hIs hxc ⊢
  unfold maxLen at hcm
  clear hn hS0 hcell hIs0
  obtain ⟨i0, hi, hz0, hz1, hz2⟩ := info_parts LIntA2.infoK
  have HI0 := Lib.hid hi
  have HZ0 := Lib.hid (And.intro hz0 (And.intro hz1 hz2))
  clear hi hz0 hz1 hz2
  have hb0 := (Below.refl w.heap.size w).alloc (Nat.le_refl _) (.cells #[.int .i64 Kd, .slice (some ⟨b0, o0, none⟩) n cp] 29)
  have HBP0 := Lib.hid (Bx.alloc (Bx.new w 29 #[.int .i64 Kd, .slice (some ⟨b0, o0, none⟩) n cp]) (.cells #[.int .i64 0, .slice none 0 0] 29))
  have HBR0 := Lib.hid (Bx.new (w.alloc (.cells #[.int .i64 Kd, .slice (some ⟨b0, o0, none⟩) n cp] 29)) 29 #[.int .i64 0, .slice none 0 0])
  have hba := hb0.alloc hb0.size (.cells #[.int .i64 0, .slice none 0 0] 29)
  have hRB : w.heap.size ≤ (w.alloc (.cells #[.int .i64 Kd, .slice (some ⟨b0, o0, none⟩) n cp] 29)).heap.size := hb0.size
  have hPR : w.heap.size ≠ (w.alloc (.cells #[.int .i64 Kd, .slice (some ⟨b0, o0, none⟩) n cp] 29)).heap.size := by simp
  go_enter Try.func14, Try.ntmps14
  go_upto_region 1 with fail
  generalize (w.alloc (.cells #[.int .i64 Kd, .slice (some ⟨b0, o0, none⟩) n cp] 29)).alloc (.cells #[.int .i64 0, .slice none 0 0] 29) = wa at *
  have eRB : (w.alloc (.cells #[.int .i64 Kd, .slice (some ⟨b0, o0, none⟩) n cp] 29)).heap.size = w.heap.size + 1 := by simp
  rw [eRB] at HBR0 hRB hPR
  clear eRB
  generalize w.heap.size + 1 = RB at *
  obtain ⟨P0, hP0⟩ : ∃ P, P = w.heap.size := ⟨_, rfl⟩
  have HIA := Lib.hid (hIs.out.below hba)
  have hPl := HBP0.out.lt
  have p0 := HBP0.out.cell 0
  have p1 := HBP0.out.cell 1
  simp only [List.getElem?_toArray, List.getElem?_cons_zero, List.getElem?_cons_succ] at p0 p1
  go_wp2_with fail
  refine (PrecG.l4Good _ ⟨Kd, z⟩ _ HIA.out).mono ?_
  rintro e w1 ⟨rfl, hb1⟩
  have hbx := hba.trans (hb1.mono hba.size)
  have HBP1 := Lib.hid (HBP0.out.kept hb1)
  have HBR1 := Lib.hid (HBR0.out.kept hb1)
  have HI1 := Lib.hid (HIA.out.below hb1)
  clear hb1 HBP0 HBR0 HIA hba p0 p1 hb0 hPl
  simp only
  cases hg : goodB Kd z with
  | false =>
    have HA := Lib.hid (ad_bad (r := ⟨Kd, z⟩) (a := a) (b := b) (by unfold okA; rw [hg]; rfl))
    clear hg
    have r0 := HBR1.out.cell 0
    have r1 := HBR1.out.cell 1
    have f0 := HBR1.out.frozen 0
    have f1 := HBR1.out.frozen 1
    simp only [List.getElem?_toArray, List.getElem?_cons_zero, List.getElem?_cons_succ] at r0 r1
    have HRS := Lib.hid (show Bx _ _ 29 #[.int .i64 0, .slice none 0 0] from Bx.set_ (Bx.set_ HBR1.out 0 (.int .i64 0)) 1 (.slice none 0 0))
    have hbs := (hbx.setCell (p := ⟨RB, 0, none⟩) hRB (.int .i64 0)).setCell (p := ⟨RB, 1, none⟩) hRB (.slice none 0 0)
    go_wp2_with fail
    clear r0 r1 f0 f1
    generalize ((w1.setCell ⟨RB, 0, none⟩ (.int .i64 0)).setCell ⟨RB, 1, none⟩ (.slice none 0 0)) = wz at *
    have r0 := HRS.out.cell 0
    have r1 := HRS.out.cell 1
    simp only [List.getElem?_toArray, List.getElem?_cons_zero, List.getElem?_cons_succ] at r0 r1
    (try simp only [Exit.inBlock, Exit.then])
    refine bodyPost_ret (v := .tuple #[.agg #[.int .i64 0, .slice none 0 0], .bool false]) (by rw [results_cell_tmp rfl]; go_simp) rfl ?_
    exact ⟨_, ⟨0, []⟩, false, rfl, HA.out, LPrecedence.Own.zero, hbs⟩
  | true =>
    have HG := Lib.hid hg
    have hzl : n ≤ 16 := by have := (good_of hg).2.2.1; have := HN.out; omega
    clear hg
    have hPl := HBP1.out.lt
    have p0 := HBP1.out.cell 0
    have p1 := HBP1.out.cell 1
    simp only [List.getElem?_toArray, List.getElem?_cons_zero, List.getElem?_cons_succ] at p0 p1
    go_wp2_with fail
    refine (l4Direct _ ⟨Kd, z⟩ a b _ HI1.out).mono ?_
    rintro e w2 ⟨rfl, hb2⟩
    have hby := hbx.trans (hb2.mono hbx.size)
    have HBP2 := Lib.hid (HBP1.out.kept hb2)
    have HBR2 := Lib.hid (HBR1.out.kept hb2)
    clear hb2 hbx HBP1 HBR1 HI1 p0 p1 hPl
    simp only
    cases hd : memB z ⟨a, b⟩ with
    | true =>
      have HA := Lib.hid (ad_bad (r := ⟨Kd, z⟩) (a := a) (b := b) (by unfold okA; rw [show goodB Kd (insL z ⟨a, b⟩) = false from ins_new (mem_of hd), Bool.false_and, Bool.and_false]))
      clear hd
      have r0 := HBR2.out.cell 0
      have r1 := HBR2.out.cell 1
      have f0 := HBR2.out.frozen 0
      have f1 := HBR2.out.frozen 1
      simp only [List.getElem?_toArray, List.getElem?_cons_zero, List.getElem?_cons_succ] at r0 r1
      have HRS := Lib.hid (show Bx _ _ 29 #[.int .i64 0, .slice none 0 0] from Bx.set_ (Bx.set_ HBR2.out 0 (.int .i64 0)) 1 (.slice none 0 0))
      have hbs := (hby.setCell (p := ⟨RB, 0, none⟩) hRB (.int .i64 0)).setCell (p := ⟨RB, 1, none⟩) hRB (.slice none 0 0)
      go_wp2_with fail
      clear r0 r1 f0 f1
      generalize ((w2.setCell ⟨RB, 0, none⟩ (.int .i64 0)).setCell ⟨RB, 1, none⟩ (.slice none 0 0)) = wz at *
      have r0 := HRS.out.cell 0
      have r1 := HRS.out.cell 1
      simp only [List.getElem?_toArray, List.getElem?_cons_zero, List.getElem?_cons_succ] at r0 r1
      (try simp only [Exit.inBlock, Exit.then])
      refine bodyPost_ret (v := .tuple #[.agg #[.int .i64 0, .slice none 0 0], .bool false]) (by rw [results_cell_tmp rfl]; go_simp) rfl ?_
      exact ⟨_, ⟨0, []⟩, false, rfl, HA.out, LPrecedence.Own.zero, hbs⟩
    | false =>
      clear hd
      have HB8 := Lib.hid (Bx.new w2 48 #[.int .i64 a, .int .i64 b])
      have hbz := hby.alloc hby.size (.cells #[.int .i64 a, .int .i64 b] 48)
      have HBP3 := Lib.hid (HBP2.out.alloc (.cells #[.int .i64 a, .int .i64 b] 48))
      have HBR3 := Lib.hid (HBR2.out.alloc (.cells #[.int .i64 a, .int .i64 b] 48))
      have hG8 : w2.heap.size ≠ RB := by have := HBR2.out.lt; omega
      go_upto_region 4 with fail
      generalize w2.alloc (.cells #[.int .i64 a, .int .i64 b] 48) = w3 at *
      generalize w2.heap.size = G8 at *
      clear hby HBP2 HBR2
      go_wp2_with fail
      go_loopw [9] (fun s9 wr => ∃ k : Nat, s9 = .int .i64 k ∧ k ≤ n ∧ Hid (First (fun y => !lexB y ⟨a, b⟩) z k) ∧ Below w.heap.size w wr ∧ Hid (Bx wr w.heap.size 29 #[.int .i64 Kd, .slice (some ⟨b0, o0, none⟩) n cp]) ∧ Hid (Bx wr RB 29 #[.int .i64 0, .slice none 0 0]) ∧ Hid (Bx wr G8 48 #[.int .i64 a, .int .i64 b])) (fun s9 _ => n - (intOf s9).toNat)
      case atStart => exact ⟨0, rfl, Nat.zero_le _, Lib.hid first_zero, hbz, HBP3, HBR3, HB8⟩
      case round =>
        clear hbz HBP3 HBR3 HB8
        obtain ⟨k, rfl, hk, HF, hb, HBP, HBR, HBG⟩ := hrel
        go_upto_region 5 with fail
        go_cut [37] (fun t wx => ∃ v : Bool, t = .bool v ∧ Hid (PosT z ⟨a, b⟩ k v) ∧ Below wr.heap.size wr wx)
        case first =>
          have p1 := fun d os => show World.cell? (Sort.grow (redrawn wr d) os) ⟨w.heap.size, 1, none⟩ = some (.slice (some ⟨b0, o0, none⟩) n cp) from (HBP.out.kept (below_regrown wr d os)).cell 1
          by_cases hlt : k < n
          · have hx : k < z.length := by have := HN.out; omega
            have HQ := Lib.hid ((HC.out k z[k] (List.getElem?_eq_getElem hx)).below LIntA2.rec hb hbl)
            have HX := Lib.hid (List.getElem?_eq_getElem hx)
            generalize z[k] = Y at *
            have hbl2 : b0 < wr.heap.size := Nat.lt_of_lt_of_le hbl hb.size
            have HGY := LIntA2.grown HQ.out hbl2
            have y0 := fun d os => (LIntA2.cells (HGY.out d os)).1
            have y1 := fun d os => (LIntA2.cells (HGY.out d os)).2
            simp only [LIntA2.rec_n] at y0 y1
            have x0 := fun d os => show World.cell? (Sort.grow (redrawn wr d) os) ⟨G8, 0, none⟩ = some (.int .i64 a) from (HBG.out.kept (below_regrown wr d os)).cell 0
            have x1 := fun d os => show World.cell? (Sort.grow (redrawn wr d) os) ⟨G8, 1, none⟩ = some (.int .i64 b) from (HBG.out.kept (below_regrown wr d os)).cell 1
            have HV := Lib.hid (posT_yes HF.out HX.out)
            have HBF := Lib.hid (fun W => before Y ⟨a, b⟩ W)
            have k0 : (0 : Int) ≤ (k : Int) := by omega
            have k1 : (k : Int) < (n : Int) := by omega
            refine wp_region_quiet_below (by kernel_rfl) (by kernel_rfl) ?_
            repeat (go_big_quiet_step ((first | (go_at_call 27; exact Calls.regrown_of (HBF.out _)))))
            refine wpQuiet_nil ?_
            intro _ hw'
            obtain ⟨⟨dq, osq⟩, hw''⟩ := hw'
            subst hw''
            go_wp2_with fail
            go_meet
            exact ⟨_, rfl, HV, below_regrown _ _ _⟩
          · have HV := Lib.hid (posT_no (x := ⟨a, b⟩) HF.out (show z.length = k by have := HN.out; omega))
            have k1 : ¬ (k : Int) < (n : Int) := by omega
            refine wp_region_quiet_below (by kernel_rfl) (by kernel_rfl) ?_
            repeat (go_big_quiet_step (fail))
            refine wpQuiet_nil ?_
            intro _ hw'
            obtain ⟨⟨dq, osq⟩, hw''⟩ := hw'
            subst hw''
            go_wp2_with fail
            go_meet
            exact ⟨false, rfl, HV, below_regrown _ _ _⟩
        case rest =>
          obtain ⟨v, rfl, HV, hbv⟩ := hcut
          have hb2 := hb.trans (hbv.mono hb.size)
          have HBP2 := Lib.hid (HBP.out.kept hbv)
          have HBR2 := Lib.hid (HBR.out.kept hbv)
          have HBG2 := Lib.hid (HBG.out.kept hbv)
          clear hb hbv HBP HBR HBG
          cases v with
          | true =>
            have HF2 := Lib.hid (first_more HF.out (HV.out.1 rfl))
            have hkn : k < n := by obtain ⟨Y, hY, _⟩ := HV.out.1 rfl; have := (List.getElem?_eq_some_iff.1 hY).1; have := HN.out; omega
            go_wp2_with fail
            go_roundw
            case rel => exact ⟨k + 1, by go_num, by omega, HF2, hb2, HBP2, HBR2, HBG2⟩
            case measure => simp [intOf]; omega
          | false =>
            have HPos := Lib.hid (show posL z ⟨a, b⟩ = k from HV.out.2 rfl)
            clear HV HF
            go_upto_region 7 with fail
            generalize hWe : wc = W at *
            clear hWe
            have s1 : (k : Int) ≤ (n : Int) := by omega
            have s2 : (n : Int) ≤ (cp : Int) := by omega
            have s3 : (k : Int) ≤ (cp : Int) := by omega
            have s4 : (0 : Int) ≤ (k : Int) := by omega
            have HIW := Lib.hid (HIS.out.below LIntA2.rec hb2)
            have p0 := HBP2.out.cell 0
            have p1 := HBP2.out.cell 1
            have g0 := HBG2.out.cell 0
            have g1 := HBG2.out.cell 1
            simp only [List.getElem?_toArray, List.getElem?_cons_zero, List.getElem?_cons_succ] at p0 p1 g0 g1
            have hPl := HBP2.out.lt
            have hGl := HBG2.out.lt
            have HS1 := Lib.hid (show ∀ w' : World, Below W.heap.size W w' → ∀ j' u, (flat LIntA2.rec (z.take k))[j']? = some u → w'.cell? (Addr.add ⟨b0, o0, none⟩ j') = some u from fun w' hb =>
              ((HIW.out.below LIntA2.rec hb).take LIntA2.rec (k := k) (by omega)).flatCells LIntA2.rec)
            obtain ⟨oD, hoD⟩ : ∃ oD, (if cp = k then some (⟨b0, o0, none⟩ : Addr) else some ⟨b0, o0 + k * 2, none⟩) = some ⟨b0, oD, none⟩ := by
              by_cases h : cp = k
              · exact ⟨_, if_pos h⟩
              · exact ⟨_, if_neg h⟩
            have HS2 := Lib.hid (show ∀ w' : World, Below W.heap.size W w' → ∀ j' u, (flat LIntA2.rec (z.drop k))[j']? = some u → w'.cell? (Addr.add ⟨b0, oD, none⟩ j') = some u from fun w' hb =>
              ((HIW.out.below LIntA2.rec hb).drop LIntA2.rec (k := k) (some ⟨b0, oD, none⟩) hoD.symm (by omega) _ _ rfl rfl).flatCells LIntA2.rec)
            have HK := Lib.hid (show ∀ w' : World, Below W.heap.size W w' → Below W.heap.size W w' ∧ w'.cell? ⟨w.heap.size, 0, none⟩ = some (.int .i64 Kd) ∧ w'.cell? ⟨w.heap.size, 1, none⟩ = some (.slice (some ⟨b0, o0, none⟩) n cp) ∧ w'.cell? ⟨G8, 0, none⟩ = some (.int .i64 a) ∧ w'.cell? ⟨G8, 1, none⟩ = some (.int .i64 b) from fun w' hb => ⟨hb, by rw [hb.cell (by assumption)]; exact p0, by rw [hb.cell (by assumption)]; exact p1, by rw [hb.cell (by assumption)]; exact g0, by rw [hb.cell (by assumption)]; exact g1⟩)
            clear p0 p1 g0 g1
            go_cut [10] (fun t wx => ∃ (g : Nat) (av : Option Addr) (cv : Nat), t = .pointer (some ⟨g, 0, none⟩) ∧ Hid (Bx wx g 29 #[.int .i64 Kd, .slice av (k + 1 + (n - k)) cv]) ∧ Hid (Own LIntA2.rec 48 wx W.heap.size (.slice av (k + 1 + (n - k)) cv) (insL z ⟨a, b⟩)) ∧ Below W.heap.size W wx)
            case first =>
              have hB : Below W.heap.size W W.drew := (Below.refl _ _).drew
              refine wp_region_held_drew (S := fun w' => Below W.heap.size W w' ∧ w'.cell? ⟨w.heap.size, 0, none⟩ = some (.int .i64 Kd) ∧ w'.cell? ⟨w.heap.size, 1, none⟩ = some (.slice (some ⟨b0, o0, none⟩) n cp) ∧ w'.cell? ⟨G8, 0, none⟩ = some (.int .i64 a) ∧ w'.cell? ⟨G8, 1, none⟩ = some (.int .i64 b)) (by kernel_rfl) (HK.out _ hB) (fun hHeld => ?_)
              generalize W.drew = x0 at *
              refine wpAnyH_take (i := 0) (v := ?v1) rfl (by kernel_rfl) (by kernel_rfl) (by kernel_rfl) (fun _ _ _ h => h) (Or.inl ⟨by rfl, ?hy1⟩) (by assumption) ?rest1
              case hy1 => (intro wq hSw; (try dsimp only at hSw); go_split_ands; go_simp; (try with_reducible rfl))
              case rest1 =>
              refine wpAnyH_take (i := 1) (v := ?v2) rfl (by kernel_rfl) (by kernel_rfl) (by kernel_rfl) (fun _ _ _ h => h) (Or.inl ⟨by rfl, ?hy2⟩) (by assumption) ?rest2
              case hy2 => (intro wq hSw; (try dsimp only at hSw); go_split_ands; go_simp; (try with_reducible rfl))
              case rest2 =>
              refine wpAnyH_take (i := 3) (v := ?v3) rfl (by kernel_rfl) (by kernel_rfl) (by kernel_rfl) (fun _ _ _ h => h) (Or.inl ⟨by rfl, ?hy3⟩) (by assumption) ?rest3
              case hy3 => (intro wq hSw; (try dsimp only at hSw); go_split_ands; go_simp; (try with_reducible rfl))
              case rest3 =>
              refine wpAnyH_take (i := 4) (v := ?v4) rfl (by kernel_rfl) (by kernel_rfl) (by kernel_rfl) (fun _ _ _ h => h) (Or.inl ⟨by rfl, ?hy4⟩) (by assumption) ?rest4
              case hy4 => (intro wq hSw; (try dsimp only at hSw); go_split_ands; go_simp; (try with_reducible rfl))
              case rest4 =>
              refine wpAnyH_take (i := 5) (v := ?v5) rfl (by kernel_rfl) (by kernel_rfl) (by kernel_rfl) (fun _ _ _ h => h) (Or.inl ⟨by rfl, ?hy5⟩) (by assumption) ?rest5
              case hy5 => (intro wq hSw; (try dsimp only at hSw); go_split_ands; go_simp; (try with_reducible rfl))
              case rest5 =>
              refine wpAnyH_take (i := 6) (v := ?v6) rfl (by kernel_rfl) (by kernel_rfl) (by kernel_rfl) (fun _ _ _ h => h) (Or.inl ⟨by rfl, ?hy6⟩) (by assumption) ?rest6
              case hy6 => (intro wq hSw; (try dsimp only at hSw); go_split_ands; go_simp; (try with_reducible rfl))
              case rest6 =>
              refine wpAnyH_take (i := 8) (v := ?v7) rfl (by kernel_rfl) (by kernel_rfl) (by kernel_rfl) (fun _ _ _ h => h) (Or.inl ⟨by rfl, ?hy7⟩) (by assumption) ?rest7
              case hy7 => (intro wq hSw; (try dsimp only at hSw); go_split_ands; go_simp; (try with_reducible rfl))
              case rest7 =>
              refine wpAnyH_take (i := 11) (v := ?v8) rfl (by kernel_rfl) (by kernel_rfl) (by kernel_rfl) (fun _ _ _ h => h) (Or.inl ⟨by rfl, ?hy8⟩) (by assumption) ?rest8
              case hy8 => (intro wq hSw; (try dsimp only at hSw); go_split_ands; go_simp; (try with_reducible rfl))
              case rest8 =>
              refine wpAnyH_take (i := 12) (v := ?v9) rfl (by kernel_rfl) (by kernel_rfl) (by kernel_rfl) (fun _ _ _ h => h) (Or.inl ⟨by rfl, ?hy9⟩) (by assumption) ?rest9
              case hy9 => (intro wq hSw; (try dsimp only at hSw); go_split_ands; go_simp; (try with_reducible rfl))
              case rest9 =>
              refine wpAnyH_take (i := 13) (v := ?v10) rfl (by kernel_rfl) (by kernel_rfl) (by kernel_rfl) (fun _ _ _ h => h) (Or.inl ⟨by rfl, ?hy10⟩) (by assumption) ?rest10
              case hy10 => (intro wq hSw; (try dsimp only at hSw); go_split_ands; go_simp; (try with_reducible rfl))
              case rest10 =>
              refine wpAnyH_take (i := 14) (v := ?v11) rfl (by kernel_rfl) (by kernel_rfl) (by kernel_rfl) (fun _ _ _ h => h) (Or.inl ⟨by rfl, ?hy11⟩) (by assumption) ?rest11
              case hy11 => (intro wq hSw; (try dsimp only at hSw); go_split_ands; go_simp; (try with_reducible rfl))
              case rest11 =>
              refine wpAnyH_ready (rs := [2, 9, 17]) (by kernel_rfl) (by simp) ?_
              refine AllReadyH.cons rfl (fun K hK => ?step12) ?more12
              case step12 =>
                go_simp
                refine hK.out _ _ (HK.out _ (hB.alloc hB.size _)) (fun hHeld => ?_)
                clear hK K
                have hOw : (x0.alloc (Obj.cells #[] 48)).ownsRow W.heap.size 48 2 (.slice (some ⟨x0.heap.size, 0, none⟩) 0 0) 0 [] := LIntA2.startB (heap_alloc_new x0 _) hB.size
                replace hB := hB.alloc hB.size (Obj.cells #[] 48)
                generalize x0.alloc (Obj.cells #[] 48) = x1 at *
                generalize x0.heap.size = gAx1 at *
                refine wpAnyH_ready (rs := [7, 9, 17]) (by kernel_rfl) (by simp) ?_
                refine AllReadyH.cons rfl (fun K hK => ?step13) ?more13
                case step13 =>
                  refine step_append_at (by rfl) (.tmp 42) (.tmp 46) 22 (by rfl) W.heap.size 48 i0 (.agg #[.int .i64 0, .int .i64 0]) 2 16 Try.underlying22 HI0.out HZ0.out.1 HZ0.out.2.1 HZ0.out.2.2 rfl (by decide) _ _ _ (by rfl) hOw (⟨b0, o0, none⟩) (k) (cp) (flat LIntA2.rec (z.take k)) (by rfl) (by rw [flat_len, LIntA2.rec_n, List.length_take]; have := HN.out; omega) (fun j u hu => HS1.out _ hB j u hu) (flat_one _ _) (by unfold maxLen; omega) (by omega) hB.size ?_
                  intro vx2 x2 hown2 hgrow hat
                  have hB2 := Below.grown hB hgrow hB.size (fun j hj => (hOw.lt j hj).1)
                  refine hK.out _ _ (HK.out _ hB2) (fun hHeld => ?_)
                  clear hK K
                  clear hOw hB hgrow hat
                  have hOw := hown2
                  have hB := hB2
                  clear hown2 hB2
                  refine wpAnyH_ready (rs := [9, 17]) (by kernel_rfl) (by simp) ?_
                  refine AllReadyH.cons rfl (fun K hK => ?step14) ?more14
                  case step14 =>
                    go_simp
                    refine hK.out _ _ (HK.out _ (hB.alloc hB.size _)) (fun hHeld => ?_)
                    clear hK K
                    have hNeB : (vx2).ownBlock ≠ some x2.heap.size := fun e => by have h1 := (hOw.lt _ e).2; omega
                    replace hOw := hOw.alloc (Obj.cells #[.int .i64 a, .int .i64 b] 48)
                    have hXB := Bx.new x2 48 #[.int .i64 a, .int .i64 b]
                    replace hB := hB.alloc hB.size (Obj.cells #[.int .i64 a, .int .i64 b] 48)
                    generalize x2.alloc (Obj.cells #[.int .i64 a, .int .i64 b] 48) = x3 at *
                    generalize x2.heap.size = gBx3 at *
                    refine wpAnyH_ready (rs := [10, 17]) (by kernel_rfl) (by simp) ?_
                    refine AllReadyH.cons rfl (fun K hK => ?step15) ?more15
                    case step15 =>
                      refine step_append_at (by rfl) (.tmp 47) (.tmp 49) 22 (by rfl) W.heap.size 48 i0 (.agg #[.int .i64 0, .int .i64 0]) 2 16 Try.underlying22 HI0.out HZ0.out.1 HZ0.out.2.1 HZ0.out.2.2 rfl (by decide) _ _ _ (by rfl) hOw (⟨gBx3, 0, none⟩) (1) (1) [.int .i64 a, .int .i64 b] (by rfl) (by rfl) (World.news_of_block hXB) (by intro u hu; simp only [List.mem_cons, List.not_mem_nil, or_false] at hu; rcases hu with rfl | rfl <;> rfl) (by unfold maxLen; omega) (by omega) hB.size ?_
                      intro vx4 x4 hown2 hgrow hat
                      have hB2 := Below.grown hB hgrow hB.size (fun j hj => (hOw.lt j hj).1)
                      refine hK.out _ _ (HK.out _ hB2) (fun hHeld => ?_)
                      clear hK K
                      have hX2 := Bx.grownBy hXB hgrow hNeB
                      have hNe2 := ne_next hNeB hXB.lt hat
                      clear hXB hNeB
                      have hXB := hX2
                      have hNeB := hNe2
                      clear hX2 hNe2
                      clear hOw hB hgrow hat
                      have hOw := hown2
                      have hB := hB2
                      clear hown2 hB2
                      clear hXB hNeB
                      refine wpAnyH_ready (rs := [15, 17]) (by kernel_rfl) (by simp) ?_
                      refine AllReadyH.cons rfl (fun K hK => ?step16) ?more16
                      case step16 =>
                        refine step_append_at (by rfl) (.tmp 50) (.tmp 54) 22 (by rfl) W.heap.size 48 i0 (.agg #[.int .i64 0, .int .i64 0]) 2 16 Try.underlying22 HI0.out HZ0.out.1 HZ0.out.2.1 HZ0.out.2.2 rfl (by decide) _ _ _ (by rfl) hOw (⟨b0, oD, none⟩) (n - k) (cp - k) (flat LIntA2.rec (z.drop k)) (by rfl) (by rw [flat_len, LIntA2.rec_n, List.length_drop]; have := HN.out; omega) (fun j u hu => HS2.out _ hB j u hu) (flat_one _ _) (by unfold maxLen; omega) (by omega) hB.size ?_
                        intro vx5 x5 hown2 hgrow hat
                        have hB2 := Below.grown hB hgrow hB.size (fun j hj => (hOw.lt j hj).1)
                        refine hK.out _ _ (HK.out _ hB2) (fun hHeld => ?_)
                        clear hK K
                        clear hOw hB hgrow hat
                        have hOw := hown2
                        have hB := hB2
                        clear hown2 hB2
                        simp only [Nat.zero_add] at hOw
                        obtain ⟨av, cv, rfl⟩ := row_slice hOw
                        refine wpAnyH_take (i := 16) (v := ?v17) rfl (by kernel_rfl) (by kernel_rfl) (by kernel_rfl) (fun _ _ _ h => h) (Or.inl ⟨by rfl, ?hy17⟩) (by assumption) ?rest17
                        case hy17 => (intro wq hSw; (try dsimp only at hSw); go_split_ands; go_simp; (try with_reducible rfl))
                        case rest17 =>
                        refine wpAnyH_ready (rs := [17]) (by kernel_rfl) (by simp) ?_
                        refine AllReadyH.cons rfl (fun K hK => ?step18) ?more18
                        case step18 =>
                          go_simp
                          refine hK.out _ _ (HK.out _ (hB.alloc hB.size _)) (fun hHeld => ?_)
                          clear hK K
                          have hNeC : (Value.slice av (_) cv).ownBlock ≠ some x5.heap.size := fun e => by have h1 := (hOw.lt _ e).2; omega
                          replace hOw := hOw.alloc (Obj.cells #[.int .i64 0, .slice none 0 0] 29)
                          have hXC := Bx.new x5 29 #[.int .i64 0, .slice none 0 0]
                          have hCW : W.heap.size ≤ x5.heap.size := hB.size
                          replace hB := hB.alloc hB.size (Obj.cells #[.int .i64 0, .slice none 0 0] 29)
                          generalize x5.alloc (Obj.cells #[.int .i64 0, .slice none 0 0] 29) = x6 at *
                          generalize x5.heap.size = gCx6 at *
                          refine wpAnyH_ready (rs := [18]) (by kernel_rfl) (by simp) ?_
                          refine AllReadyH.cons rfl (fun K hK => ?step19) ?more19
                          case step19 =>
                            have c0 := hXC.cell 0
                            have c1 := hXC.cell 1
                            have f0 := hXC.frozen 0
                            have f1 := hXC.frozen 1
                            simp only [List.getElem?_toArray, List.getElem?_cons_zero, List.getElem?_cons_succ] at c0 c1
                            have hB3 := (hB.setCell (p := ⟨gCx6, 0, none⟩) hCW (.int .i64 Kd)).setCell (p := ⟨gCx6, 1, none⟩) hCW (.slice av (k + 1 + (n - k)) cv)
                            have hC3 := Lib.hid (show Bx _ _ 29 #[.int .i64 Kd, .slice av (k + 1 + (n - k)) cv] from Bx.set_ (Bx.set_ hXC 0 (.int .i64 Kd)) 1 (.slice av (k + 1 + (n - k)) cv))
                            have hO3 := Lib.hid (own_ins HN.out HPos.out hk (own_rows2 hOw hNeC (.int .i64 Kd) (.slice av (k + 1 + (n - k)) cv)))
                            go_simp
                            refine hK.out _ _ (HK.out _ hB3) (fun hHeld => ?_)
                            clear hK K
                            refine wpAnyH_done (by kernel_rfl) ?_ _
                            go_wp2_with fail
                            all_goals
                              go_meet
                              exact ⟨gCx6, av, cv, rfl, hC3, hO3, hB3⟩
                          case more19 => exact AllReadyH.nil
                        case more18 => exact AllReadyH.nil
                      case more16 =>
                        refine AllReadyH.cons rfl (fun K hK => ?step20) ?more20
                        case step20 =>
                          go_simp
                          refine hK.out _ _ (HK.out _ (hB.alloc hB.size _)) (fun hHeld => ?_)
                          clear hK K
                          have hNeC : (vx4).ownBlock ≠ some x4.heap.size := fun e => by have h1 := (hOw.lt _ e).2; omega
                          replace hOw := hOw.alloc (Obj.cells #[.int .i64 0, .slice none 0 0] 29)
                          have hXC := Bx.new x4 29 #[.int .i64 0, .slice none 0 0]
                          have hCW : W.heap.size ≤ x4.heap.size := hB.size
                          replace hB := hB.alloc hB.size (Obj.cells #[.int .i64 0, .slice none 0 0] 29)
                          generalize x4.alloc (Obj.cells #[.int .i64 0, .slice none 0 0] 29) = x7 at *
                          generalize x4.heap.size = gCx7 at *
                          refine wpAnyH_ready (rs := [15]) (by kernel_rfl) (by simp) ?_
                          refine AllReadyH.cons rfl (fun K hK => ?step21) ?more21
                          case step21 =>
                            refine step_append_at (by rfl) (.tmp 50) (.tmp 54) 22 (by rfl) W.heap.size 48 i0 (.agg #[.int .i64 0, .int .i64 0]) 2 16 Try.underlying22 HI0.out HZ0.out.1 HZ0.out.2.1 HZ0.out.2.2 rfl (by decide) _ _ _ (by rfl) hOw (⟨b0, oD, none⟩) (n - k) (cp - k) (flat LIntA2.rec (z.drop k)) (by rfl) (by rw [flat_len, LIntA2.rec_n, List.length_drop]; have := HN.out; omega) (fun j u hu => HS2.out _ hB j u hu) (flat_one _ _) (by unfold maxLen; omega) (by omega) hB.size ?_
                            intro vx8 x8 hown2 hgrow hat
                            have hB2 := Below.grown hB hgrow hB.size (fun j hj => (hOw.lt j hj).1)
                            refine hK.out _ _ (HK.out _ hB2) (fun hHeld => ?_)
                            clear hK K
                            have hX2 := Bx.grownBy hXC hgrow hNeC
                            have hNe2 := ne_next hNeC hXC.lt hat
                            clear hXC hNeC
                            have hXC := hX2
                            have hNeC := hNe2
                            clear hX2 hNe2
                            clear hOw hB hgrow hat
                            have hOw := hown2
                            have hB := hB2
                            clear hown2 hB2
                            simp only [Nat.zero_add] at hOw
                            obtain ⟨av, cv, rfl⟩ := row_slice hOw
                            refine wpAnyH_take (i := 16) (v := ?v22) rfl (by kernel_rfl) (by kernel_rfl) (by kernel_rfl) (fun _ _ _ h => h) (Or.inl ⟨by rfl, ?hy22⟩) (by assumption) ?rest22
                            case hy22 => (intro wq hSw; (try dsimp only at hSw); go_split_ands; go_simp; (try with_reducible rfl))
                            case rest22 =>
                            refine wpAnyH_ready (rs := [18]) (by kernel_rfl) (by simp) ?_
                            refine AllReadyH.cons rfl (fun K hK => ?step23) ?more23
                            case step23 =>
                              have c0 := hXC.cell 0
                              have c1 := hXC.cell 1
                              have f0 := hXC.frozen 0
                              have f1 := hXC.frozen 1
                              simp only [List.getElem?_toArray, List.getElem?_cons_zero, List.getElem?_cons_succ] at c0 c1
                              have hB3 := (hB.setCell (p := ⟨gCx7, 0, none⟩) hCW (.int .i64 Kd)).setCell (p := ⟨gCx7, 1, none⟩) hCW (.slice av (k + 1 + (n - k)) cv)
                              have hC3 := Lib.hid (show Bx _ _ 29 #[.int .i64 Kd, .slice av (k + 1 + (n - k)) cv] from Bx.set_ (Bx.set_ hXC 0 (.int .i64 Kd)) 1 (.slice av (k + 1 + (n - k)) cv))
                              have hO3 := Lib.hid (own_ins HN.out HPos.out hk (own_rows2 hOw hNeC (.int .i64 Kd) (.slice av (k + 1 + (n - k)) cv)))
                              go_simp
                              refine hK.out _ _ (HK.out _ hB3) (fun hHeld => ?_)
                              clear hK K
                              refine wpAnyH_done (by kernel_rfl) ?_ _
                              go_wp2_with fail
                              all_goals
                                go_meet
                                exact ⟨gCx7, av, cv, rfl, hC3, hO3, hB3⟩
                            case more23 => exact AllReadyH.nil
                          case more21 => exact AllReadyH.nil
                        case more20 => exact AllReadyH.nil
                    case more15 =>
                      refine AllReadyH.cons rfl (fun K hK => ?step24) ?more24
                      case step24 =>
                        go_simp
                        refine hK.out _ _ (HK.out _ (hB.alloc hB.size _)) (fun hHeld => ?_)
                        clear hK K
                        have hNeC : (vx2).ownBlock ≠ some x3.heap.size := fun e => by have h1 := (hOw.lt _ e).2; omega
                        replace hOw := hOw.alloc (Obj.cells #[.int .i64 0, .slice none 0 0] 29)
                        replace hXB := Bx.alloc hXB (Obj.cells #[.int .i64 0, .slice none 0 0] 29)
                        have hXC := Bx.new x3 29 #[.int .i64 0, .slice none 0 0]
                        have hCW : W.heap.size ≤ x3.heap.size := hB.size
                        replace hB := hB.alloc hB.size (Obj.cells #[.int .i64 0, .slice none 0 0] 29)
                        generalize x3.alloc (Obj.cells #[.int .i64 0, .slice none 0 0] 29) = x9 at *
                        generalize x3.heap.size = gCx9 at *
                        refine wpAnyH_ready (rs := [10]) (by kernel_rfl) (by simp) ?_
                        refine AllReadyH.cons rfl (fun K hK => ?step25) ?more25
                        case step25 =>
                          refine step_append_at (by rfl) (.tmp 47) (.tmp 49) 22 (by rfl) W.heap.size 48 i0 (.agg #[.int .i64 0, .int .i64 0]) 2 16 Try.underlying22 HI0.out HZ0.out.1 HZ0.out.2.1 HZ0.out.2.2 rfl (by decide) _ _ _ (by rfl) hOw (⟨gBx3, 0, none⟩) (1) (1) [.int .i64 a, .int .i64 b] (by rfl) (by rfl) (World.news_of_block hXB) (by intro u hu; simp only [List.mem_cons, List.not_mem_nil, or_false] at hu; rcases hu with rfl | rfl <;> rfl) (by unfold maxLen; omega) (by omega) hB.size ?_
                          intro vx10 x10 hown2 hgrow hat
                          have hB2 := Below.grown hB hgrow hB.size (fun j hj => (hOw.lt j hj).1)
                          refine hK.out _ _ (HK.out _ hB2) (fun hHeld => ?_)
                          clear hK K
                          have hX2 := Bx.grownBy hXB hgrow hNeB
                          have hNe2 := ne_next hNeB hXB.lt hat
                          clear hXB hNeB
                          have hXB := hX2
                          have hNeB := hNe2
                          clear hX2 hNe2
                          have hX2 := Bx.grownBy hXC hgrow hNeC
                          have hNe2 := ne_next hNeC hXC.lt hat
                          clear hXC hNeC
                          have hXC := hX2
                          have hNeC := hNe2
                          clear hX2 hNe2
                          clear hOw hB hgrow hat
                          have hOw := hown2
                          have hB := hB2
                          clear hown2 hB2
                          clear hXB hNeB
                          refine wpAnyH_ready (rs := [15]) (by kernel_rfl) (by simp) ?_
                          refine AllReadyH.cons rfl (fun K hK => ?step26) ?more26
                          case step26 =>
                            refine step_append_at (by rfl) (.tmp 50) (.tmp 54) 22 (by rfl) W.heap.size 48 i0 (.agg #[.int .i64 0, .int .i64 0]) 2 16 Try.underlying22 HI0.out HZ0.out.1 HZ0.out.2.1 HZ0.out.2.2 rfl (by decide) _ _ _ (by rfl) hOw (⟨b0, oD, none⟩) (n - k) (cp - k) (flat LIntA2.rec (z.drop k)) (by rfl) (by rw [flat_len, LIntA2.rec_n, List.length_drop]; have := HN.out; omega) (fun j u hu => HS2.out _ hB j u hu) (flat_one _ _) (by unfold maxLen; omega) (by omega) hB.size ?_
                            intro vx11 x11 hown2 hgrow hat
                            have hB2 := Below.grown hB hgrow hB.size (fun j hj => (hOw.lt j hj).1)
                            refine hK.out _ _ (HK.out _ hB2) (fun hHeld => ?_)
                            clear hK K
                            have hX2 := Bx.grownBy hXC hgrow hNeC
                            have hNe2 := ne_next hNeC hXC.lt hat
                            clear hXC hNeC
                            have hXC := hX2
                            have hNeC := hNe2
                            clear hX2 hNe2
                            clear hOw hB hgrow hat
                            have hOw := hown2
                            have hB := hB2
                            clear hown2 hB2
                            simp only [Nat.zero_add] at hOw
                            obtain ⟨av, cv, rfl⟩ := row_slice hOw
                            refine wpAnyH_take (i := 16) (v := ?v27) rfl (by kernel_rfl) (by kernel_rfl) (by kernel_rfl) (fun _ _ _ h => h) (Or.inl ⟨by rfl, ?hy27⟩) (by assumption) ?rest27
                            case hy27 => (intro wq hSw; (try dsimp only at hSw); go_split_ands; go_simp; (try with_reducible rfl))
                            case rest27 =>
                            refine wpAnyH_ready (rs := [18]) (by kernel_rfl) (by simp) ?_
                            refine AllReadyH.cons rfl (fun K hK => ?step28) ?more28
                            case step28 =>
                              have c0 := hXC.cell 0
                              have c1 := hXC.cell 1
                              have f0 := hXC.frozen 0
                              have f1 := hXC.frozen 1
                              simp only [List.getElem?_toArray, List.getElem?_cons_zero, List.getElem?_cons_succ] at c0 c1
                              have hB3 := (hB.setCell (p := ⟨gCx9, 0, none⟩) hCW (.int .i64 Kd)).setCell (p := ⟨gCx9, 1, none⟩) hCW (.slice av (k + 1 + (n - k)) cv)
                              have hC3 := Lib.hid (show Bx _ _ 29 #[.int .i64 Kd, .slice av (k + 1 + (n - k)) cv] from Bx.set_ (Bx.set_ hXC 0 (.int .i64 Kd)) 1 (.slice av (k + 1 + (n - k)) cv))
                              have hO3 := Lib.hid (own_ins HN.out HPos.out hk (own_rows2 hOw hNeC (.int .i64 Kd) (.slice av (k + 1 + (n - k)) cv)))
                              go_simp
                              refine hK.out _ _ (HK.out _ hB3) (fun hHeld => ?_)
                              clear hK K
                              refine wpAnyH_done (by kernel_rfl) ?_ _
                              go_wp2_with fail
                              all_goals
                                go_meet
                                exact ⟨gCx9, av, cv, rfl, hC3, hO3, hB3⟩
                            case more28 => exact AllReadyH.nil
                          case more26 => exact AllReadyH.nil
                        case more25 => exact AllReadyH.nil
                      case more24 => exact AllReadyH.nil
                  case more14 =>
                    refine AllReadyH.cons rfl (fun K hK => ?step29) ?more29
                    case step29 =>
                      go_simp
                      refine hK.out _ _ (HK.out _ (hB.alloc hB.size _)) (fun hHeld => ?_)
                      clear hK K
                      have hNeC : (vx2).ownBlock ≠ some x2.heap.size := fun e => by have h1 := (hOw.lt _ e).2; omega
                      replace hOw := hOw.alloc (Obj.cells #[.int .i64 0, .slice none 0 0] 29)
                      have hXC := Bx.new x2 29 #[.int .i64 0, .slice none 0 0]
                      have hCW : W.heap.size ≤ x2.heap.size := hB.size
                      replace hB := hB.alloc hB.size (Obj.cells #[.int .i64 0, .slice none 0 0] 29)
                      generalize x2.alloc (Obj.cells #[.int .i64 0, .slice none 0 0] 29) = x12 at *
                      generalize x2.heap.size = gCx12 at *
                      refine wpAnyH_ready (rs := [9]) (by kernel_rfl) (by simp) ?_
                      refine AllReadyH.cons rfl (fun K hK => ?step30) ?more30
                      case step30 =>
                        go_simp
                        refine hK.out _ _ (HK.out _ (hB.alloc hB.size _)) (fun hHeld => ?_)
                        clear hK K
                        have hNeB : (vx2).ownBlock ≠ some x12.heap.size := fun e => by have h1 := (hOw.lt _ e).2; omega
                        replace hOw := hOw.alloc (Obj.cells #[.int .i64 a, .int .i64 b] 48)
                        replace hXC := Bx.alloc hXC (Obj.cells #[.int .i64 a, .int .i64 b] 48)
                        have hXB := Bx.new x12 48 #[.int .i64 a, .int .i64 b]
                        replace hB := hB.alloc hB.size (Obj.cells #[.int .i64 a, .int .i64 b] 48)
                        generalize x12.alloc (Obj.cells #[.int .i64 a, .int .i64 b] 48) = x13 at *
                        generalize x12.heap.size = gBx13 at *
                        refine wpAnyH_ready (rs := [10]) (by kernel_rfl) (by simp) ?_
                        refine AllReadyH.cons rfl (fun K hK => ?step31) ?more31
                        case step31 =>
                          refine step_append_at (by rfl) (.tmp 47) (.tmp 49) 22 (by rfl) W.heap.size 48 i0 (.agg #[.int .i64 0, .int .i64 0]) 2 16 Try.underlying22 HI0.out HZ0.out.1 HZ0.out.2.1 HZ0.out.2.2 rfl (by decide) _ _ _ (by rfl) hOw (⟨gBx13, 0, none⟩) (1) (1) [.int .i64 a, .int .i64 b] (by rfl) (by rfl) (World.news_of_block hXB) (by intro u hu; simp only [List.mem_cons, List.not_mem_nil, or_false] at hu; rcases hu with rfl | rfl <;> rfl) (by unfold maxLen; omega) (by omega) hB.size ?_
                          intro vx14 x14 hown2 hgrow hat
                          have hB2 := Below.grown hB hgrow hB.size (fun j hj => (hOw.lt j hj).1)
                          refine hK.out _ _ (HK.out _ hB2) (fun hHeld => ?_)
                          clear hK K
                          have hX2 := Bx.grownBy hXB hgrow hNeB
                          have hNe2 := ne_next hNeB hXB.lt hat
                          clear hXB hNeB
                          have hXB := hX2
                          have hNeB := hNe2
                          clear hX2 hNe2
                          have hX2 := Bx.grownBy hXC hgrow hNeC
                          have hNe2 := ne_next hNeC hXC.lt hat
                          clear hXC hNeC
                          have hXC := hX2
                          have hNeC := hNe2
                          clear hX2 hNe2
                          clear hOw hB hgrow hat
                          have hOw := hown2
                          have hB := hB2
                          clear hown2 hB2
                          clear hXB hNeB
                          refine wpAnyH_ready (rs := [15]) (by kernel_rfl) (by simp) ?_
                          refine AllReadyH.cons rfl (fun K hK => ?step32) ?more32
                          case step32 =>
                            refine step_append_at (by rfl) (.tmp 50) (.tmp 54) 22 (by rfl) W.heap.size 48 i0 (.agg #[.int .i64 0, .int .i64 0]) 2 16 Try.underlying22 HI0.out HZ0.out.1 HZ0.out.2.1 HZ0.out.2.2 rfl (by decide) _ _ _ (by rfl) hOw (⟨b0, oD, none⟩) (n - k) (cp - k) (flat LIntA2.rec (z.drop k)) (by rfl) (by rw [flat_len, LIntA2.rec_n, List.length_drop]; have := HN.out; omega) (fun j u hu => HS2.out _ hB j u hu) (flat_one _ _) (by unfold maxLen; omega) (by omega) hB.size ?_
                            intro vx15 x15 hown2 hgrow hat
                            have hB2 := Below.grown hB hgrow hB.size (fun j hj => (hOw.lt j hj).1)
                            refine hK.out _ _ (HK.out _ hB2) (fun hHeld => ?_)
                            clear hK K
                            have hX2 := Bx.grownBy hXC hgrow hNeC
                            have hNe2 := ne_next hNeC hXC.lt hat
                            clear hXC hNeC
                            have hXC := hX2
                            have hNeC := hNe2
                            clear hX2 hNe2
                            clear hOw hB hgrow hat
                            have hOw := hown2
                            have hB := hB2
                            clear hown2 hB2
                            simp only [Nat.zero_add] at hOw
                            obtain ⟨av, cv, rfl⟩ := row_slice hOw
                            refine wpAnyH_take (i := 16) (v := ?v33) rfl (by kernel_rfl) (by kernel_rfl) (by kernel_rfl) (fun _ _ _ h => h) (Or.inl ⟨by rfl, ?hy33⟩) (by assumption) ?rest33
                            case hy33 => (intro wq hSw; (try dsimp only at hSw); go_split_ands; go_simp; (try with_reducible rfl))
                            case rest33 =>
                            refine wpAnyH_ready (rs := [18]) (by kernel_rfl) (by simp) ?_
                            refine AllReadyH.cons rfl (fun K hK => ?step34) ?more34
                            case step34 =>
                              have c0 := hXC.cell 0
                              have c1 := hXC.cell 1
                              have f0 := hXC.frozen 0
                              have f1 := hXC.frozen 1
                              simp only [List.getElem?_toArray, List.getElem?_cons_zero, List.getElem?_cons_succ] at c0 c1
                              have hB3 := (hB.setCell (p := ⟨gCx12, 0, none⟩) hCW (.int .i64 Kd)).setCell (p := ⟨gCx12, 1, none⟩) hCW (.slice av (k + 1 + (n - k)) cv)
                              have hC3 := Lib.hid (show Bx _ _ 29 #[.int .i64 Kd, .slice av (k + 1 + (n - k)) cv] from Bx.set_ (Bx.set_ hXC 0 (.int .i64 Kd)) 1 (.slice av (k + 1 + (n - k)) cv))
                              have hO3 := Lib.hid (own_ins HN.out HPos.out hk (own_rows2 hOw hNeC (.int .i64 Kd) (.slice av (k + 1 + (n - k)) cv)))
                              go_simp
                              refine hK.out _ _ (HK.out _ hB3) (fun hHeld => ?_)
                              clear hK K
                              refine wpAnyH_done (by kernel_rfl) ?_ _
                              go_wp2_with fail
                              all_goals
                                go_meet
                                exact ⟨gCx12, av, cv, rfl, hC3, hO3, hB3⟩
                            case more34 => exact AllReadyH.nil
                          case more32 => exact AllReadyH.nil
                        case more31 => exact AllReadyH.nil
                      case more30 => exact AllReadyH.nil
                    case more29 => exact AllReadyH.nil
                case more13 =>
                  refine AllReadyH.cons rfl (fun K hK => ?step35) ?more35
                  case step35 =>
                    go_simp
                    refine hK.out _ _ (HK.out _ (hB.alloc hB.size _)) (fun hHeld => ?_)
                    clear hK K
                    have hNeB : (Value.slice (some ⟨gAx1, 0, none⟩) 0 0).ownBlock ≠ some x1.heap.size := fun e => by have h1 := (hOw.lt _ e).2; omega
                    replace hOw := hOw.alloc (Obj.cells #[.int .i64 a, .int .i64 b] 48)
                    have hXB := Bx.new x1 48 #[.int .i64 a, .int .i64 b]
                    replace hB := hB.alloc hB.size (Obj.cells #[.int .i64 a, .int .i64 b] 48)
                    generalize x1.alloc (Obj.cells #[.int .i64 a, .int .i64 b] 48) = x16 at *
                    generalize x1.heap.size = gBx16 at *
                    refine wpAnyH_ready (rs := [7, 17]) (by kernel_rfl) (by simp) ?_
                    refine AllReadyH.cons rfl (fun K hK => ?step36) ?more36
                    case step36 =>
                      refine step_append_at (by rfl) (.tmp 42) (.tmp 46) 22 (by rfl) W.heap.size 48 i0 (.agg #[.int .i64 0, .int .i64 0]) 2 16 Try.underlying22 HI0.out HZ0.out.1 HZ0.out.2.1 HZ0.out.2.2 rfl (by decide) _ _ _ (by rfl) hOw (⟨b0, o0, none⟩) (k) (cp) (flat LIntA2.rec (z.take k)) (by rfl) (by rw [flat_len, LIntA2.rec_n, List.length_take]; have := HN.out; omega) (fun j u hu => HS1.out _ hB j u hu) (flat_one _ _) (by unfold maxLen; omega) (by omega) hB.size ?_
                      intro vx17 x17 hown2 hgrow hat
                      have hB2 := Below.grown hB hgrow hB.size (fun j hj => (hOw.lt j hj).1)
                      refine hK.out _ _ (HK.out _ hB2) (fun hHeld => ?_)
                      clear hK K
                      have hX2 := Bx.grownBy hXB hgrow hNeB
                      have hNe2 := ne_next hNeB hXB.lt hat
                      clear hXB hNeB
                      have hXB := hX2
                      have hNeB := hNe2
                      clear hX2 hNe2
                      clear hOw hB hgrow hat
                      have hOw := hown2
                      have hB := hB2
                      clear hown2 hB2
                      refine wpAnyH_ready (rs := [10, 17]) (by kernel_rfl) (by simp) ?_
                      refine AllReadyH.cons rfl (fun K hK => ?step37) ?more37
                      case step37 =>
                        refine step_append_at (by rfl) (.tmp 47) (.tmp 49) 22 (by rfl) W.heap.size 48 i0 (.agg #[.int .i64 0, .int .i64 0]) 2 16 Try.underlying22 HI0.out HZ0.out.1 HZ0.out.2.1 HZ0.out.2.2 rfl (by decide) _ _ _ (by rfl) hOw (⟨gBx16, 0, none⟩) (1) (1) [.int .i64 a, .int .i64 b] (by rfl) (by rfl) (World.news_of_block hXB) (by intro u hu; simp only [List.mem_cons, List.not_mem_nil, or_false] at hu; rcases hu with rfl | rfl <;> rfl) (by unfold maxLen; omega) (by omega) hB.size ?_
                        intro vx18 x18 hown2 hgrow hat
                        have hB2 := Below.grown hB hgrow hB.size (fun j hj => (hOw.lt j hj).1)
                        refine hK.out _ _ (HK.out _ hB2) (fun hHeld => ?_)
                        clear hK K
                        have hX2 := Bx.grownBy hXB hgrow hNeB
                        have hNe2 := ne_next hNeB hXB.lt hat
                        clear hXB hNeB
                        have hXB := hX2
                        have hNeB := hNe2
                        clear hX2 hNe2
                        clear hOw hB hgrow hat
                        have hOw := hown2
                        have hB := hB2
                        clear hown2 hB2
                        clear hXB hNeB
                        refine wpAnyH_ready (rs := [15, 17]) (by kernel_rfl) (by simp) ?_
                        refine AllReadyH.cons rfl (fun K hK => ?step38) ?more38
                        case step38 =>
                          refine step_append_at (by rfl) (.tmp 50) (.tmp 54) 22 (by rfl) W.heap.size 48 i0 (.agg #[.int .i64 0, .int .i64 0]) 2 16 Try.underlying22 HI0.out HZ0.out.1 HZ0.out.2.1 HZ0.out.2.2 rfl (by decide) _ _ _ (by rfl) hOw (⟨b0, oD, none⟩) (n - k) (cp - k) (flat LIntA2.rec (z.drop k)) (by rfl) (by rw [flat_len, LIntA2.rec_n, List.length_drop]; have := HN.out; omega) (fun j u hu => HS2.out _ hB j u hu) (flat_one _ _) (by unfold maxLen; omega) (by omega) hB.size ?_
                          intro vx19 x19 hown2 hgrow hat
                          have hB2 := Below.grown hB hgrow hB.size (fun j hj => (hOw.lt j hj).1)
                          refine hK.out _ _ (HK.out _ hB2) (fun hHeld => ?_)
                          clear hK K
                          clear hOw hB hgrow hat
                          have hOw := hown2
                          have hB := hB2
                          clear hown2 hB2
                          simp only [Nat.zero_add] at hOw
                          obtain ⟨av, cv, rfl⟩ := row_slice hOw
                          refine wpAnyH_take (i := 16) (v := ?v39) rfl (by kernel_rfl) (by kernel_rfl) (by kernel_rfl) (fun _ _ _ h => h) (Or.inl ⟨by rfl, ?hy39⟩) (by assumption) ?rest39
                          case hy39 => (intro wq hSw; (try dsimp only at hSw); go_split_ands; go_simp; (try with_reducible rfl))
                          case rest39 =>
                          refine wpAnyH_ready (rs := [17]) (by kernel_rfl) (by simp) ?_
                          refine AllReadyH.cons rfl (fun K hK => ?step40) ?more40
                          case step40 =>
                            go_simp
                            refine hK.out _ _ (HK.out _ (hB.alloc hB.size _)) (fun hHeld => ?_)
                            clear hK K
                            have hNeC : (Value.slice av (_) cv).ownBlock ≠ some x19.heap.size := fun e => by have h1 := (hOw.lt _ e).2; omega
                            replace hOw := hOw.alloc (Obj.cells #[.int .i64 0, .slice none 0 0] 29)
                            have hXC := Bx.new x19 29 #[.int .i64 0, .slice none 0 0]
                            have hCW : W.heap.size ≤ x19.heap.size := hB.size
                            replace hB := hB.alloc hB.size (Obj.cells #[.int .i64 0, .slice none 0 0] 29)
                            generalize x19.alloc (Obj.cells #[.int .i64 0, .slice none 0 0] 29) = x20 at *
                            generalize x19.heap.size = gCx20 at *
                            refine wpAnyH_ready (rs := [18]) (by kernel_rfl) (by simp) ?_
                            refine AllReadyH.cons rfl (fun K hK => ?step41) ?more41
                            case step41 =>
                              have c0 := hXC.cell 0
                              have c1 := hXC.cell 1
                              have f0 := hXC.frozen 0
                              have f1 := hXC.frozen 1
                              simp only [List.getElem?_toArray, List.getElem?_cons_zero, List.getElem?_cons_succ] at c0 c1
                              have hB3 := (hB.setCell (p := ⟨gCx20, 0, none⟩) hCW (.int .i64 Kd)).setCell (p := ⟨gCx20, 1, none⟩) hCW (.slice av (k + 1 + (n - k)) cv)
                              have hC3 := Lib.hid (show Bx _ _ 29 #[.int .i64 Kd, .slice av (k + 1 + (n - k)) cv] from Bx.set_ (Bx.set_ hXC 0 (.int .i64 Kd)) 1 (.slice av (k + 1 + (n - k)) cv))
                              have hO3 := Lib.hid (own_ins HN.out HPos.out hk (own_rows2 hOw hNeC (.int .i64 Kd) (.slice av (k + 1 + (n - k)) cv)))
                              go_simp
                              refine hK.out _ _ (HK.out _ hB3) (fun hHeld => ?_)
                              clear hK K
                              refine wpAnyH_done (by kernel_rfl) ?_ _
                              go_wp2_with fail
                              all_goals
                                go_meet
                                exact ⟨gCx20, av, cv, rfl, hC3, hO3, hB3⟩
                            case more41 => exact AllReadyH.nil
                          case more40 => exact AllReadyH.nil
                        case more38 =>
                          refine AllReadyH.cons rfl (fun K hK => ?step42) ?more42
                          case step42 =>
                            go_simp
                            refine hK.out _ _ (HK.out _ (hB.alloc hB.size _)) (fun hHeld => ?_)
                            clear hK K
                            have hNeC : (vx18).ownBlock ≠ some x18.heap.size := fun e => by have h1 := (hOw.lt _ e).2; omega
                            replace hOw := hOw.alloc (Obj.cells #[.int .i64 0, .slice none 0 0] 29)
                            have hXC := Bx.new x18 29 #[.int .i64 0, .slice none 0 0]
                            have hCW : W.heap.size ≤ x18.heap.size := hB.size
                            replace hB := hB.alloc hB.size (Obj.cells #[.int .i64 0, .slice none 0 0] 29)
                            generalize x18.alloc (Obj.cells #[.int .i64 0, .slice none 0 0] 29) = x21 at *
                            generalize x18.heap.size = gCx21 at *
                            refine wpAnyH_ready (rs := [15]) (by kernel_rfl) (by simp) ?_
                            refine AllReadyH.cons rfl (fun K hK => ?step43) ?more43
                            case step43 =>
                              refine step_append_at (by rfl) (.tmp 50) (.tmp 54) 22 (by rfl) W.heap.size 48 i0 (.agg #[.int .i64 0, .int .i64 0]) 2 16 Try.underlying22 HI0.out HZ0.out.1 HZ0.out.2.1 HZ0.out.2.2 rfl (by decide) _ _ _ (by rfl) hOw (⟨b0, oD, none⟩) (n - k) (cp - k) (flat LIntA2.rec (z.drop k)) (by rfl) (by rw [flat_len, LIntA2.rec_n, List.length_drop]; have := HN.out; omega) (fun j u hu => HS2.out _ hB j u hu) (flat_one _ _) (by unfold maxLen; omega) (by omega) hB.size ?_
                              intro vx22 x22 hown2 hgrow hat
                              have hB2 := Below.grown hB hgrow hB.size (fun j hj => (hOw.lt j hj).1)
                              refine hK.out _ _ (HK.out _ hB2) (fun hHeld => ?_)
                              clear hK K
                              have hX2 := Bx.grownBy hXC hgrow hNeC
                              have hNe2 := ne_next hNeC hXC.lt hat
                              clear hXC hNeC
                              have hXC := hX2
                              have hNeC := hNe2
                              clear hX2 hNe2
                              clear hOw hB hgrow hat
                              have hOw := hown2
                              have hB := hB2
                              clear hown2 hB2
                              simp only [Nat.zero_add] at hOw
                              obtain ⟨av, cv, rfl⟩ := row_slice hOw
                              refine wpAnyH_take (i := 16) (v := ?v44) rfl (by kernel_rfl) (by kernel_rfl) (by kernel_rfl) (fun _ _ _ h => h) (Or.inl ⟨by rfl, ?hy44⟩) (by assumption) ?rest44
                              case hy44 => (intro wq hSw; (try dsimp only at hSw); go_split_ands; go_simp; (try with_reducible rfl))
                              case rest44 =>
                              refine wpAnyH_ready (rs := [18]) (by kernel_rfl) (by simp) ?_
                              refine AllReadyH.cons rfl (fun K hK => ?step45) ?more45
                              case step45 =>
                                have c0 := hXC.cell 0
                                have c1 := hXC.cell 1
                                have f0 := hXC.frozen 0
                                have f1 := hXC.frozen 1
                                simp only [List.getElem?_toArray, List.getElem?_cons_zero, List.getElem?_cons_succ] at c0 c1
                                have hB3 := (hB.setCell (p := ⟨gCx21, 0, none⟩) hCW (.int .i64 Kd)).setCell (p := ⟨gCx21, 1, none⟩) hCW (.slice av (k + 1 + (n - k)) cv)
                                have hC3 := Lib.hid (show Bx _ _ 29 #[.int .i64 Kd, .slice av (k + 1 + (n - k)) cv] from Bx.set_ (Bx.set_ hXC 0 (.int .i64 Kd)) 1 (.slice av (k + 1 + (n - k)) cv))
                                have hO3 := Lib.hid (own_ins HN.out HPos.out hk (own_rows2 hOw hNeC (.int .i64 Kd) (.slice av (k + 1 + (n - k)) cv)))
                                go_simp
                                refine hK.out _ _ (HK.out _ hB3) (fun hHeld => ?_)
                                clear hK K
                                refine wpAnyH_done (by kernel_rfl) ?_ _
                                go_wp2_with fail
                                all_goals
                                  go_meet
                                  exact ⟨gCx21, av, cv, rfl, hC3, hO3, hB3⟩
                              case more45 => exact AllReadyH.nil
                            case more43 => exact AllReadyH.nil
                          case more42 => exact AllReadyH.nil
                      case more37 =>
                        refine AllReadyH.cons rfl (fun K hK => ?step46) ?more46
                        case step46 =>
                          go_simp
                          refine hK.out _ _ (HK.out _ (hB.alloc hB.size _)) (fun hHeld => ?_)
                          clear hK K
                          have hNeC : (vx17).ownBlock ≠ some x17.heap.size := fun e => by have h1 := (hOw.lt _ e).2; omega
                          replace hOw := hOw.alloc (Obj.cells #[.int .i64 0, .slice none 0 0] 29)
                          replace hXB := Bx.alloc hXB (Obj.cells #[.int .i64 0, .slice none 0 0] 29)
                          have hXC := Bx.new x17 29 #[.int .i64 0, .slice none 0 0]
                          have hCW : W.heap.size ≤ x17.heap.size := hB.size
                          replace hB := hB.alloc hB.size (Obj.cells #[.int .i64 0, .slice none 0 0] 29)
                          generalize x17.alloc (Obj.cells #[.int .i64 0, .slice none 0 0] 29) = x23 at *
                          generalize x17.heap.size = gCx23 at *
                          refine wpAnyH_ready (rs := [10]) (by kernel_rfl) (by simp) ?_
                          refine AllReadyH.cons rfl (fun K hK => ?step47) ?more47
                          case step47 =>
                            refine step_append_at (by rfl) (.tmp 47) (.tmp 49) 22 (by rfl) W.heap.size 48 i0 (.agg #[.int .i64 0, .int .i64 0]) 2 16 Try.underlying22 HI0.out HZ0.out.1 HZ0.out.2.1 HZ0.out.2.2 rfl (by decide) _ _ _ (by rfl) hOw (⟨gBx16, 0, none⟩) (1) (1) [.int .i64 a, .int .i64 b] (by rfl) (by rfl) (World.news_of_block hXB) (by intro u hu; simp only [List.mem_cons, List.not_mem_nil, or_false] at hu; rcases hu with rfl | rfl <;> rfl) (by unfold maxLen; omega) (by omega) hB.size ?_
                            intro vx24 x24 hown2 hgrow hat
                            have hB2 := Below.grown hB hgrow hB.size (fun j hj => (hOw.lt j hj).1)
                            refine hK.out _ _ (HK.out _ hB2) (fun hHeld => ?_)
                            clear hK K
                            have hX2 := Bx.grownBy hXB hgrow hNeB
                            have hNe2 := ne_next hNeB hXB.lt hat
                            clear hXB hNeB
                            have hXB := hX2
                            have hNeB := hNe2
                            clear hX2 hNe2
                            have hX2 := Bx.grownBy hXC hgrow hNeC
                            have hNe2 := ne_next hNeC hXC.lt hat
                            clear hXC hNeC
                            have hXC := hX2
                            have hNeC := hNe2
                            clear hX2 hNe2
                            clear hOw hB hgrow hat
                            have hOw := hown2
                            have hB := hB2
                            clear hown2 hB2
                            clear hXB hNeB
                            refine wpAnyH_ready (rs := [15]) (by kernel_rfl) (by simp) ?_
                            refine AllReadyH.cons rfl (fun K hK => ?step48) ?more48
                            case step48 =>
                              refine step_append_at (by rfl) (.tmp 50) (.tmp 54) 22 (by rfl) W.heap.size 48 i0 (.agg #[.int .i64 0, .int .i64 0]) 2 16 Try.underlying22 HI0.out HZ0.out.1 HZ0.out.2.1 HZ0.out.2.2 rfl (by decide) _ _ _ (by rfl) hOw (⟨b0, oD, none⟩) (n - k) (cp - k) (flat LIntA2.rec (z.drop k)) (by rfl) (by rw [flat_len, LIntA2.rec_n, List.length_drop]; have := HN.out; omega) (fun j u hu => HS2.out _ hB j u hu) (flat_one _ _) (by unfold maxLen; omega) (by omega) hB.size ?_
                              intro vx25 x25 hown2 hgrow hat
                              have hB2 := Below.grown hB hgrow hB.size (fun j hj => (hOw.lt j hj).1)
                              refine hK.out _ _ (HK.out _ hB2) (fun hHeld => ?_)
                              clear hK K
                              have hX2 := Bx.grownBy hXC hgrow hNeC
                              have hNe2 := ne_next hNeC hXC.lt hat
                              clear hXC hNeC
                              have hXC := hX2
                              have hNeC := hNe2
                              clear hX2 hNe2
                              clear hOw hB hgrow hat
                              have hOw := hown2
                              have hB := hB2
                              clear hown2 hB2
                              simp only [Nat.zero_add] at hOw
                              obtain ⟨av, cv, rfl⟩ := row_slice hOw
                              refine wpAnyH_take (i := 16) (v := ?v49) rfl (by kernel_rfl) (by kernel_rfl) (by kernel_rfl) (fun _ _ _ h => h) (Or.inl ⟨by rfl, ?hy49⟩) (by assumption) ?rest49
                              case hy49 => (intro wq hSw; (try dsimp only at hSw); go_split_ands; go_simp; (try with_reducible rfl))
                              case rest49 =>
                              refine wpAnyH_ready (rs := [18]) (by kernel_rfl) (by simp) ?_
                              refine AllReadyH.cons rfl (fun K hK => ?step50) ?more50
                              case step50 =>
                                have c0 := hXC.cell 0
                                have c1 := hXC.cell 1
                                have f0 := hXC.frozen 0
                                have f1 := hXC.frozen 1
                                simp only [List.getElem?_toArray, List.getElem?_cons_zero, List.getElem?_cons_succ] at c0 c1
                                have hB3 := (hB.setCell (p := ⟨gCx23, 0, none⟩) hCW (.int .i64 Kd)).setCell (p := ⟨gCx23, 1, none⟩) hCW (.slice av (k + 1 + (n - k)) cv)
                                have hC3 := Lib.hid (show Bx _ _ 29 #[.int .i64 Kd, .slice av (k + 1 + (n - k)) cv] from Bx.set_ (Bx.set_ hXC 0 (.int .i64 Kd)) 1 (.slice av (k + 1 + (n - k)) cv))
                                have hO3 := Lib.hid (own_ins HN.out HPos.out hk (own_rows2 hOw hNeC (.int .i64 Kd) (.slice av (k + 1 + (n - k)) cv)))
                                go_simp
                                refine hK.out _ _ (HK.out _ hB3) (fun hHeld => ?_)
                                clear hK K
                                refine wpAnyH_done (by kernel_rfl) ?_ _
                                go_wp2_with fail
                                all_goals
                                  go_meet
                                  exact ⟨gCx23, av, cv, rfl, hC3, hO3, hB3⟩
                              case more50 => exact AllReadyH.nil
                            case more48 => exact AllReadyH.nil
                          case more47 => exact AllReadyH.nil
                        case more46 => exact AllReadyH.nil
                    case more36 =>
                      refine AllReadyH.cons rfl (fun K hK => ?step51) ?more51
                      case step51 =>
                        go_simp
                        refine hK.out _ _ (HK.out _ (hB.alloc hB.size _)) (fun hHeld => ?_)
                        clear hK K
                        have hNeC : (Value.slice (some ⟨gAx1, 0, none⟩) 0 0).ownBlock ≠ some x16.heap.size := fun e => by have h1 := (hOw.lt _ e).2; omega
                        replace hOw := hOw.alloc (Obj.cells #[.int .i64 0, .slice none 0 0] 29)
                        replace hXB := Bx.alloc hXB (Obj.cells #[.int .i64 0, .slice none 0 0] 29)
                        have hXC := Bx.new x16 29 #[.int .i64 0, .slice none 0 0]
                        have hCW : W.heap.size ≤ x16.heap.size := hB.size
                        replace hB := hB.alloc hB.size (Obj.cells #[.int .i64 0, .slice none 0 0] 29)
                        generalize x16.alloc (Obj.cells #[.int .i64 0, .slice none 0 0] 29) = x26 at *
                        generalize x16.heap.size = gCx26 at *
                        refine wpAnyH_ready (rs := [7]) (by kernel_rfl) (by simp) ?_
                        refine AllReadyH.cons rfl (fun K hK => ?step52) ?more52
                        case step52 =>
                          refine step_append_at (by rfl) (.tmp 42) (.tmp 46) 22 (by rfl) W.heap.size 48 i0 (.agg #[.int .i64 0, .int .i64 0]) 2 16 Try.underlying22 HI0.out HZ0.out.1 HZ0.out.2.1 HZ0.out.2.2 rfl (by decide) _ _ _ (by rfl) hOw (⟨b0, o0, none⟩) (k) (cp) (flat LIntA2.rec (z.take k)) (by rfl) (by rw [flat_len, LIntA2.rec_n, List.length_take]; have := HN.out; omega) (fun j u hu => HS1.out _ hB j u hu) (flat_one _ _) (by unfold maxLen; omega) (by omega) hB.size ?_
                          intro vx27 x27 hown2 hgrow hat
                          have hB2 := Below.grown hB hgrow hB.size (fun j hj => (hOw.lt j hj).1)
                          refine hK.out _ _ (HK.out _ hB2) (fun hHeld => ?_)
                          clear hK K
                          have hX2 := Bx.grownBy hXB hgrow hNeB
                          have hNe2 := ne_next hNeB hXB.lt hat
                          clear hXB hNeB
                          have hXB := hX2
                          have hNeB := hNe2
                          clear hX2 hNe2
                          have hX2 := Bx.grownBy hXC hgrow hNeC
                          have hNe2 := ne_next hNeC hXC.lt hat
                          clear hXC hNeC
                          have hXC := hX2
                          have hNeC := hNe2
                          clear hX2 hNe2
                          clear hOw hB hgrow hat
                          have hOw := hown2
                          have hB := hB2
                          clear hown2 hB2
                          refine wpAnyH_ready (rs := [10]) (by kernel_rfl) (by simp) ?_
                          refine AllReadyH.cons rfl (fun K hK => ?step53) ?more53
                          case step53 =>
                            refine step_append_at (by rfl) (.tmp 47) (.tmp 49) 22 (by rfl) W.heap.size 48 i0 (.agg #[.int .i64 0, .int .i64 0]) 2 16 Try.underlying22 HI0.out HZ0.out.1 HZ0.out.2.1 HZ0.out.2.2 rfl (by decide) _ _ _ (by rfl) hOw (⟨gBx16, 0, none⟩) (1) (1) [.int .i64 a, .int .i64 b] (by rfl) (by rfl) (World.news_of_block hXB) (by intro u hu; simp only [List.mem_cons, List.not_mem_nil, or_false] at hu; rcases hu with rfl | rfl <;> rfl) (by unfold maxLen; omega) (by omega) hB.size ?_
                            intro vx28 x28 hown2 hgrow hat
                            have hB2 := Below.grown hB hgrow hB.size (fun j hj => (hOw.lt j hj).1)
                            refine hK.out _ _ (HK.out _ hB2) (fun hHeld => ?_)
                            clear hK K
                            have hX2 := Bx.grownBy hXB hgrow hNeB
                            have hNe2 := ne_next hNeB hXB.lt hat
                            clear hXB hNeB
                            have hXB := hX2
                            have hNeB := hNe2
                            clear hX2 hNe2
                            have hX2 := Bx.grownBy hXC hgrow hNeC
                            have hNe2 := ne_next hNeC hXC.lt hat
                            clear hXC hNeC
                            have hXC := hX2
                            have hNeC := hNe2
                            clear hX2 hNe2
                            clear hOw hB hgrow hat
                            have hOw := hown2
                            have hB := hB2
                            clear hown2 hB2
                            clear hXB hNeB
                            refine wpAnyH_ready (rs := [15]) (by kernel_rfl) (by simp) ?_
                            refine AllReadyH.cons rfl (fun K hK => ?step54) ?more54
                            case step54 =>
                              refine step_append_at (by rfl) (.tmp 50) (.tmp 54) 22 (by rfl) W.heap.size 48 i0 (.agg #[.int .i64 0, .int .i64 0]) 2 16 Try.underlying22 HI0.out HZ0.out.1 HZ0.out.2.1 HZ0.out.2.2 rfl (by decide) _ _ _ (by rfl) hOw (⟨b0, oD, none⟩) (n - k) (cp - k) (flat LIntA2.rec (z.drop k)) (by rfl) (by rw [flat_len, LIntA2.rec_n, List.length_drop]; have := HN.out; omega) (fun j u hu => HS2.out _ hB j u hu) (flat_one _ _) (by unfold maxLen; omega) (by omega) hB.size ?_
                              intro vx29 x29 hown2 hgrow hat
                              have hB2 := Below.grown hB hgrow hB.size (fun j hj => (hOw.lt j hj).1)
                              refine hK.out _ _ (HK.out _ hB2) (fun hHeld => ?_)
                              clear hK K
                              have hX2 := Bx.grownBy hXC hgrow hNeC
                              have hNe2 := ne_next hNeC hXC.lt hat
                              clear hXC hNeC
                              have hXC := hX2
                              have hNeC := hNe2
                              clear hX2 hNe2
                              clear hOw hB hgrow hat
                              have hOw := hown2
                              have hB := hB2
                              clear hown2 hB2
                              simp only [Nat.zero_add] at hOw
                              obtain ⟨av, cv, rfl⟩ := row_slice hOw
                              refine wpAnyH_take (i := 16) (v := ?v55) rfl (by kernel_rfl) (by kernel_rfl) (by kernel_rfl) (fun _ _ _ h => h) (Or.inl ⟨by rfl, ?hy55⟩) (by assumption) ?rest55
                              case hy55 => (intro wq hSw; (try dsimp only at hSw); go_split_ands; go_simp; (try with_reducible rfl))
                              case rest55 =>
                              refine wpAnyH_ready (rs := [18]) (by kernel_rfl) (by simp) ?_
                              refine AllReadyH.cons rfl (fun K hK => ?step56) ?more56
                              case step56 =>
                                have c0 := hXC.cell 0
                                have c1 := hXC.cell 1
                                have f0 := hXC.frozen 0
                                have f1 := hXC.frozen 1
                                simp only [List.getElem?_toArray, List.getElem?_cons_zero, List.getElem?_cons_succ] at c0 c1
                                have hB3 := (hB.setCell (p := ⟨gCx26, 0, none⟩) hCW (.int .i64 Kd)).setCell (p := ⟨gCx26, 1, none⟩) hCW (.slice av (k + 1 + (n - k)) cv)
                                have hC3 := Lib.hid (show Bx _ _ 29 #[.int .i64 Kd, .slice av (k + 1 + (n - k)) cv] from Bx.set_ (Bx.set_ hXC 0 (.int .i64 Kd)) 1 (.slice av (k + 1 + (n - k)) cv))
                                have hO3 := Lib.hid (own_ins HN.out HPos.out hk (own_rows2 hOw hNeC (.int .i64 Kd) (.slice av (k + 1 + (n - k)) cv)))
                                go_simp
                                refine hK.out _ _ (HK.out _ hB3) (fun hHeld => ?_)
                                clear hK K
                                refine wpAnyH_done (by kernel_rfl) ?_ _
                                go_wp2_with fail
                                all_goals
                                  go_meet
                                  exact ⟨gCx26, av, cv, rfl, hC3, hO3, hB3⟩
                              case more56 => exact AllReadyH.nil
                            case more54 => exact AllReadyH.nil
                          case more53 => exact AllReadyH.nil
                        case more52 => exact AllReadyH.nil
                      case more51 => exact AllReadyH.nil
                  case more35 =>
                    refine AllReadyH.cons rfl (fun K hK => ?step57) ?more57
                    case step57 =>
                      go_simp
                      refine hK.out _ _ (HK.out _ (hB.alloc hB.size _)) (fun hHeld => ?_)
                      clear hK K
                      have hNeC : (Value.slice (some ⟨gAx1, 0, none⟩) 0 0).ownBlock ≠ some x1.heap.size := fun e => by have h1 := (hOw.lt _ e).2; omega
                      replace hOw := hOw.alloc (Obj.cells #[.int .i64 0, .slice none 0 0] 29)
                      have hXC := Bx.new x1 29 #[.int .i64 0, .slice none 0 0]
                      have hCW : W.heap.size ≤ x1.heap.size := hB.size
                      replace hB := hB.alloc hB.size (Obj.cells #[.int .i64 0, .slice none 0 0] 29)
                      generalize x1.alloc (Obj.cells #[.int .i64 0, .slice none 0 0] 29) = x30 at *
                      generalize x1.heap.size = gCx30 at *
                      refine wpAnyH_ready (rs := [7, 9]) (by kernel_rfl) (by simp) ?_
                      refine AllReadyH.cons rfl (fun K hK => ?step58) ?more58
                      case step58 =>
                        refine step_append_at (by rfl) (.tmp 42) (.tmp 46) 22 (by rfl) W.heap.size 48 i0 (.agg #[.int .i64 0, .int .i64 0]) 2 16 Try.underlying22 HI0.out HZ0.out.1 HZ0.out.2.1 HZ0.out.2.2 rfl (by decide) _ _ _ (by rfl) hOw (⟨b0, o0, none⟩) (k) (cp) (flat LIntA2.rec (z.take k)) (by rfl) (by rw [flat_len, LIntA2.rec_n, List.length_take]; have := HN.out; omega) (fun j u hu => HS1.out _ hB j u hu) (flat_one _ _) (by unfold maxLen; omega) (by omega) hB.size ?_
                        intro vx31 x31 hown2 hgrow hat
                        have hB2 := Below.grown hB hgrow hB.size (fun j hj => (hOw.lt j hj).1)
                        refine hK.out _ _ (HK.out _ hB2) (fun hHeld => ?_)
                        clear hK K
                        have hX2 := Bx.grownBy hXC hgrow hNeC
                        have hNe2 := ne_next hNeC hXC.lt hat
                        clear hXC hNeC
                        have hXC := hX2
                        have hNeC := hNe2
                        clear hX2 hNe2
                        clear hOw hB hgrow hat
                        have hOw := hown2
                        have hB := hB2
                        clear hown2 hB2
                        refine wpAnyH_ready (rs := [9]) (by kernel_rfl) (by simp) ?_
                        refine AllReadyH.cons rfl (fun K hK => ?step59) ?more59
                        case step59 =>
                          go_simp
                          refine hK.out _ _ (HK.out _ (hB.alloc hB.size _)) (fun hHeld => ?_)
                          clear hK K
                          have hNeB : (vx31).ownBlock ≠ some x31.heap.size := fun e => by have h1 := (hOw.lt _ e).2; omega
                          replace hOw := hOw.alloc (Obj.cells #[.int .i64 a, .int .i64 b] 48)
                          replace hXC := Bx.alloc hXC (Obj.cells #[.int .i64 a, .int .i64 b] 48)
                          have hXB := Bx.new x31 48 #[.int .i64 a, .int .i64 b]
                          replace hB := hB.alloc hB.size (Obj.cells #[.int .i64 a, .int .i64 b] 48)
                          generalize x31.alloc (Obj.cells #[.int .i64 a, .int .i64 b] 48) = x32 at *
                          generalize x31.heap.size = gBx32 at *
                          refine wpAnyH_ready (rs := [10]) (by kernel_rfl) (by simp) ?_
                          refine AllReadyH.cons rfl (fun K hK => ?step60) ?more60
                          case step60 =>
                            refine step_append_at (by rfl) (.tmp 47) (.tmp 49) 22 (by rfl) W.heap.size 48 i0 (.agg #[.int .i64 0, .int .i64 0]) 2 16 Try.underlying22 HI0.out HZ0.out.1 HZ0.out.2.1 HZ0.out.2.2 rfl (by decide) _ _ _ (by rfl) hOw (⟨gBx32, 0, none⟩) (1) (1) [.int .i64 a, .int .i64 b] (by rfl) (by rfl) (World.news_of_block hXB) (by intro u hu; simp only [List.mem_cons, List.not_mem_nil, or_false] at hu; rcases hu with rfl | rfl <;> rfl) (by unfold maxLen; omega) (by omega) hB.size ?_
                            intro vx33 x33 hown2 hgrow hat
                            have hB2 := Below.grown hB hgrow hB.size (fun j hj => (hOw.lt j hj).1)
                            refine hK.out _ _ (HK.out _ hB2) (fun hHeld => ?_)
                            clear hK K
                            have hX2 := Bx.grownBy hXB hgrow hNeB
                            have hNe2 := ne_next hNeB hXB.lt hat
                            clear hXB hNeB
                            have hXB := hX2
                            have hNeB := hNe2
                            clear hX2 hNe2
                            have hX2 := Bx.grownBy hXC hgrow hNeC
                            have hNe2 := ne_next hNeC hXC.lt hat
                            clear hXC hNeC
                            have hXC := hX2
                            have hNeC := hNe2
                            clear hX2 hNe2
                            clear hOw hB hgrow hat
                            have hOw := hown2
                            have hB := hB2
                            clear hown2 hB2
                            clear hXB hNeB
                            refine wpAnyH_ready (rs := [15]) (by kernel_rfl) (by simp) ?_
                            refine AllReadyH.cons rfl (fun K hK => ?step61) ?more61
                            case step61 =>
                              refine step_append_at (by rfl) (.tmp 50) (.tmp 54) 22 (by rfl) W.heap.size 48 i0 (.agg #[.int .i64 0, .int .i64 0]) 2 16 Try.underlying22 HI0.out HZ0.out.1 HZ0.out.2.1 HZ0.out.2.2 rfl (by decide) _ _ _ (by rfl) hOw (⟨b0, oD, none⟩) (n - k) (cp - k) (flat LIntA2.rec (z.drop k)) (by rfl) (by rw [flat_len, LIntA2.rec_n, List.length_drop]; have := HN.out; omega) (fun j u hu => HS2.out _ hB j u hu) (flat_one _ _) (by unfold maxLen; omega) (by omega) hB.size ?_
                              intro vx34 x34 hown2 hgrow hat
                              have hB2 := Below.grown hB hgrow hB.size (fun j hj => (hOw.lt j hj).1)
                              refine hK.out _ _ (HK.out _ hB2) (fun hHeld => ?_)
                              clear hK K
                              have hX2 := Bx.grownBy hXC hgrow hNeC
                              have hNe2 := ne_next hNeC hXC.lt hat
                              clear hXC hNeC
                              have hXC := hX2
                              have hNeC := hNe2
                              clear hX2 hNe2
                              clear hOw hB hgrow hat
                              have hOw := hown2
                              have hB := hB2
                              clear hown2 hB2
                              simp only [Nat.zero_add] at hOw
                              obtain ⟨av, cv, rfl⟩ := row_slice hOw
                              refine wpAnyH_take (i := 16) (v := ?v62) rfl (by kernel_rfl) (by kernel_rfl) (by kernel_rfl) (fun _ _ _ h => h) (Or.inl ⟨by rfl, ?hy62⟩) (by assumption) ?rest62
                              case hy62 => (intro wq hSw; (try dsimp only at hSw); go_split_ands; go_simp; (try with_reducible rfl))
                              case rest62 =>
                              refine wpAnyH_ready (rs := [18]) (by kernel_rfl) (by simp) ?_
                              refine AllReadyH.cons rfl (fun K hK => ?step63) ?more63
                              case step63 =>
                                have c0 := hXC.cell 0
                                have c1 := hXC.cell 1
                                have f0 := hXC.frozen 0
                                have f1 := hXC.frozen 1
                                simp only [List.getElem?_toArray, List.getElem?_cons_zero, List.getElem?_cons_succ] at c0 c1
                                have hB3 := (hB.setCell (p := ⟨gCx30, 0, none⟩) hCW (.int .i64 Kd)).setCell (p := ⟨gCx30, 1, none⟩) hCW (.slice av (k + 1 + (n - k)) cv)
                                have hC3 := Lib.hid (show Bx _ _ 29 #[.int .i64 Kd, .slice av (k + 1 + (n - k)) cv] from Bx.set_ (Bx.set_ hXC 0 (.int .i64 Kd)) 1 (.slice av (k + 1 + (n - k)) cv))
                                have hO3 := Lib.hid (own_ins HN.out HPos.out hk (own_rows2 hOw hNeC (.int .i64 Kd) (.slice av (k + 1 + (n - k)) cv)))
                                go_simp
                                refine hK.out _ _ (HK.out _ hB3) (fun hHeld => ?_)
                                clear hK K
                                refine wpAnyH_done (by kernel_rfl) ?_ _
                                go_wp2_with fail
                                all_goals
                                  go_meet
                                  exact ⟨gCx30, av, cv, rfl, hC3, hO3, hB3⟩
                              case more63 => exact AllReadyH.nil
                            case more61 => exact AllReadyH.nil
                          case more60 => exact AllReadyH.nil
                        case more59 => exact AllReadyH.nil
                      case more58 =>
                        refine AllReadyH.cons rfl (fun K hK => ?step64) ?more64
                        case step64 =>
                          go_simp
                          refine hK.out _ _ (HK.out _ (hB.alloc hB.size _)) (fun hHeld => ?_)
                          clear hK K
                          have hNeB : (Value.slice (some ⟨gAx1, 0, none⟩) 0 0).ownBlock ≠ some x30.heap.size := fun e => by have h1 := (hOw.lt _ e).2; omega
                          replace hOw := hOw.alloc (Obj.cells #[.int .i64 a, .int .i64 b] 48)
                          replace hXC := Bx.alloc hXC (Obj.cells #[.int .i64 a, .int .i64 b] 48)
                          have hXB := Bx.new x30 48 #[.int .i64 a, .int .i64 b]
                          replace hB := hB.alloc hB.size (Obj.cells #[.int .i64 a, .int .i64 b] 48)
                          generalize x30.alloc (Obj.cells #[.int .i64 a, .int .i64 b] 48) = x35 at *
                          generalize x30.heap.size = gBx35 at *
                          refine wpAnyH_ready (rs := [7]) (by kernel_rfl) (by simp) ?_
                          refine AllReadyH.cons rfl (fun K hK => ?step65) ?more65
                          case step65 =>
                            refine step_append_at (by rfl) (.tmp 42) (.tmp 46) 22 (by rfl) W.heap.size 48 i0 (.agg #[.int .i64 0, .int .i64 0]) 2 16 Try.underlying22 HI0.out HZ0.out.1 HZ0.out.2.1 HZ0.out.2.2 rfl (by decide) _ _ _ (by rfl) hOw (⟨b0, o0, none⟩) (k) (cp) (flat LIntA2.rec (z.take k)) (by rfl) (by rw [flat_len, LIntA2.rec_n, List.length_take]; have := HN.out; omega) (fun j u hu => HS1.out _ hB j u hu) (flat_one _ _) (by unfold maxLen; omega) (by omega) hB.size ?_
                            intro vx36 x36 hown2 hgrow hat
                            have hB2 := Below.grown hB hgrow hB.size (fun j hj => (hOw.lt j hj).1)
                            refine hK.out _ _ (HK.out _ hB2) (fun hHeld => ?_)
                            clear hK K
                            have hX2 := Bx.grownBy hXB hgrow hNeB
                            have hNe2 := ne_next hNeB hXB.lt hat
                            clear hXB hNeB
                            have hXB := hX2
                            have hNeB := hNe2
                            clear hX2 hNe2
                            have hX2 := Bx.grownBy hXC hgrow hNeC
                            have hNe2 := ne_next hNeC hXC.lt hat
                            clear hXC hNeC
                            have hXC := hX2
                            have hNeC := hNe2
                            clear hX2 hNe2
                            clear hOw hB hgrow hat
                            have hOw := hown2
                            have hB := hB2
                            clear hown2 hB2
                            refine wpAnyH_ready (rs := [10]) (by kernel_rfl) (by simp) ?_
                            refine AllReadyH.cons rfl (fun K hK => ?step66) ?more66
                            case step66 =>
                              refine step_append_at (by rfl) (.tmp 47) (.tmp 49) 22 (by rfl) W.heap.size 48 i0 (.agg #[.int .i64 0, .int .i64 0]) 2 16 Try.underlying22 HI0.out HZ0.out.1 HZ0.out.2.1 HZ0.out.2.2 rfl (by decide) _ _ _ (by rfl) hOw (⟨gBx35, 0, none⟩) (1) (1) [.int .i64 a, .int .i64 b] (by rfl) (by rfl) (World.news_of_block hXB) (by intro u hu; simp only [List.mem_cons, List.not_mem_nil, or_false] at hu; rcases hu with rfl | rfl <;> rfl) (by unfold maxLen; omega) (by omega) hB.size ?_
                              intro vx37 x37 hown2 hgrow hat
                              have hB2 := Below.grown hB hgrow hB.size (fun j hj => (hOw.lt j hj).1)
                              refine hK.out _ _ (HK.out _ hB2) (fun hHeld => ?_)
                              clear hK K
                              have hX2 := Bx.grownBy hXB hgrow hNeB
                              have hNe2 := ne_next hNeB hXB.lt hat
                              clear hXB hNeB
                              have hXB := hX2
                              have hNeB := hNe2
                              clear hX2 hNe2
                              have hX2 := Bx.grownBy hXC hgrow hNeC
                              have hNe2 := ne_next hNeC hXC.lt hat
                              clear hXC hNeC
                              have hXC := hX2
                              have hNeC := hNe2
                              clear hX2 hNe2
                              clear hOw hB hgrow hat
                              have hOw := hown2
                              have hB := hB2
                              clear hown2 hB2
                              clear hXB hNeB
                              refine wpAnyH_ready (rs := [15]) (by kernel_rfl) (by simp) ?_
                              refine AllReadyH.cons rfl (fun K hK => ?step67) ?more67
                              case step67 =>
                                refine step_append_at (by rfl) (.tmp 50) (.tmp 54) 22 (by rfl) W.heap.size 48 i0 (.agg #[.int .i64 0, .int .i64 0]) 2 16 Try.underlying22 HI0.out HZ0.out.1 HZ0.out.2.1 HZ0.out.2.2 rfl (by decide) _ _ _ (by rfl) hOw (⟨b0, oD, none⟩) (n - k) (cp - k) (flat LIntA2.rec (z.drop k)) (by rfl) (by rw [flat_len, LIntA2.rec_n, List.length_drop]; have := HN.out; omega) (fun j u hu => HS2.out _ hB j u hu) (flat_one _ _) (by unfold maxLen; omega) (by omega) hB.size ?_
                                intro vx38 x38 hown2 hgrow hat
                                have hB2 := Below.grown hB hgrow hB.size (fun j hj => (hOw.lt j hj).1)
                                refine hK.out _ _ (HK.out _ hB2) (fun hHeld => ?_)
                                clear hK K
                                have hX2 := Bx.grownBy hXC hgrow hNeC
                                have hNe2 := ne_next hNeC hXC.lt hat
                                clear hXC hNeC
                                have hXC := hX2
                                have hNeC := hNe2
                                clear hX2 hNe2
                                clear hOw hB hgrow hat
                                have hOw := hown2
                                have hB := hB2
                                clear hown2 hB2
                                simp only [Nat.zero_add] at hOw
                                obtain ⟨av, cv, rfl⟩ := row_slice hOw
                                refine wpAnyH_take (i := 16) (v := ?v68) rfl (by kernel_rfl) (by kernel_rfl) (by kernel_rfl) (fun _ _ _ h => h) (Or.inl ⟨by rfl, ?hy68⟩) (by assumption) ?rest68
                                case hy68 => (intro wq hSw; (try dsimp only at hSw); go_split_ands; go_simp; (try with_reducible rfl))
                                case rest68 =>
                                refine wpAnyH_ready (rs := [18]) (by kernel_rfl) (by simp) ?_
                                refine AllReadyH.cons rfl (fun K hK => ?step69) ?more69
                                case step69 =>
                                  have c0 := hXC.cell 0
                                  have c1 := hXC.cell 1
                                  have f0 := hXC.frozen 0
                                  have f1 := hXC.frozen 1
                                  simp only [List.getElem?_toArray, List.getElem?_cons_zero, List.getElem?_cons_succ] at c0 c1
                                  have hB3 := (hB.setCell (p := ⟨gCx30, 0, none⟩) hCW (.int .i64 Kd)).setCell (p := ⟨gCx30, 1, none⟩) hCW (.slice av (k + 1 + (n - k)) cv)
                                  have hC3 := Lib.hid (show Bx _ _ 29 #[.int .i64 Kd, .slice av (k + 1 + (n - k)) cv] from Bx.set_ (Bx.set_ hXC 0 (.int .i64 Kd)) 1 (.slice av (k + 1 + (n - k)) cv))
                                  have hO3 := Lib.hid (own_ins HN.out HPos.out hk (own_rows2 hOw hNeC (.int .i64 Kd) (.slice av (k + 1 + (n - k)) cv)))
                                  go_simp
                                  refine hK.out _ _ (HK.out _ hB3) (fun hHeld => ?_)
                                  clear hK K
                                  refine wpAnyH_done (by kernel_rfl) ?_ _
                                  go_wp2_with fail
                                  all_goals
                                    go_meet
                                    exact ⟨gCx30, av, cv, rfl, hC3, hO3, hB3⟩
                                case more69 => exact AllReadyH.nil
                              case more67 => exact AllReadyH.nil
                            case more66 => exact AllReadyH.nil
                          case more65 => exact AllReadyH.nil
                        case more64 => exact AllReadyH.nil
                    case more57 => exact AllReadyH.nil
              case more12 =>
                refine AllReadyH.cons rfl (fun K hK => ?step70) ?more70
                case step70 =>
                  go_simp
                  refine hK.out _ _ (HK.out _ (hB.alloc hB.size _)) (fun hHeld => ?_)
                  clear hK K
                  have hXB := Bx.new x0 48 #[.int .i64 a, .int .i64 b]
                  replace hB := hB.alloc hB.size (Obj.cells #[.int .i64 a, .int .i64 b] 48)
                  generalize x0.alloc (Obj.cells #[.int .i64 a, .int .i64 b] 48) = x39 at *
                  generalize x0.heap.size = gBx39 at *
                  refine wpAnyH_ready (rs := [2, 17]) (by kernel_rfl) (by simp) ?_
                  refine AllReadyH.cons rfl (fun K hK => ?step71) ?more71
                  case step71 =>
                    go_simp
                    refine hK.out _ _ (HK.out _ (hB.alloc hB.size _)) (fun hHeld => ?_)
                    clear hK K
                    have hOw : (x39.alloc (Obj.cells #[] 48)).ownsRow W.heap.size 48 2 (.slice (some ⟨x39.heap.size, 0, none⟩) 0 0) 0 [] := LIntA2.startB (heap_alloc_new x39 _) hB.size
                    have hNeB : (Value.slice (some ⟨x39.heap.size, 0, none⟩) 0 0).ownBlock ≠ some gBx39 := fun e => by have h1 := hXB.lt; simp only [Value.ownBlock, Option.some.injEq] at e; omega
                    replace hXB := Bx.alloc hXB (Obj.cells #[] 48)
                    replace hB := hB.alloc hB.size (Obj.cells #[] 48)
                    generalize x39.alloc (Obj.cells #[] 48) = x40 at *
                    generalize x39.heap.size = gAx40 at *
                    refine wpAnyH_ready (rs := [7, 17]) (by kernel_rfl) (by simp) ?_
                    refine AllReadyH.cons rfl (fun K hK => ?step72) ?more72
                    case step72 =>
                      refine step_append_at (by rfl) (.tmp 42) (.tmp 46) 22 (by rfl) W.heap.size 48 i0 (.agg #[.int .i64 0, .int .i64 0]) 2 16 Try.underlying22 HI0.out HZ0.out.1 HZ0.out.2.1 HZ0.out.2.2 rfl (by decide) _ _ _ (by rfl) hOw (⟨b0, o0, none⟩) (k) (cp) (flat LIntA2.rec (z.take k)) (by rfl) (by rw [flat_len, LIntA2.rec_n, List.length_take]; have := HN.out; omega) (fun j u hu => HS1.out _ hB j u hu) (flat_one _ _) (by unfold maxLen; omega) (by omega) hB.size ?_
                      intro vx41 x41 hown2 hgrow hat
                      have hB2 := Below.grown hB hgrow hB.size (fun j hj => (hOw.lt j hj).1)
                      refine hK.out _ _ (HK.out _ hB2) (fun hHeld => ?_)
                      clear hK K
                      have hX2 := Bx.grownBy hXB hgrow hNeB
                      have hNe2 := ne_next hNeB hXB.lt hat
                      clear hXB hNeB
                      have hXB := hX2
                      have hNeB := hNe2
                      clear hX2 hNe2
                      clear hOw hB hgrow hat
                      have hOw := hown2
                      have hB := hB2
                      clear hown2 hB2
                      refine wpAnyH_ready (rs := [10, 17]) (by kernel_rfl) (by simp) ?_
                      refine AllReadyH.cons rfl (fun K hK => ?step73) ?more73
                      case step73 =>
                        refine step_append_at (by rfl) (.tmp 47) (.tmp 49) 22 (by rfl) W.heap.size 48 i0 (.agg #[.int .i64 0, .int .i64 0]) 2 16 Try.underlying22 HI0.out HZ0.out.1 HZ0.out.2.1 HZ0.out.2.2 rfl (by decide) _ _ _ (by rfl) hOw (⟨gBx39, 0, none⟩) (1) (1) [.int .i64 a, .int .i64 b] (by rfl) (by rfl) (World.news_of_block hXB) (by intro u hu; simp only [List.mem_cons, List.not_mem_nil, or_false] at hu; rcases hu with rfl | rfl <;> rfl) (by unfold maxLen; omega) (by omega) hB.size ?_
                        intro vx42 x42 hown2 hgrow hat
                        have hB2 := Below.grown hB hgrow hB.size (fun j hj => (hOw.lt j hj).1)
                        refine hK.out _ _ (HK.out _ hB2) (fun hHeld => ?_)
                        clear hK K
                        have hX2 := Bx.grownBy hXB hgrow hNeB
                        have hNe2 := ne_next hNeB hXB.lt hat
                        clear hXB hNeB
                        have hXB := hX2
                        have hNeB := hNe2
                        clear hX2 hNe2
                        clear hOw hB hgrow hat
                        have hOw := hown2
                        have hB := hB2
                        clear hown2 hB2
                        clear hXB hNeB
                        refine wpAnyH_ready (rs := [15, 17]) (by kernel_rfl) (by simp) ?_
                        refine AllReadyH.cons rfl (fun K hK => ?step74) ?more74
                        case step74 =>
                          refine step_append_at (by rfl) (.tmp 50) (.tmp 54) 22 (by rfl) W.heap.size 48 i0 (.agg #[.int .i64 0, .int .i64 0]) 2 16 Try.underlying22 HI0.out HZ0.out.1 HZ0.out.2.1 HZ0.out.2.2 rfl (by decide) _ _ _ (by rfl) hOw (⟨b0, oD, none⟩) (n - k) (cp - k) (flat LIntA2.rec (z.drop k)) (by rfl) (by rw [flat_len, LIntA2.rec_n, List.length_drop]; have := HN.out; omega) (fun j u hu => HS2.out _ hB j u hu) (flat_one _ _) (by unfold maxLen; omega) (by omega) hB.size ?_
                          intro vx43 x43 hown2 hgrow hat
                          have hB2 := Below.grown hB hgrow hB.size (fun j hj => (hOw.lt j hj).1)
                          refine hK.out _ _ (HK.out _ hB2) (fun hHeld => ?_)
                          clear hK K
                          clear hOw hB hgrow hat
                          have hOw := hown2
                          have hB := hB2
                          clear hown2 hB2
                          simp only [Nat.zero_add] at hOw
                          obtain ⟨av, cv, rfl⟩ := row_slice hOw
                          refine wpAnyH_take (i := 16) (v := ?v75) rfl (by kernel_rfl) (by kernel_rfl) (by kernel_rfl) (fun _ _ _ h => h) (Or.inl ⟨by rfl, ?hy75⟩) (by assumption) ?rest75
                          case hy75 => (intro wq hSw; (try dsimp only at hSw); go_split_ands; go_simp; (try with_reducible rfl))
                          case rest75 =>
                          refine wpAnyH_ready (rs := [17]) (by kernel_rfl) (by simp) ?_
                          refine AllReadyH.cons rfl (fun K hK => ?step76) ?more76
                          case step76 =>
                            go_simp
                            refine hK.out _ _ (HK.out _ (hB.alloc hB.size _)) (fun hHeld => ?_)
                            clear hK K
                            have hNeC : (Value.slice av (_) cv).ownBlock ≠ some x43.heap.size := fun e => by have h1 := (hOw.lt _ e).2; omega
                            replace hOw := hOw.alloc (Obj.cells #[.int .i64 0, .slice none 0 0] 29)
                            have hXC := Bx.new x43 29 #[.int .i64 0, .slice none 0 0]
                            have hCW : W.heap.size ≤ x43.heap.size := hB.size
                            replace hB := hB.alloc hB.size (Obj.cells #[.int .i64 0, .slice none 0 0] 29)
                            generalize x43.alloc (Obj.cells #[.int .i64 0, .slice none 0 0] 29) = x44 at *
                            generalize x43.heap.size = gCx44 at *
                            refine wpAnyH_ready (rs := [18]) (by kernel_rfl) (by simp) ?_
                            refine AllReadyH.cons rfl (fun K hK => ?step77) ?more77
                            case step77 =>
                              have c0 := hXC.cell 0
                              have c1 := hXC.cell 1
                              have f0 := hXC.frozen 0
                              have f1 := hXC.frozen 1
                              simp only [List.getElem?_toArray, List.getElem?_cons_zero, List.getElem?_cons_succ] at c0 c1
                              have hB3 := (hB.setCell (p := ⟨gCx44, 0, none⟩) hCW (.int .i64 Kd)).setCell (p := ⟨gCx44, 1, none⟩) hCW (.slice av (k + 1 + (n - k)) cv)
                              have hC3 := Lib.hid (show Bx _ _ 29 #[.int .i64 Kd, .slice av (k + 1 + (n - k)) cv] from Bx.set_ (Bx.set_ hXC 0 (.int .i64 Kd)) 1 (.slice av (k + 1 + (n - k)) cv))
                              have hO3 := Lib.hid (own_ins HN.out HPos.out hk (own_rows2 hOw hNeC (.int .i64 Kd) (.slice av (k + 1 + (n - k)) cv)))
                              go_simp
                              refine hK.out _ _ (HK.out _ hB3) (fun hHeld => ?_)
                              clear hK K
                              refine wpAnyH_done (by kernel_rfl) ?_ _
                              go_wp2_with fail
                              all_goals
                                go_meet
                                exact ⟨gCx44, av, cv, rfl, hC3, hO3, hB3⟩
                            case more77 => exact AllReadyH.nil
                          case more76 => exact AllReadyH.nil
                        case more74 =>
                          refine AllReadyH.cons rfl (fun K hK => ?step78) ?more78
                          case step78 =>
                            go_simp
                            refine hK.out _ _ (HK.out _ (hB.alloc hB.size _)) (fun hHeld => ?_)
                            clear hK K
                            have hNeC : (vx42).ownBlock ≠ some x42.heap.size := fun e => by have h1 := (hOw.lt _ e).2; omega
                            replace hOw := hOw.alloc (Obj.cells #[.int .i64 0, .slice none 0 0] 29)
                            have hXC := Bx.new x42 29 #[.int .i64 0, .slice none 0 0]
                            have hCW : W.heap.size ≤ x42.heap.size := hB.size
                            replace hB := hB.alloc hB.size (Obj.cells #[.int .i64 0, .slice none 0 0] 29)
                            generalize x42.alloc (Obj.cells #[.int .i64 0, .slice none 0 0] 29) = x45 at *
                            generalize x42.heap.size = gCx45 at *
                            refine wpAnyH_ready (rs := [15]) (by kernel_rfl) (by simp) ?_
                            refine AllReadyH.cons rfl (fun K hK => ?step79) ?more79
                            case step79 =>
                              refine step_append_at (by rfl) (.tmp 50) (.tmp 54) 22 (by rfl) W.heap.size 48 i0 (.agg #[.int .i64 0, .int .i64 0]) 2 16 Try.underlying22 HI0.out HZ0.out.1 HZ0.out.2.1 HZ0.out.2.2 rfl (by decide) _ _ _ (by rfl) hOw (⟨b0, oD, none⟩) (n - k) (cp - k) (flat LIntA2.rec (z.drop k)) (by rfl) (by rw [flat_len, LIntA2.rec_n, List.length_drop]; have := HN.out; omega) (fun j u hu => HS2.out _ hB j u hu) (flat_one _ _) (by unfold maxLen; omega) (by omega) hB.size ?_
                              intro vx46 x46 hown2 hgrow hat
                              have hB2 := Below.grown hB hgrow hB.size (fun j hj => (hOw.lt j hj).1)
                              refine hK.out _ _ (HK.out _ hB2) (fun hHeld => ?_)
                              clear hK K
                              have hX2 := Bx.grownBy hXC hgrow hNeC
                              have hNe2 := ne_next hNeC hXC.lt hat
                              clear hXC hNeC
                              have hXC := hX2
                              have hNeC := hNe2
                              clear hX2 hNe2
                              clear hOw hB hgrow hat
                              have hOw := hown2
                              have hB := hB2
                              clear hown2 hB2
                              simp only [Nat.zero_add] at hOw
                              obtain ⟨av, cv, rfl⟩ := row_slice hOw
                              refine wpAnyH_take (i := 16) (v := ?v80) rfl (by kernel_rfl) (by kernel_rfl) (by kernel_rfl) (fun _ _ _ h => h) (Or.inl ⟨by rfl, ?hy80⟩) (by assumption) ?rest80
                              case hy80 => (intro wq hSw; (try dsimp only at hSw); go_split_ands; go_simp; (try with_reducible rfl))
                              case rest80 =>
                              refine wpAnyH_ready (rs := [18]) (by kernel_rfl) (by simp) ?_
                              refine AllReadyH.cons rfl (fun K hK => ?step81) ?more81
                              case step81 =>
                                have c0 := hXC.cell 0
                                have c1 := hXC.cell 1
                                have f0 := hXC.frozen 0
                                have f1 := hXC.frozen 1
                                simp only [List.getElem?_toArray, List.getElem?_cons_zero, List.getElem?_cons_succ] at c0 c1
                                have hB3 := (hB.setCell (p := ⟨gCx45, 0, none⟩) hCW (.int .i64 Kd)).setCell (p := ⟨gCx45, 1, none⟩) hCW (.slice av (k + 1 + (n - k)) cv)
                                have hC3 := Lib.hid (show Bx _ _ 29 #[.int .i64 Kd, .slice av (k + 1 + (n - k)) cv] from Bx.set_ (Bx.set_ hXC 0 (.int .i64 Kd)) 1 (.slice av (k + 1 + (n - k)) cv))
                                have hO3 := Lib.hid (own_ins HN.out HPos.out hk (own_rows2 hOw hNeC (.int .i64 Kd) (.slice av (k + 1 + (n - k)) cv)))
                                go_simp
                                refine hK.out _ _ (HK.out _ hB3) (fun hHeld => ?_)
                                clear hK K
                                refine wpAnyH_done (by kernel_rfl) ?_ _
                                go_wp2_with fail
                                all_goals
                                  go_meet
                                  exact ⟨gCx45, av, cv, rfl, hC3, hO3, hB3⟩
                              case more81 => exact AllReadyH.nil
                            case more79 => exact AllReadyH.nil
                          case more78 => exact AllReadyH.nil
                      case more73 =>
                        refine AllReadyH.cons rfl (fun K hK => ?step82) ?more82
                        case step82 =>
                          go_simp
                          refine hK.out _ _ (HK.out _ (hB.alloc hB.size _)) (fun hHeld => ?_)
                          clear hK K
                          have hNeC : (vx41).ownBlock ≠ some x41.heap.size := fun e => by have h1 := (hOw.lt _ e).2; omega
                          replace hOw := hOw.alloc (Obj.cells #[.int .i64 0, .slice none 0 0] 29)
                          replace hXB := Bx.alloc hXB (Obj.cells #[.int .i64 0, .slice none 0 0] 29)
                          have hXC := Bx.new x41 29 #[.int .i64 0, .slice none 0 0]
                          have hCW : W.heap.size ≤ x41.heap.size := hB.size
                          replace hB := hB.alloc hB.size (Obj.cells #[.int .i64 0, .slice none 0 0] 29)
                          generalize x41.alloc (Obj.cells #[.int .i64 0, .slice none 0 0] 29) = x47 at *
                          generalize x41.heap.size = gCx47 at *
                          refine wpAnyH_ready (rs := [10]) (by kernel_rfl) (by simp) ?_
                          refine AllReadyH.cons rfl (fun K hK => ?step83) ?more83
                          case step83 =>
                            refine step_append_at (by rfl) (.tmp 47) (.tmp 49) 22 (by rfl) W.heap.size 48 i0 (.agg #[.int .i64 0, .int .i64 0]) 2 16 Try.underlying22 HI0.out HZ0.out.1 HZ0.out.2.1 HZ0.out.2.2 rfl (by decide) _ _ _ (by rfl) hOw (⟨gBx39, 0, none⟩) (1) (1) [.int .i64 a, .int .i64 b] (by rfl) (by rfl) (World.news_of_block hXB) (by intro u hu; simp only [List.mem_cons, List.not_mem_nil, or_false] at hu; rcases hu with rfl | rfl <;> rfl) (by unfold maxLen; omega) (by omega) hB.size ?_
                            intro vx48 x48 hown2 hgrow hat
                            have hB2 := Below.grown hB hgrow hB.size (fun j hj => (hOw.lt j hj).1)
                            refine hK.out _ _ (HK.out _ hB2) (fun hHeld => ?_)
                            clear hK K
                            have hX2 := Bx.grownBy hXB hgrow hNeB
                            have hNe2 := ne_next hNeB hXB.lt hat
                            clear hXB hNeB
                            have hXB := hX2
                            have hNeB := hNe2
                            clear hX2 hNe2
                            have hX2 := Bx.grownBy hXC hgrow hNeC
                            have hNe2 := ne_next hNeC hXC.lt hat
                            clear hXC hNeC
                            have hXC := hX2
                            have hNeC := hNe2
                            clear hX2 hNe2
                            clear hOw hB hgrow hat
                            have hOw := hown2
                            have hB := hB2
                            clear hown2 hB2
                            clear hXB hNeB
                            refine wpAnyH_ready (rs := [15]) (by kernel_rfl) (by simp) ?_
                            refine AllReadyH.cons rfl (fun K hK => ?step84) ?more84
                            case step84 =>
                              refine step_append_at (by rfl) (.tmp 50) (.tmp 54) 22 (by rfl) W.heap.size 48 i0 (.agg #[.int .i64 0, .int .i64 0]) 2 16 Try.underlying22 HI0.out HZ0.out.1 HZ0.out.2.1 HZ0.out.2.2 rfl (by decide) _ _ _ (by rfl) hOw (⟨b0, oD, none⟩) (n - k) (cp - k) (flat LIntA2.rec (z.drop k)) (by rfl) (by rw [flat_len, LIntA2.rec_n, List.length_drop]; have := HN.out; omega) (fun j u hu => HS2.out _ hB j u hu) (flat_one _ _) (by unfold maxLen; omega) (by omega) hB.size ?_
                              intro vx49 x49 hown2 hgrow hat
                              have hB2 := Below.grown hB hgrow hB.size (fun j hj => (hOw.lt j hj).1)
                              refine hK.out _ _ (HK.out _ hB2) (fun hHeld => ?_)
                              clear hK K
                              have hX2 := Bx.grownBy hXC hgrow hNeC
                              have hNe2 := ne_next hNeC hXC.lt hat
                              clear hXC hNeC
                              have hXC := hX2
                              have hNeC := hNe2
                              clear hX2 hNe2
                              clear hOw hB hgrow hat
                              have hOw := hown2
                              have hB := hB2
                              clear hown2 hB2
                              simp only [Nat.zero_add] at hOw
                              obtain ⟨av, cv, rfl⟩ := row_slice hOw
                              refine wpAnyH_take (i := 16) (v := ?v85) rfl (by kernel_rfl) (by kernel_rfl) (by kernel_rfl) (fun _ _ _ h => h) (Or.inl ⟨by rfl, ?hy85⟩) (by assumption) ?rest85
                              case hy85 => (intro wq hSw; (try dsimp only at hSw); go_split_ands; go_simp; (try with_reducible rfl))
                              case rest85 =>
                              refine wpAnyH_ready (rs := [18]) (by kernel_rfl) (by simp) ?_
                              refine AllReadyH.cons rfl (fun K hK => ?step86) ?more86
                              case step86 =>
                                have c0 := hXC.cell 0
                                have c1 := hXC.cell 1
                                have f0 := hXC.frozen 0
                                have f1 := hXC.frozen 1
                                simp only [List.getElem?_toArray, List.getElem?_cons_zero, List.getElem?_cons_succ] at c0 c1
                                have hB3 := (hB.setCell (p := ⟨gCx47, 0, none⟩) hCW (.int .i64 Kd)).setCell (p := ⟨gCx47, 1, none⟩) hCW (.slice av (k + 1 + (n - k)) cv)
                                have hC3 := Lib.hid (show Bx _ _ 29 #[.int .i64 Kd, .slice av (k + 1 + (n - k)) cv] from Bx.set_ (Bx.set_ hXC 0 (.int .i64 Kd)) 1 (.slice av (k + 1 + (n - k)) cv))
                                have hO3 := Lib.hid (own_ins HN.out HPos.out hk (own_rows2 hOw hNeC (.int .i64 Kd) (.slice av (k + 1 + (n - k)) cv)))
                                go_simp
                                refine hK.out _ _ (HK.out _ hB3) (fun hHeld => ?_)
                                clear hK K
                                refine wpAnyH_done (by kernel_rfl) ?_ _
                                go_wp2_with fail
                                all_goals
                                  go_meet
                                  exact ⟨gCx47, av, cv, rfl, hC3, hO3, hB3⟩
                              case more86 => exact AllReadyH.nil
                            case more84 => exact AllReadyH.nil
                          case more83 => exact AllReadyH.nil
                        case more82 => exact AllReadyH.nil
                    case more72 =>
                      refine AllReadyH.cons rfl (fun K hK => ?step87) ?more87
                      case step87 =>
                        go_simp
                        refine hK.out _ _ (HK.out _ (hB.alloc hB.size _)) (fun hHeld => ?_)
                        clear hK K
                        have hNeC : (Value.slice (some ⟨gAx40, 0, none⟩) 0 0).ownBlock ≠ some x40.heap.size := fun e => by have h1 := (hOw.lt _ e).2; omega
                        replace hOw := hOw.alloc (Obj.cells #[.int .i64 0, .slice none 0 0] 29)
                        replace hXB := Bx.alloc hXB (Obj.cells #[.int .i64 0, .slice none 0 0] 29)
                        have hXC := Bx.new x40 29 #[.int .i64 0, .slice none 0 0]
                        have hCW : W.heap.size ≤ x40.heap.size := hB.size
                        replace hB := hB.alloc hB.size (Obj.cells #[.int .i64 0, .slice none 0 0] 29)
                        generalize x40.alloc (Obj.cells #[.int .i64 0, .slice none 0 0] 29) = x50 at *
                        generalize x40.heap.size = gCx50 at *
                        refine wpAnyH_ready (rs := [7]) (by kernel_rfl) (by simp) ?_
                        refine AllReadyH.cons rfl (fun K hK => ?step88) ?more88
                        case step88 =>
                          refine step_append_at (by rfl) (.tmp 42) (.tmp 46) 22 (by rfl) W.heap.size 48 i0 (.agg #[.int .i64 0, .int .i64 0]) 2 16 Try.underlying22 HI0.out HZ0.out.1 HZ0.out.2.1 HZ0.out.2.2 rfl (by decide) _ _ _ (by rfl) hOw (⟨b0, o0, none⟩) (k) (cp) (flat LIntA2.rec (z.take k)) (by rfl) (by rw [flat_len, LIntA2.rec_n, List.length_take]; have := HN.out; omega) (fun j u hu => HS1.out _ hB j u hu) (flat_one _ _) (by unfold maxLen; omega) (by omega) hB.size ?_
                          intro vx51 x51 hown2 hgrow hat
                          have hB2 := Below.grown hB hgrow hB.size (fun j hj => (hOw.lt j hj).1)
                          refine hK.out _ _ (HK.out _ hB2) (fun hHeld => ?_)
                          clear hK K
                          have hX2 := Bx.grownBy hXB hgrow hNeB
                          have hNe2 := ne_next hNeB hXB.lt hat
                          clear hXB hNeB
                          have hXB := hX2
                          have hNeB := hNe2
                          clear hX2 hNe2
                          have hX2 := Bx.grownBy hXC hgrow hNeC
                          have hNe2 := ne_next hNeC hXC.lt hat
                          clear hXC hNeC
                          have hXC := hX2
                          have hNeC := hNe2
                          clear hX2 hNe2
                          clear hOw hB hgrow hat
                          have hOw := hown2
                          have hB := hB2
                          clear hown2 hB2
                          refine wpAnyH_ready (rs := [10]) (by kernel_rfl) (by simp) ?_
                          refine AllReadyH.cons rfl (fun K hK => ?step89) ?more89
                          case step89 =>
                            refine step_append_at (by rfl) (.tmp 47) (.tmp 49) 22 (by rfl) W.heap.size 48 i0 (.agg #[.int .i64 0, .int .i64 0]) 2 16 Try.underlying22 HI0.out HZ0.out.1 HZ0.out.2.1 HZ0.out.2.2 rfl (by decide) _ _ _ (by rfl) hOw (⟨gBx39, 0, none⟩) (1) (1) [.int .i64 a, .int .i64 b] (by rfl) (by rfl) (World.news_of_block hXB) (by intro u hu; simp only [List.mem_cons, List.not_mem_nil, or_false] at hu; rcases hu with rfl | rfl <;> rfl) (by unfold maxLen; omega) (by omega) hB.size ?_
                            intro vx52 x52 hown2 hgrow hat
                            have hB2 := Below.grown hB hgrow hB.size (fun j hj => (hOw.lt j hj).1)
                            refine hK.out _ _ (HK.out _ hB2) (fun hHeld => ?_)
                            clear hK K
                            have hX2 := Bx.grownBy hXB hgrow hNeB
                            have hNe2 := ne_next hNeB hXB.lt hat
                            clear hXB hNeB
                            have hXB := hX2
                            have hNeB := hNe2
                            clear hX2 hNe2
                            have hX2 := Bx.grownBy hXC hgrow hNeC
                            have hNe2 := ne_next hNeC hXC.lt hat
                            clear hXC hNeC
                            have hXC := hX2
                            have hNeC := hNe2
                            clear hX2 hNe2
                            clear hOw hB hgrow hat
                            have hOw := hown2
                            have hB := hB2
                            clear hown2 hB2
                            clear hXB hNeB
                            refine wpAnyH_ready (rs := [15]) (by kernel_rfl) (by simp) ?_
                            refine AllReadyH.cons rfl (fun K hK => ?step90) ?more90
                            case step90 =>
                              refine step_append_at (by rfl) (.tmp 50) (.tmp 54) 22 (by rfl) W.heap.size 48 i0 (.agg #[.int .i64 0, .int .i64 0]) 2 16 Try.underlying22 HI0.out HZ0.out.1 HZ0.out.2.1 HZ0.out.2.2 rfl (by decide) _ _ _ (by rfl) hOw (⟨b0, oD, none⟩) (n - k) (cp - k) (flat LIntA2.rec (z.drop k)) (by rfl) (by rw [flat_len, LIntA2.rec_n, List.length_drop]; have := HN.out; omega) (fun j u hu => HS2.out _ hB j u hu) (flat_one _ _) (by unfold maxLen; omega) (by omega) hB.size ?_
                              intro vx53 x53 hown2 hgrow hat
                              have hB2 := Below.grown hB hgrow hB.size (fun j hj => (hOw.lt j hj).1)
                              refine hK.out _ _ (HK.out _ hB2) (fun hHeld => ?_)
                              clear hK K
                              have hX2 := Bx.grownBy hXC hgrow hNeC
                              have hNe2 := ne_next hNeC hXC.lt hat
                              clear hXC hNeC
                              have hXC := hX2
                              have hNeC := hNe2
                              clear hX2 hNe2
                              clear hOw hB hgrow hat
                              have hOw := hown2
                              have hB := hB2
                              clear hown2 hB2
                              simp only [Nat.zero_add] at hOw
                              obtain ⟨av, cv, rfl⟩ := row_slice hOw
                              refine wpAnyH_take (i := 16) (v := ?v91) rfl (by kernel_rfl) (by kernel_rfl) (by kernel_rfl) (fun _ _ _ h => h) (Or.inl ⟨by rfl, ?hy91⟩) (by assumption) ?rest91
                              case hy91 => (intro wq hSw; (try dsimp only at hSw); go_split_ands; go_simp; (try with_reducible rfl))
                              case rest91 =>
                              refine wpAnyH_ready (rs := [18]) (by kernel_rfl) (by simp) ?_
                              refine AllReadyH.cons rfl (fun K hK => ?step92) ?more92
                              case step92 =>
                                have c0 := hXC.cell 0
                                have c1 := hXC.cell 1
                                have f0 := hXC.frozen 0
                                have f1 := hXC.frozen 1
                                simp only [List.getElem?_toArray, List.getElem?_cons_zero, List.getElem?_cons_succ] at c0 c1
                                have hB3 := (hB.setCell (p := ⟨gCx50, 0, none⟩) hCW (.int .i64 Kd)).setCell (p := ⟨gCx50, 1, none⟩) hCW (.slice av (k + 1 + (n - k)) cv)
                                have hC3 := Lib.hid (show Bx _ _ 29 #[.int .i64 Kd, .slice av (k + 1 + (n - k)) cv] from Bx.set_ (Bx.set_ hXC 0 (.int .i64 Kd)) 1 (.slice av (k + 1 + (n - k)) cv))
                                have hO3 := Lib.hid (own_ins HN.out HPos.out hk (own_rows2 hOw hNeC (.int .i64 Kd) (.slice av (k + 1 + (n - k)) cv)))
                                go_simp
                                refine hK.out _ _ (HK.out _ hB3) (fun hHeld => ?_)
                                clear hK K
                                refine wpAnyH_done (by kernel_rfl) ?_ _
                                go_wp2_with fail
                                all_goals
                                  go_meet
                                  exact ⟨gCx50, av, cv, rfl, hC3, hO3, hB3⟩
                              case more92 => exact AllReadyH.nil
                            case more90 => exact AllReadyH.nil
                          case more89 => exact AllReadyH.nil
                        case more88 => exact AllReadyH.nil
                      case more87 => exact AllReadyH.nil
                  case more71 =>
                    refine AllReadyH.cons rfl (fun K hK => ?step93) ?more93
                    case step93 =>
                      go_simp
                      refine hK.out _ _ (HK.out _ (hB.alloc hB.size _)) (fun hHeld => ?_)
                      clear hK K
                      replace hXB := Bx.alloc hXB (Obj.cells #[.int .i64 0, .slice none 0 0] 29)
                      have hXC := Bx.new x39 29 #[.int .i64 0, .slice none 0 0]
                      have hCW : W.heap.size ≤ x39.heap.size := hB.size
                      replace hB := hB.alloc hB.size (Obj.cells #[.int .i64 0, .slice none 0 0] 29)
                      generalize x39.alloc (Obj.cells #[.int .i64 0, .slice none 0 0] 29) = x54 at *
                      generalize x39.heap.size = gCx54 at *
                      refine wpAnyH_ready (rs := [2]) (by kernel_rfl) (by simp) ?_
                      refine AllReadyH.cons rfl (fun K hK => ?step94) ?more94
                      case step94 =>
                        go_simp
                        refine hK.out _ _ (HK.out _ (hB.alloc hB.size _)) (fun hHeld => ?_)
                        clear hK K
                        have hOw : (x54.alloc (Obj.cells #[] 48)).ownsRow W.heap.size 48 2 (.slice (some ⟨x54.heap.size, 0, none⟩) 0 0) 0 [] := LIntA2.startB (heap_alloc_new x54 _) hB.size
                        have hNeB : (Value.slice (some ⟨x54.heap.size, 0, none⟩) 0 0).ownBlock ≠ some gBx39 := fun e => by have h1 := hXB.lt; simp only [Value.ownBlock, Option.some.injEq] at e; omega
                        replace hXB := Bx.alloc hXB (Obj.cells #[] 48)
                        have hNeC : (Value.slice (some ⟨x54.heap.size, 0, none⟩) 0 0).ownBlock ≠ some gCx54 := fun e => by have h1 := hXC.lt; simp only [Value.ownBlock, Option.some.injEq] at e; omega
                        replace hXC := Bx.alloc hXC (Obj.cells #[] 48)
                        replace hB := hB.alloc hB.size (Obj.cells #[] 48)
                        generalize x54.alloc (Obj.cells #[] 48) = x55 at *
                        generalize x54.heap.size = gAx55 at *
                        refine wpAnyH_ready (rs := [7]) (by kernel_rfl) (by simp) ?_
                        refine AllReadyH.cons rfl (fun K hK => ?step95) ?more95
                        case step95 =>
                          refine step_append_at (by rfl) (.tmp 42) (.tmp 46) 22 (by rfl) W.heap.size 48 i0 (.agg #[.int .i64 0, .int .i64 0]) 2 16 Try.underlying22 HI0.out HZ0.out.1 HZ0.out.2.1 HZ0.out.2.2 rfl (by decide) _ _ _ (by rfl) hOw (⟨b0, o0, none⟩) (k) (cp) (flat LIntA2.rec (z.take k)) (by rfl) (by rw [flat_len, LIntA2.rec_n, List.length_take]; have := HN.out; omega) (fun j u hu => HS1.out _ hB j u hu) (flat_one _ _) (by unfold maxLen; omega) (by omega) hB.size ?_
                          intro vx56 x56 hown2 hgrow hat
                          have hB2 := Below.grown hB hgrow hB.size (fun j hj => (hOw.lt j hj).1)
                          refine hK.out _ _ (HK.out _ hB2) (fun hHeld => ?_)
                          clear hK K
                          have hX2 := Bx.grownBy hXB hgrow hNeB
                          have hNe2 := ne_next hNeB hXB.lt hat
                          clear hXB hNeB
                          have hXB := hX2
                          have hNeB := hNe2
                          clear hX2 hNe2
                          have hX2 := Bx.grownBy hXC hgrow hNeC
                          have hNe2 := ne_next hNeC hXC.lt hat
                          clear hXC hNeC
                          have hXC := hX2
                          have hNeC := hNe2
                          clear hX2 hNe2
                          clear hOw hB hgrow hat
                          have hOw := hown2
                          have hB := hB2
                          clear hown2 hB2
                          refine wpAnyH_ready (rs := [10]) (by kernel_rfl) (by simp) ?_
                          refine AllReadyH.cons rfl (fun K hK => ?step96) ?more96
                          case step96 =>
                            refine step_append_at (by rfl) (.tmp 47) (.tmp 49) 22 (by rfl) W.heap.size 48 i0 (.agg #[.int .i64 0, .int .i64 0]) 2 16 Try.underlying22 HI0.out HZ0.out.1 HZ0.out.2.1 HZ0.out.2.2 rfl (by decide) _ _ _ (by rfl) hOw (⟨gBx39, 0, none⟩) (1) (1) [.int .i64 a, .int .i64 b] (by rfl) (by rfl) (World.news_of_block hXB) (by intro u hu; simp only [List.mem_cons, List.not_mem_nil, or_false] at hu; rcases hu with rfl | rfl <;> rfl) (by unfold maxLen; omega) (by omega) hB.size ?_
                            intro vx57 x57 hown2 hgrow hat
                            have hB2 := Below.grown hB hgrow hB.size (fun j hj => (hOw.lt j hj).1)
                            refine hK.out _ _ (HK.out _ hB2) (fun hHeld => ?_)
                            clear hK K
                            have hX2 := Bx.grownBy hXB hgrow hNeB
                            have hNe2 := ne_next hNeB hXB.lt hat
                            clear hXB hNeB
                            have hXB := hX2
                            have hNeB := hNe2
                            clear hX2 hNe2
                            have hX2 := Bx.grownBy hXC hgrow hNeC
                            have hNe2 := ne_next hNeC hXC.lt hat
                            clear hXC hNeC
                            have hXC := hX2
                            have hNeC := hNe2
                            clear hX2 hNe2
                            clear hOw hB hgrow hat
                            have hOw := hown2
                            have hB := hB2
                            clear hown2 hB2
                            clear hXB hNeB
                            refine wpAnyH_ready (rs := [15]) (by kernel_rfl) (by simp) ?_
                            refine AllReadyH.cons rfl (fun K hK => ?step97) ?more97
                            case step97 =>
                              refine step_append_at (by rfl) (.tmp 50) (.tmp 54) 22 (by rfl) W.heap.size 48 i0 (.agg #[.int .i64 0, .int .i64 0]) 2 16 Try.underlying22 HI0.out HZ0.out.1 HZ0.out.2.1 HZ0.out.2.2 rfl (by decide) _ _ _ (by rfl) hOw (⟨b0, oD, none⟩) (n - k) (cp - k) (flat LIntA2.rec (z.drop k)) (by rfl) (by rw [flat_len, LIntA2.rec_n, List.length_drop]; have := HN.out; omega) (fun j u hu => HS2.out _ hB j u hu) (flat_one _ _) (by unfold maxLen; omega) (by omega) hB.size ?_
                              intro vx58 x58 hown2 hgrow hat
                              have hB2 := Below.grown hB hgrow hB.size (fun j hj => (hOw.lt j hj).1)
                              refine hK.out _ _ (HK.out _ hB2) (fun hHeld => ?_)
                              clear hK K
                              have hX2 := Bx.grownBy hXC hgrow hNeC
                              have hNe2 := ne_next hNeC hXC.lt hat
                              clear hXC hNeC
                              have hXC := hX2
                              have hNeC := hNe2
                              clear hX2 hNe2
                              clear hOw hB hgrow hat
                              have hOw := hown2
                              have hB := hB2
                              clear hown2 hB2
                              simp only [Nat.zero_add] at hOw
                              obtain ⟨av, cv, rfl⟩ := row_slice hOw
                              refine wpAnyH_take (i := 16) (v := ?v98) rfl (by kernel_rfl) (by kernel_rfl) (by kernel_rfl) (fun _ _ _ h => h) (Or.inl ⟨by rfl, ?hy98⟩) (by assumption) ?rest98
                              case hy98 => (intro wq hSw; (try dsimp only at hSw); go_split_ands; go_simp; (try with_reducible rfl))
                              case rest98 =>
                              refine wpAnyH_ready (rs := [18]) (by kernel_rfl) (by simp) ?_
                              refine AllReadyH.cons rfl (fun K hK => ?step99) ?more99
                              case step99 =>
                                have c0 := hXC.cell 0
                                have c1 := hXC.cell 1
                                have f0 := hXC.frozen 0
                                have f1 := hXC.frozen 1
                                simp only [List.getElem?_toArray, List.getElem?_cons_zero, List.getElem?_cons_succ] at c0 c1
                                have hB3 := (hB.setCell (p := ⟨gCx54, 0, none⟩) hCW (.int .i64 Kd)).setCell (p := ⟨gCx54, 1, none⟩) hCW (.slice av (k + 1 + (n - k)) cv)
                                have hC3 := Lib.hid (show Bx _ _ 29 #[.int .i64 Kd, .slice av (k + 1 + (n - k)) cv] from Bx.set_ (Bx.set_ hXC 0 (.int .i64 Kd)) 1 (.slice av (k + 1 + (n - k)) cv))
                                have hO3 := Lib.hid (own_ins HN.out HPos.out hk (own_rows2 hOw hNeC (.int .i64 Kd) (.slice av (k + 1 + (n - k)) cv)))
                                go_simp
                                refine hK.out _ _ (HK.out _ hB3) (fun hHeld => ?_)
                                clear hK K
                                refine wpAnyH_done (by kernel_rfl) ?_ _
                                go_wp2_with fail
                                all_goals
                                  go_meet
                                  exact ⟨gCx54, av, cv, rfl, hC3, hO3, hB3⟩
                              case more99 => exact AllReadyH.nil
                            case more97 => exact AllReadyH.nil
                          case more96 => exact AllReadyH.nil
                        case more95 => exact AllReadyH.nil
                      case more94 => exact AllReadyH.nil
                    case more93 => exact AllReadyH.nil
                case more70 =>
                  refine AllReadyH.cons rfl (fun K hK => ?step100) ?more100
                  case step100 =>
                    go_simp
                    refine hK.out _ _ (HK.out _ (hB.alloc hB.size _)) (fun hHeld => ?_)
                    clear hK K
                    have hXC := Bx.new x0 29 #[.int .i64 0, .slice none 0 0]
                    have hCW : W.heap.size ≤ x0.heap.size := hB.size
                    replace hB := hB.alloc hB.size (Obj.cells #[.int .i64 0, .slice none 0 0] 29)
                    generalize x0.alloc (Obj.cells #[.int .i64 0, .slice none 0 0] 29) = x59 at *
                    generalize x0.heap.size = gCx59 at *
                    refine wpAnyH_ready (rs := [2, 9]) (by kernel_rfl) (by simp) ?_
                    refine AllReadyH.cons rfl (fun K hK => ?step101) ?more101
                    case step101 =>
                      go_simp
                      refine hK.out _ _ (HK.out _ (hB.alloc hB.size _)) (fun hHeld => ?_)
                      clear hK K
                      have hOw : (x59.alloc (Obj.cells #[] 48)).ownsRow W.heap.size 48 2 (.slice (some ⟨x59.heap.size, 0, none⟩) 0 0) 0 [] := LIntA2.startB (heap_alloc_new x59 _) hB.size
                      have hNeC : (Value.slice (some ⟨x59.heap.size, 0, none⟩) 0 0).ownBlock ≠ some gCx59 := fun e => by have h1 := hXC.lt; simp only [Value.ownBlock, Option.some.injEq] at e; omega
                      replace hXC := Bx.alloc hXC (Obj.cells #[] 48)
                      replace hB := hB.alloc hB.size (Obj.cells #[] 48)
                      generalize x59.alloc (Obj.cells #[] 48) = x60 at *
                      generalize x59.heap.size = gAx60 at *
                      refine wpAnyH_ready (rs := [7, 9]) (by kernel_rfl) (by simp) ?_
                      refine AllReadyH.cons rfl (fun K hK => ?step102) ?more102
                      case step102 =>
                        refine step_append_at (by rfl) (.tmp 42) (.tmp 46) 22 (by rfl) W.heap.size 48 i0 (.agg #[.int .i64 0, .int .i64 0]) 2 16 Try.underlying22 HI0.out HZ0.out.1 HZ0.out.2.1 HZ0.out.2.2 rfl (by decide) _ _ _ (by rfl) hOw (⟨b0, o0, none⟩) (k) (cp) (flat LIntA2.rec (z.take k)) (by rfl) (by rw [flat_len, LIntA2.rec_n, List.length_take]; have := HN.out; omega) (fun j u hu => HS1.out _ hB j u hu) (flat_one _ _) (by unfold maxLen; omega) (by omega) hB.size ?_
                        intro vx61 x61 hown2 hgrow hat
                        have hB2 := Below.grown hB hgrow hB.size (fun j hj => (hOw.lt j hj).1)
                        refine hK.out _ _ (HK.out _ hB2) (fun hHeld => ?_)
                        clear hK K
                        have hX2 := Bx.grownBy hXC hgrow hNeC
                        have hNe2 := ne_next hNeC hXC.lt hat
                        clear hXC hNeC
                        have hXC := hX2
                        have hNeC := hNe2
                        clear hX2 hNe2
                        clear hOw hB hgrow hat
                        have hOw := hown2
                        have hB := hB2
                        clear hown2 hB2
                        refine wpAnyH_ready (rs := [9]) (by kernel_rfl) (by simp) ?_
                        refine AllReadyH.cons rfl (fun K hK => ?step103) ?more103
                        case step103 =>
                          go_simp
                          refine hK.out _ _ (HK.out _ (hB.alloc hB.size _)) (fun hHeld => ?_)
                          clear hK K
                          have hNeB : (vx61).ownBlock ≠ some x61.heap.size := fun e => by have h1 := (hOw.lt _ e).2; omega
                          replace hOw := hOw.alloc (Obj.cells #[.int .i64 a, .int .i64 b] 48)
                          replace hXC := Bx.alloc hXC (Obj.cells #[.int .i64 a, .int .i64 b] 48)
                          have hXB := Bx.new x61 48 #[.int .i64 a, .int .i64 b]
                          replace hB := hB.alloc hB.size (Obj.cells #[.int .i64 a, .int .i64 b] 48)
                          generalize x61.alloc (Obj.cells #[.int .i64 a, .int .i64 b] 48) = x62 at *
                          generalize x61.heap.size = gBx62 at *
                          refine wpAnyH_ready (rs := [10]) (by kernel_rfl) (by simp) ?_
                          refine AllReadyH.cons rfl (fun K hK => ?step104) ?more104
                          case step104 =>
                            refine step_append_at (by rfl) (.tmp 47) (.tmp 49) 22 (by rfl) W.heap.size 48 i0 (.agg #[.int .i64 0, .int .i64 0]) 2 16 Try.underlying22 HI0.out HZ0.out.1 HZ0.out.2.1 HZ0.out.2.2 rfl (by decide) _ _ _ (by rfl) hOw (⟨gBx62, 0, none⟩) (1) (1) [.int .i64 a, .int .i64 b] (by rfl) (by rfl) (World.news_of_block hXB) (by intro u hu; simp only [List.mem_cons, List.not_mem_nil, or_false] at hu; rcases hu with rfl | rfl <;> rfl) (by unfold maxLen; omega) (by omega) hB.size ?_
                            intro vx63 x63 hown2 hgrow hat
                            have hB2 := Below.grown hB hgrow hB.size (fun j hj => (hOw.lt j hj).1)
                            refine hK.out _ _ (HK.out _ hB2) (fun hHeld => ?_)
                            clear hK K
                            have hX2 := Bx.grownBy hXB hgrow hNeB
                            have hNe2 := ne_next hNeB hXB.lt hat
                            clear hXB hNeB
                            have hXB := hX2
                            have hNeB := hNe2
                            clear hX2 hNe2
                            have hX2 := Bx.grownBy hXC hgrow hNeC
                            have hNe2 := ne_next hNeC hXC.lt hat
                            clear hXC hNeC
                            have hXC := hX2
                            have hNeC := hNe2
                            clear hX2 hNe2
                            clear hOw hB hgrow hat
                            have hOw := hown2
                            have hB := hB2
                            clear hown2 hB2
                            clear hXB hNeB
                            refine wpAnyH_ready (rs := [15]) (by kernel_rfl) (by simp) ?_
                            refine AllReadyH.cons rfl (fun K hK => ?step105) ?more105
                            case step105 =>
                              refine step_append_at (by rfl) (.tmp 50) (.tmp 54) 22 (by rfl) W.heap.size 48 i0 (.agg #[.int .i64 0, .int .i64 0]) 2 16 Try.underlying22 HI0.out HZ0.out.1 HZ0.out.2.1 HZ0.out.2.2 rfl (by decide) _ _ _ (by rfl) hOw (⟨b0, oD, none⟩) (n - k) (cp - k) (flat LIntA2.rec (z.drop k)) (by rfl) (by rw [flat_len, LIntA2.rec_n, List.length_drop]; have := HN.out; omega) (fun j u hu => HS2.out _ hB j u hu) (flat_one _ _) (by unfold maxLen; omega) (by omega) hB.size ?_
                              intro vx64 x64 hown2 hgrow hat
                              have hB2 := Below.grown hB hgrow hB.size (fun j hj => (hOw.lt j hj).1)
                              refine hK.out _ _ (HK.out _ hB2) (fun hHeld => ?_)
                              clear hK K
                              have hX2 := Bx.grownBy hXC hgrow hNeC
                              have hNe2 := ne_next hNeC hXC.lt hat
                              clear hXC hNeC
                              have hXC := hX2
                              have hNeC := hNe2
                              clear hX2 hNe2
                              clear hOw hB hgrow hat
                              have hOw := hown2
                              have hB := hB2
                              clear hown2 hB2
                              simp only [Nat.zero_add] at hOw
                              obtain ⟨av, cv, rfl⟩ := row_slice hOw
                              refine wpAnyH_take (i := 16) (v := ?v106) rfl (by kernel_rfl) (by kernel_rfl) (by kernel_rfl) (fun _ _ _ h => h) (Or.inl ⟨by rfl, ?hy106⟩) (by assumption) ?rest106
                              case hy106 => (intro wq hSw; (try dsimp only at hSw); go_split_ands; go_simp; (try with_reducible rfl))
                              case rest106 =>
                              refine wpAnyH_ready (rs := [18]) (by kernel_rfl) (by simp) ?_
                              refine AllReadyH.cons rfl (fun K hK => ?step107) ?more107
                              case step107 =>
                                have c0 := hXC.cell 0
                                have c1 := hXC.cell 1
                                have f0 := hXC.frozen 0
                                have f1 := hXC.frozen 1
                                simp only [List.getElem?_toArray, List.getElem?_cons_zero, List.getElem?_cons_succ] at c0 c1
                                have hB3 := (hB.setCell (p := ⟨gCx59, 0, none⟩) hCW (.int .i64 Kd)).setCell (p := ⟨gCx59, 1, none⟩) hCW (.slice av (k + 1 + (n - k)) cv)
                                have hC3 := Lib.hid (show Bx _ _ 29 #[.int .i64 Kd, .slice av (k + 1 + (n - k)) cv] from Bx.set_ (Bx.set_ hXC 0 (.int .i64 Kd)) 1 (.slice av (k + 1 + (n - k)) cv))
                                have hO3 := Lib.hid (own_ins HN.out HPos.out hk (own_rows2 hOw hNeC (.int .i64 Kd) (.slice av (k + 1 + (n - k)) cv)))
                                go_simp
                                refine hK.out _ _ (HK.out _ hB3) (fun hHeld => ?_)
                                clear hK K
                                refine wpAnyH_done (by kernel_rfl) ?_ _
                                go_wp2_with fail
                                all_goals
                                  go_meet
                                  exact ⟨gCx59, av, cv, rfl, hC3, hO3, hB3⟩
                              case more107 => exact AllReadyH.nil
                            case more105 => exact AllReadyH.nil
                          case more104 => exact AllReadyH.nil
                        case more103 => exact AllReadyH.nil
                      case more102 =>
                        refine AllReadyH.cons rfl (fun K hK => ?step108) ?more108
                        case step108 =>
                          go_simp
                          refine hK.out _ _ (HK.out _ (hB.alloc hB.size _)) (fun hHeld => ?_)
                          clear hK K
                          have hNeB : (Value.slice (some ⟨gAx60, 0, none⟩) 0 0).ownBlock ≠ some x60.heap.size := fun e => by have h1 := (hOw.lt _ e).2; omega
                          replace hOw := hOw.alloc (Obj.cells #[.int .i64 a, .int .i64 b] 48)
                          replace hXC := Bx.alloc hXC (Obj.cells #[.int .i64 a, .int .i64 b] 48)
                          have hXB := Bx.new x60 48 #[.int .i64 a, .int .i64 b]
                          replace hB := hB.alloc hB.size (Obj.cells #[.int .i64 a, .int .i64 b] 48)
                          generalize x60.alloc (Obj.cells #[.int .i64 a, .int .i64 b] 48) = x65 at *
                          generalize x60.heap.size = gBx65 at *
                          refine wpAnyH_ready (rs := [7]) (by kernel_rfl) (by simp) ?_
                          refine AllReadyH.cons rfl (fun K hK => ?step109) ?more109
                          case step109 =>
                            refine step_append_at (by rfl) (.tmp 42) (.tmp 46) 22 (by rfl) W.heap.size 48 i0 (.agg #[.int .i64 0, .int .i64 0]) 2 16 Try.underlying22 HI0.out HZ0.out.1 HZ0.out.2.1 HZ0.out.2.2 rfl (by decide) _ _ _ (by rfl) hOw (⟨b0, o0, none⟩) (k) (cp) (flat LIntA2.rec (z.take k)) (by rfl) (by rw [flat_len, LIntA2.rec_n, List.length_take]; have := HN.out; omega) (fun j u hu => HS1.out _ hB j u hu) (flat_one _ _) (by unfold maxLen; omega) (by omega) hB.size ?_
                            intro vx66 x66 hown2 hgrow hat
                            have hB2 := Below.grown hB hgrow hB.size (fun j hj => (hOw.lt j hj).1)
                            refine hK.out _ _ (HK.out _ hB2) (fun hHeld => ?_)
                            clear hK K
                            have hX2 := Bx.grownBy hXB hgrow hNeB
                            have hNe2 := ne_next hNeB hXB.lt hat
                            clear hXB hNeB
                            have hXB := hX2
                            have hNeB := hNe2
                            clear hX2 hNe2
                            have hX2 := Bx.grownBy hXC hgrow hNeC
                            have hNe2 := ne_next hNeC hXC.lt hat
                            clear hXC hNeC
                            have hXC := hX2
                            have hNeC := hNe2
                            clear hX2 hNe2
                            clear hOw hB hgrow hat
                            have hOw := hown2
                            have hB := hB2
                            clear hown2 hB2
                            refine wpAnyH_ready (rs := [10]) (by kernel_rfl) (by simp) ?_
                            refine AllReadyH.cons rfl (fun K hK => ?step110) ?more110
                            case step110 =>
                              refine step_append_at (by rfl) (.tmp 47) (.tmp 49) 22 (by rfl) W.heap.size 48 i0 (.agg #[.int .i64 0, .int .i64 0]) 2 16 Try.underlying22 HI0.out HZ0.out.1 HZ0.out.2.1 HZ0.out.2.2 rfl (by decide) _ _ _ (by rfl) hOw (⟨gBx65, 0, none⟩) (1) (1) [.int .i64 a, .int .i64 b] (by rfl) (by rfl) (World.news_of_block hXB) (by intro u hu; simp only [List.mem_cons, List.not_mem_nil, or_false] at hu; rcases hu with rfl | rfl <;> rfl) (by unfold maxLen; omega) (by omega) hB.size ?_
                              intro vx67 x67 hown2 hgrow hat
                              have hB2 := Below.grown hB hgrow hB.size (fun j hj => (hOw.lt j hj).1)
                              refine hK.out _ _ (HK.out _ hB2) (fun hHeld => ?_)
                              clear hK K
                              have hX2 := Bx.grownBy hXB hgrow hNeB
                              have hNe2 := ne_next hNeB hXB.lt hat
                              clear hXB hNeB
                              have hXB := hX2
                              have hNeB := hNe2
                              clear hX2 hNe2
                              have hX2 := Bx.grownBy hXC hgrow hNeC
                              have hNe2 := ne_next hNeC hXC.lt hat
                              clear hXC hNeC
                              have hXC := hX2
                              have hNeC := hNe2
                              clear hX2 hNe2
                              clear hOw hB hgrow hat
                              have hOw := hown2
                              have hB := hB2
                              clear hown2 hB2
                              clear hXB hNeB
                              refine wpAnyH_ready (rs := [15]) (by kernel_rfl) (by simp) ?_
                              refine AllReadyH.cons rfl (fun K hK => ?step111) ?more111
                              case step111 =>
                                refine step_append_at (by rfl) (.tmp 50) (.tmp 54) 22 (by rfl) W.heap.size 48 i0 (.agg #[.int .i64 0, .int .i64 0]) 2 16 Try.underlying22 HI0.out HZ0.out.1 HZ0.out.2.1 HZ0.out.2.2 rfl (by decide) _ _ _ (by rfl) hOw (⟨b0, oD, none⟩) (n - k) (cp - k) (flat LIntA2.rec (z.drop k)) (by rfl) (by rw [flat_len, LIntA2.rec_n, List.length_drop]; have := HN.out; omega) (fun j u hu => HS2.out _ hB j u hu) (flat_one _ _) (by unfold maxLen; omega) (by omega) hB.size ?_
                                intro vx68 x68 hown2 hgrow hat
                                have hB2 := Below.grown hB hgrow hB.size (fun j hj => (hOw.lt j hj).1)
                                refine hK.out _ _ (HK.out _ hB2) (fun hHeld => ?_)
                                clear hK K
                                have hX2 := Bx.grownBy hXC hgrow hNeC
                                have hNe2 := ne_next hNeC hXC.lt hat
                                clear hXC hNeC
                                have hXC := hX2
                                have hNeC := hNe2
                                clear hX2 hNe2
                                clear hOw hB hgrow hat
                                have hOw := hown2
                                have hB := hB2
                                clear hown2 hB2
                                simp only [Nat.zero_add] at hOw
                                obtain ⟨av, cv, rfl⟩ := row_slice hOw
                                refine wpAnyH_take (i := 16) (v := ?v112) rfl (by kernel_rfl) (by kernel_rfl) (by kernel_rfl) (fun _ _ _ h => h) (Or.inl ⟨by rfl, ?hy112⟩) (by assumption) ?rest112
                                case hy112 => (intro wq hSw; (try dsimp only at hSw); go_split_ands; go_simp; (try with_reducible rfl))
                                case rest112 =>
                                refine wpAnyH_ready (rs := [18]) (by kernel_rfl) (by simp) ?_
                                refine AllReadyH.cons rfl (fun K hK => ?step113) ?more113
                                case step113 =>
                                  have c0 := hXC.cell 0
                                  have c1 := hXC.cell 1
                                  have f0 := hXC.frozen 0
                                  have f1 := hXC.frozen 1
                                  simp only [List.getElem?_toArray, List.getElem?_cons_zero, List.getElem?_cons_succ] at c0 c1
                                  have hB3 := (hB.setCell (p := ⟨gCx59, 0, none⟩) hCW (.int .i64 Kd)).setCell (p := ⟨gCx59, 1, none⟩) hCW (.slice av (k + 1 + (n - k)) cv)
                                  have hC3 := Lib.hid (show Bx _ _ 29 #[.int .i64 Kd, .slice av (k + 1 + (n - k)) cv] from Bx.set_ (Bx.set_ hXC 0 (.int .i64 Kd)) 1 (.slice av (k + 1 + (n - k)) cv))
                                  have hO3 := Lib.hid (own_ins HN.out HPos.out hk (own_rows2 hOw hNeC (.int .i64 Kd) (.slice av (k + 1 + (n - k)) cv)))
                                  go_simp
                                  refine hK.out _ _ (HK.out _ hB3) (fun hHeld => ?_)
                                  clear hK K
                                  refine wpAnyH_done (by kernel_rfl) ?_ _
                                  go_wp2_with fail
                                  all_goals
                                    go_meet
                                    exact ⟨gCx59, av, cv, rfl, hC3, hO3, hB3⟩
                                case more113 => exact AllReadyH.nil
                              case more111 => exact AllReadyH.nil
                            case more110 => exact AllReadyH.nil
                          case more109 => exact AllReadyH.nil
                        case more108 => exact AllReadyH.nil
                    case more101 =>
                      refine AllReadyH.cons rfl (fun K hK => ?step114) ?more114
                      case step114 =>
                        go_simp
                        refine hK.out _ _ (HK.out _ (hB.alloc hB.size _)) (fun hHeld => ?_)
                        clear hK K
                        replace hXC := Bx.alloc hXC (Obj.cells #[.int .i64 a, .int .i64 b] 48)
                        have hXB := Bx.new x59 48 #[.int .i64 a, .int .i64 b]
                        replace hB := hB.alloc hB.size (Obj.cells #[.int .i64 a, .int .i64 b] 48)
                        generalize x59.alloc (Obj.cells #[.int .i64 a, .int .i64 b] 48) = x69 at *
                        generalize x59.heap.size = gBx69 at *
                        refine wpAnyH_ready (rs := [2]) (by kernel_rfl) (by simp) ?_
                        refine AllReadyH.cons rfl (fun K hK => ?step115) ?more115
                        case step115 =>
                          go_simp
                          refine hK.out _ _ (HK.out _ (hB.alloc hB.size _)) (fun hHeld => ?_)
                          clear hK K
                          have hOw : (x69.alloc (Obj.cells #[] 48)).ownsRow W.heap.size 48 2 (.slice (some ⟨x69.heap.size, 0, none⟩) 0 0) 0 [] := LIntA2.startB (heap_alloc_new x69 _) hB.size
                          have hNeB : (Value.slice (some ⟨x69.heap.size, 0, none⟩) 0 0).ownBlock ≠ some gBx69 := fun e => by have h1 := hXB.lt; simp only [Value.ownBlock, Option.some.injEq] at e; omega
                          replace hXB := Bx.alloc hXB (Obj.cells #[] 48)
                          have hNeC : (Value.slice (some ⟨x69.heap.size, 0, none⟩) 0 0).ownBlock ≠ some gCx59 := fun e => by have h1 := hXC.lt; simp only [Value.ownBlock, Option.some.injEq] at e; omega
                          replace hXC := Bx.alloc hXC (Obj.cells #[] 48)
                          replace hB := hB.alloc hB.size (Obj.cells #[] 48)
                          generalize x69.alloc (Obj.cells #[] 48) = x70 at *
                          generalize x69.heap.size = gAx70 at *
                          refine wpAnyH_ready (rs := [7]) (by kernel_rfl) (by simp) ?_
                          refine AllReadyH.cons rfl (fun K hK => ?step116) ?more116
                          case step116 =>
                            refine step_append_at (by rfl) (.tmp 42) (.tmp 46) 22 (by rfl) W.heap.size 48 i0 (.agg #[.int .i64 0, .int .i64 0]) 2 16 Try.underlying22 HI0.out HZ0.out.1 HZ0.out.2.1 HZ0.out.2.2 rfl (by decide) _ _ _ (by rfl) hOw (⟨b0, o0, none⟩) (k) (cp) (flat LIntA2.rec (z.take k)) (by rfl) (by rw [flat_len, LIntA2.rec_n, List.length_take]; have := HN.out; omega) (fun j u hu => HS1.out _ hB j u hu) (flat_one _ _) (by unfold maxLen; omega) (by omega) hB.size ?_
                            intro vx71 x71 hown2 hgrow hat
                            have hB2 := Below.grown hB hgrow hB.size (fun j hj => (hOw.lt j hj).1)
                            refine hK.out _ _ (HK.out _ hB2) (fun hHeld => ?_)
                            clear hK K
                            have hX2 := Bx.grownBy hXB hgrow hNeB
                            have hNe2 := ne_next hNeB hXB.lt hat
                            clear hXB hNeB
                            have hXB := hX2
                            have hNeB := hNe2
                            clear hX2 hNe2
                            have hX2 := Bx.grownBy hXC hgrow hNeC
                            have hNe2 := ne_next hNeC hXC.lt hat
                            clear hXC hNeC
                            have hXC := hX2
                            have hNeC := hNe2
                            clear hX2 hNe2
                            clear hOw hB hgrow hat
                            have hOw := hown2
                            have hB := hB2
                            clear hown2 hB2
                            refine wpAnyH_ready (rs := [10]) (by kernel_rfl) (by simp) ?_
                            refine AllReadyH.cons rfl (fun K hK => ?step117) ?more117
                            case step117 =>
                              refine step_append_at (by rfl) (.tmp 47) (.tmp 49) 22 (by rfl) W.heap.size 48 i0 (.agg #[.int .i64 0, .int .i64 0]) 2 16 Try.underlying22 HI0.out HZ0.out.1 HZ0.out.2.1 HZ0.out.2.2 rfl (by decide) _ _ _ (by rfl) hOw (⟨gBx69, 0, none⟩) (1) (1) [.int .i64 a, .int .i64 b] (by rfl) (by rfl) (World.news_of_block hXB) (by intro u hu; simp only [List.mem_cons, List.not_mem_nil, or_false] at hu; rcases hu with rfl | rfl <;> rfl) (by unfold maxLen; omega) (by omega) hB.size ?_
                              intro vx72 x72 hown2 hgrow hat
                              have hB2 := Below.grown hB hgrow hB.size (fun j hj => (hOw.lt j hj).1)
                              refine hK.out _ _ (HK.out _ hB2) (fun hHeld => ?_)
                              clear hK K
                              have hX2 := Bx.grownBy hXB hgrow hNeB
                              have hNe2 := ne_next hNeB hXB.lt hat
                              clear hXB hNeB
                              have hXB := hX2
                              have hNeB := hNe2
                              clear hX2 hNe2
                              have hX2 := Bx.grownBy hXC hgrow hNeC
                              have hNe2 := ne_next hNeC hXC.lt hat
                              clear hXC hNeC
                              have hXC := hX2
                              have hNeC := hNe2
                              clear hX2 hNe2
                              clear hOw hB hgrow hat
                              have hOw := hown2
                              have hB := hB2
                              clear hown2 hB2
                              clear hXB hNeB
                              refine wpAnyH_ready (rs := [15]) (by kernel_rfl) (by simp) ?_
                              refine AllReadyH.cons rfl (fun K hK => ?step118) ?more118
                              case step118 =>
                                refine step_append_at (by rfl) (.tmp 50) (.tmp 54) 22 (by rfl) W.heap.size 48 i0 (.agg #[.int .i64 0, .int .i64 0]) 2 16 Try.underlying22 HI0.out HZ0.out.1 HZ0.out.2.1 HZ0.out.2.2 rfl (by decide) _ _ _ (by rfl) hOw (⟨b0, oD, none⟩) (n - k) (cp - k) (flat LIntA2.rec (z.drop k)) (by rfl) (by rw [flat_len, LIntA2.rec_n, List.length_drop]; have := HN.out; omega) (fun j u hu => HS2.out _ hB j u hu) (flat_one _ _) (by unfold maxLen; omega) (by omega) hB.size ?_
                                intro vx73 x73 hown2 hgrow hat
                                have hB2 := Below.grown hB hgrow hB.size (fun j hj => (hOw.lt j hj).1)
                                refine hK.out _ _ (HK.out _ hB2) (fun hHeld => ?_)
                                clear hK K
                                have hX2 := Bx.grownBy hXC hgrow hNeC
                                have hNe2 := ne_next hNeC hXC.lt hat
                                clear hXC hNeC
                                have hXC := hX2
                                have hNeC := hNe2
                                clear hX2 hNe2
                                clear hOw hB hgrow hat
                                have hOw := hown2
                                have hB := hB2
                                clear hown2 hB2
                                simp only [Nat.zero_add] at hOw
                                obtain ⟨av, cv, rfl⟩ := row_slice hOw
                                refine wpAnyH_take (i := 16) (v := ?v119) rfl (by kernel_rfl) (by kernel_rfl) (by kernel_rfl) (fun _ _ _ h => h) (Or.inl ⟨by rfl, ?hy119⟩) (by assumption) ?rest119
                                case hy119 => (intro wq hSw; (try dsimp only at hSw); go_split_ands; go_simp; (try with_reducible rfl))
                                case rest119 =>
                                refine wpAnyH_ready (rs := [18]) (by kernel_rfl) (by simp) ?_
                                refine AllReadyH.cons rfl (fun K hK => ?step120) ?more120
                                case step120 =>
                                  have c0 := hXC.cell 0
                                  have c1 := hXC.cell 1
                                  have f0 := hXC.frozen 0
                                  have f1 := hXC.frozen 1
                                  simp only [List.getElem?_toArray, List.getElem?_cons_zero, List.getElem?_cons_succ] at c0 c1
                                  have hB3 := (hB.setCell (p := ⟨gCx59, 0, none⟩) hCW (.int .i64 Kd)).setCell (p := ⟨gCx59, 1, none⟩) hCW (.slice av (k + 1 + (n - k)) cv)
                                  have hC3 := Lib.hid (show Bx _ _ 29 #[.int .i64 Kd, .slice av (k + 1 + (n - k)) cv] from Bx.set_ (Bx.set_ hXC 0 (.int .i64 Kd)) 1 (.slice av (k + 1 + (n - k)) cv))
                                  have hO3 := Lib.hid (own_ins HN.out HPos.out hk (own_rows2 hOw hNeC (.int .i64 Kd) (.slice av (k + 1 + (n - k)) cv)))
                                  go_simp
                                  refine hK.out _ _ (HK.out _ hB3) (fun hHeld => ?_)
                                  clear hK K
                                  refine wpAnyH_done (by kernel_rfl) ?_ _
                                  go_wp2_with fail
                                  all_goals
                                    go_meet
                                    exact ⟨gCx59, av, cv, rfl, hC3, hO3, hB3⟩
                                case more120 => exact AllReadyH.nil
                              case more118 => exact AllReadyH.nil
                            case more117 => exact AllReadyH.nil
                          case more116 => exact AllReadyH.nil
                        case more115 => exact AllReadyH.nil
                      case more114 => exact AllReadyH.nil
                  case more100 => exact AllReadyH.nil
            case rest =>
              obtain ⟨g, av, cv, rfl, HC6, HL, hbW⟩ := hcut
              have hb3 := hb2.trans (hbW.mono hb2.size)
              have HBR3 := Lib.hid (HBR2.out.kept hbW)
              have HOI := Lib.hid (show Own LIntA2.rec 48 wc W.heap.size (.slice av (k + 1 + (n - k)) cv) (insL z ⟨a, b⟩) from HL.out)
              have hRW : RB < W.heap.size := HBR2.out.lt
              have HIL := Lib.hid (show LPrecedence.Is wc (.agg #[.int .i64 Kd, .slice av (k + 1 + (n - k)) cv]) ⟨Kd, insL z ⟨a, b⟩⟩ from ⟨_, rfl, HOI.out.is⟩)
              clear HS1 HS2 HK hoD hbW HBP2 HBR2 HBG2 hPl hGl HIW HL s1 s2 s3 s4
              generalize wc = w5 at *
              have c0 := HC6.out.cell 0
              have c1 := HC6.out.cell 1
              simp only [List.getElem?_toArray, List.getElem?_cons_zero, List.getElem?_cons_succ] at c0 c1
              go_wp2_with fail
              refine (PrecG.l4Good _ ⟨Kd, insL z ⟨a, b⟩⟩ _ HIL.out).mono ?_
              rintro e w6 ⟨rfl, hb6⟩
              have hb7 := hb3.trans (hb6.mono hb3.size)
              have HBR4 := Lib.hid (HBR3.out.kept hb6)
              have HC7 := Lib.hid (HC6.out.kept hb6)
              have HOI6 := Lib.hid (HOI.out.kept hb6)
              have HIL6 := Lib.hid (HIL.out.below hb6)
              clear hb6 hb3 HBR3 HC6 HOI HIL c0 c1
              simp only
              cases hg2 : goodB Kd (insL z ⟨a, b⟩) with
              | false =>
                have HA := Lib.hid (ad_bad (r := ⟨Kd, z⟩) (a := a) (b := b) (by unfold okA; simp only; rw [hg2, Bool.false_and, Bool.and_false]))
                clear hg2
                have r0 := HBR4.out.cell 0
                have r1 := HBR4.out.cell 1
                have f0 := HBR4.out.frozen 0
                have f1 := HBR4.out.frozen 1
                simp only [List.getElem?_toArray, List.getElem?_cons_zero, List.getElem?_cons_succ] at r0 r1
                have HRS := Lib.hid (show Bx _ _ 29 #[.int .i64 0, .slice none 0 0] from Bx.set_ (Bx.set_ HBR4.out 0 (.int .i64 0)) 1 (.slice none 0 0))
                have hbs := (hb7.setCell (p := ⟨RB, 0, none⟩) hRB (.int .i64 0)).setCell (p := ⟨RB, 1, none⟩) hRB (.slice none 0 0)
                go_wp2_with fail
                clear r0 r1 f0 f1
                generalize ((w6.setCell ⟨RB, 0, none⟩ (.int .i64 0)).setCell ⟨RB, 1, none⟩ (.slice none 0 0)) = wz at *
                have r0 := HRS.out.cell 0
                have r1 := HRS.out.cell 1
                simp only [List.getElem?_toArray, List.getElem?_cons_zero, List.getElem?_cons_succ] at r0 r1
                (try simp only [Exit.inBlock, Exit.then])
                refine bodyPost_ret (v := .tuple #[.agg #[.int .i64 0, .slice none 0 0], .bool false]) (by rw [results_cell_tmp rfl]; go_simp) rfl ?_
                exact ⟨_, ⟨0, []⟩, false, rfl, HA.out, LPrecedence.Own.zero, hbs⟩
              | true =>
                obtain ⟨kk, rfl, hk1, hk8, _, hin, hin8⟩ := good_nat hg2
                have HG2 := Lib.hid hg2
                have HIn := Lib.hid hin
                clear hg2 hin hin8
                have c0 := HC7.out.cell 0
                have c1 := HC7.out.cell 1
                simp only [List.getElem?_toArray, List.getElem?_cons_zero, List.getElem?_cons_succ] at c0 c1
                go_wp2_with fail
                refine (PrecR.l4Sound _ ⟨(kk : Int), insL z ⟨a, b⟩⟩ kk _ HIL6.out rfl HIn.out hk8).mono ?_
                rintro e w8 ⟨rfl, hb8⟩
                have hb9 := hb7.trans (hb8.mono hb7.size)
                have HBR5 := Lib.hid (HBR4.out.kept hb8)
                have HC8 := Lib.hid (HC7.out.kept hb8)
                have HOI := Lib.hid (HOI6.out.kept hb8)
                clear hb8 hb7 HBR4 HC7 HOI6 HIL6 c0 c1
                simp only
                cases hs : soundB (kk : Int) (insL z ⟨a, b⟩) with
                | false =>
                  have HA := Lib.hid (ad_bad (r := ⟨(kk : Int), z⟩) (a := a) (b := b) (by unfold okA; simp only; rw [hs, Bool.and_false, Bool.and_false]))
                  clear hs
                  have r0 := HBR5.out.cell 0
                  have r1 := HBR5.out.cell 1
                  have f0 := HBR5.out.frozen 0
                  have f1 := HBR5.out.frozen 1
                  simp only [List.getElem?_toArray, List.getElem?_cons_zero, List.getElem?_cons_succ] at r0 r1
                  have HRS := Lib.hid (show Bx _ _ 29 #[.int .i64 0, .slice none 0 0] from Bx.set_ (Bx.set_ HBR5.out 0 (.int .i64 0)) 1 (.slice none 0 0))
                  have hbs := (hb9.setCell (p := ⟨RB, 0, none⟩) hRB (.int .i64 0)).setCell (p := ⟨RB, 1, none⟩) hRB (.slice none 0 0)
                  go_wp2_with fail
                  clear r0 r1 f0 f1
                  generalize ((w8.setCell ⟨RB, 0, none⟩ (.int .i64 0)).setCell ⟨RB, 1, none⟩ (.slice none 0 0)) = wz at *
                  have r0 := HRS.out.cell 0
                  have r1 := HRS.out.cell 1
                  simp only [List.getElem?_toArray, List.getElem?_cons_zero, List.getElem?_cons_succ] at r0 r1
                  (try simp only [Exit.inBlock, Exit.then])
                  refine bodyPost_ret (v := .tuple #[.agg #[.int .i64 0, .slice none 0 0], .bool false]) (by rw [results_cell_tmp rfl]; go_simp) rfl ?_
                  exact ⟨_, ⟨0, []⟩, false, rfl, HA.out, LPrecedence.Own.zero, hbs⟩
                | true =>
                  have HA := Lib.hid (ad_good (r := ⟨(kk : Int), z⟩) (a := a) (b := b) (by unfold okA; simp only; rw [HG.out, HG2.out, hs]; rfl))
                  clear hs
                  have c0 := HC8.out.cell 0
                  have c1 := HC8.out.cell 1
                  simp only [List.getElem?_toArray, List.getElem?_cons_zero, List.getElem?_cons_succ] at c0 c1
                  have r0 := HBR5.out.cell 0
                  have r1 := HBR5.out.cell 1
                  have f0 := HBR5.out.frozen 0
                  have f1 := HBR5.out.frozen 1
                  simp only [List.getElem?_toArray, List.getElem?_cons_zero, List.getElem?_cons_succ] at r0 r1
                  have HRS := Lib.hid (show Bx _ _ 29 #[.int .i64 kk, .slice av (k + 1 + (n - k)) cv] from Bx.set_ (Bx.set_ HBR5.out 0 (.int .i64 kk)) 1 (.slice av (k + 1 + (n - k)) cv))
                  have hbs := (hb9.setCell (p := ⟨RB, 0, none⟩) hRB (.int .i64 kk)).setCell (p := ⟨RB, 1, none⟩) hRB (.slice av (k + 1 + (n - k)) cv)
                  have hOx := Lib.hid (own_set (own_set HOI.out (p := ⟨RB, 0, none⟩) (fun q hq => by have := (HOI.out.lt q hq).1; show q ≠ RB; omega) (.int .i64 kk)) (p := ⟨RB, 1, none⟩) (fun q hq => by have := (HOI.out.lt q hq).1; show q ≠ RB; omega) (.slice av (k + 1 + (n - k)) cv))
                  go_wp2_with fail
                  clear r0 r1 f0 f1
                  generalize ((w8.setCell ⟨RB, 0, none⟩ (.int .i64 kk)).setCell ⟨RB, 1, none⟩ (.slice av (k + 1 + (n - k)) cv)) = wz at *
                  have r0 := HRS.out.cell 0
                  have r1 := HRS.out.cell 1
                  simp only [List.getElem?_toArray, List.getElem?_cons_zero, List.getElem?_cons_succ] at r0 r1
                  (try simp only [Exit.inBlock, Exit.then])
                  refine bodyPost_ret (v := .tuple #[.agg #[.int .i64 kk, .slice av (k + 1 + (n - k)) cv], .bool true]) (by rw [results_cell_tmp rfl]; go_simp) rfl ?_
                  exact ⟨_, ⟨(kk : Int), insL z ⟨a, b⟩⟩, true, rfl, HA.out, ⟨_, rfl, hOx.out.low (by have := hb2.size; omega)⟩, hbs⟩
theorem spec (v0 : Value) (z0 : LPrecedence.R) (a1 a2 : Int) (w : World) (h0 : LPrecedence.IsS w v0 z0) (f0 : LPrecedence.Fine z0) (l0 : z0.over.length ≤ 1048576) :
    Calls Try.prog 14 #[v0, .int .i64 a1, .int .i64 a2] w (Post z0 a1 a2 w) := addS v0 z0 a1 a2 w h0
end Go.Proofs.Ythhlhcojjeglkab.PrecA
