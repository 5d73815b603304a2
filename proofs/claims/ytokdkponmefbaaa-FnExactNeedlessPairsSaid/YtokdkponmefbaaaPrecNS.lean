/- NeedlessPairs, the model. No condition. -/
import Derived.Test.YtokdkponmefbaaaPrecN
import Derived.Test.YtokdkponmefbaaaHeldA
import Derived.Test.YtokdkponmefbaaaLIntA2K
import Derived.Deep.DeepCutAuto
import Derived.Deep.RegionHeld3
namespace Go.Proofs.Ytokdkponmefbaaa.PrecN
open Go.RowKit Bs Word PrecM PrecB PrecG PrecR PrecS IntF
set_option linter.unusedVariables false
theorem own_rows {w : World} {A E n cnt g : Nat} {v : Value} {cs : List Value} (h : w.ownsRow A E n v cnt cs) (hne : v.ownBlock ≠ some g) (u1 u2 : Value) : ((w.setCell ⟨g, 0, none⟩ u1).setCell ⟨g, 1, none⟩ u2).ownsRow A E n v cnt cs := by
  refine ⟨h.1, ?_⟩
  rcases h.2 with hn | ⟨q, cap, cur, rfl, hbg, hgg, rest⟩
  · exact .inl hn
  · refine .inr ⟨q, cap, cur, rfl, hbg, ?_, rest⟩
    have hq : q ≠ g := fun e => hne (by rw [e]; rfl)
    rw [Below.heap_setCell _ _ _ _ hq, Below.heap_setCell _ _ _ _ hq]
    exact hgg
theorem own_less {w : World} {A j n : Nat} {v : Value} {z : List M} (hn : z.length = n) (hj : j < n) (h : w.ownsRow A 37 2 v (j + (n - (j + 1))) ([] ++ flat LIntA2.rec (z.take j) ++ flat LIntA2.rec (z.drop (j + 1)))) : Own LIntA2.rec 37 w A v (less z j) :=
  own_of LIntA2.rec h (by unfold less; simp; omega) (by unfold less; rw [flat_append]; rfl)
set_option maxRecDepth 100000 in
set_option maxHeartbeats 6400000 in
theorem needS (v : Value) (r : LPrecedence.R) (w : World) (h0 : LPrecedence.IsS w v r) :
    Calls Try.prog 31 #[v] w (Post r w) := by
  have hIs0 := h0.is
  obtain ⟨K, z⟩ := r
  obtain ⟨s, rfl, hS⟩ := h0
  have hS0 := hS
  obtain ⟨b, o, cp, rfl, hbl, hxc, hcm, hcell⟩ := hS
  simp only at hS0 hcell hxc hIs0 ⊢
  have HIS := Lib.hid hS0
  have HC := Lib.hid hcell
  have hIs := Lib.hid hIs0
  obtain ⟨n, hn⟩ : ∃ n, n = z.length := ⟨_, rfl⟩
  have HN := Lib.hid hn.symm
  have HLn := Lib.hid (show (z.length : Nat) = n from hn.symm)
  rw [← hn] at HIS hIs hxc ⊢
  unfold maxLen at hcm
  clear hn hS0 hcell hIs0
  obtain ⟨i0, hi, hz0, hz1, hz2⟩ := info_parts LIntA2.infoK
  have HI0 := Lib.hid hi
  have HZ0 := Lib.hid (And.intro hz0 (And.intro hz1 hz2))
  clear hi hz0 hz1 hz2
  have hb0 := (Below.refl w.heap.size w).alloc (Nat.le_refl _) (.cells #[.int .i64 K, .slice (some ⟨b, o, none⟩) n cp] 26)
  have HB0 := Lib.hid (Bx.new w 26 #[.int .i64 K, .slice (some ⟨b, o, none⟩) n cp])
  have hbe := hb0.alloc hb0.size (Obj.cells #[] 37)
  have HBE := Lib.hid (HB0.out.alloc (Obj.cells #[] 37))
  have HIE := Lib.hid (hIs.out.below hbe)
  have HO0 := Lib.hid (show Own LIntA2.rec 37 ((w.alloc (.cells #[.int .i64 K, .slice (some ⟨b, o, none⟩) n cp] 26)).alloc (Obj.cells #[] 37)) (w.heap.size + 1) (.slice (some ⟨w.heap.size + 1, 0, none⟩) 0 0) [] by
    have h := Own.start (T := LIntA2.rec) (E := 37) (A := w.heap.size + 1) (w := w.alloc (.cells #[.int .i64 K, .slice (some ⟨b, o, none⟩) n cp] 26)) (by simp)
    rw [show (w.alloc (.cells #[.int .i64 K, .slice (some ⟨b, o, none⟩) n cp] 26)).heap.size = w.heap.size + 1 from by simp] at h
    exact h)
  have p0 := HBE.out.cell 0
  have p1 := HBE.out.cell 1
  simp only [List.getElem?_toArray, List.getElem?_cons_zero, List.getElem?_cons_succ] at p0 p1
  go_enter Try.func31, Try.ntmps31
  go_wp2_with fail
  refine (PrecG.l4Good _ ⟨K, z⟩ _ HIE.out).mono ?_
  rintro e w1 ⟨rfl, hb1⟩
  have hbx := hbe.trans (hb1.mono hbe.size)
  have HB1 := Lib.hid (HBE.out.kept hb1)
  have HI1 := Lib.hid (HIE.out.below hb1)
  have HO1 := Lib.hid (HO0.out.kept hb1)
  clear hb1 hb0 HB0 p0 p1 HBE HIE HO0 hbe hIs
  simp only
  cases hg : goodB K z with
  | false =>
    have HA := Lib.hid (n_bad (r := ⟨K, z⟩) (by rw [hg]; rfl))
    clear hg
    go_wp2_with fail
    go_ret2
    exact ⟨_, [], false, rfl, HA.out, HO1.out.low (by omega), hbx⟩
  | true =>
    obtain ⟨k, rfl, hk1, hk8, hzl, hin, hin8⟩ := good_nat hg
    have HG := Lib.hid hg
    have HIn := Lib.hid hin
    rw [HLn.out] at hzl
    clear hg hin hin8
    have p0 := HB1.out.cell 0
    have p1 := HB1.out.cell 1
    simp only [List.getElem?_toArray, List.getElem?_cons_zero, List.getElem?_cons_succ] at p0 p1
    go_wp2_with fail
    refine (PrecR.l4Sound _ ⟨(k : Int), z⟩ k _ HI1.out rfl HIn.out hk8).mono ?_
    rintro e w2 ⟨rfl, hb2⟩
    have hby := hbx.trans (hb2.mono hbx.size)
    have HB2 := Lib.hid (HB1.out.kept hb2)
    have HO2 := Lib.hid (HO1.out.kept hb2)
    clear hb2 hbx HB1 HO1 p0 p1 HI1
    simp only
    cases hs : soundB (k : Int) z with
    | false =>
      have HA := Lib.hid (n_bad (r := ⟨(k : Int), z⟩) (by simp only; rw [hs, Bool.and_false]))
      clear hs
      go_wp2_with fail
      go_ret2
      exact ⟨_, [], false, rfl, HA.out, HO2.out.low (by omega), hby⟩
    | true =>
      have HA := Lib.hid (n_good (r := ⟨(k : Int), z⟩) (by simp only; rw [HG.out, hs]; rfl))
      clear hs
      go_wp2_with fail
      go_loopw [4, 5] (fun so si wr => ∃ (j : Nat) (o2 : Value), o2 = so ∧ j ≤ n ∧ si = .int .i64 j ∧ Hid (Own LIntA2.rec 37 wr (w.heap.size + 1) o2 (ndl z j)) ∧ Below w.heap.size w wr ∧ Hid (Bx wr w.heap.size 26 #[.int .i64 k, .slice (some ⟨b, o, none⟩) n cp])) (fun _ si _ => n - (intOf si).toNat)
      case atStart => exact ⟨0, _, rfl, Nat.zero_le _, rfl, HO2, hby, HB2⟩
      case round =>
        clear hby HO2 HB2
        obtain ⟨j, o2, rfl, hj, rfl, HO, hb, HBx⟩ := hrel
        have p0 := HBx.out.cell 0
        have p1 := HBx.out.cell 1
        simp only [List.getElem?_toArray, List.getElem?_cons_zero, List.getElem?_cons_succ] at p0 p1
        by_cases hjn : j < n
        · have s1 : (j : Int) ≤ (n : Int) := by omega
          have s2 : (n : Int) ≤ (cp : Int) := by omega
          have s3 : (j : Int) ≤ (cp : Int) := by omega
          have s4 : IntKind.i64.wrap ((j : Int) + 1) = (j : Int) + 1 := IntWalk.i64_in _ (by omega)
          have s5 : (j : Int) + 1 ≤ (n : Int) := by omega
          have s6 : (j : Int) + 1 ≤ (cp : Int) := by omega
          have s7 : ((j : Int) + 1).toNat = j + 1 := by omega
          have s8 : (0 : Int) ≤ (j : Int) + 1 := by omega
          have HIW := Lib.hid (HIS.out.below LIntA2.rec hb)
          have hPl : w.heap.size < wr.heap.size := HBx.out.lt
          go_upto_region 7 with fail
          generalize hWe : wr = W at *
          clear hWe
          obtain ⟨P0, hP0⟩ : ∃ P, P = w.heap.size := ⟨_, rfl⟩
          have HS1 := Lib.hid (show ∀ w' : World, Below W.heap.size W w' → ∀ j' u, (flat LIntA2.rec (z.take j))[j']? = some u → w'.cell? (Addr.add ⟨b, o, none⟩ j') = some u from fun w' hb =>
            ((HIW.out.below LIntA2.rec hb).take LIntA2.rec (k := j) (by omega)).flatCells LIntA2.rec)
          obtain ⟨oD, hoD⟩ : ∃ oD, (if cp = j + 1 then some (⟨b, o, none⟩ : Addr) else some ⟨b, o + (j + 1) * 2, none⟩) = some ⟨b, oD, none⟩ := by
            by_cases h : cp = j + 1
            · exact ⟨_, if_pos h⟩
            · exact ⟨_, if_neg h⟩
          have HS2 := Lib.hid (show ∀ w' : World, Below W.heap.size W w' → ∀ j' u, (flat LIntA2.rec (z.drop (j + 1)))[j']? = some u → w'.cell? (Addr.add ⟨b, oD, none⟩ j') = some u from fun w' hb =>
            ((HIW.out.below LIntA2.rec hb).drop LIntA2.rec (k := j + 1) (some ⟨b, oD, none⟩) hoD.symm (by omega) _ _ rfl rfl).flatCells LIntA2.rec)
          have HK := Lib.hid (show ∀ w' : World, Below W.heap.size W w' → Below W.heap.size W w' ∧ w'.cell? ⟨w.heap.size, 0, none⟩ = some (.int .i64 (k : Int)) ∧ w'.cell? ⟨w.heap.size, 1, none⟩ = some (.slice (some ⟨b, o, none⟩) n cp) from fun w' hb => ⟨hb, by rw [hb.cell (by assumption)]; exact p0, by rw [hb.cell (by assumption)]; exact p1⟩)
          go_cut [6] (fun t wx => ∃ (g : Nat) (av : Option Addr) (cv : Nat), t = .pointer (some ⟨g, 0, none⟩) ∧ Hid (Bx wx g 26 #[.int .i64 (k : Int), .slice av (j + (n - (j + 1))) cv]) ∧ Hid (Own LIntA2.rec 37 wx W.heap.size (.slice av (j + (n - (j + 1))) cv) (less z j)) ∧ Below W.heap.size W wx)
          case first =>
            have hB : Below W.heap.size W W.drew := (Below.refl _ _).drew
            refine wp_region_held_drew (S := fun w' => Below W.heap.size W w' ∧ w'.cell? ⟨w.heap.size, 0, none⟩ = some (.int .i64 (k : Int)) ∧ w'.cell? ⟨w.heap.size, 1, none⟩ = some (.slice (some ⟨b, o, none⟩) n cp)) (by kernel_rfl) (HK.out _ hB) (fun hHeld => ?_)
            generalize W.drew = x0 at *
            refine wpAnyH_take (i := 0) (v := ?v1) rfl (by kernel_rfl) (by kernel_rfl) (by kernel_rfl) (fun _ _ _ h => h) (Or.inl ⟨by rfl, ?hy1⟩) (by assumption) ?rest1
            case hy1 => (intro wq hSw; (try dsimp only at hSw); go_split_ands; go_simp; (try with_reducible rfl))
            case rest1 =>
            refine wpAnyH_take (i := 1) (v := ?v2) rfl (by kernel_rfl) (by kernel_rfl) (by kernel_rfl) (fun _ _ _ h => h) (Or.inl ⟨by rfl, ?hy2⟩) (by assumption) ?rest2
            case hy2 => (intro wq hSw; (try dsimp only at hSw); go_split_ands; go_simp; (try with_reducible rfl))
            case rest2 =>
            refine wpAnyH_take (i := 3) (v := ?v3) rfl (by kernel_rfl) (by kernel_rfl) (by kernel_rfl) (fun _ _ _ h => h) (Or.inl ⟨by rfl, ?hy3⟩) (by assumption) ?rest3
            case hy3 => (intro wq hSw; (try dsimp only at hSw); go_split_ands; go_simp; (try with_reducible rfl))
            case rest3 =>
            refine wpAnyH_take (i := 4) (v := ?v4) rfl (by kernel_rfl) (by kernel_rfl) (by kernel_rfl) (fun _ _ _ h => h) (Or.inl ⟨by rfl, ?hy4⟩) (by assumption) ?rest4
            case hy4 => (intro wq hSw; (try dsimp only at hSw); go_split_ands; go_simp; (try with_reducible rfl))
            case rest4 =>
            refine wpAnyH_take (i := 5) (v := ?v5) rfl (by kernel_rfl) (by kernel_rfl) (by kernel_rfl) (fun _ _ _ h => h) (Or.inl ⟨by rfl, ?hy5⟩) (by assumption) ?rest5
            case hy5 => (intro wq hSw; (try dsimp only at hSw); go_split_ands; go_simp; (try with_reducible rfl))
            case rest5 =>
            refine wpAnyH_take (i := 6) (v := ?v6) rfl (by kernel_rfl) (by kernel_rfl) (by kernel_rfl) (fun _ _ _ h => h) (Or.inl ⟨by rfl, ?hy6⟩) (by assumption) ?rest6
            case hy6 => (intro wq hSw; (try dsimp only at hSw); go_split_ands; go_simp; (try with_reducible rfl))
            case rest6 =>
            refine wpAnyH_take (i := 8) (v := ?v7) rfl (by kernel_rfl) (by kernel_rfl) (by kernel_rfl) (fun _ _ _ h => h) (Or.inl ⟨by rfl, ?hy7⟩) (by assumption) ?rest7
            case hy7 => (intro wq hSw; (try dsimp only at hSw); go_split_ands; go_simp; (try with_reducible rfl))
            case rest7 =>
            refine wpAnyH_take (i := 9) (v := ?v8) rfl (by kernel_rfl) (by kernel_rfl) (by kernel_rfl) (fun _ _ _ h => h) (Or.inl ⟨by rfl, ?hy8⟩) (by assumption) ?rest8
            case hy8 => (intro wq hSw; (try dsimp only at hSw); go_split_ands; go_simp; (try with_reducible rfl))
            case rest8 =>
            refine wpAnyH_take (i := 10) (v := ?v9) rfl (by kernel_rfl) (by kernel_rfl) (by kernel_rfl) (fun _ _ _ h => h) (Or.inl ⟨by rfl, ?hy9⟩) (by assumption) ?rest9
            case hy9 => (intro wq hSw; (try dsimp only at hSw); go_split_ands; go_simp; (try with_reducible rfl))
            case rest9 =>
            refine wpAnyH_take (i := 11) (v := ?v10) rfl (by kernel_rfl) (by kernel_rfl) (by kernel_rfl) (fun _ _ _ h => h) (Or.inl ⟨by rfl, ?hy10⟩) (by assumption) ?rest10
            case hy10 => (intro wq hSw; (try dsimp only at hSw); go_split_ands; go_simp; (try with_reducible rfl))
            case rest10 =>
            refine wpAnyH_take (i := 12) (v := ?v11) rfl (by kernel_rfl) (by kernel_rfl) (by kernel_rfl) (fun _ _ _ h => h) (Or.inl ⟨by rfl, ?hy11⟩) (by assumption) ?rest11
            case hy11 => (intro wq hSw; (try dsimp only at hSw); go_split_ands; go_simp; (try with_reducible rfl))
            case rest11 =>
            refine wpAnyH_ready (rs := [2, 15]) (by kernel_rfl) (by simp) ?_
            refine AllReadyH.cons rfl (fun K hK => ?step12) ?more12
            case step12 =>
              go_simp
              refine hK.out _ _ (HK.out _ (hB.alloc hB.size _)) (fun hHeld => ?_)
              clear hK K
              have hOw : (x0.alloc (Obj.cells #[] 37)).ownsRow W.heap.size 37 2 (.slice (some ⟨x0.heap.size, 0, none⟩) 0 0) 0 [] := LIntA2.startB (heap_alloc_new x0 _) hB.size
              replace hB := hB.alloc hB.size (Obj.cells #[] 37)
              generalize x0.alloc (Obj.cells #[] 37) = x1 at *
              generalize x0.heap.size = gAx1 at *
              refine wpAnyH_ready (rs := [7, 15]) (by kernel_rfl) (by simp) ?_
              refine AllReadyH.cons rfl (fun K hK => ?step13) ?more13
              case step13 =>
                refine step_append_at (by rfl) (.tmp 26) (.tmp 30) 24 (by rfl) W.heap.size 37 i0 (.agg #[.int .i64 0, .int .i64 0]) 2 16 Try.underlying24 HI0.out HZ0.out.1 HZ0.out.2.1 HZ0.out.2.2 rfl (by decide) _ _ _ (by rfl) hOw (⟨b, o, none⟩) (j) (cp) (flat LIntA2.rec (z.take j)) (by rfl) (by rw [flat_len, LIntA2.rec_n, List.length_take]; have := HN.out; omega) (fun j u hu => HS1.out _ hB j u hu) (flat_one _ _) (by unfold maxLen; omega) (by omega) hB.size ?_
                intro vx2 x2 hown2 hgrow hat
                have hB2 := Below.grown hB hgrow hB.size (fun j hj => (hOw.lt j hj).1)
                refine hK.out _ _ (HK.out _ hB2) (fun hHeld => ?_)
                clear hK K
                clear hOw hB hgrow hat
                have hOw := hown2
                have hB := hB2
                clear hown2 hB2
                refine wpAnyH_ready (rs := [13, 15]) (by kernel_rfl) (by simp) ?_
                refine AllReadyH.cons rfl (fun K hK => ?step14) ?more14
                case step14 =>
                  refine step_append_at (by rfl) (.tmp 31) (.tmp 36) 24 (by rfl) W.heap.size 37 i0 (.agg #[.int .i64 0, .int .i64 0]) 2 16 Try.underlying24 HI0.out HZ0.out.1 HZ0.out.2.1 HZ0.out.2.2 rfl (by decide) _ _ _ (by rfl) hOw (⟨b, oD, none⟩) (n - (j + 1)) (cp - (j + 1)) (flat LIntA2.rec (z.drop (j + 1))) (by rfl) (by rw [flat_len, LIntA2.rec_n, List.length_drop]; have := HN.out; omega) (fun j u hu => HS2.out _ hB j u hu) (flat_one _ _) (by unfold maxLen; omega) (by omega) hB.size ?_
                  intro vx3 x3 hown2 hgrow hat
                  have hB2 := Below.grown hB hgrow hB.size (fun j hj => (hOw.lt j hj).1)
                  refine hK.out _ _ (HK.out _ hB2) (fun hHeld => ?_)
                  clear hK K
                  clear hOw hB hgrow hat
                  have hOw := hown2
                  have hB := hB2
                  clear hown2 hB2
                  simp only [Nat.zero_add] at hOw
                  obtain ⟨av, cv, rfl⟩ := row_slice hOw
                  refine wpAnyH_take (i := 14) (v := ?v15) rfl (by kernel_rfl) (by kernel_rfl) (by kernel_rfl) (fun _ _ _ h => h) (Or.inl ⟨by rfl, ?hy15⟩) (by assumption) ?rest15
                  case hy15 => (intro wq hSw; (try dsimp only at hSw); go_split_ands; go_simp; (try with_reducible rfl))
                  case rest15 =>
                  refine wpAnyH_ready (rs := [15]) (by kernel_rfl) (by simp) ?_
                  refine AllReadyH.cons rfl (fun K hK => ?step16) ?more16
                  case step16 =>
                    go_simp
                    refine hK.out _ _ (HK.out _ (hB.alloc hB.size _)) (fun hHeld => ?_)
                    clear hK K
                    have hNe : (Value.slice av (_) cv).ownBlock ≠ some x3.heap.size := fun e => by have h1 := (hOw.lt _ e).2; omega
                    replace hOw := hOw.alloc (Obj.cells #[.int .i64 0, .slice none 0 0] 26)
                    have hC := Bx.new x3 26 #[.int .i64 0, .slice none 0 0]
                    have hCW : W.heap.size ≤ x3.heap.size := hB.size
                    replace hB := hB.alloc hB.size (Obj.cells #[.int .i64 0, .slice none 0 0] 26)
                    generalize x3.alloc (Obj.cells #[.int .i64 0, .slice none 0 0] 26) = x4 at *
                    generalize x3.heap.size = gCx4 at *
                    refine wpAnyH_ready (rs := [16]) (by kernel_rfl) (by simp) ?_
                    refine AllReadyH.cons rfl (fun K hK => ?step17) ?more17
                    case step17 =>
                      have c0 := hC.cell 0
                      have c1 := hC.cell 1
                      have f0 := hC.frozen 0
                      have f1 := hC.frozen 1
                      simp only [List.getElem?_toArray, List.getElem?_cons_zero, List.getElem?_cons_succ] at c0 c1
                      have hB3 := (hB.setCell (p := ⟨gCx4, 0, none⟩) hCW (.int .i64 (k : Int))).setCell (p := ⟨gCx4, 1, none⟩) hCW (.slice av (j + (n - (j + 1))) cv)
                      have hC3 := Lib.hid (show Bx _ _ 26 #[.int .i64 (k : Int), .slice av (j + (n - (j + 1))) cv] from Bx.set_ (Bx.set_ hC 0 (.int .i64 (k : Int))) 1 (.slice av (j + (n - (j + 1))) cv))
                      have hO3 := Lib.hid (own_less HN.out hjn (own_rows hOw hNe (.int .i64 (k : Int)) (.slice av (j + (n - (j + 1))) cv)))
                      go_simp
                      refine hK.out _ _ (HK.out _ hB3) (fun hHeld => ?_)
                      clear hK K
                      refine wpAnyH_done (by kernel_rfl) ?_ _
                      go_wp2_with fail
                      all_goals
                        go_meet
                        exact ⟨gCx4, av, cv, rfl, hC3, hO3, hB3⟩
                    case more17 => exact AllReadyH.nil
                  case more16 => exact AllReadyH.nil
                case more14 =>
                  refine AllReadyH.cons rfl (fun K hK => ?step18) ?more18
                  case step18 =>
                    go_simp
                    refine hK.out _ _ (HK.out _ (hB.alloc hB.size _)) (fun hHeld => ?_)
                    clear hK K
                    have hNe : (vx2).ownBlock ≠ some x2.heap.size := fun e => by have h1 := (hOw.lt _ e).2; omega
                    replace hOw := hOw.alloc (Obj.cells #[.int .i64 0, .slice none 0 0] 26)
                    have hC := Bx.new x2 26 #[.int .i64 0, .slice none 0 0]
                    have hCW : W.heap.size ≤ x2.heap.size := hB.size
                    replace hB := hB.alloc hB.size (Obj.cells #[.int .i64 0, .slice none 0 0] 26)
                    generalize x2.alloc (Obj.cells #[.int .i64 0, .slice none 0 0] 26) = x5 at *
                    generalize x2.heap.size = gCx5 at *
                    refine wpAnyH_ready (rs := [13]) (by kernel_rfl) (by simp) ?_
                    refine AllReadyH.cons rfl (fun K hK => ?step19) ?more19
                    case step19 =>
                      refine step_append_at (by rfl) (.tmp 31) (.tmp 36) 24 (by rfl) W.heap.size 37 i0 (.agg #[.int .i64 0, .int .i64 0]) 2 16 Try.underlying24 HI0.out HZ0.out.1 HZ0.out.2.1 HZ0.out.2.2 rfl (by decide) _ _ _ (by rfl) hOw (⟨b, oD, none⟩) (n - (j + 1)) (cp - (j + 1)) (flat LIntA2.rec (z.drop (j + 1))) (by rfl) (by rw [flat_len, LIntA2.rec_n, List.length_drop]; have := HN.out; omega) (fun j u hu => HS2.out _ hB j u hu) (flat_one _ _) (by unfold maxLen; omega) (by omega) hB.size ?_
                      intro vx6 x6 hown2 hgrow hat
                      have hB2 := Below.grown hB hgrow hB.size (fun j hj => (hOw.lt j hj).1)
                      refine hK.out _ _ (HK.out _ hB2) (fun hHeld => ?_)
                      clear hK K
                      have hC2 := Bx.grownBy hC hgrow hNe
                      have hNe2 := ne_next hNe hC.lt hat
                      clear hC hNe
                      have hC := hC2
                      have hNe := hNe2
                      clear hC2 hNe2
                      clear hOw hB hgrow hat
                      have hOw := hown2
                      have hB := hB2
                      clear hown2 hB2
                      simp only [Nat.zero_add] at hOw
                      obtain ⟨av, cv, rfl⟩ := row_slice hOw
                      refine wpAnyH_take (i := 14) (v := ?v20) rfl (by kernel_rfl) (by kernel_rfl) (by kernel_rfl) (fun _ _ _ h => h) (Or.inl ⟨by rfl, ?hy20⟩) (by assumption) ?rest20
                      case hy20 => (intro wq hSw; (try dsimp only at hSw); go_split_ands; go_simp; (try with_reducible rfl))
                      case rest20 =>
                      refine wpAnyH_ready (rs := [16]) (by kernel_rfl) (by simp) ?_
                      refine AllReadyH.cons rfl (fun K hK => ?step21) ?more21
                      case step21 =>
                        have c0 := hC.cell 0
                        have c1 := hC.cell 1
                        have f0 := hC.frozen 0
                        have f1 := hC.frozen 1
                        simp only [List.getElem?_toArray, List.getElem?_cons_zero, List.getElem?_cons_succ] at c0 c1
                        have hB3 := (hB.setCell (p := ⟨gCx5, 0, none⟩) hCW (.int .i64 (k : Int))).setCell (p := ⟨gCx5, 1, none⟩) hCW (.slice av (j + (n - (j + 1))) cv)
                        have hC3 := Lib.hid (show Bx _ _ 26 #[.int .i64 (k : Int), .slice av (j + (n - (j + 1))) cv] from Bx.set_ (Bx.set_ hC 0 (.int .i64 (k : Int))) 1 (.slice av (j + (n - (j + 1))) cv))
                        have hO3 := Lib.hid (own_less HN.out hjn (own_rows hOw hNe (.int .i64 (k : Int)) (.slice av (j + (n - (j + 1))) cv)))
                        go_simp
                        refine hK.out _ _ (HK.out _ hB3) (fun hHeld => ?_)
                        clear hK K
                        refine wpAnyH_done (by kernel_rfl) ?_ _
                        go_wp2_with fail
                        all_goals
                          go_meet
                          exact ⟨gCx5, av, cv, rfl, hC3, hO3, hB3⟩
                      case more21 => exact AllReadyH.nil
                    case more19 => exact AllReadyH.nil
                  case more18 => exact AllReadyH.nil
              case more13 =>
                refine AllReadyH.cons rfl (fun K hK => ?step22) ?more22
                case step22 =>
                  go_simp
                  refine hK.out _ _ (HK.out _ (hB.alloc hB.size _)) (fun hHeld => ?_)
                  clear hK K
                  have hNe : (Value.slice (some ⟨gAx1, 0, none⟩) 0 0).ownBlock ≠ some x1.heap.size := fun e => by have h1 := (hOw.lt _ e).2; omega
                  replace hOw := hOw.alloc (Obj.cells #[.int .i64 0, .slice none 0 0] 26)
                  have hC := Bx.new x1 26 #[.int .i64 0, .slice none 0 0]
                  have hCW : W.heap.size ≤ x1.heap.size := hB.size
                  replace hB := hB.alloc hB.size (Obj.cells #[.int .i64 0, .slice none 0 0] 26)
                  generalize x1.alloc (Obj.cells #[.int .i64 0, .slice none 0 0] 26) = x7 at *
                  generalize x1.heap.size = gCx7 at *
                  refine wpAnyH_ready (rs := [7]) (by kernel_rfl) (by simp) ?_
                  refine AllReadyH.cons rfl (fun K hK => ?step23) ?more23
                  case step23 =>
                    refine step_append_at (by rfl) (.tmp 26) (.tmp 30) 24 (by rfl) W.heap.size 37 i0 (.agg #[.int .i64 0, .int .i64 0]) 2 16 Try.underlying24 HI0.out HZ0.out.1 HZ0.out.2.1 HZ0.out.2.2 rfl (by decide) _ _ _ (by rfl) hOw (⟨b, o, none⟩) (j) (cp) (flat LIntA2.rec (z.take j)) (by rfl) (by rw [flat_len, LIntA2.rec_n, List.length_take]; have := HN.out; omega) (fun j u hu => HS1.out _ hB j u hu) (flat_one _ _) (by unfold maxLen; omega) (by omega) hB.size ?_
                    intro vx8 x8 hown2 hgrow hat
                    have hB2 := Below.grown hB hgrow hB.size (fun j hj => (hOw.lt j hj).1)
                    refine hK.out _ _ (HK.out _ hB2) (fun hHeld => ?_)
                    clear hK K
                    have hC2 := Bx.grownBy hC hgrow hNe
                    have hNe2 := ne_next hNe hC.lt hat
                    clear hC hNe
                    have hC := hC2
                    have hNe := hNe2
                    clear hC2 hNe2
                    clear hOw hB hgrow hat
                    have hOw := hown2
                    have hB := hB2
                    clear hown2 hB2
                    refine wpAnyH_ready (rs := [13]) (by kernel_rfl) (by simp) ?_
                    refine AllReadyH.cons rfl (fun K hK => ?step24) ?more24
                    case step24 =>
                      refine step_append_at (by rfl) (.tmp 31) (.tmp 36) 24 (by rfl) W.heap.size 37 i0 (.agg #[.int .i64 0, .int .i64 0]) 2 16 Try.underlying24 HI0.out HZ0.out.1 HZ0.out.2.1 HZ0.out.2.2 rfl (by decide) _ _ _ (by rfl) hOw (⟨b, oD, none⟩) (n - (j + 1)) (cp - (j + 1)) (flat LIntA2.rec (z.drop (j + 1))) (by rfl) (by rw [flat_len, LIntA2.rec_n, List.length_drop]; have := HN.out; omega) (fun j u hu => HS2.out _ hB j u hu) (flat_one _ _) (by unfold maxLen; omega) (by omega) hB.size ?_
                      intro vx9 x9 hown2 hgrow hat
                      have hB2 := Below.grown hB hgrow hB.size (fun j hj => (hOw.lt j hj).1)
                      refine hK.out _ _ (HK.out _ hB2) (fun hHeld => ?_)
                      clear hK K
                      have hC2 := Bx.grownBy hC hgrow hNe
                      have hNe2 := ne_next hNe hC.lt hat
                      clear hC hNe
                      have hC := hC2
                      have hNe := hNe2
                      clear hC2 hNe2
                      clear hOw hB hgrow hat
                      have hOw := hown2
                      have hB := hB2
                      clear hown2 hB2
                      simp only [Nat.zero_add] at hOw
                      obtain ⟨av, cv, rfl⟩ := row_slice hOw
                      refine wpAnyH_take (i := 14) (v := ?v25) rfl (by kernel_rfl) (by kernel_rfl) (by kernel_rfl) (fun _ _ _ h => h) (Or.inl ⟨by rfl, ?hy25⟩) (by assumption) ?rest25
                      case hy25 => (intro wq hSw; (try dsimp only at hSw); go_split_ands; go_simp; (try with_reducible rfl))
                      case rest25 =>
                      refine wpAnyH_ready (rs := [16]) (by kernel_rfl) (by simp) ?_
                      refine AllReadyH.cons rfl (fun K hK => ?step26) ?more26
                      case step26 =>
                        have c0 := hC.cell 0
                        have c1 := hC.cell 1
                        have f0 := hC.frozen 0
                        have f1 := hC.frozen 1
                        simp only [List.getElem?_toArray, List.getElem?_cons_zero, List.getElem?_cons_succ] at c0 c1
                        have hB3 := (hB.setCell (p := ⟨gCx7, 0, none⟩) hCW (.int .i64 (k : Int))).setCell (p := ⟨gCx7, 1, none⟩) hCW (.slice av (j + (n - (j + 1))) cv)
                        have hC3 := Lib.hid (show Bx _ _ 26 #[.int .i64 (k : Int), .slice av (j + (n - (j + 1))) cv] from Bx.set_ (Bx.set_ hC 0 (.int .i64 (k : Int))) 1 (.slice av (j + (n - (j + 1))) cv))
                        have hO3 := Lib.hid (own_less HN.out hjn (own_rows hOw hNe (.int .i64 (k : Int)) (.slice av (j + (n - (j + 1))) cv)))
                        go_simp
                        refine hK.out _ _ (HK.out _ hB3) (fun hHeld => ?_)
                        clear hK K
                        refine wpAnyH_done (by kernel_rfl) ?_ _
                        go_wp2_with fail
                        all_goals
                          go_meet
                          exact ⟨gCx7, av, cv, rfl, hC3, hO3, hB3⟩
                      case more26 => exact AllReadyH.nil
                    case more24 => exact AllReadyH.nil
                  case more23 => exact AllReadyH.nil
                case more22 => exact AllReadyH.nil
            case more12 =>
              refine AllReadyH.cons rfl (fun K hK => ?step27) ?more27
              case step27 =>
                go_simp
                refine hK.out _ _ (HK.out _ (hB.alloc hB.size _)) (fun hHeld => ?_)
                clear hK K
                have hC := Bx.new x0 26 #[.int .i64 0, .slice none 0 0]
                have hCW : W.heap.size ≤ x0.heap.size := hB.size
                replace hB := hB.alloc hB.size (Obj.cells #[.int .i64 0, .slice none 0 0] 26)
                generalize x0.alloc (Obj.cells #[.int .i64 0, .slice none 0 0] 26) = x10 at *
                generalize x0.heap.size = gCx10 at *
                refine wpAnyH_ready (rs := [2]) (by kernel_rfl) (by simp) ?_
                refine AllReadyH.cons rfl (fun K hK => ?step28) ?more28
                case step28 =>
                  go_simp
                  refine hK.out _ _ (HK.out _ (hB.alloc hB.size _)) (fun hHeld => ?_)
                  clear hK K
                  have hOw : (x10.alloc (Obj.cells #[] 37)).ownsRow W.heap.size 37 2 (.slice (some ⟨x10.heap.size, 0, none⟩) 0 0) 0 [] := LIntA2.startB (heap_alloc_new x10 _) hB.size
                  have hNe : (Value.slice (some ⟨x10.heap.size, 0, none⟩) 0 0).ownBlock ≠ some gCx10 := fun e => by have h1 := hC.lt; simp only [Value.ownBlock, Option.some.injEq] at e; omega
                  replace hC := Bx.alloc hC (Obj.cells #[] 37)
                  replace hB := hB.alloc hB.size (Obj.cells #[] 37)
                  generalize x10.alloc (Obj.cells #[] 37) = x11 at *
                  generalize x10.heap.size = gAx11 at *
                  refine wpAnyH_ready (rs := [7]) (by kernel_rfl) (by simp) ?_
                  refine AllReadyH.cons rfl (fun K hK => ?step29) ?more29
                  case step29 =>
                    refine step_append_at (by rfl) (.tmp 26) (.tmp 30) 24 (by rfl) W.heap.size 37 i0 (.agg #[.int .i64 0, .int .i64 0]) 2 16 Try.underlying24 HI0.out HZ0.out.1 HZ0.out.2.1 HZ0.out.2.2 rfl (by decide) _ _ _ (by rfl) hOw (⟨b, o, none⟩) (j) (cp) (flat LIntA2.rec (z.take j)) (by rfl) (by rw [flat_len, LIntA2.rec_n, List.length_take]; have := HN.out; omega) (fun j u hu => HS1.out _ hB j u hu) (flat_one _ _) (by unfold maxLen; omega) (by omega) hB.size ?_
                    intro vx12 x12 hown2 hgrow hat
                    have hB2 := Below.grown hB hgrow hB.size (fun j hj => (hOw.lt j hj).1)
                    refine hK.out _ _ (HK.out _ hB2) (fun hHeld => ?_)
                    clear hK K
                    have hC2 := Bx.grownBy hC hgrow hNe
                    have hNe2 := ne_next hNe hC.lt hat
                    clear hC hNe
                    have hC := hC2
                    have hNe := hNe2
                    clear hC2 hNe2
                    clear hOw hB hgrow hat
                    have hOw := hown2
                    have hB := hB2
                    clear hown2 hB2
                    refine wpAnyH_ready (rs := [13]) (by kernel_rfl) (by simp) ?_
                    refine AllReadyH.cons rfl (fun K hK => ?step30) ?more30
                    case step30 =>
                      refine step_append_at (by rfl) (.tmp 31) (.tmp 36) 24 (by rfl) W.heap.size 37 i0 (.agg #[.int .i64 0, .int .i64 0]) 2 16 Try.underlying24 HI0.out HZ0.out.1 HZ0.out.2.1 HZ0.out.2.2 rfl (by decide) _ _ _ (by rfl) hOw (⟨b, oD, none⟩) (n - (j + 1)) (cp - (j + 1)) (flat LIntA2.rec (z.drop (j + 1))) (by rfl) (by rw [flat_len, LIntA2.rec_n, List.length_drop]; have := HN.out; omega) (fun j u hu => HS2.out _ hB j u hu) (flat_one _ _) (by unfold maxLen; omega) (by omega) hB.size ?_
                      intro vx13 x13 hown2 hgrow hat
                      have hB2 := Below.grown hB hgrow hB.size (fun j hj => (hOw.lt j hj).1)
                      refine hK.out _ _ (HK.out _ hB2) (fun hHeld => ?_)
                      clear hK K
                      have hC2 := Bx.grownBy hC hgrow hNe
                      have hNe2 := ne_next hNe hC.lt hat
                      clear hC hNe
                      have hC := hC2
                      have hNe := hNe2
                      clear hC2 hNe2
                      clear hOw hB hgrow hat
                      have hOw := hown2
                      have hB := hB2
                      clear hown2 hB2
                      simp only [Nat.zero_add] at hOw
                      obtain ⟨av, cv, rfl⟩ := row_slice hOw
                      refine wpAnyH_take (i := 14) (v := ?v31) rfl (by kernel_rfl) (by kernel_rfl) (by kernel_rfl) (fun _ _ _ h => h) (Or.inl ⟨by rfl, ?hy31⟩) (by assumption) ?rest31
                      case hy31 => (intro wq hSw; (try dsimp only at hSw); go_split_ands; go_simp; (try with_reducible rfl))
                      case rest31 =>
                      refine wpAnyH_ready (rs := [16]) (by kernel_rfl) (by simp) ?_
                      refine AllReadyH.cons rfl (fun K hK => ?step32) ?more32
                      case step32 =>
                        have c0 := hC.cell 0
                        have c1 := hC.cell 1
                        have f0 := hC.frozen 0
                        have f1 := hC.frozen 1
                        simp only [List.getElem?_toArray, List.getElem?_cons_zero, List.getElem?_cons_succ] at c0 c1
                        have hB3 := (hB.setCell (p := ⟨gCx10, 0, none⟩) hCW (.int .i64 (k : Int))).setCell (p := ⟨gCx10, 1, none⟩) hCW (.slice av (j + (n - (j + 1))) cv)
                        have hC3 := Lib.hid (show Bx _ _ 26 #[.int .i64 (k : Int), .slice av (j + (n - (j + 1))) cv] from Bx.set_ (Bx.set_ hC 0 (.int .i64 (k : Int))) 1 (.slice av (j + (n - (j + 1))) cv))
                        have hO3 := Lib.hid (own_less HN.out hjn (own_rows hOw hNe (.int .i64 (k : Int)) (.slice av (j + (n - (j + 1))) cv)))
                        go_simp
                        refine hK.out _ _ (HK.out _ hB3) (fun hHeld => ?_)
                        clear hK K
                        refine wpAnyH_done (by kernel_rfl) ?_ _
                        go_wp2_with fail
                        all_goals
                          go_meet
                          exact ⟨gCx10, av, cv, rfl, hC3, hO3, hB3⟩
                      case more32 => exact AllReadyH.nil
                    case more30 => exact AllReadyH.nil
                  case more29 => exact AllReadyH.nil
                case more28 => exact AllReadyH.nil
              case more27 => exact AllReadyH.nil
          case rest =>
            obtain ⟨g, av, cv, rfl, HC6, HL, hbW⟩ := hcut
            obtain ⟨W2, hwc⟩ : ∃ x, x = wc := ⟨_, rfl⟩
            subst hwc
            replace HO := Lib.hid (Own.kept HO.out hbW)
            replace HBx := Lib.hid (HBx.out.kept hbW)
            replace hb := hb.trans (hbW.mono hb.size)
            have HXr := Lib.hid (List.getElem?_eq_getElem (show j < z.length by have := HN.out; omega))
            have HXM := Lib.hid (List.getElem_mem (show j < z.length by have := HN.out; omega))
            have HQ := Lib.hid ((HC.out j _ HXr.out).below LIntA2.rec hb hbl)
            have HInL := Lib.hid (HIn.out.sub (y := less z j) less_sub)
            generalize z[j]'_ = X at *
            have HIL := Lib.hid (show ∀ w' : World, Below W2.heap.size W2 w' → LPrecedence.Is w' (.agg #[.int .i64 (k : Int), .slice av (j + (n - (j + 1))) cv]) ⟨(k : Int), less z j⟩ from fun w' hb => ⟨_, rfl, (HL.out.kept hb).is⟩)
            clear HS1 HS2 HK hoD p0 p1 hbW s4 s5 s6 s7 s8 HIW
            have p0 := HBx.out.cell 0
            have p1 := HBx.out.cell 1
            simp only [List.getElem?_toArray, List.getElem?_cons_zero, List.getElem?_cons_succ] at p0 p1
            have c0 := HC6.out.cell 0
            have c1 := HC6.out.cell 1
            simp only [List.getElem?_toArray, List.getElem?_cons_zero, List.getElem?_cons_succ] at c0 c1
            obtain ⟨q0, q1⟩ := LIntA2.cells HQ.out
            simp only [LIntA2.rec_n] at q0 q1
            have hgl := HC6.out.lt
            have hpl := HBx.out.lt
            have hbl2 : b < W2.heap.size := Nat.lt_of_lt_of_le hbl hb.size
            have k0 : 0 ≤ (j : Int) := by omega
            have k1 : (j : Int) < (n : Int) := by omega
            have HK := Lib.hid (show ∀ w' : World, Below W2.heap.size W2 w' → Below W2.heap.size W2 w' ∧ w'.cell? ⟨w.heap.size, 0, none⟩ = some (.int .i64 (k : Int)) ∧ w'.cell? ⟨w.heap.size, 1, none⟩ = some (.slice (some ⟨b, o, none⟩) n cp) ∧ w'.cell? ⟨g, 0, none⟩ = some (.int .i64 (k : Int)) ∧ w'.cell? ⟨g, 1, none⟩ = some (.slice av (j + (n - (j + 1))) cv) ∧ w'.cell? ⟨b, o + j * 2, none⟩ = some (.int .i64 X.a) ∧ w'.cell? ⟨b, o + j * 2 + 1, none⟩ = some (.int .i64 X.b) from fun w' hb => ⟨hb, by rw [hb.cell (by assumption)]; exact p0, by rw [hb.cell (by assumption)]; exact p1, by rw [hb.cell (by assumption)]; exact c0, by rw [hb.cell (by assumption)]; exact c1, by rw [hb.cell (by assumption)]; exact q0, by rw [hb.cell (by assumption)]; exact q1⟩)
            go_upto_region 8 with fail
            go_cut [53] (fun t wx => t = .bool (needB z j X) ∧ Below W2.heap.size W2 wx)
            case first =>
              go_region_held3 (fun w' => Below W2.heap.size W2 w' ∧ w'.cell? ⟨w.heap.size, 0, none⟩ = some (.int .i64 (k : Int)) ∧ w'.cell? ⟨w.heap.size, 1, none⟩ = some (.slice (some ⟨b, o, none⟩) n cp) ∧ w'.cell? ⟨g, 0, none⟩ = some (.int .i64 (k : Int)) ∧ w'.cell? ⟨g, 1, none⟩ = some (.slice av (j + (n - (j + 1))) cv) ∧ w'.cell? ⟨b, o + j * 2, none⟩ = some (.int .i64 X.a) ∧ w'.cell? ⟨b, o + j * 2 + 1, none⟩ = some (.int .i64 X.b)) ((refine HK.out _ ?_; (repeat (first | assumption | exact Below.refl _ _ | refine Below.drew ?_ | refine Below.alloc ?_ (by first | (simp; done) | (simp; omega) | omega) _)))) (first | ((go_at_call 71; refine (PrecR.l4Reach _ ⟨(k : Int), less z j⟩ X.a k _ (HIL.out _ (by (repeat (first | assumption | exact Below.refl _ _ | refine Below.drew ?_ | refine Below.alloc ?_ (by first | (simp; done) | (simp; omega) | omega) _)))) HInL.out hk8).mono ?_; rintro e wt ⟨u, rfl, ho, hu, hbt⟩; have hBt : Below W2.heap.size W2 wt := Below.trans (by (repeat (first | assumption | exact Below.refl _ _ | refine Below.drew ?_ | refine Below.alloc ?_ (by first | (simp; done) | (simp; omega) | omega) _))) (hbt.mono (by first | (simp; done) | (simp; omega) | omega)); have hz := hBt.size)) | ((go_at_call 68; refine (IntF.l1Has _ (reach k (less z j) X.a) X.b _ (by first | exact ho.is | exact (ho.kept (by (repeat (first | assumption | exact Below.refl _ _ | refine Below.drew ?_ | refine Below.alloc ?_ (by first | (simp; done) | (simp; omega) | omega) _)))).is)).mono ?_; rintro e _ ⟨rfl, rfl⟩; rw [has_need HIn.out HXM.out])) | fail)
              all_goals (go_wp2_with fail; go_meet; exact ⟨rfl, (by (repeat (first | assumption | exact Below.refl _ _ | refine Below.drew ?_ | refine Below.alloc ?_ (by first | (simp; done) | (simp; omega) | omega) _)))⟩)
            case rest =>
              obtain ⟨rfl, hb8⟩ := hcut
              obtain ⟨W3, hwc⟩ : ∃ x, x = wc := ⟨_, rfl⟩
              subst hwc
              replace HO := Lib.hid (Own.kept HO.out hb8)
              replace HBx := Lib.hid (HBx.out.kept hb8)
              replace HQ := Lib.hid (HQ.out.below LIntA2.rec hb8 hbl2)
              replace hb := hb.trans (hb8.mono hb.size)
              clear HK c0 c1 p0 p1 q0 q1 hgl hpl hb8 HC6 HL HIL
              have p0 := HBx.out.cell 0
              have p1 := HBx.out.cell 1
              simp only [List.getElem?_toArray, List.getElem?_cons_zero, List.getElem?_cons_succ] at p0 p1
              obtain ⟨q0, q1⟩ := LIntA2.cells HQ.out
              simp only [LIntA2.rec_n] at q0 q1
              cases gn : needB z j X with
              | false =>
                have HO2 := Lib.hid (show Own LIntA2.rec 37 W3 (w.heap.size + 1) o2 (ndl z (j + 1)) by rw [ndl_no HXr.out gn]; exact HO.out)
                clear gn
                go_wp2_with fail
                go_roundw
                case rel => exact ⟨j + 1, o2, rfl, by omega, by go_num, HO2, hb, HBx⟩
                case measure => simp [intOf]; omega
              | true =>
                have HND := Lib.hid (ndl_yes HXr.out gn)
                clear gn
                have hsz : w.heap.size + 1 ≤ W3.heap.size := by have := HBx.out.lt; omega
                have hnl := ndl_len z j
                go_wp2_with (at_builtin; refine wpList_append_own _ rfl (.tmp 54) (.tmp 60) 24 rfl (w.heap.size + 1) 37 i0 (.agg #[.int .i64 0, .int .i64 0]) 2 16 Try.underlying24 HI0.out HZ0.out.1 HZ0.out.2.1 HZ0.out.2.2 rfl (by decide) _ _ _ rfl (Own.kept HO.out (by (repeat (first | assumption | exact Below.refl _ _ | refine Below.drew ?_ | refine Below.setCell ?_ (by first | (simp; done) | (simp; omega) | omega) _ | refine Below.alloc ?_ (by first | (simp; done) | (simp; omega) | omega) _)))) ⟨_, 0, none⟩ 1 1 [.int .i64 X.a, .int .i64 X.b] rfl rfl ?c1 ?c2 ?c3 ?c4 ?c5 ?c6)
                case c1 => first | exact World.news_of_block (heap_alloc_new _ _) | exact World.news_of_block (alloc_two _ _ _)
                case c2 => intro u hu; simp only [List.mem_cons, List.not_mem_nil, or_false] at hu; rcases hu with rfl | rfl <;> rfl
                case c3 => unfold maxLen; omega
                case c4 => omega
                case c5 => first | (simp; done) | (simp; omega) | omega
                case c6 =>
                  intro v' w4 hown' hgrow _
                  have hb3 : Below w.heap.size w w4 := Below.grown (by (repeat (first | assumption | exact Below.refl _ _ | refine Below.drew ?_ | refine Below.setCell ?_ (by first | (simp; done) | (simp; omega) | omega) _ | refine Below.alloc ?_ (by first | (simp; done) | (simp; omega) | omega) _))) hgrow (by first | (simp; done) | (simp; omega) | omega) (fun j hj => by have := (HO.out.lt j hj).1; omega)
                  have HBx2 := Lib.hid (show Bx w4 w.heap.size 26 #[.int .i64 k, .slice (some ⟨b, o, none⟩) n cp] from (hgrow.block w.heap.size (by simp; have := HBx.out.lt; omega) (fun e => by have := (HO.out.lt _ e.symm).1; omega)).trans (Bx.alloc HBx.out _))
                  have HO2 := Lib.hid (show Own LIntA2.rec 37 w4 (w.heap.size + 1) v' (ndl z (j + 1)) by rw [HND.out]; exact own_of LIntA2.rec hown' (by simp) (by rw [flat_append]; rfl))
                  clear hown' hgrow
                  go_wp2_with fail
                  go_roundw
                  case rel => exact ⟨j + 1, _, rfl, by omega, by go_num, HO2, hb3, HBx2⟩
                  case measure => simp [intOf]; omega
        · obtain rfl : j = n := by omega
          have HE := Lib.hid (HO.out.low (show w.heap.size ≤ w.heap.size + 1 by omega))
          rw [HLn.out] at HA
          go_wp2_with fail
          go_ret2
          exact ⟨_, _, true, rfl, HA.out, HE.out, hb⟩
end Go.Proofs.Ytokdkponmefbaaa.PrecN
