/- Proxies: the model takes others. No condition. -/
import Derived.Test.YtdjnaoaniokbgaaVoX
import Derived.Test.YtdjnaoaniokbgaaJ1
import Derived.Deep.DeepCutAuto
namespace Go.Proofs.Ytdjnaoaniokbgaa.VoW
open Go.RowKit Bs Word Sq IntF Vo VoA VoN VoB VoP VoX
set_option linter.unusedVariables false
theorem others_take1 {z : List P} {k : Nat} {X : P} {m : Int} (hx : z[k]? = some X) (h : ¬ X.src = m) : others (z.take k) m ++ [X] = others (z.take (k + 1)) m := by
  unfold others
  rw [List.take_add_one, hx, Option.toList_some, List.filter_append, List.filter_cons, if_pos (by simpa using h)]; rfl
theorem others_take0 {z : List P} {k : Nat} {X : P} {m : Int} (hx : z[k]? = some X) (h : X.src = m) : others (z.take k) m = others (z.take (k + 1)) m := by
  unfold others
  rw [List.take_add_one, hx, Option.toList_some, List.filter_append, List.filter_cons, if_neg (by simpa using h), List.filter_nil, List.append_nil]
set_option maxRecDepth 100000 in
set_option maxHeartbeats 1600000 in
theorem l12Without (v0 : Value) (r : V) (m : Int) (w : World) (h0 : LVoters.IsQ w v0 r) (l0 : r.weights.length ≤ 1048576) (l1 : r.proxies.length ≤ 1048576) :
    Calls Try.prog 66 #[v0, .int .i64 m] w fun e w' => ∃ v, e = .returned v ∧ LVoters.Own w' w.heap.size v ⟨r.weights, others r.proxies m⟩ ∧ Below w.heap.size w w' := by
  obtain ⟨i0, hi, hz0, hz1, hz2⟩ := info_parts LProxy.infoK
  have HI0 := Lib.hid hi
  have HZ0 := Lib.hid (And.intro hz0 (And.intro hz1 hz2))
  clear hi hz0 hz1 hz2
  obtain ⟨a0, n0, c0, a1, n1, c1, rfl, HN0, HN1, hb0, hb1', hm0, hm1, HQ0, HQ1, HIQ⟩ := open_isq h0
  clear h0
  have HI := Lib.hid (LVoters.IsQ.is HIQ.out)
  have hc1 : Hid (∀ j x, r.proxies[j]? = some x → ∃ b o, a1 = some ⟨b, o, none⟩ ∧ b < w.heap.size ∧ At LProxy.rec w b (o + j * LProxy.rec.n) x) := by
    obtain ⟨a0', n0', c0', a1', n1', c1', e, _, _, _, _, _, _, _, hc1, _⟩ := open_is HI.out
    simp only [Value.agg.injEq, Array.mk.injEq, List.cons.injEq, and_true, Value.slice.injEq] at e
    obtain ⟨⟨rfl, rfl, rfl⟩, rfl, rfl, rfl⟩ := e
    exact hc1
  have HLK := Lib.hid l1
  have hn1 : n1 ≤ 1048576 := by have := HN1.out; omega
  obtain ⟨W0, hW⟩ : ∃ W0 : World, W0 = (w.alloc (Obj.cells #[.slice a0 n0 c0, .slice a1 n1 c1] 27)).alloc (Obj.cells #[.slice none 0 0, .slice none 0 0] 27) := ⟨_, rfl⟩
  have hbT : Below w.heap.size w W0 := by rw [hW]; exact ((Below.refl _ _).alloc (Nat.le_refl _) _).alloc (by simp) _
  have HZ := Lib.hid (show W0.heap.size = w.heap.size + 2 by rw [hW]; simp)
  have B0 := Lib.hid (show Bx W0 w.heap.size 27 #[.slice a0 n0 c0, .slice a1 n1 c1] by rw [hW]; exact (Bx.new _ _ _).alloc _)
  have BR := Lib.hid (show Bx W0 (w.heap.size + 1) 27 #[.slice none 0 0, .slice none 0 0] by rw [hW]; have := Bx.new (w.alloc (Obj.cells #[.slice a0 n0 c0, .slice a1 n1 c1] 27)) 27 #[.slice none 0 0, .slice none 0 0]; simpa using this)
  have HC := Lib.hid (VoB.l1Own _ r.weights W0 (HQ0.out _ hbT) (by omega))
  clear l0 l1
  have q0 := B0.out.cell 0
  have q1 := B0.out.cell 1
  simp only [List.getElem?_toArray, List.getElem?_cons_zero, List.getElem?_cons_succ] at q0 q1
  go_enter Try.func66, Try.ntmps66
  go_wp2_with fail
  rw [← hW]
  clear hW
  refine HC.out.mono ?_
  rintro e W ⟨v, rfl, ho, hb1⟩
  obtain ⟨b3, m3, d3, rfl⟩ := own_slice ho
  have BRW := Lib.hid (BR.out.kept hb1)
  have B0W := Lib.hid (B0.out.kept hb1)
  have HZW := Lib.hid (show w.heap.size + 2 ≤ W.heap.size by have := HZ.out; have := hb1.size; omega)
  have hbW := hbT.trans (hb1.mono hbT.size)
  have HOW := Lib.hid ho
  clear hb1 q0 q1 BR B0 ho HC
  obtain ⟨O, hO⟩ : ∃ O, O = W.heap.size := ⟨_, rfl⟩
  obtain ⟨wa, hwa⟩ : ∃ wa : World, wa = W.alloc (Obj.cells #[.slice b3 m3 d3, .slice none 0 0] 27) := ⟨_, rfl⟩
  have hba : Below W.heap.size W wa := by rw [hwa]; exact (Below.refl _ _).alloc (Nat.le_refl _) _
  have BO := Lib.hid (show Bx wa O 27 #[.slice b3 m3 d3, .slice none 0 0] by rw [hwa, hO]; exact Bx.new _ _ _)
  have HOE := Lib.hid (show W.heap.size ≤ O by omega)
  have HOO := Lib.hid (show w.heap.size + 1 < O by have := HZW.out; omega)
  have HO1 := Lib.hid (show Own LProxy.rec 70 wa W.heap.size (.slice none 0 0) (others (r.proxies.take 0) m) from Own.nil)
  have HN1O := Lib.hid (show (Value.slice none 0 0).ownBlock ≠ some O from fun e => by cases e)
  go_upto_region 2 with fail
  rw [← hwa, ← hO]
  clear hwa hO
  go_wp2_with fail
  go_loopw [6] (fun i wr => ∃ (k : Nat) (bP : Option Addr) (mP dP : Nat), k ≤ n1 ∧ i = .int .i64 k ∧ Below W.heap.size W wr ∧ Hid (Bx wr O 27 #[.slice b3 m3 d3, .slice bP mP dP]) ∧ Hid (Own LProxy.rec 70 wr W.heap.size (.slice bP mP dP) (others (r.proxies.take k) m)) ∧ Hid ((Value.slice bP mP dP).ownBlock ≠ some O)) (fun i _ => n1 - (intOf i).toNat)
  case atStart => exact ⟨0, none, 0, 0, Nat.zero_le _, rfl, hba, BO, HO1, HN1O⟩
  case round =>
    clear hba BO HO1 HN1O
    obtain ⟨k, bP, mP, dP, hk, rfl, hbr, BO, HO1, HNO⟩ := hrel
    have B1 := Lib.hid (B0W.out.kept hbr)
    have q0 := B1.out.cell 0
    have q1 := B1.out.cell 1
    simp only [List.getElem?_toArray, List.getElem?_cons_zero, List.getElem?_cons_succ] at q0 q1
    by_cases hlt : k < n1
    · have hx : k < r.proxies.length := by have := HN1.out; omega
      obtain ⟨b, o, rfl, hbl, hcell0⟩ := hc1.out k r.proxies[k] (List.getElem?_eq_getElem hx)
      have HCA := Lib.hid (fun w' (hB : Below W.heap.size W w') => hcell0.below LProxy.rec (hbW.trans (hB.mono hbW.size)) hbl)
      have HX := Lib.hid (List.getElem?_eq_getElem hx)
      clear hcell0
      generalize r.proxies[k] = X at *
      obtain ⟨y0, y1⟩ := LProxy.cells (HCA.out _ hbr)
      simp only [LProxy.rec_n] at y0 y1
      have k0 : 0 ≤ (k : Int) := by omega
      have k1 : (k : Int) < (n1 : Int) := by omega
      by_cases hm : X.src = m
      · have HON := Lib.hid (others_take0 HX.out hm)
        have e1 : (X.src != m) = false := by simp [hm]
        have HO2 := Lib.hid (show Own LProxy.rec 70 wr W.heap.size (.slice bP mP dP) (others (r.proxies.take (k + 1)) m) from HON.out ▸ HO1.out)
        clear hm
        go_wp2_with fail
        go_roundw
        case rel => exact ⟨k + 1, bP, mP, dP, by omega, by go_num, hbr, BO, HO2, HNO⟩
        case measure => simp [intOf]; omega
      · have HON := Lib.hid (others_take1 HX.out hm)
        have e1 : (X.src != m) = true := bne_iff_ne.2 hm
        clear hm
        have HZL := Lib.hid (show (others (r.proxies.take k) m).length ≤ r.proxies.length by have h1 := others_len (r.proxies.take k) m; have h2 : (r.proxies.take k).length ≤ r.proxies.length := (by rw [List.length_take]; omega); omega)
        go_upto_region 6 with fail
        clear y0 y1 q0 q1
        have HK := Lib.hid (show ∀ w' : World, Below W.heap.size W w' → Below W.heap.size W w' ∧ w'.cell? ⟨w.heap.size, 1, none⟩ = some (.slice (some ⟨b, o, none⟩) n1 c1) ∧ w'.cell? ⟨b, o + k * 2, none⟩ = some (.int .i64 X.src) ∧ w'.cell? ⟨b, o + k * 2 + 1, none⟩ = some (.int .i64 X.dst) from fun w' hB => ⟨hB, by rw [(B0W.out.kept hB).cell 1]; rfl, by obtain ⟨y0, y1⟩ := LProxy.cells (HCA.out _ hB); simp only [LProxy.rec_n] at y0 y1; exact ⟨y0, y1⟩⟩)
        have hB : Below W.heap.size W wr.drew := hbr.drew
        have hOP := HO1.out.kept ((Below.refl wr.heap.size wr).drew)
        have hXo := BO.out.kept ((Below.refl wr.heap.size wr).drew)
        have hNo_P := HNO.out
        have hXAo := HOE.out
        obtain ⟨zs, hzs⟩ : ∃ zs, zs = others (r.proxies.take k) m := ⟨_, rfl⟩
        rw [← hzs] at hOP HZL HON
        clear hzs HO1 BO B1
        refine wp_region_held_drew (S := fun w' => Below W.heap.size W w' ∧ w'.cell? ⟨w.heap.size, 1, none⟩ = some (.slice (some ⟨b, o, none⟩) n1 c1) ∧ w'.cell? ⟨b, o + k * 2, none⟩ = some (.int .i64 X.src) ∧ w'.cell? ⟨b, o + k * 2 + 1, none⟩ = some (.int .i64 X.dst)) (by kernel_rfl) (HK.out _ hB) (fun hHeld => ?_)
        generalize wr.drew = x0 at *
        clear hbr
        refine wpAnyH_take (i := 0) (v := ?v1) rfl (by kernel_rfl) (by kernel_rfl) (by kernel_rfl) (fun _ _ _ h => h) (Or.inl ⟨by rfl, ?hy1⟩) (by assumption) ?rest1
        case hy1 => (intro wq hSw; (try dsimp only at hSw); go_split_ands; go_simp; (try with_reducible rfl))
        case rest1 =>
        refine wpAnyH_take (i := 2) (v := ?v2) rfl (by kernel_rfl) (by kernel_rfl) (by kernel_rfl) (fun _ _ _ h => h) (Or.inl ⟨by rfl, ?hy2⟩) (by assumption) ?rest2
        case hy2 => (intro wq hSw; (try dsimp only at hSw); go_split_ands; go_simp; (try with_reducible rfl))
        case rest2 =>
        refine wpAnyH_take (i := 3) (v := ?v3) rfl (by kernel_rfl) (by kernel_rfl) (by kernel_rfl) (fun _ _ _ h => h) (Or.inl ⟨by rfl, ?hy3⟩) (by assumption) ?rest3
        case hy3 => (intro wq hSw; (try dsimp only at hSw); go_split_ands; go_simp; (try with_reducible rfl))
        case rest3 =>
        refine wpAnyH_take (i := 4) (v := ?v4) rfl (by kernel_rfl) (by kernel_rfl) (by kernel_rfl) (fun _ _ _ h => h) (Or.inl ⟨by rfl, ?hy4⟩) (by assumption) ?rest4
        case hy4 => (intro wq hSw; (try dsimp only at hSw); go_split_ands; go_simp; (try with_reducible rfl))
        case rest4 =>
        refine wpAnyH_take (i := 5) (v := ?v5) rfl (by kernel_rfl) (by kernel_rfl) (by kernel_rfl) (fun _ _ _ h => h) (Or.inl ⟨by rfl, ?hy5⟩) (by assumption) ?rest5
        case hy5 => (intro wq hSw; (try dsimp only at hSw); go_split_ands; go_simp; (try with_reducible rfl))
        case rest5 =>
        refine wpAnyH_take (i := 6) (v := ?v6) rfl (by kernel_rfl) (by kernel_rfl) (by kernel_rfl) (fun _ _ _ h => h) (Or.inl ⟨by rfl, ?hy6⟩) (by assumption) ?rest6
        case hy6 => (intro wq hSw; (try dsimp only at hSw); go_split_ands; go_simp; (try with_reducible rfl))
        case rest6 =>
        refine wpAnyH_ready (rs := [1, 7]) (by kernel_rfl) (by simp) ?_
        refine AllReadyH.cons rfl (fun K hK => ?step7) ?more7
        case step7 =>
          have lu := hXo.cell 1
          simp only [List.getElem?_toArray, List.getElem?_cons_zero, List.getElem?_cons_succ] at lu
          go_simp
          refine hK.out _ _ (HK.out _ hB) (fun hHeld => ?_)
          clear hK K lu
          refine wpAnyH_ready (rs := [7]) (by kernel_rfl) (by simp) ?_
          refine AllReadyH.cons rfl (fun K hK => ?step8) ?more8
          case step8 =>
            go_simp
            refine hK.out _ _ (HK.out _ (hB.alloc hB.size _)) (fun hHeld => ?_)
            clear hK K
            have hNq_P : (Value.slice bP mP dP).ownBlock ≠ some x0.heap.size := fun e => by have h1 := (hOP.lt _ e).2; omega
            replace hOP := hOP.alloc (Obj.cells #[.int .i64 X.src, .int .i64 X.dst] 70)
            have hGo_q : O ≠ x0.heap.size := by have h1 := hXo.lt; omega
            replace hXo := hXo.alloc (Obj.cells #[.int .i64 X.src, .int .i64 X.dst] 70)
            have hXq := Bx.new x0 70 #[.int .i64 X.src, .int .i64 X.dst]
            have hXAq : W.heap.size ≤ x0.heap.size := hB.size
            replace hB := hB.alloc hB.size (Obj.cells #[.int .i64 X.src, .int .i64 X.dst] 70)
            generalize x0.alloc (Obj.cells #[.int .i64 X.src, .int .i64 X.dst] 70) = x1 at *
            generalize x0.heap.size = gqx1 at *
            refine wpAnyH_ready (rs := [8]) (by kernel_rfl) (by simp) ?_
            refine AllReadyH.cons rfl (fun K hK => ?step9) ?more9
            case step9 =>
              refine step_append_o (T := LProxy.rec) (by rfl) (.tmp 27) (.tmp 33) 25 (by rfl) W.heap.size 70 i0 (.agg #[.int .i64 0, .int .i64 0]) 16 Try.underlying25 HI0.out HZ0.out.1 HZ0.out.2.1 HZ0.out.2.2 (by decide) _ _ (by rfl) hOP (some ⟨gqx1, 0, none⟩) (1) (1) ([X]) (by rfl) (by rfl) (src_one (T := LProxy.rec) hXq) (by have := HZL.out; have := HLK.out; simp; unfold maxLen; omega) (by have := HZL.out; have := HLK.out; simp; omega) hB.size ?_
              intro vx2 x2 hown hgrow hnn hat
              obtain ⟨e4, k4, f4, hvv⟩ := own_slice hown
              subst hvv
              have hB2 := below_grown hB hgrow hB.size (fun k hk => (hOP.lt k hk).1)
              refine hK.out _ _ (HK.out _ hB2) (fun hHeld => ?_)
              clear hK K
              have hE := box_besides hXo hgrow hNo_P
              have hF := ne_next hNo_P hXo.lt hat
              clear hXo hNo_P
              have hXo := hE
              have hNo_P := hF
              clear hE hF
              have hE := box_besides hXq hgrow hNq_P
              have hF := ne_next hNq_P hXq.lt hat
              clear hXq hNq_P
              have hXq := hE
              have hNq_P := hF
              clear hE hF
              clear hOP hB hgrow hat hnn
              have hOP := hown
              have hB := hB2
              clear hown hB2
              refine wpAnyH_take (i := 9) (v := ?v10) rfl (by kernel_rfl) (by kernel_rfl) (by kernel_rfl) (fun _ _ _ h => h) (Or.inl ⟨by rfl, ?hy10⟩) (by assumption) ?rest10
              case hy10 => (intro wq hSw; (try dsimp only at hSw); go_split_ands; go_simp; (try with_reducible rfl))
              case rest10 =>
              refine wpAnyH_ready (rs := [10]) (by kernel_rfl) (by simp) ?_
              refine AllReadyH.cons rfl (fun K hK => ?step11) ?more11
              case step11 =>
                have sc0 := hXo.cell 1
                have sf0 := hXo.frozen 1
                simp only [List.getElem?_toArray, List.getElem?_cons_zero, List.getElem?_cons_succ] at sc0
                have hBs := (Below.setCell hB (p := ⟨O, 1, none⟩) hXAo (.slice e4 k4 f4))
                have hXs := (Bx.set_ hXo 1 (.slice e4 k4 f4))
                have hXoq := (Bx.far (p := ⟨O, 1, none⟩) hXq hGo_q.symm (.slice e4 k4 f4))
                have hOsP := (own_set hOP (p := ⟨O, 1, none⟩) (fun q hq e => hNo_P (by rw [hq]; exact congrArg some e)) (.slice e4 k4 f4))
                go_simp
                refine hK.out _ _ (HK.out _ hBs) (fun hHeld => ?_)
                clear hK K
                clear hB hXo hXq hOP sc0 sf0
                generalize (x2.setCell ⟨O, 1, none⟩ (.slice e4 k4 f4)) = x3 at *
                have hB := hBs
                have hXo := hXs
                have hXq := hXoq
                have hOP := hOsP
                clear hBs hXs hXoq hOsP
                simp at hXo
                refine wpAnyH_done (by kernel_rfl) ?_ _
                have HOx := Lib.hid (show Own LProxy.rec 70 _ W.heap.size _ (others (r.proxies.take (k + 1)) m) from HON.out ▸ hOP)
                have HXx := Lib.hid hXo
                have HNx := Lib.hid hNo_P
                have HBx := Lib.hid hB
                have HLx := Lib.hid hXo.lt
                clear hOP hXo hNo_P hB
                go_wp2_with fail
                go_roundw
                case rel => exact ⟨k + 1, e4, k4, f4, by omega, by go_num, HBx.out, HXx, HOx, HNx⟩
                case measure => simp [intOf]; omega
              case more11 => exact AllReadyH.nil
            case more9 => exact AllReadyH.nil
          case more8 => exact AllReadyH.nil
        case more7 =>
          refine AllReadyH.cons rfl (fun K hK => ?step12) ?more12
          case step12 =>
            go_simp
            refine hK.out _ _ (HK.out _ (hB.alloc hB.size _)) (fun hHeld => ?_)
            clear hK K
            have hNq_P : (Value.slice bP mP dP).ownBlock ≠ some x0.heap.size := fun e => by have h1 := (hOP.lt _ e).2; omega
            replace hOP := hOP.alloc (Obj.cells #[.int .i64 X.src, .int .i64 X.dst] 70)
            have hGo_q : O ≠ x0.heap.size := by have h1 := hXo.lt; omega
            replace hXo := hXo.alloc (Obj.cells #[.int .i64 X.src, .int .i64 X.dst] 70)
            have hXq := Bx.new x0 70 #[.int .i64 X.src, .int .i64 X.dst]
            have hXAq : W.heap.size ≤ x0.heap.size := hB.size
            replace hB := hB.alloc hB.size (Obj.cells #[.int .i64 X.src, .int .i64 X.dst] 70)
            generalize x0.alloc (Obj.cells #[.int .i64 X.src, .int .i64 X.dst] 70) = x4 at *
            generalize x0.heap.size = gqx4 at *
            refine wpAnyH_ready (rs := [1]) (by kernel_rfl) (by simp) ?_
            refine AllReadyH.cons rfl (fun K hK => ?step13) ?more13
            case step13 =>
              have lu := hXo.cell 1
              simp only [List.getElem?_toArray, List.getElem?_cons_zero, List.getElem?_cons_succ] at lu
              go_simp
              refine hK.out _ _ (HK.out _ hB) (fun hHeld => ?_)
              clear hK K lu
              refine wpAnyH_ready (rs := [8]) (by kernel_rfl) (by simp) ?_
              refine AllReadyH.cons rfl (fun K hK => ?step14) ?more14
              case step14 =>
                refine step_append_o (T := LProxy.rec) (by rfl) (.tmp 27) (.tmp 33) 25 (by rfl) W.heap.size 70 i0 (.agg #[.int .i64 0, .int .i64 0]) 16 Try.underlying25 HI0.out HZ0.out.1 HZ0.out.2.1 HZ0.out.2.2 (by decide) _ _ (by rfl) hOP (some ⟨gqx4, 0, none⟩) (1) (1) ([X]) (by rfl) (by rfl) (src_one (T := LProxy.rec) hXq) (by have := HZL.out; have := HLK.out; simp; unfold maxLen; omega) (by have := HZL.out; have := HLK.out; simp; omega) hB.size ?_
                intro vx5 x5 hown hgrow hnn hat
                obtain ⟨e4, k4, f4, hvv⟩ := own_slice hown
                subst hvv
                have hB2 := below_grown hB hgrow hB.size (fun k hk => (hOP.lt k hk).1)
                refine hK.out _ _ (HK.out _ hB2) (fun hHeld => ?_)
                clear hK K
                have hE := box_besides hXo hgrow hNo_P
                have hF := ne_next hNo_P hXo.lt hat
                clear hXo hNo_P
                have hXo := hE
                have hNo_P := hF
                clear hE hF
                have hE := box_besides hXq hgrow hNq_P
                have hF := ne_next hNq_P hXq.lt hat
                clear hXq hNq_P
                have hXq := hE
                have hNq_P := hF
                clear hE hF
                clear hOP hB hgrow hat hnn
                have hOP := hown
                have hB := hB2
                clear hown hB2
                refine wpAnyH_take (i := 9) (v := ?v15) rfl (by kernel_rfl) (by kernel_rfl) (by kernel_rfl) (fun _ _ _ h => h) (Or.inl ⟨by rfl, ?hy15⟩) (by assumption) ?rest15
                case hy15 => (intro wq hSw; (try dsimp only at hSw); go_split_ands; go_simp; (try with_reducible rfl))
                case rest15 =>
                refine wpAnyH_ready (rs := [10]) (by kernel_rfl) (by simp) ?_
                refine AllReadyH.cons rfl (fun K hK => ?step16) ?more16
                case step16 =>
                  have sc0 := hXo.cell 1
                  have sf0 := hXo.frozen 1
                  simp only [List.getElem?_toArray, List.getElem?_cons_zero, List.getElem?_cons_succ] at sc0
                  have hBs := (Below.setCell hB (p := ⟨O, 1, none⟩) hXAo (.slice e4 k4 f4))
                  have hXs := (Bx.set_ hXo 1 (.slice e4 k4 f4))
                  have hXoq := (Bx.far (p := ⟨O, 1, none⟩) hXq hGo_q.symm (.slice e4 k4 f4))
                  have hOsP := (own_set hOP (p := ⟨O, 1, none⟩) (fun q hq e => hNo_P (by rw [hq]; exact congrArg some e)) (.slice e4 k4 f4))
                  go_simp
                  refine hK.out _ _ (HK.out _ hBs) (fun hHeld => ?_)
                  clear hK K
                  clear hB hXo hXq hOP sc0 sf0
                  generalize (x5.setCell ⟨O, 1, none⟩ (.slice e4 k4 f4)) = x6 at *
                  have hB := hBs
                  have hXo := hXs
                  have hXq := hXoq
                  have hOP := hOsP
                  clear hBs hXs hXoq hOsP
                  simp at hXo
                  refine wpAnyH_done (by kernel_rfl) ?_ _
                  have HOx := Lib.hid (show Own LProxy.rec 70 _ W.heap.size _ (others (r.proxies.take (k + 1)) m) from HON.out ▸ hOP)
                  have HXx := Lib.hid hXo
                  have HNx := Lib.hid hNo_P
                  have HBx := Lib.hid hB
                  have HLx := Lib.hid hXo.lt
                  clear hOP hXo hNo_P hB
                  go_wp2_with fail
                  go_roundw
                  case rel => exact ⟨k + 1, e4, k4, f4, by omega, by go_num, HBx.out, HXx, HOx, HNx⟩
                  case measure => simp [intOf]; omega
                case more16 => exact AllReadyH.nil
              case more14 => exact AllReadyH.nil
            case more13 => exact AllReadyH.nil
          case more12 => exact AllReadyH.nil
    · obtain rfl : k = n1 := by omega
      have hbZ := hbW.trans (hbr.mono hbW.size)
      have HOE2 := Lib.hid (show others (r.proxies.take k) m = others r.proxies m by rw [List.take_of_length_le (by have := HN1.out; omega)])
      have BO5 := BO.out
      have BR5 := BRW.out.kept hbr
      have p0 := (HOW.out.kept hbr)
      have p1 := HO1.out
      have hzw := HZW.out
      have hz0 := HZ.out
      go_upto_region 7 with fail
      clear q0 q1
      have y0 := BO5.cell 0
      have y1 := BO5.cell 1
      simp only [List.getElem?_toArray, List.getElem?_cons_zero, List.getElem?_cons_succ] at y0 y1
      have r0 := BR5.cell 0
      have r1 := BR5.cell 1
      simp only [List.getElem?_toArray, List.getElem?_cons_zero, List.getElem?_cons_succ] at r0 r1
      have z0 := BR5.frozen 0
      have z1 := BR5.frozen 1
      have hRF := (Bx.set_ (Bx.set_ BR5 0 (.slice b3 m3 d3)) 1 (.slice bP mP dP))
      have c0 := hRF.cell 0
      have c1 := hRF.cell 1
      simp at c0 c1
      clear hRF
      go_wp2_with fail
      refine bodyPost_ret (v := .agg #[.slice b3 m3 d3, .slice bP mP dP]) (by simp [results, Try.results66, go_sem, c0, c1]) rfl ?_
      exact ⟨_, rfl, ⟨_, _, rfl, ((own_set (own_set p0 (p := ⟨w.heap.size + 1, 0, none⟩) (fun k hk => by have h2 := (p0.lt k hk).1; show k ≠ w.heap.size + 1; omega) (.slice b3 m3 d3)) (p := ⟨w.heap.size + 1, 1, none⟩) (fun k hk => by have h2 := (p0.lt k hk).1; show k ≠ w.heap.size + 1; omega) (.slice bP mP dP))).low (by omega), HOE2.out ▸ ((own_set (own_set p1 (p := ⟨w.heap.size + 1, 0, none⟩) (fun k hk => by have h2 := (p1.lt k hk).1; show k ≠ w.heap.size + 1; omega) (.slice b3 m3 d3)) (p := ⟨w.heap.size + 1, 1, none⟩) (fun k hk => by have h2 := (p1.lt k hk).1; show k ≠ w.heap.size + 1; omega) (.slice bP mP dP))).low (by omega), dist_call HOW.out HO1.out⟩, (Below.setCell (Below.setCell hbZ (p := ⟨w.heap.size + 1, 0, none⟩) (by show w.heap.size ≤ w.heap.size + 1; omega) (.slice b3 m3 d3)) (p := ⟨w.heap.size + 1, 1, none⟩) (by show w.heap.size ≤ w.heap.size + 1; omega) (.slice bP mP dP))⟩
end Go.Proofs.Ytdjnaoaniokbgaa.VoW
