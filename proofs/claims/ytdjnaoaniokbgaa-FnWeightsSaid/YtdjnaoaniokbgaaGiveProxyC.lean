/- GiveProxy: what it answers, on both sides. No condition. -/
import Derived.Test.YtdjnaoaniokbgaaVoW
import Derived.Test.YtdjnaoaniokbgaaJ1
import Derived.Deep.CutBlock
import Derived.Test.YtdjnaoaniokbgaaVoH
namespace Go.Proofs.Ytdjnaoaniokbgaa.GiveProxyC
open Go.RowKit Bs Word Sq IntF Vo VoA VoN VoB VoP VoX
set_option linter.unusedVariables false
noncomputable def answer (r : V) (m t : Int) : V × Bool := if (good r && good (given r m t)) = true then (given r m t, true) else (zeroV, false)
def Ans (r : V) (m t : Int) (r0 : V) (r1 : Bool) : Prop := (r0, r1) = answer r m t
theorem same {r : V} {m t : Int} {r0 s0 : V} {r1 s1 : Bool} (h1 : Ans r m t r0 r1) (h2 : Ans r m t s0 s1) : r0 = s0 ∧ r1 = s1 := by
  have h := h1.trans h2.symm
  exact ⟨congrArg Prod.fst h, congrArg Prod.snd h⟩
theorem len0 {r : V} {m t : Int} {r0 : V} {r1 : Bool} (h : Ans r m t r0 r1) : r0.weights.length ≤ 1048576 ∧ r0.proxies.length ≤ 1048576 := by
  unfold Ans answer at h
  split at h
  · rename_i hg
    have h1 := congrArg Prod.fst h; simp only at h1; subst h1
    rw [Bool.and_eq_true] at hg
    exact given_lens (good_of hg.1)
  · have h1 := congrArg Prod.fst h; simp only at h1; subst h1; simp [zeroV]
theorem no1 {r : V} {m t : Int} (h : good r = false) : Ans r m t zeroV false := by unfold Ans answer; rw [h]; rfl
theorem no2 {r : V} {m t : Int} (h : good (given r m t) = false) : Ans r m t zeroV false := by unfold Ans answer; rw [h, Bool.and_false]; rfl
theorem yes {r : V} {m t : Int} (hg : good r = true) (h : good (given r m t) = true) : Ans r m t (given r m t) true := by unfold Ans answer; rw [h, hg]; rfl
theorem at_one {w : World} {G : Nat} {X : P} {T : TypeId} (h : Bx w G T #[.int .i64 X.src, .int .i64 X.dst]) : At LProxy.rec w G 0 X := LProxy.at_of (by have := h.cell 0; simpa using this) (by have := h.cell 1; simpa using this)
def Post (r : V) (m t : Int) (w : World) (e : Ending) (w' : World) : Prop := ∃ v0 r0 r1, e = .returned (.tuple #[v0, .bool r1]) ∧ Ans r m t r0 r1 ∧ LVoters.Own w' w.heap.size v0 r0 ∧ Below w.heap.size w w'
theorem no3 {r : V} {m t : Int} (h : (good r && inB m 0 ((r.weights.length : Int) - 1)) = false) : Ans r m t zeroV false := by
  cases hg : good r with
  | false => exact no1 hg
  | true =>
    rw [hg, Bool.true_and] at h
    exact no2 (given_bad h)
set_option maxRecDepth 100000 in
set_option maxHeartbeats 6400000 in
theorem spec (v0 : Value) (r : V) (m t : Int) (w : World) (h0 : LVoters.IsQ w v0 r) (f0 : LVoters.Fine r) (l0 : r.weights.length ≤ 1048576) (l1 : r.proxies.length ≤ 1048576) : Calls Try.prog 28 #[v0, .int .i64 m, .int .i64 t] w (Post r m t w) := by
  obtain ⟨i0, hi, hz0, hz1, hz2⟩ := info_parts LProxy.infoK
  have HI0 := Lib.hid hi
  have HZ0 := Lib.hid (And.intro hz0 (And.intro hz1 hz2))
  clear hi hz0 hz1 hz2
  obtain ⟨a0, n0, c0, a1, n1, c1, rfl, HN0, HN1, hb0, hb1', hm0, hm1, HQ0, HQ1, HIQ⟩ := open_isq h0
  clear h0
  have HI := Lib.hid (LVoters.IsQ.is HIQ.out)
  have HL := Lib.hid (And.intro l0 l1)
  clear l0 l1 f0
  obtain ⟨W, hW⟩ : ∃ W : World, W = (w.alloc (Obj.cells #[.slice a0 n0 c0, .slice a1 n1 c1] 27)).alloc (Obj.cells #[.slice none 0 0, .slice none 0 0] 27) := ⟨_, rfl⟩
  have hbW : Below w.heap.size w W := by rw [hW]; exact ((Below.refl _ _).alloc (Nat.le_refl _) _).alloc (by simp) _
  have HZ := Lib.hid (show W.heap.size = w.heap.size + 2 by rw [hW]; simp)
  have B0 := Lib.hid (show Bx W w.heap.size 27 #[.slice a0 n0 c0, .slice a1 n1 c1] by rw [hW]; exact (Bx.new _ _ _).alloc _)
  have BR := Lib.hid (show Bx W (w.heap.size + 1) 27 #[.slice none 0 0, .slice none 0 0] by rw [hW]; have := Bx.new (w.alloc (Obj.cells #[.slice a0 n0 c0, .slice a1 n1 c1] 27)) 27 #[.slice none 0 0, .slice none 0 0]; simpa using this)
  have HC := Lib.hid (VoH.l12Voter _ r m W (LVoters.Is.below HI.out hbW) HL.out.1 HL.out.2)
  have q0 := B0.out.cell 0
  have q1 := B0.out.cell 1
  simp only [List.getElem?_toArray, List.getElem?_cons_zero, List.getElem?_cons_succ] at q0 q1
  go_enter Try.func28, Try.ntmps28
  go_wp2_with fail
  rw [← hW]
  clear hW
  refine HC.out.mono ?_
  rintro e w1 ⟨rfl, hb1⟩
  replace BR := Lib.hid (BR.out.kept hb1)
  replace B0 := Lib.hid (B0.out.kept hb1)
  replace HZ := Lib.hid (show w.heap.size + 2 ≤ w1.heap.size by have := HZ.out; have := hb1.size; omega)
  replace hbW := hbW.trans (hb1.mono hbW.size)
  clear hb1
  clear q0 q1
  have q0 := B0.out.cell 0
  have q1 := B0.out.cell 1
  simp only [List.getElem?_toArray, List.getElem?_cons_zero, List.getElem?_cons_succ] at q0 q1
  cases hg : (good r && inB m 0 ((r.weights.length : Int) - 1)) with
  | false =>
    have HA := Lib.hid (show Ans r m t zeroV false from no3 hg)
    clear hg
    have BR5 := BR.out
    have r0 := BR5.cell 0
    have r1 := BR5.cell 1
    simp only [List.getElem?_toArray, List.getElem?_cons_zero, List.getElem?_cons_succ] at r0 r1
    have z0 := BR5.frozen 0
    have z1 := BR5.frozen 1
    have hRF := (Bx.set_ (Bx.set_ BR5 0 (.slice none 0 0)) 1 (.slice none 0 0))
    have c0 := hRF.cell 0
    have c1 := hRF.cell 1
    simp at c0 c1
    clear hRF
    go_wp2_with fail
    refine bodyPost_ret (v := .tuple #[.agg #[.slice none 0 0, .slice none 0 0], .bool false]) (by simp [results, Try.results28, go_sem, c0, c1]) rfl ?_
    exact ⟨_, zeroV, false, rfl, HA.out, LVoters.Own.zero, (Below.setCell (Below.setCell hbW (p := ⟨w.heap.size + 1, 0, none⟩) (by show w.heap.size ≤ w.heap.size + 1; omega) (.slice none 0 0)) (p := ⟨w.heap.size + 1, 1, none⟩) (by show w.heap.size ≤ w.heap.size + 1; omega) (.slice none 0 0))⟩
  | true =>
  rw [Bool.and_eq_true] at hg
  have HGG := Lib.hid hg.1
  have HGP := Lib.hid (good_of hg.1)
  have HLN := Lib.hid (lens HGP.out)
  clear hg HC
  have HWP := Lib.hid (VoW.l12Without _ r m w1 (LVoters.IsQ.below HIQ.out hbW) HL.out.1 HL.out.2)
  go_wp2_with fail
  refine HWP.out.mono ?_
  obtain ⟨z, hz⟩ : ∃ z, z = others r.proxies m := ⟨_, rfl⟩
  have HPZ := Lib.hid (show pos z m = pos r.proxies m by rw [hz]; exact others_pos (sorted_of HGP.out.p) m)
  have HZL := Lib.hid (show z.length ≤ 12 by rw [hz]; have h1 := others_len r.proxies m; have := HLN.out; omega)
  have HPUT := Lib.hid (show [] ++ z.take (pos r.proxies m) ++ [(⟨m, t⟩ : P)] ++ z.drop (pos r.proxies m) = put r.proxies ⟨m, t⟩ by
    rw [hz, others_take (sorted_of HGP.out.p), others_drop (sorted_of HGP.out.p)]
    show _ = r.proxies.take (pos r.proxies m) ++ (⟨m, t⟩ : P) :: r.proxies.drop (if has r.proxies m then pos r.proxies m + 1 else pos r.proxies m)
    simp)
  rw [← hz]
  clear hz
  have HZA := HZ
  rintro e W2 ⟨v, rfl, hO, hb1⟩
  obtain ⟨u0, u1, rfl, p0, p1, d01⟩ := hO
  obtain ⟨b3, m3, d3, rfl⟩ := own_slice p0
  obtain ⟨b4, m4, d4, rfl⟩ := own_slice p1
  replace BR := Lib.hid (BR.out.kept hb1)
  replace B0 := Lib.hid (B0.out.kept hb1)
  replace HZ := Lib.hid (show w.heap.size + 2 ≤ W2.heap.size by have := HZ.out; have := hb1.size; omega)
  replace hbW := hbW.trans (hb1.mono hbW.size)
  clear hb1
  clear q0 q1 HWP B0
  generalize W2 = W at *
  have HMZ := Lib.hid (show z.length = m4 from (isq_len p1.isQ).1)
  have HMD := Lib.hid (isq_len p1.isQ).2
  have HM12 := Lib.hid (show m4 ≤ 12 by have := HMZ.out; have := HZL.out; omega)
  obtain ⟨O, hO⟩ : ∃ O, O = W.heap.size := ⟨_, rfl⟩
  obtain ⟨wa, hwa⟩ : ∃ wa : World, wa = W.alloc (Obj.cells #[.slice b3 m3 d3, .slice b4 m4 d4] 27) := ⟨_, rfl⟩
  have hba : Below W.heap.size W wa := by rw [hwa]; exact (Below.refl _ _).alloc (Nat.le_refl _) _
  have BO := Lib.hid (show Bx wa O 27 #[.slice b3 m3 d3, .slice b4 m4 d4] by rw [hwa, hO]; exact Bx.new _ _ _)
  have HOE := Lib.hid (show W.heap.size ≤ O by omega)
  have HOO := Lib.hid (show w.heap.size + 1 < O by have := HZ.out; omega)
  have HP0 := Lib.hid p0
  have HP1 := Lib.hid p1
  have HD01 := Lib.hid d01
  have HIP := Lib.hid (p1.kept hba).is
  clear p0 p1 d01
  go_upto_region 4 with fail
  rw [← hwa, ← hO]
  clear hwa hO
  go_upto_block 0 with fail
  go_cut [9] (fun t' wx => t' = .int .i64 (pos z m : Nat) ∧ wx = wa)
  case first =>
    obtain ⟨ap, cp, he, hI⟩ := HIP.out
    simp only [Value.slice.injEq] at he
    obtain ⟨rfl, hmz, rfl⟩ := he
    have hc := hI.at_ LProxy.rec
    clear hI hmz
    have y0 := BO.out.cell 0
    have y1 := BO.out.cell 1
    simp only [List.getElem?_toArray, List.getElem?_cons_zero, List.getElem?_cons_succ] at y0 y1
    have hm12 := HM12.out
    go_wp2_with fail
    go_loopw [9] (fun i wr => ∃ k : Nat, k ≤ m4 ∧ i = .int .i64 k ∧ wr = wa ∧ Hid (First (fun X => !decide (X.src < m)) z k)) (fun i _ => m4 - (intOf i).toNat)
    case atStart => exact ⟨0, Nat.zero_le _, rfl, rfl, Lib.hid first_zero⟩
    case round =>
      obtain ⟨k, hk, rfl, hw, HF⟩ := hrel
      subst hw
      by_cases hlt : k < m4
      · have hx : k < z.length := by have := HMZ.out; omega
        obtain ⟨b, o, rfl, hbl, hcell0⟩ := hc.out k z[k] (List.getElem?_eq_getElem hx)
        obtain ⟨x0, x1⟩ := LProxy.cells hcell0
        simp only [LProxy.rec_n] at x0 x1
        have HX := Lib.hid (List.getElem?_eq_getElem hx)
        clear hcell0
        generalize z[k] = X at *
        by_cases hs : X.src < m
        · have HF2 := Lib.hid (first_next HF.out HX.out (by simpa using hs))
          go_wp2_with fail
          go_roundw
          case rel => exact ⟨k + 1, by omega, by go_num, by first | trivial | rfl, HF2⟩
          case measure => simp [intOf]; omega
        · have HP := Lib.hid (pos_hit HF.out HX.out hs)
          go_wp2_with fail
          go_meet
          exact ⟨by rw [HP.out], by first | trivial | rfl⟩
      · have HP := Lib.hid (pos_none HF.out (show z.length = k by have := HMZ.out; omega))
        go_wp2_with fail
        go_meet
        exact ⟨by rw [HP.out], by first | trivial | rfl⟩
  case rest =>
  obtain ⟨rfl, hwc⟩ := hcut
  subst hwc
  rw [HPZ.out]
  obtain ⟨k, hk⟩ : ∃ k, k = pos r.proxies m := ⟨_, rfl⟩
  have HKM := Lib.hid (show k ≤ m4 by rw [hk, ← HPZ.out, ← HMZ.out]; exact pos_le z m)
  rw [← hk] at HPUT ⊢
  clear hk HIP
  obtain ⟨tE, htE⟩ : ∃ t, (if d4 = k then b4 else Option.map (fun x => x.add (k * 2)) b4) = t := ⟨_, rfl⟩
  have HF1 := Lib.hid (show ∀ w' : World, Below W.heap.size W w' → Feeds w' b4 k d4 (flat LProxy.rec (z.take k)) from fun w' hB => (IsQ.src (isq_upto (IsQ.below HP1.out.isQ hB) k HKM.out rfl)).1)
  have HF2 := Lib.hid (show ∀ w' : World, Below W.heap.size W w' → Feeds w' tE (m4 - k) (d4 - k) (flat LProxy.rec (z.drop k)) from fun w' hB => (IsQ.src (isq_from (IsQ.below HP1.out.isQ hB) k HKM.out (by rw [← htE]; rfl) _ _ rfl rfl)).1)
  have HT := Lib.hid (show ∀ w' : World, Below W.heap.size W w' → anyW w' from fun _ _ => trivial)
  have HK := Lib.hid (show ∀ w' : World, Below W.heap.size W w' → Bx w' O 27 #[.slice b3 m3 d3, .slice b4 m4 d4] → Below W.heap.size W w' ∧ w'.cell? ⟨O, 1, none⟩ = some (.slice b4 m4 d4) from fun w' hB hX => ⟨hB, by rw [hX.cell 1]; rfl⟩)
  have k0 : (0 : Int) ≤ (k : Int) := by omega
  have k1 : (k : Int) ≤ (m4 : Int) := by have := HKM.out; omega
  have k2 : (k : Int) ≤ (d4 : Int) := by have := HKM.out; have := HMD.out; omega
  go_upto_region 7 with fail
  go_cut [50] (fun t' wx => ∃ (e4 : Option Addr) (k4 f4 : Nat), t' = .slice e4 k4 f4 ∧ Hid (Bx wx O 27 #[.slice b3 m3 d3, .slice e4 k4 f4]) ∧ Hid (Own LProxy.rec 70 wx W.heap.size (.slice e4 k4 f4) (put r.proxies ⟨m, t⟩)) ∧ Below W.heap.size W wx)
  case first =>
    have hB : Below W.heap.size W wc.drew := hba.drew
    have hXo := BO.out.kept ((Below.refl wc.heap.size wc).drew)
    have hXAo := HOE.out
    refine wp_region_preN (S := fun w' => Below W.heap.size W w' ∧ w'.cell? ⟨O, 1, none⟩ = some (.slice b4 m4 d4)) 16 2 (by kernel_rfl) (by kernel_rfl) (by kernel_rfl) (by kernel_rfl) (HK.out _ hB hXo) (fun R hR hHeld => ?_)
    simp only [List.take_succ_cons, List.take_zero]
    generalize wc.drew = x0 at *
    clear hba BO
    refine wpAnyH_take (i := 1) (v := ?v1) rfl (by kernel_rfl) (by kernel_rfl) (by kernel_rfl) (fun _ _ _ h => h) (Or.inl ⟨by rfl, ?hy1⟩) (by assumption) ?rest1
    case hy1 => (intro wq hSw; (try dsimp only at hSw); go_split_ands; go_simp; (try with_reducible rfl))
    case rest1 =>
    refine wpAnyH_take (i := 2) (v := ?v2) rfl (by kernel_rfl) (by kernel_rfl) (by kernel_rfl) (fun _ _ _ h => h) (Or.inl ⟨by rfl, ?hy2⟩) (by assumption) ?rest2
    case hy2 => (intro wq hSw; (try dsimp only at hSw); go_split_ands; go_simp; (try with_reducible rfl))
    case rest2 =>
    refine wpAnyH_take (i := 3) (v := ?v3) rfl (by kernel_rfl) (by kernel_rfl) (by kernel_rfl) (fun _ _ _ h => h) (Or.inl ⟨by rfl, ?hy3⟩) (by assumption) ?rest3
    case hy3 => (intro wq hSw; (try dsimp only at hSw); go_split_ands; go_simp; (try with_reducible rfl))
    case rest3 =>
    refine wpAnyH_take (i := 4) (v := ?v4) rfl (by kernel_rfl) (by kernel_rfl) (by kernel_rfl) (fun _ _ _ h => h) (Or.inl ⟨by rfl, ?hy4⟩) (by assumption) ?rest4
    case hy4 => (intro wq hSw; (try dsimp only at hSw); go_split_ands; go_simp; (try with_reducible rfl))
    case rest4 =>
    refine wpAnyH_take (i := 6) (v := ?v5) rfl (by kernel_rfl) (by kernel_rfl) (by kernel_rfl) (fun _ _ _ h => h) (Or.inl ⟨by rfl, ?hy5⟩) (by assumption) ?rest5
    case hy5 => (intro wq hSw; (try dsimp only at hSw); go_split_ands; go_simp; (try with_reducible rfl))
    case rest5 =>
    refine wpAnyH_take (i := 7) (v := ?v6) rfl (by kernel_rfl) (by kernel_rfl) (by kernel_rfl) (fun _ _ _ h => h) (Or.inl ⟨by rfl, ?hy6⟩) (by assumption) ?rest6
    case hy6 => (intro wq hSw; (try dsimp only at hSw); go_split_ands; go_simp; (try with_reducible rfl))
    case rest6 =>
    refine wpAnyH_take (i := 8) (v := ?v7) rfl (by kernel_rfl) (by kernel_rfl) (by kernel_rfl) (fun _ _ _ h => h) (Or.inl ⟨by rfl, ?hy7⟩) (by assumption) ?rest7
    case hy7 => (intro wq hSw; (try dsimp only at hSw); go_split_ands; go_simp; (try with_reducible rfl))
    case rest7 =>
    refine wpAnyH_take (i := 11) (v := ?v8) rfl (by kernel_rfl) (by kernel_rfl) (by kernel_rfl) (fun _ _ _ h => h) (Or.inl ⟨by rfl, ?hy8⟩) (by assumption) ?rest8
    case hy8 => (intro wq hSw; (try dsimp only at hSw); go_split_ands; go_simp; (try with_reducible rfl))
    case rest8 =>
    refine wpAnyH_take (i := 12) (v := ?v9) rfl (by kernel_rfl) (by kernel_rfl) (by kernel_rfl) (fun _ _ _ h => h) (Or.inl ⟨by rfl, ?hy9⟩) (by assumption) ?rest9
    case hy9 => (intro wq hSw; (try dsimp only at hSw); go_split_ands; go_simp; (try with_reducible rfl))
    case rest9 =>
    refine wpAnyH_take (i := 13) (v := ?v10) rfl (by kernel_rfl) (by kernel_rfl) (by kernel_rfl) (fun _ _ _ h => h) (Or.inl ⟨by rfl, ?hy10⟩) (by assumption) ?rest10
    case hy10 => (intro wq hSw; (try dsimp only at hSw); go_split_ands; go_simp; (try with_reducible rfl))
    case rest10 =>
    refine wpAnyH_take (i := 14) (v := ?v11) rfl (by kernel_rfl) (by kernel_rfl) (by kernel_rfl) (fun _ _ _ h => h) (Or.inl ⟨by rfl, ?hy11⟩) (by assumption) ?rest11
    case hy11 => (intro wq hSw; (try dsimp only at hSw); go_split_ands; go_simp; (try with_reducible rfl))
    case rest11 =>
    refine wpAnyH_ready (rs := [0, 9]) (by kernel_rfl) (by simp) ?_
    refine AllReadyH.cons rfl (fun K hK => ?step12) ?more12
    case step12 =>
      go_simp
      refine hK.out _ _ (HK.out _ (hB.alloc hB.size _) (hXo.alloc _)) (fun hHeld => ?_)
      clear hK K
      have hO1 : Own LProxy.rec 70 (x0.alloc (Obj.cells #[] 70)) W.heap.size (.slice (some ⟨x0.heap.size, 0, none⟩) 0 0) [] := own_start hB.size
      have hNo_1 : (Value.slice (some ⟨x0.heap.size, 0, none⟩) 0 0).ownBlock ≠ some O := fun e => by have h1 := hXo.lt; simp only [Value.ownBlock, Option.some.injEq] at e; omega
      replace hXo := hXo.alloc (Obj.cells #[] 70)
      replace hB := hB.alloc hB.size (Obj.cells #[] 70)
      generalize x0.alloc (Obj.cells #[] 70) = x1 at *
      generalize x0.heap.size = g1x1 at *
      refine wpAnyH_ready (rs := [5, 9]) (by kernel_rfl) (by simp) ?_
      refine AllReadyH.cons rfl (fun K hK => ?step13) ?more13
      case step13 =>
        refine step_append_o (T := LProxy.rec) (by rfl) (.tmp 35) (.tmp 39) 25 (by rfl) W.heap.size 70 i0 (.agg #[.int .i64 0, .int .i64 0]) 16 Try.underlying25 HI0.out HZ0.out.1 HZ0.out.2.1 HZ0.out.2.2 (by decide) _ _ (by rfl) hO1 (b4) (k) (d4) (z.take k) (by rfl) (by rw [List.length_take]; have := HMZ.out; have := HKM.out; omega) (HF1.out _ hB) (by have := HKM.out; have := HM12.out; simp; unfold maxLen; omega) (by have := HKM.out; have := HM12.out; simp; omega) hB.size ?_
        intro vx2 x2 hown hgrow hnn hat
        have hB2 := below_grown hB hgrow hB.size (fun k hk => (hO1.lt k hk).1)
        refine hK.out _ _ (HK.out _ hB2 (box_besides hXo hgrow hNo_1)) (fun hHeld => ?_)
        clear hK K
        have hE := box_besides hXo hgrow hNo_1
        have hF := ne_next hNo_1 hXo.lt hat
        clear hXo hNo_1
        have hXo := hE
        have hNo_1 := hF
        clear hE hF
        clear hO1 hB hgrow hat hnn
        have hO1 := hown
        have hB := hB2
        clear hown hB2
        refine wpAnyH_ready (rs := [9]) (by kernel_rfl) (by simp) ?_
        refine AllReadyH.cons rfl (fun K hK => ?step14) ?more14
        case step14 =>
          go_simp
          refine hK.out _ _ (HK.out _ (hB.alloc hB.size _) (hXo.alloc _)) (fun hHeld => ?_)
          clear hK K
          have hNq_1 : (vx2).ownBlock ≠ some x2.heap.size := fun e => by have h1 := (hO1.lt _ e).2; omega
          replace hO1 := hO1.alloc (Obj.cells #[.int .i64 m, .int .i64 t] 70)
          have hGo_q : O ≠ x2.heap.size := by have h1 := hXo.lt; omega
          replace hXo := hXo.alloc (Obj.cells #[.int .i64 m, .int .i64 t] 70)
          have hXq := Bx.new x2 70 #[.int .i64 m, .int .i64 t]
          have hXAq : W.heap.size ≤ x2.heap.size := hB.size
          replace hB := hB.alloc hB.size (Obj.cells #[.int .i64 m, .int .i64 t] 70)
          generalize x2.alloc (Obj.cells #[.int .i64 m, .int .i64 t] 70) = x3 at *
          generalize x2.heap.size = gqx3 at *
          refine wpAnyH_ready (rs := [10]) (by kernel_rfl) (by simp) ?_
          refine AllReadyH.cons rfl (fun K hK => ?step15) ?more15
          case step15 =>
            refine step_append_o (T := LProxy.rec) (by rfl) (.tmp 40) (.tmp 44) 25 (by rfl) W.heap.size 70 i0 (.agg #[.int .i64 0, .int .i64 0]) 16 Try.underlying25 HI0.out HZ0.out.1 HZ0.out.2.1 HZ0.out.2.2 (by decide) _ _ (by rfl) hO1 (some ⟨gqx3, 0, none⟩) (1) (1) ([⟨m, t⟩]) (by rfl) (by rfl) (src_one (T := LProxy.rec) hXq) (by have := HKM.out; have := HMZ.out; have := HM12.out; simp; unfold maxLen; omega) (by have := HKM.out; have := HMZ.out; have := HM12.out; simp; omega) hB.size ?_
            intro vx4 x4 hown hgrow hnn hat
            have hB2 := below_grown hB hgrow hB.size (fun k hk => (hO1.lt k hk).1)
            refine hK.out _ _ (HK.out _ hB2 (box_besides hXo hgrow hNo_1)) (fun hHeld => ?_)
            clear hK K
            have hE := box_besides hXo hgrow hNo_1
            have hF := ne_next hNo_1 hXo.lt hat
            clear hXo hNo_1
            have hXo := hE
            have hNo_1 := hF
            clear hE hF
            have hE := box_besides hXq hgrow hNq_1
            have hF := ne_next hNq_1 hXq.lt hat
            clear hXq hNq_1
            have hXq := hE
            have hNq_1 := hF
            clear hE hF
            clear hO1 hB hgrow hat hnn
            have hO1 := hown
            have hB := hB2
            clear hown hB2
            refine wpAnyH_ready (rs := [15]) (by kernel_rfl) (by simp) ?_
            refine AllReadyH.cons rfl (fun K hK => ?step16) ?more16
            case step16 =>
              refine step_append_o (T := LProxy.rec) (by rfl) (.tmp 45) (.tmp 49) 25 (by rfl) W.heap.size 70 i0 (.agg #[.int .i64 0, .int .i64 0]) 16 Try.underlying25 HI0.out HZ0.out.1 HZ0.out.2.1 HZ0.out.2.2 (by decide) _ _ (by rfl) hO1 (tE) ((m4 - k)) ((d4 - k)) (z.drop k) (by rfl) (by rw [List.length_drop]; have := HMZ.out; omega) (HF2.out _ hB) (by have := HKM.out; have := HMZ.out; have := HM12.out; simp; unfold maxLen; omega) (by have := HKM.out; have := HMZ.out; have := HM12.out; simp; omega) hB.size ?_
              intro vx5 x5 hown hgrow hnn hat
              obtain ⟨e4, k4, f4, hvv⟩ := own_slice hown
              subst hvv
              have hB2 := below_grown hB hgrow hB.size (fun k hk => (hO1.lt k hk).1)
              refine hK.out _ _ (HK.out _ hB2 (box_besides hXo hgrow hNo_1)) (fun hHeld => ?_)
              clear hK K
              have hE := box_besides hXo hgrow hNo_1
              have hF := ne_next hNo_1 hXo.lt hat
              clear hXo hNo_1
              have hXo := hE
              have hNo_1 := hF
              clear hE hF
              have hE := box_besides hXq hgrow hNq_1
              have hF := ne_next hNq_1 hXq.lt hat
              clear hXq hNq_1
              have hXq := hE
              have hNq_1 := hF
              clear hE hF
              clear hO1 hB hgrow hat hnn
              have hO1 := hown
              have hB := hB2
              clear hown hB2
              refine wpAnyH_done (by kernel_rfl) ?_ _
              refine hR.out _ _ (fun hHeld2 => ?_)
              clear hR
              skip
              refine wpAnyH_take (i := 16) (v := ?v1) rfl (by kernel_rfl) (by kernel_rfl) (by kernel_rfl) (fun _ _ _ h => h) (Or.inl ⟨by rfl, ?hy1⟩) (by assumption) ?rest1
              case hy1 => (intro wq hSw; (try dsimp only at hSw); go_split_ands; go_simp; (try with_reducible rfl))
              case rest1 =>
              refine wpAnyH_ready (rs := [17]) (by kernel_rfl) (by simp) ?_
              refine AllReadyH.cons rfl (fun K hK => ?step2) ?more2
              case step2 =>
                have sc0 := hXo.cell 1
                have sf0 := hXo.frozen 1
                simp only [List.getElem?_toArray, List.getElem?_cons_zero, List.getElem?_cons_succ] at sc0
                have hBs := (Below.setCell hB (p := ⟨O, 1, none⟩) hXAo (.slice e4 k4 f4))
                have hXs := (Bx.set_ hXo 1 (.slice e4 k4 f4))
                have hXoq := (Bx.far (p := ⟨O, 1, none⟩) hXq hGo_q.symm (.slice e4 k4 f4))
                have hOs1 := (own_set hO1 (p := ⟨O, 1, none⟩) (fun q hq e => hNo_1 (by rw [hq]; exact congrArg some e)) (.slice e4 k4 f4))
                go_simp
                refine hK.out _ _ (HT.out _ hBs) (fun hHeld => ?_)
                clear hK K
                clear hB hXo hXq hO1 sc0 sf0
                generalize (x5.setCell ⟨O, 1, none⟩ (.slice e4 k4 f4)) = x6 at *
                have hB := hBs
                have hXo := hXs
                have hXq := hXoq
                have hO1 := hOs1
                clear hBs hXs hXoq hOs1
                simp at hXo
                refine wpAnyH_done (by kernel_rfl) ?_ _
                have HOx := Lib.hid (show Own LProxy.rec 70 _ W.heap.size _ (put r.proxies ⟨m, t⟩) from HPUT.out ▸ hO1)
                have HXx := Lib.hid hXo
                clear hO1 hXo
                go_wp2_with fail
                go_meet
                exact ⟨e4, k4, f4, rfl, HXx, HOx, hB⟩
              case more2 => exact AllReadyH.nil
            case more16 => exact AllReadyH.nil
          case more15 => exact AllReadyH.nil
        case more14 => exact AllReadyH.nil
      case more13 =>
        refine AllReadyH.cons rfl (fun K hK => ?step17) ?more17
        case step17 =>
          go_simp
          refine hK.out _ _ (HK.out _ (hB.alloc hB.size _) (hXo.alloc _)) (fun hHeld => ?_)
          clear hK K
          have hNq_1 : (Value.slice (some ⟨g1x1, 0, none⟩) 0 0).ownBlock ≠ some x1.heap.size := fun e => by have h1 := (hO1.lt _ e).2; omega
          replace hO1 := hO1.alloc (Obj.cells #[.int .i64 m, .int .i64 t] 70)
          have hGo_q : O ≠ x1.heap.size := by have h1 := hXo.lt; omega
          replace hXo := hXo.alloc (Obj.cells #[.int .i64 m, .int .i64 t] 70)
          have hXq := Bx.new x1 70 #[.int .i64 m, .int .i64 t]
          have hXAq : W.heap.size ≤ x1.heap.size := hB.size
          replace hB := hB.alloc hB.size (Obj.cells #[.int .i64 m, .int .i64 t] 70)
          generalize x1.alloc (Obj.cells #[.int .i64 m, .int .i64 t] 70) = x7 at *
          generalize x1.heap.size = gqx7 at *
          refine wpAnyH_ready (rs := [5]) (by kernel_rfl) (by simp) ?_
          refine AllReadyH.cons rfl (fun K hK => ?step18) ?more18
          case step18 =>
            refine step_append_o (T := LProxy.rec) (by rfl) (.tmp 35) (.tmp 39) 25 (by rfl) W.heap.size 70 i0 (.agg #[.int .i64 0, .int .i64 0]) 16 Try.underlying25 HI0.out HZ0.out.1 HZ0.out.2.1 HZ0.out.2.2 (by decide) _ _ (by rfl) hO1 (b4) (k) (d4) (z.take k) (by rfl) (by rw [List.length_take]; have := HMZ.out; have := HKM.out; omega) (HF1.out _ hB) (by have := HKM.out; have := HM12.out; simp; unfold maxLen; omega) (by have := HKM.out; have := HM12.out; simp; omega) hB.size ?_
            intro vx8 x8 hown hgrow hnn hat
            have hB2 := below_grown hB hgrow hB.size (fun k hk => (hO1.lt k hk).1)
            refine hK.out _ _ (HK.out _ hB2 (box_besides hXo hgrow hNo_1)) (fun hHeld => ?_)
            clear hK K
            have hE := box_besides hXo hgrow hNo_1
            have hF := ne_next hNo_1 hXo.lt hat
            clear hXo hNo_1
            have hXo := hE
            have hNo_1 := hF
            clear hE hF
            have hE := box_besides hXq hgrow hNq_1
            have hF := ne_next hNq_1 hXq.lt hat
            clear hXq hNq_1
            have hXq := hE
            have hNq_1 := hF
            clear hE hF
            clear hO1 hB hgrow hat hnn
            have hO1 := hown
            have hB := hB2
            clear hown hB2
            refine wpAnyH_ready (rs := [10]) (by kernel_rfl) (by simp) ?_
            refine AllReadyH.cons rfl (fun K hK => ?step19) ?more19
            case step19 =>
              refine step_append_o (T := LProxy.rec) (by rfl) (.tmp 40) (.tmp 44) 25 (by rfl) W.heap.size 70 i0 (.agg #[.int .i64 0, .int .i64 0]) 16 Try.underlying25 HI0.out HZ0.out.1 HZ0.out.2.1 HZ0.out.2.2 (by decide) _ _ (by rfl) hO1 (some ⟨gqx7, 0, none⟩) (1) (1) ([⟨m, t⟩]) (by rfl) (by rfl) (src_one (T := LProxy.rec) hXq) (by have := HKM.out; have := HMZ.out; have := HM12.out; simp; unfold maxLen; omega) (by have := HKM.out; have := HMZ.out; have := HM12.out; simp; omega) hB.size ?_
              intro vx9 x9 hown hgrow hnn hat
              have hB2 := below_grown hB hgrow hB.size (fun k hk => (hO1.lt k hk).1)
              refine hK.out _ _ (HK.out _ hB2 (box_besides hXo hgrow hNo_1)) (fun hHeld => ?_)
              clear hK K
              have hE := box_besides hXo hgrow hNo_1
              have hF := ne_next hNo_1 hXo.lt hat
              clear hXo hNo_1
              have hXo := hE
              have hNo_1 := hF
              clear hE hF
              have hE := box_besides hXq hgrow hNq_1
              have hF := ne_next hNq_1 hXq.lt hat
              clear hXq hNq_1
              have hXq := hE
              have hNq_1 := hF
              clear hE hF
              clear hO1 hB hgrow hat hnn
              have hO1 := hown
              have hB := hB2
              clear hown hB2
              refine wpAnyH_ready (rs := [15]) (by kernel_rfl) (by simp) ?_
              refine AllReadyH.cons rfl (fun K hK => ?step20) ?more20
              case step20 =>
                refine step_append_o (T := LProxy.rec) (by rfl) (.tmp 45) (.tmp 49) 25 (by rfl) W.heap.size 70 i0 (.agg #[.int .i64 0, .int .i64 0]) 16 Try.underlying25 HI0.out HZ0.out.1 HZ0.out.2.1 HZ0.out.2.2 (by decide) _ _ (by rfl) hO1 (tE) ((m4 - k)) ((d4 - k)) (z.drop k) (by rfl) (by rw [List.length_drop]; have := HMZ.out; omega) (HF2.out _ hB) (by have := HKM.out; have := HMZ.out; have := HM12.out; simp; unfold maxLen; omega) (by have := HKM.out; have := HMZ.out; have := HM12.out; simp; omega) hB.size ?_
                intro vx10 x10 hown hgrow hnn hat
                obtain ⟨e4, k4, f4, hvv⟩ := own_slice hown
                subst hvv
                have hB2 := below_grown hB hgrow hB.size (fun k hk => (hO1.lt k hk).1)
                refine hK.out _ _ (HK.out _ hB2 (box_besides hXo hgrow hNo_1)) (fun hHeld => ?_)
                clear hK K
                have hE := box_besides hXo hgrow hNo_1
                have hF := ne_next hNo_1 hXo.lt hat
                clear hXo hNo_1
                have hXo := hE
                have hNo_1 := hF
                clear hE hF
                have hE := box_besides hXq hgrow hNq_1
                have hF := ne_next hNq_1 hXq.lt hat
                clear hXq hNq_1
                have hXq := hE
                have hNq_1 := hF
                clear hE hF
                clear hO1 hB hgrow hat hnn
                have hO1 := hown
                have hB := hB2
                clear hown hB2
                refine wpAnyH_done (by kernel_rfl) ?_ _
                refine hR.out _ _ (fun hHeld2 => ?_)
                clear hR
                skip
                refine wpAnyH_take (i := 16) (v := ?v1) rfl (by kernel_rfl) (by kernel_rfl) (by kernel_rfl) (fun _ _ _ h => h) (Or.inl ⟨by rfl, ?hy1⟩) (by assumption) ?rest1
                case hy1 => (intro wq hSw; (try dsimp only at hSw); go_split_ands; go_simp; (try with_reducible rfl))
                case rest1 =>
                refine wpAnyH_ready (rs := [17]) (by kernel_rfl) (by simp) ?_
                refine AllReadyH.cons rfl (fun K hK => ?step2) ?more2
                case step2 =>
                  have sc0 := hXo.cell 1
                  have sf0 := hXo.frozen 1
                  simp only [List.getElem?_toArray, List.getElem?_cons_zero, List.getElem?_cons_succ] at sc0
                  have hBs := (Below.setCell hB (p := ⟨O, 1, none⟩) hXAo (.slice e4 k4 f4))
                  have hXs := (Bx.set_ hXo 1 (.slice e4 k4 f4))
                  have hXoq := (Bx.far (p := ⟨O, 1, none⟩) hXq hGo_q.symm (.slice e4 k4 f4))
                  have hOs1 := (own_set hO1 (p := ⟨O, 1, none⟩) (fun q hq e => hNo_1 (by rw [hq]; exact congrArg some e)) (.slice e4 k4 f4))
                  go_simp
                  refine hK.out _ _ (HT.out _ hBs) (fun hHeld => ?_)
                  clear hK K
                  clear hB hXo hXq hO1 sc0 sf0
                  generalize (x10.setCell ⟨O, 1, none⟩ (.slice e4 k4 f4)) = x11 at *
                  have hB := hBs
                  have hXo := hXs
                  have hXq := hXoq
                  have hO1 := hOs1
                  clear hBs hXs hXoq hOs1
                  simp at hXo
                  refine wpAnyH_done (by kernel_rfl) ?_ _
                  have HOx := Lib.hid (show Own LProxy.rec 70 _ W.heap.size _ (put r.proxies ⟨m, t⟩) from HPUT.out ▸ hO1)
                  have HXx := Lib.hid hXo
                  clear hO1 hXo
                  go_wp2_with fail
                  go_meet
                  exact ⟨e4, k4, f4, rfl, HXx, HOx, hB⟩
                case more2 => exact AllReadyH.nil
              case more20 => exact AllReadyH.nil
            case more19 => exact AllReadyH.nil
          case more18 => exact AllReadyH.nil
        case more17 => exact AllReadyH.nil
    case more12 =>
      refine AllReadyH.cons rfl (fun K hK => ?step21) ?more21
      case step21 =>
        go_simp
        refine hK.out _ _ (HK.out _ (hB.alloc hB.size _) (hXo.alloc _)) (fun hHeld => ?_)
        clear hK K
        have hGo_q : O ≠ x0.heap.size := by have h1 := hXo.lt; omega
        replace hXo := hXo.alloc (Obj.cells #[.int .i64 m, .int .i64 t] 70)
        have hXq := Bx.new x0 70 #[.int .i64 m, .int .i64 t]
        have hXAq : W.heap.size ≤ x0.heap.size := hB.size
        replace hB := hB.alloc hB.size (Obj.cells #[.int .i64 m, .int .i64 t] 70)
        generalize x0.alloc (Obj.cells #[.int .i64 m, .int .i64 t] 70) = x12 at *
        generalize x0.heap.size = gqx12 at *
        refine wpAnyH_ready (rs := [0]) (by kernel_rfl) (by simp) ?_
        refine AllReadyH.cons rfl (fun K hK => ?step22) ?more22
        case step22 =>
          go_simp
          refine hK.out _ _ (HK.out _ (hB.alloc hB.size _) (hXo.alloc _)) (fun hHeld => ?_)
          clear hK K
          have hO1 : Own LProxy.rec 70 (x12.alloc (Obj.cells #[] 70)) W.heap.size (.slice (some ⟨x12.heap.size, 0, none⟩) 0 0) [] := own_start hB.size
          have hNo_1 : (Value.slice (some ⟨x12.heap.size, 0, none⟩) 0 0).ownBlock ≠ some O := fun e => by have h1 := hXo.lt; simp only [Value.ownBlock, Option.some.injEq] at e; omega
          replace hXo := hXo.alloc (Obj.cells #[] 70)
          have hNq_1 : (Value.slice (some ⟨x12.heap.size, 0, none⟩) 0 0).ownBlock ≠ some gqx12 := fun e => by have h1 := hXq.lt; simp only [Value.ownBlock, Option.some.injEq] at e; omega
          replace hXq := hXq.alloc (Obj.cells #[] 70)
          replace hB := hB.alloc hB.size (Obj.cells #[] 70)
          generalize x12.alloc (Obj.cells #[] 70) = x13 at *
          generalize x12.heap.size = g1x13 at *
          refine wpAnyH_ready (rs := [5]) (by kernel_rfl) (by simp) ?_
          refine AllReadyH.cons rfl (fun K hK => ?step23) ?more23
          case step23 =>
            refine step_append_o (T := LProxy.rec) (by rfl) (.tmp 35) (.tmp 39) 25 (by rfl) W.heap.size 70 i0 (.agg #[.int .i64 0, .int .i64 0]) 16 Try.underlying25 HI0.out HZ0.out.1 HZ0.out.2.1 HZ0.out.2.2 (by decide) _ _ (by rfl) hO1 (b4) (k) (d4) (z.take k) (by rfl) (by rw [List.length_take]; have := HMZ.out; have := HKM.out; omega) (HF1.out _ hB) (by have := HKM.out; have := HM12.out; simp; unfold maxLen; omega) (by have := HKM.out; have := HM12.out; simp; omega) hB.size ?_
            intro vx14 x14 hown hgrow hnn hat
            have hB2 := below_grown hB hgrow hB.size (fun k hk => (hO1.lt k hk).1)
            refine hK.out _ _ (HK.out _ hB2 (box_besides hXo hgrow hNo_1)) (fun hHeld => ?_)
            clear hK K
            have hE := box_besides hXo hgrow hNo_1
            have hF := ne_next hNo_1 hXo.lt hat
            clear hXo hNo_1
            have hXo := hE
            have hNo_1 := hF
            clear hE hF
            have hE := box_besides hXq hgrow hNq_1
            have hF := ne_next hNq_1 hXq.lt hat
            clear hXq hNq_1
            have hXq := hE
            have hNq_1 := hF
            clear hE hF
            clear hO1 hB hgrow hat hnn
            have hO1 := hown
            have hB := hB2
            clear hown hB2
            refine wpAnyH_ready (rs := [10]) (by kernel_rfl) (by simp) ?_
            refine AllReadyH.cons rfl (fun K hK => ?step24) ?more24
            case step24 =>
              refine step_append_o (T := LProxy.rec) (by rfl) (.tmp 40) (.tmp 44) 25 (by rfl) W.heap.size 70 i0 (.agg #[.int .i64 0, .int .i64 0]) 16 Try.underlying25 HI0.out HZ0.out.1 HZ0.out.2.1 HZ0.out.2.2 (by decide) _ _ (by rfl) hO1 (some ⟨gqx12, 0, none⟩) (1) (1) ([⟨m, t⟩]) (by rfl) (by rfl) (src_one (T := LProxy.rec) hXq) (by have := HKM.out; have := HMZ.out; have := HM12.out; simp; unfold maxLen; omega) (by have := HKM.out; have := HMZ.out; have := HM12.out; simp; omega) hB.size ?_
              intro vx15 x15 hown hgrow hnn hat
              have hB2 := below_grown hB hgrow hB.size (fun k hk => (hO1.lt k hk).1)
              refine hK.out _ _ (HK.out _ hB2 (box_besides hXo hgrow hNo_1)) (fun hHeld => ?_)
              clear hK K
              have hE := box_besides hXo hgrow hNo_1
              have hF := ne_next hNo_1 hXo.lt hat
              clear hXo hNo_1
              have hXo := hE
              have hNo_1 := hF
              clear hE hF
              have hE := box_besides hXq hgrow hNq_1
              have hF := ne_next hNq_1 hXq.lt hat
              clear hXq hNq_1
              have hXq := hE
              have hNq_1 := hF
              clear hE hF
              clear hO1 hB hgrow hat hnn
              have hO1 := hown
              have hB := hB2
              clear hown hB2
              refine wpAnyH_ready (rs := [15]) (by kernel_rfl) (by simp) ?_
              refine AllReadyH.cons rfl (fun K hK => ?step25) ?more25
              case step25 =>
                refine step_append_o (T := LProxy.rec) (by rfl) (.tmp 45) (.tmp 49) 25 (by rfl) W.heap.size 70 i0 (.agg #[.int .i64 0, .int .i64 0]) 16 Try.underlying25 HI0.out HZ0.out.1 HZ0.out.2.1 HZ0.out.2.2 (by decide) _ _ (by rfl) hO1 (tE) ((m4 - k)) ((d4 - k)) (z.drop k) (by rfl) (by rw [List.length_drop]; have := HMZ.out; omega) (HF2.out _ hB) (by have := HKM.out; have := HMZ.out; have := HM12.out; simp; unfold maxLen; omega) (by have := HKM.out; have := HMZ.out; have := HM12.out; simp; omega) hB.size ?_
                intro vx16 x16 hown hgrow hnn hat
                obtain ⟨e4, k4, f4, hvv⟩ := own_slice hown
                subst hvv
                have hB2 := below_grown hB hgrow hB.size (fun k hk => (hO1.lt k hk).1)
                refine hK.out _ _ (HK.out _ hB2 (box_besides hXo hgrow hNo_1)) (fun hHeld => ?_)
                clear hK K
                have hE := box_besides hXo hgrow hNo_1
                have hF := ne_next hNo_1 hXo.lt hat
                clear hXo hNo_1
                have hXo := hE
                have hNo_1 := hF
                clear hE hF
                have hE := box_besides hXq hgrow hNq_1
                have hF := ne_next hNq_1 hXq.lt hat
                clear hXq hNq_1
                have hXq := hE
                have hNq_1 := hF
                clear hE hF
                clear hO1 hB hgrow hat hnn
                have hO1 := hown
                have hB := hB2
                clear hown hB2
                refine wpAnyH_done (by kernel_rfl) ?_ _
                refine hR.out _ _ (fun hHeld2 => ?_)
                clear hR
                skip
                refine wpAnyH_take (i := 16) (v := ?v1) rfl (by kernel_rfl) (by kernel_rfl) (by kernel_rfl) (fun _ _ _ h => h) (Or.inl ⟨by rfl, ?hy1⟩) (by assumption) ?rest1
                case hy1 => (intro wq hSw; (try dsimp only at hSw); go_split_ands; go_simp; (try with_reducible rfl))
                case rest1 =>
                refine wpAnyH_ready (rs := [17]) (by kernel_rfl) (by simp) ?_
                refine AllReadyH.cons rfl (fun K hK => ?step2) ?more2
                case step2 =>
                  have sc0 := hXo.cell 1
                  have sf0 := hXo.frozen 1
                  simp only [List.getElem?_toArray, List.getElem?_cons_zero, List.getElem?_cons_succ] at sc0
                  have hBs := (Below.setCell hB (p := ⟨O, 1, none⟩) hXAo (.slice e4 k4 f4))
                  have hXs := (Bx.set_ hXo 1 (.slice e4 k4 f4))
                  have hXoq := (Bx.far (p := ⟨O, 1, none⟩) hXq hGo_q.symm (.slice e4 k4 f4))
                  have hOs1 := (own_set hO1 (p := ⟨O, 1, none⟩) (fun q hq e => hNo_1 (by rw [hq]; exact congrArg some e)) (.slice e4 k4 f4))
                  go_simp
                  refine hK.out _ _ (HT.out _ hBs) (fun hHeld => ?_)
                  clear hK K
                  clear hB hXo hXq hO1 sc0 sf0
                  generalize (x16.setCell ⟨O, 1, none⟩ (.slice e4 k4 f4)) = x17 at *
                  have hB := hBs
                  have hXo := hXs
                  have hXq := hXoq
                  have hO1 := hOs1
                  clear hBs hXs hXoq hOs1
                  simp at hXo
                  refine wpAnyH_done (by kernel_rfl) ?_ _
                  have HOx := Lib.hid (show Own LProxy.rec 70 _ W.heap.size _ (put r.proxies ⟨m, t⟩) from HPUT.out ▸ hO1)
                  have HXx := Lib.hid hXo
                  clear hO1 hXo
                  go_wp2_with fail
                  go_meet
                  exact ⟨e4, k4, f4, rfl, HXx, HOx, hB⟩
                case more2 => exact AllReadyH.nil
              case more25 => exact AllReadyH.nil
            case more24 => exact AllReadyH.nil
          case more23 => exact AllReadyH.nil
        case more22 => exact AllReadyH.nil
      case more21 => exact AllReadyH.nil
  case rest =>
  obtain ⟨b5, m5, d5, rfl, BO5', HO5, hb5⟩ := hcut
  have HP5 := Lib.hid (HP0.out.kept hb5)
  have BR5' := Lib.hid (BR.out.kept hb5)
  have hbF := hbW.trans (hb5.mono hbW.size)
  clear hbW hb5 hba BO
  have HG2 := Lib.hid (VoG.l12Good _ (given r m t) _ ⟨_, _, rfl, HP5.out.is, HO5.out.is⟩ (given_lens HGP.out).1 (given_lens HGP.out).2)
  have y0 := BO5'.out.cell 0
  have y1 := BO5'.out.cell 1
  simp only [List.getElem?_toArray, List.getElem?_cons_zero, List.getElem?_cons_succ] at y0 y1
  go_wp2_with fail
  refine HG2.out.mono ?_
  rintro e w4 ⟨rfl, hb1⟩
  have BO6 := Lib.hid (BO5'.out.kept hb1)
  have BR := Lib.hid (BR5'.out.kept hb1)
  have HP6 := Lib.hid (HP5.out.kept hb1)
  have HO6 := Lib.hid (HO5.out.kept hb1)
  replace hbF := hbF.trans (hb1.mono hbF.size)
  clear hb1 y0 y1 HG2
  have hz := HZ.out
  have hza := HZA.out
  have hoo := HOO.out
  cases hv : good (given r m t) with
  | false =>
    have HA := Lib.hid (no2 (r := r) hv)
    clear hv
    have BR5 := BR.out
    have r0 := BR5.cell 0
    have r1 := BR5.cell 1
    simp only [List.getElem?_toArray, List.getElem?_cons_zero, List.getElem?_cons_succ] at r0 r1
    have z0 := BR5.frozen 0
    have z1 := BR5.frozen 1
    have hRF := (Bx.set_ (Bx.set_ BR5 0 (.slice none 0 0)) 1 (.slice none 0 0))
    have c0 := hRF.cell 0
    have c1 := hRF.cell 1
    simp at c0 c1
    clear hRF
    go_wp2_with fail
    refine bodyPost_ret (v := .tuple #[.agg #[.slice none 0 0, .slice none 0 0], .bool false]) (by simp [results, Try.results28, go_sem, c0, c1]) rfl ?_
    exact ⟨_, zeroV, false, rfl, HA.out, LVoters.Own.zero, (Below.setCell (Below.setCell hbF (p := ⟨w.heap.size + 1, 0, none⟩) (by show w.heap.size ≤ w.heap.size + 1; omega) (.slice none 0 0)) (p := ⟨w.heap.size + 1, 1, none⟩) (by show w.heap.size ≤ w.heap.size + 1; omega) (.slice none 0 0))⟩
  | true =>
    have HA := Lib.hid (yes HGG.out hv)
    clear hv
    have BO5 := BO6.out
    have BR5 := BR.out
    have p0 := HP6.out
    have p1 := HO6.out
    have d05 := dist_call HP0.out HO5.out
    have y0 := BO5.cell 0
    have y1 := BO5.cell 1
    simp only [List.getElem?_toArray, List.getElem?_cons_zero, List.getElem?_cons_succ] at y0 y1
    have r0 := BR5.cell 0
    have r1 := BR5.cell 1
    simp only [List.getElem?_toArray, List.getElem?_cons_zero, List.getElem?_cons_succ] at r0 r1
    have z0 := BR5.frozen 0
    have z1 := BR5.frozen 1
    have hRF := (Bx.set_ (Bx.set_ BR5 0 (.slice b3 m3 d3)) 1 (.slice b5 m5 d5))
    have c0 := hRF.cell 0
    have c1 := hRF.cell 1
    simp at c0 c1
    clear hRF
    go_wp2_with fail
    refine bodyPost_ret (v := .tuple #[.agg #[.slice b3 m3 d3, .slice b5 m5 d5], .bool true]) (by simp [results, Try.results28, go_sem, c0, c1]) rfl ?_
    exact ⟨_, given r m t, true, rfl, HA.out, ⟨_, _, rfl, ((own_set (own_set p0 (p := ⟨w.heap.size + 1, 0, none⟩) (fun k hk => by have h2 := (p0.lt k hk).1; show k ≠ w.heap.size + 1; omega) (.slice b3 m3 d3)) (p := ⟨w.heap.size + 1, 1, none⟩) (fun k hk => by have h2 := (p0.lt k hk).1; show k ≠ w.heap.size + 1; omega) (.slice b5 m5 d5))).low (by omega), ((own_set (own_set p1 (p := ⟨w.heap.size + 1, 0, none⟩) (fun k hk => by have h2 := (p1.lt k hk).1; show k ≠ w.heap.size + 1; omega) (.slice b3 m3 d3)) (p := ⟨w.heap.size + 1, 1, none⟩) (fun k hk => by have h2 := (p1.lt k hk).1; show k ≠ w.heap.size + 1; omega) (.slice b5 m5 d5))).low (by omega), d05⟩, (Below.setCell (Below.setCell hbF (p := ⟨w.heap.size + 1, 0, none⟩) (by show w.heap.size ≤ w.heap.size + 1; omega) (.slice b3 m3 d3)) (p := ⟨w.heap.size + 1, 1, none⟩) (by show w.heap.size ≤ w.heap.size + 1; omega) (.slice b5 m5 d5))⟩
set_option maxRecDepth 100000 in
set_option maxHeartbeats 1600000 in
theorem impl (v0 : Value) (r : V) (m t : Int) (w : World) (h0 : LVoters.IsQ w v0 r) (f0 : LVoters.Fine r) (l0 : r.weights.length ≤ 1048576) (l1 : r.proxies.length ≤ 1048576) : Calls Try.prog 27 #[v0, .int .i64 m, .int .i64 t] w (Post r m t w) := by
  obtain ⟨a0, n0, c0, a1, n1, c1, rfl, HN0, HN1, hb0, hb1', hm0, hm1, HQ0, HQ1, HIQ⟩ := open_isq h0
  clear h0
  have HI := Lib.hid (LVoters.IsQ.is HIQ.out)
  have HL := Lib.hid (And.intro l0 l1)
  clear l0 l1 f0
  obtain ⟨W, hW⟩ : ∃ W : World, W = (w.alloc (Obj.cells #[.slice a0 n0 c0, .slice a1 n1 c1] 27)).alloc (Obj.cells #[.slice none 0 0, .slice none 0 0] 27) := ⟨_, rfl⟩
  have hbW : Below w.heap.size w W := by rw [hW]; exact ((Below.refl _ _).alloc (Nat.le_refl _) _).alloc (by simp) _
  have HZ := Lib.hid (show W.heap.size = w.heap.size + 2 by rw [hW]; simp)
  have B0 := Lib.hid (show Bx W w.heap.size 27 #[.slice a0 n0 c0, .slice a1 n1 c1] by rw [hW]; exact (Bx.new _ _ _).alloc _)
  have BR := Lib.hid (show Bx W (w.heap.size + 1) 27 #[.slice none 0 0, .slice none 0 0] by rw [hW]; have := Bx.new (w.alloc (Obj.cells #[.slice a0 n0 c0, .slice a1 n1 c1] 27)) 27 #[.slice none 0 0, .slice none 0 0]; simpa using this)
  have HC := Lib.hid (VoI.areVoters _ r W (LVoters.Is.below HI.out hbW) HL.out.1 HL.out.2)
  have q0 := B0.out.cell 0
  have q1 := B0.out.cell 1
  simp only [List.getElem?_toArray, List.getElem?_cons_zero, List.getElem?_cons_succ] at q0 q1
  go_enter Try.func27, Try.ntmps27
  go_wp2_with fail
  rw [← hW]
  clear hW
  refine HC.out.mono ?_
  rintro e w1 ⟨rfl, hb1⟩
  replace BR := Lib.hid (BR.out.kept hb1)
  replace B0 := Lib.hid (B0.out.kept hb1)
  replace HZ := Lib.hid (show w.heap.size + 2 ≤ w1.heap.size by have := HZ.out; have := hb1.size; omega)
  replace hbW := hbW.trans (hb1.mono hbW.size)
  clear hb1
  clear q0 q1
  have q0 := B0.out.cell 0
  have q1 := B0.out.cell 1
  simp only [List.getElem?_toArray, List.getElem?_cons_zero, List.getElem?_cons_succ] at q0 q1
  cases hg : good r with
  | false =>
    have HA := Lib.hid (show Ans r m t zeroV false from no1 hg)
    clear hg
    have BR5 := BR.out
    have r0 := BR5.cell 0
    have r1 := BR5.cell 1
    simp only [List.getElem?_toArray, List.getElem?_cons_zero, List.getElem?_cons_succ] at r0 r1
    have z0 := BR5.frozen 0
    have z1 := BR5.frozen 1
    have hRF := (Bx.set_ (Bx.set_ BR5 0 (.slice none 0 0)) 1 (.slice none 0 0))
    have c0 := hRF.cell 0
    have c1 := hRF.cell 1
    simp at c0 c1
    clear hRF
    go_wp2_with fail
    refine bodyPost_ret (v := .tuple #[.agg #[.slice none 0 0, .slice none 0 0], .bool false]) (by simp [results, Try.results27, go_sem, c0, c1]) rfl ?_
    exact ⟨_, zeroV, false, rfl, HA.out, LVoters.Own.zero, (Below.setCell (Below.setCell hbW (p := ⟨w.heap.size + 1, 0, none⟩) (by show w.heap.size ≤ w.heap.size + 1; omega) (.slice none 0 0)) (p := ⟨w.heap.size + 1, 1, none⟩) (by show w.heap.size ≤ w.heap.size + 1; omega) (.slice none 0 0))⟩
  | true =>
  have HGP := Lib.hid (good_of hg)
  have HGG := Lib.hid hg
  have HLN := Lib.hid (lens HGP.out)
  have HFP := Lib.hid (VoB.findProxy _ r m w1 (LVoters.Is.below HI.out hbW) HGP.out.p HL.out.2)
  clear hg
  have HPL := Lib.hid (pos_le r.proxies m)
  obtain ⟨k, hk⟩ : ∃ k, k = pos r.proxies m := ⟨_, rfl⟩
  rw [← hk] at HFP HPL
  have HKP := Lib.hid hk
  clear hk
  go_wp2_with fail
  refine HFP.out.mono ?_
  rintro e w2 ⟨rfl, hb1⟩
  replace BR := Lib.hid (BR.out.kept hb1)
  replace B0 := Lib.hid (B0.out.kept hb1)
  replace HZ := Lib.hid (show w.heap.size + 2 ≤ w2.heap.size by have := HZ.out; have := hb1.size; omega)
  replace hbW := hbW.trans (hb1.mono hbW.size)
  clear hb1
  clear q0 q1 HFP
  have q0 := B0.out.cell 0
  have q1 := B0.out.cell 1
  simp only [List.getElem?_toArray, List.getElem?_cons_zero, List.getElem?_cons_succ] at q0 q1
  cases hh : has r.proxies m with
  | true =>
    have HOE := Lib.hid (show r.proxies.take k ++ [(⟨m, t⟩ : P)] ++ r.proxies.drop (k + 1) = (given r m t).proxies by rw [HKP.out]; exact put_yes hh)
    have HKL := Lib.hid (show (k + 1) ≤ r.proxies.length by rw [HKP.out]; exact has_lt hh)
    clear hh
    obtain ⟨wq, hwq⟩ : ∃ wq : World, wq = w2.alloc (Obj.cells #[.int .i64 m, .int .i64 t] 70) := ⟨_, rfl⟩
    obtain ⟨q, hq⟩ : ∃ q, q = w2.heap.size := ⟨_, rfl⟩
    have hb1 : Below w2.heap.size w2 wq := by rw [hwq]; exact (Below.refl _ _).alloc (Nat.le_refl _) _
    have BQ := Lib.hid (show Bx wq q 70 #[.int .i64 m, .int .i64 t] by rw [hwq, hq]; exact Bx.new _ _ _)
    have HIX := Lib.hid (show IsQ LProxy.rec wq (.slice (some ⟨q, 0, none⟩) 1 1) [(⟨m, t⟩ : P)] from .inr (IsS.unit LProxy.rec BQ.out.lt (at_one BQ.out)))
    replace BR := Lib.hid (BR.out.kept hb1)
    replace B0 := Lib.hid (B0.out.kept hb1)
    replace HZ := Lib.hid (show w.heap.size + 2 ≤ wq.heap.size by have := HZ.out; have := hb1.size; omega)
    replace hbW := hbW.trans (hb1.mono hbW.size)
    clear hb1
    have HWP := VoP.withProxies _ r k (k + 1) (some ⟨q, 0, none⟩) 1 1 [⟨m, t⟩] wq (LVoters.IsQ.below HIQ.out hbW) HIX.out HPL.out HKL.out (by have := HLN.out; omega) (by have := HLN.out; omega) (by omega)
    rw [HOE.out, show (((k + 1 : Nat)) : Int) = (k : Int) + 1 by omega] at HWP
    have HWP := Lib.hid HWP
    have e1 : IntKind.i64.wrap ((k : Int) + 1) = (k : Int) + 1 := IntWalk.i64_in _ (by have := HPL.out; have := HLN.out; omega)
    go_wp2_with fail
    rw [← hwq, ← hq]
    refine HWP.out.mono ?_
    rintro e w3 ⟨v, rfl, hO, hb1⟩
    obtain ⟨u0, u1, rfl, p0, p1, d01⟩ := hO
    obtain ⟨b3, m3, d3, rfl⟩ := own_slice p0
    obtain ⟨b4, m4, d4, rfl⟩ := own_slice p1
    clear hwq hq
    obtain ⟨O, hO⟩ : ∃ O, O = w3.heap.size := ⟨_, rfl⟩
    obtain ⟨wa, hwa⟩ : ∃ wa : World, wa = w3.alloc (Obj.cells #[.slice b3 m3 d3, .slice b4 m4 d4] 27) := ⟨_, rfl⟩
    have hba : Below w3.heap.size w3 wa := by rw [hwa]; exact (Below.refl _ _).alloc (Nat.le_refl _) _
    have BO := Lib.hid (show Bx wa O 27 #[.slice b3 m3 d3, .slice b4 m4 d4] by rw [hwa, hO]; exact Bx.new _ _ _)
    have HO0 := Lib.hid (p0.kept hba)
    have HO1 := Lib.hid (p1.kept hba)
    have HZQ := HZ
    replace hb1 := hb1.trans (hba.mono hb1.size)
    clear p0 p1 hba q0 q1
    replace BR := Lib.hid (BR.out.kept hb1)
    replace B0 := Lib.hid (B0.out.kept hb1)
    replace HZ := Lib.hid (show w.heap.size + 2 ≤ wa.heap.size by have := HZ.out; have := hb1.size; omega)
    replace hbW := hbW.trans (hb1.mono hbW.size)
    clear hb1
    go_upto_region 8 with fail
    rw [← hwa, ← hO]
    clear hwa hO
    have HG2 := Lib.hid (VoI.areVoters _ (given r m t) wa ⟨_, _, rfl, HO0.out.is, HO1.out.is⟩ (given_lens HGP.out).1 (given_lens HGP.out).2)
    have y0 := BO.out.cell 0
    have y1 := BO.out.cell 1
    simp only [List.getElem?_toArray, List.getElem?_cons_zero, List.getElem?_cons_succ] at y0 y1
    go_wp2_with fail
    refine HG2.out.mono ?_
    rintro e w4 ⟨rfl, hb1⟩
    replace BO := Lib.hid (BO.out.kept hb1)
    replace HO0 := Lib.hid (HO0.out.kept hb1)
    replace HO1 := Lib.hid (HO1.out.kept hb1)
    replace BR := Lib.hid (BR.out.kept hb1)
    replace B0 := Lib.hid (B0.out.kept hb1)
    replace HZ := Lib.hid (show w.heap.size + 2 ≤ w4.heap.size by have := HZ.out; have := hb1.size; omega)
    replace hbW := hbW.trans (hb1.mono hbW.size)
    clear hb1
    clear y0 y1
    have hz := HZQ.out
    cases hv : good (given r m t) with
    | false =>
      have HA := Lib.hid (no2 (r := r) hv)
      clear hv
      have BR5 := BR.out
      have r0 := BR5.cell 0
      have r1 := BR5.cell 1
      simp only [List.getElem?_toArray, List.getElem?_cons_zero, List.getElem?_cons_succ] at r0 r1
      have z0 := BR5.frozen 0
      have z1 := BR5.frozen 1
      have hRF := (Bx.set_ (Bx.set_ BR5 0 (.slice none 0 0)) 1 (.slice none 0 0))
      have c0 := hRF.cell 0
      have c1 := hRF.cell 1
      simp at c0 c1
      clear hRF
      go_wp2_with fail
      refine bodyPost_ret (v := .tuple #[.agg #[.slice none 0 0, .slice none 0 0], .bool false]) (by simp [results, Try.results27, go_sem, c0, c1]) rfl ?_
      exact ⟨_, zeroV, false, rfl, HA.out, LVoters.Own.zero, (Below.setCell (Below.setCell hbW (p := ⟨w.heap.size + 1, 0, none⟩) (by show w.heap.size ≤ w.heap.size + 1; omega) (.slice none 0 0)) (p := ⟨w.heap.size + 1, 1, none⟩) (by show w.heap.size ≤ w.heap.size + 1; omega) (.slice none 0 0))⟩
    | true =>
      have HA := Lib.hid (yes HGG.out hv)
      clear hv
      have BO5 := BO.out
      have BR5 := BR.out
      have p0 := HO0.out
      have p1 := HO1.out
      have y0 := BO5.cell 0
      have y1 := BO5.cell 1
      simp only [List.getElem?_toArray, List.getElem?_cons_zero, List.getElem?_cons_succ] at y0 y1
      have r0 := BR5.cell 0
      have r1 := BR5.cell 1
      simp only [List.getElem?_toArray, List.getElem?_cons_zero, List.getElem?_cons_succ] at r0 r1
      have z0 := BR5.frozen 0
      have z1 := BR5.frozen 1
      have hRF := (Bx.set_ (Bx.set_ BR5 0 (.slice b3 m3 d3)) 1 (.slice b4 m4 d4))
      have c0 := hRF.cell 0
      have c1 := hRF.cell 1
      simp at c0 c1
      clear hRF
      go_wp2_with fail
      refine bodyPost_ret (v := .tuple #[.agg #[.slice b3 m3 d3, .slice b4 m4 d4], .bool true]) (by simp [results, Try.results27, go_sem, c0, c1]) rfl ?_
      exact ⟨_, given r m t, true, rfl, HA.out, ⟨_, _, rfl, ((own_set (own_set p0 (p := ⟨w.heap.size + 1, 0, none⟩) (fun k hk => by have h2 := (p0.lt k hk).1; show k ≠ w.heap.size + 1; omega) (.slice b3 m3 d3)) (p := ⟨w.heap.size + 1, 1, none⟩) (fun k hk => by have h2 := (p0.lt k hk).1; show k ≠ w.heap.size + 1; omega) (.slice b4 m4 d4))).low (by omega), ((own_set (own_set p1 (p := ⟨w.heap.size + 1, 0, none⟩) (fun k hk => by have h2 := (p1.lt k hk).1; show k ≠ w.heap.size + 1; omega) (.slice b3 m3 d3)) (p := ⟨w.heap.size + 1, 1, none⟩) (fun k hk => by have h2 := (p1.lt k hk).1; show k ≠ w.heap.size + 1; omega) (.slice b4 m4 d4))).low (by omega), d01⟩, (Below.setCell (Below.setCell hbW (p := ⟨w.heap.size + 1, 0, none⟩) (by show w.heap.size ≤ w.heap.size + 1; omega) (.slice b3 m3 d3)) (p := ⟨w.heap.size + 1, 1, none⟩) (by show w.heap.size ≤ w.heap.size + 1; omega) (.slice b4 m4 d4))⟩
  | false =>
    have HOE := Lib.hid (show r.proxies.take k ++ [(⟨m, t⟩ : P)] ++ r.proxies.drop k = (given r m t).proxies by rw [HKP.out]; exact put_no hh)
    have HKL := Lib.hid (show k ≤ r.proxies.length by exact HPL.out)
    clear hh
    obtain ⟨wq, hwq⟩ : ∃ wq : World, wq = w2.alloc (Obj.cells #[.int .i64 m, .int .i64 t] 70) := ⟨_, rfl⟩
    obtain ⟨q, hq⟩ : ∃ q, q = w2.heap.size := ⟨_, rfl⟩
    have hb1 : Below w2.heap.size w2 wq := by rw [hwq]; exact (Below.refl _ _).alloc (Nat.le_refl _) _
    have BQ := Lib.hid (show Bx wq q 70 #[.int .i64 m, .int .i64 t] by rw [hwq, hq]; exact Bx.new _ _ _)
    have HIX := Lib.hid (show IsQ LProxy.rec wq (.slice (some ⟨q, 0, none⟩) 1 1) [(⟨m, t⟩ : P)] from .inr (IsS.unit LProxy.rec BQ.out.lt (at_one BQ.out)))
    replace BR := Lib.hid (BR.out.kept hb1)
    replace B0 := Lib.hid (B0.out.kept hb1)
    replace HZ := Lib.hid (show w.heap.size + 2 ≤ wq.heap.size by have := HZ.out; have := hb1.size; omega)
    replace hbW := hbW.trans (hb1.mono hbW.size)
    clear hb1
    have HWP := VoP.withProxies _ r k k (some ⟨q, 0, none⟩) 1 1 [⟨m, t⟩] wq (LVoters.IsQ.below HIQ.out hbW) HIX.out HPL.out HKL.out (by have := HLN.out; omega) (by have := HLN.out; omega) (by omega)
    rw [HOE.out] at HWP
    have HWP := Lib.hid HWP
    have e1 : IntKind.i64.wrap ((k : Int) + 1) = (k : Int) + 1 := IntWalk.i64_in _ (by have := HPL.out; have := HLN.out; omega)
    go_wp2_with fail
    rw [← hwq, ← hq]
    refine HWP.out.mono ?_
    rintro e w3 ⟨v, rfl, hO, hb1⟩
    obtain ⟨u0, u1, rfl, p0, p1, d01⟩ := hO
    obtain ⟨b3, m3, d3, rfl⟩ := own_slice p0
    obtain ⟨b4, m4, d4, rfl⟩ := own_slice p1
    clear hwq hq
    obtain ⟨O, hO⟩ : ∃ O, O = w3.heap.size := ⟨_, rfl⟩
    obtain ⟨wa, hwa⟩ : ∃ wa : World, wa = w3.alloc (Obj.cells #[.slice b3 m3 d3, .slice b4 m4 d4] 27) := ⟨_, rfl⟩
    have hba : Below w3.heap.size w3 wa := by rw [hwa]; exact (Below.refl _ _).alloc (Nat.le_refl _) _
    have BO := Lib.hid (show Bx wa O 27 #[.slice b3 m3 d3, .slice b4 m4 d4] by rw [hwa, hO]; exact Bx.new _ _ _)
    have HO0 := Lib.hid (p0.kept hba)
    have HO1 := Lib.hid (p1.kept hba)
    have HZQ := HZ
    replace hb1 := hb1.trans (hba.mono hb1.size)
    clear p0 p1 hba q0 q1
    replace BR := Lib.hid (BR.out.kept hb1)
    replace B0 := Lib.hid (B0.out.kept hb1)
    replace HZ := Lib.hid (show w.heap.size + 2 ≤ wa.heap.size by have := HZ.out; have := hb1.size; omega)
    replace hbW := hbW.trans (hb1.mono hbW.size)
    clear hb1
    go_upto_region 8 with fail
    rw [← hwa, ← hO]
    clear hwa hO
    have HG2 := Lib.hid (VoI.areVoters _ (given r m t) wa ⟨_, _, rfl, HO0.out.is, HO1.out.is⟩ (given_lens HGP.out).1 (given_lens HGP.out).2)
    have y0 := BO.out.cell 0
    have y1 := BO.out.cell 1
    simp only [List.getElem?_toArray, List.getElem?_cons_zero, List.getElem?_cons_succ] at y0 y1
    go_wp2_with fail
    refine HG2.out.mono ?_
    rintro e w4 ⟨rfl, hb1⟩
    replace BO := Lib.hid (BO.out.kept hb1)
    replace HO0 := Lib.hid (HO0.out.kept hb1)
    replace HO1 := Lib.hid (HO1.out.kept hb1)
    replace BR := Lib.hid (BR.out.kept hb1)
    replace B0 := Lib.hid (B0.out.kept hb1)
    replace HZ := Lib.hid (show w.heap.size + 2 ≤ w4.heap.size by have := HZ.out; have := hb1.size; omega)
    replace hbW := hbW.trans (hb1.mono hbW.size)
    clear hb1
    clear y0 y1
    have hz := HZQ.out
    cases hv : good (given r m t) with
    | false =>
      have HA := Lib.hid (no2 (r := r) hv)
      clear hv
      have BR5 := BR.out
      have r0 := BR5.cell 0
      have r1 := BR5.cell 1
      simp only [List.getElem?_toArray, List.getElem?_cons_zero, List.getElem?_cons_succ] at r0 r1
      have z0 := BR5.frozen 0
      have z1 := BR5.frozen 1
      have hRF := (Bx.set_ (Bx.set_ BR5 0 (.slice none 0 0)) 1 (.slice none 0 0))
      have c0 := hRF.cell 0
      have c1 := hRF.cell 1
      simp at c0 c1
      clear hRF
      go_wp2_with fail
      refine bodyPost_ret (v := .tuple #[.agg #[.slice none 0 0, .slice none 0 0], .bool false]) (by simp [results, Try.results27, go_sem, c0, c1]) rfl ?_
      exact ⟨_, zeroV, false, rfl, HA.out, LVoters.Own.zero, (Below.setCell (Below.setCell hbW (p := ⟨w.heap.size + 1, 0, none⟩) (by show w.heap.size ≤ w.heap.size + 1; omega) (.slice none 0 0)) (p := ⟨w.heap.size + 1, 1, none⟩) (by show w.heap.size ≤ w.heap.size + 1; omega) (.slice none 0 0))⟩
    | true =>
      have HA := Lib.hid (yes HGG.out hv)
      clear hv
      have BO5 := BO.out
      have BR5 := BR.out
      have p0 := HO0.out
      have p1 := HO1.out
      have y0 := BO5.cell 0
      have y1 := BO5.cell 1
      simp only [List.getElem?_toArray, List.getElem?_cons_zero, List.getElem?_cons_succ] at y0 y1
      have r0 := BR5.cell 0
      have r1 := BR5.cell 1
      simp only [List.getElem?_toArray, List.getElem?_cons_zero, List.getElem?_cons_succ] at r0 r1
      have z0 := BR5.frozen 0
      have z1 := BR5.frozen 1
      have hRF := (Bx.set_ (Bx.set_ BR5 0 (.slice b3 m3 d3)) 1 (.slice b4 m4 d4))
      have c0 := hRF.cell 0
      have c1 := hRF.cell 1
      simp at c0 c1
      clear hRF
      go_wp2_with fail
      refine bodyPost_ret (v := .tuple #[.agg #[.slice b3 m3 d3, .slice b4 m4 d4], .bool true]) (by simp [results, Try.results27, go_sem, c0, c1]) rfl ?_
      exact ⟨_, given r m t, true, rfl, HA.out, ⟨_, _, rfl, ((own_set (own_set p0 (p := ⟨w.heap.size + 1, 0, none⟩) (fun k hk => by have h2 := (p0.lt k hk).1; show k ≠ w.heap.size + 1; omega) (.slice b3 m3 d3)) (p := ⟨w.heap.size + 1, 1, none⟩) (fun k hk => by have h2 := (p0.lt k hk).1; show k ≠ w.heap.size + 1; omega) (.slice b4 m4 d4))).low (by omega), ((own_set (own_set p1 (p := ⟨w.heap.size + 1, 0, none⟩) (fun k hk => by have h2 := (p1.lt k hk).1; show k ≠ w.heap.size + 1; omega) (.slice b3 m3 d3)) (p := ⟨w.heap.size + 1, 1, none⟩) (fun k hk => by have h2 := (p1.lt k hk).1; show k ≠ w.heap.size + 1; omega) (.slice b4 m4 d4))).low (by omega), d01⟩, (Below.setCell (Below.setCell hbW (p := ⟨w.heap.size + 1, 0, none⟩) (by show w.heap.size ≤ w.heap.size + 1; omega) (.slice b3 m3 d3)) (p := ⟨w.heap.size + 1, 1, none⟩) (by show w.heap.size ≤ w.heap.size + 1; omega) (.slice b4 m4 d4))⟩
end Go.Proofs.Ytdjnaoaniokbgaa.GiveProxyC
