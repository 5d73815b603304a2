/- Floors: a share put where it belongs, in the model: with shares. No condition. -/
import Derived.Test.YtmbffcblhhippaaFlW
import Derived.Deep.CutBlock
namespace Go.Proofs.Ytmbffcblhhippaa.FlY
open Go.RowKit Bs Word Sq IntF Fl FlA FlG FlO FlW
set_option linter.unusedVariables false
set_option maxRecDepth 100000 in
set_option maxHeartbeats 1600000 in
theorem With_some (b4 o4 n4 c4 : Nat) (r : F) (s : S) (w : World) (a3 : Option Addr) (n3 c3 : Nat) (HIQ : LFloor.IsQ w (.agg #[.int .i64 r.turns, .int .i64 r.seconds, .int .i64 r.speaking, .slice a3 n3 c3, .slice (some ⟨b4, o4, none⟩) n4 c4]) r) (hl3 : r.waiting.length ≤ 1048577) (hl4 : r.shares.length ≤ 1048577) :
    Calls Try.prog 50 #[.agg #[.int .i64 r.turns, .int .i64 r.seconds, .int .i64 r.speaking, .slice a3 n3 c3, .slice (some ⟨b4, o4, none⟩) n4 c4], .agg #[.int .i64 s.member, .int .i64 s.turns, .int .i64 s.seconds]] w fun e w' => ∃ v, e = .returned v ∧ LFloor.Own w' w.heap.size v (withS r s) ∧ Below w.heap.size w w' := by
  have HQ4 := Lib.hid (show ∀ w' : World, Below w.heap.size w w' → IsQ LShare.rec w' (.slice (some ⟨b4, o4, none⟩) n4 c4) r.shares from fun w' hb => by
    obtain ⟨u3, u4, e, h3, h4⟩ := LFloor.IsQ.below HIQ hb
    simp only [Value.agg.injEq, Array.mk.injEq, List.cons.injEq, and_true] at e
    obtain ⟨_, _, _, rfl, rfl⟩ := e
    exact h4)
  have hq4 := isq_len (HQ4.out _ (Below.refl _ _))
  have HN4 := Lib.hid hq4.1
  have h4b := hq4.2.1
  have h4c := hq4.2.2
  unfold maxLen at h4c
  have hl4' : n4 ≤ 1048577 := by have := HN4.out; omega
  clear hq4
  obtain ⟨W0, hW⟩ : ∃ W : World, W = ((w.alloc (Obj.cells #[.int .i64 r.turns, .int .i64 r.seconds, .int .i64 r.speaking, .slice a3 n3 c3, .slice (some ⟨b4, o4, none⟩) n4 c4] 29)).alloc (Obj.cells #[.int .i64 s.member, .int .i64 s.turns, .int .i64 s.seconds] 60)).alloc (Obj.cells #[.int .i64 0, .int .i64 0, .int .i64 0, .slice none 0 0, .slice none 0 0] 29) := ⟨_, rfl⟩
  have hbW : Below w.heap.size w W0 := by rw [hW]; exact (((Below.refl _ _).alloc (Nat.le_refl _) _).alloc (by simp) _).alloc (by simp; omega) _
  have HZ0 := Lib.hid (show w.heap.size + 2 < W0.heap.size by rw [hW]; simp)
  have B0 := Lib.hid (show Bx W0 w.heap.size 29 #[.int .i64 r.turns, .int .i64 r.seconds, .int .i64 r.speaking, .slice a3 n3 c3, .slice (some ⟨b4, o4, none⟩) n4 c4] by rw [hW]; exact ((Bx.new _ _ _).alloc _).alloc _)
  have BS0 := Lib.hid (show Bx W0 (w.heap.size + 1) 60 #[.int .i64 s.member, .int .i64 s.turns, .int .i64 s.seconds] by rw [hW]; have := (Bx.new (w.alloc (Obj.cells #[.int .i64 r.turns, .int .i64 r.seconds, .int .i64 r.speaking, .slice a3 n3 c3, .slice (some ⟨b4, o4, none⟩) n4 c4] 29)) 60 #[.int .i64 s.member, .int .i64 s.turns, .int .i64 s.seconds]).alloc (Obj.cells #[.int .i64 0, .int .i64 0, .int .i64 0, .slice none 0 0, .slice none 0 0] 29); simpa using this)
  have BR := Lib.hid (show Bx W0 (w.heap.size + 2) 29 #[.int .i64 0, .int .i64 0, .int .i64 0, .slice none 0 0, .slice none 0 0] by rw [hW]; have := Bx.new ((w.alloc (Obj.cells #[.int .i64 r.turns, .int .i64 r.seconds, .int .i64 r.speaking, .slice a3 n3 c3, .slice (some ⟨b4, o4, none⟩) n4 c4] 29)).alloc (Obj.cells #[.int .i64 s.member, .int .i64 s.turns, .int .i64 s.seconds] 60)) 29 #[.int .i64 0, .int .i64 0, .int .i64 0, .slice none 0 0, .slice none 0 0]; simpa using this)
  have HC := Lib.hid (l8Own _ r W0 (LFloor.IsQ.below HIQ hbW) hl3 hl4)
  have HL3 := Lib.hid hl3
  clear hl3 hl4 HIQ
  obtain ⟨i4, hi, hz0, hz1, hz2⟩ := info_parts LShare.infoK
  have HI4 := Lib.hid hi
  have HZ4 := Lib.hid (And.intro hz0 (And.intro hz1 hz2))
  clear hi hz0 hz1 hz2
  go_enter Try.func50, Try.ntmps50
  go_wp2_with fail
  rw [← hW]
  clear hW
  refine HC.out.mono ?_
  rintro e w1 ⟨v, rfl, hO, hb1⟩
  obtain ⟨s3, s4, rfl, o3, o4, d34⟩ := hO
  obtain ⟨b3, m3, d3, rfl⟩ := own_slice o3
  obtain ⟨b5, m5, d5, rfl⟩ := own_slice o4
  clear HC o4 d34
  obtain ⟨G, hG⟩ : ∃ G, G = w1.heap.size := ⟨_, rfl⟩
  obtain ⟨wa, hwa⟩ : ∃ wa : World, wa = w1.alloc (Obj.cells #[.int .i64 r.turns, .int .i64 r.seconds, .int .i64 r.speaking, .slice b3 m3 d3, .slice b5 m5 d5] 29) := ⟨_, rfl⟩
  have hba : Below w1.heap.size w1 wa := by rw [hwa]; exact (Below.refl _ _).alloc (Nat.le_refl _) _
  have HGA := Lib.hid (show G < wa.heap.size by rw [hwa, hG]; simp)
  have BO := Lib.hid (show Bx wa G 29 #[.int .i64 r.turns, .int .i64 r.seconds, .int .i64 r.speaking, .slice b3 m3 d3, .slice b5 m5 d5] by rw [hwa, hG]; exact Bx.new _ _ _)
  have hb2 := hb1.trans (hba.mono hb1.size)
  replace B0 := Lib.hid (B0.out.kept hb2)
  replace BS0 := Lib.hid (BS0.out.kept hb2)
  replace BR := Lib.hid (BR.out.kept hb2)
  have HO3 := Lib.hid (o3.kept hba)
  have HN3G := Lib.hid (show ∀ k, (Value.slice b3 m3 d3).ownBlock = some k → k < G from fun k hk => by rw [hG]; exact (o3.lt k hk).2)
  have HG := Lib.hid (show w.heap.size ≤ G ∧ w.heap.size + 2 < G by have h1 := HZ0.out; have h2 := hb1.size; omega)
  have hbT := hbW.trans (hb2.mono hbW.size)
  have HZ := Lib.hid (show w.heap.size + 2 < W0.heap.size from HZ0.out)
  clear HZ0 o3 hb1 hb2 hba hbW
  go_upto_region 2 with fail
  rw [← hwa, ← hG]
  clear hwa hG
  go_upto_block 0 with fail
  go_cut [6] (fun t wx => t = .int .i64 (pos r.shares s.member : Nat) ∧ Below wa.heap.size wa wx)
  case first =>
    go_wp2_with fail
    go_loopw [6] (fun s6 wr => ∃ k : Nat, s6 = .int .i64 k ∧ k ≤ n4 ∧ Below wa.heap.size wa wr ∧ Hid (First (fun X => !decide (X.member < s.member)) r.shares k)) (fun s6 _ => n4 - (intOf s6).toNat)
    case atStart => exact ⟨0, rfl, Nat.zero_le _, Below.refl _ _, Lib.hid first_zero⟩
    case round =>
      obtain ⟨k, rfl, hk, hbr, HF⟩ := hrel
      have B1 := B0.out.kept hbr
      have S1 := BS0.out.kept hbr
      have q4 := B1.cell 4
      have x0' := S1.cell 0
      simp only [List.getElem?_toArray, List.getElem?_cons_zero, List.getElem?_cons_succ] at q4 x0'
      by_cases hlt : k < n4
      · have hx : k < r.shares.length := by have := HN4.out; omega
        obtain ⟨hbl, hcell0⟩ := isS_at (isq_isS (HQ4.out _ (hbT.trans (hbr.mono hbT.size)))) (List.getElem?_eq_getElem hx)
        obtain ⟨y0, y1, y2⟩ := LShare.cells hcell0
        simp only [LShare.rec_n] at y0 y1 y2
        have HX := Lib.hid (List.getElem?_eq_getElem hx)
        clear hcell0
        generalize r.shares[k] = X at *
        have i0 : 0 ≤ (k : Int) := by omega
        have i1 : (k : Int) < (n4 : Int) := by omega
        by_cases hl : X.member < s.member
        · have HF2 := Lib.hid (first_next HF.out HX.out (by simpa using hl))
          go_wp2_with fail
          go_quiet (fail)
          go_wp2_with fail
          go_roundw
          case rel => exact ⟨k + 1, by go_num, by omega, hbr.trans ((drawn_below _ _).mono hbr.size), HF2⟩
          case measure => simp [intOf]; omega
        · have HP := Lib.hid (pos_hit HF.out HX.out hl)
          go_wp2_with fail
          go_quiet (fail)
          go_wp2_with fail
          go_meet
          exact ⟨by rw [HP.out], hbr.trans ((drawn_below _ _).mono hbr.size)⟩
      · have HP := Lib.hid (pos_none (m := s.member) HF.out (by have := HN4.out; omega))
        go_wp2_with fail
        go_quiet (fail)
        go_wp2_with fail
        go_meet
        exact ⟨by rw [HP.out], hbr.trans ((drawn_below _ _).mono hbr.size)⟩
  case rest =>
  obtain ⟨rfl, hbx⟩ := hcut
  obtain ⟨k, hk⟩ : ∃ k, k = pos r.shares s.member := ⟨_, rfl⟩
  rw [← hk]
  have HKP := Lib.hid hk
  have HKL := Lib.hid (show k ≤ n4 by rw [hk, ← HN4.out]; exact pos_le _ _)
  clear hk
  obtain ⟨wb, hwb⟩ : ∃ x, x = wc := ⟨_, rfl⟩
  subst hwb
  replace HGA := Lib.hid (Nat.lt_of_lt_of_le HGA.out hbx.size)
  replace B0 := Lib.hid (B0.out.kept hbx)
  replace BS0 := Lib.hid (BS0.out.kept hbx)
  replace BR := Lib.hid (BR.out.kept hbx)
  replace BO := Lib.hid (BO.out.kept hbx)
  replace HO3 := Lib.hid (HO3.out.kept hbx)
  replace hbT := hbT.trans (hbx.mono hbT.size)
  clear hbx
  have hkl := HKL.out
  have k0 : 0 ≤ (k : Int) := by omega
  have k1 : (k : Int) ≤ (n4 : Int) := by omega
  have k2 : (k : Int) ≤ (c4 : Int) := by omega
  have q4 := B0.out.cell 4
  simp only [List.getElem?_toArray, List.getElem?_cons_zero, List.getElem?_cons_succ] at q4
  obtain ⟨oD, hoD⟩ : ∃ oD, (if c4 = k then some (⟨b4, o4, none⟩ : Addr) else some ⟨b4, o4 + k * 3, none⟩) = some ⟨b4, oD, none⟩ := by
    by_cases h : c4 = k
    · exact ⟨_, if_pos h⟩
    · exact ⟨_, if_neg h⟩
  have HSD := Lib.hid (show ∀ w' : World, Below wb.heap.size wb w' → IsS LShare.rec w' (.slice (some ⟨b4, oD, none⟩) (n4 - k) (c4 - k)) (r.shares.drop k) from fun w' hb =>
    (isq_isS (HQ4.out _ (hbT.trans (hb.mono hbT.size)))).drop LShare.rec (k := k) (some ⟨b4, oD, none⟩) (by rw [show LShare.rec.n = 3 from rfl]; exact hoD.symm) hkl _ _ rfl rfl)
  have x0' := BS0.out.cell 0
  simp only [List.getElem?_toArray, List.getElem?_cons_zero] at x0'
  go_upto_region 6 with fail
  go_cut [43] (fun t wx => t = .bool (has r.shares s.member) ∧ Below wb.heap.size wb wx)
  case first =>
    cases hh : has r.shares s.member with
    | true =>
      have HH := Lib.hid hh
      obtain ⟨X, hX, hXm⟩ := has_get hh
      rw [← HKP.out] at hX
      have hkn : k < n4 := by have := (List.getElem?_eq_some_iff.1 hX).1; have := HN4.out; omega
      have hX2 : (r.shares.drop k)[0]? = some X := by rw [List.getElem?_drop]; exact hX
      obtain ⟨hbl, hcell0⟩ := isS_at (HSD.out _ (Below.refl _ _)) hX2
      obtain ⟨y0, y1, y2⟩ := LShare.cells hcell0
      simp only [LShare.rec_n, Nat.zero_mul, Nat.add_zero] at y0 y1 y2
      have g1 : (0 : Int) < ((n4 - k : Nat) : Int) := by omega
      have g2 : (X.member == s.member) = true := by simpa using hXm
      have g5 : 0 < n4 - k := by omega
      clear hX hX2 hXm hcell0 hh
      go_wp2_with fail
      go_quiet (fail)
      go_wp2_with fail
      go_meet
      exact ⟨by rw [HH.out], drawn_below _ _⟩
    | false =>
      have HH := Lib.hid hh
      by_cases hkn : k < n4
      · have hx : k < r.shares.length := by have := HN4.out; omega
        have hX2 : (r.shares.drop k)[0]? = some r.shares[k] := by rw [List.getElem?_drop]; exact List.getElem?_eq_getElem hx
        have hne : (r.shares[k].member == s.member) = false := by rw [← has_some (z := r.shares) (m := s.member) (by rw [← HKP.out]; exact List.getElem?_eq_getElem hx)]; exact hh
        obtain ⟨hbl, hcell0⟩ := isS_at (HSD.out _ (Below.refl _ _)) hX2
        obtain ⟨y0, y1, y2⟩ := LShare.cells hcell0
        simp only [LShare.rec_n, Nat.zero_mul, Nat.add_zero] at y0 y1 y2
        generalize r.shares[k] = X at *
        have g1 : (0 : Int) < ((n4 - k : Nat) : Int) := by omega
        have g5 : 0 < n4 - k := by omega
        clear hX2 hcell0 hh
        go_wp2_with fail
        go_quiet (fail)
        go_wp2_with fail
        go_meet
        exact ⟨by rw [HH.out], drawn_below _ _⟩
      · have g1 : ((n4 - k : Nat) : Int) = 0 := by omega
        have g2 : n4 - k = 0 := by omega
        clear hh
        go_wp2_with fail
        go_quiet (fail)
        go_wp2_with fail
        go_meet
        exact ⟨by rw [HH.out], drawn_below _ _⟩
  case rest =>
  obtain ⟨rfl, hby⟩ := hcut
  go_upto_if 43 with fail
  go_cut [7] (fun t wx => ∃ (aE : Option Addr) (mE cE j : Nat), t = .slice aE mE cE ∧ Hid ((if has r.shares s.member then k + 1 else k) = j) ∧ Hid (mE = n4 - j ∧ j ≤ n4) ∧ Hid (∀ w' : World, Below wx.heap.size wx w' → Feeds w' aE mE cE (flat LShare.rec (r.shares.drop j))) ∧ Below wb.heap.size wb wx)
  case first =>
    cases hh : has r.shares s.member with
    | true =>
      have HH := Lib.hid hh
      have hkn : k < n4 := by
        obtain ⟨X, hX, hXm⟩ := has_get hh
        rw [← HKP.out] at hX
        have := (List.getElem?_eq_some_iff.1 hX).1; have := HN4.out; omega
      obtain ⟨oE, hoE⟩ : ∃ oE, (if c4 - k = 1 then some (⟨b4, oD, none⟩ : Addr) else some ⟨b4, oD + 3, none⟩) = some ⟨b4, oE, none⟩ := by
        by_cases h : c4 - k = 1
        · exact ⟨_, if_pos h⟩
        · exact ⟨_, if_neg h⟩
      have HSE := Lib.hid (show ∀ w' : World, Below wb.heap.size wb w' → IsS LShare.rec w' (.slice (some ⟨b4, oE, none⟩) (n4 - k - 1) (c4 - k - 1)) (r.shares.drop (k + 1)) from fun w' hb => by
        have h := (HSD.out _ hb).drop LShare.rec (k := 1) (some ⟨b4, oE, none⟩) (by rw [show LShare.rec.n = 3 from rfl]; exact hoE.symm) (by omega) (n4 - k - 1) (c4 - k - 1) rfl rfl
        rwa [List.drop_drop] at h)
      have g3 : (1 : Int) ≤ ((n4 - k : Nat) : Int) := by omega
      have g4 : (1 : Int) ≤ ((c4 - k : Nat) : Int) := by omega
      have g6 : 1 ≤ n4 - k := by omega
      have g7 : 1 ≤ c4 - k := by omega
      go_wp2_with fail
      go_meet
      exact ⟨_, _, _, k + 1, rfl, Lib.hid (by rw [HH.out]; rfl), Lib.hid ⟨by omega, by omega⟩, Lib.hid (fun w' hb => isS_feeds (HSE.out _ (hby.trans (hb.mono hby.size)))), hby⟩
    | false =>
      have HH := Lib.hid hh
      have HFD := Lib.hid (show ∀ w' : World, Below wb.heap.size wb w' → Feeds w' (some ⟨b4, oD, none⟩) (n4 - k) (c4 - k) (flat LShare.rec (r.shares.drop k)) from fun w' hb => isS_feeds (HSD.out _ hb))
      go_wp2_with fail
      go_meet
      exact ⟨_, _, _, k, rfl, Lib.hid (by rw [HH.out]; rfl), Lib.hid ⟨rfl, hkl⟩, Lib.hid (fun w' hb => HFD.out _ (hby.trans (hb.mono hby.size))), hby⟩
  case rest =>
  obtain ⟨aE, mE, cE, j, rfl, HJ, HME, HF2, hbx⟩ := hcut
  obtain ⟨W, hwb⟩ : ∃ x, x = wc := ⟨_, rfl⟩
  subst hwb
  replace HGA := Lib.hid (Nat.lt_of_lt_of_le HGA.out hbx.size)
  replace B0 := Lib.hid (B0.out.kept hbx)
  replace BS0 := Lib.hid (BS0.out.kept hbx)
  replace BR := Lib.hid (BR.out.kept hbx)
  replace BO := Lib.hid (BO.out.kept hbx)
  replace HO3 := Lib.hid (HO3.out.kept hbx)
  replace hbT := hbT.trans (hbx.mono hbT.size)
  clear hbx hby hoD HSD
  have HPUT := Lib.hid (show r.shares.take k ++ s :: r.shares.drop j = put r.shares s by
    unfold put; rw [← HKP.out, HJ.out])
  have HF1 := Lib.hid (show ∀ w' : World, Below W.heap.size W w' → Feeds w' (some ⟨b4, o4, none⟩) k c4 (flat LShare.rec (r.shares.take k)) from fun w' hb => isS_feeds ((isq_isS (HQ4.out _ (hbT.trans (hb.mono hbT.size)))).take LShare.rec (k := k) hkl))
  have q5 := BO.out.cell 4
  simp only [List.getElem?_toArray, List.getElem?_cons_zero, List.getElem?_cons_succ] at q5
  have x0' := BS0.out.cell 0
  have x1' := BS0.out.cell 1
  have x2' := BS0.out.cell 2
  simp only [List.getElem?_toArray, List.getElem?_cons_zero, List.getElem?_cons_succ] at x0' x1' x2'
  have HK := Lib.hid (show ∀ w' : World, Below W.heap.size W w' → Below w.heap.size w w' ∧ w'.cell? ⟨w.heap.size, 4, none⟩ = some (.slice (some ⟨b4, o4, none⟩) n4 c4) ∧ w'.cell? ⟨w.heap.size + 1, 0, none⟩ = some (.int .i64 s.member) ∧ w'.cell? ⟨w.heap.size + 1, 1, none⟩ = some (.int .i64 s.turns) ∧ w'.cell? ⟨w.heap.size + 1, 2, none⟩ = some (.int .i64 s.seconds) from fun w' hb => ⟨hbT.trans (hb.mono hbT.size), by rw [(B0.out.kept hb).cell 4]; rfl, by rw [(BS0.out.kept hb).cell 0, (BS0.out.kept hb).cell 1, (BS0.out.kept hb).cell 2]; exact ⟨rfl, rfl, rfl⟩⟩)
  go_upto_region 8 with fail
  have hB : Below W.heap.size W W.drew := (Below.refl _ _).drew
  refine wp_region_held_drew (S := fun w' => Below w.heap.size w w' ∧ w'.cell? ⟨w.heap.size, 4, none⟩ = some (.slice (some ⟨b4, o4, none⟩) n4 c4) ∧ w'.cell? ⟨w.heap.size + 1, 0, none⟩ = some (.int .i64 s.member) ∧ w'.cell? ⟨w.heap.size + 1, 1, none⟩ = some (.int .i64 s.turns) ∧ w'.cell? ⟨w.heap.size + 1, 2, none⟩ = some (.int .i64 s.seconds)) (by kernel_rfl) (HK.out _ hB) (fun hHeld => ?_)
  generalize W.drew = x0 at *
  refine wpAnyH_take (i := 1) (v := ?v1) rfl (by kernel_rfl) (by kernel_rfl) (by kernel_rfl) (fun _ _ _ h => h) (Or.inl ⟨by rfl, ?hy1⟩) (by assumption) ?rest1
  case hy1 => (intro wq hSw; (try dsimp only at hSw); go_split_ands; go_simp; (try with_reducible rfl))
  case rest1 =>
  refine wpAnyH_take (i := 2) (v := ?v2) rfl (by kernel_rfl) (by kernel_rfl) (by kernel_rfl) (fun _ _ _ h => h) (Or.inl ⟨by rfl, ?hy2⟩) (by assumption) ?rest2
  case hy2 => (intro wq hSw; (try dsimp only at hSw); go_split_ands; go_simp; (try with_reducible rfl))
  case rest2 =>
  refine wpAnyH_take (i := 3) (v := ?v3) rfl (by kernel_rfl) (by kernel_rfl) (by kernel_rfl) (fun _ _ _ h => h) (Or.inl ⟨by rfl, ?hy3⟩) (by assumption) ?rest3
  case hy3 => (intro wq hSw; (try dsimp only at hSw); go_split_ands; go_simp; (try with_reducible rfl))
  case rest3 =>
  refine wpAnyH_take (i := 4) (v := ?v4) rfl (by kernel_rfl) (by kernel_rfl) (by kernel_rfl) (fun _ _ _ h => h) (Or.inl ⟨by rfl, ?hy4⟩) (by assumption) ?rest4
  case hy4 => (intro wq hSw; (try dsimp only at hSw); go_split_ands; go_simp; (try with_reducible rfl))
  case rest4 =>
  refine wpAnyH_take (i := 6) (v := ?v5) rfl (by kernel_rfl) (by kernel_rfl) (by kernel_rfl) (fun _ _ _ h => h) (Or.inl ⟨by rfl, ?hy5⟩) (by assumption) ?rest5
  case hy5 => (intro wq hSw; (try dsimp only at hSw); go_split_ands; go_simp; (try with_reducible rfl))
  case rest5 =>
  refine wpAnyH_take (i := 9) (v := ?v6) rfl (by kernel_rfl) (by kernel_rfl) (by kernel_rfl) (fun _ _ _ h => h) (Or.inl ⟨by rfl, ?hy6⟩) (by assumption) ?rest6
  case hy6 => (intro wq hSw; (try dsimp only at hSw); go_split_ands; go_simp; (try with_reducible rfl))
  case rest6 =>
  refine wpAnyH_ready (rs := [0, 7]) (by kernel_rfl) (by simp) ?_
  refine AllReadyH.cons rfl (fun K hK => ?step7) ?more7
  case step7 =>
    go_simp
    refine hK.out _ _ (HK.out _ (hB.alloc hB.size _)) (fun hHeld => ?_)
    clear hK K
    have hO4 : Own LShare.rec 60 (x0.alloc (Obj.cells #[] 60)) W.heap.size (.slice (some ⟨x0.heap.size, 0, none⟩) 0 0) [] := own_start hB.size
    replace hB := hB.alloc hB.size (Obj.cells #[] 60)
    generalize x0.alloc (Obj.cells #[] 60) = x1 at *
    generalize x0.heap.size = g4x1 at *
    refine wpAnyH_ready (rs := [5, 7]) (by kernel_rfl) (by simp) ?_
    refine AllReadyH.cons rfl (fun K hK => ?step8) ?more8
    case step8 =>
      refine step_append_o (T := LShare.rec) (by rfl) (.tmp 46) (.tmp 50) 27 (by rfl) W.heap.size 60 i4 (.agg #[.int .i64 0, .int .i64 0, .int .i64 0]) 24 Try.underlying27 HI4.out HZ4.out.1 HZ4.out.2.1 HZ4.out.2.2 (by decide) _ _ (by rfl) hO4 ((some ⟨b4, o4, none⟩)) (k) (c4) (r.shares.take k) (by rfl) (by rw [List.length_take]; have := HN4.out; have := HKL.out; omega) (HF1.out _ hB) (by first | (simp; done) | (simp; unfold maxLen; omega)) (by first | (simp; done) | (simp; omega)) hB.size ?_
      intro vx2 x2 hown hgrow hnn hat
      have hB2 := below_grown hB hgrow hB.size (fun k hk => (hO4.lt k hk).1)
      refine hK.out _ _ (HK.out _ hB2) (fun hHeld => ?_)
      clear hK K
      clear hO4 hB hgrow hat hnn
      have hO4 := hown
      have hB := hB2
      clear hown hB2
      refine wpAnyH_ready (rs := [7]) (by kernel_rfl) (by simp) ?_
      refine AllReadyH.cons rfl (fun K hK => ?step9) ?more9
      case step9 =>
        go_simp
        refine hK.out _ _ (HK.out _ (hB.alloc hB.size _)) (fun hHeld => ?_)
        clear hK K
        have hXq := Bx.new x2 60 #[.int .i64 s.member, .int .i64 s.turns, .int .i64 s.seconds]
        have hNq_4 : (vx2).ownBlock ≠ some x2.heap.size := fun e => by have h1 := (hO4.lt _ e).2; omega
        replace hO4 := hO4.alloc (Obj.cells #[.int .i64 s.member, .int .i64 s.turns, .int .i64 s.seconds] 60)
        replace hB := hB.alloc hB.size (Obj.cells #[.int .i64 s.member, .int .i64 s.turns, .int .i64 s.seconds] 60)
        generalize x2.alloc (Obj.cells #[.int .i64 s.member, .int .i64 s.turns, .int .i64 s.seconds] 60) = x3 at *
        generalize x2.heap.size = qx3 at *
        refine wpAnyH_ready (rs := [8]) (by kernel_rfl) (by simp) ?_
        refine AllReadyH.cons rfl (fun K hK => ?step10) ?more10
        case step10 =>
          refine step_append_o (T := LShare.rec) (by rfl) (.tmp 51) (.tmp 53) 27 (by rfl) W.heap.size 60 i4 (.agg #[.int .i64 0, .int .i64 0, .int .i64 0]) 24 Try.underlying27 HI4.out HZ4.out.1 HZ4.out.2.1 HZ4.out.2.2 (by decide) _ _ (by rfl) hO4 (some ⟨qx3, 0, none⟩) (1) (1) ([s]) (by rfl) (by rfl) (src_one (T := LShare.rec) hXq) (by first | (simp; done) | (have := HKL.out; simp; unfold maxLen; omega)) (by first | (simp; done) | (have := HKL.out; simp; omega)) hB.size ?_
          intro vx4 x4 hown hgrow hnn hat
          have hB2 := below_grown hB hgrow hB.size (fun k hk => (hO4.lt k hk).1)
          refine hK.out _ _ (HK.out _ hB2) (fun hHeld => ?_)
          clear hK K
          have hE := box_besides hXq hgrow hNq_4
          have hF := ne_next hNq_4 hXq.lt hat
          clear hXq hNq_4
          have hXq := hE
          have hNq_4 := hF
          clear hE hF
          clear hO4 hB hgrow hat hnn
          have hO4 := hown
          have hB := hB2
          clear hown hB2
          refine wpAnyH_ready (rs := [10]) (by kernel_rfl) (by simp) ?_
          refine AllReadyH.cons rfl (fun K hK => ?step11) ?more11
          case step11 =>
            refine step_append_o (T := LShare.rec) (by rfl) (.tmp 54) (.tmp 55) 27 (by rfl) W.heap.size 60 i4 (.agg #[.int .i64 0, .int .i64 0, .int .i64 0]) 24 Try.underlying27 HI4.out HZ4.out.1 HZ4.out.2.1 HZ4.out.2.2 (by decide) _ _ (by rfl) hO4 (aE) (mE) (cE) (r.shares.drop j) (by rfl) (by rw [List.length_drop]; have := HN4.out; have := HME.out; omega) (HF2.out _ hB) (by first | (simp; done) | (have := HKL.out; have := HME.out; simp; unfold maxLen; omega)) (by first | (simp; done) | (have := HKL.out; have := HME.out; simp; omega)) hB.size ?_
            intro vx5 x5 hown hgrow hnn hat
            obtain ⟨e4, k4, f4, hvv⟩ := own_slice hown
            subst hvv
            have hB2 := below_grown hB hgrow hB.size (fun k hk => (hO4.lt k hk).1)
            refine hK.out _ _ (HK.out _ hB2) (fun hHeld => ?_)
            clear hK K
            have hE := box_besides hXq hgrow hNq_4
            have hF := ne_next hNq_4 hXq.lt hat
            clear hXq hNq_4
            have hXq := hE
            have hNq_4 := hF
            clear hE hF
            clear hO4 hB hgrow hat hnn
            have hO4 := hown
            have hB := hB2
            clear hown hB2
            refine wpAnyH_take (i := 11) (v := ?v12) rfl (by kernel_rfl) (by kernel_rfl) (by kernel_rfl) (fun _ _ _ h => h) (Or.inl ⟨by rfl, ?hy12⟩) (by assumption) ?rest12
            case hy12 => (intro wq hSw; (try dsimp only at hSw); go_split_ands; go_simp; (try with_reducible rfl))
            case rest12 =>
            refine wpAnyH_ready (rs := [12]) (by kernel_rfl) (by simp) ?_
            refine AllReadyH.cons rfl (fun K hK => ?step13) ?more13
            case step13 =>
              have BOX := BO.out.kept hB
              have z4 := BOX.frozen 4
              have u4 := BOX.cell 4
              simp only [List.getElem?_toArray, List.getElem?_cons_zero, List.getElem?_cons_succ] at u4
              have hBF : Below w.heap.size w _ := Below.setCell (hbT.trans (hB.mono hbT.size)) (p := ⟨G, 4, none⟩) HG.out.1 (Value.slice e4 k4 f4)
              have hOX := BOX.set_ 4 (Value.slice e4 k4 f4)
              simp at hOX
              have hRX := (BR.out.kept hB).far (p := ⟨G, 4, none⟩) (show w.heap.size + 2 ≠ G by have := HG.out.2; omega) (Value.slice e4 k4 f4)
              have hO3 := own_set (HO3.out.kept hB) (p := ⟨G, 4, none⟩) (fun k hk => by have h2 := HN3G.out k hk; show k ≠ G; omega) (Value.slice e4 k4 f4)
              have hOF := own_set hO4 (p := ⟨G, 4, none⟩) (fun k hk => by have h2 := (hO4.lt k hk).1; have h3 := HGA.out; show k ≠ G; omega) (Value.slice e4 k4 f4)
              have hDD := dist_call (w := W) HO3.out hO4
              have hB0X := (B0.out.kept hB).far (p := ⟨G, 4, none⟩) (show w.heap.size ≠ G by have := HG.out.2; omega) (Value.slice e4 k4 f4)
              have hS0X := (BS0.out.kept hB).far (p := ⟨G, 4, none⟩) (show w.heap.size + 1 ≠ G by have := HG.out.2; omega) (Value.slice e4 k4 f4)
              go_simp
              refine hK.out _ _ ⟨hBF, by rw [hB0X.cell 4]; rfl, by rw [hS0X.cell 0, hS0X.cell 1, hS0X.cell 2]; exact ⟨rfl, rfl, rfl⟩⟩ (fun hHeld => ?_)
              clear hK K
              refine wpAnyH_done (by kernel_rfl) ?_ _
              have y0 := hOX.cell 0
              have y1 := hOX.cell 1
              have y2 := hOX.cell 2
              have y3 := hOX.cell 3
              have y4 := hOX.cell 4
              simp only [List.getElem?_toArray, List.getElem?_cons_zero, List.getElem?_cons_succ] at y0 y1 y2 y3 y4
              have r0 := hRX.cell 0
              have r1 := hRX.cell 1
              have r2 := hRX.cell 2
              have r3 := hRX.cell 3
              have r4 := hRX.cell 4
              simp only [List.getElem?_toArray, List.getElem?_cons_zero, List.getElem?_cons_succ] at r0 r1 r2 r3 r4
              have s0 := hRX.frozen 0
              have s1 := hRX.frozen 1
              have s2 := hRX.frozen 2
              have s3 := hRX.frozen 3
              have s4 := hRX.frozen 4
              have hRF := (Bx.set_ (Bx.set_ (Bx.set_ (Bx.set_ (Bx.set_ hRX 0 (.int .i64 r.turns)) 1 (.int .i64 r.seconds)) 2 (.int .i64 r.speaking)) 3 (.slice b3 m3 d3)) 4 (.slice e4 k4 f4))
              have c0 := hRF.cell 0
              have c1 := hRF.cell 1
              have c2 := hRF.cell 2
              have c3 := hRF.cell 3
              have c4 := hRF.cell 4
              simp at c0 c1 c2 c3 c4
              clear hRF
              go_wp2_with fail
              refine bodyPost_ret (v := .agg #[.int .i64 r.turns, .int .i64 r.seconds, .int .i64 r.speaking, .slice b3 m3 d3, .slice e4 k4 f4]) (by simp [results, Try.results50, go_sem, c0, c1, c2, c3, c4]) rfl ?_
              exact ⟨_, rfl, ⟨_, _, rfl, ((own_set (own_set (own_set (own_set (own_set hO3 (p := ⟨w.heap.size + 2, 0, none⟩) (fun k hk => by have h2 := (HO3.out.lt k hk).1; have h3 := HZ.out; show k ≠ w.heap.size + 2; omega) (.int .i64 r.turns)) (p := ⟨w.heap.size + 2, 1, none⟩) (fun k hk => by have h2 := (HO3.out.lt k hk).1; have h3 := HZ.out; show k ≠ w.heap.size + 2; omega) (.int .i64 r.seconds)) (p := ⟨w.heap.size + 2, 2, none⟩) (fun k hk => by have h2 := (HO3.out.lt k hk).1; have h3 := HZ.out; show k ≠ w.heap.size + 2; omega) (.int .i64 r.speaking)) (p := ⟨w.heap.size + 2, 3, none⟩) (fun k hk => by have h2 := (HO3.out.lt k hk).1; have h3 := HZ.out; show k ≠ w.heap.size + 2; omega) (.slice b3 m3 d3)) (p := ⟨w.heap.size + 2, 4, none⟩) (fun k hk => by have h2 := (HO3.out.lt k hk).1; have h3 := HZ.out; show k ≠ w.heap.size + 2; omega) (.slice e4 k4 f4))).low (by have := HZ.out; omega), by (have h := ((own_set (own_set (own_set (own_set (own_set hOF (p := ⟨w.heap.size + 2, 0, none⟩) (fun k hk => by have h2 := (hO4.lt k hk).1; have h3 := HGA.out; have h4 := HG.out; show k ≠ w.heap.size + 2; omega) (.int .i64 r.turns)) (p := ⟨w.heap.size + 2, 1, none⟩) (fun k hk => by have h2 := (hO4.lt k hk).1; have h3 := HGA.out; have h4 := HG.out; show k ≠ w.heap.size + 2; omega) (.int .i64 r.seconds)) (p := ⟨w.heap.size + 2, 2, none⟩) (fun k hk => by have h2 := (hO4.lt k hk).1; have h3 := HGA.out; have h4 := HG.out; show k ≠ w.heap.size + 2; omega) (.int .i64 r.speaking)) (p := ⟨w.heap.size + 2, 3, none⟩) (fun k hk => by have h2 := (hO4.lt k hk).1; have h3 := HGA.out; have h4 := HG.out; show k ≠ w.heap.size + 2; omega) (.slice b3 m3 d3)) (p := ⟨w.heap.size + 2, 4, none⟩) (fun k hk => by have h2 := (hO4.lt k hk).1; have h3 := HGA.out; have h4 := HG.out; show k ≠ w.heap.size + 2; omega) (.slice e4 k4 f4))).low (A' := w.heap.size) hbT.size); simp only [List.nil_append, List.append_assoc, List.singleton_append] at h; show Bs.Own _ _ _ _ _ (put r.shares s); rw [← HPUT.out]; exact h, hDD⟩, (Below.setCell (Below.setCell (Below.setCell (Below.setCell (Below.setCell hBF (p := ⟨w.heap.size + 2, 0, none⟩) (by show w.heap.size ≤ w.heap.size + 2; omega) (.int .i64 r.turns)) (p := ⟨w.heap.size + 2, 1, none⟩) (by show w.heap.size ≤ w.heap.size + 2; omega) (.int .i64 r.seconds)) (p := ⟨w.heap.size + 2, 2, none⟩) (by show w.heap.size ≤ w.heap.size + 2; omega) (.int .i64 r.speaking)) (p := ⟨w.heap.size + 2, 3, none⟩) (by show w.heap.size ≤ w.heap.size + 2; omega) (.slice b3 m3 d3)) (p := ⟨w.heap.size + 2, 4, none⟩) (by show w.heap.size ≤ w.heap.size + 2; omega) (.slice e4 k4 f4))⟩
            case more13 => exact AllReadyH.nil
          case more11 => exact AllReadyH.nil
        case more10 => exact AllReadyH.nil
      case more9 => exact AllReadyH.nil
    case more8 =>
      refine AllReadyH.cons rfl (fun K hK => ?step14) ?more14
      case step14 =>
        go_simp
        refine hK.out _ _ (HK.out _ (hB.alloc hB.size _)) (fun hHeld => ?_)
        clear hK K
        have hXq := Bx.new x1 60 #[.int .i64 s.member, .int .i64 s.turns, .int .i64 s.seconds]
        have hNq_4 : (Value.slice (some ⟨g4x1, 0, none⟩) 0 0).ownBlock ≠ some x1.heap.size := fun e => by have h1 := (hO4.lt _ e).2; omega
        replace hO4 := hO4.alloc (Obj.cells #[.int .i64 s.member, .int .i64 s.turns, .int .i64 s.seconds] 60)
        replace hB := hB.alloc hB.size (Obj.cells #[.int .i64 s.member, .int .i64 s.turns, .int .i64 s.seconds] 60)
        generalize x1.alloc (Obj.cells #[.int .i64 s.member, .int .i64 s.turns, .int .i64 s.seconds] 60) = x6 at *
        generalize x1.heap.size = qx6 at *
        refine wpAnyH_ready (rs := [5]) (by kernel_rfl) (by simp) ?_
        refine AllReadyH.cons rfl (fun K hK => ?step15) ?more15
        case step15 =>
          refine step_append_o (T := LShare.rec) (by rfl) (.tmp 46) (.tmp 50) 27 (by rfl) W.heap.size 60 i4 (.agg #[.int .i64 0, .int .i64 0, .int .i64 0]) 24 Try.underlying27 HI4.out HZ4.out.1 HZ4.out.2.1 HZ4.out.2.2 (by decide) _ _ (by rfl) hO4 ((some ⟨b4, o4, none⟩)) (k) (c4) (r.shares.take k) (by rfl) (by rw [List.length_take]; have := HN4.out; have := HKL.out; omega) (HF1.out _ hB) (by first | (simp; done) | (simp; unfold maxLen; omega)) (by first | (simp; done) | (simp; omega)) hB.size ?_
          intro vx7 x7 hown hgrow hnn hat
          have hB2 := below_grown hB hgrow hB.size (fun k hk => (hO4.lt k hk).1)
          refine hK.out _ _ (HK.out _ hB2) (fun hHeld => ?_)
          clear hK K
          have hE := box_besides hXq hgrow hNq_4
          have hF := ne_next hNq_4 hXq.lt hat
          clear hXq hNq_4
          have hXq := hE
          have hNq_4 := hF
          clear hE hF
          clear hO4 hB hgrow hat hnn
          have hO4 := hown
          have hB := hB2
          clear hown hB2
          refine wpAnyH_ready (rs := [8]) (by kernel_rfl) (by simp) ?_
          refine AllReadyH.cons rfl (fun K hK => ?step16) ?more16
          case step16 =>
            refine step_append_o (T := LShare.rec) (by rfl) (.tmp 51) (.tmp 53) 27 (by rfl) W.heap.size 60 i4 (.agg #[.int .i64 0, .int .i64 0, .int .i64 0]) 24 Try.underlying27 HI4.out HZ4.out.1 HZ4.out.2.1 HZ4.out.2.2 (by decide) _ _ (by rfl) hO4 (some ⟨qx6, 0, none⟩) (1) (1) ([s]) (by rfl) (by rfl) (src_one (T := LShare.rec) hXq) (by first | (simp; done) | (have := HKL.out; simp; unfold maxLen; omega)) (by first | (simp; done) | (have := HKL.out; simp; omega)) hB.size ?_
            intro vx8 x8 hown hgrow hnn hat
            have hB2 := below_grown hB hgrow hB.size (fun k hk => (hO4.lt k hk).1)
            refine hK.out _ _ (HK.out _ hB2) (fun hHeld => ?_)
            clear hK K
            have hE := box_besides hXq hgrow hNq_4
            have hF := ne_next hNq_4 hXq.lt hat
            clear hXq hNq_4
            have hXq := hE
            have hNq_4 := hF
            clear hE hF
            clear hO4 hB hgrow hat hnn
            have hO4 := hown
            have hB := hB2
            clear hown hB2
            refine wpAnyH_ready (rs := [10]) (by kernel_rfl) (by simp) ?_
            refine AllReadyH.cons rfl (fun K hK => ?step17) ?more17
            case step17 =>
              refine step_append_o (T := LShare.rec) (by rfl) (.tmp 54) (.tmp 55) 27 (by rfl) W.heap.size 60 i4 (.agg #[.int .i64 0, .int .i64 0, .int .i64 0]) 24 Try.underlying27 HI4.out HZ4.out.1 HZ4.out.2.1 HZ4.out.2.2 (by decide) _ _ (by rfl) hO4 (aE) (mE) (cE) (r.shares.drop j) (by rfl) (by rw [List.length_drop]; have := HN4.out; have := HME.out; omega) (HF2.out _ hB) (by first | (simp; done) | (have := HKL.out; have := HME.out; simp; unfold maxLen; omega)) (by first | (simp; done) | (have := HKL.out; have := HME.out; simp; omega)) hB.size ?_
              intro vx9 x9 hown hgrow hnn hat
              obtain ⟨e4, k4, f4, hvv⟩ := own_slice hown
              subst hvv
              have hB2 := below_grown hB hgrow hB.size (fun k hk => (hO4.lt k hk).1)
              refine hK.out _ _ (HK.out _ hB2) (fun hHeld => ?_)
              clear hK K
              have hE := box_besides hXq hgrow hNq_4
              have hF := ne_next hNq_4 hXq.lt hat
              clear hXq hNq_4
              have hXq := hE
              have hNq_4 := hF
              clear hE hF
              clear hO4 hB hgrow hat hnn
              have hO4 := hown
              have hB := hB2
              clear hown hB2
              refine wpAnyH_take (i := 11) (v := ?v18) rfl (by kernel_rfl) (by kernel_rfl) (by kernel_rfl) (fun _ _ _ h => h) (Or.inl ⟨by rfl, ?hy18⟩) (by assumption) ?rest18
              case hy18 => (intro wq hSw; (try dsimp only at hSw); go_split_ands; go_simp; (try with_reducible rfl))
              case rest18 =>
              refine wpAnyH_ready (rs := [12]) (by kernel_rfl) (by simp) ?_
              refine AllReadyH.cons rfl (fun K hK => ?step19) ?more19
              case step19 =>
                have BOX := BO.out.kept hB
                have z4 := BOX.frozen 4
                have u4 := BOX.cell 4
                simp only [List.getElem?_toArray, List.getElem?_cons_zero, List.getElem?_cons_succ] at u4
                have hBF : Below w.heap.size w _ := Below.setCell (hbT.trans (hB.mono hbT.size)) (p := ⟨G, 4, none⟩) HG.out.1 (Value.slice e4 k4 f4)
                have hOX := BOX.set_ 4 (Value.slice e4 k4 f4)
                simp at hOX
                have hRX := (BR.out.kept hB).far (p := ⟨G, 4, none⟩) (show w.heap.size + 2 ≠ G by have := HG.out.2; omega) (Value.slice e4 k4 f4)
                have hO3 := own_set (HO3.out.kept hB) (p := ⟨G, 4, none⟩) (fun k hk => by have h2 := HN3G.out k hk; show k ≠ G; omega) (Value.slice e4 k4 f4)
                have hOF := own_set hO4 (p := ⟨G, 4, none⟩) (fun k hk => by have h2 := (hO4.lt k hk).1; have h3 := HGA.out; show k ≠ G; omega) (Value.slice e4 k4 f4)
                have hDD := dist_call (w := W) HO3.out hO4
                have hB0X := (B0.out.kept hB).far (p := ⟨G, 4, none⟩) (show w.heap.size ≠ G by have := HG.out.2; omega) (Value.slice e4 k4 f4)
                have hS0X := (BS0.out.kept hB).far (p := ⟨G, 4, none⟩) (show w.heap.size + 1 ≠ G by have := HG.out.2; omega) (Value.slice e4 k4 f4)
                go_simp
                refine hK.out _ _ ⟨hBF, by rw [hB0X.cell 4]; rfl, by rw [hS0X.cell 0, hS0X.cell 1, hS0X.cell 2]; exact ⟨rfl, rfl, rfl⟩⟩ (fun hHeld => ?_)
                clear hK K
                refine wpAnyH_done (by kernel_rfl) ?_ _
                have y0 := hOX.cell 0
                have y1 := hOX.cell 1
                have y2 := hOX.cell 2
                have y3 := hOX.cell 3
                have y4 := hOX.cell 4
                simp only [List.getElem?_toArray, List.getElem?_cons_zero, List.getElem?_cons_succ] at y0 y1 y2 y3 y4
                have r0 := hRX.cell 0
                have r1 := hRX.cell 1
                have r2 := hRX.cell 2
                have r3 := hRX.cell 3
                have r4 := hRX.cell 4
                simp only [List.getElem?_toArray, List.getElem?_cons_zero, List.getElem?_cons_succ] at r0 r1 r2 r3 r4
                have s0 := hRX.frozen 0
                have s1 := hRX.frozen 1
                have s2 := hRX.frozen 2
                have s3 := hRX.frozen 3
                have s4 := hRX.frozen 4
                have hRF := (Bx.set_ (Bx.set_ (Bx.set_ (Bx.set_ (Bx.set_ hRX 0 (.int .i64 r.turns)) 1 (.int .i64 r.seconds)) 2 (.int .i64 r.speaking)) 3 (.slice b3 m3 d3)) 4 (.slice e4 k4 f4))
                have c0 := hRF.cell 0
                have c1 := hRF.cell 1
                have c2 := hRF.cell 2
                have c3 := hRF.cell 3
                have c4 := hRF.cell 4
                simp at c0 c1 c2 c3 c4
                clear hRF
                go_wp2_with fail
                refine bodyPost_ret (v := .agg #[.int .i64 r.turns, .int .i64 r.seconds, .int .i64 r.speaking, .slice b3 m3 d3, .slice e4 k4 f4]) (by simp [results, Try.results50, go_sem, c0, c1, c2, c3, c4]) rfl ?_
                exact ⟨_, rfl, ⟨_, _, rfl, ((own_set (own_set (own_set (own_set (own_set hO3 (p := ⟨w.heap.size + 2, 0, none⟩) (fun k hk => by have h2 := (HO3.out.lt k hk).1; have h3 := HZ.out; show k ≠ w.heap.size + 2; omega) (.int .i64 r.turns)) (p := ⟨w.heap.size + 2, 1, none⟩) (fun k hk => by have h2 := (HO3.out.lt k hk).1; have h3 := HZ.out; show k ≠ w.heap.size + 2; omega) (.int .i64 r.seconds)) (p := ⟨w.heap.size + 2, 2, none⟩) (fun k hk => by have h2 := (HO3.out.lt k hk).1; have h3 := HZ.out; show k ≠ w.heap.size + 2; omega) (.int .i64 r.speaking)) (p := ⟨w.heap.size + 2, 3, none⟩) (fun k hk => by have h2 := (HO3.out.lt k hk).1; have h3 := HZ.out; show k ≠ w.heap.size + 2; omega) (.slice b3 m3 d3)) (p := ⟨w.heap.size + 2, 4, none⟩) (fun k hk => by have h2 := (HO3.out.lt k hk).1; have h3 := HZ.out; show k ≠ w.heap.size + 2; omega) (.slice e4 k4 f4))).low (by have := HZ.out; omega), by (have h := ((own_set (own_set (own_set (own_set (own_set hOF (p := ⟨w.heap.size + 2, 0, none⟩) (fun k hk => by have h2 := (hO4.lt k hk).1; have h3 := HGA.out; have h4 := HG.out; show k ≠ w.heap.size + 2; omega) (.int .i64 r.turns)) (p := ⟨w.heap.size + 2, 1, none⟩) (fun k hk => by have h2 := (hO4.lt k hk).1; have h3 := HGA.out; have h4 := HG.out; show k ≠ w.heap.size + 2; omega) (.int .i64 r.seconds)) (p := ⟨w.heap.size + 2, 2, none⟩) (fun k hk => by have h2 := (hO4.lt k hk).1; have h3 := HGA.out; have h4 := HG.out; show k ≠ w.heap.size + 2; omega) (.int .i64 r.speaking)) (p := ⟨w.heap.size + 2, 3, none⟩) (fun k hk => by have h2 := (hO4.lt k hk).1; have h3 := HGA.out; have h4 := HG.out; show k ≠ w.heap.size + 2; omega) (.slice b3 m3 d3)) (p := ⟨w.heap.size + 2, 4, none⟩) (fun k hk => by have h2 := (hO4.lt k hk).1; have h3 := HGA.out; have h4 := HG.out; show k ≠ w.heap.size + 2; omega) (.slice e4 k4 f4))).low (A' := w.heap.size) hbT.size); simp only [List.nil_append, List.append_assoc, List.singleton_append] at h; show Bs.Own _ _ _ _ _ (put r.shares s); rw [← HPUT.out]; exact h, hDD⟩, (Below.setCell (Below.setCell (Below.setCell (Below.setCell (Below.setCell hBF (p := ⟨w.heap.size + 2, 0, none⟩) (by show w.heap.size ≤ w.heap.size + 2; omega) (.int .i64 r.turns)) (p := ⟨w.heap.size + 2, 1, none⟩) (by show w.heap.size ≤ w.heap.size + 2; omega) (.int .i64 r.seconds)) (p := ⟨w.heap.size + 2, 2, none⟩) (by show w.heap.size ≤ w.heap.size + 2; omega) (.int .i64 r.speaking)) (p := ⟨w.heap.size + 2, 3, none⟩) (by show w.heap.size ≤ w.heap.size + 2; omega) (.slice b3 m3 d3)) (p := ⟨w.heap.size + 2, 4, none⟩) (by show w.heap.size ≤ w.heap.size + 2; omega) (.slice e4 k4 f4))⟩
              case more19 => exact AllReadyH.nil
            case more17 => exact AllReadyH.nil
          case more16 => exact AllReadyH.nil
        case more15 => exact AllReadyH.nil
      case more14 => exact AllReadyH.nil
  case more7 =>
    refine AllReadyH.cons rfl (fun K hK => ?step20) ?more20
    case step20 =>
      go_simp
      refine hK.out _ _ (HK.out _ (hB.alloc hB.size _)) (fun hHeld => ?_)
      clear hK K
      have hXq := Bx.new x0 60 #[.int .i64 s.member, .int .i64 s.turns, .int .i64 s.seconds]
      replace hB := hB.alloc hB.size (Obj.cells #[.int .i64 s.member, .int .i64 s.turns, .int .i64 s.seconds] 60)
      generalize x0.alloc (Obj.cells #[.int .i64 s.member, .int .i64 s.turns, .int .i64 s.seconds] 60) = x10 at *
      generalize x0.heap.size = qx10 at *
      refine wpAnyH_ready (rs := [0]) (by kernel_rfl) (by simp) ?_
      refine AllReadyH.cons rfl (fun K hK => ?step21) ?more21
      case step21 =>
        go_simp
        refine hK.out _ _ (HK.out _ (hB.alloc hB.size _)) (fun hHeld => ?_)
        clear hK K
        have hO4 : Own LShare.rec 60 (x10.alloc (Obj.cells #[] 60)) W.heap.size (.slice (some ⟨x10.heap.size, 0, none⟩) 0 0) [] := own_start hB.size
        have hNq_4 : (Value.slice (some ⟨x10.heap.size, 0, none⟩) 0 0).ownBlock ≠ some qx10 := fun e => by have h1 := hXq.lt; simp only [Value.ownBlock, Option.some.injEq] at e; omega
        replace hXq := hXq.alloc (Obj.cells #[] 60)
        replace hB := hB.alloc hB.size (Obj.cells #[] 60)
        generalize x10.alloc (Obj.cells #[] 60) = x11 at *
        generalize x10.heap.size = g4x11 at *
        refine wpAnyH_ready (rs := [5]) (by kernel_rfl) (by simp) ?_
        refine AllReadyH.cons rfl (fun K hK => ?step22) ?more22
        case step22 =>
          refine step_append_o (T := LShare.rec) (by rfl) (.tmp 46) (.tmp 50) 27 (by rfl) W.heap.size 60 i4 (.agg #[.int .i64 0, .int .i64 0, .int .i64 0]) 24 Try.underlying27 HI4.out HZ4.out.1 HZ4.out.2.1 HZ4.out.2.2 (by decide) _ _ (by rfl) hO4 ((some ⟨b4, o4, none⟩)) (k) (c4) (r.shares.take k) (by rfl) (by rw [List.length_take]; have := HN4.out; have := HKL.out; omega) (HF1.out _ hB) (by first | (simp; done) | (simp; unfold maxLen; omega)) (by first | (simp; done) | (simp; omega)) hB.size ?_
          intro vx12 x12 hown hgrow hnn hat
          have hB2 := below_grown hB hgrow hB.size (fun k hk => (hO4.lt k hk).1)
          refine hK.out _ _ (HK.out _ hB2) (fun hHeld => ?_)
          clear hK K
          have hE := box_besides hXq hgrow hNq_4
          have hF := ne_next hNq_4 hXq.lt hat
          clear hXq hNq_4
          have hXq := hE
          have hNq_4 := hF
          clear hE hF
          clear hO4 hB hgrow hat hnn
          have hO4 := hown
          have hB := hB2
          clear hown hB2
          refine wpAnyH_ready (rs := [8]) (by kernel_rfl) (by simp) ?_
          refine AllReadyH.cons rfl (fun K hK => ?step23) ?more23
          case step23 =>
            refine step_append_o (T := LShare.rec) (by rfl) (.tmp 51) (.tmp 53) 27 (by rfl) W.heap.size 60 i4 (.agg #[.int .i64 0, .int .i64 0, .int .i64 0]) 24 Try.underlying27 HI4.out HZ4.out.1 HZ4.out.2.1 HZ4.out.2.2 (by decide) _ _ (by rfl) hO4 (some ⟨qx10, 0, none⟩) (1) (1) ([s]) (by rfl) (by rfl) (src_one (T := LShare.rec) hXq) (by first | (simp; done) | (have := HKL.out; simp; unfold maxLen; omega)) (by first | (simp; done) | (have := HKL.out; simp; omega)) hB.size ?_
            intro vx13 x13 hown hgrow hnn hat
            have hB2 := below_grown hB hgrow hB.size (fun k hk => (hO4.lt k hk).1)
            refine hK.out _ _ (HK.out _ hB2) (fun hHeld => ?_)
            clear hK K
            have hE := box_besides hXq hgrow hNq_4
            have hF := ne_next hNq_4 hXq.lt hat
            clear hXq hNq_4
            have hXq := hE
            have hNq_4 := hF
            clear hE hF
            clear hO4 hB hgrow hat hnn
            have hO4 := hown
            have hB := hB2
            clear hown hB2
            refine wpAnyH_ready (rs := [10]) (by kernel_rfl) (by simp) ?_
            refine AllReadyH.cons rfl (fun K hK => ?step24) ?more24
            case step24 =>
              refine step_append_o (T := LShare.rec) (by rfl) (.tmp 54) (.tmp 55) 27 (by rfl) W.heap.size 60 i4 (.agg #[.int .i64 0, .int .i64 0, .int .i64 0]) 24 Try.underlying27 HI4.out HZ4.out.1 HZ4.out.2.1 HZ4.out.2.2 (by decide) _ _ (by rfl) hO4 (aE) (mE) (cE) (r.shares.drop j) (by rfl) (by rw [List.length_drop]; have := HN4.out; have := HME.out; omega) (HF2.out _ hB) (by first | (simp; done) | (have := HKL.out; have := HME.out; simp; unfold maxLen; omega)) (by first | (simp; done) | (have := HKL.out; have := HME.out; simp; omega)) hB.size ?_
              intro vx14 x14 hown hgrow hnn hat
              obtain ⟨e4, k4, f4, hvv⟩ := own_slice hown
              subst hvv
              have hB2 := below_grown hB hgrow hB.size (fun k hk => (hO4.lt k hk).1)
              refine hK.out _ _ (HK.out _ hB2) (fun hHeld => ?_)
              clear hK K
              have hE := box_besides hXq hgrow hNq_4
              have hF := ne_next hNq_4 hXq.lt hat
              clear hXq hNq_4
              have hXq := hE
              have hNq_4 := hF
              clear hE hF
              clear hO4 hB hgrow hat hnn
              have hO4 := hown
              have hB := hB2
              clear hown hB2
              refine wpAnyH_take (i := 11) (v := ?v25) rfl (by kernel_rfl) (by kernel_rfl) (by kernel_rfl) (fun _ _ _ h => h) (Or.inl ⟨by rfl, ?hy25⟩) (by assumption) ?rest25
              case hy25 => (intro wq hSw; (try dsimp only at hSw); go_split_ands; go_simp; (try with_reducible rfl))
              case rest25 =>
              refine wpAnyH_ready (rs := [12]) (by kernel_rfl) (by simp) ?_
              refine AllReadyH.cons rfl (fun K hK => ?step26) ?more26
              case step26 =>
                have BOX := BO.out.kept hB
                have z4 := BOX.frozen 4
                have u4 := BOX.cell 4
                simp only [List.getElem?_toArray, List.getElem?_cons_zero, List.getElem?_cons_succ] at u4
                have hBF : Below w.heap.size w _ := Below.setCell (hbT.trans (hB.mono hbT.size)) (p := ⟨G, 4, none⟩) HG.out.1 (Value.slice e4 k4 f4)
                have hOX := BOX.set_ 4 (Value.slice e4 k4 f4)
                simp at hOX
                have hRX := (BR.out.kept hB).far (p := ⟨G, 4, none⟩) (show w.heap.size + 2 ≠ G by have := HG.out.2; omega) (Value.slice e4 k4 f4)
                have hO3 := own_set (HO3.out.kept hB) (p := ⟨G, 4, none⟩) (fun k hk => by have h2 := HN3G.out k hk; show k ≠ G; omega) (Value.slice e4 k4 f4)
                have hOF := own_set hO4 (p := ⟨G, 4, none⟩) (fun k hk => by have h2 := (hO4.lt k hk).1; have h3 := HGA.out; show k ≠ G; omega) (Value.slice e4 k4 f4)
                have hDD := dist_call (w := W) HO3.out hO4
                have hB0X := (B0.out.kept hB).far (p := ⟨G, 4, none⟩) (show w.heap.size ≠ G by have := HG.out.2; omega) (Value.slice e4 k4 f4)
                have hS0X := (BS0.out.kept hB).far (p := ⟨G, 4, none⟩) (show w.heap.size + 1 ≠ G by have := HG.out.2; omega) (Value.slice e4 k4 f4)
                go_simp
                refine hK.out _ _ ⟨hBF, by rw [hB0X.cell 4]; rfl, by rw [hS0X.cell 0, hS0X.cell 1, hS0X.cell 2]; exact ⟨rfl, rfl, rfl⟩⟩ (fun hHeld => ?_)
                clear hK K
                refine wpAnyH_done (by kernel_rfl) ?_ _
                have y0 := hOX.cell 0
                have y1 := hOX.cell 1
                have y2 := hOX.cell 2
                have y3 := hOX.cell 3
                have y4 := hOX.cell 4
                simp only [List.getElem?_toArray, List.getElem?_cons_zero, List.getElem?_cons_succ] at y0 y1 y2 y3 y4
                have r0 := hRX.cell 0
                have r1 := hRX.cell 1
                have r2 := hRX.cell 2
                have r3 := hRX.cell 3
                have r4 := hRX.cell 4
                simp only [List.getElem?_toArray, List.getElem?_cons_zero, List.getElem?_cons_succ] at r0 r1 r2 r3 r4
                have s0 := hRX.frozen 0
                have s1 := hRX.frozen 1
                have s2 := hRX.frozen 2
                have s3 := hRX.frozen 3
                have s4 := hRX.frozen 4
                have hRF := (Bx.set_ (Bx.set_ (Bx.set_ (Bx.set_ (Bx.set_ hRX 0 (.int .i64 r.turns)) 1 (.int .i64 r.seconds)) 2 (.int .i64 r.speaking)) 3 (.slice b3 m3 d3)) 4 (.slice e4 k4 f4))
                have c0 := hRF.cell 0
                have c1 := hRF.cell 1
                have c2 := hRF.cell 2
                have c3 := hRF.cell 3
                have c4 := hRF.cell 4
                simp at c0 c1 c2 c3 c4
                clear hRF
                go_wp2_with fail
                refine bodyPost_ret (v := .agg #[.int .i64 r.turns, .int .i64 r.seconds, .int .i64 r.speaking, .slice b3 m3 d3, .slice e4 k4 f4]) (by simp [results, Try.results50, go_sem, c0, c1, c2, c3, c4]) rfl ?_
                exact ⟨_, rfl, ⟨_, _, rfl, ((own_set (own_set (own_set (own_set (own_set hO3 (p := ⟨w.heap.size + 2, 0, none⟩) (fun k hk => by have h2 := (HO3.out.lt k hk).1; have h3 := HZ.out; show k ≠ w.heap.size + 2; omega) (.int .i64 r.turns)) (p := ⟨w.heap.size + 2, 1, none⟩) (fun k hk => by have h2 := (HO3.out.lt k hk).1; have h3 := HZ.out; show k ≠ w.heap.size + 2; omega) (.int .i64 r.seconds)) (p := ⟨w.heap.size + 2, 2, none⟩) (fun k hk => by have h2 := (HO3.out.lt k hk).1; have h3 := HZ.out; show k ≠ w.heap.size + 2; omega) (.int .i64 r.speaking)) (p := ⟨w.heap.size + 2, 3, none⟩) (fun k hk => by have h2 := (HO3.out.lt k hk).1; have h3 := HZ.out; show k ≠ w.heap.size + 2; omega) (.slice b3 m3 d3)) (p := ⟨w.heap.size + 2, 4, none⟩) (fun k hk => by have h2 := (HO3.out.lt k hk).1; have h3 := HZ.out; show k ≠ w.heap.size + 2; omega) (.slice e4 k4 f4))).low (by have := HZ.out; omega), by (have h := ((own_set (own_set (own_set (own_set (own_set hOF (p := ⟨w.heap.size + 2, 0, none⟩) (fun k hk => by have h2 := (hO4.lt k hk).1; have h3 := HGA.out; have h4 := HG.out; show k ≠ w.heap.size + 2; omega) (.int .i64 r.turns)) (p := ⟨w.heap.size + 2, 1, none⟩) (fun k hk => by have h2 := (hO4.lt k hk).1; have h3 := HGA.out; have h4 := HG.out; show k ≠ w.heap.size + 2; omega) (.int .i64 r.seconds)) (p := ⟨w.heap.size + 2, 2, none⟩) (fun k hk => by have h2 := (hO4.lt k hk).1; have h3 := HGA.out; have h4 := HG.out; show k ≠ w.heap.size + 2; omega) (.int .i64 r.speaking)) (p := ⟨w.heap.size + 2, 3, none⟩) (fun k hk => by have h2 := (hO4.lt k hk).1; have h3 := HGA.out; have h4 := HG.out; show k ≠ w.heap.size + 2; omega) (.slice b3 m3 d3)) (p := ⟨w.heap.size + 2, 4, none⟩) (fun k hk => by have h2 := (hO4.lt k hk).1; have h3 := HGA.out; have h4 := HG.out; show k ≠ w.heap.size + 2; omega) (.slice e4 k4 f4))).low (A' := w.heap.size) hbT.size); simp only [List.nil_append, List.append_assoc, List.singleton_append] at h; show Bs.Own _ _ _ _ _ (put r.shares s); rw [← HPUT.out]; exact h, hDD⟩, (Below.setCell (Below.setCell (Below.setCell (Below.setCell (Below.setCell hBF (p := ⟨w.heap.size + 2, 0, none⟩) (by show w.heap.size ≤ w.heap.size + 2; omega) (.int .i64 r.turns)) (p := ⟨w.heap.size + 2, 1, none⟩) (by show w.heap.size ≤ w.heap.size + 2; omega) (.int .i64 r.seconds)) (p := ⟨w.heap.size + 2, 2, none⟩) (by show w.heap.size ≤ w.heap.size + 2; omega) (.int .i64 r.speaking)) (p := ⟨w.heap.size + 2, 3, none⟩) (by show w.heap.size ≤ w.heap.size + 2; omega) (.slice b3 m3 d3)) (p := ⟨w.heap.size + 2, 4, none⟩) (by show w.heap.size ≤ w.heap.size + 2; omega) (.slice e4 k4 f4))⟩
              case more26 => exact AllReadyH.nil
            case more24 => exact AllReadyH.nil
          case more23 => exact AllReadyH.nil
        case more22 => exact AllReadyH.nil
      case more21 => exact AllReadyH.nil
    case more20 => exact AllReadyH.nil
end Go.Proofs.Ytmbffcblhhippaa.FlY
