/- Proxies: held weights, on both sides. No condition. -/
import Derived.Test.YtdjnaoaniokbgaaVoG
import Derived.Test.YtdjnaoaniokbgaaVoI
import Derived.Test.YtdjnaoaniokbgaaJ1
namespace Go.Proofs.Ytdjnaoaniokbgaa.VoH
open Go.RowKit Bs Word Sq IntF Vo VoA VoN
set_option linter.unusedVariables false
theorem held_next {v : V} {k : Nat} {x : Int} (hx : v.weights[k]? = some x) : (held v k).set (holder v.proxies k).toNat ((held v k).getD (holder v.proxies k).toNat 0 + x) = held v (k + 1) := by
  show _ = bump (held v k) (holder v.proxies k) (wt v k)
  unfold bump; rw [wt_at hx]
theorem getD_at {l : List Int} {i : Nat} (h : i < l.length) : l[i]? = some (l.getD i 0) := by
  rw [List.getD_eq_getElem?_getD, List.getElem?_eq_getElem h]; rfl
set_option maxRecDepth 100000 in
set_option maxHeartbeats 1600000 in
theorem l12Voter (v0 : Value) (r : V) (m : Int) (w : World) (h0 : LVoters.Is w v0 r) (l0 : r.weights.length ≤ 1048576) (l1 : r.proxies.length ≤ 1048576) :
    Calls Try.prog 65 #[v0, .int .i64 m] w fun e w' => e = .returned (.bool (good r && inB m 0 ((r.weights.length : Int) - 1))) ∧ Below w.heap.size w w' := by
  have HL := Lib.hid (And.intro l0 l1)
  obtain ⟨a0, n0, c0, a1, n1, c1, rfl, HN0, HN1, hb0, hb1', hm0, hm1, hc0, hc1, HI⟩ := open_is h0
  clear h0
  have hn0 : n0 ≤ 1048576 := by have := HN0.out; omega
  clear l0 l1
  obtain ⟨W, hW⟩ : ∃ W : World, W = w.alloc (Obj.cells #[.slice a0 n0 c0, .slice a1 n1 c1] 27) := ⟨_, rfl⟩
  have hb : Below w.heap.size w W := by rw [hW]; exact (Below.refl _ _).alloc (Nat.le_refl _) _
  have HZ := Lib.hid (show W.heap.size = w.heap.size + 1 by rw [hW]; simp)
  have B0 := Lib.hid (show Bx W w.heap.size 27 #[.slice a0 n0 c0, .slice a1 n1 c1] by rw [hW]; exact Bx.new _ _ _)
  have HIW := Lib.hid (LVoters.Is.below HI.out hb)
  have q0 := B0.out.cell 0
  have q1 := B0.out.cell 1
  simp only [List.getElem?_toArray, List.getElem?_cons_zero, List.getElem?_cons_succ] at q0 q1
  have HC := Lib.hid (VoG.l12Good _ r W HIW.out HL.out.1 HL.out.2)
  have H2 := Lib.hid (fun x a b W => in_as x a b _ rfl W)
  go_enter Try.func65, Try.ntmps65
  go_upto_region 1 with fail
  rw [← hW]
  clear hW
  have e1 : IntKind.i64.wrap ((n0 : Int) - 1) = (n0 : Int) - 1 := IntWalk.i64_in _ (by omega)
  go_wp2_with fail
  refine HC.out.mono ?_
  rintro e w1 ⟨rfl, hb1⟩
  have B1 := Lib.hid (B0.out.kept hb1)
  have hb2 := hb.trans (hb1.mono hb.size)
  clear q0 q1 hb1
  have q0 := B1.out.cell 0
  have q1 := B1.out.cell 1
  simp only [List.getElem?_toArray, List.getElem?_cons_zero, List.getElem?_cons_succ] at q0 q1
  cases hg : good r with
  | false =>
    go_wp2_with fail
    go_ret
    exact ⟨ret_bool (by rw [hg]; rfl), hb2⟩
  | true =>
    go_wp2_with fail
    refine (H2.out _ _ _ _).mono ?_
    rintro e w' ⟨rfl, rfl⟩
    go_wp2_with fail
    go_ret
    exact ⟨ret_bool (by rw [HN0.out, hg]; rfl), hb2⟩
set_option maxRecDepth 100000 in
set_option maxHeartbeats 1600000 in
theorem l12Held (v0 : Value) (r : V) (w : World) (h0 : LVoters.Is w v0 r) (l0 : r.weights.length ≤ 1048576) (l1 : r.proxies.length ≤ 1048576) (hg : GP r) :
    Calls Try.prog 57 #[v0] w fun e w' => ∃ g, e = .returned (.slice (some ⟨g, 0, none⟩) r.weights.length r.weights.length) ∧ w.heap.size < g ∧ Own LInt.rec 3 w' (w.heap.size + 1) (.slice (some ⟨g, 0, none⟩) r.weights.length r.weights.length) (held r r.weights.length) ∧ Below w.heap.size w w' := by
  have HL := Lib.hid (And.intro l0 l1)
  have HGP := Lib.hid hg
  clear hg
  obtain ⟨i9, hi, hz0, hz1, hz2⟩ := info_parts LInt.infoK
  have HI9 := Lib.hid hi
  have HZ9 := Lib.hid (And.intro hz0 (And.intro hz1 hz2))
  clear hi hz0 hz1 hz2
  obtain ⟨a0, n0, c0, a1, n1, c1, rfl, HN0, HN1, hb0, hb1', hm0, hm1, hc0, hc1, HI⟩ := open_is h0
  clear h0
  have hn0 : n0 ≤ 12 := by have := HGP.out.n; have := HN0.out; omega
  clear l0 l1
  rw [HN0.out]
  obtain ⟨W, hW⟩ : ∃ W : World, W = w.alloc (Obj.cells #[.slice a0 n0 c0, .slice a1 n1 c1] 27) := ⟨_, rfl⟩
  have hb : Below w.heap.size w W := by rw [hW]; exact (Below.refl _ _).alloc (Nat.le_refl _) _
  have HZ := Lib.hid (show W.heap.size = w.heap.size + 1 by rw [hW]; simp)
  have B0 := Lib.hid (show Bx W w.heap.size 27 #[.slice a0 n0 c0, .slice a1 n1 c1] by rw [hW]; exact Bx.new _ _ _)
  have HIW := Lib.hid (LVoters.Is.below HI.out hb)
  have q0 := B0.out.cell 0
  have q1 := B0.out.cell 1
  simp only [List.getElem?_toArray, List.getElem?_cons_zero, List.getElem?_cons_succ] at q0 q1
  go_enter Try.func57, Try.ntmps57
  go_upto_region 1 with fail
  rw [← hW]
  clear hW
  obtain ⟨g, hgg⟩ : ∃ g, g = W.heap.size := ⟨_, rfl⟩
  have HG := Lib.hid (show w.heap.size < g by have := HZ.out; omega)
  go_wp2_with (at_make; refine wpList_make_full _ rfl (.tmp 9) (.tmp 9) 24 rfl W.heap.size 3 i9 (.int .i64 0) 1 Try.underlying24 HI9.out HZ9.out.1 HZ9.out.2.1 .i64 .i64 _ _ n0 rfl rfl rfl rfl ?m1 ?m2 ?m3 ?m4)
  case m1 => rw [HZ9.out.2.2]; omega
  case m2 => unfold maxLen; omega
  case m3 => exact Nat.le_refl _
  case m4 =>
  intro w1 hown hgrow
  have hb1 : Below W.heap.size W w1 := (Below.refl _ _).grown hgrow (Nat.le_refl _) (fun k hk => by cases hk)
  have HO : Hid (Own LInt.rec 3 w1 W.heap.size (.slice (some ⟨g, 0, none⟩) n0 n0) (held r 0)) := by
    show Bs.Own _ _ _ _ _ (List.replicate _ _)
    rw [HN0.out]
    unfold Bs.Own; rw [List.length_replicate, hgg]
    have h := LInt.made_zero n0
    unfold LInt.zero at h
    rw [← h]; exact hown
  rw [← hgg]
  rw [← hgg] at HO
  have B1 := Lib.hid (B0.out.kept hb1)
  replace hb := hb.trans (hb1.mono hb.size)
  clear hown hgrow hb1 hgg B0 HIW q0 q1
  have q0 := B1.out.cell 0
  have q1 := B1.out.cell 1
  simp only [List.getElem?_toArray, List.getElem?_cons_zero, List.getElem?_cons_succ] at q0 q1
  go_wp2_with fail
  clear q0 q1
  go_loopw [4] (fun i wr => ∃ k : Nat, k ≤ n0 ∧ i = .int .i64 k ∧ Hid (Own LInt.rec 3 wr g (.slice (some ⟨g, 0, none⟩) n0 n0) (held r k)) ∧ Hid (Bx wr w.heap.size 27 #[.slice a0 n0 c0, .slice a1 n1 c1]) ∧ Below w.heap.size w wr) (fun i _ => n0 - (intOf i).toNat)
  case atStart => exact ⟨0, Nat.zero_le _, rfl, HO, B1, hb⟩
  case round =>
    clear HO B1 hb
    obtain ⟨k, hk, rfl, HO, B1, hb⟩ := hrel
    have q0 := B1.out.cell 0
    have q1 := B1.out.cell 1
    simp only [List.getElem?_toArray, List.getElem?_cons_zero, List.getElem?_cons_succ] at q0 q1
    by_cases hlt : k < n0
    · have k0 : 0 ≤ (k : Int) := by omega
      have k1 : (k : Int) < (n0 : Int) := by omega
      have HC := VoA.l12Steps _ r k wr (LVoters.Is.below HI.out hb) HL.out.2
      have HH := Lib.hid (holder_in HGP.out.p HGP.out.e k0 (by have := HN0.out; omega))
      have HNX := Lib.hid (fun (x : Int) (hx : r.weights[k]? = some x) => held_next hx)
      have HCI := Lib.hid (held_in HGP.out.w k (holder r.proxies k).toNat)
      have HLN := Lib.hid (held_len r k)
      obtain ⟨h, hh⟩ : ∃ h, h = holder r.proxies k := ⟨_, rfl⟩
      rw [← hh] at HC HH HNX HCI
      have HC := Lib.hid HC
      clear hh
      go_wp2_with fail
      refine HC.out.mono ?_
      rintro e w2 ⟨rfl, hb2⟩
      have HO2 := Lib.hid (HO.out.kept hb2)
      have B2 := Lib.hid (B1.out.kept hb2)
      have hb3 := hb.trans (hb2.mono hb.size)
      clear HO B1 hb2 hb q0 q1
      have q0 := B2.out.cell 0
      have q1 := B2.out.cell 1
      simp only [List.getElem?_toArray, List.getElem?_cons_zero, List.getElem?_cons_succ] at q0 q1
      · have hx : k < r.weights.length := by have := HN0.out; omega
        obtain ⟨b, o, rfl, hbl, hcell0⟩ := hc0.out k r.weights[k] (List.getElem?_eq_getElem hx)
        have y0 := LInt.cells (hcell0.below LInt.rec hb3 hbl)
        simp only [LInt.rec_n, Nat.mul_one] at y0
        have HX := Lib.hid (List.getElem?_eq_getElem hx)
        clear hcell0
        generalize r.weights[k] = x at *
        have hh0 : 0 ≤ h := HH.out.1
        have hh1 : h < (n0 : Int) := by have := HH.out.2; have := HN0.out; omega
        have hat := getD_at (l := held r k) (i := h.toNat) (by rw [HLN.out, HN0.out]; omega)
        have HN2 := Lib.hid (HNX.out x HX.out)
        obtain ⟨c, hc⟩ : ∃ c, c = (held r k).getD h.toNat 0 := ⟨_, rfl⟩
        rw [← hc] at hat HN2 HCI
        have hxb := inB_yes (HGP.out.w k x HX.out)
        have e1 : IntKind.i64.wrap (c + x) = c + x := IntWalk.i64_in _ (by have := HCI.out; omega)
        have HPut := Lib.hid (show Own LInt.rec 3 _ g _ (held r (k + 1)) from HN2.out ▸ LInt.putAll (by rw [HLN.out, HN0.out]) HO2.out h.toNat c (c + x) hat)
        have cc0 := LInt.cells (Own.at_ HO2.out h.toNat c hat)
        simp only [LInt.rec_n, Nat.mul_one] at cc0
        have hf : ∀ o, w2.frozen? ⟨g, o, none⟩ = false := Own.frozen (by rw [HLN.out, HN0.out]) HO2.out
        have HBf := Lib.hid (show Bx (w2.setCell ⟨g, h.toNat, none⟩ (.int .i64 (c + x))) w.heap.size 27 _ from Bx.far (p := ⟨g, h.toNat, none⟩) B2.out (by have := HG.out; show w.heap.size ≠ g; omega) _)
        have hb5 := hb3.setCell (p := ⟨g, h.toNat, none⟩) (Nat.le_of_lt HG.out) (.int .i64 (c + x))
        clear HO2 B2 hb3 hat hc
        go_wp2_with fail
        refine wp_region_still_tail 13 (by kernel_rfl) (by kernel_rfl) ?_
        simp only [List.take_succ_cons, List.take_zero, List.drop_succ_cons, List.drop_zero]
        repeat still_step
        refine wpStill_nil ?_
        go_wp2_with fail
        go_roundw
        case rel => exact ⟨k + 1, by omega, by go_num, Lib.hid (Own.kept HPut.out ((Below.refl _ _).drew)), Lib.hid (HBf.out.kept ((Below.refl _ _).drew)), hb5.drew⟩
        case measure => simp [intOf]; omega
    · obtain rfl : k = n0 := by omega
      have HR := Lib.hid (show Own LInt.rec 3 wr (w.heap.size + 1) _ (held r k) from Own.low HO.out (show w.heap.size + 1 ≤ g from HG.out))
      go_wp2_with fail
      go_ret
      exact ⟨g, rfl, HG.out, HR.out, hb⟩
set_option maxRecDepth 100000 in
set_option maxHeartbeats 1600000 in
theorem heldNo (v0 : Value) (r : V) (w : World) (h0 : LVoters.Is w v0 r) (l0 : r.weights.length ≤ 1048576) (l1 : r.proxies.length ≤ 1048576) (hg : good r = false) :
    Calls Try.prog 16 #[v0] w fun e w' => ∃ g, e = .returned (.tuple #[.slice (some ⟨g, 0, none⟩) 0 0, .bool false]) ∧ w.heap.size < g ∧ Own LInt.rec 3 w' (w.heap.size + 1) (.slice (some ⟨g, 0, none⟩) 0 0) [] ∧ Below w.heap.size w w' := by
  have HL := Lib.hid (And.intro l0 l1)
  obtain ⟨a0, n0, c0, a1, n1, c1, rfl, HN0, HN1, hb0, hb1', hm0, hm1, hc0, hc1, HI⟩ := open_is h0
  clear h0
  clear l0 l1
  obtain ⟨W, hW⟩ : ∃ W : World, W = w.alloc (Obj.cells #[.slice a0 n0 c0, .slice a1 n1 c1] 27) := ⟨_, rfl⟩
  have hb : Below w.heap.size w W := by rw [hW]; exact (Below.refl _ _).alloc (Nat.le_refl _) _
  have HZ := Lib.hid (show W.heap.size = w.heap.size + 1 by rw [hW]; simp)
  have B0 := Lib.hid (show Bx W w.heap.size 27 #[.slice a0 n0 c0, .slice a1 n1 c1] by rw [hW]; exact Bx.new _ _ _)
  have HIW := Lib.hid (LVoters.Is.below HI.out hb)
  have q0 := B0.out.cell 0
  have q1 := B0.out.cell 1
  simp only [List.getElem?_toArray, List.getElem?_cons_zero, List.getElem?_cons_succ] at q0 q1
  have HC := VoI.areVoters _ r W HIW.out HL.out.1 HL.out.2
  rw [hg] at HC
  have HC := Lib.hid HC
  go_enter Try.func16, Try.ntmps16
  go_upto_region 1 with fail
  rw [← hW]
  clear hW
  go_wp2_with fail
  refine HC.out.mono ?_
  rintro e w1 ⟨rfl, hb1⟩
  have hb2 := hb.trans (hb1.mono hb.size)
  have HZ1 := Lib.hid (show w.heap.size + 1 ≤ w1.heap.size by have := HZ.out; have := hb1.size; omega)
  have HO := Lib.hid (Own.start (T := LInt.rec) (E := 3) (w := w1) (A := w.heap.size + 1) HZ1.out)
  go_wp2_with fail
  go_ret2
  exact ⟨w1.heap.size, rfl, HZ1.out, HO.out, hb2.alloc hb2.size _⟩
set_option maxRecDepth 100000 in
set_option maxHeartbeats 1600000 in
theorem heldYes (v0 : Value) (r : V) (w : World) (h0 : LVoters.Is w v0 r) (l0 : r.weights.length ≤ 1048576) (l1 : r.proxies.length ≤ 1048576) (hg : good r = true) :
    Calls Try.prog 16 #[v0] w fun e w' => ∃ g, e = .returned (.tuple #[.slice (some ⟨g, 0, none⟩) r.weights.length r.weights.length, .bool true]) ∧ w.heap.size < g ∧ Own LInt.rec 3 w' (w.heap.size + 1) (.slice (some ⟨g, 0, none⟩) r.weights.length r.weights.length) (held r r.weights.length) ∧ Below w.heap.size w w' := by
  have HL := Lib.hid (And.intro l0 l1)
  have HGP := Lib.hid (good_of hg)
  obtain ⟨i9, hi, hz0, hz1, hz2⟩ := info_parts LInt.infoK
  have HI9 := Lib.hid hi
  have HZ9 := Lib.hid (And.intro hz0 (And.intro hz1 hz2))
  clear hi hz0 hz1 hz2
  obtain ⟨a0, n0, c0, a1, n1, c1, rfl, HN0, HN1, hb0, hb1', hm0, hm1, hc0, hc1, HI⟩ := open_is h0
  clear h0
  have hn0 : n0 ≤ 12 := by have := HGP.out.n; have := HN0.out; omega
  clear l0 l1
  obtain ⟨W, hW⟩ : ∃ W : World, W = w.alloc (Obj.cells #[.slice a0 n0 c0, .slice a1 n1 c1] 27) := ⟨_, rfl⟩
  have hb : Below w.heap.size w W := by rw [hW]; exact (Below.refl _ _).alloc (Nat.le_refl _) _
  have HZ := Lib.hid (show W.heap.size = w.heap.size + 1 by rw [hW]; simp)
  have B0 := Lib.hid (show Bx W w.heap.size 27 #[.slice a0 n0 c0, .slice a1 n1 c1] by rw [hW]; exact Bx.new _ _ _)
  have HIW := Lib.hid (LVoters.Is.below HI.out hb)
  have q0 := B0.out.cell 0
  have q1 := B0.out.cell 1
  simp only [List.getElem?_toArray, List.getElem?_cons_zero, List.getElem?_cons_succ] at q0 q1
  have HC := VoI.areVoters _ r W HIW.out HL.out.1 HL.out.2
  rw [hg] at HC
  have HC := Lib.hid HC
  clear hg
  rw [HN0.out]
  go_enter Try.func16, Try.ntmps16
  go_upto_region 1 with fail
  rw [← hW]
  clear hW
  go_wp2_with fail
  refine HC.out.mono ?_
  rintro e w1' ⟨rfl, hb1'⟩
  replace B0 := Lib.hid (B0.out.kept hb1')
  replace hb := hb.trans (hb1'.mono hb.size)
  have HZ1 := Lib.hid (show w.heap.size + 1 ≤ w1'.heap.size by have := HZ.out; have := hb1'.size; omega)
  clear hb1' q0 q1 HIW HZ
  generalize w1' = W at *
  have q0 := B0.out.cell 0
  have q1 := B0.out.cell 1
  simp only [List.getElem?_toArray, List.getElem?_cons_zero, List.getElem?_cons_succ] at q0 q1
  go_upto_region 3 with fail
  obtain ⟨g, hgg⟩ : ∃ g, g = W.heap.size := ⟨_, rfl⟩
  have HG := Lib.hid (show w.heap.size < g by have := HZ1.out; omega)
  go_wp2_with (at_make; refine wpList_make_full _ rfl (.tmp 16) (.tmp 16) 24 rfl W.heap.size 3 i9 (.int .i64 0) 1 Try.underlying24 HI9.out HZ9.out.1 HZ9.out.2.1 .i64 .i64 _ _ n0 rfl rfl rfl rfl ?m1 ?m2 ?m3 ?m4)
  case m1 => rw [HZ9.out.2.2]; omega
  case m2 => unfold maxLen; omega
  case m3 => exact Nat.le_refl _
  case m4 =>
  intro w1 hown hgrow
  have hb1 : Below W.heap.size W w1 := (Below.refl _ _).grown hgrow (Nat.le_refl _) (fun k hk => by cases hk)
  have HO : Hid (Own LInt.rec 3 w1 W.heap.size (.slice (some ⟨g, 0, none⟩) n0 n0) (held r 0)) := by
    show Bs.Own _ _ _ _ _ (List.replicate _ _)
    rw [HN0.out]
    unfold Bs.Own; rw [List.length_replicate, hgg]
    have h := LInt.made_zero n0
    unfold LInt.zero at h
    rw [← h]; exact hown
  rw [← hgg]
  rw [← hgg] at HO
  have B1 := Lib.hid (B0.out.kept hb1)
  replace hb := hb.trans (hb1.mono hb.size)
  have HG1 := Lib.hid (show g < w1.heap.size from (HO.out.lt g rfl).2)
  clear hown hgrow hb1 hgg B0 q0 q1
  have q0 := B1.out.cell 0
  have q1 := B1.out.cell 1
  simp only [List.getElem?_toArray, List.getElem?_cons_zero, List.getElem?_cons_succ] at q0 q1
  have HVN := VoV.voterNodes _ r w1 (LVoters.Is.below HI.out hb) (by have := HN0.out; omega) HGP.out.p
  rw [HN0.out] at HVN
  have HVN := Lib.hid HVN
  go_wp2_with fail
  refine HVN.out.mono ?_
  rintro e w2 ⟨gn, rfl, hgn, hon, hb2⟩
  have HON := Lib.hid hon
  have HO2 := Lib.hid (HO.out.kept hb2)
  have B2 := Lib.hid (B1.out.kept hb2)
  have HGN := Lib.hid (show g < gn by have := HG1.out; omega)
  replace hb := hb.trans (hb2.mono hb.size)
  clear hon HO B1 hb2 HVN q0 q1 hgn HG1
  have q0 := B2.out.cell 0
  have q1 := B2.out.cell 1
  simp only [List.getElem?_toArray, List.getElem?_cons_zero, List.getElem?_cons_succ] at q0 q1
  go_wp2_with fail
  clear q0 q1
  go_loopw [23] (fun i wr => ∃ k : Nat, k ≤ n0 ∧ i = .int .i64 k ∧ Hid (Own LInt.rec 3 wr g (.slice (some ⟨g, 0, none⟩) n0 n0) (held r k)) ∧ Hid (LNode.OwnR wr (w1.heap.size + 1) gn n0 n0 (nodes gn n0 r.proxies)) ∧ Below w.heap.size w wr) (fun i _ => n0 - (intOf i).toNat)
  case atStart => exact ⟨0, Nat.zero_le _, rfl, HO2, HON, hb⟩
  case round =>
    clear HO2 HON hb B2
    obtain ⟨k, hk, rfl, HO, HON, hb⟩ := hrel
    by_cases hlt : k < n0
    · have k0 : 0 ≤ (k : Int) := by omega
      have k1 : (k : Int) < (n0 : Int) := by omega
      · have hx : k < r.weights.length := by have := HN0.out; omega
        obtain ⟨b, o, rfl, hbl, hcell0⟩ := hc0.out k r.weights[k] (List.getElem?_eq_getElem hx)
        have y0 := LInt.cells (hcell0.below LInt.rec hb hbl)
        simp only [LInt.rec_n, Nat.mul_one] at y0
        have HX := Lib.hid (List.getElem?_eq_getElem hx)
        clear hcell0
        generalize r.weights[k] = x at *
        have HC := VoV.holderAndSteps r k wr _ gn n0 HN0.out HGP.out.p (ends_all HGP.out.e _) k0 k1 HL.out.2 HON
        have HH := Lib.hid (holder_in HGP.out.p HGP.out.e k0 (by have := HN0.out; omega))
        have HNX := Lib.hid (fun (x : Int) (hx : r.weights[k]? = some x) => held_next hx)
        have HCI := Lib.hid (held_in HGP.out.w k (holder r.proxies k).toNat)
        have HLN := Lib.hid (held_len r k)
        obtain ⟨h, hh⟩ : ∃ h, h = holder r.proxies k := ⟨_, rfl⟩
        rw [← hh] at HC HH HNX HCI
        have HC := Lib.hid HC
        clear hh
        have hh0 : 0 ≤ h := HH.out.1
        have hh1 : h < (n0 : Int) := by have := HH.out.2; have := HN0.out; omega
        have hat := getD_at (l := held r k) (i := h.toNat) (by rw [HLN.out, HN0.out]; omega)
        have HN2 := Lib.hid (HNX.out x HX.out)
        obtain ⟨c, hc⟩ : ∃ c, c = (held r k).getD h.toNat 0 := ⟨_, rfl⟩
        rw [← hc] at hat HN2 HCI
        have hxb := inB_yes (HGP.out.w k x HX.out)
        have e1 : IntKind.i64.wrap (c + x) = c + x := IntWalk.i64_in _ (by have := HCI.out; omega)
        have HPut := Lib.hid (show Own LInt.rec 3 _ g _ (held r (k + 1)) from HN2.out ▸ LInt.putAll (by rw [HLN.out, HN0.out]) HO.out h.toNat c (c + x) hat)
        have cc0 := LInt.cells (Own.at_ HO.out h.toNat c hat)
        simp only [LInt.rec_n, Nat.mul_one] at cc0
        have hf : ∀ o, wr.frozen? ⟨g, o, none⟩ = false := Own.frozen (by rw [HLN.out, HN0.out]) HO.out
        have HNf := Lib.hid (show LNode.OwnR (wr.setCell ⟨g, h.toNat, none⟩ (.int .i64 (c + x))) (w1.heap.size + 1) gn n0 n0 (nodes gn n0 r.proxies) from own_set HON.out (p := ⟨g, h.toNat, none⟩) (fun kk hkk => by have := HGN.out; cases hkk; show gn ≠ g; omega) _)
        have hb5 := hb.setCell (p := ⟨g, h.toNat, none⟩) (Nat.le_of_lt HG.out) (.int .i64 (c + x))
        clear HO HON hb hat hc
        go_wp2_with fail
        refine HC.out.mono ?_
        rintro e w3 ⟨rfl, hw3⟩
        subst hw3
        go_wp2_with fail
        go_roundw
        case rel => exact ⟨k + 1, by omega, by go_num, HPut, HNf, hb5⟩
        case measure => simp [intOf]; omega
    · obtain rfl : k = n0 := by omega
      have HR := Lib.hid (show Own LInt.rec 3 wr (w.heap.size + 1) _ (held r k) from Own.low HO.out (show w.heap.size + 1 ≤ g from HG.out))
      go_wp2_with fail
      go_ret2
      exact ⟨g, rfl, HG.out, HR.out, hb⟩
end Go.Proofs.Ytdjnaoaniokbgaa.VoH
