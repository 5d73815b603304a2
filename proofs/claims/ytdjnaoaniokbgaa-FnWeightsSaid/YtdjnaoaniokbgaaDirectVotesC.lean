/- DirectVotes: what it answers, on both sides. No condition. -/
import Derived.Test.YtdjnaoaniokbgaaVoH
import Derived.Test.YtdjnaoaniokbgaaAppO
import Derived.Deep.CutBlock
namespace Go.Proofs.Ytdjnaoaniokbgaa.DirectVotesC
open Go.RowKit Bs Word Sq IntF Vo VoA VoN
set_option linter.unusedVariables false
noncomputable def answer (r : V) : List Int × Bool := if good r = true then (direct r r.weights.length, true) else ([], false)
def Ans (r : V) (r0 : List Int) (r1 : Bool) : Prop := (r0, r1) = answer r
theorem same {r : V} {r0 s0 : List Int} {r1 s1 : Bool} (h1 : Ans r r0 r1) (h2 : Ans r s0 s1) : r0 = s0 ∧ r1 = s1 := by
  have h := h1.trans h2.symm
  exact ⟨congrArg Prod.fst h, congrArg Prod.snd h⟩
theorem len0 {r : V} {r0 : List Int} {r1 : Bool} (h : Ans r r0 r1) : r0.length ≤ 1048576 := by
  unfold Ans answer at h
  split at h
  · rename_i hg
    have h1 := congrArg Prod.fst h; simp only at h1; subst h1
    have := direct_len r r.weights.length; have := (good_of hg).n; omega
  · have h1 := congrArg Prod.fst h; simp only at h1; subst h1; simp
theorem direct_yes {v : V} {k : Nat} (h : nxt v.proxies k < 0) : direct v (k + 1) = direct v k ++ [(k : Int)] := by show direct v k ++ _ = _; rw [if_pos h]
theorem direct_no {v : V} {k : Nat} (h : ¬ nxt v.proxies k < 0) : direct v (k + 1) = direct v k := by show direct v k ++ _ = _; rw [if_neg h, List.append_nil]
def Post (r : V) (w : World) (e : Ending) (w' : World) : Prop := ∃ v0 r0 r1, e = .returned (.tuple #[v0, .bool r1]) ∧ Ans r r0 r1 ∧ Own LInt.rec 3 w' w.heap.size v0 r0 ∧ Below w.heap.size w w'
set_option maxRecDepth 100000 in
set_option maxHeartbeats 1600000 in
theorem spec (v0 : Value) (r : V) (w : World) (h0 : LVoters.IsQ w v0 r) (f0 : LVoters.Fine r) (l0 : r.weights.length ≤ 1048576) (l1 : r.proxies.length ≤ 1048576) : Calls Try.prog 22 #[v0] w (Post r w) := by
  obtain ⟨i9, hi, hz0, hz1, hz2⟩ := info_parts LInt.infoK
  have HI9 := Lib.hid hi
  have HZ9 := Lib.hid (And.intro hz0 (And.intro hz1 hz2))
  clear hi hz0 hz1 hz2
  have HL := Lib.hid (And.intro l0 l1)
  replace h0 := LVoters.IsQ.is h0
  obtain ⟨a0, n0, c0, a1, n1, c1, rfl, HN0, HN1, hb0, hb1', hm0, hm1, hc0, hc1, HI⟩ := open_is h0
  clear h0
  clear l0 l1 f0
  obtain ⟨W, hW⟩ : ∃ W : World, W = w.alloc (Obj.cells #[.slice a0 n0 c0, .slice a1 n1 c1] 27) := ⟨_, rfl⟩
  have hb : Below w.heap.size w W := by rw [hW]; exact (Below.refl _ _).alloc (Nat.le_refl _) _
  have HZ := Lib.hid (show W.heap.size = w.heap.size + 1 by rw [hW]; simp)
  have B0 := Lib.hid (show Bx W w.heap.size 27 #[.slice a0 n0 c0, .slice a1 n1 c1] by rw [hW]; exact Bx.new _ _ _)
  have HIW := Lib.hid (LVoters.Is.below HI.out hb)
  have q0 := B0.out.cell 0
  have q1 := B0.out.cell 1
  simp only [List.getElem?_toArray, List.getElem?_cons_zero, List.getElem?_cons_succ] at q0 q1
  have HZW := Lib.hid (show w.heap.size + 1 ≤ W.heap.size by have := HZ.out; omega)
  obtain ⟨W1, hW1⟩ : ∃ W1 : World, W1 = W.alloc (Obj.cells #[] 3) := ⟨_, rfl⟩
  have hbA : Below W.heap.size W W1 := by rw [hW1]; exact (Below.refl _ _).alloc (Nat.le_refl _) _
  have HO := Lib.hid (show Own LInt.rec 3 W1 (w.heap.size + 1) (.slice (some ⟨W.heap.size, 0, none⟩) 0 0) [] by rw [hW1]; exact Own.start HZW.out)
  go_enter Try.func22, Try.ntmps22
  go_upto_region 1 with fail
  rw [← hW]
  clear hW
  go_upto_region 2 with fail
  rw [← hW1]
  clear hW1 q0 q1
  have B1 := Lib.hid (B0.out.kept hbA)
  have HZW1 := Lib.hid (Nat.le_trans HZW.out hbA.size)
  replace hb := hb.trans (hbA.mono hb.size)
  have q0 := B1.out.cell 0
  have q1 := B1.out.cell 1
  simp only [List.getElem?_toArray, List.getElem?_cons_zero, List.getElem?_cons_succ] at q0 q1
  have HC := Lib.hid (VoG.l12Good _ r W1 (LVoters.Is.below HI.out hb) HL.out.1 HL.out.2)
  go_wp2_with fail
  refine HC.out.mono ?_
  rintro e w2 ⟨rfl, hb2⟩
  have B2 := Lib.hid (B1.out.kept hb2)
  have HO2 := Lib.hid (HO.out.kept hb2)
  have HZW2 := Lib.hid (Nat.le_trans HZW1.out hb2.size)
  replace hb := hb.trans (hb2.mono hb.size)
  clear q0 q1 B1 HO hb2 B0
  have q0 := B2.out.cell 0
  have q1 := B2.out.cell 1
  simp only [List.getElem?_toArray, List.getElem?_cons_zero, List.getElem?_cons_succ] at q0 q1
  cases hg : good r with
  | false =>
    have HA := Lib.hid (show Ans r [] false by unfold Ans answer; rw [hg]; rfl)
    clear hg
    go_wp2_with fail
    go_ret2
    exact ⟨_, _, _, rfl, HA.out, HO2.out.low (Nat.le_succ _), hb⟩
  | true =>
  have HA := Lib.hid (show Ans r (direct r r.weights.length) true by unfold Ans answer; rw [hg]; rfl)
  have h12 : n0 ≤ 12 := by have := (good_of hg).n; have := HN0.out; omega
  clear hg
  go_wp2_with fail
  clear q0 q1
  go_loopw [4, 5] (fun so i wr => ∃ (k : Nat) (o1 : Value), o1 = so ∧ k ≤ n0 ∧ i = .int .i64 k ∧ Hid (Bx wr w.heap.size 27 #[.slice a0 n0 c0, .slice a1 n1 c1]) ∧ Hid (Own LInt.rec 3 wr (w.heap.size + 1) o1 (direct r k)) ∧ Hid (w.heap.size + 1 ≤ wr.heap.size) ∧ Below w.heap.size w wr) (fun _ i _ => n0 - (intOf i).toNat)
  case atStart => exact ⟨0, _, rfl, Nat.zero_le _, rfl, B2, HO2, HZW2, hb⟩
  case round =>
    clear B2 HO2 hb HZW2
    obtain ⟨k, o1, rfl, hk, rfl, B1, HO, HZW3, hb⟩ := hrel
    have q0 := B1.out.cell 0
    have q1 := B1.out.cell 1
    simp only [List.getElem?_toArray, List.getElem?_cons_zero, List.getElem?_cons_succ] at q0 q1
    by_cases hlt : k < n0
    · have hd := direct_len r k
      have HD := Lib.hid (show (direct r k).length ≤ 12 by omega)
      obtain ⟨t, ht⟩ : ∃ t, t = nxt r.proxies k := ⟨_, rfl⟩
      have HN := VoA.l12Next _ r k wr (LVoters.Is.below HI.out hb)
      rw [← ht] at HN
      have HN := Lib.hid HN
      clear hd
      go_wp2_with fail
      refine HN.out.mono ?_
      rintro e w3 ⟨rfl, hb3⟩
      have B3 := Lib.hid (B1.out.kept hb3)
      have HO3 := Lib.hid (HO.out.kept hb3)
      have HZW := Lib.hid (Nat.le_trans HZW3.out hb3.size)
      replace hb := hb.trans (hb3.mono hb.size)
      clear B1 HO HZW3 hb3 q0 q1
      by_cases hn : t < 0
      · have HDN := Lib.hid (direct_yes (show nxt r.proxies k < 0 by rw [← ht]; exact hn))
        clear ht
        go_wp2_with (at_builtin; refine wpList_append_o (T := LInt.rec) _ rfl (.tmp 22) (.tmp 24) 24 rfl (w.heap.size + 1) 3 i9 (.int .i64 0) 8 Try.underlying24 HI9.out HZ9.out.1 HZ9.out.2.1 HZ9.out.2.2 rfl _ _ rfl (HO3.out.alloc _) (some ⟨w3.heap.size, 0, none⟩) 1 1 [(k : Int)] rfl rfl (src_one (T := LInt.rec) (heap_alloc_new w3 _)) (by have := HD.out; unfold maxLen; omega) (by have := HD.out; omega) (by simp; have := HZW.out; omega) ?_)
        intro v5 w4 o5 hgrow hnn hat
        have B4 := Lib.hid (box_besides (B3.out.alloc (Obj.cells #[.int .i64 k] 3)) hgrow (fun e => by have := (HO3.out.lt _ e).1; omega))
        have HO4 := Lib.hid (show Own LInt.rec 3 w4 (w.heap.size + 1) v5 (direct r (k + 1)) by rw [HDN.out]; exact o5)
        have hb4 := below_grown (hb.alloc hb.size (Obj.cells #[.int .i64 k] 3)) hgrow (by simp; have := hb.size; omega) (fun kk hkk => by have := (HO3.out.lt kk hkk).1; omega)
        have HZ4 := Lib.hid (show w.heap.size + 1 ≤ w4.heap.size by have h1 := hgrow.size; simp at h1; have := HZW.out; omega)
        clear hgrow hnn hat o5 hb
        go_wp2_with fail
        go_roundw
        case rel => exact ⟨k + 1, v5, rfl, by omega, by go_num, B4, HO4, HZ4, hb4⟩
        case measure => simp [intOf]; omega
      · have HDN := Lib.hid (direct_no (show ¬ nxt r.proxies k < 0 by rw [← ht]; exact hn))
        clear ht
        have HO4 := Lib.hid (show Own LInt.rec 3 w3 (w.heap.size + 1) o1 (direct r (k + 1)) by rw [HDN.out]; exact HO3.out)
        go_wp2_with fail
        go_roundw
        case rel => exact ⟨k + 1, o1, rfl, by omega, by go_num, B3, HO4, HZW, hb⟩
        case measure => simp [intOf]; omega
    · obtain rfl : k = n0 := by omega
      have HO4 := Lib.hid (show Own LInt.rec 3 wr (w.heap.size + 1) o1 (direct r r.weights.length) by rw [HN0.out]; exact HO.out)
      go_wp2_with fail
      go_ret2
      exact ⟨_, _, _, rfl, HA.out, HO4.out.low (Nat.le_succ _), hb⟩
set_option maxRecDepth 100000 in
set_option maxHeartbeats 1600000 in
theorem impl (v0 : Value) (r : V) (w : World) (h0 : LVoters.IsQ w v0 r) (f0 : LVoters.Fine r) (l0 : r.weights.length ≤ 1048576) (l1 : r.proxies.length ≤ 1048576) : Calls Try.prog 21 #[v0] w (Post r w) := by
  obtain ⟨i9, hi, hz0, hz1, hz2⟩ := info_parts LInt.infoK
  have HI9 := Lib.hid hi
  have HZ9 := Lib.hid (And.intro hz0 (And.intro hz1 hz2))
  clear hi hz0 hz1 hz2
  have HL := Lib.hid (And.intro l0 l1)
  replace h0 := LVoters.IsQ.is h0
  obtain ⟨a0, n0, c0, a1, n1, c1, rfl, HN0, HN1, hb0, hb1', hm0, hm1, hc0, hc1, HI⟩ := open_is h0
  clear h0
  clear l0 l1 f0
  obtain ⟨W, hW⟩ : ∃ W : World, W = w.alloc (Obj.cells #[.slice a0 n0 c0, .slice a1 n1 c1] 27) := ⟨_, rfl⟩
  have hb : Below w.heap.size w W := by rw [hW]; exact (Below.refl _ _).alloc (Nat.le_refl _) _
  have HZ := Lib.hid (show W.heap.size = w.heap.size + 1 by rw [hW]; simp)
  have B0 := Lib.hid (show Bx W w.heap.size 27 #[.slice a0 n0 c0, .slice a1 n1 c1] by rw [hW]; exact Bx.new _ _ _)
  have HIW := Lib.hid (LVoters.Is.below HI.out hb)
  have q0 := B0.out.cell 0
  have q1 := B0.out.cell 1
  simp only [List.getElem?_toArray, List.getElem?_cons_zero, List.getElem?_cons_succ] at q0 q1
  have HC := Lib.hid (VoI.areVoters _ r W HIW.out HL.out.1 HL.out.2)
  have HZW0 := Lib.hid (show w.heap.size + 1 ≤ W.heap.size by have := HZ.out; omega)
  go_enter Try.func21, Try.ntmps21
  go_upto_region 1 with fail
  rw [← hW]
  clear hW
  go_wp2_with fail
  refine HC.out.mono ?_
  rintro e w1 ⟨rfl, hb1⟩
  have B1 := Lib.hid (B0.out.kept hb1)
  have HZW1 := Lib.hid (Nat.le_trans HZW0.out hb1.size)
  replace hb := hb.trans (hb1.mono hb.size)
  clear q0 q1 hb1
  have q0 := B1.out.cell 0
  have q1 := B1.out.cell 1
  simp only [List.getElem?_toArray, List.getElem?_cons_zero, List.getElem?_cons_succ] at q0 q1
  cases hg : good r with
  | false =>
    have HA := Lib.hid (show Ans r [] false by unfold Ans answer; rw [hg]; rfl)
    have HO := Lib.hid (Own.start (T := LInt.rec) (E := 3) (w := w1) (A := w.heap.size) hb.size)
    clear hg
    go_wp2_with fail
    go_ret2
    exact ⟨_, _, _, rfl, HA.out, HO.out, hb.alloc hb.size _⟩
  | true =>
  have HGP := Lib.hid (good_of hg)
  have HA := Lib.hid (show Ans r (direct r r.weights.length) true by unfold Ans answer; rw [hg]; rfl)
  have h12 : n0 ≤ 12 := by have := (good_of hg).n; have := HN0.out; omega
  clear hg
  obtain ⟨W1, hW1⟩ : ∃ W1 : World, W1 = w1.alloc (Obj.cells #[] 3) := ⟨_, rfl⟩
  have hbA : Below w1.heap.size w1 W1 := by rw [hW1]; exact (Below.refl _ _).alloc (Nat.le_refl _) _
  have HO := Lib.hid (show Own LInt.rec 3 W1 (w.heap.size + 1) (.slice (some ⟨w1.heap.size, 0, none⟩) 0 0) [] by rw [hW1]; exact Own.start HZW1.out)
  have B2 := Lib.hid (B1.out.kept hbA)
  have HZW2 := Lib.hid (Nat.le_trans HZW1.out hbA.size)
  replace hb := hb.trans (hbA.mono hb.size)
  have HVN := VoV.voterNodes _ r W1 (LVoters.Is.below HI.out hb) HL.out.1 HGP.out.p
  rw [HN0.out] at HVN
  have HVN := Lib.hid HVN
  clear q0 q1
  have q0 := B2.out.cell 0
  have q1 := B2.out.cell 1
  simp only [List.getElem?_toArray, List.getElem?_cons_zero, List.getElem?_cons_succ] at q0 q1
  go_upto_region 4 with fail
  rw [← hW1]
  clear hW1 hbA
  have HG1 := Lib.hid (show ∀ k, (Value.slice (some ⟨w1.heap.size, 0, none⟩) 0 0).ownBlock = some k → k < W1.heap.size from fun k hk => (HO.out.lt k hk).2)
  go_wp2_with fail
  refine HVN.out.mono ?_
  rintro e w2 ⟨gn, rfl, hgn, hon, hb2⟩
  have HON := Lib.hid (hon.low (show w.heap.size + 1 ≤ W1.heap.size + 1 by have := HZW2.out; omega))
  have HO2 := Lib.hid (HO.out.kept hb2)
  have HD2 := Lib.hid (show Dist (.slice (some ⟨w1.heap.size, 0, none⟩) 0 0) (.slice (some ⟨gn, 0, none⟩) n0 n0) from fun a ha hb' => by have h1 := HG1.out a ha; have h2 := Option.some.inj (show some gn = some a from hb'); omega)
  have HZW3 := Lib.hid (Nat.le_trans HZW2.out hb2.size)
  replace hb := hb.trans (hb2.mono hb.size)
  clear hon HO hb2 HVN hgn HG1 q0 q1 B1 B2
  go_wp2_with fail
  go_loopw [4, 15] (fun so i wr => ∃ (k : Nat) (o1 : Value), o1 = so ∧ k ≤ n0 ∧ i = .int .i64 k ∧ Hid (Own LInt.rec 3 wr (w.heap.size + 1) o1 (direct r k)) ∧ Hid (LNode.OwnR wr (w.heap.size + 1) gn n0 n0 (nodes gn n0 r.proxies)) ∧ Hid (Dist o1 (.slice (some ⟨gn, 0, none⟩) n0 n0)) ∧ Hid (w.heap.size + 1 ≤ wr.heap.size) ∧ Below w.heap.size w wr) (fun _ i _ => n0 - (intOf i).toNat)
  case atStart => exact ⟨0, _, rfl, Nat.zero_le _, rfl, HO2, HON, HD2, HZW3, hb⟩
  case round =>
    clear HO2 HON hb HZW3 HD2
    obtain ⟨k, o1, rfl, hk, rfl, HO, HON, HDD, HZW3, hb⟩ := hrel
    by_cases hlt : k < n0
    · have k0 : 0 ≤ (k : Int) := by omega
      have k1 : (k : Int) < (n0 : Int) := by omega
      have hd := direct_len r k
      have HD := Lib.hid (show (direct r k).length ≤ 12 by omega)
      have y0 := at_num HON.out hlt
      have y1 := at_ptr HON.out hlt
      obtain ⟨t, ht⟩ : ∃ t, t = nxt r.proxies (k : Nat) := ⟨_, rfl⟩
      rw [← ht] at y1
      clear hd
      obtain ⟨G, hG⟩ : ∃ G, G = wr.heap.size := ⟨_, rfl⟩
      by_cases hn : t < 0
      · have HDN := Lib.hid (direct_yes (show nxt r.proxies k < 0 by rw [← ht]; exact hn))
        clear ht
        rw [ptr_no hn] at y1
        obtain ⟨wa, hwa⟩ : ∃ wa : World, wa = wr.alloc (Obj.cells #[.int .i64 k, .pointer none] 67) := ⟨_, rfl⟩
        have hba : Below wr.heap.size wr wa := by rw [hwa]; exact (Below.refl _ _).alloc (Nat.le_refl _) _
        have BX := Lib.hid (show Bx wa G 67 #[.int .i64 k, .pointer none] by rw [hwa, hG]; exact Bx.new _ _ _)
        have HO3 := Lib.hid (HO.out.kept hba)
        have HON3 := Lib.hid (HON.out.kept hba)
        have HZW := Lib.hid (Nat.le_trans HZW3.out hba.size)
        replace hb := hb.trans (hba.mono hb.size)
        clear hn
        go_upto_region 7 with fail
        rw [← hwa, ← hG]
        clear hwa hG hba HO HON HZW3 y0 y1
        have x0 := BX.out.cell 0
        have x1 := BX.out.cell 1
        simp only [List.getElem?_toArray, List.getElem?_cons_zero, List.getElem?_cons_succ] at x0 x1
        go_wp2_with (at_builtin; refine wpList_append_o (T := LInt.rec) _ rfl (.tmp 22) (.tmp 25) 24 rfl (w.heap.size + 1) 3 i9 (.int .i64 0) 8 Try.underlying24 HI9.out HZ9.out.1 HZ9.out.2.1 HZ9.out.2.2 rfl _ _ rfl (HO3.out.alloc _) (some ⟨wa.heap.size, 0, none⟩) 1 1 [(k : Int)] rfl rfl (src_one (T := LInt.rec) (heap_alloc_new wa _)) (by have := HD.out; unfold maxLen; omega) (by have := HD.out; omega) (by simp; have := HZW.out; omega) ?_)
        intro v5 w4 o5 hgrow hnn hat
        have HON4 := Lib.hid (own_besides (HON3.out.alloc (Obj.cells #[.int .i64 k] 3)) hgrow HDD.out.symm)
        have HD4 := Lib.hid (dist_grow (HON3.out.alloc (Obj.cells #[.int .i64 k] 3)) HDD.out.symm (show _ ∨ _ = some (wa.alloc (Obj.cells #[.int .i64 k] 3)).heap.size by simpa using hat)).symm
        have HO4 := Lib.hid (show Own LInt.rec 3 w4 (w.heap.size + 1) v5 (direct r (k + 1)) by rw [HDN.out]; exact o5)
        have hb4 := below_grown (hb.alloc hb.size (Obj.cells #[.int .i64 k] 3)) hgrow (by simp; have := hb.size; omega) (fun kk hkk => by have := (HO3.out.lt kk hkk).1; omega)
        have HZ4 := Lib.hid (show w.heap.size + 1 ≤ w4.heap.size by have h1 := hgrow.size; simp at h1; have := HZW.out; omega)
        clear hgrow hnn hat o5 hb
        go_wp2_with fail
        go_roundw
        case rel => exact ⟨k + 1, v5, rfl, by omega, by go_num, HO4, HON4, HD4, HZ4, hb4⟩
        case measure => simp [intOf]; omega
      · have HDN := Lib.hid (direct_no (show ¬ nxt r.proxies k < 0 by rw [← ht]; exact hn))
        clear ht
        rw [ptr_in (show 0 ≤ t by omega)] at y1
        obtain ⟨wa, hwa⟩ : ∃ wa : World, wa = wr.alloc (Obj.cells #[.int .i64 k, .pointer (some ⟨gn, t.toNat * 2, none⟩)] 67) := ⟨_, rfl⟩
        have hba : Below wr.heap.size wr wa := by rw [hwa]; exact (Below.refl _ _).alloc (Nat.le_refl _) _
        have BX := Lib.hid (show Bx wa G 67 #[.int .i64 k, .pointer (some ⟨gn, t.toNat * 2, none⟩)] by rw [hwa, hG]; exact Bx.new _ _ _)
        have HO4 := Lib.hid (show Own LInt.rec 3 wa (w.heap.size + 1) o1 (direct r (k + 1)) by rw [HDN.out]; exact HO.out.kept hba)
        have HON3 := Lib.hid (HON.out.kept hba)
        have HZW := Lib.hid (Nat.le_trans HZW3.out hba.size)
        replace hb := hb.trans (hba.mono hb.size)
        clear hn
        go_upto_region 7 with fail
        rw [← hwa, ← hG]
        clear hwa hG hba HO HON HZW3 y0 y1
        have x0 := BX.out.cell 0
        have x1 := BX.out.cell 1
        simp only [List.getElem?_toArray, List.getElem?_cons_zero, List.getElem?_cons_succ] at x0 x1
        go_wp2_with fail
        go_roundw
        case rel => exact ⟨k + 1, o1, rfl, by omega, by go_num, HO4, HON3, HDD, HZW, hb⟩
        case measure => simp [intOf]; omega
    · obtain rfl : k = n0 := by omega
      have HO4 := Lib.hid (show Own LInt.rec 3 wr (w.heap.size + 1) o1 (direct r r.weights.length) by rw [HN0.out]; exact HO.out)
      go_wp2_with fail
      go_ret2
      exact ⟨_, _, _, rfl, HA.out, HO4.out.low (Nat.le_succ _), hb⟩
end Go.Proofs.Ytdjnaoaniokbgaa.DirectVotesC
