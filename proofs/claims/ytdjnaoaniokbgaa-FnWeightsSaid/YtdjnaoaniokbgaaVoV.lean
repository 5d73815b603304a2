/- Proxies: the program's nodes and ways. No condition. -/
import Derived.Test.YtdjnaoaniokbgaaVoA
import Derived.Test.YtdjnaoaniokbgaaVoN
import Derived.StillTailTactics
import Derived.LaidEqlPtr
import Derived.Deep.LoopGhost
namespace Go.Proofs.Ytdjnaoaniokbgaa.VoV
open Go.RowKit Bs Word Sq IntF Vo VoA VoN
set_option linter.unusedVariables false
set_option maxRecDepth 100000 in
set_option maxHeartbeats 1600000 in
theorem isVoter (v0 : Value) (r : V) (m : Int) (w : World) (h0 : LVoters.Is w v0 r) :
    Calls Try.prog 58 #[v0, .int .i64 m] w fun e w' => e = .returned (.bool (inB m 0 ((r.weights.length : Int) - 1))) ∧ Below w.heap.size w w' := by
  obtain ⟨a0, n0, c0, a1, n1, c1, rfl, HN0, HN1, hb0, hb1', hm0, hm1, hc0, hc1, HI⟩ := open_is h0
  clear h0
  obtain ⟨W, hW⟩ : ∃ W : World, W = w.alloc (Obj.cells #[.slice a0 n0 c0, .slice a1 n1 c1] 27) := ⟨_, rfl⟩
  have hb : Below w.heap.size w W := by rw [hW]; exact (Below.refl _ _).alloc (Nat.le_refl _) _
  have HZ := Lib.hid (show W.heap.size = w.heap.size + 1 by rw [hW]; simp)
  have B0 := Lib.hid (show Bx W w.heap.size 27 #[.slice a0 n0 c0, .slice a1 n1 c1] by rw [hW]; exact Bx.new _ _ _)
  have HIW := Lib.hid (LVoters.Is.below HI.out hb)
  have q0 := B0.out.cell 0
  have q1 := B0.out.cell 1
  simp only [List.getElem?_toArray, List.getElem?_cons_zero, List.getElem?_cons_succ] at q0 q1
  go_enter Try.func58, Try.ntmps58
  go_upto_region 1 with fail
  rw [← hW]
  clear hW
  by_cases h1 : 0 ≤ m
  · by_cases h2 : m < n0
    · have HB := Lib.hid (show inB m 0 ((r.weights.length : Int) - 1) = true from inB_mk h1 (by have := HN0.out; omega))
      go_wp2_with fail
      go_ret
      exact ⟨ret_bool HB.out.symm, hb⟩
    · have HB := Lib.hid (show inB m 0 ((r.weights.length : Int) - 1) = false from inB_not (by have := HN0.out; omega))
      go_wp2_with fail
      go_ret
      exact ⟨ret_bool HB.out.symm, hb⟩
  · have HB := Lib.hid (show inB m 0 ((r.weights.length : Int) - 1) = false from inB_not (by omega))
    go_wp2_with fail
    go_ret
    exact ⟨ret_bool HB.out.symm, hb⟩
set_option maxRecDepth 100000 in
set_option maxHeartbeats 1600000 in
theorem voterNodes (v0 : Value) (r : V) (w : World) (h0 : LVoters.Is w v0 r) (hl0 : r.weights.length ≤ 1048576) (hp : PP r) :
    Calls Try.prog 54 #[v0] w fun e w' => ∃ g, e = .returned (.slice (some ⟨g, 0, none⟩) r.weights.length r.weights.length) ∧ w.heap.size < g ∧ LNode.OwnR w' (w.heap.size + 1) g r.weights.length r.weights.length (nodes g r.weights.length r.proxies) ∧ Below w.heap.size w w' := by
  have HP := Lib.hid hp
  clear hp
  obtain ⟨i0, hi, hzz⟩ := Option.map_eq_some_iff.1 LNode.infoK
  simp only [Prod.mk.injEq] at hzz
  have HII := Lib.hid hi
  have HZZ := Lib.hid hzz
  clear hi hzz
  obtain ⟨a0, n0, c0, a1, n1, c1, rfl, HN0, HN1, hb0, hb1', hm0, hm1, hc0, hc1, HI⟩ := open_is h0
  clear h0
  have hn0 : n0 ≤ 1048576 := by have := HN0.out; omega
  have hn1 : n1 ≤ 1048576 := by have h1 := p_len HP.out; have := HN1.out; omega
  clear hl0
  rw [HN0.out]
  obtain ⟨W, hW⟩ : ∃ W : World, W = w.alloc (Obj.cells #[.slice a0 n0 c0, .slice a1 n1 c1] 27) := ⟨_, rfl⟩
  have hb : Below w.heap.size w W := by rw [hW]; exact (Below.refl _ _).alloc (Nat.le_refl _) _
  have HZ := Lib.hid (show W.heap.size = w.heap.size + 1 by rw [hW]; simp)
  have B0 := Lib.hid (show Bx W w.heap.size 27 #[.slice a0 n0 c0, .slice a1 n1 c1] by rw [hW]; exact Bx.new _ _ _)
  have HIW := Lib.hid (LVoters.Is.below HI.out hb)
  have q0 := B0.out.cell 0
  have q1 := B0.out.cell 1
  simp only [List.getElem?_toArray, List.getElem?_cons_zero, List.getElem?_cons_succ] at q0 q1
  go_enter Try.func54, Try.ntmps54
  go_upto_region 1 with fail
  rw [← hW]
  clear hW
  obtain ⟨g, hg⟩ : ∃ g, g = W.heap.size := ⟨_, rfl⟩
  have HG := Lib.hid (show w.heap.size < g by have := HZ.out; omega)
  have HGE := Lib.hid (show g = w.heap.size + 1 by have := HZ.out; omega)
  go_wp2_with (at_make; refine wpList_make_full _ rfl (.tmp 9) (.tmp 9) 61 rfl W.heap.size 67 i0 (.agg #[.int .i64 0, .pointer none]) 2 Try.underlying61 HII.out HZZ.out.1 HZZ.out.2.1 .i64 .i64 _ _ n0 rfl rfl rfl rfl ?m1 ?m2 ?m3 ?m4)
  case m1 => rw [HZZ.out.2.2]; omega
  case m2 => unfold maxLen; omega
  case m3 => exact Nat.le_refl _
  case m4 =>
  intro w1 hown hgrow
  have hb1 : Below W.heap.size W w1 := (Below.refl _ _).grown hgrow (Nat.le_refl _) (fun k hk => by cases hk)
  have HO : Hid (LNode.OwnR w1 W.heap.size g n0 n0 (nod1 n0 0)) := by
    show Bs.Own _ _ _ _ _ _
    rw [← nod1_zero]
    unfold Bs.Own; rw [List.length_replicate, ← LNode.made_zero n0, hg]; exact hown
  rw [← hg]
  rw [← hg] at HO
  have B1 := Lib.hid (B0.out.kept hb1)
  replace hb := hb.trans (hb1.mono hb.size)
  clear hown hgrow hb1 hg B0 HIW q0 q1
  have q0 := B1.out.cell 0
  have q1 := B1.out.cell 1
  simp only [List.getElem?_toArray, List.getElem?_cons_zero, List.getElem?_cons_succ] at q0 q1
  go_wp2_with fail
  clear q0 q1
  go_loopw [13] (fun i wr => ∃ k : Nat, k ≤ n0 ∧ i = .int .i64 k ∧ Hid (LNode.OwnR wr g g n0 n0 (nod1 n0 k)) ∧ Hid (Bx wr w.heap.size 27 #[.slice a0 n0 c0, .slice a1 n1 c1]) ∧ Below w.heap.size w wr) (fun i _ => n0 - (intOf i).toNat)
  case atStart => exact ⟨0, Nat.zero_le _, rfl, HO, B1, hb⟩
  case round =>
    clear HO B1 hb
    obtain ⟨k, hk, rfl, HO, B1, hb⟩ := hrel
    have q0 := B1.out.cell 0
    have q1 := B1.out.cell 1
    simp only [List.getElem?_toArray, List.getElem?_cons_zero, List.getElem?_cons_succ] at q0 q1
    by_cases hlt : k < n0
    · have k0 : 0 ≤ (k : Int) := by omega
      have k1 : (k : Int) < (n0 : Int) := by omega
      have HPut := Lib.hid (show LNode.OwnR _ g g n0 n0 (nod1 n0 (k + 1)) from nod1_set hlt ▸ LNode.putNum (nod1_len _ _) HO.out k ⟨0, none⟩ k (nod1_at hlt))
      have cc0 := (LNode.cells (Own.at_ HO.out k _ (nod1_at hlt))).1
      have hf : ∀ o, wr.frozen? ⟨g, o, none⟩ = false := Own.frozen (nod1_len _ _) HO.out
      have HBf := Lib.hid (show Bx (wr.setCell ⟨g, k * 2, none⟩ (.int .i64 k)) w.heap.size 27 #[.slice a0 n0 c0, .slice a1 n1 c1] from Bx.far (p := ⟨g, k * 2, none⟩) B1.out (by have := HG.out; show w.heap.size ≠ g; omega) _)
      have hb5 := hb.setCell (p := ⟨g, k * 2, none⟩) (Nat.le_of_lt HG.out) (.int .i64 k)
      simp only [LNode.rec_n] at cc0
      go_wp2_with fail
      go_roundw
      case rel => exact ⟨k + 1, by omega, by go_num, HPut, HBf, hb5⟩
      case measure => simp [intOf]; omega
    · obtain rfl : k = n0 := by omega
      have HO2 := Lib.hid (show LNode.OwnR wr g g k k (nodes g k (r.proxies.take 0)) from nod1_all g k ▸ HO.out)
      clear HO
      go_wp2_with fail
      clear q0 q1 hlt hk
      generalize wr = W2 at *
      go_loopw [25] (fun i wr => ∃ m : Nat, m ≤ n1 ∧ i = .int .i64 m ∧ Hid (LNode.OwnR wr g g k k (nodes g k (r.proxies.take m))) ∧ Below w.heap.size w wr) (fun i _ => n1 - (intOf i).toNat)
      case atStart => exact ⟨0, Nat.zero_le _, rfl, HO2, hb⟩
      case round =>
        clear HO2 hb B1
        obtain ⟨m, hm, rfl, HO, hb⟩ := hrel
        by_cases hlt : m < n1
        · have hx : m < r.proxies.length := by have := HN1.out; omega
          obtain ⟨b, o, rfl, hbl, hcell0⟩ := hc1.out m r.proxies[m] (List.getElem?_eq_getElem hx)
          obtain ⟨y0, y1⟩ := LProxy.cells (hcell0.below LProxy.rec hb hbl)
          simp only [LProxy.rec_n] at y0 y1
          have HX := Lib.hid (List.getElem?_eq_getElem hx)
          clear hcell0
          generalize r.proxies[m] = X at *
          obtain ⟨G, hG⟩ : ∃ G, G = wr.heap.size := ⟨_, rfl⟩
          obtain ⟨wa, hwa⟩ : ∃ wa : World, wa = wr.alloc (Obj.cells #[.int .i64 X.src, .int .i64 X.dst] 70) := ⟨_, rfl⟩
          have hba : Below wr.heap.size wr wa := by rw [hwa]; exact (Below.refl _ _).alloc (Nat.le_refl _) _
          have BX := Lib.hid (show Bx wa G 70 #[.int .i64 X.src, .int .i64 X.dst] by rw [hwa, hG]; exact Bx.new _ _ _)
          have HOa := Lib.hid (HO.out.kept hba)
          have hb6 := hb.trans (hba.mono hb.size)
          have HX6 := Lib.hid (ok_in (HP.out m X HX.out).1)
          have m0 : 0 ≤ (m : Int) := by omega
          have m1 : (m : Int) < (n1 : Int) := by omega
          go_upto_region 10 with fail
          rw [← hwa, ← hG]
          clear hwa hba hG y0 y1 HO hb
          have x0 := BX.out.cell 0
          have x1 := BX.out.cell 1
          simp only [List.getElem?_toArray, List.getElem?_cons_zero, List.getElem?_cons_succ] at x0 x1
          have h60 : 0 ≤ X.src := HX6.out.1.1
          have h61 : X.src < (k : Int) := by have := HX6.out.1.2; have := HN0.out; omega
          have h62 : 0 ≤ X.dst := HX6.out.2.1
          have h63 : X.dst < (k : Int) := by have := HX6.out.2.2; have := HN0.out; omega
          have hs : X.src.toNat < k := by omega
          have HPut := Lib.hid (show LNode.OwnR _ g g k k (nodes g k (r.proxies.take (m + 1))) from nodes_set HP.out HN0.out HX.out ▸ LNode.putPtr (nodes_len _ _ _) HOa.out X.src.toNat _ (some ⟨g, X.dst.toNat * 2, none⟩) (nodes_at hs))
          have cc0 := at_ptr HOa.out hs
          have hf : ∀ o, wa.frozen? ⟨g, o, none⟩ = false := Own.frozen (nodes_len _ _ _) HOa.out
          have hb5 := hb6.setCell (p := ⟨g, X.src.toNat * 2 + 1, none⟩) (Nat.le_of_lt HG.out) (.pointer (some ⟨g, X.dst.toNat * 2, none⟩))
          go_wp2_with fail
          refine wp_region_still_tail 9 (by kernel_rfl) (by kernel_rfl) ?_
          simp only [List.take_succ_cons, List.take_zero, List.drop_succ_cons, List.drop_zero]
          repeat still_step
          refine wpStill_nil ?_
          go_wp2_with fail
          go_roundw
          case rel => exact ⟨m + 1, by omega, by go_num, Lib.hid (Own.kept HPut.out ((Below.refl _ _).drew)), hb5.drew⟩
          case measure => simp [intOf]; omega
        · have HR := Lib.hid (show LNode.OwnR wr (w.heap.size + 1) g k k (nodes g k r.proxies) from Own.low (by have h := HO.out; rwa [take_all r.proxies (show r.proxies.length ≤ m by have := HN1.out; omega)] at h) (show w.heap.size + 1 ≤ g from HG.out))
          go_wp2_with fail
          go_ret
          exact ⟨g, rfl, HG.out, HR.out, hb⟩
set_option maxRecDepth 100000 in
set_option maxHeartbeats 1600000 in
theorem holderAndSteps (r : V) (i : Int) (w : World) (A g n : Nat) (hn : r.weights.length = n) (hp : PP r) (he : VEnds r.proxies i) (h0 : 0 ≤ i) (h1 : i < n) (hl : r.proxies.length ≤ 1048576) (HO : Hid (LNode.OwnR w A g n n (nodes g n r.proxies))) :
    Calls Try.prog 55 #[.pointer (some ⟨g, i.toNat * 2, none⟩)] w fun e w' => e = .returned (.tuple #[.int .i64 (holder r.proxies i), .int .i64 (steps r.proxies i : Nat)]) ∧ w' = w := by
  obtain ⟨hA, hI, hE⟩ := ends_way he
  have hst : steps r.proxies i ≤ r.proxies.length := he
  rw [← hI] at hE ⊢
  clear hI he
  obtain ⟨st, hs⟩ : ∃ st, st = steps r.proxies i := ⟨_, rfl⟩
  rw [← hs] at hA hE hst ⊢
  clear hs
  have hst2 : st ≤ 1048576 := by omega
  have HA := Lib.hid hA
  have HE := Lib.hid (pl_end hp hn HO.out h0 h1 hA hE)
  have HM := Lib.hid (fun k (hk : k < st) => pl_ptr hp hn HO.out h0 h1 (alive_le hA (show k + 1 ≤ st by omega)))
  have HNM := Lib.hid (pl_num hp hn HO.out h0 h1 hA)
  rw [show i.toNat = pl r.proxies i 0 from rfl]
  clear hA hE hst hl hn hp h0 h1 HO
  go_enter Try.func55, Try.ntmps55
  go_wp2_with fail
  go_loopw [4, 5] (fun s4 s5 wr => ∃ k : Nat, k ≤ st ∧ s4 = .pointer (some ⟨g, pl r.proxies i k * 2, none⟩) ∧ s5 = .int .i64 k ∧ wr = w) (fun _ s5 _ => st - (intOf s5).toNat)
  case atStart => exact ⟨0, Nat.zero_le _, rfl, rfl, rfl⟩
  case round =>
    obtain ⟨k, hk, rfl, rfl, hw⟩ := hrel
    subst hw
    by_cases hlt : k < st
    · have cc0 := HM.out k hlt
      go_wp2_with fail
      go_roundw
      case rel => exact ⟨k + 1, by omega, rfl, by go_num, by first | trivial | rfl⟩
      case measure => simp [intOf]; omega
    · obtain rfl : k = st := by omega
      have cc0 := HE.out
      have cc1 := HNM.out
      go_wp2_with fail
      go_ret2
      exact ⟨rfl, rfl⟩
theorem node_size : ∃ j, Try.prog.info? 67 = some j ∧ j.size ≠ 0 := by
  obtain ⟨j, hj, hz⟩ := Option.map_eq_some_iff.1 LNode.info
  simp only [Prod.mk.injEq] at hz
  exact ⟨j, hj, by rw [hz.2]; decide⟩
theorem own_heap {w : World} {A g n : Nat} {xs : List Nd} (h : LNode.OwnR w A g n n xs) : ∃ cs, w.heap[g]? = some (.cells cs 67 (0, 0)) := by
  rcases h.2 with ⟨h, _⟩ | ⟨b, c, cs, he, _, hh, _⟩
  · cases h
  · simp only [Value.slice.injEq, Option.some.injEq, Addr.mk.injEq, and_true] at he
    obtain ⟨⟨rfl, _⟩, _⟩ := he
    exact ⟨cs, hh⟩
set_option maxRecDepth 100000 in
set_option maxHeartbeats 1600000 in
theorem leadsNot (r : V) (i : Int) (w : World) (A g n : Nat) (hn : r.weights.length = n) (hp : PP r) (he : VEnds r.proxies i) (h0 : 0 ≤ i) (h1 : i < n) (HO : Hid (LNode.OwnR w A g n n (nodes g n r.proxies))) :
    Calls Try.prog 59 #[.pointer (some ⟨g, i.toNat * 2, none⟩)] w fun e w' => e = .returned (.bool false) ∧ Below w.heap.size w w' := by
  obtain ⟨hA, hI, hE⟩ := ends_way he
  rw [← hI] at hE
  clear hI he
  obtain ⟨st, hs⟩ : ∃ st, st = steps r.proxies i := ⟨_, rfl⟩
  rw [← hs] at hA hE
  clear hs
  have HJ := Lib.hid node_size.choose_spec
  have HH := Lib.hid (fun (W : World) (hB : Below w.heap.size w W) => own_heap (HO.out.kept hB))
  have HE := Lib.hid (fun (W : World) (hB : Below w.heap.size w W) => pl_end hp hn (HO.out.kept hB) h0 h1 hA hE)
  have HM := Lib.hid (fun (W : World) (hB : Below w.heap.size w W) k (hk : k < st) => pl_ptr hp hn (HO.out.kept hB) h0 h1 (alive_le hA (show k + 1 ≤ st by omega)))
  have HD := Lib.hid (fun a b (hab : a < b) (hb : b ≤ st) => pl_apart hp h0 (hn ▸ h1) hA hE hab hb)
  rw [show i.toNat = pl r.proxies i 0 from rfl]
  clear hA hE hn hp h0 h1 HO
  go_enter Try.func59, Try.ntmps59
  go_wp2_with fail
  go_loopg [3, 4] st (fun gg s3 s4 wr => ∃ k : Nat, 2 * k ≤ st ∧ st - 2 * k ≤ gg ∧ s3 = .pointer (some ⟨g, pl r.proxies i k * 2, none⟩) ∧ s4 = .pointer (some ⟨g, pl r.proxies i (2 * k) * 2, none⟩) ∧ Below w.heap.size w wr)
  case atStart => exact ⟨0, Nat.zero_le _, Nat.sub_le _ _, rfl, rfl, Below.refl _ _⟩
  case round =>
    obtain ⟨k, hk, hgg, rfl, rfl, hbr⟩ := hrel
    by_cases hlt : 2 * k < st
    · have cc0 := HM.out _ hbr (2 * k) hlt
      by_cases hl2 : 2 * k + 1 < st
      · have cc1 := HM.out _ hbr (2 * k + 1) hl2
        have cc2 := HM.out _ hbr k (by omega)
        have hne := HD.out (k + 1) (2 * k + 1 + 1) (by omega) (by omega)
        have h22 : 2 * (k + 1) = 2 * k + 1 + 1 := by omega
        have HR := Lib.hid (And.intro h22 (And.intro hgg hl2))
        clear hk hgg hlt
        generalize hx1 : pl r.proxies i (k + 1) = x1 at *
        generalize hx3 : pl r.proxies i (2 * k + 1 + 1) = x3 at *
        generalize pl r.proxies i (2 * k + 1) = x2 at *
        generalize pl r.proxies i (2 * k) = x0 at *
        have hne2 : ¬ x1 * 2 = x3 * 2 := by omega
        obtain ⟨cs, hcs⟩ := HH.out _ (hbr.trans ((drawn_below wr 0).mono hbr.size))
        go_wp2_with fail
        go_quiet (fail)
        go_wp2_with fail
        rw [run_eql_ptr_other (wr.drewN nq) Try.underlying65 HJ.out.1 HJ.out.2 (fun h => hne2 (congrArg Addr.off h)) hcs hcs]
        go_wp2_with fail
        go_roundg (st - 2 * (k + 1))
        case measure => have := HR.out; omega
        case rel => exact ⟨k + 1, by have := HR.out; omega, Nat.le_refl _, by rw [hx1], by rw [HR.out.1, hx3], hbr.trans ((drawn_below _ _).mono hbr.size)⟩
      · have cc1 := HE.out _ hbr
        rw [show st = 2 * k + 1 by omega] at cc1
        go_wp2_with fail
        go_ret
        exact ⟨rfl, hbr⟩
    · have cc0 := HE.out _ hbr
      rw [show st = 2 * k by omega] at cc0
      go_wp2_with fail
      go_ret
      exact ⟨rfl, hbr⟩
set_option maxRecDepth 100000 in
set_option maxHeartbeats 1600000 in
theorem leadsInto (r : V) (i : Int) (w : World) (A g n : Nat) (hn : r.weights.length = n) (hp : PP r) (he : ¬ VEnds r.proxies i) (h0 : 0 ≤ i) (h1 : i < n) (HO : Hid (LNode.OwnR w A g n n (nodes g n r.proxies))) :
    Calls Try.prog 59 #[.pointer (some ⟨g, i.toNat * 2, none⟩)] w fun e w' => e = .returned (.bool true) ∧ Below w.heap.size w w' := by
  obtain ⟨hA, K, hK0, hK⟩ := circle he
  clear he
  have HJ := Lib.hid node_size.choose_spec
  have HH := Lib.hid (fun (W : World) (hB : Below w.heap.size w W) => own_heap (HO.out.kept hB))
  have HM := Lib.hid (fun (W : World) (hB : Below w.heap.size w W) k => pl_ptr hp hn (HO.out.kept hB) h0 h1 (hA (k + 1)))
  have HK := Lib.hid (show pl r.proxies i K = pl r.proxies i (2 * K) by unfold pl; rw [hK])
  rw [show i.toNat = pl r.proxies i 0 from rfl]
  clear hA hn hp h0 h1 HO hK
  go_enter Try.func59, Try.ntmps59
  go_wp2_with fail
  go_loopg [3, 4] K (fun gg s3 s4 wr => ∃ k : Nat, k < K ∧ K - k ≤ gg ∧ s3 = .pointer (some ⟨g, pl r.proxies i k * 2, none⟩) ∧ s4 = .pointer (some ⟨g, pl r.proxies i (2 * k) * 2, none⟩) ∧ Below w.heap.size w wr)
  case atStart => exact ⟨0, hK0, Nat.sub_le _ _, rfl, rfl, Below.refl _ _⟩
  case round =>
    obtain ⟨k, hk, hgg, rfl, rfl, hbr⟩ := hrel
    have cc0 := HM.out _ hbr (2 * k)
    have cc1 := HM.out _ hbr (2 * k + 1)
    have cc2 := HM.out _ hbr k
    have h22 : 2 * (k + 1) = 2 * k + 1 + 1 := by omega
    have hKK := HK.out
    have HR := Lib.hid (And.intro h22 (And.intro hgg (And.intro hk (show k + 1 = K → pl r.proxies i (k + 1) = pl r.proxies i (2 * k + 1 + 1) by intro h; rw [← h22, h, hKK]))))
    clear hgg hk hKK h22
    generalize hx1 : pl r.proxies i (k + 1) = x1 at *
    generalize hx3 : pl r.proxies i (2 * k + 1 + 1) = x3 at *
    generalize pl r.proxies i (2 * k + 1) = x2 at *
    generalize pl r.proxies i (2 * k) = x0 at *
    obtain ⟨cs, hcs⟩ := HH.out _ hbr
    by_cases hxx : x1 = x3
    · subst hxx
      go_wp2_with fail
      go_quiet (fail)
      go_wp2_with fail
      rw [run_eql_ptr_same (wr.drewN nq) _ Try.underlying65 HJ.out.1]
      go_wp2_with fail
      go_ret
      exact ⟨rfl, hbr.trans ((drawn_below _ _).mono hbr.size)⟩
    · have hne2 : ¬ x1 * 2 = x3 * 2 := by omega
      have hkK : k + 1 < K := by
        rcases Nat.lt_or_ge (k + 1) K with h | h
        · exact h
        · exact absurd (HR.out.2.2.2 (by have := HR.out.2.2.1; omega)) hxx
      have HR2 := Lib.hid hkK
      clear hkK hxx
      go_wp2_with fail
      go_quiet (fail)
      go_wp2_with fail
      rw [run_eql_ptr_other (wr.drewN nq) Try.underlying65 HJ.out.1 HJ.out.2 (fun h => hne2 (congrArg Addr.off h)) hcs hcs]
      go_wp2_with fail
      go_roundg (K - (k + 1))
      case measure => have := HR.out.2.1; have := HR2.out; omega
      case rel => exact ⟨k + 1, HR2.out, Nat.le_refl _, by rw [hx1], by rw [HR.out.1, hx3], hbr.trans ((drawn_below _ _).mono hbr.size)⟩
end Go.Proofs.Ytdjnaoaniokbgaa.VoV
