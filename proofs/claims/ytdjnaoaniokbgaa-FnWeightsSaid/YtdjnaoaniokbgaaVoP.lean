/- Proxies: the program takes others. No condition. -/
import Derived.Test.YtdjnaoaniokbgaaVoB
import Derived.Test.YtdjnaoaniokbgaaJ1
import Derived.Test.YtdjnaoaniokbgaaLProxyKconcat
import Derived.Deep.DeepCutAuto
namespace Go.Proofs.Ytdjnaoaniokbgaa.VoP
open Go.RowKit Bs Word Sq IntF Vo VoA VoN VoB
set_option linter.unusedVariables false
theorem open_isq {w : World} {v : Value} {r : V} (h : LVoters.IsQ w v r) : ∃ (a0 : Option Addr) (n0 c0 : Nat) (a1 : Option Addr) (n1 c1 : Nat), v = .agg #[.slice a0 n0 c0, .slice a1 n1 c1] ∧ Hid (r.weights.length = n0) ∧ Hid (r.proxies.length = n1) ∧ n0 ≤ c0 ∧ n1 ≤ c1 ∧ c0 ≤ 9223372036854775807 ∧ c1 ≤ 9223372036854775807 ∧
    Hid (∀ w' : World, Below w.heap.size w w' → IsQ LInt.rec w' (.slice a0 n0 c0) r.weights) ∧ Hid (∀ w' : World, Below w.heap.size w w' → IsQ LProxy.rec w' (.slice a1 n1 c1) r.proxies) ∧
    Hid (LVoters.IsQ w (.agg #[.slice a0 n0 c0, .slice a1 n1 c1]) r) := by
  have h0 := h
  obtain ⟨s3, s4, rfl, h3, h4⟩ := h
  obtain ⟨a3, n3, c3, rfl⟩ := isq_slice h3
  obtain ⟨a4, n4, c4, rfl⟩ := isq_slice h4
  have m3 := isq_len h3
  have m4 := isq_len h4
  unfold maxLen at m3 m4
  exact ⟨a3, n3, c3, a4, n4, c4, rfl, Lib.hid m3.1, Lib.hid m4.1, m3.2.1, m4.2.1, by omega, by omega, Lib.hid (fun w' hb => h3.below hb), Lib.hid (fun w' hb => h4.below hb), Lib.hid h0⟩
set_option maxRecDepth 100000 in
set_option maxHeartbeats 1600000 in
theorem withProxies (v0 : Value) (r : V) (k1 k2 : Nat) (ax : Option Addr) (nx cx : Nat) (ox : List P) (w : World) (h0 : LVoters.IsQ w v0 r) (hx : IsQ LProxy.rec w (.slice ax nx cx) ox) (h1 : k1 ≤ r.proxies.length) (h2 : k2 ≤ r.proxies.length) (l0 : r.weights.length ≤ 1000) (l1 : r.proxies.length ≤ 1000) (lx : nx ≤ 1000) :
    Calls Try.prog 64 #[v0, .int .i64 (k1 : Nat), .slice ax nx cx, .int .i64 (k2 : Nat)] w fun e w' => ∃ v, e = .returned v ∧ LVoters.Own w' w.heap.size v ⟨r.weights, r.proxies.take k1 ++ ox ++ r.proxies.drop k2⟩ ∧ Below w.heap.size w w' := by
  obtain ⟨a0, n0, c0, a1, n1, c1, rfl, HN0, HN1, hb0, hb1', hm0, hm1, HQ0, HQ1, HIQ⟩ := open_isq h0
  clear h0
  have HI := Lib.hid (LVoters.IsQ.is HIQ.out)
  have hk1 : k1 ≤ n1 := by have := HN1.out; omega
  have hk2 : k2 ≤ n1 := by have := HN1.out; omega
  have HL := Lib.hid (And.intro l0 l1)
  have HNX := Lib.hid (isq_len hx).1
  have hn1 : n1 ≤ 1000 := by have := HN1.out; omega
  have HSUM := Lib.hid (show (r.proxies.take k1 ++ ox ++ r.proxies.drop k2).length ≤ 3000 by have := HNX.out; simp; omega)
  clear h1 h2 l0 l1
  obtain ⟨W, hW⟩ : ∃ W : World, W = (w.alloc (Obj.cells #[.slice a0 n0 c0, .slice a1 n1 c1] 27)).alloc (Obj.cells #[.slice none 0 0, .slice none 0 0] 27) := ⟨_, rfl⟩
  have hbW : Below w.heap.size w W := by rw [hW]; exact ((Below.refl _ _).alloc (Nat.le_refl _) _).alloc (by simp) _
  have HZ := Lib.hid (show W.heap.size = w.heap.size + 2 by rw [hW]; simp)
  have B0 := Lib.hid (show Bx W w.heap.size 27 #[.slice a0 n0 c0, .slice a1 n1 c1] by rw [hW]; exact (Bx.new _ _ _).alloc _)
  have BR := Lib.hid (show Bx W (w.heap.size + 1) 27 #[.slice none 0 0, .slice none 0 0] by rw [hW]; have := Bx.new (w.alloc (Obj.cells #[.slice a0 n0 c0, .slice a1 n1 c1] 27)) 27 #[.slice none 0 0, .slice none 0 0]; simpa using this)
  have q0 := B0.out.cell 0
  have q1 := B0.out.cell 1
  simp only [List.getElem?_toArray, List.getElem?_cons_zero, List.getElem?_cons_succ] at q0 q1
  obtain ⟨t2, ht2⟩ : ∃ t, (if c1 = k2 then a1 else Option.map (fun x => x.add (k2 * 2)) a1) = t := ⟨_, rfl⟩
  have HF1 := Lib.hid (show ∀ w' : World, Below W.heap.size W w' → IsQ LProxy.rec w' (.slice a1 k1 c1) (r.proxies.take k1) from fun w' hB => isq_upto (HQ1.out _ (hbW.trans (hB.mono hbW.size))) k1 hk1 rfl)
  have HF2 := Lib.hid (show ∀ w' : World, Below W.heap.size W w' → IsQ LProxy.rec w' (.slice ax nx cx) ox from fun w' hB => IsQ.below hx (hbW.trans (hB.mono hbW.size)))
  have HF3 := Lib.hid (show ∀ w' : World, Below W.heap.size W w' → IsQ LProxy.rec w' (.slice t2 (n1 - k2) (c1 - k2)) (r.proxies.drop k2) from fun w' hB => isq_from (HQ1.out _ (hbW.trans (hB.mono hbW.size))) k2 hk2 (by rw [← ht2]; rfl) _ _ rfl rfl)
  have HK := Lib.hid (show ∀ w' : World, Below W.heap.size W w' → Below w.heap.size w w' ∧ w'.cell? ⟨w.heap.size, 0, none⟩ = some (.slice a0 n0 c0) ∧ w'.cell? ⟨w.heap.size, 1, none⟩ = some (.slice a1 n1 c1) from fun w' hB => ⟨hbW.trans (hB.mono hbW.size), by rw [(B0.out.kept hB).cell 0, (B0.out.kept hB).cell 1]; exact ⟨rfl, rfl⟩⟩)
  have k10 : (0 : Int) ≤ (k1 : Int) := by omega
  have k11 : (k1 : Int) ≤ (c1 : Int) := by omega
  have k20 : (0 : Int) ≤ (k2 : Int) := by omega
  have k21 : (k2 : Int) ≤ (n1 : Int) := by omega
  clear hx
  go_enter Try.func64, Try.ntmps64
  go_upto_region 1 with fail
  rw [← hW]
  clear hW
  have hB : Below W.heap.size W W.drew := (Below.refl _ _).drew
  refine wp_region_held_drew (S := fun w' => Below w.heap.size w w' ∧ w'.cell? ⟨w.heap.size, 0, none⟩ = some (.slice a0 n0 c0) ∧ w'.cell? ⟨w.heap.size, 1, none⟩ = some (.slice a1 n1 c1)) (by kernel_rfl) (HK.out _ hB) (fun hHeld => ?_)
  generalize W.drew = x0 at *
  refine wpAnyH_take (i := 0) (v := ?v1) rfl (by kernel_rfl) (by kernel_rfl) (by kernel_rfl) (fun _ _ _ h => h) (Or.inl ⟨by rfl, ?hy1⟩) (by assumption) ?rest1
  case hy1 => (intro wq hSw; (try dsimp only at hSw); go_split_ands; go_simp; (try with_reducible rfl))
  case rest1 =>
  refine wpAnyH_take (i := 1) (v := ?v2) rfl (by kernel_rfl) (by kernel_rfl) (by kernel_rfl) (fun _ _ _ h => h) (Or.inl ⟨by rfl, ?hy2⟩) (by assumption) ?rest2
  case hy2 => (intro wq hSw; (try dsimp only at hSw); go_split_ands; go_simp; (try with_reducible rfl))
  case rest2 =>
  refine wpAnyH_take (i := 3) (v := ?v3) rfl (by kernel_rfl) (by kernel_rfl) (by kernel_rfl) (fun _ _ _ h => h) (Or.inl ⟨by rfl, ?hy3⟩) (by assumption) ?rest3
  case hy3 => (intro wq hSw; (try dsimp only at hSw); go_split_ands; go_simp; (try with_reducible rfl))
  case rest3 =>
  refine wpAnyH_take (i := 4) (v := ?v4) rfl (by kernel_rfl) (by kernel_rfl) (by kernel_rfl) (fun _ _ _ h => h) (Or.inl ⟨by rfl, ?hy4⟩) (by assumption) ?rest4
  case hy4 => (intro wq hSw; (try dsimp only at hSw); go_split_ands; go_simp; (try with_reducible rfl))
  case rest4 =>
  refine wpAnyH_take (i := 5) (v := ?v5) rfl (by kernel_rfl) (by kernel_rfl) (by kernel_rfl) (fun _ _ _ h => h) (Or.inl ⟨by rfl, ?hy5⟩) (by assumption) ?rest5
  case hy5 => (intro wq hSw; (try dsimp only at hSw); go_split_ands; go_simp; (try with_reducible rfl))
  case rest5 =>
  refine wpAnyH_take (i := 6) (v := ?v6) rfl (by kernel_rfl) (by kernel_rfl) (by kernel_rfl) (fun _ _ _ h => h) (Or.inl ⟨by rfl, ?hy6⟩) (by assumption) ?rest6
  case hy6 => (intro wq hSw; (try dsimp only at hSw); go_split_ands; go_simp; (try with_reducible rfl))
  case rest6 =>
  refine wpAnyH_take (i := 7) (v := ?v7) rfl (by kernel_rfl) (by kernel_rfl) (by kernel_rfl) (fun _ _ _ h => h) (Or.inl ⟨by rfl, ?hy7⟩) (by assumption) ?rest7
  case hy7 => (intro wq hSw; (try dsimp only at hSw); go_split_ands; go_simp; (try with_reducible rfl))
  case rest7 =>
  refine wpAnyH_take (i := 8) (v := ?v8) rfl (by kernel_rfl) (by kernel_rfl) (by kernel_rfl) (fun _ _ _ h => h) (Or.inl ⟨by rfl, ?hy8⟩) (by assumption) ?rest8
  case hy8 => (intro wq hSw; (try dsimp only at hSw); go_split_ands; go_simp; (try with_reducible rfl))
  case rest8 =>
  refine wpAnyH_take (i := 9) (v := ?v9) rfl (by kernel_rfl) (by kernel_rfl) (by kernel_rfl) (fun _ _ _ h => h) (Or.inl ⟨by rfl, ?hy9⟩) (by assumption) ?rest9
  case hy9 => (intro wq hSw; (try dsimp only at hSw); go_split_ands; go_simp; (try with_reducible rfl))
  case rest9 =>
  refine wpAnyH_take (i := 10) (v := ?v10) rfl (by kernel_rfl) (by kernel_rfl) (by kernel_rfl) (fun _ _ _ h => h) (Or.inl ⟨by rfl, ?hy10⟩) (by assumption) ?rest10
  case hy10 => (intro wq hSw; (try dsimp only at hSw); go_split_ands; go_simp; (try with_reducible rfl))
  case rest10 =>
  refine wpAnyH_take (i := 11) (v := ?v11) rfl (by kernel_rfl) (by kernel_rfl) (by kernel_rfl) (fun _ _ _ h => h) (Or.inl ⟨by rfl, ?hy11⟩) (by assumption) ?rest11
  case hy11 => (intro wq hSw; (try dsimp only at hSw); go_split_ands; go_simp; (try with_reducible rfl))
  case rest11 =>
  refine wpAnyH_ready (rs := [2, 12]) (by kernel_rfl) (by simp) ?_
  refine AllReadyH.cons rfl (fun K hK => ?step12) ?more12
  case step12 =>
    go_simp
    go_at_call 82
    refine (LInt.clone _ r.weights x0 (IsQ.is (HQ0.out _ (hbW.trans (hB.mono hbW.size)))) (by have := HL.out.1; omega)).mono ?_
    rintro e x1 ⟨v3, rfl, ho, hbc⟩
    obtain ⟨b3, m3, d3, rfl⟩ := own_slice ho
    have hO0 := ho.low hB.size
    clear ho
    replace hB := hB.trans (hbc.mono hB.size)
    clear hbc
    go_wp2_with fail
    refine hK.out _ _ (HK.out _ hB) (fun hHeld => ?_)
    clear hK K
    refine wpAnyH_ready (rs := [12]) (by kernel_rfl) (by simp) ?_
    refine AllReadyH.cons rfl (fun K hK => ?step13) ?more13
    case step13 =>
      go_simp
      refine hK.out _ _ (HK.out _ (hB.alloc hB.size _)) (fun hHeld => ?_)
      clear hK K
      have hNL_0 : (Value.slice b3 m3 d3).ownBlock ≠ some x1.heap.size := fun e => by have h1 := (hO0.lt _ e).2; omega
      replace hO0 := hO0.alloc (Obj.cells #[.slice a1 k1 c1, .slice ax nx cx, .slice t2 (n1 - k2) (c1 - k2)] 25)
      have hXL := Bx.new x1 25 #[.slice a1 k1 c1, .slice ax nx cx, .slice t2 (n1 - k2) (c1 - k2)]
      have hXAL : W.heap.size ≤ x1.heap.size := hB.size
      replace hB := hB.alloc hB.size (Obj.cells #[.slice a1 k1 c1, .slice ax nx cx, .slice t2 (n1 - k2) (c1 - k2)] 25)
      generalize x1.alloc (Obj.cells #[.slice a1 k1 c1, .slice ax nx cx, .slice t2 (n1 - k2) (c1 - k2)] 25) = x2 at *
      generalize x1.heap.size = gLx2 at *
      refine wpAnyH_ready (rs := [13]) (by kernel_rfl) (by simp) ?_
      refine AllReadyH.cons rfl (fun K hK => ?step14) ?more14
      case step14 =>
        go_simp
        go_at_call 83
        refine (LProxy.concat3 _ _ _ _ _ (r.proxies.take k1) ox (r.proxies.drop k2) (HF1.out _ hB) (HF2.out _ hB) (HF3.out _ hB) hXL (by have := HSUM.out; omega)).mono ?_
        rintro e x3 ⟨v4, rfl, ho, hbc⟩
        obtain ⟨b4, m4, d4, rfl⟩ := own_slice ho
        have hD0_1 := dist_call hO0 ho
        have hNL_1 : (Value.slice b4 m4 d4).ownBlock ≠ some gLx2 := fun e => by have h1 := hXL.lt; have h2 := (ho.lt _ e).1; omega
        replace hO0 := hO0.kept hbc
        replace hXL := hXL.kept hbc
        have hO1 := ho.low hB.size
        clear ho
        replace hB := hB.trans (hbc.mono hB.size)
        clear hbc
        go_wp2_with fail
        refine hK.out _ _ (HK.out _ hB) (fun hHeld => ?_)
        clear hK K
        refine wpAnyH_take (i := 14) (v := ?v15) rfl (by kernel_rfl) (by kernel_rfl) (by kernel_rfl) (fun _ _ _ h => h) (Or.inl ⟨by rfl, ?hy15⟩) (by assumption) ?rest15
        case hy15 => (intro wq hSw; (try dsimp only at hSw); go_split_ands; go_simp; (try with_reducible rfl))
        case rest15 =>
        refine wpAnyH_ready (rs := [15]) (by kernel_rfl) (by simp) ?_
        refine AllReadyH.cons rfl (fun K hK => ?step16) ?more16
        case step16 =>
          have BRX := BR.out.kept hB
          have hPW : w.heap.size + 1 < W.heap.size := by have := HZ.out; omega
          have z0 := BRX.frozen 0
          have z1 := BRX.frozen 1
          have u0 := BRX.cell 0
          have u1 := BRX.cell 1
          simp only [List.getElem?_toArray, List.getElem?_cons_zero, List.getElem?_cons_succ] at u0 u1
          have hOF : LVoters.Own _ w.heap.size (.agg #[.slice b3 m3 d3, .slice b4 m4 d4]) ⟨r.weights, r.proxies.take k1 ++ ox ++ r.proxies.drop k2⟩ := ⟨_, _, rfl, ((own_set (own_set hO0 (p := ⟨w.heap.size + 1, 0, none⟩) (fun k hk => by have h2 := (hO0.lt k hk).1; show k ≠ w.heap.size + 1; omega) (.slice b3 m3 d3)) (p := ⟨w.heap.size + 1, 1, none⟩) (fun k hk => by have h2 := (hO0.lt k hk).1; show k ≠ w.heap.size + 1; omega) (.slice b4 m4 d4))).low hbW.size, ((own_set (own_set hO1 (p := ⟨w.heap.size + 1, 0, none⟩) (fun k hk => by have h2 := (hO1.lt k hk).1; show k ≠ w.heap.size + 1; omega) (.slice b3 m3 d3)) (p := ⟨w.heap.size + 1, 1, none⟩) (fun k hk => by have h2 := (hO1.lt k hk).1; show k ≠ w.heap.size + 1; omega) (.slice b4 m4 d4))).low hbW.size, hD0_1⟩
          have hBF := (Below.setCell (Below.setCell (hbW.trans (hB.mono hbW.size)) (p := ⟨w.heap.size + 1, 0, none⟩) (by show w.heap.size ≤ w.heap.size + 1; omega) (.slice b3 m3 d3)) (p := ⟨w.heap.size + 1, 1, none⟩) (by show w.heap.size ≤ w.heap.size + 1; omega) (.slice b4 m4 d4))
          have hRF := ((BRX.set_ 0 (.slice b3 m3 d3)).set_ 1 (.slice b4 m4 d4))
          have hFB := (Bx.far (Bx.far (B0.out.kept hB) (p := ⟨w.heap.size + 1, 0, none⟩) (show w.heap.size ≠ w.heap.size + 1 by omega) (.slice b3 m3 d3)) (p := ⟨w.heap.size + 1, 1, none⟩) (show w.heap.size ≠ w.heap.size + 1 by omega) (.slice b4 m4 d4))
          go_simp
          refine hK.out _ _ ⟨hBF, by rw [hFB.cell 0, hFB.cell 1]; exact ⟨rfl, rfl⟩⟩ (fun hHeld => ?_)
          clear hK K
          refine wpAnyH_done (by kernel_rfl) ?_ _
          have y0 := hRF.cell 0
          have y1 := hRF.cell 1
          simp at y0 y1
          go_wp2_with fail
          refine bodyPost_ret (v := .agg #[.slice b3 m3 d3, .slice b4 m4 d4]) (by simp [results, Try.results64, go_sem, y0, y1]) rfl ?_
          exact ⟨_, rfl, hOF, hBF⟩
        case more16 => exact AllReadyH.nil
      case more14 => exact AllReadyH.nil
    case more13 => exact AllReadyH.nil
  case more12 =>
    refine AllReadyH.cons rfl (fun K hK => ?step17) ?more17
    case step17 =>
      go_simp
      refine hK.out _ _ (HK.out _ (hB.alloc hB.size _)) (fun hHeld => ?_)
      clear hK K
      have hXL := Bx.new x0 25 #[.slice a1 k1 c1, .slice ax nx cx, .slice t2 (n1 - k2) (c1 - k2)]
      have hXAL : W.heap.size ≤ x0.heap.size := hB.size
      replace hB := hB.alloc hB.size (Obj.cells #[.slice a1 k1 c1, .slice ax nx cx, .slice t2 (n1 - k2) (c1 - k2)] 25)
      generalize x0.alloc (Obj.cells #[.slice a1 k1 c1, .slice ax nx cx, .slice t2 (n1 - k2) (c1 - k2)] 25) = x4 at *
      generalize x0.heap.size = gLx4 at *
      refine wpAnyH_ready (rs := [2]) (by kernel_rfl) (by simp) ?_
      refine AllReadyH.cons rfl (fun K hK => ?step18) ?more18
      case step18 =>
        go_simp
        go_at_call 82
        refine (LInt.clone _ r.weights x4 (IsQ.is (HQ0.out _ (hbW.trans (hB.mono hbW.size)))) (by have := HL.out.1; omega)).mono ?_
        rintro e x5 ⟨v3, rfl, ho, hbc⟩
        obtain ⟨b3, m3, d3, rfl⟩ := own_slice ho
        have hNL_0 : (Value.slice b3 m3 d3).ownBlock ≠ some gLx4 := fun e => by have h1 := hXL.lt; have h2 := (ho.lt _ e).1; omega
        replace hXL := hXL.kept hbc
        have hO0 := ho.low hB.size
        clear ho
        replace hB := hB.trans (hbc.mono hB.size)
        clear hbc
        go_wp2_with fail
        refine hK.out _ _ (HK.out _ hB) (fun hHeld => ?_)
        clear hK K
        refine wpAnyH_ready (rs := [13]) (by kernel_rfl) (by simp) ?_
        refine AllReadyH.cons rfl (fun K hK => ?step19) ?more19
        case step19 =>
          go_simp
          go_at_call 83
          refine (LProxy.concat3 _ _ _ _ _ (r.proxies.take k1) ox (r.proxies.drop k2) (HF1.out _ hB) (HF2.out _ hB) (HF3.out _ hB) hXL (by have := HSUM.out; omega)).mono ?_
          rintro e x6 ⟨v4, rfl, ho, hbc⟩
          obtain ⟨b4, m4, d4, rfl⟩ := own_slice ho
          have hD0_1 := dist_call hO0 ho
          have hNL_1 : (Value.slice b4 m4 d4).ownBlock ≠ some gLx4 := fun e => by have h1 := hXL.lt; have h2 := (ho.lt _ e).1; omega
          replace hO0 := hO0.kept hbc
          replace hXL := hXL.kept hbc
          have hO1 := ho.low hB.size
          clear ho
          replace hB := hB.trans (hbc.mono hB.size)
          clear hbc
          go_wp2_with fail
          refine hK.out _ _ (HK.out _ hB) (fun hHeld => ?_)
          clear hK K
          refine wpAnyH_take (i := 14) (v := ?v20) rfl (by kernel_rfl) (by kernel_rfl) (by kernel_rfl) (fun _ _ _ h => h) (Or.inl ⟨by rfl, ?hy20⟩) (by assumption) ?rest20
          case hy20 => (intro wq hSw; (try dsimp only at hSw); go_split_ands; go_simp; (try with_reducible rfl))
          case rest20 =>
          refine wpAnyH_ready (rs := [15]) (by kernel_rfl) (by simp) ?_
          refine AllReadyH.cons rfl (fun K hK => ?step21) ?more21
          case step21 =>
            have BRX := BR.out.kept hB
            have hPW : w.heap.size + 1 < W.heap.size := by have := HZ.out; omega
            have z0 := BRX.frozen 0
            have z1 := BRX.frozen 1
            have u0 := BRX.cell 0
            have u1 := BRX.cell 1
            simp only [List.getElem?_toArray, List.getElem?_cons_zero, List.getElem?_cons_succ] at u0 u1
            have hOF : LVoters.Own _ w.heap.size (.agg #[.slice b3 m3 d3, .slice b4 m4 d4]) ⟨r.weights, r.proxies.take k1 ++ ox ++ r.proxies.drop k2⟩ := ⟨_, _, rfl, ((own_set (own_set hO0 (p := ⟨w.heap.size + 1, 0, none⟩) (fun k hk => by have h2 := (hO0.lt k hk).1; show k ≠ w.heap.size + 1; omega) (.slice b3 m3 d3)) (p := ⟨w.heap.size + 1, 1, none⟩) (fun k hk => by have h2 := (hO0.lt k hk).1; show k ≠ w.heap.size + 1; omega) (.slice b4 m4 d4))).low hbW.size, ((own_set (own_set hO1 (p := ⟨w.heap.size + 1, 0, none⟩) (fun k hk => by have h2 := (hO1.lt k hk).1; show k ≠ w.heap.size + 1; omega) (.slice b3 m3 d3)) (p := ⟨w.heap.size + 1, 1, none⟩) (fun k hk => by have h2 := (hO1.lt k hk).1; show k ≠ w.heap.size + 1; omega) (.slice b4 m4 d4))).low hbW.size, hD0_1⟩
            have hBF := (Below.setCell (Below.setCell (hbW.trans (hB.mono hbW.size)) (p := ⟨w.heap.size + 1, 0, none⟩) (by show w.heap.size ≤ w.heap.size + 1; omega) (.slice b3 m3 d3)) (p := ⟨w.heap.size + 1, 1, none⟩) (by show w.heap.size ≤ w.heap.size + 1; omega) (.slice b4 m4 d4))
            have hRF := ((BRX.set_ 0 (.slice b3 m3 d3)).set_ 1 (.slice b4 m4 d4))
            have hFB := (Bx.far (Bx.far (B0.out.kept hB) (p := ⟨w.heap.size + 1, 0, none⟩) (show w.heap.size ≠ w.heap.size + 1 by omega) (.slice b3 m3 d3)) (p := ⟨w.heap.size + 1, 1, none⟩) (show w.heap.size ≠ w.heap.size + 1 by omega) (.slice b4 m4 d4))
            go_simp
            refine hK.out _ _ ⟨hBF, by rw [hFB.cell 0, hFB.cell 1]; exact ⟨rfl, rfl⟩⟩ (fun hHeld => ?_)
            clear hK K
            refine wpAnyH_done (by kernel_rfl) ?_ _
            have y0 := hRF.cell 0
            have y1 := hRF.cell 1
            simp at y0 y1
            go_wp2_with fail
            refine bodyPost_ret (v := .agg #[.slice b3 m3 d3, .slice b4 m4 d4]) (by simp [results, Try.results64, go_sem, y0, y1]) rfl ?_
            exact ⟨_, rfl, hOF, hBF⟩
          case more21 => exact AllReadyH.nil
        case more19 => exact AllReadyH.nil
      case more18 => exact AllReadyH.nil
    case more17 => exact AllReadyH.nil
end Go.Proofs.Ytdjnaoaniokbgaa.VoP
