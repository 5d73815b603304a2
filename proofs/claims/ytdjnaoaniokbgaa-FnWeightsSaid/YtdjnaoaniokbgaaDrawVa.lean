/- The draws of chapter 12's arguments. No condition. -/
import Derived.Test.YtdjnaoaniokbgaaDrawVo
import Derived.Test.YtdjnaoaniokbgaaJ1
namespace Go.Proofs.Ytdjnaoaniokbgaa.Draw
open Go.RowKit Cur Bs Vo
set_option linter.unusedVariables false
theorem row_kept {k : IntKind} {w w' : World} {a : Option Addr} {len cap : Nat} {zs : List Int} (h : Frame.IsRow k w a len cap zs) (hb : Below w.heap.size w w') : Frame.IsRow k w' a len cap zs := by
  rcases h with h | ⟨x, h1, h2, h3, h4, h5, h6⟩
  · exact .inl h
  · refine .inr ⟨x, h1, h2, h3, h4, fun i hi => ?_, h6⟩
    have hc := h5 i hi
    rw [hb.cell (Cur.cell_lt hc)]
    exact hc
set_option maxRecDepth 100000 in
set_option maxHeartbeats 3200000 in
theorem voter (B m : Nat) (v0 : Value) (r : V) (w : World) (h : Cur w B m) (hm : m < 700000) (h0 : LVoters.Is w v0 r) (hl0 : r.weights.length ≤ 14) : Calls Try.prog 62 #[.pointer (some ⟨B, 0, none⟩), v0] w fun e w' => ∃ x : Int, e = .returned (.int .i64 x) ∧ Cur w' B (m + 4) ∧ w.grownBy w' (some B) := by
  have hBl := h.lt
  obtain ⟨a0, n0, c0, a1, n1, c1, rfl, HN0, HN1, hb0, hb1', hm0, hm1, hc0, hc1, HI⟩ := VoA.open_is h0
  clear h0
  have hn : n0 ≤ 14 := by have := HN0.out; omega
  have HL0 := Lib.hid ((Live.start h).alloc (.cells #[.slice a0 n0 c0, .slice a1 n1 c1] 27))
  have HX := Lib.hid (Bx.new w 27 #[.slice a0 n0 c0, .slice a1 n1 c1])
  clear h hl0
  have e1 : IntKind.i64.wrap ((n0 : Int) + 1) = (n0 : Int) + 1 := IntWalk.i64_in _ (by omega)
  go_enter Try.func62, Try.ntmps62
  go_upto_region 1 with fail
  generalize w.alloc (.cells #[.slice a0 n0 c0, .slice a1 n1 c1] 27) = W0 at *
  have x0 := HX.out.cell 0
  simp only [List.getElem?_toArray, List.getElem?_cons_zero] at x0
  go_wp2_with fail
  refine (pick B _ ((n0 : Int) + 1) _ HL0.out.cur (by omega) (by omega) (by omega)).mono ?_
  rintro e w1 ⟨p, rfl, p0, p1, hc, hg⟩
  have HL1 := Lib.hid (HL0.out.draw hc hg)
  clear hc hg HL0 x0 HX
  go_wp2_with fail
  refine (pick B _ 20 _ HL1.out.cur (by omega) (by omega) (by omega)).mono ?_
  rintro e w2 ⟨s, rfl, s0, s1, hc, hg⟩
  have HL2 := Lib.hid (HL1.out.draw hc hg)
  clear hc hg HL1
  have hq : s.tdiv 19 = s / 19 := Int.tdiv_eq_ediv_of_nonneg s0
  have hw2 : IntKind.i64.wrap (s / 19) = s / 19 := IntWalk.i64_in _ (by omega)
  have hw3 : IntKind.i64.wrap (p - s / 19) = p - s / 19 := IntWalk.i64_in _ (by omega)
  go_wp2_with fail
  go_ret
  exact ⟨_, rfl, HL2.out.cur, HL2.out.grown⟩
/-- voters as an argument -/
def VoArg (w : World) (e : Ending) (w' : World) : Prop := ∃ v r, e = .returned v ∧ LVoters.Own w' w.heap.size v r ∧ r.weights.length ≤ 14 ∧ r.proxies.length ≤ 14 ∧ Below w.heap.size w w'
def VoIArg (w : World) (e : Ending) (w' : World) : Prop := ∃ v r x, e = .returned (.tuple #[v, .int .i64 x]) ∧ LVoters.Own w' w.heap.size v r ∧ r.weights.length ≤ 14 ∧ r.proxies.length ≤ 14 ∧ Below w.heap.size w w'
def VoIIArg (w : World) (e : Ending) (w' : World) : Prop := ∃ v r x y, e = .returned (.tuple #[v, .int .i64 x, .int .i64 y]) ∧ LVoters.Own w' w.heap.size v r ∧ r.weights.length ≤ 14 ∧ r.proxies.length ≤ 14 ∧ Below w.heap.size w w'
def VoSArg (w : World) (e : Ending) (w' : World) : Prop := ∃ v r u z, e = .returned (.tuple #[v, u]) ∧ LVoters.Own w' w.heap.size v r ∧ r.weights.length ≤ 14 ∧ r.proxies.length ≤ 14 ∧ Own LInt.rec 3 w' w.heap.size u z ∧ (∃ g, u.ownBlock = some g) ∧ z.length ≤ 16 ∧ Below w.heap.size w w'
set_option maxRecDepth 100000 in
set_option maxHeartbeats 3200000 in
theorem drawAreVoters (a : Option Addr) (len cap : Nat) (zs : List Int) (w : World) (h : Frame.IsRow .u8 w a len cap zs) (hl : len ≤ 65536) : Calls Try.prog 53 #[.slice a len cap] w (VoArg w) := by
  have hs : (w.alloc (.cells #[.slice none 0 0, .slice none 0 0] 27)).heap.size = w.heap.size + 1 := by simp
  have HC := Lib.hid (cur_new (row_kept h ((Below.refl _ _).alloc (Nat.le_refl _) (.cells #[.slice none 0 0, .slice none 0 0] 27))) hl)
  have HR := Lib.hid ((Bx.new w 27 #[.slice none 0 0, .slice none 0 0]).alloc (.cells #[.slice a len cap, .int .i64 0, .int .u64 0] 76))
  have HBel : Hid (∀ w', ((w.alloc (.cells #[.slice none 0 0, .slice none 0 0] 27)).alloc (.cells #[.slice a len cap, .int .i64 0, .int .u64 0] 76)).grownBy w' (some (w.heap.size + 1)) → Below w.heap.size w w') := Lib.hid (fun w' hg => by
    rw [← hs] at hg
    exact ((Below.refl w.heap.size w).alloc (Nat.le_refl _) _).trans ((below_cur hg).mono (by simp)))
  have HS0 := Lib.hid (show ((w.alloc (.cells #[.slice none 0 0, .slice none 0 0] 27)).alloc (.cells #[.slice a len cap, .int .i64 0, .int .u64 0] 76)).heap.size = w.heap.size + 2 by simp)
  rw [hs] at HC
  clear h hs
  go_enter Try.func53, Try.ntmps53
  go_wp2_with fail
  generalize (w.alloc (.cells #[.slice none 0 0, .slice none 0 0] 27)).alloc (.cells #[.slice a len cap, .int .i64 0, .int .u64 0] 76) = W0 at *
  generalize hB0 : w.heap.size + 1 = B at *
  have HBE := Lib.hid hB0
  clear hB0
  refine (voters B 0 _ HC.out (by omega)).mono ?_
  rintro e w1 ⟨v, r, rfl, hO, hl0, hl1, hc, hg⟩
  obtain ⟨u0, u1, rfl, p0, p1, d01⟩ := hO
  obtain ⟨b3, m3, d3, rfl⟩ := own_slice p0
  obtain ⟨b4, m4, d4, rfl⟩ := own_slice p1
  have hb := HBel.out _ hg
  replace HR := Lib.hid (HR.out.grown hg (by have := HBE.out; omega))
  clear hc hg HC HBel
  have z0 := HR.out.frozen 0
  have z1 := HR.out.frozen 1
  have y0 := HR.out.cell 0
  have y1 := HR.out.cell 1
  simp only [List.getElem?_toArray, List.getElem?_cons_zero, List.getElem?_cons_succ] at y0 y1
  have HRF := Lib.hid (Bx.set_ (Bx.set_ HR.out 0 (.slice b3 m3 d3)) 1 (.slice b4 m4 d4))
  have HBF := Lib.hid ((hb.setCell (p := ⟨w.heap.size, 0, none⟩) (Nat.le_refl _) (.slice b3 m3 d3)).setCell (p := ⟨w.heap.size, 1, none⟩) (Nat.le_refl _) (.slice b4 m4 d4))
  go_wp2_with fail
  clear z0 z1 y0 y1
  have e0 := HRF.out.cell 0
  have e1 := HRF.out.cell 1
  simp at e0 e1
  (try simp only [Exit.inBlock, Exit.then])
  refine bodyPost_ret (v := .agg #[.slice b3 m3 d3, .slice b4 m4 d4]) (by simp [results, Try.results53, go_sem, e0, e1]) rfl ?_
  exact ⟨_, r, rfl, ⟨_, _, rfl, (own_set (own_set p0 (p := ⟨w.heap.size, 0, none⟩) (fun kk hk => by have h2 := (p0.lt kk hk).1; have h3 := HS0.out; show kk ≠ w.heap.size; omega) (.slice b3 m3 d3)) (p := ⟨w.heap.size, 1, none⟩) (fun kk hk => by have h2 := (p0.lt kk hk).1; have h3 := HS0.out; show kk ≠ w.heap.size; omega) (.slice b4 m4 d4)).low (by have := HS0.out; omega), (own_set (own_set p1 (p := ⟨w.heap.size, 0, none⟩) (fun kk hk => by have h2 := (p1.lt kk hk).1; have h3 := HS0.out; show kk ≠ w.heap.size; omega) (.slice b3 m3 d3)) (p := ⟨w.heap.size, 1, none⟩) (fun kk hk => by have h2 := (p1.lt kk hk).1; have h3 := HS0.out; show kk ≠ w.heap.size; omega) (.slice b4 m4 d4)).low (by have := HS0.out; omega), d01⟩, hl0, hl1, HBF.out⟩
set_option maxRecDepth 100000 in
set_option maxHeartbeats 3200000 in
theorem drawHeldWeights (a : Option Addr) (len cap : Nat) (zs : List Int) (w : World) (h : Frame.IsRow .u8 w a len cap zs) (hl : len ≤ 65536) : Calls Try.prog 15 #[.slice a len cap] w (VoArg w) := by
  have HD := Lib.hid (drawAreVoters a len cap zs _ (row_kept h ((Below.refl _ _).alloc (Nat.le_refl _) (.cells #[.slice none 0 0, .slice none 0 0] 27))) hl)
  have HR0 := Lib.hid (Bx.new w 27 #[.slice none 0 0, .slice none 0 0])
  have hb0 := (Below.refl w.heap.size w).alloc (Nat.le_refl _) (.cells #[.slice none 0 0, .slice none 0 0] 27)
  have HS0 := Lib.hid (show (w.alloc (.cells #[.slice none 0 0, .slice none 0 0] 27)).heap.size = w.heap.size + 1 by simp)
  clear h
  unfold VoArg at HD
  go_enter Try.func15, Try.ntmps15
  go_wp2_with fail
  refine HD.out.mono ?_
  rintro e w1 ⟨v, r, rfl, hO, hl0, hl1, hb1⟩
  obtain ⟨u0, u1, rfl, p0, p1, d01⟩ := hO
  obtain ⟨b3, m3, d3, rfl⟩ := own_slice p0
  obtain ⟨b4, m4, d4, rfl⟩ := own_slice p1
  have hb := hb0.trans (hb1.mono hb0.size)
  have HR := Lib.hid (HR0.out.keptB hb1)
  clear hb1 hb0 HD HR0
  have z0 := HR.out.frozen 0
  have z1 := HR.out.frozen 1
  have y0 := HR.out.cell 0
  have y1 := HR.out.cell 1
  simp only [List.getElem?_toArray, List.getElem?_cons_zero, List.getElem?_cons_succ] at y0 y1
  have HRF := Lib.hid (Bx.set_ (Bx.set_ HR.out 0 (.slice b3 m3 d3)) 1 (.slice b4 m4 d4))
  have HBF := Lib.hid ((hb.setCell (p := ⟨w.heap.size, 0, none⟩) (Nat.le_refl _) (.slice b3 m3 d3)).setCell (p := ⟨w.heap.size, 1, none⟩) (Nat.le_refl _) (.slice b4 m4 d4))
  go_wp2_with fail
  clear z0 z1 y0 y1
  have e0 := HRF.out.cell 0
  have e1 := HRF.out.cell 1
  simp at e0 e1
  (try simp only [Exit.inBlock, Exit.then])
  refine bodyPost_ret (v := .agg #[.slice b3 m3 d3, .slice b4 m4 d4]) (by simp [results, Try.results15, go_sem, e0, e1]) rfl ?_
  exact ⟨_, r, rfl, ⟨_, _, rfl, (own_set (own_set p0 (p := ⟨w.heap.size, 0, none⟩) (fun kk hk => by have h2 := (p0.lt kk hk).1; have h3 := HS0.out; show kk ≠ w.heap.size; omega) (.slice b3 m3 d3)) (p := ⟨w.heap.size, 1, none⟩) (fun kk hk => by have h2 := (p0.lt kk hk).1; have h3 := HS0.out; show kk ≠ w.heap.size; omega) (.slice b4 m4 d4)).low (by have := HS0.out; omega), (own_set (own_set p1 (p := ⟨w.heap.size, 0, none⟩) (fun kk hk => by have h2 := (p1.lt kk hk).1; have h3 := HS0.out; show kk ≠ w.heap.size; omega) (.slice b3 m3 d3)) (p := ⟨w.heap.size, 1, none⟩) (fun kk hk => by have h2 := (p1.lt kk hk).1; have h3 := HS0.out; show kk ≠ w.heap.size; omega) (.slice b4 m4 d4)).low (by have := HS0.out; omega), d01⟩, hl0, hl1, HBF.out⟩
set_option maxRecDepth 100000 in
set_option maxHeartbeats 3200000 in
theorem drawHolderFor (a : Option Addr) (len cap : Nat) (zs : List Int) (w : World) (h : Frame.IsRow .u8 w a len cap zs) (hl : len ≤ 65536) : Calls Try.prog 39 #[.slice a len cap] w (VoIArg w) := by
  have hs : (w.alloc (.cells #[.slice none 0 0, .slice none 0 0] 27)).heap.size = w.heap.size + 1 := by simp
  have HC := Lib.hid (cur_new (row_kept h ((Below.refl _ _).alloc (Nat.le_refl _) (.cells #[.slice none 0 0, .slice none 0 0] 27))) hl)
  have HR := Lib.hid ((Bx.new w 27 #[.slice none 0 0, .slice none 0 0]).alloc (.cells #[.slice a len cap, .int .i64 0, .int .u64 0] 76))
  have HBel : Hid (∀ w', ((w.alloc (.cells #[.slice none 0 0, .slice none 0 0] 27)).alloc (.cells #[.slice a len cap, .int .i64 0, .int .u64 0] 76)).grownBy w' (some (w.heap.size + 1)) → Below w.heap.size w w') := Lib.hid (fun w' hg => by
    rw [← hs] at hg
    exact ((Below.refl w.heap.size w).alloc (Nat.le_refl _) _).trans ((below_cur hg).mono (by simp)))
  have HS0 := Lib.hid (show ((w.alloc (.cells #[.slice none 0 0, .slice none 0 0] 27)).alloc (.cells #[.slice a len cap, .int .i64 0, .int .u64 0] 76)).heap.size = w.heap.size + 2 by simp)
  rw [hs] at HC
  clear h hs
  go_enter Try.func39, Try.ntmps39
  go_wp2_with fail
  generalize (w.alloc (.cells #[.slice none 0 0, .slice none 0 0] 27)).alloc (.cells #[.slice a len cap, .int .i64 0, .int .u64 0] 76) = W0 at *
  generalize hB0 : w.heap.size + 1 = B at *
  have HBE := Lib.hid hB0
  clear hB0
  refine (voters B 0 _ HC.out (by omega)).mono ?_
  rintro e w1 ⟨v, r, rfl, hO, hl0, hl1, hc, hg⟩
  obtain ⟨u0, u1, rfl, p0, p1, d01⟩ := hO
  obtain ⟨b3, m3, d3, rfl⟩ := own_slice p0
  obtain ⟨b4, m4, d4, rfl⟩ := own_slice p1
  have hL1 : Live B (0 + 100) W0 w1 := ⟨hc, hg, HC.out.lt⟩
  have hR1 := HR.out.grown hg (by have := HBE.out; omega)
  have HW1 := Lib.hid hg.size
  clear hc hg HC HR
  obtain ⟨V9, hV9⟩ : ∃ V9, V9 = w1.heap.size := ⟨_, rfl⟩
  obtain ⟨wa, hwa⟩ : ∃ wa : World, wa = w1.alloc (.cells #[.slice b3 m3 d3, .slice b4 m4 d4] 27) := ⟨_, rfl⟩
  have hX1 : Bx wa V9 27 #[.slice b3 m3 d3, .slice b4 m4 d4] := by rw [hwa, hV9]; exact Bx.new _ _ _
  have hR2' : Bx wa w.heap.size 27 #[.slice none 0 0, .slice none 0 0] := by rw [hwa]; exact hR1.alloc _
  have hL2 : Live B (0 + 100) W0 wa := by rw [hwa]; exact hL1.alloc _
  have q0 : Own LInt.rec 3 wa W0.heap.size (.slice b3 m3 d3) r.weights := by rw [hwa]; exact Own.alloc p0 _
  have q1 : Own LProxy.rec 70 wa W0.heap.size (.slice b4 m4 d4) r.proxies := by rw [hwa]; exact Own.alloc p1 _
  have hV9R : V9 ≠ w.heap.size := by have := HW1.out; have := HS0.out; omega
  have hV9B : V9 ≠ B := by have := HW1.out; have := HS0.out; have := HBE.out; omega
  have hRB : w.heap.size ≠ B := by have := HBE.out; omega
  have hBlo : B < W0.heap.size := by have := HS0.out; have := HBE.out; omega
  have hN0 : ∀ kk, W0.heap.size ≤ kk → kk ≠ w.heap.size := fun kk hk => by have := HS0.out; omega
  have hlow : w.heap.size ≤ W0.heap.size := by have := HS0.out; omega
  clear p0 p1 hR1 hL1 HW1
  go_upto_region 3 with fail
  rw [← hwa, ← hV9]
  clear hwa hV9
  have HK := Lib.hid (show ∀ w' : World, Bx w' V9 27 #[.slice b3 m3 d3, .slice b4 m4 d4] → w'.cell? ⟨V9, 0, none⟩ = some (.slice b3 m3 d3) ∧ w'.cell? ⟨V9, 1, none⟩ = some (.slice b4 m4 d4) from fun w' hX => ⟨by rw [hX.cell 0]; rfl, by rw [hX.cell 1]; rfl⟩)
  have hdr := (Below.refl wa.heap.size wa).drew
  have p0 := q0.kept hdr
  have p1 := q1.kept hdr
  have hX9 := hX1.keptB hdr
  have hR := hR2'.keptB hdr
  have hL := hL2.kept hdr
  clear q0 q1 hX1 hR2' hL2 hdr
  refine wp_region_held_drew (S := fun w' => w'.cell? ⟨V9, 0, none⟩ = some (.slice b3 m3 d3) ∧ w'.cell? ⟨V9, 1, none⟩ = some (.slice b4 m4 d4)) (by kernel_rfl) (HK.out _ hX9) (fun hHeld => ?_)
  generalize wa.drew = x0 at *
  refine wpAnyH_take (i := 0) (v := ?v1001) rfl (by kernel_rfl) (by kernel_rfl) (by kernel_rfl) (fun _ _ _ h => h) (Or.inl ⟨by rfl, ?hy1001⟩) (by assumption) ?rest1001
  case hy1001 => (intro wq hSw; (try dsimp only at hSw); go_split_ands; go_simp; (try with_reducible rfl))
  case rest1001 =>
  refine wpAnyH_take (i := 1) (v := ?v1002) rfl (by kernel_rfl) (by kernel_rfl) (by kernel_rfl) (fun _ _ _ h => h) (Or.inl ⟨by rfl, ?hy1002⟩) (by assumption) ?rest1002
  case hy1002 => (intro wq hSw; (try dsimp only at hSw); go_split_ands; go_simp; (try with_reducible rfl))
  case rest1002 =>
  refine wpAnyH_take (i := 2) (v := ?v1003) rfl (by kernel_rfl) (by kernel_rfl) (by kernel_rfl) (fun _ _ _ h => h) (Or.inl ⟨by rfl, ?hy1003⟩) (by assumption) ?rest1003
  case hy1003 => (intro wq hSw; (try dsimp only at hSw); go_split_ands; go_simp; (try with_reducible rfl))
  case rest1003 =>
  refine wpAnyH_ready (rs := [3]) (by kernel_rfl) (by simp) ?_
  refine AllReadyH.cons rfl (fun K hK => ?step1004) ?more1004
  case step1004 =>
    go_simp
    go_at_call 62
    refine (voter B _ _ r x0 hL.cur (by omega) ⟨_, _, rfl, p0.is, p1.is⟩ hl0).mono ?_
    rintro e x1 ⟨x, rfl, hc, hg⟩
    replace p0 := own_grown p0 hg hBlo
    replace p1 := own_grown p1 hg hBlo
    replace hX9 := Bx.grown hX9 hg hV9B
    replace hR := Bx.grown hR hg hRB
    replace hL := hL.draw hc hg
    clear hc hg
    go_wp2_with fail
    refine hK.out _ _ (HK.out _ hX9) (fun hHeld => ?_)
    clear hK K
    refine wpAnyH_ready (rs := [4]) (by kernel_rfl) (by simp) ?_
    refine AllReadyH.cons rfl (fun K hK => ?step1005) ?more1005
    case step1005 =>
      have z0 := hR.frozen 0
      have z1 := hR.frozen 1
      have y0 := hR.cell 0
      have y1 := hR.cell 1
      simp only [List.getElem?_toArray, List.getElem?_cons_zero, List.getElem?_cons_succ] at y0 y1
      have hR2 := Bx.set_ (Bx.set_ hR 0 (.slice b3 m3 d3)) 1 (.slice b4 m4 d4)
      have p2 := (own_set (own_set p0 (p := ⟨w.heap.size, 0, none⟩) (fun kk hk => hN0 kk ((p0.lt kk hk).1)) (.slice b3 m3 d3)) (p := ⟨w.heap.size, 1, none⟩) (fun kk hk => hN0 kk ((p0.lt kk hk).1)) (.slice b4 m4 d4))
      have p3 := (own_set (own_set p1 (p := ⟨w.heap.size, 0, none⟩) (fun kk hk => hN0 kk ((p1.lt kk hk).1)) (.slice b3 m3 d3)) (p := ⟨w.heap.size, 1, none⟩) (fun kk hk => hN0 kk ((p1.lt kk hk).1)) (.slice b4 m4 d4))
      have hX2 := Bx.far (Bx.far hX9 (p := ⟨w.heap.size, 0, none⟩) hV9R (.slice b3 m3 d3)) (p := ⟨w.heap.size, 1, none⟩) hV9R (.slice b4 m4 d4)
      have hBF := ((HBel.out _ hL.grown).setCell (p := ⟨w.heap.size, 0, none⟩) (Nat.le_refl _) (.slice b3 m3 d3)).setCell (p := ⟨w.heap.size, 1, none⟩) (Nat.le_refl _) (.slice b4 m4 d4)
      go_simp
      refine hK.out _ _ (HK.out _ hX2) (fun hHeld => ?_)
      clear hK K z0 z1 y0 y1 hR p0 p1 hX9 hL
      generalize ((x1.setCell ⟨w.heap.size, 0, none⟩ (.slice b3 m3 d3)).setCell ⟨w.heap.size, 1, none⟩ (.slice b4 m4 d4)) = x2 at *
      refine wpAnyH_take (i := 5) (v := ?v1006) rfl (by kernel_rfl) (by kernel_rfl) (by kernel_rfl) (fun _ _ _ h => h) (Or.inl ⟨by rfl, ?hy1006⟩) (by assumption) ?rest1006
      case hy1006 => (intro wq hSw; (try dsimp only at hSw); go_split_ands; go_simp; (try with_reducible rfl))
      case rest1006 =>
      refine wpAnyH_done (by kernel_rfl) ?_ _
      have e0 := hR2.cell 0
      have e1 := hR2.cell 1
      simp at e0 e1
      go_wp2_with fail
      (try simp only [Exit.inBlock, Exit.then])
      refine bodyPost_ret (v := .tuple #[.agg #[.slice b3 m3 d3, .slice b4 m4 d4], .int .i64 x]) (by simp [results, Try.results39, go_sem, e0, e1]) rfl ?_
      exact ⟨_, r, x, rfl, ⟨_, _, rfl, p2.low hlow, p3.low hlow, d01⟩, hl0, hl1, hBF⟩
    case more1005 => exact AllReadyH.nil
  case more1004 => exact AllReadyH.nil
set_option maxRecDepth 100000 in
set_option maxHeartbeats 3200000 in
theorem drawRevokeProxy (a : Option Addr) (len cap : Nat) (zs : List Int) (w : World) (h : Frame.IsRow .u8 w a len cap zs) (hl : len ≤ 65536) : Calls Try.prog 31 #[.slice a len cap] w (VoIArg w) := by
  have HD := Lib.hid (drawHolderFor a len cap zs _ (row_kept h ((Below.refl _ _).alloc (Nat.le_refl _) (.cells #[.slice none 0 0, .slice none 0 0] 27))) hl)
  have HR0 := Lib.hid (Bx.new w 27 #[.slice none 0 0, .slice none 0 0])
  have hb0 := (Below.refl w.heap.size w).alloc (Nat.le_refl _) (.cells #[.slice none 0 0, .slice none 0 0] 27)
  have HS0 := Lib.hid (show (w.alloc (.cells #[.slice none 0 0, .slice none 0 0] 27)).heap.size = w.heap.size + 1 by simp)
  clear h
  unfold VoIArg at HD
  go_enter Try.func31, Try.ntmps31
  go_wp2_with fail
  refine HD.out.mono ?_
  rintro e w1 ⟨v, r, x, rfl, hO, hl0, hl1, hb1⟩
  obtain ⟨u0, u1, rfl, p0, p1, d01⟩ := hO
  obtain ⟨b3, m3, d3, rfl⟩ := own_slice p0
  obtain ⟨b4, m4, d4, rfl⟩ := own_slice p1
  have hb := hb0.trans (hb1.mono hb0.size)
  have HR := Lib.hid (HR0.out.keptB hb1)
  clear hb1 hb0 HD HR0
  have z0 := HR.out.frozen 0
  have z1 := HR.out.frozen 1
  have y0 := HR.out.cell 0
  have y1 := HR.out.cell 1
  simp only [List.getElem?_toArray, List.getElem?_cons_zero, List.getElem?_cons_succ] at y0 y1
  have HRF := Lib.hid (Bx.set_ (Bx.set_ HR.out 0 (.slice b3 m3 d3)) 1 (.slice b4 m4 d4))
  have HBF := Lib.hid ((hb.setCell (p := ⟨w.heap.size, 0, none⟩) (Nat.le_refl _) (.slice b3 m3 d3)).setCell (p := ⟨w.heap.size, 1, none⟩) (Nat.le_refl _) (.slice b4 m4 d4))
  go_wp2_with fail
  clear z0 z1 y0 y1
  have e0 := HRF.out.cell 0
  have e1 := HRF.out.cell 1
  simp at e0 e1
  (try simp only [Exit.inBlock, Exit.then])
  refine bodyPost_ret (v := .tuple #[.agg #[.slice b3 m3 d3, .slice b4 m4 d4], .int .i64 x]) (by simp [results, Try.results31, go_sem, e0, e1]) rfl ?_
  exact ⟨_, r, x, rfl, ⟨_, _, rfl, (own_set (own_set p0 (p := ⟨w.heap.size, 0, none⟩) (fun kk hk => by have h2 := (p0.lt kk hk).1; have h3 := HS0.out; show kk ≠ w.heap.size; omega) (.slice b3 m3 d3)) (p := ⟨w.heap.size, 1, none⟩) (fun kk hk => by have h2 := (p0.lt kk hk).1; have h3 := HS0.out; show kk ≠ w.heap.size; omega) (.slice b4 m4 d4)).low (by have := HS0.out; omega), (own_set (own_set p1 (p := ⟨w.heap.size, 0, none⟩) (fun kk hk => by have h2 := (p1.lt kk hk).1; have h3 := HS0.out; show kk ≠ w.heap.size; omega) (.slice b3 m3 d3)) (p := ⟨w.heap.size, 1, none⟩) (fun kk hk => by have h2 := (p1.lt kk hk).1; have h3 := HS0.out; show kk ≠ w.heap.size; omega) (.slice b4 m4 d4)).low (by have := HS0.out; omega), d01⟩, hl0, hl1, HBF.out⟩
set_option maxRecDepth 100000 in
set_option maxHeartbeats 3200000 in
theorem drawProxySteps (a : Option Addr) (len cap : Nat) (zs : List Int) (w : World) (h : Frame.IsRow .u8 w a len cap zs) (hl : len ≤ 65536) : Calls Try.prog 41 #[.slice a len cap] w (VoIArg w) := by
  have HD := Lib.hid (drawHolderFor a len cap zs _ (row_kept h ((Below.refl _ _).alloc (Nat.le_refl _) (.cells #[.slice none 0 0, .slice none 0 0] 27))) hl)
  have HR0 := Lib.hid (Bx.new w 27 #[.slice none 0 0, .slice none 0 0])
  have hb0 := (Below.refl w.heap.size w).alloc (Nat.le_refl _) (.cells #[.slice none 0 0, .slice none 0 0] 27)
  have HS0 := Lib.hid (show (w.alloc (.cells #[.slice none 0 0, .slice none 0 0] 27)).heap.size = w.heap.size + 1 by simp)
  clear h
  unfold VoIArg at HD
  go_enter Try.func41, Try.ntmps41
  go_wp2_with fail
  refine HD.out.mono ?_
  rintro e w1 ⟨v, r, x, rfl, hO, hl0, hl1, hb1⟩
  obtain ⟨u0, u1, rfl, p0, p1, d01⟩ := hO
  obtain ⟨b3, m3, d3, rfl⟩ := own_slice p0
  obtain ⟨b4, m4, d4, rfl⟩ := own_slice p1
  have hb := hb0.trans (hb1.mono hb0.size)
  have HR := Lib.hid (HR0.out.keptB hb1)
  clear hb1 hb0 HD HR0
  have z0 := HR.out.frozen 0
  have z1 := HR.out.frozen 1
  have y0 := HR.out.cell 0
  have y1 := HR.out.cell 1
  simp only [List.getElem?_toArray, List.getElem?_cons_zero, List.getElem?_cons_succ] at y0 y1
  have HRF := Lib.hid (Bx.set_ (Bx.set_ HR.out 0 (.slice b3 m3 d3)) 1 (.slice b4 m4 d4))
  have HBF := Lib.hid ((hb.setCell (p := ⟨w.heap.size, 0, none⟩) (Nat.le_refl _) (.slice b3 m3 d3)).setCell (p := ⟨w.heap.size, 1, none⟩) (Nat.le_refl _) (.slice b4 m4 d4))
  go_wp2_with fail
  clear z0 z1 y0 y1
  have e0 := HRF.out.cell 0
  have e1 := HRF.out.cell 1
  simp at e0 e1
  (try simp only [Exit.inBlock, Exit.then])
  refine bodyPost_ret (v := .tuple #[.agg #[.slice b3 m3 d3, .slice b4 m4 d4], .int .i64 x]) (by simp [results, Try.results41, go_sem, e0, e1]) rfl ?_
  exact ⟨_, r, x, rfl, ⟨_, _, rfl, (own_set (own_set p0 (p := ⟨w.heap.size, 0, none⟩) (fun kk hk => by have h2 := (p0.lt kk hk).1; have h3 := HS0.out; show kk ≠ w.heap.size; omega) (.slice b3 m3 d3)) (p := ⟨w.heap.size, 1, none⟩) (fun kk hk => by have h2 := (p0.lt kk hk).1; have h3 := HS0.out; show kk ≠ w.heap.size; omega) (.slice b4 m4 d4)).low (by have := HS0.out; omega), (own_set (own_set p1 (p := ⟨w.heap.size, 0, none⟩) (fun kk hk => by have h2 := (p1.lt kk hk).1; have h3 := HS0.out; show kk ≠ w.heap.size; omega) (.slice b3 m3 d3)) (p := ⟨w.heap.size, 1, none⟩) (fun kk hk => by have h2 := (p1.lt kk hk).1; have h3 := HS0.out; show kk ≠ w.heap.size; omega) (.slice b4 m4 d4)).low (by have := HS0.out; omega), d01⟩, hl0, hl1, HBF.out⟩
set_option maxRecDepth 100000 in
set_option maxHeartbeats 3200000 in
theorem drawGiveProxy (a : Option Addr) (len cap : Nat) (zs : List Int) (w : World) (h : Frame.IsRow .u8 w a len cap zs) (hl : len ≤ 65536) : Calls Try.prog 26 #[.slice a len cap] w (VoIIArg w) := by
  have hs : (w.alloc (.cells #[.slice none 0 0, .slice none 0 0] 27)).heap.size = w.heap.size + 1 := by simp
  have HC := Lib.hid (cur_new (row_kept h ((Below.refl _ _).alloc (Nat.le_refl _) (.cells #[.slice none 0 0, .slice none 0 0] 27))) hl)
  have HR := Lib.hid ((Bx.new w 27 #[.slice none 0 0, .slice none 0 0]).alloc (.cells #[.slice a len cap, .int .i64 0, .int .u64 0] 76))
  have HBel : Hid (∀ w', ((w.alloc (.cells #[.slice none 0 0, .slice none 0 0] 27)).alloc (.cells #[.slice a len cap, .int .i64 0, .int .u64 0] 76)).grownBy w' (some (w.heap.size + 1)) → Below w.heap.size w w') := Lib.hid (fun w' hg => by
    rw [← hs] at hg
    exact ((Below.refl w.heap.size w).alloc (Nat.le_refl _) _).trans ((below_cur hg).mono (by simp)))
  have HS0 := Lib.hid (show ((w.alloc (.cells #[.slice none 0 0, .slice none 0 0] 27)).alloc (.cells #[.slice a len cap, .int .i64 0, .int .u64 0] 76)).heap.size = w.heap.size + 2 by simp)
  rw [hs] at HC
  clear h hs
  go_enter Try.func26, Try.ntmps26
  go_wp2_with fail
  generalize (w.alloc (.cells #[.slice none 0 0, .slice none 0 0] 27)).alloc (.cells #[.slice a len cap, .int .i64 0, .int .u64 0] 76) = W0 at *
  generalize hB0 : w.heap.size + 1 = B at *
  have HBE := Lib.hid hB0
  clear hB0
  refine (voters B 0 _ HC.out (by omega)).mono ?_
  rintro e w1 ⟨v, r, rfl, hO, hl0, hl1, hc, hg⟩
  obtain ⟨u0, u1, rfl, p0, p1, d01⟩ := hO
  obtain ⟨b3, m3, d3, rfl⟩ := own_slice p0
  obtain ⟨b4, m4, d4, rfl⟩ := own_slice p1
  have hL1 : Live B (0 + 100) W0 w1 := ⟨hc, hg, HC.out.lt⟩
  have hR1 := HR.out.grown hg (by have := HBE.out; omega)
  have HW1 := Lib.hid hg.size
  clear hc hg HC HR
  obtain ⟨V9, hV9⟩ : ∃ V9, V9 = w1.heap.size := ⟨_, rfl⟩
  obtain ⟨wa, hwa⟩ : ∃ wa : World, wa = w1.alloc (.cells #[.slice b3 m3 d3, .slice b4 m4 d4] 27) := ⟨_, rfl⟩
  have hX1 : Bx wa V9 27 #[.slice b3 m3 d3, .slice b4 m4 d4] := by rw [hwa, hV9]; exact Bx.new _ _ _
  have hR2' : Bx wa w.heap.size 27 #[.slice none 0 0, .slice none 0 0] := by rw [hwa]; exact hR1.alloc _
  have hL2 : Live B (0 + 100) W0 wa := by rw [hwa]; exact hL1.alloc _
  have q0 : Own LInt.rec 3 wa W0.heap.size (.slice b3 m3 d3) r.weights := by rw [hwa]; exact Own.alloc p0 _
  have q1 : Own LProxy.rec 70 wa W0.heap.size (.slice b4 m4 d4) r.proxies := by rw [hwa]; exact Own.alloc p1 _
  have hV9R : V9 ≠ w.heap.size := by have := HW1.out; have := HS0.out; omega
  have hV9B : V9 ≠ B := by have := HW1.out; have := HS0.out; have := HBE.out; omega
  have hRB : w.heap.size ≠ B := by have := HBE.out; omega
  have hBlo : B < W0.heap.size := by have := HS0.out; have := HBE.out; omega
  have hN0 : ∀ kk, W0.heap.size ≤ kk → kk ≠ w.heap.size := fun kk hk => by have := HS0.out; omega
  have hlow : w.heap.size ≤ W0.heap.size := by have := HS0.out; omega
  clear p0 p1 hR1 hL1 HW1
  go_upto_region 3 with fail
  rw [← hwa, ← hV9]
  clear hwa hV9
  have HK := Lib.hid (show ∀ w' : World, Bx w' V9 27 #[.slice b3 m3 d3, .slice b4 m4 d4] → w'.cell? ⟨V9, 0, none⟩ = some (.slice b3 m3 d3) ∧ w'.cell? ⟨V9, 1, none⟩ = some (.slice b4 m4 d4) from fun w' hX => ⟨by rw [hX.cell 0]; rfl, by rw [hX.cell 1]; rfl⟩)
  have hdr := (Below.refl wa.heap.size wa).drew
  have p0 := q0.kept hdr
  have p1 := q1.kept hdr
  have hX9 := hX1.keptB hdr
  have hR := hR2'.keptB hdr
  have hL := hL2.kept hdr
  clear q0 q1 hX1 hR2' hL2 hdr
  refine wp_region_held_drew (S := fun w' => w'.cell? ⟨V9, 0, none⟩ = some (.slice b3 m3 d3) ∧ w'.cell? ⟨V9, 1, none⟩ = some (.slice b4 m4 d4)) (by kernel_rfl) (HK.out _ hX9) (fun hHeld => ?_)
  generalize wa.drew = x0 at *
  refine wpAnyH_take (i := 0) (v := ?v2001) rfl (by kernel_rfl) (by kernel_rfl) (by kernel_rfl) (fun _ _ _ h => h) (Or.inl ⟨by rfl, ?hy2001⟩) (by assumption) ?rest2001
  case hy2001 => (intro wq hSw; (try dsimp only at hSw); go_split_ands; go_simp; (try with_reducible rfl))
  case rest2001 =>
  refine wpAnyH_take (i := 1) (v := ?v2002) rfl (by kernel_rfl) (by kernel_rfl) (by kernel_rfl) (fun _ _ _ h => h) (Or.inl ⟨by rfl, ?hy2002⟩) (by assumption) ?rest2002
  case hy2002 => (intro wq hSw; (try dsimp only at hSw); go_split_ands; go_simp; (try with_reducible rfl))
  case rest2002 =>
  refine wpAnyH_take (i := 2) (v := ?v2003) rfl (by kernel_rfl) (by kernel_rfl) (by kernel_rfl) (fun _ _ _ h => h) (Or.inl ⟨by rfl, ?hy2003⟩) (by assumption) ?rest2003
  case hy2003 => (intro wq hSw; (try dsimp only at hSw); go_split_ands; go_simp; (try with_reducible rfl))
  case rest2003 =>
  refine wpAnyH_take (i := 4) (v := ?v2004) rfl (by kernel_rfl) (by kernel_rfl) (by kernel_rfl) (fun _ _ _ h => h) (Or.inl ⟨by rfl, ?hy2004⟩) (by assumption) ?rest2004
  case hy2004 => (intro wq hSw; (try dsimp only at hSw); go_split_ands; go_simp; (try with_reducible rfl))
  case rest2004 =>
  refine wpAnyH_take (i := 5) (v := ?v2005) rfl (by kernel_rfl) (by kernel_rfl) (by kernel_rfl) (fun _ _ _ h => h) (Or.inl ⟨by rfl, ?hy2005⟩) (by assumption) ?rest2005
  case hy2005 => (intro wq hSw; (try dsimp only at hSw); go_split_ands; go_simp; (try with_reducible rfl))
  case rest2005 =>
  refine wpAnyH_ready (rs := [3]) (by kernel_rfl) (by simp) ?_
  refine AllReadyH.cons rfl (fun K hK => ?step2006) ?more2006
  case step2006 =>
    go_simp
    go_at_call 62
    refine (voter B _ _ r x0 hL.cur (by omega) ⟨_, _, rfl, p0.is, p1.is⟩ hl0).mono ?_
    rintro e x1 ⟨x, rfl, hc, hg⟩
    replace p0 := own_grown p0 hg hBlo
    replace p1 := own_grown p1 hg hBlo
    replace hX9 := Bx.grown hX9 hg hV9B
    replace hR := Bx.grown hR hg hRB
    replace hL := hL.draw hc hg
    clear hc hg
    go_wp2_with fail
    refine hK.out _ _ (HK.out _ hX9) (fun hHeld => ?_)
    clear hK K
    refine wpAnyH_ready (rs := [6]) (by kernel_rfl) (by simp) ?_
    refine AllReadyH.cons rfl (fun K hK => ?step2007) ?more2007
    case step2007 =>
      go_simp
      go_at_call 62
      refine (voter B _ _ r x1 hL.cur (by omega) ⟨_, _, rfl, p0.is, p1.is⟩ hl0).mono ?_
      rintro e x2 ⟨y, rfl, hc, hg⟩
      replace p0 := own_grown p0 hg hBlo
      replace p1 := own_grown p1 hg hBlo
      replace hX9 := Bx.grown hX9 hg hV9B
      replace hR := Bx.grown hR hg hRB
      replace hL := hL.draw hc hg
      clear hc hg
      go_wp2_with fail
      refine hK.out _ _ (HK.out _ hX9) (fun hHeld => ?_)
      clear hK K
      refine wpAnyH_ready (rs := [7]) (by kernel_rfl) (by simp) ?_
      refine AllReadyH.cons rfl (fun K hK => ?step2008) ?more2008
      case step2008 =>
        have z0 := hR.frozen 0
        have z1 := hR.frozen 1
        have y0 := hR.cell 0
        have y1 := hR.cell 1
        simp only [List.getElem?_toArray, List.getElem?_cons_zero, List.getElem?_cons_succ] at y0 y1
        have hR2 := Bx.set_ (Bx.set_ hR 0 (.slice b3 m3 d3)) 1 (.slice b4 m4 d4)
        have p2 := (own_set (own_set p0 (p := ⟨w.heap.size, 0, none⟩) (fun kk hk => hN0 kk ((p0.lt kk hk).1)) (.slice b3 m3 d3)) (p := ⟨w.heap.size, 1, none⟩) (fun kk hk => hN0 kk ((p0.lt kk hk).1)) (.slice b4 m4 d4))
        have p3 := (own_set (own_set p1 (p := ⟨w.heap.size, 0, none⟩) (fun kk hk => hN0 kk ((p1.lt kk hk).1)) (.slice b3 m3 d3)) (p := ⟨w.heap.size, 1, none⟩) (fun kk hk => hN0 kk ((p1.lt kk hk).1)) (.slice b4 m4 d4))
        have hX2 := Bx.far (Bx.far hX9 (p := ⟨w.heap.size, 0, none⟩) hV9R (.slice b3 m3 d3)) (p := ⟨w.heap.size, 1, none⟩) hV9R (.slice b4 m4 d4)
        have hBF := ((HBel.out _ hL.grown).setCell (p := ⟨w.heap.size, 0, none⟩) (Nat.le_refl _) (.slice b3 m3 d3)).setCell (p := ⟨w.heap.size, 1, none⟩) (Nat.le_refl _) (.slice b4 m4 d4)
        go_simp
        refine hK.out _ _ (HK.out _ hX2) (fun hHeld => ?_)
        clear hK K z0 z1 y0 y1 hR p0 p1 hX9 hL
        generalize ((x2.setCell ⟨w.heap.size, 0, none⟩ (.slice b3 m3 d3)).setCell ⟨w.heap.size, 1, none⟩ (.slice b4 m4 d4)) = x3 at *
        refine wpAnyH_take (i := 8) (v := ?v2009) rfl (by kernel_rfl) (by kernel_rfl) (by kernel_rfl) (fun _ _ _ h => h) (Or.inl ⟨by rfl, ?hy2009⟩) (by assumption) ?rest2009
        case hy2009 => (intro wq hSw; (try dsimp only at hSw); go_split_ands; go_simp; (try with_reducible rfl))
        case rest2009 =>
        refine wpAnyH_take (i := 9) (v := ?v2010) rfl (by kernel_rfl) (by kernel_rfl) (by kernel_rfl) (fun _ _ _ h => h) (Or.inl ⟨by rfl, ?hy2010⟩) (by assumption) ?rest2010
        case hy2010 => (intro wq hSw; (try dsimp only at hSw); go_split_ands; go_simp; (try with_reducible rfl))
        case rest2010 =>
        refine wpAnyH_done (by kernel_rfl) ?_ _
        have e0 := hR2.cell 0
        have e1 := hR2.cell 1
        simp at e0 e1
        go_wp2_with fail
        (try simp only [Exit.inBlock, Exit.then])
        refine bodyPost_ret (v := .tuple #[.agg #[.slice b3 m3 d3, .slice b4 m4 d4], .int .i64 x, .int .i64 y]) (by simp [results, Try.results26, go_sem, e0, e1]) rfl ?_
        exact ⟨_, r, x, y, rfl, ⟨_, _, rfl, p2.low hlow, p3.low hlow, d01⟩, hl0, hl1, hBF⟩
      case more2008 => exact AllReadyH.nil
    case more2007 => exact AllReadyH.nil
  case more2006 => exact AllReadyH.nil
end Go.Proofs.Ytdjnaoaniokbgaa.Draw
