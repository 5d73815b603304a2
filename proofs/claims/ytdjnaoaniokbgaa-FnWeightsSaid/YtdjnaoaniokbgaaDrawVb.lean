/- The draws of lists of voters and of votes. No condition. -/
import Derived.Test.YtdjnaoaniokbgaaDrawVa
import Derived.Deep.CutBlock
namespace Go.Proofs.Ytdjnaoaniokbgaa.Draw
open Go.RowKit Cur Bs Vo
set_option linter.unusedVariables false
theorem own_somei {w : World} {A : Nat} {v : Value} {z : List Int} (h : Own LInt.rec 3 w A v z) (hz : 0 < z.length) : ∃ g c, v = .slice (some ⟨g, 0, none⟩) z.length c ∧ A ≤ g ∧ g < w.heap.size ∧ z.length ≤ c ∧ c ≤ maxLen := by
  rcases h.shape with ⟨_, h0⟩ | h
  · rw [h0] at hz; simp at hz
  · exact h
/-- voters in box V9 and a list of numbers so, while the list is drawn -/
structure Vq (w W0 : World) (V9 B m : Nat) (s0 s1 so : Value) (r : LVoters.R) (z : List Int) (wx : World) : Prop where
  live : Live B m W0 wx
  res : Bx wx w.heap.size 27 #[.slice none 0 0, .slice none 0 0]
  box : Bx wx V9 27 #[s0, s1]
  o0 : Own LInt.rec 3 wx W0.heap.size s0 r.weights
  o1 : Own LProxy.rec 70 wx W0.heap.size s1 r.proxies
  oz : Own LInt.rec 3 wx (V9 + 1) so z
  n0 : ∀ k, s0.ownBlock = some k → k < V9
  n1 : ∀ k, s1.ownBlock = some k → k < V9
  nn : ∃ g, so.ownBlock = some g
  d : Dist s0 s1
  k0 : W0.heap.size = w.heap.size + 2
  kB : B = w.heap.size + 1
  k9 : W0.heap.size ≤ V9
section
variable {w W0 : World} {V9 B m m' : Nat} {s0 s1 so : Value} {r : LVoters.R} {z : List Int} {wx w' : World}
theorem Vq.alloc (h : Vq w W0 V9 B m s0 s1 so r z wx) (o : Obj) : Vq w W0 V9 B m s0 s1 so r z (wx.alloc o) := ⟨h.live.alloc o, h.res.alloc o, h.box.alloc o, Own.alloc h.o0 o, Own.alloc h.o1 o, Own.alloc h.oz o, h.n0, h.n1, h.nn, h.d, h.k0, h.kB, h.k9⟩
theorem Vq.draw (h : Vq w W0 V9 B m s0 s1 so r z wx) (hc : Cur w' B m') (hg : wx.grownBy w' (some B)) : Vq w W0 V9 B m' s0 s1 so r z w' := by
  have h1 := h.k0
  have h2 := h.kB
  have h3 := h.k9
  exact ⟨h.live.draw hc hg, Bx.grown h.res hg (by omega), Bx.grown h.box hg (by omega), own_grown h.o0 hg (by omega), own_grown h.o1 hg (by omega), own_grown h.oz hg (by omega), h.n0, h.n1, h.nn, h.d, h.k0, h.kB, h.k9⟩
theorem Vq.mono (h : Vq w W0 V9 B m s0 s1 so r z wx) (hm : m ≤ m') : Vq w W0 V9 B m' s0 s1 so r z wx := ⟨h.live.mono hm, h.res, h.box, h.o0, h.o1, h.oz, h.n0, h.n1, h.nn, h.d, h.k0, h.kB, h.k9⟩
theorem Vq.app {v' : Value} {z' : List Int} (h : Vq w W0 V9 B m s0 s1 so r z wx) (hown : Own LInt.rec 3 w' (V9 + 1) v' z') (hg : wx.grownBy w' so.ownBlock) (hn : ∃ g, v'.ownBlock = some g) : Vq w W0 V9 B m s0 s1 v' r z' w' := by
  have h1 := h.k0
  have h3 := h.k9
  exact ⟨h.live.own hg (fun k hk => by have := (h.oz.lt k hk).1; omega), (hg.block _ h.res.lt (fun e => by have := (h.oz.lt _ e.symm).1; omega)).trans h.res, (hg.block V9 h.box.lt (fun e => by have := (h.oz.lt _ e.symm).1; omega)).trans h.box,
   own_besides h.o0 hg (fun k hk e => by have := h.n0 k hk; have := (h.oz.lt k e).1; omega), own_besides h.o1 hg (fun k hk e => by have := h.n1 k hk; have := (h.oz.lt k e).1; omega), hown, h.n0, h.n1, hn, h.d, h.k0, h.kB, h.k9⟩
theorem Vq.put {g n c : Nat} (h : Vq w W0 V9 B m s0 s1 (.slice (some ⟨g, 0, none⟩) n c) r z wx) (hn : z.length = n) (k : Nat) (x y : Int) (hk : z[k]? = some x) : Vq w W0 V9 B m s0 s1 (.slice (some ⟨g, 0, none⟩) n c) r (z.set k y) (wx.setCell ⟨g, k, none⟩ (.int .i64 y)) := by
  have h1 := h.k0
  have h3 := h.k9
  have h4 := (h.oz.lt g rfl).1
  exact ⟨h.live.set (p := ⟨g, k, none⟩) (by show W0.heap.size ≤ g; omega) _, h.res.far (p := ⟨g, k, none⟩) (by show w.heap.size ≠ g; omega) _, h.box.far (p := ⟨g, k, none⟩) (by show V9 ≠ g; omega) _,
   own_set h.o0 (p := ⟨g, k, none⟩) (fun kk hk => by have := h.n0 kk hk; show kk ≠ g; omega) _, own_set h.o1 (p := ⟨g, k, none⟩) (fun kk hk => by have := h.n1 kk hk; show kk ≠ g; omega) _, LInt.putAll hn h.oz k x y hk, h.n0, h.n1, h.nn, h.d, h.k0, h.kB, h.k9⟩
theorem Vq.done (h : Vq w W0 V9 B m s0 s1 so r z wx) (hBel : ∀ w', W0.grownBy w' (some B) → Below w.heap.size w w') : LVoters.Own ((wx.setCell ⟨w.heap.size, 0, none⟩ s0).setCell ⟨w.heap.size, 1, none⟩ s1) w.heap.size (.agg #[s0, s1]) r ∧ Own LInt.rec 3 ((wx.setCell ⟨w.heap.size, 0, none⟩ s0).setCell ⟨w.heap.size, 1, none⟩ s1) w.heap.size so z ∧ Below w.heap.size w ((wx.setCell ⟨w.heap.size, 0, none⟩ s0).setCell ⟨w.heap.size, 1, none⟩ s1) ∧ Bx ((wx.setCell ⟨w.heap.size, 0, none⟩ s0).setCell ⟨w.heap.size, 1, none⟩ s1) w.heap.size 27 #[s0, s1] := by
  have h1 := h.k0
  have h3 := h.k9
  have e0 : ∀ k, s0.ownBlock = some k → k ≠ w.heap.size := fun k hk => by have := (h.o0.lt k hk).1; omega
  have e1 : ∀ k, s1.ownBlock = some k → k ≠ w.heap.size := fun k hk => by have := (h.o1.lt k hk).1; omega
  have e2 : ∀ k, so.ownBlock = some k → k ≠ w.heap.size := fun k hk => by have := (h.oz.lt k hk).1; omega
  have h2 := (h.res.set_ 0 s0).set_ 1 s1
  exact ⟨⟨s0, s1, rfl, (own_set (own_set h.o0 (p := ⟨w.heap.size, 0, none⟩) e0 s0) (p := ⟨w.heap.size, 1, none⟩) e0 s1).low (by omega), (own_set (own_set h.o1 (p := ⟨w.heap.size, 0, none⟩) e1 s0) (p := ⟨w.heap.size, 1, none⟩) e1 s1).low (by omega), h.d⟩,
    (own_set (own_set h.oz (p := ⟨w.heap.size, 0, none⟩) e2 s0) (p := ⟨w.heap.size, 1, none⟩) e2 s1).low (by omega), ((hBel _ h.live.grown).setCell (p := ⟨w.heap.size, 0, none⟩) (Nat.le_refl _) s0).setCell (p := ⟨w.heap.size, 1, none⟩) (Nat.le_refl _) s1, by simpa using h2⟩
theorem Vq.cells (h : Vq w W0 V9 B m s0 s1 so r z wx) : wx.cell? ⟨V9, 0, none⟩ = some s0 ∧ wx.cell? ⟨V9, 1, none⟩ = some s1 := ⟨by rw [h.box.cell 0]; rfl, by rw [h.box.cell 1]; rfl⟩
end
set_option maxRecDepth 100000 in
set_option maxHeartbeats 3200000 in
theorem drawWeightPresent (a : Option Addr) (len cap : Nat) (zs : List Int) (w : World) (h : Frame.IsRow .u8 w a len cap zs) (hl : len ≤ 65536) : Calls Try.prog 36 #[.slice a len cap] w (VoSArg w) := by
  obtain ⟨i0, hi, hz0, hz1, hz2⟩ := info_parts LInt.infoK
  have HI0 := Lib.hid hi
  have HZ0 := Lib.hid (And.intro hz0 (And.intro hz1 hz2))
  clear hi hz0 hz1 hz2
  have hs : (w.alloc (.cells #[.slice none 0 0, .slice none 0 0] 27)).heap.size = w.heap.size + 1 := by simp
  have HC := Lib.hid (cur_new (row_kept h ((Below.refl _ _).alloc (Nat.le_refl _) (.cells #[.slice none 0 0, .slice none 0 0] 27))) hl)
  have HR := Lib.hid ((Bx.new w 27 #[.slice none 0 0, .slice none 0 0]).alloc (.cells #[.slice a len cap, .int .i64 0, .int .u64 0] 76))
  have HBel : Hid (∀ w', ((w.alloc (.cells #[.slice none 0 0, .slice none 0 0] 27)).alloc (.cells #[.slice a len cap, .int .i64 0, .int .u64 0] 76)).grownBy w' (some (w.heap.size + 1)) → Below w.heap.size w w') := Lib.hid (fun w' hg => by
    rw [← hs] at hg
    exact ((Below.refl w.heap.size w).alloc (Nat.le_refl _) _).trans ((below_cur hg).mono (by simp)))
  have HS0 := Lib.hid (show ((w.alloc (.cells #[.slice none 0 0, .slice none 0 0] 27)).alloc (.cells #[.slice a len cap, .int .i64 0, .int .u64 0] 76)).heap.size = w.heap.size + 2 by simp)
  rw [hs] at HC
  clear h hs
  go_enter Try.func36, Try.ntmps36
  go_wp2_with fail
  generalize (w.alloc (.cells #[.slice none 0 0, .slice none 0 0] 27)).alloc (.cells #[.slice a len cap, .int .i64 0, .int .u64 0] 76) = W0 at *
  generalize hB0 : w.heap.size + 1 = B at *
  have HBE := Lib.hid hB0
  clear hB0
  refine (voters B 0 _ HC.out (by omega)).mono ?_
  rintro e w1 ⟨v, r, rfl, hO, hl0, hl1, hc, hg⟩
  obtain ⟨u0, u1, rfl, p0, p1, d01⟩ := hO
  obtain ⟨b3, m3, d3, rfl⟩ := own_slice p0
  obtain ⟨b4, m4, d4, rfl⟩ := own_slice p1
  have hL1 : Live B (0 + 100) W0 w1 := ⟨hc, hg, HC.out.lt⟩
  have hR1 := HR.out.grown hg (by have := HBE.out; omega)
  have hW1 := hg.size
  clear hc hg HC HR
  obtain ⟨V9, hV9⟩ : ∃ V9, V9 = w1.heap.size := ⟨_, rfl⟩
  obtain ⟨wa, hwa⟩ : ∃ wa : World, wa = (w1.alloc (.cells #[.slice b3 m3 d3, .slice b4 m4 d4] 27)).alloc (.cells #[] 3) := ⟨_, rfl⟩
  have HQ0 := Lib.hid (show Vq w W0 V9 B 100 (.slice b3 m3 d3) (.slice b4 m4 d4) (.slice (some ⟨V9 + 1, 0, none⟩) 0 0) r [] wa by
    rw [hwa, hV9]
    exact ⟨(hL1.alloc _).alloc _, (hR1.alloc _).alloc _, (Bx.new _ _ _).alloc _, Own.alloc (Own.alloc p0 _) _, Own.alloc (Own.alloc p1 _) _, by have h := Own.start (T := LInt.rec) (E := 3) (w := w1.alloc (.cells #[.slice b3 m3 d3, .slice b4 m4 d4] 27)) (A := w1.heap.size + 1) (by simp); simpa using h,
      fun k hk => (p0.lt k hk).2, fun k hk => (p1.lt k hk).2, ⟨_, rfl⟩, d01, HS0.out, HBE.out.symm, hW1⟩)
  have HMN := Lib.hid (isq_len p0.isQ).1
  have hm3 : m3 ≤ 14 := by have := HMN.out; omega
  have HL01 := Lib.hid (And.intro hl0 hl1)
  clear p0 p1 hR1 hL1 hW1 d01 hl0 hl1
  go_upto_region 4 with fail
  rw [← hV9]
  (try rw [show (w1.alloc (.cells #[.slice b3 m3 d3, .slice b4 m4 d4] 27)).heap.size = V9 + 1 by rw [hV9]; simp])
  rw [← hwa]
  clear hwa hV9
  go_wp2_with fail
  go_loopw [6, 7] (fun s6 s7 wr => ∃ (k g n c : Nat) (z : List Int), s6 = .slice (some ⟨g, 0, none⟩) n c ∧ s7 = .int .i64 k ∧ k ≤ m3 ∧ z.length ≤ k ∧ Hid (Vq w W0 V9 B (100 + 2 * k) (.slice b3 m3 d3) (.slice b4 m4 d4) (.slice (some ⟨g, 0, none⟩) n c) r z wr)) (fun _ s7 _ => m3 - (intOf s7).toNat)
  case atStart => exact ⟨0, V9 + 1, 0, 0, [], rfl, rfl, Nat.zero_le _, Nat.le_refl _, HQ0⟩
  case round =>
    clear HQ0
    obtain ⟨k, g, n, c, z, rfl, rfl, hk, hzl, HQ⟩ := hrel
    obtain ⟨sc0, sc1⟩ := HQ.out.cells
    by_cases hlt : k < m3
    · have k0 : (k : Int) < (m3 : Int) := by omega
      go_wp2_with fail
      refine (one B _ 2 _ HQ.out.live.cur (by omega) (by omega) (by omega)).mono ?_
      rintro e w2 ⟨bb, rfl, hc, hg⟩
      have HQ2 := Lib.hid ((HQ.out.draw hc hg).mono (m' := 100 + 2 * (k + 1)) (by omega))
      clear hc hg HQ sc0 sc1
      cases bb with
      | false =>
        go_wp2_with fail
        go_roundw
        case rel => exact ⟨k + 1, g, n, c, z, rfl, by go_num, by omega, by omega, HQ2⟩
        case measure => simp [intOf]; omega
      | true =>
        go_wp2_with (at_builtin; refine wpList_append_o (T := LInt.rec) _ rfl (.tmp 23) (.tmp 25) 24 rfl (V9 + 1) 3 i0 (.int .i64 0) 8 Try.underlying24 HI0.out HZ0.out.1 HZ0.out.2.1 HZ0.out.2.2 rfl _ _ rfl (HQ2.out.alloc _).oz (some ⟨w2.heap.size, 0, none⟩) 1 1 [(k : Int)] rfl rfl (src_one (T := LInt.rec) (Bx.new w2 _ _)) (by have := hzl; unfold maxLen; omega) (by have := hzl; omega) (by have := HQ2.out.box.lt; simp; omega) ?_)
        intro v5 w5 ho hgrow hnn hat
        obtain ⟨g5, c5, rfl, _⟩ := own_somei ho (by simp)
        have HQ5 := Lib.hid ((HQ2.out.alloc _).app ho hgrow ⟨_, rfl⟩)
        clear ho hgrow hnn hat 
        go_wp2_with fail
        go_roundw
        case rel => exact ⟨k + 1, g5, _, c5, z ++ [(k : Int)], rfl, by go_num, by omega, by simp; omega, HQ5⟩
        case measure => simp [intOf]; omega
    · have k0 : ¬ (k : Int) < (m3 : Int) := by omega
      have hzl : z.length ≤ 14 := by omega
      go_wp2_with fail
      refine (one B _ 16 _ HQ.out.live.cur (by omega) (by omega) (by omega)).mono ?_
      rintro e w2 ⟨bb, rfl, hc, hg⟩
      have HQ2 := Lib.hid (HQ.out.draw hc hg)
      clear hc hg HQ sc0 sc1
      cases bb with
      | false =>
        have hz := HL01.out
        obtain ⟨sc0, sc1⟩ := HQ2.out.cells
        have sf0 := HQ2.out.res.frozen 0
        have sf1 := HQ2.out.res.frozen 1
        have sr0 := HQ2.out.res.cell 0
        have sr1 := HQ2.out.res.cell 1
        simp only [List.getElem?_toArray, List.getElem?_cons_zero, List.getElem?_cons_succ] at sr0 sr1
        have HDN := Lib.hid (HQ2.out.done HBel.out)
        have HNN := Lib.hid HQ2.out.nn
        go_wp2_with fail
        clear sc0 sc1 sf0 sf1 sr0 sr1
        generalize ((w2.setCell ⟨w.heap.size, 0, none⟩ (.slice b3 m3 d3)).setCell ⟨w.heap.size, 1, none⟩ (.slice b4 m4 d4)) = wz at *
        have z0 := HDN.out.2.2.2.cell 0
        have z1 := HDN.out.2.2.2.cell 1
        simp only [List.getElem?_toArray, List.getElem?_cons_zero, List.getElem?_cons_succ] at z0 z1
        (try simp only [Exit.inBlock, Exit.then])
        refine bodyPost_ret (v := .tuple #[.agg #[.slice b3 m3 d3, .slice b4 m4 d4], .slice (some ⟨g, 0, none⟩) n c]) (by simp [results, Try.results36, go_sem, z0, z1]) rfl ?_
        exact ⟨_, r, _, _, rfl, HDN.out.1, hz.1, hz.2, HDN.out.2.1, HNN.out, by omega, HDN.out.2.2.1⟩
      | true =>
        obtain ⟨sc0, sc1⟩ := HQ2.out.cells
        have HX := Lib.hid (Bx.new w2 3 #[.int .i64 0, .int .i64 (m3 : Nat)])
        have HQ3 := Lib.hid (HQ2.out.alloc (.cells #[.int .i64 0, .int .i64 (m3 : Nat)] 3))
        have hgB : w2.heap.size ≠ B := by have := HQ2.out.box.lt; have := HQ2.out.k9; have := HQ2.out.k0; have := HQ2.out.kB; omega
        go_wp2_with fail
        generalize w2.alloc (.cells #[.int .i64 0, .int .i64 (m3 : Nat)] 3) = w3 at *
        generalize w2.heap.size = g2 at *
        refine (among_pre B _ g2 2 [(0 : Int), (m3 : Nat)] w3 HQ3.out.live.cur (by omega) HX.out hgB (by omega) (by simp) (by simp)).mono ?_
        rintro e w4 ⟨x, hx, rfl, hc, hg⟩
        have HQ4 := Lib.hid (HQ3.out.draw hc hg)
        clear hc hg HQ2 HQ3 HX sc0 sc1 hx
        go_wp2_with (at_builtin; refine wpList_append_o (T := LInt.rec) _ rfl (.tmp 29) (.tmp 36) 24 rfl (V9 + 1) 3 i0 (.int .i64 0) 8 Try.underlying24 HI0.out HZ0.out.1 HZ0.out.2.1 HZ0.out.2.2 rfl _ _ rfl (HQ4.out.alloc _).oz (some ⟨w4.heap.size, 0, none⟩) 1 1 [x] rfl rfl (src_one (T := LInt.rec) (Bx.new w4 _ _)) (by have := hzl; unfold maxLen; omega) (by have := hzl; omega) (by have := HQ4.out.box.lt; simp; omega) ?_)
        intro v5 w5 ho hgrow hnn hat
        obtain ⟨g5, c5, rfl, _⟩ := own_somei ho (by simp)
        have HQ5 := Lib.hid ((HQ4.out.alloc _).app ho hgrow ⟨_, rfl⟩)
        clear ho hgrow hnn hat 
        have hz := HL01.out
        obtain ⟨sc0, sc1⟩ := HQ5.out.cells
        have sf0 := HQ5.out.res.frozen 0
        have sf1 := HQ5.out.res.frozen 1
        have sr0 := HQ5.out.res.cell 0
        have sr1 := HQ5.out.res.cell 1
        simp only [List.getElem?_toArray, List.getElem?_cons_zero, List.getElem?_cons_succ] at sr0 sr1
        have HDN := Lib.hid (HQ5.out.done HBel.out)
        have HNN := Lib.hid HQ5.out.nn
        go_wp2_with fail
        clear sc0 sc1 sf0 sf1 sr0 sr1
        generalize ((w5.setCell ⟨w.heap.size, 0, none⟩ (.slice b3 m3 d3)).setCell ⟨w.heap.size, 1, none⟩ (.slice b4 m4 d4)) = wz at *
        have z0 := HDN.out.2.2.2.cell 0
        have z1 := HDN.out.2.2.2.cell 1
        simp only [List.getElem?_toArray, List.getElem?_cons_zero, List.getElem?_cons_succ] at z0 z1
        (try simp only [Exit.inBlock, Exit.then])
        refine bodyPost_ret (v := .tuple #[.agg #[.slice b3 m3 d3, .slice b4 m4 d4], .slice (some ⟨g5, 0, none⟩) (z ++ [x]).length c5]) (by simp [results, Try.results36, go_sem, z0, z1]) rfl ?_
        exact ⟨_, r, _, _, rfl, HDN.out.1, hz.1, hz.2, HDN.out.2.1, HNN.out, by simp; omega, HDN.out.2.2.1⟩
set_option maxRecDepth 100000 in
set_option maxHeartbeats 3200000 in
theorem drawCastVotes (a : Option Addr) (len cap : Nat) (zs : List Int) (w : World) (h : Frame.IsRow .u8 w a len cap zs) (hl : len ≤ 65536) : Calls Try.prog 33 #[.slice a len cap] w (VoSArg w) := by
  obtain ⟨i0, hi, hz0, hz1, hz2⟩ := info_parts LInt.infoK
  have HI0 := Lib.hid hi
  have HZ0 := Lib.hid (And.intro hz0 (And.intro hz1 hz2))
  clear hi hz0 hz1 hz2
  have hs : (w.alloc (.cells #[.slice none 0 0, .slice none 0 0] 27)).heap.size = w.heap.size + 1 := by simp
  have HC := Lib.hid (cur_new (row_kept h ((Below.refl _ _).alloc (Nat.le_refl _) (.cells #[.slice none 0 0, .slice none 0 0] 27))) hl)
  have HR := Lib.hid ((Bx.new w 27 #[.slice none 0 0, .slice none 0 0]).alloc (.cells #[.slice a len cap, .int .i64 0, .int .u64 0] 76))
  have HBel : Hid (∀ w', ((w.alloc (.cells #[.slice none 0 0, .slice none 0 0] 27)).alloc (.cells #[.slice a len cap, .int .i64 0, .int .u64 0] 76)).grownBy w' (some (w.heap.size + 1)) → Below w.heap.size w w') := Lib.hid (fun w' hg => by
    rw [← hs] at hg
    exact ((Below.refl w.heap.size w).alloc (Nat.le_refl _) _).trans ((below_cur hg).mono (by simp)))
  have HS0 := Lib.hid (show ((w.alloc (.cells #[.slice none 0 0, .slice none 0 0] 27)).alloc (.cells #[.slice a len cap, .int .i64 0, .int .u64 0] 76)).heap.size = w.heap.size + 2 by simp)
  rw [hs] at HC
  clear h hs
  go_enter Try.func33, Try.ntmps33
  go_wp2_with fail
  generalize (w.alloc (.cells #[.slice none 0 0, .slice none 0 0] 27)).alloc (.cells #[.slice a len cap, .int .i64 0, .int .u64 0] 76) = W0 at *
  generalize hB0 : w.heap.size + 1 = B at *
  have HBE := Lib.hid hB0
  clear hB0
  refine (voters B 0 _ HC.out (by omega)).mono ?_
  rintro e w1 ⟨v, r, rfl, hO, hl0, hl1, hc, hg⟩
  obtain ⟨u0, u1, rfl, p0, p1, d01⟩ := hO
  obtain ⟨b3, m3, d3, rfl⟩ := own_slice p0
  obtain ⟨b4, m4, d4, rfl⟩ := own_slice p1
  have hL1 : Live B (0 + 100) W0 w1 := ⟨hc, hg, HC.out.lt⟩
  have hR1 := HR.out.grown hg (by have := HBE.out; omega)
  have hW1 := hg.size
  clear hc hg HC HR
  obtain ⟨V9, hV9⟩ : ∃ V9, V9 = w1.heap.size := ⟨_, rfl⟩
  obtain ⟨wa, hwa⟩ : ∃ wa : World, wa = (w1.alloc (.cells #[.slice b3 m3 d3, .slice b4 m4 d4] 27)).alloc (.cells #[] 3) := ⟨_, rfl⟩
  have HQ0 := Lib.hid (show Vq w W0 V9 B 100 (.slice b3 m3 d3) (.slice b4 m4 d4) (.slice (some ⟨V9 + 1, 0, none⟩) 0 0) r [] wa by
    rw [hwa, hV9]
    exact ⟨(hL1.alloc _).alloc _, (hR1.alloc _).alloc _, (Bx.new _ _ _).alloc _, Own.alloc (Own.alloc p0 _) _, Own.alloc (Own.alloc p1 _) _, by have h := Own.start (T := LInt.rec) (E := 3) (w := w1.alloc (.cells #[.slice b3 m3 d3, .slice b4 m4 d4] 27)) (A := w1.heap.size + 1) (by simp); simpa using h,
      fun k hk => (p0.lt k hk).2, fun k hk => (p1.lt k hk).2, ⟨_, rfl⟩, d01, HS0.out, HBE.out.symm, hW1⟩)
  have HMN := Lib.hid (isq_len p0.isQ).1
  have hm3 : m3 ≤ 14 := by have := HMN.out; omega
  have HL01 := Lib.hid (And.intro hl0 hl1)
  clear p0 p1 hR1 hL1 hW1 d01 hl0 hl1
  go_upto_region 4 with fail
  rw [← hV9]
  (try rw [show (w1.alloc (.cells #[.slice b3 m3 d3, .slice b4 m4 d4] 27)).heap.size = V9 + 1 by rw [hV9]; simp])
  rw [← hwa]
  clear hwa hV9
  go_wp2_with fail
  go_loopw [6, 7] (fun s6 s7 wr => ∃ (k g n c : Nat) (z : List Int), s6 = .slice (some ⟨g, 0, none⟩) n c ∧ s7 = .int .i64 k ∧ k ≤ m3 ∧ z.length ≤ k ∧ Hid (Vq w W0 V9 B (100 + 2 * k) (.slice b3 m3 d3) (.slice b4 m4 d4) (.slice (some ⟨g, 0, none⟩) n c) r z wr)) (fun _ s7 _ => m3 - (intOf s7).toNat)
  case atStart => exact ⟨0, V9 + 1, 0, 0, [], rfl, rfl, Nat.zero_le _, Nat.le_refl _, HQ0⟩
  case round =>
    clear HQ0
    obtain ⟨k, g, n, c, z, rfl, rfl, hk, hzl, HQ⟩ := hrel
    obtain ⟨sc0, sc1⟩ := HQ.out.cells
    by_cases hlt : k < m3
    · have k0 : (k : Int) < (m3 : Int) := by omega
      go_wp2_with fail
      refine (pick B _ 4 _ HQ.out.live.cur (by omega) (by omega) (by omega)).mono ?_
      rintro e w2 ⟨x, rfl, x0, x1, hc, hg⟩
      have HQ2 := Lib.hid ((HQ.out.draw hc hg).mono (m' := 100 + 2 * (k + 1)) (by omega))
      clear hc hg HQ sc0 sc1
      go_wp2_with (at_builtin; refine wpList_append_o (T := LInt.rec) _ rfl (.tmp 21) (.tmp 24) 24 rfl (V9 + 1) 3 i0 (.int .i64 0) 8 Try.underlying24 HI0.out HZ0.out.1 HZ0.out.2.1 HZ0.out.2.2 rfl _ _ rfl (HQ2.out.alloc _).oz (some ⟨w2.heap.size, 0, none⟩) 1 1 [x] rfl rfl (src_one (T := LInt.rec) (Bx.new w2 _ _)) (by have := hzl; unfold maxLen; omega) (by have := hzl; omega) (by have := HQ2.out.box.lt; simp; omega) ?_)
      intro v5 w5 ho hgrow hnn hat
      obtain ⟨g5, c5, rfl, _⟩ := own_somei ho (by simp)
      have HQ5 := Lib.hid ((HQ2.out.alloc _).app ho hgrow ⟨_, rfl⟩)
      clear ho hgrow hnn hat 
      go_wp2_with fail
      go_roundw
      case rel => exact ⟨k + 1, g5, _, c5, z ++ [x], rfl, by go_num, by omega, by simp; omega, HQ5⟩
      case measure => simp [intOf]; omega
    · have k0 : ¬ (k : Int) < (m3 : Int) := by omega
      have hzl : z.length ≤ 14 := by omega
      go_wp2_with fail
      refine (pick B _ 24 _ HQ.out.live.cur (by omega) (by omega) (by omega)).mono ?_
      rintro e w2 ⟨s, rfl, s0, s1, hc, hg⟩
      have HQ2 := Lib.hid (HQ.out.draw hc hg)
      clear hc hg HQ sc0 sc1
      go_upto_block 2 with fail
      go_cut [6] (fun so wx => ∃ (g n c : Nat) (z : List Int), so = .slice (some ⟨g, 0, none⟩) n c ∧ z.length ≤ 15 ∧ Hid (Vq w W0 V9 B 200 (.slice b3 m3 d3) (.slice b4 m4 d4) (.slice (some ⟨g, 0, none⟩) n c) r z wx))
      case first =>
        cases e0 : (s == 0) with
        | true =>
          go_wp2_with (at_builtin; refine wpList_append_o (T := LInt.rec) _ rfl (.tmp 30) (.tmp 31) 24 rfl (V9 + 1) 3 i0 (.int .i64 0) 8 Try.underlying24 HI0.out HZ0.out.1 HZ0.out.2.1 HZ0.out.2.2 rfl _ _ rfl (HQ2.out.alloc _).oz (some ⟨w2.heap.size, 0, none⟩) 1 1 [0] rfl rfl (src_one (T := LInt.rec) (Bx.new w2 _ _)) (by have := hzl; unfold maxLen; omega) (by have := hzl; omega) (by have := HQ2.out.box.lt; simp; omega) ?_)
          intro v5 w5 ho hgrow hnn hat
          obtain ⟨g5, c5, rfl, _⟩ := own_somei ho (by simp)
          have HQ5 := Lib.hid ((HQ2.out.alloc _).app ho hgrow ⟨_, rfl⟩)
          clear ho hgrow hnn hat 
          go_wp2_with fail
          go_meet
          exact ⟨g5, _, c5, z ++ [0], rfl, by simp; omega, Lib.hid (HQ5.out.mono (by omega))⟩
        | false =>
        cases e1 : (s == 1) with
        | true =>
          have hn : z.length = n := (isq_len HQ2.out.oz.isQ).1
          by_cases hn0 : 0 < n
          · have h0n : (0 : Int) < (n : Int) := by omega
            have HX := Lib.hid (Bx.new w2 3 #[.int .i64 (-1), .int .i64 4])
            have HQ3 := Lib.hid (HQ2.out.alloc (.cells #[.int .i64 (-1), .int .i64 4] 3))
            have hgB : w2.heap.size ≠ B := by have := HQ2.out.box.lt; have := HQ2.out.k9; have := HQ2.out.k0; have := HQ2.out.kB; omega
            go_wp2_with fail
            generalize w2.alloc (.cells #[.int .i64 (-1), .int .i64 4] 3) = w3 at *
            generalize w2.heap.size = g2 at *
            refine (among_pre B _ g2 2 [(-1 : Int), 4] w3 HQ3.out.live.cur (by omega) HX.out hgB (by omega) (by simp) (by simp)).mono ?_
            rintro e w4 ⟨x, hx, rfl, hc, hg⟩
            have HQ4 := Lib.hid (HQ3.out.draw hc hg)
            clear hc hg HQ2 HQ3 HX hx
            obtain ⟨y, hy⟩ : ∃ y, z[0]? = some y := ⟨_, List.getElem?_eq_getElem (by omega)⟩
            have cc0 := LInt.cells (Own.at_ HQ4.out.oz 0 y hy)
            simp only [LInt.rec_n, Nat.zero_mul] at cc0
            have hf : ∀ o, w4.frozen? ⟨g, o, none⟩ = false := Own.frozen hn HQ4.out.oz
            have HQ5 := Lib.hid ((HQ4.out.put hn 0 y x hy).mono (m' := 200) (by omega))
            clear HQ4 hy
            go_wp2_with fail
            go_meet
            exact ⟨g, n, c, z.set 0 x, rfl, by simp; omega, HQ5⟩
          · have h0n : ¬ (0 : Int) < (n : Int) := by omega
            go_wp2_with fail
            go_meet
            exact ⟨g, n, c, z, rfl, by omega, Lib.hid (HQ2.out.mono (by omega))⟩
        | false =>
          go_wp2_with fail
          go_meet
          exact ⟨g, n, c, z, rfl, by omega, Lib.hid (HQ2.out.mono (by omega))⟩
      case rest =>
        clear HQ2 s0 s1 hzl
        obtain ⟨g, n, c, z, rfl, hzl, HQ⟩ := hcut
        have hz := HL01.out
        obtain ⟨sc0, sc1⟩ := HQ.out.cells
        have sf0 := HQ.out.res.frozen 0
        have sf1 := HQ.out.res.frozen 1
        have sr0 := HQ.out.res.cell 0
        have sr1 := HQ.out.res.cell 1
        simp only [List.getElem?_toArray, List.getElem?_cons_zero, List.getElem?_cons_succ] at sr0 sr1
        have HDN := Lib.hid (HQ.out.done HBel.out)
        have HNN := Lib.hid HQ.out.nn
        go_wp2_with fail
        clear sc0 sc1 sf0 sf1 sr0 sr1
        generalize ((wc.setCell ⟨w.heap.size, 0, none⟩ (.slice b3 m3 d3)).setCell ⟨w.heap.size, 1, none⟩ (.slice b4 m4 d4)) = wz at *
        have z0 := HDN.out.2.2.2.cell 0
        have z1 := HDN.out.2.2.2.cell 1
        simp only [List.getElem?_toArray, List.getElem?_cons_zero, List.getElem?_cons_succ] at z0 z1
        (try simp only [Exit.inBlock, Exit.then])
        refine bodyPost_ret (v := .tuple #[.agg #[.slice b3 m3 d3, .slice b4 m4 d4], .slice (some ⟨g, 0, none⟩) n c]) (by simp [results, Try.results33, go_sem, z0, z1]) rfl ?_
        exact ⟨_, r, _, _, rfl, HDN.out.1, hz.1, hz.2, HDN.out.2.1, HNN.out, by omega, HDN.out.2.2.1⟩
end Go.Proofs.Ytdjnaoaniokbgaa.Draw
