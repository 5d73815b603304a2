/- Proxies: the model's ways. No condition. -/
import Derived.Test.YtdjnaoaniokbgaaVo
import Derived.Test.YtdjnaoaniokbgaaLVotersZ
import Derived.Test.YtdjnaoaniokbgaaJ1
import Derived.Test.YtdjnaoaniokbgaaBx
import Derived.BigQuiet
import Derived.IntWalk
import Derived.Deep.DeepCutAuto
import Derived.Deep.RegionHeld3
namespace Go.Proofs.Ytdjnaoaniokbgaa.VoA
open Go.RowKit Bs Word Sq IntF Vo
set_option linter.unusedVariables false
theorem open_is {w : World} {v : Value} {r : V} (h : LVoters.Is w v r) : ∃ (a0 : Option Addr) (n0 c0 : Nat) (a1 : Option Addr) (n1 c1 : Nat), v = .agg #[.slice a0 n0 c0, .slice a1 n1 c1] ∧ Hid (r.weights.length = n0) ∧ Hid (r.proxies.length = n1) ∧ n0 ≤ c0 ∧ n1 ≤ c1 ∧ c0 ≤ 9223372036854775807 ∧ c1 ≤ 9223372036854775807 ∧
    Hid (∀ (j : Nat) (x : Int), r.weights[j]? = some x → ∃ b o, a0 = some ⟨b, o, none⟩ ∧ b < w.heap.size ∧ At LInt.rec w b (o + j * LInt.rec.n) x) ∧ Hid (∀ j x, r.proxies[j]? = some x → ∃ b o, a1 = some ⟨b, o, none⟩ ∧ b < w.heap.size ∧ At LProxy.rec w b (o + j * LProxy.rec.n) x) ∧
    Hid (LVoters.Is w (.agg #[.slice a0 n0 c0, .slice a1 n1 c1]) r) := by
  have h0 := h
  obtain ⟨s0, s1, rfl, h3, h4⟩ := h
  obtain ⟨a3, c3, rfl, h3⟩ := h3
  obtain ⟨a4, c4, rfl, h4⟩ := h4
  have m3 := h3.2.1
  have m4 := h4.2.1
  unfold maxLen at m3 m4
  exact ⟨a3, _, c3, a4, _, c4, rfl, Lib.hid rfl, Lib.hid rfl, h3.1, h4.1, by omega, by omega, h3.at_ LInt.rec, h4.at_ LProxy.rec, Lib.hid h0⟩
set_option maxRecDepth 100000 in
set_option maxHeartbeats 1600000 in
theorem l12Next (v0 : Value) (r : V) (m : Int) (w : World) (h0 : LVoters.Is w v0 r) :
    Calls Try.prog 60 #[v0, .int .i64 m] w fun e w' => e = .returned (.int .i64 (nxt r.proxies m)) ∧ Below w.heap.size w w' := by
  obtain ⟨a0, n0, c0, a1, n1, c1, rfl, HN0, HN1, hb0, hb1', hm0, hm1, hc0, hc1, HI⟩ := open_is h0
  clear h0
  have hb : Below w.heap.size w (w.alloc (.cells #[.slice a0 n0 c0, .slice a1 n1 c1] 27)) := (Below.refl _ _).alloc (Nat.le_refl _) _
  have HB := Lib.hid hb
  go_enter Try.func60, Try.ntmps60
  go_wp2_with fail
  go_loop [5] (fun i => ∃ k : Nat, k ≤ n1 ∧ i = .int .i64 k ∧ Hid (First (fun X => (X.src == m)) r.proxies k)) (fun i => n1 - (intOf i).toNat)
  case atStart => exact ⟨0, Nat.zero_le _, rfl, Lib.hid first_zero⟩
  case round =>
    obtain ⟨k, hk, rfl, HF⟩ := hrel
    by_cases hlt : k < n1
    · have hx : k < r.proxies.length := by have := HN1.out; omega
      obtain ⟨b, o, rfl, hbl, hcell0⟩ := hc1.out k r.proxies[k] (List.getElem?_eq_getElem hx)
      obtain ⟨y0, y1⟩ := LProxy.cells (hcell0.below LProxy.rec hb hbl)
      simp only [LProxy.rec_n] at y0 y1
      have HX := Lib.hid (List.getElem?_eq_getElem hx)
      clear hcell0
      generalize r.proxies[k] = X at *
      cases g : (X.src == m) with
      | true =>
        have HR := Lib.hid (nxt_hit HF.out HX.out g)
        go_wp2_with fail
        go_ret
        exact ⟨ret_int HR.out.symm, HB.out⟩
      | false =>
        have HF2 := Lib.hid (first_next HF.out HX.out g)
        go_wp2_with fail
        go_round
        case rel => exact ⟨k + 1, by omega, by go_num, HF2⟩
        case measure => simp [intOf]; omega
    · have HR := Lib.hid (nxt_none (i := m) HF.out (by have := HN1.out; omega))
      go_wp2_with fail
      go_ret
      exact ⟨ret_int HR.out.symm, HB.out⟩
set_option maxRecDepth 100000 in
set_option maxHeartbeats 1600000 in
theorem l12Steps (v0 : Value) (r : V) (m : Int) (w : World) (h0 : LVoters.Is w v0 r) (hl : r.proxies.length ≤ 1048576) :
    Calls Try.prog 72 #[v0, .int .i64 m] w fun e w' => e = .returned (.tuple #[.int .i64 (holder r.proxies m), .int .i64 (steps r.proxies m : Nat)]) ∧ Below w.heap.size w w' := by
  obtain ⟨a0, n0, c0, a1, n1, c1, rfl, HN0, HN1, hb0, hb1', hm0, hm1, hc0, hc1, HI⟩ := open_is h0
  clear h0
  have hn : n1 ≤ 1048576 := by have := HN1.out; omega
  clear hl
  obtain ⟨W, hW⟩ : ∃ W : World, W = w.alloc (Obj.cells #[.slice a0 n0 c0, .slice a1 n1 c1] 27) := ⟨_, rfl⟩
  have hb : Below w.heap.size w W := by rw [hW]; exact (Below.refl _ _).alloc (Nat.le_refl _) _
  have HZ := Lib.hid (show W.heap.size = w.heap.size + 1 by rw [hW]; simp)
  have B0 := Lib.hid (show Bx W w.heap.size 27 #[.slice a0 n0 c0, .slice a1 n1 c1] by rw [hW]; exact Bx.new _ _ _)
  have HIW := Lib.hid (LVoters.Is.below HI.out hb)
  go_enter Try.func72, Try.ntmps72
  go_wp2_with fail
  rw [← hW]
  clear hW
  go_loopw [1, 6] (fun s1 s6 wr => ∃ (j : Int) (k : Nat), k ≤ n1 + 1 ∧ s1 = .int .i64 j ∧ s6 = .int .i64 k ∧ Below W.heap.size W wr ∧ Hid (Mid r.proxies m (r.proxies.length + 1) j k)) (fun _ s6 _ => n1 + 1 - (intOf s6).toNat)
  case atStart => exact ⟨m, 0, Nat.zero_le _, rfl, rfl, Below.refl _ _, Lib.hid mid_zero⟩
  case round =>
    obtain ⟨j, k, hk, rfl, rfl, hbr, HM⟩ := hrel
    have B1 := B0.out.kept hbr
    have hb2 := hb.trans (hbr.mono hb.size)
    have q0 := B1.cell 0
    have q1 := B1.cell 1
    simp only [List.getElem?_toArray, List.getElem?_cons_zero, List.getElem?_cons_succ] at q0 q1
    by_cases hlt : k ≤ n1
    · obtain ⟨t, ht⟩ : ∃ t, t = nxt r.proxies j := ⟨_, rfl⟩
      have HC := l12Next _ r j wr (LVoters.Is.below HI.out hb2)
      rw [← ht] at HC
      have HC := Lib.hid HC
      have HT := Lib.hid ht
      clear ht
      go_wp2_with fail
      refine HC.out.mono ?_
      rintro e w1 ⟨rfl, hb1⟩
      by_cases hn : t < 0
      · have HE := Lib.hid (mid_end HM.out (show nxt r.proxies j < 0 by rw [← HT.out]; exact hn))
        go_wp2_with fail
        go_ret2
        exact ⟨by unfold holder steps; rw [HE.out]; rfl, hb2.trans (hb1.mono hb2.size)⟩
      · have HM2 := Lib.hid (mid_next HM.out (show k < r.proxies.length + 1 by have := HN1.out; omega) (show ¬ nxt r.proxies j < 0 by rw [← HT.out]; exact hn))
        go_wp2_with fail
        go_roundw
        case rel => exact ⟨t, k + 1, by omega, rfl, by go_num, hbr.trans (hb1.mono hbr.size), by rw [HT.out]; exact HM2⟩
        case measure => simp [intOf]; omega
    · have HE := Lib.hid (mid_full (show Mid r.proxies m (r.proxies.length + 1) j (r.proxies.length + 1) by have h1 := HM.out; have h2 := HN1.out; rwa [show k = r.proxies.length + 1 by omega] at h1))
      have HK := Lib.hid (show k = r.proxies.length + 1 by have h2 := HN1.out; omega)
      go_wp2_with fail
      go_ret2
      exact ⟨by unfold holder steps; rw [HE.out, HK.out]; rfl, hb2⟩
end Go.Proofs.Ytdjnaoaniokbgaa.VoA
