/- The laws' helper toIntS: copies of what came in. -/
import Derived.Test.YtdjnaoaniokbgaaLIntD
namespace Go.Proofs.Ytdjnaoaniokbgaa.LInt
open Go.RowKit Bs
set_option linter.unusedVariables false
set_option maxHeartbeats 800000 in
theorem toS (v : Value) (xs : List R) (w : World) (h : Is rec w v xs) (hsm : xs.length ≤ 1048576) :
    Calls Try.prog 52 #[v] w fun e w' => ∃ u, e = .returned u ∧ (∃ g, u.ownBlock = some g) ∧ Own rec 3 w' w.heap.size u xs ∧ Below w.heap.size w w' := by
  obtain ⟨a, cp, rfl, h⟩ := h
  obtain ⟨i0, hi, hz0, hz1⟩ : ∃ i, Try.prog.info? 3 = some i ∧ i.zero = some (.int .i64 0) ∧ i.size = 1 := by
    have := info
    cases h' : Try.prog.info? 3 with
    | none => rw [h'] at this; cases this
    | some i => rw [h'] at this; simp only [Option.map_some, Option.some.injEq, Prod.mk.injEq] at this; exact ⟨i, rfl, this⟩
  have hz2 : i0.bytes ≤ 1000 := by
    have e : (Try.prog.info? 3).map (fun i => decide (i.bytes ≤ 1000)) = some true := by kernel_rfl
    rw [hi] at e
    simpa using e
  have HI := Lib.hid hi
  have HZ := Lib.hid (And.intro hz0 (And.intro hz1 hz2))
  have hc := h.at_ rec
  obtain ⟨n, hn⟩ : ∃ n, n = xs.length := ⟨_, rfl⟩
  have hnb : n ≤ cp := by have := h.1; omega
  have h2 := h.2.1
  unfold maxLen at h2
  have HN := Lib.hid hn.symm
  rw [← hn] at hsm ⊢
  have hle : n ≤ xs.length := by omega
  clear hi hz0 hz1 hz2 hn h
  go_enter Try.func52, Try.ntmps52
  go_wp2_with (at_make; refine wpList_make_full _ rfl (.tmp 6) (.tmp 6) 24 rfl w.heap.size 3 i0 _ 1 Try.underlying24 HI.out HZ.out.1 HZ.out.2.1 .i64 .i64 _ _ n rfl rfl rfl rfl ?c1 ?c2 ?c3 ?c4)
  case c1 => exact Nat.le_trans (Nat.mul_le_mul HZ.out.2.2 hsm) (show 1000 * 1048576 ≤ 281474976710656 by decide)
  case c2 => unfold maxLen; omega
  case c3 => exact Nat.le_refl _
  case c4 =>
    intro w1 hown hgrow
    have hb : Below w.heap.size w w1 := (Below.refl _ _).grown hgrow (Nat.le_refl _) (fun k hk => by cases hk)
    have HO : Hid (OwnR w1 w.heap.size w.heap.size n n (part xs n 0)) := by
      have e := made_zero n
      show Own _ _ _ _ _ _
      unfold Own
      rw [part_len xs n 0 HN.out (Nat.zero_le _), part_zero, ← e]
      exact hown
    clear hown hgrow
    go_wp2_with fail
    go_loopw [4] (fun i wr => ∃ k : Nat, k ≤ n ∧ i = .int .i64 k ∧ Below w.heap.size w wr ∧ Hid (OwnR wr w.heap.size w.heap.size n n (part xs n k))) (fun i _ => n - (intOf i).toNat)
    case atStart => exact ⟨0, Nat.zero_le _, rfl, hb, HO⟩
    case round =>
      clear hb HO
      obtain ⟨k, hk, rfl, hb, HO⟩ := hrel
      by_cases hlt : k < n
      · have hx : k < xs.length := by omega
        obtain ⟨b, o, rfl, hbl, hcell0⟩ := hc.out k xs[k] (List.getElem?_eq_getElem hx)
        have q0 := cells (hcell0.below rec hb hbl)
        simp only [rec_n, Nat.mul_one] at q0
        clear hcell0
        have hps := Lib.hid (part_set xs n k HN.out hx)
        have HPL := Lib.hid (part_len xs n k HN.out hk)
        have p0 := cells (HO.out.at_ k zero (part_at xs n k HN.out hlt))
        have f0 : ∀ o, wr.frozen? ⟨w.heap.size, o, none⟩ = false := Own.frozen HPL.out HO.out
        have HS := Lib.hid (fun r => putAll HPL.out HO.out k zero r (part_at xs n k HN.out hlt))
        simp only [rec_n, Nat.mul_one] at p0
        generalize hX : xs[k] = X at *
        have HS2 := Lib.hid (show OwnR (wr.setCell ⟨w.heap.size, k, none⟩ (.int .i64 X)) w.heap.size w.heap.size n n (part xs n (k + 1)) by
          have := HS.out X
          rwa [hps.out] at this)
        have k0 : 0 ≤ (k : Int) := by omega
        have k1 : (k : Int) < (n : Int) := by omega
        clear HS hX
        go_wp2_with fail
        go_roundw
        case rel =>
          refine ⟨k + 1, by omega, by go_num, ?_, HS2⟩
          exact (hb.setCell (Nat.le_refl _) _)
        case measure => simp [intOf]; omega
      · have hkn : k = n := by omega
        have HS := Lib.hid (show OwnR wr w.heap.size w.heap.size n n xs by
          have := HO.out
          rw [hkn, part_all xs n HN.out] at this
          exact this)
        clear hkn
        go_wp2_with fail
        go_ret
        exact ⟨_, rfl, ⟨_, rfl⟩, HS.out, hb⟩
end Go.Proofs.Ytdjnaoaniokbgaa.LInt
