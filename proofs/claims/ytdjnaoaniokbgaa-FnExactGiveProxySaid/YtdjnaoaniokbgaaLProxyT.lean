/- The laws' helpers toProxy, toProxyS: copies of what came in. -/
import Derived.Test.YtdjnaoaniokbgaaLProxyD
namespace Go.Proofs.Ytdjnaoaniokbgaa.LProxy
open Go.RowKit Bs
set_option linter.unusedVariables false
set_option maxHeartbeats 400000 in
theorem to (r : R) (w : World) :
    Calls Try.prog 86 #[.agg #[.int .i64 r.src, .int .i64 r.dst]] w fun e w' => e = .returned (.agg #[.int .i64 r.src, .int .i64 r.dst]) ∧ Below w.heap.size w w' := by
  go_enter Try.func86, Try.ntmps86
  go_wp2_with fail
  refine bodyPost_ret (v := .agg #[.int .i64 r.src, .int .i64 r.dst]) (by simp [results, Try.results86, go_sem]) rfl ⟨rfl, ?_⟩
  exact (((Below.refl _ _).alloc (Nat.le_refl _) _).alloc (by simp) _).alloc (by simp; omega) _
set_option maxHeartbeats 800000 in
theorem toS (v : Value) (xs : List R) (w : World) (h : Is rec w v xs) (hsm : xs.length ≤ 1048576) :
    Calls Try.prog 75 #[v] w fun e w' => ∃ u, e = .returned u ∧ (∃ g, u.ownBlock = some g) ∧ Own rec 70 w' w.heap.size u xs ∧ Below w.heap.size w w' := by
  obtain ⟨a, cp, rfl, h⟩ := h
  obtain ⟨i0, hi, hz0, hz1⟩ : ∃ i, Try.prog.info? 70 = some i ∧ i.zero = some (.agg #[.int .i64 0, .int .i64 0]) ∧ i.size = 2 := by
    have := info
    cases h' : Try.prog.info? 70 with
    | none => rw [h'] at this; cases this
    | some i => rw [h'] at this; simp only [Option.map_some, Option.some.injEq, Prod.mk.injEq] at this; exact ⟨i, rfl, this⟩
  have hz2 : i0.bytes ≤ 1000 := by
    have e : (Try.prog.info? 70).map (fun i => decide (i.bytes ≤ 1000)) = some true := by kernel_rfl
    rw [hi] at e
    simpa using e
  have HI := Lib.hid hi
  have HZ := Lib.hid (And.intro hz0 (And.intro hz1 hz2))
  have hc := h.at_ rec
  obtain ⟨n, hn⟩ : ∃ n, n = xs.length := ⟨_, rfl⟩
  have hnb : n ≤ cp := by have := h.1; omega
  have h2 := h.2.1
  unfold maxLen at h2
  have HN := Lib.hid hn.symm
  rw [← hn] at hsm ⊢
  have hle : n ≤ xs.length := by omega
  clear hi hz0 hz1 hz2 hn h
  go_enter Try.func75, Try.ntmps75
  go_wp2_with (at_make; refine wpList_make_full _ rfl (.tmp 6) (.tmp 6) 25 rfl w.heap.size 70 i0 _ 2 Try.underlying25 HI.out HZ.out.1 HZ.out.2.1 .i64 .i64 _ _ n rfl rfl rfl rfl ?c1 ?c2 ?c3 ?c4)
  case c1 => exact Nat.le_trans (Nat.mul_le_mul HZ.out.2.2 hsm) (show 1000 * 1048576 ≤ 281474976710656 by decide)
  case c2 => unfold maxLen; omega
  case c3 => exact Nat.le_refl _
  case c4 =>
    intro w1 hown hgrow
    have hb : Below w.heap.size w w1 := (Below.refl _ _).grown hgrow (Nat.le_refl _) (fun k hk => by cases hk)
    have HO : Hid (OwnR w1 w.heap.size w.heap.size n n (part xs n 0)) := by
      rw [made_zero] at hown
      show Own _ _ _ _ _ _
      unfold Own
      rw [part_len xs n 0 HN.out (Nat.zero_le _), part_zero]
      exact hown
    clear hown hgrow
    go_wp2_with fail
    go_loopw [4] (fun i wr => ∃ k : Nat, k ≤ n ∧ i = .int .i64 k ∧ Below w.heap.size w wr ∧ Hid (OwnR wr w.heap.size w.heap.size n n (part xs n k))) (fun i _ => n - (intOf i).toNat)
    case atStart => exact ⟨0, Nat.zero_le _, rfl, hb, HO⟩
    case round =>
      clear hb HO
      obtain ⟨k, hk, rfl, hb, HO⟩ := hrel
      by_cases hlt : k < n
      · have hx : k < xs.length := by omega
        obtain ⟨b, o, rfl, hbl, hcell0⟩ := hc.out k xs[k] (List.getElem?_eq_getElem hx)
        obtain ⟨q0, q1⟩ := cells (hcell0.below rec hb hbl)
        simp only [rec_n] at q0 q1
        clear hcell0
        have hps := Lib.hid (part_set xs n k HN.out hx)
        generalize xs[k] = X at *
        go_wp2_with fail
        refine (to X _).mono ?_
        rintro e w2 ⟨rfl, hb1⟩
        have HO1 := Lib.hid (HO.out.kept hb1)
        have HPL := Lib.hid (part_len xs n k HN.out hk)
        obtain ⟨p0, p1⟩ := cells (HO1.out.at_ k zero (part_at xs n k HN.out hlt))
        have f0 : ∀ o, w2.frozen? ⟨w.heap.size, o, none⟩ = false := Own.frozen HPL.out HO1.out
        have hb2 := hb.trans (hb1.mono hb.size)
        have HS := Lib.hid (putAll HPL.out HO1.out k zero X (part_at xs n k HN.out hlt))
        rw [hps.out] at HS
        simp only [rec_n] at p0 p1
        clear hb1 q0 q1
        go_wp2_with fail
        go_roundw
        case rel =>
          refine ⟨k + 1, by omega, by go_num, ?_, HS⟩
          exact ((hb2.setCell (Nat.le_refl _) _).setCell (Nat.le_refl _) _)
        case measure => simp [intOf]; omega
      · have hkn : k = n := by omega
        have HS := Lib.hid (show OwnR wr w.heap.size w.heap.size n n xs by
          have := HO.out
          rw [hkn, part_all xs n HN.out] at this
          exact this)
        clear hkn
        go_wp2_with fail
        go_ret
        exact ⟨_, rfl, ⟨_, rfl⟩, HS.out, hb⟩
end Go.Proofs.Ytdjnaoaniokbgaa.LProxy
