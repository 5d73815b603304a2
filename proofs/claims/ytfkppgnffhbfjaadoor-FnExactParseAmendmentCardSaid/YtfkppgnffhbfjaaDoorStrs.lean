/- Slices of strings in memory: what a law's helpers szStringS, toStringS, eqStringS do with them. -/
import Derived.Test.YtfkppgnffhbfjaaDoorRows
import Derived.Test.YtfkppgnffhbfjaaDoorFrame
import Derived.WalkKit
import Derived.WalkSpells
import Derived.WalkSmall
import Derived.Lib.Hide
import Derived.Deep.QuietTactic
import Derived.BigQuiet
namespace Go.Proofs.YtfkppgnffhbfjaaDoor.Strs
open Go.RowKit

theorem below_drewN (w : World) (k : Nat) : Below w.heap.size w (w.drewN k) := ⟨rfl, rfl, rfl, Nat.le_refl _, fun _ _ => rfl⟩
/-- A slice of strings lies in memory. -/
def StrsAt (w : World) (a : Option Addr) (c : Nat) (xs : List ByteArray) : Prop :=
  xs.length ≤ c ∧ c ≤ maxLen ∧ (xs = [] ∨ ∃ b o, a = some ⟨b, o, none⟩ ∧ b < w.heap.size ∧ ∀ j x, xs[j]? = some x → w.cell? ⟨b, o + j, none⟩ = some (.string x))
theorem StrsAt.below {w w' : World} {a : Option Addr} {c : Nat} {xs : List ByteArray} (h : StrsAt w a c xs) (hb : Below w.heap.size w w') : StrsAt w' a c xs := by
  obtain ⟨h1, h2, h3⟩ := h
  refine ⟨h1, h2, ?_⟩
  rcases h3 with h3 | ⟨b, o, rfl, hlt, hc⟩
  · exact .inl h3
  · refine .inr ⟨b, o, rfl, Nat.lt_of_lt_of_le hlt hb.size, fun j x hx => ?_⟩
    rw [hb.cell (p := ⟨b, o + j, none⟩) hlt]
    exact hc j x hx
theorem cell_lt {w : World} {p : Addr} {v : Value} (h : w.cell? p = some v) : p.block < w.heap.size := by
  rcases Nat.lt_or_ge p.block w.heap.size with h' | h'
  · exact h'
  · simp [World.cell?, Array.getElem?_eq_none h'] at h
/-- A slice of strings that came in lies in memory. -/
theorem strsAt_of {w : World} {a : Option Addr} {len cap : Nat} {zs : List ByteArray} (h : Frame.IsStrs w a len cap zs) : (zs.take len).length = len ∧ StrsAt w a cap (zs.take len) := by
  rcases h with ⟨rfl, rfl, rfl, rfl⟩ | ⟨x, rfl, h1, h2, h3, h4, h5⟩
  · exact ⟨rfl, Nat.le_refl _, Nat.zero_le _, .inl rfl⟩
  · have hl : (zs.take len).length = len := by rw [List.length_take]; omega
    refine ⟨hl, by rw [hl]; exact h1, h2, ?_⟩
    by_cases h0 : len = 0
    · subst h0; exact .inl rfl
    · obtain ⟨b, off, spot⟩ := x
      have hspot : spot = none := by simpa [Addr.add] using World.cell?_spot (h4 0 (by omega))
      subst hspot
      refine .inr ⟨b, off, rfl, cell_lt (h4 0 (by omega)), fun j x hx => ?_⟩
      have hj : j < len := by
        rcases Nat.lt_or_ge j len with h' | h'
        · exact h'
        · rw [List.getElem?_eq_none (by rw [hl]; exact h')] at hx; cases hx
      rw [List.getElem?_take, if_pos hj] at hx
      have := h4 j (by omega)
      rw [List.getD_eq_getElem?_getD, hx] at this
      rw [← Go.WideShapes.add_plain]
      exact this
/-- A row of strings of the call's own is a slice of strings in memory. -/
theorem strs_of_owns {w : World} {base g n cap : Nat} {xs : List ByteArray} (hn : xs.length = n) (h : w.ownsRow base 9 1 (.slice (some ⟨g, 0, none⟩) n cap) n (xs.map Value.string)) : StrsAt w (some ⟨g, 0, none⟩) cap xs := by
  have hb := h.lt g rfl
  rcases h.2 with ⟨h', _⟩ | ⟨g', cap', cur, h', _, _, hnc, hcm, _, _⟩
  · simp at h'
  · simp only [Value.slice.injEq, Option.some.injEq, Addr.mk.injEq, and_true, true_and] at h'
    obtain ⟨rfl, rfl⟩ := h'
    refine ⟨by omega, hcm, .inr ⟨g, 0, rfl, hb.2, fun j x hx => ?_⟩⟩
    have hj : j < n := by
      rcases Nat.lt_or_ge j n with h' | h'
      · exact h'
      · rw [List.getElem?_eq_none (by omega)] at hx; cases hx
    rw [Nat.zero_add, h.cellAt j (by omega), List.getElem?_map, hx]
    rfl
def tot (xs : List ByteArray) : Nat := (xs.map ByteArray.size).sum
theorem tot_next (xs : List ByteArray) (k : Nat) (h : k < xs.length) : tot (xs.take (k + 1)) = tot (xs.take k) + (xs[k]).size := by
  rw [List.take_succ_eq_append_getElem h]; unfold tot; rw [List.map_append, List.sum_append]; simp
theorem tot_take_le (xs : List ByteArray) (k : Nat) : tot (xs.take k) ≤ tot xs := by
  have := congrArg tot (List.take_append_drop k xs)
  have e : ∀ a b : List ByteArray, tot (a ++ b) = tot a + tot b := fun a b => by simp [tot]
  rw [e] at this
  omega
theorem mem_le (xs : List ByteArray) (x : ByteArray) (h : x ∈ xs) : x.size ≤ tot xs := by
  induction xs with
  | nil => cases h
  | cons y ys ih =>
    simp only [tot, List.map_cons, List.sum_cons] at ih ⊢
    rcases List.mem_cons.1 h with rfl | h
    · omega
    · have := ih h; omega

def Small (n : Nat) (xs : List ByteArray) : Prop := n + tot xs ≤ 1048576
def SZ (n : Nat) (xs : List ByteArray) (w : World) (e : Ending) (w' : World) : Prop := w = w' ∧ ∃ r : Int, e = .returned (.int .i64 r) ∧ ((r < 0 ∧ ¬ Small n xs) ∨ (0 ≤ r ∧ r ≤ 1048576 ∧ Small n xs))

set_option maxHeartbeats 400000 in
theorem szStringS (a : Option Addr) (n cp : Nat) (xs : List ByteArray) (w : World) (hn : xs.length = n) (h : StrsAt w a cp xs) (hsm : ∀ x ∈ xs, x.size ≤ maxLen) :
    Calls Tryd.prog 14 #[.slice a n cp, .int .i64 1048576] w (SZ n xs w) := by
  obtain ⟨h1, h2, h3⟩ := h
  unfold maxLen at h2 hsm
  have HN := Lib.hid hn
  have HSM := Lib.hid hsm
  have hnb : n ≤ cp := by omega
  clear hn hsm h1
  by_cases hbig : 1048576 < n
  · clear h3
    go_enter Tryd.func14, Tryd.ntmps14
    go_wp2_with fail
    go_ret
    exact ⟨rfl, -1, rfl, .inl ⟨by omega, by unfold Small; omega⟩⟩
  · have hc : Hid (∀ j x, xs[j]? = some x → ∃ b o, a = some ⟨b, o, none⟩ ∧ w.cell? ⟨b, o + j, none⟩ = some (.string x)) := by
      intro j x hx
      rcases h3 with rfl | ⟨b, o, rfl, _, hc⟩
      · simp at hx
      · exact ⟨b, o, rfl, hc j x hx⟩
    clear h3
    go_enter Tryd.func14, Tryd.ntmps14
    go_wp2_with fail
    go_loop [1, 5] (fun l i => ∃ k T : Nat, k ≤ n ∧ i = .int .i64 k ∧ l = .int .i64 (1048576 - (n : Int) - T) ∧ n + T ≤ 1048576 ∧ Hid (T = tot (xs.take k))) (fun _ i => n - (intOf i).toNat)
    case atStart => exact ⟨0, 0, Nat.zero_le _, rfl, by simp, by omega, rfl⟩
    case round =>
      obtain ⟨k, T, hk, rfl, rfl, hT, HT⟩ := hrel
      by_cases hlt : k < n
      · have hx : k < xs.length := by rw [HN.out]; exact hlt
        obtain ⟨b, o, rfl, hcell⟩ := hc.out k xs[k] (List.getElem?_eq_getElem hx)
        have hxs := HSM.out xs[k] (List.getElem_mem hx)
        have HTN := Lib.hid (tot_next xs k hx)
        by_cases hb2 : 1048576 < n + (T + (xs[k]).size)
        · have HB := Lib.hid (show ¬ Small n xs by
            have h1 := tot_take_le xs (k + 1)
            rw [HTN.out, ← HT.out] at h1
            unfold Small
            omega)
          generalize xs[k] = X at *
          go_wp2_with fail
          go_ret
          exact ⟨rfl, -1, rfl, .inl ⟨by omega, HB.out⟩⟩
        · generalize xs[k] = X at *
          go_wp2_with fail
          go_round
          case rel => exact ⟨k + 1, T + X.size, by omega, by go_num, by go_num, by omega, by show _ = _; rw [HTN.out, ← HT.out]⟩
          case measure => simp [intOf]; omega
      · have hkn : xs.take k = xs := List.take_of_length_le (by rw [HN.out]; omega)
        have HF := Lib.hid (show Small n xs by unfold Small; rw [← hkn, ← HT.out]; exact hT)
        clear hkn
        go_wp2_with fail
        go_ret
        exact ⟨rfl, _, rfl, .inr ⟨by omega, by omega, HF.out⟩⟩

theorem infoStr : (Tryd.prog.info? 9).map (fun i => (i.zero, i.size, i.bytes)) = some (some (.string ⟨#[]⟩), 1, 16) := by kernel_rfl
/-- what a copy holds after k stores -/
def part (xs : List ByteArray) (n k : Nat) : List Value := (xs.take k).map Value.string ++ List.replicate (n - k) (.string ⟨#[]⟩)
theorem part_zero (xs : List ByteArray) (n : Nat) : part xs n 0 = List.replicate n (.string ⟨#[]⟩) := by simp [part]
theorem part_all (xs : List ByteArray) (n : Nat) (h : xs.length = n) : part xs n n = xs.map Value.string := by
  unfold part; rw [List.take_of_length_le (by omega), Nat.sub_self]; simp
theorem part_set (xs : List ByteArray) (n k : Nat) (h : xs.length = n) (hk : k < xs.length) : (part xs n k).set k (.string xs[k]) = part xs n (k + 1) := by
  unfold part
  have hl : ((xs.take k).map Value.string).length = k := by rw [List.length_map, List.length_take]; omega
  rw [List.set_append_right _ _ (by omega), hl, Nat.sub_self]
  have e : n - k = (n - (k + 1)) + 1 := by omega
  rw [e, List.replicate_succ, List.set_cons_zero, List.take_succ_eq_append_getElem hk, List.map_append, List.append_assoc]
  rfl
theorem part_at (xs : List ByteArray) (n k : Nat) (h : xs.length = n) (hk : k < n) : (part xs n k)[k]? = some (.string ⟨#[]⟩) := by
  unfold part
  have hl : ((xs.take k).map Value.string).length = k := by rw [List.length_map, List.length_take]; omega
  rw [List.getElem?_append_right (by omega), hl, Nat.sub_self, List.getElem?_replicate, if_pos (by omega)]

def Copied (w : World) (n : Nat) (xs : List ByteArray) (e : Ending) (w' : World) : Prop :=
  e = .returned (.slice (some ⟨w.heap.size, 0, none⟩) n n) ∧ StrsAt w' (some ⟨w.heap.size, 0, none⟩) n xs ∧ Below w.heap.size w w'

set_option maxHeartbeats 400000 in
theorem toStringS (a : Option Addr) (n cp : Nat) (xs : List ByteArray) (w : World) (hn : xs.length = n) (h : StrsAt w a cp xs) (hb0 : n ≤ 1048576) :
    Calls Tryd.prog 17 #[.slice a n cp] w (Copied w n xs) := by
  obtain ⟨i0, hi, hz0, hz1, hz2⟩ := info_parts infoStr
  have HI := Lib.hid hi
  have HZ := Lib.hid (And.intro hz0 (And.intro hz1 hz2))
  obtain ⟨h1, h2, h3⟩ := h
  unfold maxLen at h2
  have HN := Lib.hid hn
  have hnb : n ≤ cp := by omega
  have hc : Hid (∀ j x, xs[j]? = some x → ∃ b o, a = some ⟨b, o, none⟩ ∧ b < w.heap.size ∧ w.cell? ⟨b, o + j, none⟩ = some (.string x)) := by
    intro j x hx
    rcases h3 with rfl | ⟨b, o, rfl, hl, hc⟩
    · simp at hx
    · exact ⟨b, o, rfl, hl, hc j x hx⟩
  clear hi hz0 hz1 hz2 hn h1 h3
  go_enter Tryd.func17, Tryd.ntmps17
  go_wp2_with (at_make; refine wpList_make_full _ rfl (.tmp 6) (.tmp 6) 22 rfl w.heap.size 9 i0 (.string ⟨#[]⟩) 1 Tryd.underlying22 HI.out HZ.out.1 HZ.out.2.1 .i64 .i64 _ _ n rfl rfl rfl rfl ?c1 ?c2 ?c3 ?c4)
  case c1 => rw [HZ.out.2.2]; omega
  case c2 => unfold maxLen; omega
  case c3 => exact Nat.le_refl _
  case c4 =>
    intro w1 hown hgrow
    have hb : Below w.heap.size w w1 := (Below.refl _ _).grown hgrow (Nat.le_refl _) (fun k hk => by cases hk)
    have HO : Hid (w1.ownsRow w.heap.size 9 1 (.slice (some ⟨w.heap.size, 0, none⟩) n n) n (part xs n 0)) := by
      rw [part_zero, ← toList_madeCells_one]
      refine Lib.hid ?_
      simpa using hown
    clear hown hgrow
    go_wp2_with fail
    go_loopw [4] (fun i wr => ∃ k : Nat, k ≤ n ∧ i = .int .i64 k ∧ Below w.heap.size w wr ∧ Hid (wr.ownsRow w.heap.size 9 1 (.slice (some ⟨w.heap.size, 0, none⟩) n n) n (part xs n k))) (fun i _ => n - (intOf i).toNat)
    case atStart => exact ⟨0, Nat.zero_le _, rfl, hb, HO⟩
    case round =>
      clear hb HO
      obtain ⟨k, hk, rfl, hb, HO⟩ := hrel
      by_cases hlt : k < n
      · have hx : k < xs.length := by rw [HN.out]; exact hlt
        obtain ⟨b, o, rfl, hbl, hcell0⟩ := hc.out k xs[k] (List.getElem?_eq_getElem hx)
        have hcell : wr.cell? ⟨b, o + k, none⟩ = some (.string xs[k]) := by rw [hb.cell (p := ⟨b, o + k, none⟩) hbl]; exact hcell0
        have hold : wr.cell? ⟨w.heap.size, k, none⟩ = some (.string ⟨#[]⟩) := by rw [HO.out.cellAt k (by omega), part_at xs n k HN.out hlt]
        have hfr : wr.frozen? ⟨w.heap.size, k, none⟩ = false := HO.out.frozenAt k
        have HS := Lib.hid (HO.out.stored k (.string xs[k])).1
        rw [part_set xs n k HN.out hx] at HS
        generalize xs[k] = X at *
        clear hcell0
        go_wp2_with fail
        go_roundw
        case rel => exact ⟨k + 1, by omega, by go_num, hb.setCell (Nat.le_refl _) _, HS⟩
        case measure => simp [intOf]; omega
      · have hkn : k = n := by omega
        have HS := Lib.hid (show StrsAt wr (some ⟨w.heap.size, 0, none⟩) n xs by
          have := HO.out
          rw [hkn, part_all xs n HN.out] at this
          exact strs_of_owns HN.out this)
        clear hkn
        go_wp2_with fail
        go_ret
        exact ⟨rfl, HS.out, hb⟩

set_option maxHeartbeats 400000 in
/-- two slices of the same strings -/
theorem eqStringS (a a' : Option Addr) (n cp cp' : Nat) (xs : List ByteArray) (w : World) (hn : xs.length = n) (h : StrsAt w a cp xs) (h' : StrsAt w a' cp' xs) :
    Calls Tryd.prog 22 #[.slice a n cp, .slice a' n cp'] w fun e w' => e = .returned (.bool true) ∧ Below w.heap.size w w' := by
  obtain ⟨h1, h2, h3⟩ := h
  obtain ⟨h1', h2', h3'⟩ := h'
  unfold maxLen at h2 h2'
  have HN := Lib.hid hn
  have hnb : n ≤ cp := by omega
  have hnb' : n ≤ cp' := by omega
  have hc : Hid (∀ j x, xs[j]? = some x → ∃ b o, a = some ⟨b, o, none⟩ ∧ b < w.heap.size ∧ w.cell? ⟨b, o + j, none⟩ = some (.string x)) := by
    intro j x hx
    rcases h3 with rfl | ⟨b, o, rfl, hl, hc⟩
    · simp at hx
    · exact ⟨b, o, rfl, hl, hc j x hx⟩
  have hc' : Hid (∀ j x, xs[j]? = some x → ∃ b o, a' = some ⟨b, o, none⟩ ∧ b < w.heap.size ∧ w.cell? ⟨b, o + j, none⟩ = some (.string x)) := by
    intro j x hx
    rcases h3' with rfl | ⟨b, o, rfl, hl, hc⟩
    · simp at hx
    · exact ⟨b, o, rfl, hl, hc j x hx⟩
  clear hn h1 h1' h3 h3'
  have hne : ((n : Int) != (n : Int)) = false := by simp
  go_enter Tryd.func22, Tryd.ntmps22
  go_wp2_with fail
  go_loopw [5] (fun i wr => ∃ k : Nat, k ≤ n ∧ i = .int .i64 k ∧ Below w.heap.size w wr) (fun i _ => n - (intOf i).toNat)
  case atStart => exact ⟨0, Nat.zero_le _, rfl, Below.refl _ _⟩
  case round =>
    obtain ⟨k, hk, rfl, hb⟩ := hrel
    by_cases hlt : k < n
    · have hx : k < xs.length := by rw [HN.out]; exact hlt
      obtain ⟨b, o, rfl, hbl, hcell0⟩ := hc.out k xs[k] (List.getElem?_eq_getElem hx)
      obtain ⟨b', o', rfl, hbl', hcell0'⟩ := hc'.out k xs[k] (List.getElem?_eq_getElem hx)
      have hcell : wr.cell? ⟨b, o + k, none⟩ = some (.string xs[k]) := by rw [hb.cell (p := ⟨b, o + k, none⟩) hbl]; exact hcell0
      have hcell' : wr.cell? ⟨b', o' + k, none⟩ = some (.string xs[k]) := by rw [hb.cell (p := ⟨b', o' + k, none⟩) hbl']; exact hcell0'
      generalize xs[k] = X at *
      clear hcell0 hcell0'
      have k0 : 0 ≤ (k : Int) := by omega
      have k1 : (k : Int) < (n : Int) := by omega
      go_wp2_with fail
      go_quiet (fail)
      have hb2 : Below w.heap.size w (wr.drewN nq) := hb.trans ⟨rfl, rfl, rfl, Nat.le_refl _, fun _ _ => rfl⟩
      go_wp2_with fail
      go_roundw
      case rel => exact ⟨k + 1, by omega, by go_num, hb2⟩
      case measure => simp [intOf]; omega
    · go_wp2_with fail
      go_ret
      exact ⟨rfl, hb⟩
end Go.Proofs.YtfkppgnffhbfjaaDoor.Strs
