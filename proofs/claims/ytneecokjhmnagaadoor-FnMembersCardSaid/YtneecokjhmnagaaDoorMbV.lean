/- FnMembers: what the law compares, and an admitted member expelled again. No condition. -/
import Derived.Test.YtneecokjhmnagaaDoorAdmitMemberC
import Derived.Test.YtneecokjhmnagaaDoorExpelMemberC
import Derived.Test.YtneecokjhmnagaaDoorNumbersByNameC
import Derived.Test.YtneecokjhmnagaaDoorJ1
namespace Go.Proofs.YtneecokjhmnagaaDoor.MbV
open Go.RowKit Bs Mem MemF Sq AdmitMemberC ExpelMemberC
set_option linter.unusedVariables false
theorem num_asc {z : List M} (h : goodB z = true) : ∀ (j i : Nat) (a b : M), i < j → z[i]? = some a → z[j]? = some b → a.num < b.num
  | 0, i, a, b, hij, _, _ => by omega
  | j + 1, i, a, b, hij, ha, hb => by
    have hj := (List.getElem?_eq_some_iff.1 hb).1
    obtain ⟨⟨r, hr, _, hp⟩, _⟩ := (good_of h).2 (j + 1) hj
    rw [hb] at hr
    obtain rfl := Option.some.inj hr
    have hc := List.getElem?_eq_getElem (show j < z.length by omega)
    have h1 := hp _ (by omega) hc
    rcases Nat.lt_or_ge i j with h' | h'
    · have := num_asc h j i a _ h' ha hc
      omega
    · obtain rfl : i = j := by omega
      rw [ha] at hc
      rw [Option.some.inj hc]
      exact h1
theorem own_somed {w : World} {A : Nat} {v : Value} {z : List M} (h : Own LMember.rec 60 w A v z) (hz : 0 < z.length) : ∃ g, v.ownBlock = some g := by
  rcases h.shape with ⟨_, h0⟩ | ⟨g, c, rfl, _⟩
  · rw [h0] at hz; simp at hz
  · exact ⟨g, rfl⟩
theorem gap_le : ∀ (z : List M) (i : Nat), gapN z i ≤ z.length
  | [], i => by unfold gapN; simp
  | x :: t, i => by
    have := gap_le t (i + 1)
    unfold gapN
    split <;> simp <;> omega
/-- what AdmitMember told: the new list is valid and not empty, and without the new member it is the old one -/
theorem admitted {z : List M} {s : ByteArray} {r : List M} {n : Int} (h : AdmitMemberC.Ans z s r n true) :
    goodB r = true ∧ 0 < r.length ∧ r = adm z s ∧ ∀ (y : List M) (b : Bool), ExpelMemberC.Ans r n y b → y = z ∧ b = true := by
  unfold AdmitMemberC.Ans admA at h
  split at h
  · rename_i hz
    split at h
    · rename_i hg
      simp only [Prod.mk.injEq, and_true] at h
      obtain ⟨rfl, rfl⟩ := h
      have hk := gap_le z 0
      obtain ⟨k, hk0⟩ : ∃ k, gapN z 0 = k := ⟨_, rfl⟩
      have ha := adm_at s hk0
      rw [hk0] at hk ⊢
      have hlt : (z.take k).length = k := by rw [List.length_take]; omega
      have hat : (adm z s)[k]? = some (mem k s) := by
        rw [ha, List.append_assoc, List.getElem?_append_right (by omega), hlt, Nat.sub_self]; rfl
      have hidx : idx (adm z s) ((k : Int) + 1) = some k := by
        refine Sq.first_hit (X := mem k s) (fun j x hj hx => ?_) hat (by simp [mem])
        have := num_asc hg k j x (mem k s) hj hx hat
        have h2 : (mem k s).num = (k : Int) + 1 := rfl
        simp only [beq_eq_false_iff_ne]
        omega
      refine ⟨hg, by rw [ha]; simp; omega, rfl, fun y b hy => ?_⟩
      unfold ExpelMemberC.Ans at hy
      rw [exp_yes hg hidx hat rfl] at hy
      simp only [Prod.mk.injEq] at hy
      refine ⟨?_, hy.2.symm⟩
      rw [← hy.1, ha, List.append_assoc, List.take_append_of_le_length (by omega), List.drop_append, hlt]
      rw [List.drop_eq_nil_of_le (by omega), List.take_of_length_le (by omega), Nat.add_sub_cancel_left]
      simp
    · simp at h
  · simp at h
theorem expelled {z : List M} {n : Int} {r : List M} (h : ExpelMemberC.Ans z n r true) : r.length + 1 = z.length := by
  unfold ExpelMemberC.Ans expA at h
  split at h
  · cases hi : idx z n with
    | none => rw [hi] at h; simp [at_] at h
    | some k =>
      obtain ⟨X, hx, _, _⟩ := Sq.idx_some hi
      have hk := (List.getElem?_eq_some_iff.1 hx).1
      rw [hi] at h
      unfold at_ at h
      dsimp only at h
      split at h
      · simp only [Prod.mk.injEq, and_true] at h
        rw [← h]
        simp
        omega
      · simp at h
  · simp at h
theorem told {z : List M} {r : List Int} (h : NumbersByNameC.Ans z r true) : r.length = z.length := by
  unfold NumbersByNameC.Ans at h
  cases hg : goodB z with
  | true => rw [NumbersByNameC.n_yes hg] at h; simp only [Prod.mk.injEq, and_true] at h; rw [← h]; exact NumbersByNameC.nums_len z
  | false => rw [NumbersByNameC.n_no hg] at h; simp at h
theorem rBig (a : Option Addr) (len cap : Nat) (w : World) : Calls Tryd.prog 5 #[.slice a len cap] w fun e w' => e = .returned (.bool (decide ((65536 : Int) < len))) ∧ w = w' := by
  go_enter Tryd.func5, Tryd.ntmps5
  go_wp2_with fail
  go_ret
  exact ⟨rfl, rfl⟩
set_option maxRecDepth 100000 in
set_option maxHeartbeats 800000 in
/-- two slices of the same members -/
theorem rMembers (v v' : Value) (xs : List M) (w : World) (h : Is LMember.rec w v xs) (h' : Is LMember.rec w v' xs) :
    Calls Tryd.prog 9 #[v, v'] w fun e w' => e = .returned (.bool true) ∧ Below w.heap.size w w' := by
  obtain ⟨a, cp, rfl, h⟩ := h
  obtain ⟨a', cp', rfl, h'⟩ := h'
  have hc := h.at_ LMember.rec
  have hc' := h'.at_ LMember.rec
  obtain ⟨n, hn⟩ : ∃ n, n = xs.length := ⟨_, rfl⟩
  have hnb : n ≤ cp := by have := h.1; omega
  have hnb' : n ≤ cp' := by have := h'.1; omega
  have h2 := h.2.1
  have h2' := h'.2.1
  unfold maxLen at h2 h2'
  rw [← hn]
  have hle : n ≤ xs.length := by omega
  clear hn h h'
  have hne : ((n : Int) != (n : Int)) = false := by simp
  go_enter Tryd.func9, Tryd.ntmps9
  go_wp2_with fail
  go_loopw [5] (fun i wr => ∃ k : Nat, k ≤ n ∧ i = .int .i64 k ∧ Below w.heap.size w wr) (fun i _ => n - (intOf i).toNat)
  case atStart => exact ⟨0, Nat.zero_le _, rfl, Below.refl _ _⟩
  case round =>
    obtain ⟨k, hk, rfl, hb⟩ := hrel
    by_cases hlt : k < n
    · have hx : k < xs.length := by omega
      obtain ⟨b, o, rfl, hbl, hcell0⟩ := hc.out k xs[k] (List.getElem?_eq_getElem hx)
      obtain ⟨b', o', rfl, hbl', hcell0'⟩ := hc'.out k xs[k] (List.getElem?_eq_getElem hx)
      obtain ⟨c0, c1, c2⟩ := LMember.cells (hcell0.below LMember.rec hb hbl)
      obtain ⟨d0, d1, d2⟩ := LMember.cells (hcell0'.below LMember.rec hb hbl')
      simp only [LMember.rec_n] at c0 c1 c2 d0 d1 d2
      clear hcell0 hcell0'
      generalize xs[k] = X at *
      have k0 : 0 ≤ (k : Int) := by omega
      have k1 : (k : Int) < (n : Int) := by omega
      go_wp2_with fail
      go_quiet (fail)
      have hb2 : Below w.heap.size w (wr.drewN nq) := hb.trans ((drawn_below _ _).mono hb.size)
      go_wp2_with fail
      go_roundw
      case rel => exact ⟨k + 1, by omega, by go_num, hb2⟩
      case measure => simp [intOf]; omega
    · go_wp2_with fail
      go_ret
      exact ⟨rfl, hb⟩
set_option maxRecDepth 100000 in
set_option maxHeartbeats 800000 in
/-- two slices of the same numbers -/
theorem rInts (v v' : Value) (xs : List Int) (w : World) (h : Is LInt.rec w v xs) (h' : Is LInt.rec w v' xs) :
    Calls Tryd.prog 23 #[v, v'] w fun e w' => e = .returned (.bool true) ∧ Below w.heap.size w w' := by
  obtain ⟨a, cp, rfl, h⟩ := h
  obtain ⟨a', cp', rfl, h'⟩ := h'
  have hc := h.at_ LInt.rec
  have hc' := h'.at_ LInt.rec
  obtain ⟨n, hn⟩ : ∃ n, n = xs.length := ⟨_, rfl⟩
  have hnb : n ≤ cp := by have := h.1; omega
  have hnb' : n ≤ cp' := by have := h'.1; omega
  have h2 := h.2.1
  have h2' := h'.2.1
  unfold maxLen at h2 h2'
  rw [← hn]
  have hle : n ≤ xs.length := by omega
  clear hn h h'
  have hne : ((n : Int) != (n : Int)) = false := by simp
  go_enter Tryd.func23, Tryd.ntmps23
  go_wp2_with fail
  go_loopw [5] (fun i wr => ∃ k : Nat, k ≤ n ∧ i = .int .i64 k ∧ Below w.heap.size w wr) (fun i _ => n - (intOf i).toNat)
  case atStart => exact ⟨0, Nat.zero_le _, rfl, Below.refl _ _⟩
  case round =>
    obtain ⟨k, hk, rfl, hb⟩ := hrel
    by_cases hlt : k < n
    · have hx : k < xs.length := by omega
      obtain ⟨b, o, rfl, hbl, hcell0⟩ := hc.out k xs[k] (List.getElem?_eq_getElem hx)
      obtain ⟨b', o', rfl, hbl', hcell0'⟩ := hc'.out k xs[k] (List.getElem?_eq_getElem hx)
      have c0 := LInt.cells (hcell0.below LInt.rec hb hbl)
      have d0 := LInt.cells (hcell0'.below LInt.rec hb hbl')
      simp only [LInt.rec_n, Nat.mul_one] at c0 d0
      clear hcell0 hcell0'
      generalize xs[k] = X at *
      have k0 : 0 ≤ (k : Int) := by omega
      have k1 : (k : Int) < (n : Int) := by omega
      go_wp2_with fail
      go_quiet (fail)
      have hb2 : Below w.heap.size w (wr.drewN nq) := hb.trans ((drawn_below _ _).mono hb.size)
      go_wp2_with fail
      go_roundw
      case rel => exact ⟨k + 1, by omega, by go_num, hb2⟩
      case measure => simp [intOf]; omega
    · go_wp2_with fail
      go_ret
      exact ⟨rfl, hb⟩
end Go.Proofs.YtneecokjhmnagaaDoor.MbV
