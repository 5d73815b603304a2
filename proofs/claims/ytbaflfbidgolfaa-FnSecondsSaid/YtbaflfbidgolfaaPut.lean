/- spec.l1Put: a number put to its place in an ascending list, once. No condition but the length. -/
import Derived.Test.YtbaflfbidgolfaaAsc
import Derived.Test.YtbaflfbidgolfaaData
import Derived.Deep.DeepCutAuto
namespace Go.Proofs.Ytbaflfbidgolfaa.Put
open Go.RowKit Bs Word AscM IntF
set_option linter.unusedVariables false
set_option maxRecDepth 100000 in
set_option maxHeartbeats 1600000 in
theorem putHas (v0 : Value) (z0 : List Int) (a1 : Int) (w : World) (h0 : IsS LInt.rec w v0 z0) (hz : Asc z0) (ha : a1 ∈ z0) (l0 : z0.length ≤ 1048576) :
    Calls Try.prog 93 #[v0, .int .i64 a1] w fun e w' => e = .returned v0 ∧ w = w' := by
  obtain ⟨b, o, cp, rfl, hbl, hxc, hcm, hcell⟩ := h0
  have HZ := Lib.hid hz
  have HC := Lib.hid hcell
  obtain ⟨n, hn⟩ : ∃ n, n = z0.length := ⟨_, rfl⟩
  have HN := Lib.hid hn.symm
  obtain ⟨t, ht, hta⟩ := List.getElem_of_mem ha
  have HT := Lib.hid (show z0[t]? = some a1 by rw [List.getElem?_eq_getElem ht, hta])
  rw [← hn] at hxc l0 ht ⊢
  unfold maxLen at hcm
  clear hn hcell hz ha hta
  go_enter Try.func93, Try.ntmps93
  go_wp2_with fail
  go_loop [5] (fun i => ∃ k : Nat, k ≤ t ∧ i = .int .i64 k) (fun i => t - (intOf i).toNat)
  case atStart => exact ⟨0, Nat.zero_le _, rfl⟩
  case round =>
    obtain ⟨k, hk, rfl⟩ := hrel
    have k0 : 0 ≤ (k : Int) := by omega
    have hx : k < z0.length := by have := HN.out; omega
    have HX := Lib.hid (List.getElem?_eq_getElem hx)
    have q0 := LInt.cells (HC.out k _ HX.out)
    simp only [LInt.rec_n, Nat.mul_one] at q0
    have k1 : (k : Int) < (n : Int) := by omega
    have hd : decide ((k : Int) < (n : Int)) = true := by simp; omega
    have hd2 : decide (k < n) = true := by simp; omega
    generalize z0[k] = X at *
    by_cases hlt : k < t
    · have hlt2 : X < a1 := asc_lt HZ.out hlt HX.out HT.out
      have hd3 : decide (X < a1) = true := decide_eq_true hlt2
      go_wp2_with fail
      go_round
      case rel => exact ⟨k + 1, by omega, by go_num⟩
      case measure => simp [intOf]; omega
    · obtain rfl : k = t := by omega
      obtain rfl : X = a1 := Option.some.inj (HX.out.symm.trans HT.out)
      have hd3 : decide (X < X) = false := decide_eq_false (by omega)
      have hd4 : (X == X) = true := by simp
      go_wp2_with fail
      go_ret
      exact ⟨rfl, rfl⟩
set_option maxRecDepth 100000 in
set_option maxHeartbeats 3200000 in
theorem l1Put (v0 : Value) (z0 : List Int) (a1 : Int) (w : World) (h0 : IsS LInt.rec w v0 z0) (hz : Asc z0) (ha : a1 ∉ z0) (l0 : z0.length ≤ 1048576) :
    Calls Try.prog 93 #[v0, .int .i64 a1] w fun e w' => ∃ u r, e = .returned u ∧ Asc r ∧ (∀ m, m ∈ r ↔ m = a1 ∨ m ∈ z0) ∧ Own LInt.rec 3 w' w.heap.size u r ∧ (∃ g, u.ownBlock = some g) ∧ Below w.heap.size w w' := by
  have HIS0 := h0
  obtain ⟨b, o, cp, rfl, hbl, hxc, hcm, hcell⟩ := h0
  have HIS := Lib.hid HIS0
  have HZ := Lib.hid hz
  have HA := Lib.hid ha
  have HC := Lib.hid hcell
  obtain ⟨n, hn⟩ : ∃ n, n = z0.length := ⟨_, rfl⟩
  have HN := Lib.hid hn.symm
  rw [← hn] at HIS hxc l0 ⊢
  unfold maxLen at hcm
  clear hn HIS0 hcell hz ha
  obtain ⟨i0, hi, hz0, hz1, hz2⟩ := info_parts LInt.infoK
  have HI0 := Lib.hid hi
  have HZ0 := Lib.hid (And.intro hz0 (And.intro hz1 hz2))
  clear hi hz0 hz1 hz2
  go_enter Try.func93, Try.ntmps93
  go_wp2_with fail
  go_loop [5] (fun i => ∃ k : Nat, k ≤ n ∧ i = .int .i64 k ∧ Hid (∀ (j : Nat) (y : Int), j < k → z0[j]? = some y → y < a1)) (fun i => n - (intOf i).toNat)
  case atStart => exact ⟨0, Nat.zero_le _, rfl, Lib.hid (fun j y hj => by omega)⟩
  case round =>
    obtain ⟨k, hk, rfl, HL⟩ := hrel
    have k0 : 0 ≤ (k : Int) := by omega
    by_cases hlt : k < n
    · have hx : k < z0.length := by have := HN.out; omega
      have HX := Lib.hid (List.getElem?_eq_getElem hx)
      have q0 := LInt.cells (HC.out k _ HX.out)
      simp only [LInt.rec_n, Nat.mul_one] at q0
      have k1 : (k : Int) < (n : Int) := by omega
      have hd : decide ((k : Int) < (n : Int)) = true := by simp; omega
      have hd2 : decide (k < n) = true := by simp; omega
      have HM := Lib.hid (List.getElem_mem hx)
      generalize z0[k] = X at *
      by_cases hlt2 : X < a1
      · have HL2 := Lib.hid (low_next HL.out HX.out hlt2)
        have hd3 : decide (X < a1) = true := decide_eq_true hlt2
        go_wp2_with fail
        go_round
        case rel => exact ⟨k + 1, by omega, by go_num, HL2⟩
        case measure => simp [intOf]; omega
      · have hne : X ≠ a1 := fun e => HA.out (by rw [← e]; exact HM.out)
        have HI := Lib.hid (pos_at HZ.out HL.out HX.out (by omega))
        have hd3 : decide (X < a1) = false := decide_eq_false hlt2
        have hd4 : (X == a1) = false := by simpa using hne
        clear hlt2 hne
        go_wp2_with fail
        have HS1 := Lib.hid (show ∀ w' : World, Below w.heap.size w w' → ∀ j u, (flat LInt.rec (z0.take k))[j]? = some u → w'.cell? (Addr.add ⟨b, o, none⟩ j) = some u from fun w' hb =>
          ((HIS.out.below LInt.rec hb).take LInt.rec (k := k) (by omega)).flatCells LInt.rec)
        have HS2 := Lib.hid (show ∀ w' : World, Below w.heap.size w w' → ∀ j u, (flat LInt.rec (z0.drop k))[j]? = some u → w'.cell? (Addr.add (if cp = k then ⟨b, o, none⟩ else ⟨b, o + k, none⟩) j) = some u from fun w' hb => by
          have h := (HIS.out.below LInt.rec hb).drop LInt.rec (k := k) _ rfl (by omega) _ _ rfl rfl
          simp only [LInt.rec_n, Nat.mul_one] at h
          by_cases hck : cp = k
          · simp only [if_pos hck] at h ⊢; exact h.flatCells LInt.rec
          · simp only [if_neg hck] at h ⊢; exact h.flatCells LInt.rec)
        have HK := Lib.hid (show ∀ w' : World, Below w.heap.size w w' → Below w.heap.size w w' from fun w' hb => hb)
        have s1 : (k : Int) ≤ (n : Int) := by omega
        have s2 : (n : Int) ≤ (cp : Int) := by omega
        have s3 : (k : Int) ≤ (cp : Int) := by omega
        go_region_held3 (fun w' => Below w.heap.size w w') ((refine HK.out _ ?_; (repeat (first | assumption | exact Below.refl _ _ | refine Below.drew ?_ | refine Below.alloc ?_ (by first | (simp; done) | (simp; omega) | omega) _)))) (first | (refine step_append (by rfl) (.tmp 33) (.tmp 36) 34 (by rfl) w.heap.size 3 i0 (.int .i64 0) 1 8 Try.underlying34 HI0.out HZ0.out.1 HZ0.out.2.1 HZ0.out.2.2 rfl (by decide) _ (0) ([]) (by rfl) (by first | exact LInt.startB (heap_alloc_new _ _) (by first | (simp; done) | (simp; omega) | omega) | exact LInt.startB (alloc_old _ _ _) (by first | (simp; done) | (simp; omega) | omega) | exact LInt.startB (alloc_two _ _ _) (by first | (simp; done) | (simp; omega) | omega)) (⟨b, o, none⟩) (k) (cp) (flat LInt.rec (z0.take k)) (by rfl) (by rw [flat_len, LInt.rec_n]; rw [List.length_take]; have := HN.out; omega) (fun j u hu => HS1.out _ (by (repeat (first | assumption | exact Below.refl _ _ | refine Below.drew ?_ | refine Below.alloc ?_ (by first | (simp; done) | (simp; omega) | omega) _))) j u hu) (flat_one _ _) (by unfold maxLen; omega) (by omega) (by first | (simp; done) | (simp; omega) | omega) ?_; intro v1 w1 hown1 hgrow1; replace hown1 := own_in hown1; have hB1 : Below w.heap.size w w1 := Below.grown (by (repeat (first | assumption | exact Below.refl _ _ | refine Below.drew ?_ | refine Below.alloc ?_ (by first | (simp; done) | (simp; omega) | omega) _))) hgrow1 (by first | (simp; done) | (simp; omega) | omega) (fun j hj => own_ge hj (by simp)); have hz1 := hB1.size; (first | have hr1 : w1.heap[w.heap.size]? = some (Obj.cells #[.int .i64 a1] 3) := (hgrow1.block _ (by simp; omega) (show some w.heap.size ≠ some (w.heap.size + 1) from fun e => absurd (Option.some.inj e) (by omega))).trans (alloc_old _ _ _) | have hr1 : w1.heap[w.heap.size + 1]? = some (Obj.cells #[.int .i64 a1] 3) := (hgrow1.block _ (by simp) (show some (w.heap.size + 1) ≠ some w.heap.size from fun e => absurd (Option.some.inj e) (by omega))).trans (alloc_two _ _ _) | skip); clear hgrow1) | (refine step_append (by rfl) (.tmp 37) (.tmp 39) 34 (by rfl) w.heap.size 3 i0 (.int .i64 0) 1 8 Try.underlying34 HI0.out HZ0.out.1 HZ0.out.2.1 HZ0.out.2.2 rfl (by decide) v1 (k) ((flat LInt.rec (z0.take k))) (by rfl) (by first | exact hown1 | exact hown1.alloc _) _ 1 1 [.int .i64 a1] (by rfl) (by rfl) (by first | exact World.news_of_block (heap_alloc_new _ _) | exact World.news_of_block hr1) (by intro u hu; simp at hu; subst hu; rfl) (by unfold maxLen; omega) (by omega) (by first | (simp; done) | (simp; omega) | omega) ?_; intro v2 w2 hown2 hgrow2; have hB2 : Below w.heap.size w w2 := Below.grown (by (repeat (first | assumption | exact Below.refl _ _ | refine Below.drew ?_ | refine Below.alloc ?_ (by first | (simp; done) | (simp; omega) | omega) _))) hgrow2 (by first | (simp; done) | (simp; omega) | omega) (fun j hj => (hown1.lt j hj).1); have hz2 := hB2.size; clear hgrow2) | (refine step_append (by rfl) (.tmp 40) (.tmp 43) 34 (by rfl) w.heap.size 3 i0 (.int .i64 0) 1 8 Try.underlying34 HI0.out HZ0.out.1 HZ0.out.2.1 HZ0.out.2.2 rfl (by decide) v2 (k + 1) ((flat LInt.rec (z0.take k)) ++ [.int .i64 a1]) (by rfl) (by first | exact hown2 | exact hown2.alloc _) (if cp = k then ⟨b, o, none⟩ else ⟨b, o + k, none⟩) (n - k) (cp - k) (flat LInt.rec (z0.drop k)) (by exact ite_slice _ _ _ _ _) (by rw [flat_len, LInt.rec_n]; rw [List.length_drop]; have := HN.out; omega) (fun j u hu => HS2.out _ (by (repeat (first | assumption | exact Below.refl _ _ | refine Below.drew ?_ | refine Below.alloc ?_ (by first | (simp; done) | (simp; omega) | omega) _))) j u hu) (flat_one _ _) (by unfold maxLen; omega) (by omega) (by first | (simp; done) | (simp; omega) | omega) ?_; intro v3 w3 hown3 hgrow3; have hB3 : Below w.heap.size w w3 := Below.grown (by (repeat (first | assumption | exact Below.refl _ _ | refine Below.drew ?_ | refine Below.alloc ?_ (by first | (simp; done) | (simp; omega) | omega) _))) hgrow3 (by first | (simp; done) | (simp; omega) | omega) (fun j hj => (hown2.lt j hj).1); have hz3 := hB3.size; clear hgrow3) | fail)
        all_goals
          have HO := Lib.hid (show Own LInt.rec 3 w3 w.heap.size v3 (z0.take k ++ [a1] ++ z0.drop k) from own_of LInt.rec hown3 (by have := HN.out; simp; omega) (by rw [flat_append, flat_append]; rfl))
          have hnn : ∃ g, v3.ownBlock = some g := by
            rcases hown3.2 with ⟨h', hz⟩ | ⟨g, cap, cur, h', _⟩
            · omega
            · exact ⟨g, by rw [h']; rfl⟩
          have HNN := Lib.hid hnn
          clear hown1 hown2 hown3 hB1 hB2 hz1 hz2 hz3 HK HS1 HS2 hnn
          go_wp2_with fail
          all_goals
            go_ret
            exact ⟨_, rfl, _, ins_asc HZ.out HI.out, fun m => ins_mem, HO.out, HNN.out, hB3⟩
    · have hd : decide ((k : Int) < (n : Int)) = false := by simp; omega
      have hd2 : decide (k < n) = false := by simp; omega
      have HI := Lib.hid (pos_end HL.out (show z0.length ≤ k by have := HN.out; omega))
      go_wp2_with fail
      have HS1 := Lib.hid (show ∀ w' : World, Below w.heap.size w w' → ∀ j u, (flat LInt.rec (z0.take k))[j]? = some u → w'.cell? (Addr.add ⟨b, o, none⟩ j) = some u from fun w' hb =>
        ((HIS.out.below LInt.rec hb).take LInt.rec (k := k) (by omega)).flatCells LInt.rec)
      have HS2 := Lib.hid (show ∀ w' : World, Below w.heap.size w w' → ∀ j u, (flat LInt.rec (z0.drop k))[j]? = some u → w'.cell? (Addr.add (if cp = k then ⟨b, o, none⟩ else ⟨b, o + k, none⟩) j) = some u from fun w' hb => by
        have h := (HIS.out.below LInt.rec hb).drop LInt.rec (k := k) _ rfl (by omega) _ _ rfl rfl
        simp only [LInt.rec_n, Nat.mul_one] at h
        by_cases hck : cp = k
        · simp only [if_pos hck] at h ⊢; exact h.flatCells LInt.rec
        · simp only [if_neg hck] at h ⊢; exact h.flatCells LInt.rec)
      have HK := Lib.hid (show ∀ w' : World, Below w.heap.size w w' → Below w.heap.size w w' from fun w' hb => hb)
      have s1 : (k : Int) ≤ (n : Int) := by omega
      have s2 : (n : Int) ≤ (cp : Int) := by omega
      have s3 : (k : Int) ≤ (cp : Int) := by omega
      go_region_held3 (fun w' => Below w.heap.size w w') ((refine HK.out _ ?_; (repeat (first | assumption | exact Below.refl _ _ | refine Below.drew ?_ | refine Below.alloc ?_ (by first | (simp; done) | (simp; omega) | omega) _)))) (first | (refine step_append (by rfl) (.tmp 33) (.tmp 36) 34 (by rfl) w.heap.size 3 i0 (.int .i64 0) 1 8 Try.underlying34 HI0.out HZ0.out.1 HZ0.out.2.1 HZ0.out.2.2 rfl (by decide) _ (0) ([]) (by rfl) (by first | exact LInt.startB (heap_alloc_new _ _) (by first | (simp; done) | (simp; omega) | omega) | exact LInt.startB (alloc_old _ _ _) (by first | (simp; done) | (simp; omega) | omega) | exact LInt.startB (alloc_two _ _ _) (by first | (simp; done) | (simp; omega) | omega)) (⟨b, o, none⟩) (k) (cp) (flat LInt.rec (z0.take k)) (by rfl) (by rw [flat_len, LInt.rec_n]; rw [List.length_take]; have := HN.out; omega) (fun j u hu => HS1.out _ (by (repeat (first | assumption | exact Below.refl _ _ | refine Below.drew ?_ | refine Below.alloc ?_ (by first | (simp; done) | (simp; omega) | omega) _))) j u hu) (flat_one _ _) (by unfold maxLen; omega) (by omega) (by first | (simp; done) | (simp; omega) | omega) ?_; intro v1 w1 hown1 hgrow1; replace hown1 := own_in hown1; have hB1 : Below w.heap.size w w1 := Below.grown (by (repeat (first | assumption | exact Below.refl _ _ | refine Below.drew ?_ | refine Below.alloc ?_ (by first | (simp; done) | (simp; omega) | omega) _))) hgrow1 (by first | (simp; done) | (simp; omega) | omega) (fun j hj => own_ge hj (by simp)); have hz1 := hB1.size; (first | have hr1 : w1.heap[w.heap.size]? = some (Obj.cells #[.int .i64 a1] 3) := (hgrow1.block _ (by simp; omega) (show some w.heap.size ≠ some (w.heap.size + 1) from fun e => absurd (Option.some.inj e) (by omega))).trans (alloc_old _ _ _) | have hr1 : w1.heap[w.heap.size + 1]? = some (Obj.cells #[.int .i64 a1] 3) := (hgrow1.block _ (by simp) (show some (w.heap.size + 1) ≠ some w.heap.size from fun e => absurd (Option.some.inj e) (by omega))).trans (alloc_two _ _ _) | skip); clear hgrow1) | (refine step_append (by rfl) (.tmp 37) (.tmp 39) 34 (by rfl) w.heap.size 3 i0 (.int .i64 0) 1 8 Try.underlying34 HI0.out HZ0.out.1 HZ0.out.2.1 HZ0.out.2.2 rfl (by decide) v1 (k) ((flat LInt.rec (z0.take k))) (by rfl) (by first | exact hown1 | exact hown1.alloc _) _ 1 1 [.int .i64 a1] (by rfl) (by rfl) (by first | exact World.news_of_block (heap_alloc_new _ _) | exact World.news_of_block hr1) (by intro u hu; simp at hu; subst hu; rfl) (by unfold maxLen; omega) (by omega) (by first | (simp; done) | (simp; omega) | omega) ?_; intro v2 w2 hown2 hgrow2; have hB2 : Below w.heap.size w w2 := Below.grown (by (repeat (first | assumption | exact Below.refl _ _ | refine Below.drew ?_ | refine Below.alloc ?_ (by first | (simp; done) | (simp; omega) | omega) _))) hgrow2 (by first | (simp; done) | (simp; omega) | omega) (fun j hj => (hown1.lt j hj).1); have hz2 := hB2.size; clear hgrow2) | (refine step_append (by rfl) (.tmp 40) (.tmp 43) 34 (by rfl) w.heap.size 3 i0 (.int .i64 0) 1 8 Try.underlying34 HI0.out HZ0.out.1 HZ0.out.2.1 HZ0.out.2.2 rfl (by decide) v2 (k + 1) ((flat LInt.rec (z0.take k)) ++ [.int .i64 a1]) (by rfl) (by first | exact hown2 | exact hown2.alloc _) (if cp = k then ⟨b, o, none⟩ else ⟨b, o + k, none⟩) (n - k) (cp - k) (flat LInt.rec (z0.drop k)) (by exact ite_slice _ _ _ _ _) (by rw [flat_len, LInt.rec_n]; rw [List.length_drop]; have := HN.out; omega) (fun j u hu => HS2.out _ (by (repeat (first | assumption | exact Below.refl _ _ | refine Below.drew ?_ | refine Below.alloc ?_ (by first | (simp; done) | (simp; omega) | omega) _))) j u hu) (flat_one _ _) (by unfold maxLen; omega) (by omega) (by first | (simp; done) | (simp; omega) | omega) ?_; intro v3 w3 hown3 hgrow3; have hB3 : Below w.heap.size w w3 := Below.grown (by (repeat (first | assumption | exact Below.refl _ _ | refine Below.drew ?_ | refine Below.alloc ?_ (by first | (simp; done) | (simp; omega) | omega) _))) hgrow3 (by first | (simp; done) | (simp; omega) | omega) (fun j hj => (hown2.lt j hj).1); have hz3 := hB3.size; clear hgrow3) | fail)
      all_goals
        have HO := Lib.hid (show Own LInt.rec 3 w3 w.heap.size v3 (z0.take k ++ [a1] ++ z0.drop k) from own_of LInt.rec hown3 (by have := HN.out; simp; omega) (by rw [flat_append, flat_append]; rfl))
        have hnn : ∃ g, v3.ownBlock = some g := by
          rcases hown3.2 with ⟨h', hz⟩ | ⟨g, cap, cur, h', _⟩
          · omega
          · exact ⟨g, by rw [h']; rfl⟩
        have HNN := Lib.hid hnn
        clear hown1 hown2 hown3 hB1 hB2 hz1 hz2 hz3 HK HS1 HS2 hnn
        go_wp2_with fail
        all_goals
          go_ret
          exact ⟨_, rfl, _, ins_asc HZ.out HI.out, fun m => ins_mem, HO.out, HNN.out, hB3⟩

end Go.Proofs.Ytbaflfbidgolfaa.Put
