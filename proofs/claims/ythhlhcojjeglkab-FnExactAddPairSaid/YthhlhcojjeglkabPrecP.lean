/- Precedences: the model's list of the kinds to which a kind yields. No condition but that the kinds are below 8. -/
import Derived.Test.YthhlhcojjeglkabPrecM
import Derived.Test.YthhlhcojjeglkabLPrecedenceD
import Derived.Test.YthhlhcojjeglkabLIntK
import Derived.Test.YthhlhcojjeglkabIntF
import Derived.Test.YthhlhcojjeglkabPrecB
import Derived.Deep.DeepCutAuto
namespace Go.Proofs.Ythhlhcojjeglkab.PrecR
open Go.RowKit Bs Word PrecM PrecB IntF
set_option linter.unusedVariables false
/-- place k parts the list at a number that it lacks -/
def PosAt (z : List Int) (x : Int) (k : Nat) : Prop := (∀ (j : Nat) (y : Int), j < k → z[j]? = some y → y < x) ∧ ∀ (j : Nat) (y : Int), k ≤ j → z[j]? = some y → x < y
theorem asc_lt : ∀ {z : List Int}, Asc z → ∀ {i j : Nat} {x y : Int}, i < j → z[i]? = some x → z[j]? = some y → x < y
  | [], _, i, j, x, y, _, hx, _ => by simp at hx
  | a :: z, h, 0, j + 1, x, y, _, hx, hy => by
    simp only [List.getElem?_cons_zero, Option.some.injEq] at hx
    subst hx
    exact h.1 y (List.mem_of_getElem? (by simpa using hy))
  | a :: z, h, i + 1, j + 1, x, y, hij, hx, hy => asc_lt (i := i) (j := j) h.2 (by omega) (by simpa using hx) (by simpa using hy)
theorem pos_at {z : List Int} {x X : Int} {k : Nat} (hz : Asc z) (hl : ∀ (j : Nat) (y : Int), j < k → z[j]? = some y → y < x) (hX : z[k]? = some X) (hx : x < X) : PosAt z x k := ⟨hl, fun j y hj hy => by
  rcases Nat.lt_or_ge k j with h | h
  · have := asc_lt hz h hX hy; omega
  · obtain rfl : j = k := by omega
    rw [hX] at hy; rw [← Option.some.inj hy]; exact hx⟩
theorem pos_end {z : List Int} {x : Int} {k : Nat} (hl : ∀ (j : Nat) (y : Int), j < k → z[j]? = some y → y < x) (hk : z.length ≤ k) : PosAt z x k := ⟨hl, fun j y hj hy => by have := (List.getElem?_eq_some_iff.1 hy).1; omega⟩
theorem asc_of : ∀ {z : List Int}, (∀ (i j : Nat) (x y : Int), i < j → z[i]? = some x → z[j]? = some y → x < y) → Asc z
  | [], _ => trivial
  | a :: z, h => ⟨fun y hy => by
      obtain ⟨j, hj, rfl⟩ := List.getElem_of_mem hy
      exact h 0 (j + 1) a _ (by omega) rfl (by simp [hj]), asc_of fun i j x y hij hx hy => h (i + 1) (j + 1) x y (by omega) (by simpa using hx) (by simpa using hy)⟩
theorem ins_asc {z : List Int} {x : Int} {k : Nat} (hz : Asc z) (h : PosAt z x k) : Asc (z.take k ++ [x] ++ z.drop k) := by
  have low : ∀ y ∈ z.take k, y < x := fun y hy => by
    obtain ⟨j, hj, rfl⟩ := List.getElem_of_mem hy
    rw [List.length_take] at hj
    rw [List.getElem_take]
    exact h.1 j _ (by omega) (List.getElem?_eq_getElem (by omega))
  have high : ∀ y ∈ z.drop k, x < y := fun y hy => by
    obtain ⟨j, hj, rfl⟩ := List.getElem_of_mem hy
    rw [List.length_drop] at hj
    rw [List.getElem_drop]
    exact h.2 (k + j) _ (by omega) (List.getElem?_eq_getElem (by omega))
  have app : ∀ {u v : List Int}, Asc u → Asc v → (∀ a ∈ u, ∀ b ∈ v, a < b) → Asc (u ++ v) := by
    intro u
    induction u with
    | nil => intro v _ hv _; exact hv
    | cons a u ih => intro v hu hv huv; exact ⟨fun y hy => by
        rcases List.mem_append.1 hy with hy | hy
        · exact hu.1 y hy
        · exact huv a (by simp) y hy, ih hu.2 hv (fun a ha b hb => huv a (by simp [ha]) b hb)⟩
  have ht : Asc (z.take k) := asc_of fun i j a b hij ha hb => by
    rw [List.getElem?_take] at ha hb
    split at ha <;> split at hb
    · exact asc_lt hz hij ha hb
    all_goals simp_all
  have hd : Asc (z.drop k) := asc_of fun i j a b hij ha hb => by
    rw [List.getElem?_drop] at ha hb
    exact asc_lt hz (by omega) ha hb
  refine app (asc_append ht low) hd fun a ha b hb => ?_
  rcases List.mem_append.1 ha with ha | ha
  · have := low a ha; have := high b hb; omega
  · rw [List.mem_singleton.1 ha]; exact high b hb
theorem ins_mem {z : List Int} {x m : Int} {k : Nat} : m ∈ z.take k ++ [x] ++ z.drop k ↔ m = x ∨ m ∈ z := by
  have e : m ∈ z ↔ m ∈ z.take k ∨ m ∈ z.drop k := by rw [← List.mem_append, List.take_append_drop]
  rw [e]
  simp only [List.mem_append, List.mem_singleton]
  constructor
  · rintro ((h | h) | h)
    · exact .inr (.inl h)
    · exact .inl h
    · exact .inr (.inr h)
  · rintro (h | h | h)
    · exact .inl (.inr h)
    · exact .inl (.inl h)
    · exact .inr h
theorem low_next {z : List Int} {x X : Int} {k : Nat} (hl : ∀ (j : Nat) (y : Int), j < k → z[j]? = some y → y < x) (hX : z[k]? = some X) (h : X < x) : ∀ (j : Nat) (y : Int), j < k + 1 → z[j]? = some y → y < x := fun j y hj hy => by
  rcases Nat.lt_or_ge j k with h' | h'
  · exact hl j y h' hy
  · obtain rfl : j = k := by omega
    rw [hX] at hy; rw [← Option.some.inj hy]; exact h
theorem asc_len : ∀ {z : List Int} {lo : Int} {n : Nat}, Asc z → (∀ x ∈ z, lo ≤ x ∧ x < lo + n) → z.length ≤ n
  | [], _, _, _, _ => Nat.zero_le _
  | a :: z, lo, n, h, hz => by
    have h1 := hz a (by simp)
    have h0 : 0 < n := by omega
    have := asc_len (z := z) (lo := lo + 1) (n := n - 1) h.2 (fun x hx => by have := hz x (by simp [hx]); have := h.1 x hx; omega)
    simp only [List.length_cons]; omega
set_option maxRecDepth 100000 in
set_option maxHeartbeats 3200000 in
theorem l1Put (v0 : Value) (z0 : List Int) (a1 : Int) (w : World) (h0 : IsS LInt.rec w v0 z0) (hz : Asc z0) (ha : a1 ∉ z0) (l0 : z0.length ≤ 1048576) :
    Calls Try.prog 44 #[v0, .int .i64 a1] w fun e w' => ∃ u r, e = .returned u ∧ Asc r ∧ (∀ m, m ∈ r ↔ m = a1 ∨ m ∈ z0) ∧ Own LInt.rec 3 w' w.heap.size u r ∧ (∃ g, u.ownBlock = some g) ∧ Below w.heap.size w w' := by
  have HIS0 := h0
  obtain ⟨b, o, cp, rfl, hbl, hxc, hcm, hcell⟩ := h0
  have HIS := Lib.hid HIS0
  have HZ := Lib.hid hz
  have HA := Lib.hid ha
  have HC := Lib.hid hcell
  obtain ⟨n, hn⟩ : ∃ n, n = z0.length := ⟨_, rfl⟩
  have HN := Lib.hid hn.symm
  rw [← hn] at HIS hxc l0 ⊢
  unfold maxLen at hcm
  clear hn HIS0 hcell hz ha
  obtain ⟨i0, hi, hz0, hz1, hz2⟩ := info_parts LInt.infoK
  have HI0 := Lib.hid hi
  have HZ0 := Lib.hid (And.intro hz0 (And.intro hz1 hz2))
  clear hi hz0 hz1 hz2
  go_enter Try.func44, Try.ntmps44
  go_wp2_with fail
  go_loop [5] (fun i => ∃ k : Nat, k ≤ n ∧ i = .int .i64 k ∧ Hid (∀ (j : Nat) (y : Int), j < k → z0[j]? = some y → y < a1)) (fun i => n - (intOf i).toNat)
  case atStart => exact ⟨0, Nat.zero_le _, rfl, Lib.hid (fun j y hj => by omega)⟩
  case round =>
    obtain ⟨k, hk, rfl, HL⟩ := hrel
    have k0 : 0 ≤ (k : Int) := by omega
    by_cases hlt : k < n
    · have hx : k < z0.length := by have := HN.out; omega
      have HX := Lib.hid (List.getElem?_eq_getElem hx)
      have q0 := LInt.cells (HC.out k _ HX.out)
      simp only [LInt.rec_n, Nat.mul_one] at q0
      have k1 : (k : Int) < (n : Int) := by omega
      have hd : decide ((k : Int) < (n : Int)) = true := by simp; omega
      have hd2 : decide (k < n) = true := by simp; omega
      have HM := Lib.hid (List.getElem_mem hx)
      generalize z0[k] = X at *
      by_cases hlt2 : X < a1
      · have HL2 := Lib.hid (low_next HL.out HX.out hlt2)
        have hd3 : decide (X < a1) = true := decide_eq_true hlt2
        go_wp2_with fail
        go_round
        case rel => exact ⟨k + 1, by omega, by go_num, HL2⟩
        case measure => simp [intOf]; omega
      · have hne : X ≠ a1 := fun e => HA.out (by rw [← e]; exact HM.out)
        have HI := Lib.hid (pos_at HZ.out HL.out HX.out (by omega))
        have hd3 : decide (X < a1) = false := decide_eq_false hlt2
        have hd4 : (X == a1) = false := by simpa using hne
        clear hlt2 hne
        go_wp2_with fail
        have HS1 := Lib.hid (show ∀ w' : World, Below w.heap.size w w' → ∀ j u, (flat LInt.rec (z0.take k))[j]? = some u → w'.cell? (Addr.add ⟨b, o, none⟩ j) = some u from fun w' hb =>
          ((HIS.out.below LInt.rec hb).take LInt.rec (k := k) (by omega)).flatCells LInt.rec)
        have HS2 := Lib.hid (show ∀ w' : World, Below w.heap.size w w' → ∀ j u, (flat LInt.rec (z0.drop k))[j]? = some u → w'.cell? (Addr.add (if cp = k then ⟨b, o, none⟩ else ⟨b, o + k, none⟩) j) = some u from fun w' hb => by
          have h := (HIS.out.below LInt.rec hb).drop LInt.rec (k := k) _ rfl (by omega) _ _ rfl rfl
          simp only [LInt.rec_n, Nat.mul_one] at h
          by_cases hck : cp = k
          · simp only [if_pos hck] at h ⊢; exact h.flatCells LInt.rec
          · simp only [if_neg hck] at h ⊢; exact h.flatCells LInt.rec)
        have HK := Lib.hid (show ∀ w' : World, Below w.heap.size w w' → Below w.heap.size w w' from fun w' hb => hb)
        have s1 : (k : Int) ≤ (n : Int) := by omega
        have s2 : (n : Int) ≤ (cp : Int) := by omega
        have s3 : (k : Int) ≤ (cp : Int) := by omega
        go_region_held3 (fun w' => Below w.heap.size w w') ((refine HK.out _ ?_; (repeat (first | assumption | exact Below.refl _ _ | refine Below.drew ?_ | refine Below.alloc ?_ (by first | (simp; done) | (simp; omega) | omega) _)))) (first | (refine step_append (by rfl) (.tmp 33) (.tmp 36) 26 (by rfl) w.heap.size 3 i0 (.int .i64 0) 1 8 Try.underlying26 HI0.out HZ0.out.1 HZ0.out.2.1 HZ0.out.2.2 rfl (by decide) _ (0) ([]) (by rfl) (by first | exact LInt.startB (heap_alloc_new _ _) (by first | (simp; done) | (simp; omega) | omega) | exact LInt.startB (alloc_old _ _ _) (by first | (simp; done) | (simp; omega) | omega) | exact LInt.startB (alloc_two _ _ _) (by first | (simp; done) | (simp; omega) | omega)) (⟨b, o, none⟩) (k) (cp) (flat LInt.rec (z0.take k)) (by rfl) (by rw [flat_len, LInt.rec_n]; rw [List.length_take]; have := HN.out; omega) (fun j u hu => HS1.out _ (by (repeat (first | assumption | exact Below.refl _ _ | refine Below.drew ?_ | refine Below.alloc ?_ (by first | (simp; done) | (simp; omega) | omega) _))) j u hu) (flat_one _ _) (by unfold maxLen; omega) (by omega) (by first | (simp; done) | (simp; omega) | omega) ?_; intro v1 w1 hown1 hgrow1; replace hown1 := own_in hown1; have hB1 : Below w.heap.size w w1 := Below.grown (by (repeat (first | assumption | exact Below.refl _ _ | refine Below.drew ?_ | refine Below.alloc ?_ (by first | (simp; done) | (simp; omega) | omega) _))) hgrow1 (by first | (simp; done) | (simp; omega) | omega) (fun j hj => own_ge hj (by simp)); have hz1 := hB1.size; (first | have hr1 : w1.heap[w.heap.size]? = some (Obj.cells #[.int .i64 a1] 3) := (hgrow1.block _ (by simp; omega) (show some w.heap.size ≠ some (w.heap.size + 1) from fun e => absurd (Option.some.inj e) (by omega))).trans (alloc_old _ _ _) | have hr1 : w1.heap[w.heap.size + 1]? = some (Obj.cells #[.int .i64 a1] 3) := (hgrow1.block _ (by simp) (show some (w.heap.size + 1) ≠ some w.heap.size from fun e => absurd (Option.some.inj e) (by omega))).trans (alloc_two _ _ _) | skip); clear hgrow1) | (refine step_append (by rfl) (.tmp 37) (.tmp 39) 26 (by rfl) w.heap.size 3 i0 (.int .i64 0) 1 8 Try.underlying26 HI0.out HZ0.out.1 HZ0.out.2.1 HZ0.out.2.2 rfl (by decide) v1 (k) ((flat LInt.rec (z0.take k))) (by rfl) (by first | exact hown1 | exact hown1.alloc _) _ 1 1 [.int .i64 a1] (by rfl) (by rfl) (by first | exact World.news_of_block (heap_alloc_new _ _) | exact World.news_of_block hr1) (by intro u hu; simp at hu; subst hu; rfl) (by unfold maxLen; omega) (by omega) (by first | (simp; done) | (simp; omega) | omega) ?_; intro v2 w2 hown2 hgrow2; have hB2 : Below w.heap.size w w2 := Below.grown (by (repeat (first | assumption | exact Below.refl _ _ | refine Below.drew ?_ | refine Below.alloc ?_ (by first | (simp; done) | (simp; omega) | omega) _))) hgrow2 (by first | (simp; done) | (simp; omega) | omega) (fun j hj => (hown1.lt j hj).1); have hz2 := hB2.size; clear hgrow2) | (refine step_append (by rfl) (.tmp 40) (.tmp 43) 26 (by rfl) w.heap.size 3 i0 (.int .i64 0) 1 8 Try.underlying26 HI0.out HZ0.out.1 HZ0.out.2.1 HZ0.out.2.2 rfl (by decide) v2 (k + 1) ((flat LInt.rec (z0.take k)) ++ [.int .i64 a1]) (by rfl) (by first | exact hown2 | exact hown2.alloc _) (if cp = k then ⟨b, o, none⟩ else ⟨b, o + k, none⟩) (n - k) (cp - k) (flat LInt.rec (z0.drop k)) (by exact ite_slice _ _ _ _ _) (by rw [flat_len, LInt.rec_n]; rw [List.length_drop]; have := HN.out; omega) (fun j u hu => HS2.out _ (by (repeat (first | assumption | exact Below.refl _ _ | refine Below.drew ?_ | refine Below.alloc ?_ (by first | (simp; done) | (simp; omega) | omega) _))) j u hu) (flat_one _ _) (by unfold maxLen; omega) (by omega) (by first | (simp; done) | (simp; omega) | omega) ?_; intro v3 w3 hown3 hgrow3; have hB3 : Below w.heap.size w w3 := Below.grown (by (repeat (first | assumption | exact Below.refl _ _ | refine Below.drew ?_ | refine Below.alloc ?_ (by first | (simp; done) | (simp; omega) | omega) _))) hgrow3 (by first | (simp; done) | (simp; omega) | omega) (fun j hj => (hown2.lt j hj).1); have hz3 := hB3.size; clear hgrow3) | fail)
        all_goals
          have HO := Lib.hid (show Own LInt.rec 3 w3 w.heap.size v3 (z0.take k ++ [a1] ++ z0.drop k) from own_of LInt.rec hown3 (by have := HN.out; simp; omega) (by rw [flat_append, flat_append]; rfl))
          have hnn : ∃ g, v3.ownBlock = some g := by
            rcases hown3.2 with ⟨h', hz⟩ | ⟨g, cap, cur, h', _⟩
            · omega
            · exact ⟨g, by rw [h']; rfl⟩
          have HNN := Lib.hid hnn
          clear hown1 hown2 hown3 hB1 hB2 hz1 hz2 hz3 HK HS1 HS2 hnn
          go_wp2_with fail
          all_goals
            go_ret
            exact ⟨_, rfl, _, ins_asc HZ.out HI.out, fun m => ins_mem, HO.out, HNN.out, hB3⟩
    · have hd : decide ((k : Int) < (n : Int)) = false := by simp; omega
      have hd2 : decide (k < n) = false := by simp; omega
      have HI := Lib.hid (pos_end HL.out (show z0.length ≤ k by have := HN.out; omega))
      go_wp2_with fail
      have HS1 := Lib.hid (show ∀ w' : World, Below w.heap.size w w' → ∀ j u, (flat LInt.rec (z0.take k))[j]? = some u → w'.cell? (Addr.add ⟨b, o, none⟩ j) = some u from fun w' hb =>
        ((HIS.out.below LInt.rec hb).take LInt.rec (k := k) (by omega)).flatCells LInt.rec)
      have HS2 := Lib.hid (show ∀ w' : World, Below w.heap.size w w' → ∀ j u, (flat LInt.rec (z0.drop k))[j]? = some u → w'.cell? (Addr.add (if cp = k then ⟨b, o, none⟩ else ⟨b, o + k, none⟩) j) = some u from fun w' hb => by
        have h := (HIS.out.below LInt.rec hb).drop LInt.rec (k := k) _ rfl (by omega) _ _ rfl rfl
        simp only [LInt.rec_n, Nat.mul_one] at h
        by_cases hck : cp = k
        · simp only [if_pos hck] at h ⊢; exact h.flatCells LInt.rec
        · simp only [if_neg hck] at h ⊢; exact h.flatCells LInt.rec)
      have HK := Lib.hid (show ∀ w' : World, Below w.heap.size w w' → Below w.heap.size w w' from fun w' hb => hb)
      have s1 : (k : Int) ≤ (n : Int) := by omega
      have s2 : (n : Int) ≤ (cp : Int) := by omega
      have s3 : (k : Int) ≤ (cp : Int) := by omega
      go_region_held3 (fun w' => Below w.heap.size w w') ((refine HK.out _ ?_; (repeat (first | assumption | exact Below.refl _ _ | refine Below.drew ?_ | refine Below.alloc ?_ (by first | (simp; done) | (simp; omega) | omega) _)))) (first | (refine step_append (by rfl) (.tmp 33) (.tmp 36) 26 (by rfl) w.heap.size 3 i0 (.int .i64 0) 1 8 Try.underlying26 HI0.out HZ0.out.1 HZ0.out.2.1 HZ0.out.2.2 rfl (by decide) _ (0) ([]) (by rfl) (by first | exact LInt.startB (heap_alloc_new _ _) (by first | (simp; done) | (simp; omega) | omega) | exact LInt.startB (alloc_old _ _ _) (by first | (simp; done) | (simp; omega) | omega) | exact LInt.startB (alloc_two _ _ _) (by first | (simp; done) | (simp; omega) | omega)) (⟨b, o, none⟩) (k) (cp) (flat LInt.rec (z0.take k)) (by rfl) (by rw [flat_len, LInt.rec_n]; rw [List.length_take]; have := HN.out; omega) (fun j u hu => HS1.out _ (by (repeat (first | assumption | exact Below.refl _ _ | refine Below.drew ?_ | refine Below.alloc ?_ (by first | (simp; done) | (simp; omega) | omega) _))) j u hu) (flat_one _ _) (by unfold maxLen; omega) (by omega) (by first | (simp; done) | (simp; omega) | omega) ?_; intro v1 w1 hown1 hgrow1; replace hown1 := own_in hown1; have hB1 : Below w.heap.size w w1 := Below.grown (by (repeat (first | assumption | exact Below.refl _ _ | refine Below.drew ?_ | refine Below.alloc ?_ (by first | (simp; done) | (simp; omega) | omega) _))) hgrow1 (by first | (simp; done) | (simp; omega) | omega) (fun j hj => own_ge hj (by simp)); have hz1 := hB1.size; (first | have hr1 : w1.heap[w.heap.size]? = some (Obj.cells #[.int .i64 a1] 3) := (hgrow1.block _ (by simp; omega) (show some w.heap.size ≠ some (w.heap.size + 1) from fun e => absurd (Option.some.inj e) (by omega))).trans (alloc_old _ _ _) | have hr1 : w1.heap[w.heap.size + 1]? = some (Obj.cells #[.int .i64 a1] 3) := (hgrow1.block _ (by simp) (show some (w.heap.size + 1) ≠ some w.heap.size from fun e => absurd (Option.some.inj e) (by omega))).trans (alloc_two _ _ _) | skip); clear hgrow1) | (refine step_append (by rfl) (.tmp 37) (.tmp 39) 26 (by rfl) w.heap.size 3 i0 (.int .i64 0) 1 8 Try.underlying26 HI0.out HZ0.out.1 HZ0.out.2.1 HZ0.out.2.2 rfl (by decide) v1 (k) ((flat LInt.rec (z0.take k))) (by rfl) (by first | exact hown1 | exact hown1.alloc _) _ 1 1 [.int .i64 a1] (by rfl) (by rfl) (by first | exact World.news_of_block (heap_alloc_new _ _) | exact World.news_of_block hr1) (by intro u hu; simp at hu; subst hu; rfl) (by unfold maxLen; omega) (by omega) (by first | (simp; done) | (simp; omega) | omega) ?_; intro v2 w2 hown2 hgrow2; have hB2 : Below w.heap.size w w2 := Below.grown (by (repeat (first | assumption | exact Below.refl _ _ | refine Below.drew ?_ | refine Below.alloc ?_ (by first | (simp; done) | (simp; omega) | omega) _))) hgrow2 (by first | (simp; done) | (simp; omega) | omega) (fun j hj => (hown1.lt j hj).1); have hz2 := hB2.size; clear hgrow2) | (refine step_append (by rfl) (.tmp 40) (.tmp 43) 26 (by rfl) w.heap.size 3 i0 (.int .i64 0) 1 8 Try.underlying26 HI0.out HZ0.out.1 HZ0.out.2.1 HZ0.out.2.2 rfl (by decide) v2 (k + 1) ((flat LInt.rec (z0.take k)) ++ [.int .i64 a1]) (by rfl) (by first | exact hown2 | exact hown2.alloc _) (if cp = k then ⟨b, o, none⟩ else ⟨b, o + k, none⟩) (n - k) (cp - k) (flat LInt.rec (z0.drop k)) (by exact ite_slice _ _ _ _ _) (by rw [flat_len, LInt.rec_n]; rw [List.length_drop]; have := HN.out; omega) (fun j u hu => HS2.out _ (by (repeat (first | assumption | exact Below.refl _ _ | refine Below.drew ?_ | refine Below.alloc ?_ (by first | (simp; done) | (simp; omega) | omega) _))) j u hu) (flat_one _ _) (by unfold maxLen; omega) (by omega) (by first | (simp; done) | (simp; omega) | omega) ?_; intro v3 w3 hown3 hgrow3; have hB3 : Below w.heap.size w w3 := Below.grown (by (repeat (first | assumption | exact Below.refl _ _ | refine Below.drew ?_ | refine Below.alloc ?_ (by first | (simp; done) | (simp; omega) | omega) _))) hgrow3 (by first | (simp; done) | (simp; omega) | omega) (fun j hj => (hown2.lt j hj).1); have hz3 := hB3.size; clear hgrow3) | fail)
      all_goals
        have HO := Lib.hid (show Own LInt.rec 3 w3 w.heap.size v3 (z0.take k ++ [a1] ++ z0.drop k) from own_of LInt.rec hown3 (by have := HN.out; simp; omega) (by rw [flat_append, flat_append]; rfl))
        have hnn : ∃ g, v3.ownBlock = some g := by
          rcases hown3.2 with ⟨h', hz⟩ | ⟨g, cap, cur, h', _⟩
          · omega
          · exact ⟨g, by rw [h']; rfl⟩
        have HNN := Lib.hid hnn
        clear hown1 hown2 hown3 hB1 hB2 hz1 hz2 hz3 HK HS1 HS2 hnn
        go_wp2_with fail
        all_goals
          go_ret
          exact ⟨_, rfl, _, ins_asc HZ.out HI.out, fun m => ins_mem, HO.out, HNN.out, hB3⟩
end Go.Proofs.Ythhlhcojjeglkab.PrecR
