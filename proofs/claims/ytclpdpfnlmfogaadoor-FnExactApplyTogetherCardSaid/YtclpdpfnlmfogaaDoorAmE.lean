/- Two lists of words compared: the model and the program. No condition. -/
import Derived.Test.YtclpdpfnlmfogaaDoorJ1
import Derived.Test.YtclpdpfnlmfogaaDoorAppO
namespace Go.Proofs.YtclpdpfnlmfogaaDoor.AmE
open Go.RowKit Bs Word Am
set_option linter.unusedVariables false
theorem str_eq (X Y : ByteArray) : (X.toList == Y.toList) = decide (X = Y) := by
  rw [ByteArray.toList_eq, ByteArray.toList_eq]
  by_cases h : X = Y
  · subst h; simp
  · have h2 : ¬ X.data = Y.data := fun e => h (ByteArray.ext e)
    simp [h, h2]
theorem same_next {x y : T} {k : Nat} (hx : k < x.length) (hy : k < y.length) (h : x.take k = y.take k) (he : x[k] = y[k]) : x.take (k + 1) = y.take (k + 1) := by
  rw [List.take_succ_eq_append_getElem hx, List.take_succ_eq_append_getElem hy, h, he]
theorem same_not {x y : T} {k : Nat} (hx : k < x.length) (hy : k < y.length) (h : x = y) : x[k] = y[k] := by subst h; rfl
/-- a piece of a slice, or of nil -/
theorem isq_sub {α : Type} {R : Rec α} {w : World} {ao t : Option Addr} {n c : Nat} {xs : List α} (h : IsQ R w (.slice ao n c) xs) (l m : Nat) (hl : l ≤ m) (hm : m ≤ n) (ht : t = if c = l then ao else ao.map (fun x => x.add (l * R.n))) (k d : Nat) (hk : k = m - l) (hd : d = c - l) : IsQ R w (.slice t k d) ((xs.drop l).take (m - l)) := by
  subst hk hd
  rcases h with ⟨e, rfl⟩ | h
  · simp only [Value.slice.injEq] at e
    obtain ⟨rfl, rfl, rfl⟩ := e
    obtain rfl : m = 0 := by omega
    obtain rfl : l = 0 := by omega
    simp at ht
    subst ht
    exact .inl ⟨rfl, by simp⟩
  · obtain ⟨b, o, c', e, hb, h1, h2, h3⟩ := h
    simp only [Value.slice.injEq] at e
    obtain ⟨rfl, rfl, rfl⟩ := e
    have hI : IsS R w (.slice (some ⟨b, o, none⟩) xs.length c) xs := ⟨b, o, c, rfl, hb, h1, h2, h3⟩
    refine .inr ?_
    have ht' : t = if c = l then some ⟨b, o, none⟩ else some ⟨b, o + l * R.n, none⟩ := by rw [ht]; simp only [Option.map_some, Go.WideShapes.add_plain]
    have hD := hI.drop R t ht' (by omega) (xs.length - l) (c - l) rfl rfl
    have hS : ∃ b' o', t = some ⟨b', o', none⟩ := by
      rw [ht']; split
      · exact ⟨_, _, rfl⟩
      · exact ⟨_, _, rfl⟩
    obtain ⟨b', o', rfl⟩ := hS
    exact hD.take R (by omega)
set_option maxRecDepth 100000 in
/-- a slice expression with both bounds, with one -/
theorem run_sub (W : World) (ao t : Option Addr) (n c : Nat) (l h : Int) (h0 : 0 ≤ l) (h1 : l ≤ h) (h2 : h ≤ c) (ht : t = if c = l.toNat then ao else ao.map (fun x => x.add l.toNat)) :
    (Instr.slice 24 (.slice ao n c) (some (.int .i64 l)) (some (.int .i64 h)) none).run Tryd.prog W = .ok (.slice t (h.toNat - l.toNat) (c - l.toNat)) W := by
  rw [run_slice_lh W _ ao n c Tryd.underlying24 .i64 .i64 l h h0 h1 h2]
  have hs : (Go.sizeOf (Tryd.prog.elem 24)).run Tryd.prog W = .ok 1 W := by kernel_rfl
  rw [hs]
  simp only [Result.andThen, sliced, Nat.mul_one, ht]
set_option maxRecDepth 100000 in
theorem run_from (W : World) (ao t : Option Addr) (n c : Nat) (l : Int) (h0 : 0 ≤ l) (h1 : l ≤ n) (ht : t = if c = l.toNat then ao else ao.map (fun x => x.add l.toNat)) :
    (Instr.slice 24 (.slice ao n c) (some (.int .i64 l)) none none).run Tryd.prog W = .ok (.slice t (n - l.toNat) (c - l.toNat)) W := by
  rw [run_slice_l W _ ao n c Tryd.underlying24 .i64 l h0 h1]
  have hs : (Go.sizeOf (Tryd.prog.elem 24)).run Tryd.prog W = .ok 1 W := by kernel_rfl
  rw [hs]
  simp only [Result.andThen, sliced, Nat.mul_one, ht]
set_option maxRecDepth 100000 in
theorem run_upto (W : World) (ao t : Option Addr) (n c : Nat) (h : Int) (h0 : 0 ≤ h) (h1 : h ≤ c) (ht : t = if c = 0 then ao else ao.map (fun x => x.add 0)) :
    (Instr.slice 24 (.slice ao n c) none (some (.int .i64 h)) none).run Tryd.prog W = .ok (.slice t h.toNat c) W := by
  rw [run_slice_h W _ ao n c Tryd.underlying24 .i64 h h0 h1]
  have hs : (Go.sizeOf (Tryd.prog.elem 24)).run Tryd.prog W = .ok 1 W := by kernel_rfl
  rw [hs]
  simp only [Result.andThen, sliced, Nat.zero_mul, ht, Nat.sub_zero]
set_option maxRecDepth 100000 in
set_option maxHeartbeats 1600000 in
theorem l9Same (v1 v2 : Value) (x y : T) (w : World) (h1 : Is LString.rec w v1 x) (h2 : Is LString.rec w v2 y) :
    Calls Tryd.prog 105 #[v1, v2] w fun e w' => e = .returned (.bool (decide (x = y))) ∧ Below w.heap.size w w' := by
  obtain ⟨a, cp, rfl, h1⟩ := h1
  obtain ⟨a', cp', rfl, h2⟩ := h2
  have hc := h1.at_ LString.rec
  have hc' := h2.at_ LString.rec
  obtain ⟨n, hn⟩ : ∃ n, n = x.length := ⟨_, rfl⟩
  obtain ⟨n', hn'⟩ : ∃ n, n = y.length := ⟨_, rfl⟩
  have hb1 : n ≤ cp := by have := h1.1; omega
  have hb2 : n' ≤ cp' := by have := h2.1; omega
  have hm1 := h1.2.1
  have hm2 := h2.2.1
  unfold maxLen at hm1 hm2
  have HN := Lib.hid hn.symm
  have HN' := Lib.hid hn'.symm
  rw [← hn, ← hn']
  have hle : n ≤ x.length := by omega
  have hle' : n' ≤ y.length := by omega
  clear hn hn' h1 h2
  by_cases hnn : n = n'
  rotate_left
  · have e1 : ((n : Int) != (n' : Int)) = true := by simp; omega
    have HD := Lib.hid (show decide (x = y) = false from decide_eq_false fun h => hnn (by rw [← HN.out, ← HN'.out, h]))
    clear hnn
    go_enter Tryd.func105, Tryd.ntmps105
    go_wp2_with fail
    go_ret
    exact ⟨ret_bool HD.out.symm, Below.refl _ _⟩
  subst hnn
  have e1 : ((n : Int) != (n : Int)) = false := by simp
  go_enter Tryd.func105, Tryd.ntmps105
  go_wp2_with fail
  go_loopw [5] (fun i wr => ∃ k : Nat, k ≤ n ∧ i = .int .i64 k ∧ Hid (x.take k = y.take k) ∧ Below w.heap.size w wr) (fun i _ => n - (intOf i).toNat)
  case atStart => exact ⟨0, Nat.zero_le _, rfl, Lib.hid (by simp), Below.refl _ _⟩
  case round =>
    obtain ⟨k, hk, rfl, HT, hb⟩ := hrel
    by_cases hlt : k < n
    · have hx : k < x.length := by omega
      have hy : k < y.length := by omega
      obtain ⟨b, o, rfl, hbl, hcell⟩ := hc.out k x[k] (List.getElem?_eq_getElem hx)
      obtain ⟨b', o', rfl, hbl', hcell'⟩ := hc'.out k y[k] (List.getElem?_eq_getElem hy)
      have c1 := LString.cells (hcell.below LString.rec hb hbl)
      have c2 := LString.cells (hcell'.below LString.rec hb hbl')
      simp only [LString.rec_n, Nat.mul_one] at c1 c2
      clear hcell hcell'
      have HS := Lib.hid (same_next hx hy HT.out)
      have HX := Lib.hid (same_not hx hy)
      generalize x[k] = X at *
      generalize y[k] = Y at *
      have k0 : 0 ≤ (k : Int) := by omega
      have k1 : (k : Int) < (n : Int) := by omega
      by_cases hxy : X = Y
      · have HN2 := Lib.hid (HS.out hxy)
        have hz : (X.toList == Y.toList) = true := by rw [hxy]; simp
        clear hxy HS HX
        go_wp2_with fail
        go_quiet (fail)
        have hb2 : Below w.heap.size w (wr.drewN nq) := hb.trans ⟨rfl, rfl, rfl, Nat.le_refl _, fun _ _ => rfl⟩
        go_wp2_with fail
        go_roundw
        case rel => exact ⟨k + 1, by omega, by go_num, HN2, hb2⟩
        case measure => simp [intOf]; omega
      · have HD := Lib.hid (show decide (x = y) = false from decide_eq_false fun h => hxy (HX.out h))
        have hz : (X.toList == Y.toList) = false := by rw [str_eq, decide_eq_false hxy]
        clear hxy HS HX
        go_wp2_with fail
        go_quiet (fail)
        have hb2 : Below w.heap.size w (wr.drewN nq) := hb.trans ⟨rfl, rfl, rfl, Nat.le_refl _, fun _ _ => rfl⟩
        go_wp2_with fail
        go_ret
        exact ⟨ret_bool HD.out.symm, hb2⟩
    · have HD := Lib.hid (show decide (x = y) = true from decide_eq_true (by
        have h := HT.out
        rwa [List.take_of_length_le (by have := HN.out; omega), List.take_of_length_le (by have := HN'.out; omega)] at h))
      go_wp2_with fail
      go_ret
      exact ⟨ret_bool HD.out.symm, hb⟩
set_option maxRecDepth 100000 in
set_option maxHeartbeats 1600000 in
theorem equal (v1 v2 : Value) (x y : T) (w : World) (h1 : Is LString.rec w v1 x) (h2 : Is LString.rec w v2 y) :
    Calls Tryd.prog 103 #[v1, v2] w fun e w' => e = .returned (.bool (decide (x = y))) ∧ Below w.heap.size w w' := by
  obtain ⟨a, cp, rfl, h1⟩ := h1
  obtain ⟨a', cp', rfl, h2⟩ := h2
  have hc := h1.at_ LString.rec
  have hc' := h2.at_ LString.rec
  obtain ⟨n, hn⟩ : ∃ n, n = x.length := ⟨_, rfl⟩
  obtain ⟨n', hn'⟩ : ∃ n, n = y.length := ⟨_, rfl⟩
  have hb1 : n ≤ cp := by have := h1.1; omega
  have hb2 : n' ≤ cp' := by have := h2.1; omega
  have hm1 := h1.2.1
  have hm2 := h2.2.1
  unfold maxLen at hm1 hm2
  have HN := Lib.hid hn.symm
  have HN' := Lib.hid hn'.symm
  rw [← hn, ← hn']
  have hle : n ≤ x.length := by omega
  have hle' : n' ≤ y.length := by omega
  clear hn hn' h1 h2
  by_cases hnn : n = n'
  rotate_left
  · have e1 : ((n : Int) != (n' : Int)) = true := by simp; omega
    have HD := Lib.hid (show decide (x = y) = false from decide_eq_false fun h => hnn (by rw [← HN.out, ← HN'.out, h]))
    clear hnn
    go_enter Tryd.func103, Tryd.ntmps103
    go_wp2_with fail
    go_ret
    exact ⟨ret_bool HD.out.symm, Below.refl _ _⟩
  subst hnn
  have e1 : ((n : Int) != (n : Int)) = false := by simp
  go_enter Tryd.func103, Tryd.ntmps103
  go_wp2_with fail
  go_loopw [13] (fun i wr => ∃ k : Nat, k ≤ n ∧ i = .int .i64 k ∧ Hid (x.take k = y.take k) ∧ Below w.heap.size w wr) (fun i _ => n - (intOf i).toNat)
  case atStart => exact ⟨0, Nat.zero_le _, rfl, Lib.hid (by simp), Below.refl _ _⟩
  case round =>
    obtain ⟨k, hk, rfl, HT, hb⟩ := hrel
    by_cases hlt : k < n
    · have hx : k < x.length := by omega
      have hy : k < y.length := by omega
      obtain ⟨b, o, rfl, hbl, hcell⟩ := hc.out k x[k] (List.getElem?_eq_getElem hx)
      obtain ⟨b', o', rfl, hbl', hcell'⟩ := hc'.out k y[k] (List.getElem?_eq_getElem hy)
      have c1 := LString.cells (hcell.below LString.rec hb hbl)
      have c2 := LString.cells (hcell'.below LString.rec hb hbl')
      simp only [LString.rec_n, Nat.mul_one] at c1 c2
      clear hcell hcell'
      have HS := Lib.hid (same_next hx hy HT.out)
      have HX := Lib.hid (same_not hx hy)
      generalize x[k] = X at *
      generalize y[k] = Y at *
      have k0 : 0 ≤ (k : Int) := by omega
      have k1 : (k : Int) < (n : Int) := by omega
      by_cases hxy : X = Y
      · have HN2 := Lib.hid (HS.out hxy)
        have hz : (X.toList == Y.toList) = true := by rw [hxy]; simp
        clear hxy HS HX
        go_wp2_with fail
        go_quiet (fail)
        have hb2 : Below w.heap.size w (wr.drewN nq) := hb.trans ⟨rfl, rfl, rfl, Nat.le_refl _, fun _ _ => rfl⟩
        go_wp2_with fail
        go_roundw
        case rel => exact ⟨k + 1, by omega, by go_num, HN2, hb2⟩
        case measure => simp [intOf]; omega
      · have HD := Lib.hid (show decide (x = y) = false from decide_eq_false fun h => hxy (HX.out h))
        have hz : (X.toList == Y.toList) = false := by rw [str_eq, decide_eq_false hxy]
        clear hxy HS HX
        go_wp2_with fail
        go_quiet (fail)
        have hb2 : Below w.heap.size w (wr.drewN nq) := hb.trans ⟨rfl, rfl, rfl, Nat.le_refl _, fun _ _ => rfl⟩
        go_wp2_with fail
        go_ret
        exact ⟨ret_bool HD.out.symm, hb2⟩
    · have HD := Lib.hid (show decide (x = y) = true from decide_eq_true (by
        have h := HT.out
        rwa [List.take_of_length_le (by have := HN.out; omega), List.take_of_length_le (by have := HN'.out; omega)] at h))
      go_wp2_with fail
      go_ret
      exact ⟨ret_bool HD.out.symm, hb⟩
end Go.Proofs.YtclpdpfnlmfogaaDoor.AmE
