/- The laws' comparisons of voters and numbers. No condition. -/
import Derived.Test.YtdjnaoaniokbgaaVoM
import Derived.Deep.DeepCutAuto
import Derived.Deep.DrawnRows
namespace Go.Proofs.Ytdjnaoaniokbgaa.VoQ
open Go.RowKit Bs Word Sq IntF Vo VoA VoM
set_option linter.unusedVariables false
set_option maxRecDepth 100000 in
set_option maxHeartbeats 1600000 in
theorem rInts (v v' : Value) (xs : List Int) (w : World) (h : Is LInt.rec w v xs) (h' : Is LInt.rec w v' xs) :
    Calls Try.prog 18 #[v, v'] w fun e w' => e = .returned (.bool true) ∧ Below w.heap.size w w' := by
  obtain ⟨a, cp, rfl, h⟩ := h
  obtain ⟨a', cp', rfl, h'⟩ := h'
  have hc := h.at_ LInt.rec
  have hc' := h'.at_ LInt.rec
  obtain ⟨n, hn⟩ : ∃ n, n = xs.length := ⟨_, rfl⟩
  have hnb : n ≤ cp := by have := h.1; omega
  have hnb' : n ≤ cp' := by have := h'.1; omega
  have h2 := h.2.1
  have h2' := h'.2.1
  unfold maxLen at h2 h2'
  rw [← hn]
  have hle : n ≤ xs.length := by omega
  clear hn h h'
  have hne : ((n : Int) != (n : Int)) = false := by simp
  go_enter Try.func18, Try.ntmps18
  go_wp2_with fail
  go_loopw [5] (fun i wr => ∃ k : Nat, k ≤ n ∧ i = .int .i64 k ∧ Below w.heap.size w wr) (fun i _ => n - (intOf i).toNat)
  case atStart => exact ⟨0, Nat.zero_le _, rfl, Below.refl _ _⟩
  case round =>
    obtain ⟨k, hk, rfl, hb⟩ := hrel
    by_cases hlt : k < n
    · have hx : k < xs.length := by omega
      obtain ⟨b, o, rfl, hbl, hcell0⟩ := hc.out k xs[k] (List.getElem?_eq_getElem hx)
      obtain ⟨b', o', rfl, hbl', hcell0'⟩ := hc'.out k xs[k] (List.getElem?_eq_getElem hx)
      have c0 := LInt.cells (hcell0.below LInt.rec hb hbl)
      have d0 := LInt.cells (hcell0'.below LInt.rec hb hbl')
      simp only [LInt.rec_n, Nat.mul_one] at c0 d0
      clear hcell0 hcell0'
      generalize xs[k] = X at *
      have k0 : 0 ≤ (k : Int) := by omega
      have k1 : (k : Int) < (n : Int) := by omega
      go_wp2_with fail
      go_quiet (fail)
      have hb2 : Below w.heap.size w (wr.drewN nq) := hb.trans ((drawn_below _ _).mono hb.size)
      go_wp2_with fail
      go_roundw
      case rel => exact ⟨k + 1, by omega, by go_num, hb2⟩
      case measure => simp [intOf]; omega
    · go_wp2_with fail
      go_ret
      exact ⟨rfl, hb⟩
set_option maxRecDepth 100000 in
set_option maxHeartbeats 1600000 in
theorem rHas (v0 : Value) (z0 : List LInt.R) (a1 : Int) (w : World) (h0 : Is LInt.rec w v0 z0) :
    Calls Try.prog 25 #[v0, .int .i64 a1] w fun e w' => e = .returned (.bool (hasB z0 a1)) ∧ w = w' := by
  obtain ⟨a, cp, rfl, h0⟩ := h0
  have hc := h0.at_ LInt.rec
  obtain ⟨n, hn⟩ : ∃ n, n = z0.length := ⟨_, rfl⟩
  have hnb : n ≤ cp := by have := h0.1; omega
  have hn2 := h0.2.1
  unfold maxLen at hn2
  have HN := Lib.hid hn.symm
  rw [← hn]
  have hnle : n ≤ z0.length := by omega
  clear hn h0
  go_enter Try.func25, Try.ntmps25
  go_wp2_with fail
  go_loop [5] (fun i => ∃ k : Nat, k ≤ n ∧ i = .int .i64 k ∧ Hid (Sq.First (fun X => (X == a1)) z0 k)) (fun i => n - (intOf i).toNat)
  case atStart => exact ⟨0, Nat.zero_le _, rfl, Lib.hid Sq.first_zero⟩
  case round =>
    obtain ⟨k, hk, rfl, HF⟩ := hrel
    by_cases hlt : k < n
    · have hx : k < z0.length := by omega
      obtain ⟨b, o, rfl, hbl, hcell0⟩ := hc.out k z0[k] (List.getElem?_eq_getElem hx)
      have q0 := LInt.cells (hcell0)
      simp only [LInt.rec_n, Nat.mul_one] at q0
      have HX := Lib.hid (List.getElem?_eq_getElem hx)
      clear hcell0
      generalize z0[k] = X at *
      cases g : (X == a1) with
      | true =>
        have HI := Lib.hid (Sq.first_hit HF.out HX.out g)
        go_wp2_with fail
        go_ret
        exact ⟨ret_bool (by unfold hasB; rw [HI.out]; rfl), rfl⟩
      | false =>
        have HF2 := Lib.hid (Sq.first_next HF.out HX.out g)
        go_wp2_with fail
        go_round
        case rel => exact ⟨k + 1, by omega, by go_num, HF2⟩
        case measure => simp [intOf]; omega
    · have HI := Lib.hid (Sq.first_none HF.out (by have := HN.out; omega))
      go_wp2_with fail
      go_ret
      exact ⟨ret_bool (by unfold hasB; rw [HI.out]; rfl), rfl⟩
theorem rBig (a : Option Addr) (len cap : Nat) (w : World) : Calls Try.prog 14 #[.slice a len cap] w fun e w' => e = .returned (.bool (decide ((65536 : Int) < len))) ∧ w = w' := by
  go_enter Try.func14, Try.ntmps14
  go_wp2_with fail
  go_ret
  exact ⟨rfl, rfl⟩
theorem tot_bound : ∀ (l : List Int), (∀ x ∈ l, 0 ≤ x ∧ x ≤ 100000) → 0 ≤ tot l ∧ tot l ≤ 100000 * l.length
  | [], _ => ⟨Int.le_refl _, by show (0 : Int) ≤ 100000 * ((0 : Nat) : Int); omega⟩
  | x :: l, h => by
    have h1 := h x (List.mem_cons_self ..)
    have h2 := tot_bound l (fun y hy => h y (List.mem_cons_of_mem _ hy))
    show 0 ≤ x + tot l ∧ x + tot l ≤ 100000 * ((l.length + 1 : Nat) : Int)
    omega
set_option maxRecDepth 100000 in
set_option maxHeartbeats 1600000 in
theorem rSum (v0 : Value) (z : List Int) (w : World) (h0 : Is LInt.rec w v0 z) (hb : ∀ x ∈ z, 0 ≤ x ∧ x ≤ 100000) (hz : z.length ≤ 1000) :
    Calls Try.prog 20 #[v0] w fun e w' => e = .returned (.int .i64 (tot z)) ∧ w = w' := by
  have HBD := Lib.hid hb
  clear hb
  obtain ⟨a, cp, rfl, h0⟩ := h0
  have hc := h0.at_ LInt.rec
  obtain ⟨n, hn⟩ : ∃ n, n = z.length := ⟨_, rfl⟩
  have hnb : n ≤ cp := by have := h0.1; omega
  have hn2 := h0.2.1
  unfold maxLen at hn2
  have HN := Lib.hid hn.symm
  rw [← hn] at hz ⊢
  clear hn h0
  go_enter Try.func20, Try.ntmps20
  go_wp2_with fail
  go_loopw [3, 4] (fun s i wr => ∃ k : Nat, k ≤ n ∧ s = .int .i64 (tot (z.take k)) ∧ i = .int .i64 k ∧ wr = w) (fun _ i _ => n - (intOf i).toNat)
  case atStart => exact ⟨0, Nat.zero_le _, rfl, rfl, rfl⟩
  case round =>
    obtain ⟨k, hk, rfl, rfl, hw⟩ := hrel
    subst hw
    by_cases hlt : k < n
    · have hx : k < z.length := by have := HN.out; omega
      obtain ⟨b, o, rfl, hbl, hcell0⟩ := hc.out k z[k] (List.getElem?_eq_getElem hx)
      have q0 := LInt.cells hcell0
      simp only [LInt.rec_n, Nat.mul_one] at q0
      have HT := Lib.hid (tot_take (List.getElem?_eq_getElem hx))
      have hxb := HBD.out z[k] (List.getElem_mem hx)
      have htb := tot_bound (z.take k) (fun y hy => HBD.out y (List.mem_of_mem_take hy))
      have htl : (z.take k).length ≤ 1000 := by rw [List.length_take]; omega
      clear hcell0
      generalize z[k] = X at *
      generalize tot (z.take k) = S0 at *
      have e1 : IntKind.i64.wrap (S0 + X) = S0 + X := IntWalk.i64_in _ (by omega)
      clear hxb htb htl
      go_wp2_with fail
      go_roundw
      case rel => exact ⟨k + 1, by omega, by rw [HT.out], by go_num, by first | trivial | rfl⟩
      case measure => simp [intOf]; omega
    · have HE := Lib.hid (show z.take k = z from List.take_of_length_le (by have := HN.out; omega))
      go_wp2_with fail
      go_ret
      exact ⟨by rw [HE.out]; rfl, rfl⟩
theorem is_len {w : World} {b : Option Addr} {n c : Nat} {z : List Int} (h : Is LInt.rec w (.slice b n c) z) : z.length = n := by
  obtain ⟨a, cp, e, _⟩ := h
  simp only [Value.slice.injEq] at e
  exact e.2.1.symm
theorem is_weights {w : World} {s0 s1 : Value} {r : V} (hh : LVoters.Is w (.agg #[s0, s1]) r) : Is LInt.rec w s0 r.weights := by
  obtain ⟨u0, u1, e, h3, h4⟩ := hh
  simp only [Value.agg.injEq, Array.mk.injEq, List.cons.injEq, and_true] at e
  obtain ⟨rfl, rfl⟩ := e
  exact h3
set_option maxRecDepth 100000 in
set_option maxHeartbeats 1600000 in
theorem rVoters (v v' : Value) (r : V) (w : World) (h : LVoters.Is w v r) (h' : LVoters.Is w v' r) :
    Calls Try.prog 29 #[v, v'] w fun e w' => e = .returned (.bool true) ∧ Below w.heap.size w w' := by
  obtain ⟨a0, n0, c0, a1, n1, c1, rfl, HN0, HN1, hb0, hb1', hm0, hm1, hc0, hc1, HI⟩ := open_is h
  obtain ⟨a2, n2, c2, a3, n3, c3, rfl, HN2, HN3, hb2, hb3', hm2, hm3, hc2, hc3, HI2⟩ := open_is h'
  clear h h'
  obtain rfl : n2 = n0 := by have h1 := HN0.out; have h2 := HN2.out; omega
  obtain rfl : n3 = n1 := by have h1 := HN1.out; have h2 := HN3.out; omega
  obtain ⟨W, hW⟩ : ∃ W : World, W = (w.alloc (.cells #[.slice a0 n2 c0, .slice a1 n3 c1] 27)).alloc (.cells #[.slice a2 n2 c2, .slice a3 n3 c3] 27) := ⟨_, rfl⟩
  have hb : Below w.heap.size w W := by rw [hW]; exact ((Below.refl _ _).alloc (Nat.le_refl _) _).alloc (by simp) _
  have B0 := Lib.hid (show Bx W w.heap.size 27 #[.slice a0 n2 c0, .slice a1 n3 c1] by rw [hW]; exact (Bx.new _ _ _).alloc _)
  have B1 := Lib.hid (show Bx W (w.heap.size + 1) 27 #[.slice a2 n2 c2, .slice a3 n3 c3] by rw [hW]; have := Bx.new (w.alloc (.cells #[.slice a0 n2 c0, .slice a1 n3 c1] 27)) 27 #[.slice a2 n2 c2, .slice a3 n3 c3]; simpa using this)
  have HW := fun (b c d e : Option Addr) (n m p q : Nat) (hh : LVoters.Is W (.agg #[.slice b n m, .slice c p q]) r) => (show Is LInt.rec W (.slice b n m) r.weights by
    obtain ⟨u0, u1, e, h3, h4⟩ := hh
    simp only [Value.agg.injEq, Array.mk.injEq, List.cons.injEq, and_true] at e
    obtain ⟨rfl, rfl⟩ := e
    exact h3)
  have HC := Lib.hid (rInts _ _ r.weights W (HW a0 a1 none none n2 c0 n3 c1 (LVoters.Is.below HI.out hb)) (HW a2 a3 none none n2 c2 n3 c3 (LVoters.Is.below HI2.out hb)))
  clear HW
  have q0 := B0.out.cell 0
  have q1 := B0.out.cell 1
  simp only [List.getElem?_toArray, List.getElem?_cons_zero, List.getElem?_cons_succ] at q0 q1
  have p0 := B1.out.cell 0
  have p1 := B1.out.cell 1
  simp only [List.getElem?_toArray, List.getElem?_cons_zero, List.getElem?_cons_succ] at p0 p1
  have hne : ((n3 : Int) != (n3 : Int)) = false := by simp
  go_enter Try.func29, Try.ntmps29
  go_wp2_with fail
  rw [← hW]
  clear hW
  refine HC.out.mono ?_
  rintro e w1 ⟨rfl, hbc⟩
  have B2 := Lib.hid (B0.out.kept hbc)
  have B3 := Lib.hid (B1.out.kept hbc)
  replace hb := hb.trans (hbc.mono hb.size)
  clear q0 q1 p0 p1 hbc B0 B1 HC
  have q0 := B2.out.cell 0
  have q1 := B2.out.cell 1
  simp only [List.getElem?_toArray, List.getElem?_cons_zero, List.getElem?_cons_succ] at q0 q1
  have p0 := B3.out.cell 0
  have p1 := B3.out.cell 1
  simp only [List.getElem?_toArray, List.getElem?_cons_zero, List.getElem?_cons_succ] at p0 p1
  go_wp2_with fail
  clear q0 q1 p0 p1
  go_loopw [5] (fun i wr => ∃ k : Nat, k ≤ n3 ∧ i = .int .i64 k ∧ Below w1.heap.size w1 wr) (fun i _ => n3 - (intOf i).toNat)
  case atStart => exact ⟨0, Nat.zero_le _, rfl, Below.refl _ _⟩
  case round =>
    obtain ⟨k, hk, rfl, hbr⟩ := hrel
    have B4 := Lib.hid (B2.out.kept hbr)
    have B5 := Lib.hid (B3.out.kept hbr)
    have hb4 := hb.trans (hbr.mono hb.size)
    have q0 := B4.out.cell 0
    have q1 := B4.out.cell 1
    simp only [List.getElem?_toArray, List.getElem?_cons_zero, List.getElem?_cons_succ] at q0 q1
    have p0 := B5.out.cell 0
    have p1 := B5.out.cell 1
    simp only [List.getElem?_toArray, List.getElem?_cons_zero, List.getElem?_cons_succ] at p0 p1
    by_cases hlt : k < n3
    · have hx : k < r.proxies.length := by have := HN1.out; omega
      obtain ⟨b, o, rfl, hbl, hcell0⟩ := hc1.out k r.proxies[k] (List.getElem?_eq_getElem hx)
      obtain ⟨b', o', rfl, hbl', hcell0'⟩ := hc3.out k r.proxies[k] (List.getElem?_eq_getElem hx)
      obtain ⟨y0, y1⟩ := LProxy.cells (hcell0.below LProxy.rec hb4 hbl)
      obtain ⟨z0, z1⟩ := LProxy.cells (hcell0'.below LProxy.rec hb4 hbl')
      simp only [LProxy.rec_n] at y0 y1 z0 z1
      clear hcell0 hcell0'
      generalize r.proxies[k] = X at *
      have k0 : 0 ≤ (k : Int) := by omega
      have k1 : (k : Int) < (n3 : Int) := by omega
      go_wp2_with fail
      go_quiet (fail)
      have hb5 : Below w1.heap.size w1 (wr.drewN nq) := hbr.trans ((drawn_below _ _).mono hbr.size)
      go_wp2_with fail
      go_roundw
      case rel => exact ⟨k + 1, by omega, by go_num, hb5⟩
      case measure => simp [intOf]; omega
    · go_wp2_with fail
      go_ret
      exact ⟨rfl, hb4⟩
end Go.Proofs.Ytdjnaoaniokbgaa.VoQ
