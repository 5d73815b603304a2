/- Precedences: the order of the kinds, the model. No condition. -/
import Derived.Test.YtokdkponmefbaaaPrecO
import Derived.Test.YtokdkponmefbaaaPrecS
import Derived.Test.YtokdkponmefbaaaLIntK
namespace Go.Proofs.Ytokdkponmefbaaa.PrecO
open Go.RowKit Bs Word PrecM PrecB PrecG PrecS IntF
set_option linter.unusedVariables false
/-- what the search from above has found down to kind i -/
def Nx (z : List M) (xs : List Int) (k i : Nat) (v : Int) : Prop :=
  (v = -1 ∧ ∀ n : Nat, i ≤ n → n < k → ¬ Ready z xs n) ∨ ∃ q : Nat, v = q ∧ i ≤ q ∧ q < k ∧ Ready z xs q ∧ ∀ n : Nat, i ≤ n → n < q → ¬ Ready z xs n
theorem nx_start {z : List M} {xs : List Int} {k : Nat} : Nx z xs k k (-1) := .inl ⟨rfl, fun n h1 h2 => by omega⟩
theorem nx_hit {z : List M} {xs : List Int} {k n : Nat} (hn : n < k) (h : Ready z xs n) : Nx z xs k n n := .inr ⟨n, rfl, Nat.le_refl _, hn, h, fun i h1 h2 => by omega⟩
theorem nx_miss {z : List M} {xs : List Int} {k n : Nat} {v : Int} (h : Nx z xs k (n + 1) v) (hn : ¬ Ready z xs n) : Nx z xs k n v := by
  have step : ∀ (P : Nat → Prop), (∀ i : Nat, n + 1 ≤ i → P i → ¬ Ready z xs i) → ∀ i : Nat, n ≤ i → P i → ¬ Ready z xs i := fun P h i hi hp => by
    rcases Nat.lt_or_ge n i with h' | h'
    · exact h i h' hp
    · obtain rfl : i = n := by omega
      exact hn
  rcases h with ⟨rfl, h⟩ | ⟨q, rfl, h1, h2, h3, h4⟩
  · exact .inl ⟨rfl, step _ h⟩
  · exact .inr ⟨q, rfl, by omega, h2, h3, step _ h4⟩
theorem nx_end {z : List M} {xs : List Int} {k : Nat} {v : Int} (h : Nx z xs k 0 v) (hx : nxt z xs < k ∧ Ready z xs (nxt z xs)) : v = (nxt z xs : Nat) := by
  rcases h with ⟨rfl, h⟩ | ⟨q, rfl, h1, h2, h3, h4⟩
  · exact absurd hx.2 (h _ (Nat.zero_le _) hx.1)
  · rw [nxt_eq h3 (fun i hi => h4 i (Nat.zero_le _) hi)]
def Fl (z : List M) (xs : List Int) (n : Int) (j : Nat) (b : Bool) : Prop := b = true ↔ n ∉ xs ∧ Rest z xs n j
theorem fl_zero {z : List M} {xs : List Int} {n : Int} : Fl z xs n 0 (!hasB xs n) := by
  unfold Fl
  rw [Bool.not_eq_true', ← Bool.not_eq_true, has_iff]
  exact ⟨fun h => ⟨h, fun t x ht => by omega⟩, fun h => h.1⟩
theorem rest_prev {z : List M} {xs : List Int} {n : Int} {j : Nat} (h : Rest z xs n (j + 1)) : Rest z xs n j := fun t x ht hx => h t x (by omega) hx
theorem fl_off {z : List M} {xs : List Int} {n : Int} {j : Nat} (h : Fl z xs n j false) : Fl z xs n (j + 1) false := ⟨(fun h => by cases h), fun g => by have := h.2 ⟨g.1, rest_prev g.2⟩; cases this⟩
theorem fl_other {z : List M} {xs : List Int} {n : Int} {j : Nat} {X : M} (h : Fl z xs n j true) (hX : z[j]? = some X) (hb : X.b ≠ n) : Fl z xs n (j + 1) true := ⟨fun _ => ⟨(h.1 rfl).1, rest_next (h.1 rfl).2 hX (fun e => absurd e hb)⟩, fun _ => rfl⟩
theorem fl_same {z : List M} {xs : List Int} {n : Int} {j : Nat} {X : M} (h : Fl z xs n j true) (hX : z[j]? = some X) (hb : X.b = n) : Fl z xs n (j + 1) (hasB xs X.a) := by
  unfold Fl
  rw [has_iff]
  exact ⟨fun ha => ⟨(h.1 rfl).1, rest_next (h.1 rfl).2 hX (fun _ => ha)⟩, fun g => g.2 j X (Nat.lt_succ_self j) hX hb⟩
theorem fl_end {z : List M} {xs : List Int} {n : Int} {j : Nat} {b : Bool} (h : Fl z xs n j b) (hj : z.length ≤ j) : b = true ↔ Ready z xs n :=
  h.trans ⟨fun g => ⟨g.1, rest_all g.2 hj⟩, fun g => ⟨g.1, fun t x _ hx => g.2 x (List.mem_of_getElem? hx)⟩⟩
set_option maxRecDepth 100000 in
set_option maxHeartbeats 3200000 in
theorem orderS (v : Value) (r : LPrecedence.R) (w : World) (h : LPrecedence.Is w v r) :
    Calls Try.prog 26 #[v] w (Post r w) := by
  have HIS := Lib.hid h
  obtain ⟨K, z⟩ := r
  obtain ⟨s, rfl, h⟩ := h
  obtain ⟨a, cp, rfl, h⟩ := h
  simp only at h ⊢
  have hc := h.at_ LIntA2.rec
  obtain ⟨n, hn⟩ : ∃ n, n = z.length := ⟨_, rfl⟩
  have hnb : n ≤ cp := by have := h.1; omega
  have h2 := h.2.1
  unfold maxLen at h2
  have HN := Lib.hid hn.symm
  rw [← hn]
  have hle : n ≤ z.length := by omega
  clear hn h
  have hb0 := (Below.refl w.heap.size w).alloc (Nat.le_refl _) (.cells #[.int .i64 K, .slice a n cp] 26)
  have HB0 := Lib.hid (Bx.new w 26 #[.int .i64 K, .slice a n cp])
  obtain ⟨i9, hi, hz0, hz1, hz2⟩ := info_parts LInt.infoK
  have HI9 := Lib.hid hi
  have HZ9 := Lib.hid (And.intro hz0 (And.intro hz1 hz2))
  clear hi hz0 hz1 hz2
  have hIs := Lib.hid (show LPrecedence.Is w (.agg #[.int .i64 K, .slice a n cp]) ⟨K, z⟩ by rw [← HN.out]; exact HIS.out)
  have hbe := hb0.alloc hb0.size (Obj.cells #[] 3)
  have HBE := Lib.hid (HB0.out.alloc (Obj.cells #[] 3))
  have HIE := Lib.hid (hIs.out.below hbe)
  have HO0 := Lib.hid (show Own LInt.rec 3 ((w.alloc (.cells #[.int .i64 K, .slice a n cp] 26)).alloc (Obj.cells #[] 3)) (w.heap.size + 1) (.slice (some ⟨w.heap.size + 1, 0, none⟩) 0 0) [] by
    have h := Own.start (T := LInt.rec) (E := 3) (A := w.heap.size + 1) (w := w.alloc (.cells #[.int .i64 K, .slice a n cp] 26)) (by simp)
    rw [show (w.alloc (.cells #[.int .i64 K, .slice a n cp] 26)).heap.size = w.heap.size + 1 from by simp] at h
    exact h)
  have p0 := HBE.out.cell 0
  have p1 := HBE.out.cell 1
  simp only [List.getElem?_toArray, List.getElem?_cons_zero, List.getElem?_cons_succ] at p0 p1
  go_enter Try.func26, Try.ntmps26
  go_wp2_with fail
  refine (PrecG.l4Good _ ⟨K, z⟩ _ HIE.out).mono ?_
  rintro e w1 ⟨rfl, hb1⟩
  have hbx := hbe.trans (hb1.mono hbe.size)
  have HB1 := Lib.hid (HBE.out.kept hb1)
  have HI1 := Lib.hid (HIE.out.below hb1)
  have HO1 := Lib.hid (HO0.out.kept hb1)
  clear hb1 hb0 HB0 p0 p1 HBE HIE HO0 hbe HIS hIs
  simp only
  cases hg : goodB K z with
  | false =>
    have HA := Lib.hid (o_bad (r := ⟨K, z⟩) (by rw [hg]; rfl))
    clear hg
    go_wp2_with fail
    go_ret2
    exact ⟨_, [], false, rfl, HA.out, HO1.out.low (by omega), hbx⟩
  | true =>
    obtain ⟨k, rfl, hk1, hk8, hzl, hin, hin8⟩ := good_nat hg
    have HG := Lib.hid hg
    have HIn := Lib.hid hin
    clear hg hin hin8 hzl
    have p0 := HB1.out.cell 0
    have p1 := HB1.out.cell 1
    simp only [List.getElem?_toArray, List.getElem?_cons_zero, List.getElem?_cons_succ] at p0 p1
    go_wp2_with fail
    refine (PrecR.l4Sound _ ⟨(k : Int), z⟩ k _ HI1.out rfl HIn.out hk8).mono ?_
    rintro e w2 ⟨rfl, hb2⟩
    have hby := hbx.trans (hb2.mono hbx.size)
    have HB2 := Lib.hid (HB1.out.kept hb2)
    have HO2 := Lib.hid (HO1.out.kept hb2)
    clear hb2 hbx HB1 HO1 p0 p1 HI1
    simp only
    cases hs : soundB (k : Int) z with
    | false =>
      have HA := Lib.hid (o_bad (r := ⟨(k : Int), z⟩) (by simp only; rw [hs, Bool.and_false]))
      clear hs
      go_wp2_with fail
      go_ret2
      exact ⟨_, [], false, rfl, HA.out, HO2.out.low (by omega), hby⟩
    | true =>
      have HA := Lib.hid (o_good (z := z) (k := k) (by rw [HG.out, hs]; rfl))
      have HSd := Lib.hid (sound_of hs)
      clear hs
      go_wp2_with fail
      go_loopw [4] (fun so wr => ∃ (m : Nat) (o : Value), o = so ∧ m ≤ k ∧ Hid (Own LInt.rec 3 wr (w.heap.size + 1) o (ord z m)) ∧ Below w.heap.size w wr ∧ Hid (Bx wr w.heap.size 26 #[.int .i64 k, .slice a n cp])) (fun so _ => k - lenV so)
      case atStart => exact ⟨0, _, rfl, Nat.zero_le _, HO2, hby, HB2⟩
      case round =>
        clear hby HO2 HB2
        obtain ⟨m, o, rfl, hm, HO, hb, HBx⟩ := hrel
        obtain ⟨ao, co, rfl⟩ := shape_of HO.out
        rw [ord_len] at HO ⊢
        have HM1 := Lib.hid (show lenV (.slice ao m co) = m from rfl)
        have p0 := HBx.out.cell 0
        have p1 := HBx.out.cell 1
        simp only [List.getElem?_toArray, List.getElem?_cons_zero, List.getElem?_cons_succ] at p0 p1
        by_cases hlt : m < k
        · have hnx := nxt_ok HIn.out HSd.out (xs := ord z m) (by rw [ord_len]; exact hlt)
          have HRd := Lib.hid (And.intro hnx.1 hnx.2.1)
          have HOI := Lib.hid HO.out.is
          have e1 : IntKind.i64.wrap ((k : Int) - 1) = (k : Int) - 1 := IntWalk.i64_in _ (by omega)
          clear hnx
          go_wp2_with fail
          go_loop [5, 6] (fun sn si => ∃ (i : Nat) (d nv : Int), d + 1 = i ∧ i ≤ k ∧ si = .int .i64 d ∧ sn = .int .i64 nv ∧ Hid (Nx z (ord z m) k i nv)) (fun _ si => (intOf si + 1).toNat)
          case atStart => exact ⟨k, _, -1, by omega, Nat.le_refl _, rfl, rfl, Lib.hid nx_start⟩
          case round =>
            obtain ⟨i, d, nv, hd, hi, rfl, rfl, HNx⟩ := hrel
            cases i with
            | succ q =>
              obtain rfl : d = (q : Int) := by omega
              have hq0 : (0 : Int) ≤ (q : Int) := by omega
              have hqk : q < k := by omega
              have s1 : IntKind.i64.wrap ((q : Int) - 1) = (q : Int) - 1 := IntWalk.i64_in _ (by omega)
              clear hd
              go_wp2_with fail
              refine (IntF.l1Has _ _ (q : Int) _ HOI.out).mono ?_
              rintro e _ ⟨rfl, rfl⟩
              have HF0 := Lib.hid (fl_zero (z := z) (xs := ord z m) (n := (q : Int)))
              go_wp2_with fail
              go_loop [7, 8] (fun sr sj => ∃ (j : Nat) (b : Bool), j ≤ n ∧ sj = .int .i64 j ∧ sr = .bool b ∧ Hid (Fl z (ord z m) (q : Int) j b)) (fun _ sj => n - (intOf sj).toNat)
              case atStart => exact ⟨0, _, Nat.zero_le _, rfl, rfl, HF0⟩
              case round =>
                clear HF0
                obtain ⟨j, b, hj, rfl, rfl, HF⟩ := hrel
                by_cases hjn : j < n
                · have hx : j < z.length := by omega
                  obtain ⟨bb, oo, rfl, hbl, hcell0⟩ := hc.out j z[j] (List.getElem?_eq_getElem hx)
                  obtain ⟨q0, q1⟩ := LIntA2.cells (hcell0.below LIntA2.rec hb hbl)
                  simp only [LIntA2.rec_n] at q0 q1
                  have HX := Lib.hid (List.getElem?_eq_getElem hx)
                  clear hcell0
                  generalize z[j] = X at *
                  cases b with
                  | false =>
                    have HF2 := Lib.hid (fl_off HF.out)
                    go_wp2_with fail
                    go_round
                    case rel => exact ⟨j + 1, false, by omega, by go_num, rfl, HF2⟩
                    case measure => simp [intOf]; omega
                  | true =>
                    by_cases hbn : X.b = (q : Int)
                    · have g1 : (X.b != (q : Int)) = false := by simpa using hbn
                      have HF2 := Lib.hid (fl_same HF.out HX.out hbn)
                      clear hbn
                      go_wp2_with fail
                      refine (IntF.l1Has _ _ X.a _ HOI.out).mono ?_
                      rintro e _ ⟨rfl, rfl⟩
                      go_wp2_with fail
                      go_round
                      case rel => exact ⟨j + 1, _, by omega, by go_num, rfl, HF2⟩
                      case measure => simp [intOf]; omega
                    · have g1 : (X.b != (q : Int)) = true := by simpa using hbn
                      have HF2 := Lib.hid (fl_other HF.out HX.out hbn)
                      clear hbn
                      go_wp2_with fail
                      go_round
                      case rel => exact ⟨j + 1, true, by omega, by go_num, rfl, HF2⟩
                      case measure => simp [intOf]; omega
                · have HE := Lib.hid (fl_end HF.out (show z.length ≤ j by have := HN.out; omega))
                  clear HF
                  cases b with
                  | true =>
                    have HN2 := Lib.hid (nx_hit hqk (HE.out.1 rfl))
                    go_wp2_with fail
                    go_round
                    case rel => exact ⟨q, _, _, by omega, by omega, rfl, rfl, HN2⟩
                    case measure => first | (simp [intOf]; done) | (simp [intOf]; omega)
                  | false =>
                    have HN2 := Lib.hid (nx_miss HNx.out (fun hr => by have := HE.out.2 hr; cases this))
                    go_wp2_with fail
                    go_round
                    case rel => exact ⟨q, _, _, by omega, by omega, rfl, rfl, HN2⟩
                    case measure => first | (simp [intOf]; done) | (simp [intOf]; omega)
            | zero =>
              have hd0 : ¬ (0 : Int) ≤ d := by omega
              have HV := Lib.hid (nx_end HNx.out HRd.out)
              clear hd HNx
              have hsz : w.heap.size + 1 ≤ wr.heap.size := by have := HBx.out.lt; omega
              go_wp2_with (at_builtin; refine wpList_append_own _ rfl (.tmp 65) (.tmp 67) 28 rfl (w.heap.size + 1) 3 i9 (.int .i64 0) 1 8 Try.underlying28 HI9.out HZ9.out.1 HZ9.out.2.1 HZ9.out.2.2 rfl (by decide) _ _ _ rfl (Own.kept HO.out (by (repeat (first | assumption | exact Below.refl _ _ | refine Below.drew ?_ | refine Below.setCell ?_ (by first | (simp; done) | (simp; omega) | omega) _ | refine Below.alloc ?_ (by first | (simp; done) | (simp; omega) | omega) _)))) ⟨_, 0, none⟩ 1 1 [.int .i64 nv] rfl rfl ?c1 ?c2 ?c3 ?c4 ?c5 ?c6)
              try (case c1 => first | exact World.news_of_block (heap_alloc_new _ _) | exact World.news_of_block (alloc_two _ _ _))
              case c2 => first | rfl | (intro u hu; simp only [List.mem_cons, List.not_mem_nil, or_false] at hu; subst hu; rfl)
              case c3 => (have := ord_len z m; unfold maxLen; omega)
              case c4 => (have := ord_len z m; omega)
              case c5 => first | (simp; done) | (simp; omega) | omega
              case c6 =>
                intro v' w4 hown' hgrow _
                have hb3 : Below w.heap.size w w4 := Below.grown (by (repeat (first | assumption | exact Below.refl _ _ | refine Below.drew ?_ | refine Below.setCell ?_ (by first | (simp; done) | (simp; omega) | omega) _ | refine Below.alloc ?_ (by first | (simp; done) | (simp; omega) | omega) _))) hgrow (by first | (simp; done) | (simp; omega) | omega) (fun j hj => by have := (HO.out.lt j hj).1; omega)
                have HBx2 := Lib.hid (show Bx w4 w.heap.size 26 #[.int .i64 k, .slice a n cp] from (hgrow.block w.heap.size (by simp; have := HBx.out.lt; omega) (fun e => by have := (HO.out.lt _ e.symm).1; omega)).trans (Bx.alloc HBx.out _))
                have HO2 := Lib.hid (show Own LInt.rec 3 w4 (w.heap.size + 1) v' (ord z (m + 1)) by rw [ord, ← HV.out]; exact own_of LInt.rec hown' (by rw [List.length_append, ord_len]; rfl) (by rw [flat_append]; rfl))
                have HM2 := Lib.hid (show lenV v' = m + 1 by rw [lenV_own HO2.out, ord_len])
                clear hown' hgrow
                go_wp2_with fail
                go_roundw
                case rel => exact ⟨m + 1, _, rfl, by omega, HO2, hb3, HBx2⟩
                case measure =>
                  have h1 := HM2.out
                  have h2 := HM1.out
                  first | omega | (simp [lenV]; omega) | (rw [h1]; simp [lenV]; omega)
        · obtain rfl : m = k := by omega
          have HE := Lib.hid (HO.out.low (show w.heap.size ≤ w.heap.size + 1 by omega))
          go_wp2_with fail
          go_ret2
          exact ⟨_, _, true, rfl, HA.out, HE.out, hb⟩
end Go.Proofs.Ytokdkponmefbaaa.PrecO
