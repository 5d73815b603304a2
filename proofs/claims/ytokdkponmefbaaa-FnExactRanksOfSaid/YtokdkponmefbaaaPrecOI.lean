/- Precedences: the order of the kinds, the program. No condition. -/
import Derived.Test.YtokdkponmefbaaaPrecO
import Derived.Test.YtokdkponmefbaaaPrecS
import Derived.Test.YtokdkponmefbaaaLIntK
import Derived.Deep.DeepCutAuto
namespace Go.Proofs.Ytokdkponmefbaaa.PrecO
open Go.RowKit Bs Word PrecM PrecB PrecG PrecS IntF
set_option linter.unusedVariables false
set_option maxRecDepth 100000 in
set_option maxHeartbeats 1600000 in
theorem mayStand (v : Value) (r : LPrecedence.R) (v1 : Value) (xs : List Int) (c : Int) (w : World) (h : LPrecedence.Is w v r) (hx1 : Is LInt.rec w v1 xs) :
    Calls Try.prog 67 #[v, v1, .int .i64 c] w fun e w' => e = .returned (.bool (readyB r.over xs c)) ∧ Below w.heap.size w w' := by
  obtain ⟨K, z⟩ := r
  obtain ⟨s, rfl, h⟩ := h
  obtain ⟨a, cp, rfl, h⟩ := h
  simp only at h ⊢
  have hc := h.at_ LIntA2.rec
  obtain ⟨n, hn⟩ : ∃ n, n = z.length := ⟨_, rfl⟩
  have hnb : n ≤ cp := by have := h.1; omega
  have h2 := h.2.1
  unfold maxLen at h2
  have HN := Lib.hid hn.symm
  rw [← hn]
  have hle : n ≤ z.length := by omega
  clear hn h
  have hb0 := (Below.refl w.heap.size w).alloc (Nat.le_refl _) (.cells #[.int .i64 K, .slice a n cp] 26)
  have HB0 := Lib.hid (Bx.new w 26 #[.int .i64 K, .slice a n cp])
  have HX1 := Lib.hid hx1
  obtain ⟨ax, cx, rfl, _⟩ := hx1
  generalize xs.length = nx at *
  have p0 := HB0.out.cell 0
  have p1 := HB0.out.cell 1
  simp only [List.getElem?_toArray, List.getElem?_cons_zero, List.getElem?_cons_succ] at p0 p1
  go_enter Try.func67, Try.ntmps67
  go_wp2_with fail
  clear p0 p1
  generalize w.alloc (.cells #[.int .i64 K, .slice a n cp] 26) = wq at *
  go_loopw [12] (fun i wr => ∃ k : Nat, k ≤ n ∧ i = .int .i64 k ∧ Below w.heap.size w wr ∧ Hid (Rest z xs c k)) (fun i _ => n - (intOf i).toNat)
  case atStart => exact ⟨0, Nat.zero_le _, rfl, hb0, Lib.hid (fun t x ht => by omega)⟩
  case round =>
    clear hb0 HB0
    obtain ⟨k, hk, rfl, hb, HR⟩ := hrel
    by_cases hlt : k < n
    · have hx : k < z.length := by omega
      obtain ⟨b, o, rfl, hbl, hcell0⟩ := hc.out k z[k] (List.getElem?_eq_getElem hx)
      obtain ⟨q0, q1⟩ := LIntA2.cells (hcell0.below LIntA2.rec hb hbl)
      simp only [LIntA2.rec_n] at q0 q1
      have HX := Lib.hid (List.getElem?_eq_getElem hx)
      have HXM := Lib.hid (List.getElem_mem hx)
      clear hcell0
      generalize z[k] = X at *
      have hba := hb.alloc hb.size (Obj.cells #[.int .i64 X.a, .int .i64 X.b] 37)
      have HXI := Lib.hid (HX1.out.below LInt.rec hba)
      by_cases hbn : X.b = c
      · have e1 : (X.b == c) = true := by simpa using hbn
        have HBN := Lib.hid hbn
        clear hbn
        go_wp2_with fail
        refine (IntF.contains _ xs X.a _ HXI.out).mono ?_
        rintro e _ ⟨rfl, rfl⟩
        cases g : hasB xs X.a with
        | false =>
          have HF := Lib.hid (ready_bad HXM.out HBN.out (fun h => by rw [has_iff.2 h] at g; cases g))
          clear g
          go_wp2_with fail
          go_ret
          exact ⟨ret_bool HF.out.symm, hba⟩
        | true =>
          have HR2 := Lib.hid (rest_next HR.out HX.out (fun _ => has_iff.1 g))
          clear g
          go_wp2_with fail
          go_roundw
          case rel => exact ⟨k + 1, by omega, by go_num, hba, HR2⟩
          case measure => simp [intOf]; omega
      · have e1 : (X.b == c) = false := by simpa using hbn
        have HR2 := Lib.hid (rest_next HR.out HX.out (fun h => absurd h hbn))
        clear hbn
        go_wp2_with fail
        go_roundw
        case rel => exact ⟨k + 1, by omega, by go_num, hba, HR2⟩
        case measure => simp [intOf]; omega
    · have HE := Lib.hid (ready_end (rest_all HR.out (show z.length ≤ k by have := HN.out; omega)))
      have HXI := Lib.hid (HX1.out.below LInt.rec hb)
      go_wp2_with fail
      refine (IntF.contains _ xs c _ HXI.out).mono ?_
      rintro e _ ⟨rfl, rfl⟩
      go_wp2_with fail
      go_ret
      exact ⟨ret_bool HE.out.symm, hb⟩
set_option maxRecDepth 100000 in
set_option maxHeartbeats 1600000 in
theorem orderI (v : Value) (r : LPrecedence.R) (w : World) (h : LPrecedence.Is w v r) :
    Calls Try.prog 25 #[v] w (Post r w) := by
  obtain ⟨K, z⟩ := r
  obtain ⟨s, rfl, h⟩ := h
  obtain ⟨a, cp, rfl, h⟩ := h
  simp only at h ⊢
  have hIs := Lib.hid (show LPrecedence.Is w (.agg #[.int .i64 K, .slice a z.length cp]) ⟨K, z⟩ from ⟨_, rfl, a, cp, rfl, h⟩)
  obtain ⟨n, hn⟩ : ∃ n, n = z.length := ⟨_, rfl⟩
  have hnb : n ≤ cp := by have := h.1; omega
  have h2 := h.2.1
  unfold maxLen at h2
  have HN := Lib.hid hn.symm
  rw [← hn] at hIs ⊢
  have hle : n ≤ z.length := by omega
  clear hn h
  have hb0 := (Below.refl w.heap.size w).alloc (Nat.le_refl _) (.cells #[.int .i64 K, .slice a n cp] 26)
  have HB0 := Lib.hid (Bx.new w 26 #[.int .i64 K, .slice a n cp])
  have HI0 := Lib.hid (hIs.out.below hb0)
  obtain ⟨i9, hi, hz0, hz1, hz2⟩ := info_parts LInt.infoK
  have HI9 := Lib.hid hi
  have HZ9 := Lib.hid (And.intro hz0 (And.intro hz1 hz2))
  clear hi hz0 hz1 hz2
  go_enter Try.func25, Try.ntmps25
  go_wp2_with fail
  refine (PrecS.soundI _ ⟨K, z⟩ _ HI0.out).mono ?_
  rintro e w1 ⟨r0, r1, rfl, hs, hb1⟩
  have hbx := hb0.trans (hb1.mono hb0.size)
  have HB1 := Lib.hid (HB0.out.kept hb1)
  have HI1 := Lib.hid (HI0.out.below hb1)
  clear hb1 hb0 HB0 HI0
  have HO := Lib.hid (Own.start (T := LInt.rec) (E := 3) (w := w1) hbx.size)
  have hbz := hbx.alloc hbx.size (Obj.cells #[] 3)
  cases hg : goodB K z with
  | false =>
    have HA := Lib.hid (o_bad (r := ⟨K, z⟩) (by rw [hg]; rfl))
    rw [sound_bad (r := ⟨K, z⟩) hg] at hs
    simp only [Prod.mk.injEq] at hs
    obtain ⟨rfl, rfl⟩ := hs
    clear hg
    go_wp2_with fail
    go_ret2
    exact ⟨_, [], false, rfl, HA.out, HO.out, hbz⟩
  | true =>
    rw [sound_good (r := ⟨K, z⟩) hg] at hs
    simp only [Prod.mk.injEq] at hs
    obtain ⟨rfl, rfl⟩ := hs
    cases hs : soundB K z with
    | false =>
      have HA := Lib.hid (o_bad (r := ⟨K, z⟩) (by rw [hs, Bool.and_false]))
      clear hg hs
      go_wp2_with fail
      go_ret2
      exact ⟨_, [], false, rfl, HA.out, HO.out, hbz⟩
    | true =>
      obtain ⟨k, rfl, hk1, hk8, hzl, hin, hin8⟩ := good_nat hg
      have HA := Lib.hid (o_good (z := z) (k := k) (by rw [hg, hs]; rfl))
      have HIn := Lib.hid hin
      have HSd := Lib.hid (sound_of hs)
      have HB2 := Lib.hid (HB1.out.alloc (Obj.cells #[] 3))
      have hbA := (Below.refl w1.heap.size w1).alloc (Nat.le_refl _) (Obj.cells #[] 3)
      have HO0 := Lib.hid (Own.start (T := LInt.rec) (E := 3) (w := w1) (Nat.le_refl _))
      clear hg hs hin hin8 hzl HO hbz
      go_wp2_with fail
      clear HB2
      generalize hwA : w1 = wA at *
      clear hwA
      go_loopw [6] (fun so wr => ∃ (m : Nat) (o : Value), o = so ∧ m ≤ k ∧ Hid (Own LInt.rec 3 wr wA.heap.size o (ord z m)) ∧ Below wA.heap.size wA wr) (fun so _ => k - lenV so)
      case atStart => exact ⟨0, _, rfl, Nat.zero_le _, HO0, hbA⟩
      case round =>
        clear hbA HO0
        obtain ⟨m, o, rfl, hm, HO, hb⟩ := hrel
        have HB3 := Lib.hid (HB1.out.kept hb)
        have HI3 := Lib.hid (HI1.out.below hb)
        obtain ⟨ao, co, rfl⟩ := shape_of HO.out
        rw [ord_len] at HO ⊢
        have HM1 := Lib.hid (show lenV (.slice ao m co) = m from rfl)
        have p0 := HB3.out.cell 0
        have p1 := HB3.out.cell 1
        simp only [List.getElem?_toArray, List.getElem?_cons_zero, List.getElem?_cons_succ] at p0 p1
        by_cases hlt : m < k
        · have hnx := nxt_ok HIn.out HSd.out (xs := ord z m) (by rw [ord_len]; exact hlt)
          have HNx0 := Lib.hid (show nxt z (ord z m) = nxt z (ord z m) from rfl)
          obtain ⟨nx, hnxe⟩ : ∃ nx, nxt z (ord z m) = nx := ⟨_, rfl⟩
          have HNx := Lib.hid hnxe
          rw [hnxe] at hnx
          have HRd := Lib.hid hnx.2
          have hnk : nx < k := hnx.1
          clear hnx hnxe HNx0
          go_wp2_with fail
          go_loopw [7] (fun i wr => ∃ j : Nat, j ≤ nx ∧ i = .int .i64 j ∧ Hid (Own LInt.rec 3 wr wA.heap.size (.slice ao m co) (ord z m)) ∧ Below wA.heap.size wA wr) (fun i _ => nx + 1 - (intOf i).toNat)
          case atStart => exact ⟨0, Nat.zero_le _, rfl, HO, hb⟩
          case round =>
            clear HO hb HB3 HI3 p0 p1
            obtain ⟨j, hj, rfl, HO, hb⟩ := hrel
            have HB3 := Lib.hid (HB1.out.kept hb)
            have HI3 := Lib.hid (HI1.out.below hb)
            have p0 := HB3.out.cell 0
            have p1 := HB3.out.cell 1
            simp only [List.getElem?_toArray, List.getElem?_cons_zero, List.getElem?_cons_succ] at p0 p1
            go_wp2_with fail
            refine (mayStand _ ⟨(k : Int), z⟩ _ (ord z m) (j : Int) _ HI3.out HO.out.is).mono ?_
            rintro e w5 ⟨rfl, hb5⟩
            simp only
            by_cases hjn : j < nx
            · rw [ready_no.2 (HRd.out.2 j hjn)]
              have HO5 := Lib.hid (HO.out.kept hb5)
              have hb6 := hb.trans (hb5.mono hb.size)
              clear hb5 HO hb p0 p1
              go_wp2_with fail
              go_roundw
              case rel => exact ⟨j + 1, by omega, by go_num, HO5, hb6⟩
              case measure => simp [intOf]; omega
            · obtain rfl : j = nx := by omega
              rw [ready_iff.2 HRd.out.1]
              replace HO := Lib.hid (HO.out.kept hb5)
              replace hb := hb.trans (hb5.mono hb.size)
              clear hb5 p0 p1 HB3 HI3
              have hsz := hb.size
              go_wp2_with (at_builtin; refine wpList_append_own _ rfl (.tmp 33) (.tmp 35) 28 rfl wA.heap.size 3 i9 (.int .i64 0) 1 8 Try.underlying28 HI9.out HZ9.out.1 HZ9.out.2.1 HZ9.out.2.2 rfl (by decide) _ _ _ rfl (Own.kept HO.out (by (repeat (first | assumption | exact Below.refl _ _ | refine Below.drew ?_ | refine Below.setCell ?_ (by first | (simp; done) | (simp; omega) | omega) _ | refine Below.alloc ?_ (by first | (simp; done) | (simp; omega) | omega) _)))) ⟨_, 0, none⟩ 1 1 [.int .i64 (j : Int)] rfl rfl ?c1 ?c2 ?c3 ?c4 ?c5 ?c6)
              try (case c1 => first | exact World.news_of_block (heap_alloc_new _ _) | exact World.news_of_block (alloc_two _ _ _))
              case c2 => first | rfl | (intro u hu; simp only [List.mem_cons, List.not_mem_nil, or_false] at hu; subst hu; rfl)
              case c3 => (have := ord_len z m; unfold maxLen; omega)
              case c4 => (have := ord_len z m; omega)
              case c5 => first | (simp; done) | (simp; omega) | omega
              case c6 =>
                intro v' w4 hown' hgrow _
                have hb3 : Below wA.heap.size wA w4 := Below.grown (by (repeat (first | assumption | exact Below.refl _ _ | refine Below.drew ?_ | refine Below.setCell ?_ (by first | (simp; done) | (simp; omega) | omega) _ | refine Below.alloc ?_ (by first | (simp; done) | (simp; omega) | omega) _))) hgrow (by first | (simp; done) | (simp; omega) | omega) (fun j hj => (HO.out.lt j hj).1)
                have HO2 := Lib.hid (show Own LInt.rec 3 w4 wA.heap.size v' (ord z (m + 1)) by rw [ord, HNx.out]; exact own_of LInt.rec hown' (by rw [List.length_append, ord_len]; rfl) (by rw [flat_append]; rfl))
                have HM2 := Lib.hid (show lenV v' = m + 1 by rw [lenV_own HO2.out, ord_len])
                clear hown' hgrow
                go_wp2_with fail
                go_roundw
                case rel => exact ⟨m + 1, _, rfl, by omega, HO2, hb3⟩
                case measure =>
                  have h1 := HM2.out
                  have h2 := HM1.out
                  first | omega | (simp [lenV]; omega) | (rw [h1]; simp [lenV]; omega)
        · obtain rfl : m = k := by omega
          have HE := Lib.hid (HO.out.low hbx.size)
          have hbz := hbx.trans (hb.mono hbx.size)
          go_wp2_with fail
          go_ret2
          exact ⟨_, _, true, rfl, HA.out, HE.out, hbz⟩
end Go.Proofs.Ytokdkponmefbaaa.PrecO
