/- BlockedKinds, model and program: what both answer. -/
import Derived.Test.YtokdkponmefbaaaPrecF
import Derived.Maps.AppendAt
namespace Go.Proofs.Ytokdkponmefbaaa.BlockedKindsC
open Go.RowKit Bs Word PrecM PrecB PrecG PrecR PrecY PrecS PrecF IntF
set_option linter.unusedVariables false
noncomputable def blk (z : List M) (c : Int) : Int → Bool := fun n => (n != c) && !(yieldsB z c n)
theorem blk_eq {z : List M} {c n : Int} (h : n = c) : blk z c n = false := by unfold blk; subst h; simp
theorem blk_ne {z : List M} {c n : Int} (h : n ≠ c) : blk z c n = !(yieldsB z c n) := by unfold blk; rw [show (n != c) = true by simpa using h, Bool.true_and]
noncomputable def bA (r : LPrecedence.R) (c : Int) : List Int × Bool := if (goodB r.kinds r.over && inK r.kinds c) = true then ((kinds r.kinds.toNat).filter (blk r.over c), true) else ([], false)
theorem b_bad {r : LPrecedence.R} {c : Int} (h : (goodB r.kinds r.over && inK r.kinds c) = false) : bA r c = ([], false) := by unfold bA; rw [h]; rfl
theorem b_good {z : List M} {k : Nat} {c : Int} (h : (goodB (k : Int) z && inK (k : Int) c) = true) : bA ⟨(k : Int), z⟩ c = ((kinds k).filter (blk z c), true) := by unfold bA; simp only; rw [h]; rfl
theorem has_in {K : Nat} {z : List M} {c : Int} {j : Nat} (hj : j < K) : hasB (reach K z c) j = yieldsB z c j := by
  rw [Bool.eq_iff_iff, has_iff, mem_reach, yields_iff]
  exact ⟨fun h => h.2, fun h => ⟨⟨by omega, by omega⟩, h⟩⟩
def Ans (z0 : LPrecedence.R) (a1 : Int) (r0 : List Int) (r1 : Bool) : Prop := bA z0 a1 = (r0, r1)
theorem same {z0 : LPrecedence.R} {a1 : Int} {r0 s0 : List Int} {r1 s1 : Bool} (h : Ans z0 a1 r0 r1) (h' : Ans z0 a1 s0 s1) : r0 = s0 ∧ r1 = s1 := by have := h.symm.trans h'; simpa using this
theorem len0 {z0 : LPrecedence.R} {a1 : Int} {r0 : List Int} {r1 : Bool} (h : Ans z0 a1 r0 r1) : r0.length ≤ 1048576 := by
  unfold Ans bA at h
  split at h
  · rename_i hg
    simp only [Prod.mk.injEq] at h
    rw [Bool.and_eq_true] at hg
    have h8 := (good_of hg.1).2.1
    have := flt_len (blk z0.over a1) z0.kinds.toNat
    rw [← h.1]
    omega
  · simp only [Prod.mk.injEq] at h; rw [← h.1]; simp
def Post (z0 : LPrecedence.R) (a1 : Int) (w : World) (e : Ending) (w' : World) : Prop := ∃ v0 r0 r1, e = .returned (.tuple #[v0, .bool r1]) ∧ Ans z0 a1 r0 r1 ∧ Own LInt.rec 3 w' w.heap.size v0 r0 ∧ Below w.heap.size w w'
set_option maxRecDepth 100000 in
set_option maxHeartbeats 3200000 in
theorem specB (v : Value) (r : LPrecedence.R) (c : Int) (w : World) (h : LPrecedence.Is w v r) :
    Calls Try.prog 38 #[v, .int .i64 c] w (Post r c w) := by
  obtain ⟨K, z⟩ := r
  obtain ⟨s, rfl, h⟩ := h
  obtain ⟨a, cp, rfl, h⟩ := h
  simp only at h ⊢
  have hIs := Lib.hid (show LPrecedence.Is w (.agg #[.int .i64 K, .slice a z.length cp]) ⟨K, z⟩ from ⟨_, rfl, a, cp, rfl, h⟩)
  obtain ⟨n, hn⟩ : ∃ n, n = z.length := ⟨_, rfl⟩
  have hnb : n ≤ cp := by have := h.1; omega
  have h2 := h.2.1
  unfold maxLen at h2
  have HN := Lib.hid hn.symm
  rw [← hn] at hIs ⊢
  have hle : n ≤ z.length := by omega
  clear hn h
  have hb0 := (Below.refl w.heap.size w).alloc (Nat.le_refl _) (.cells #[.int .i64 K, .slice a n cp] 26)
  have HB0 := Lib.hid (Bx.new w 26 #[.int .i64 K, .slice a n cp])
  have HI0 := Lib.hid (hIs.out.below hb0)
  obtain ⟨i9, hi, hz0, hz1, hz2⟩ := info_parts LInt.infoK
  have HI9 := Lib.hid hi
  have HZ9 := Lib.hid (And.intro hz0 (And.intro hz1 hz2))
  clear hi hz0 hz1 hz2
  have hbe := hb0.alloc hb0.size (Obj.cells #[] 3)
  have HBE := Lib.hid (HB0.out.alloc (Obj.cells #[] 3))
  have HIE := Lib.hid (hIs.out.below hbe)
  have HO0 := Lib.hid (show Own LInt.rec 3 ((w.alloc (.cells #[.int .i64 K, .slice a n cp] 26)).alloc (Obj.cells #[] 3)) (w.heap.size + 1) (.slice (some ⟨w.heap.size + 1, 0, none⟩) 0 0) [] by
    have h := Own.start (T := LInt.rec) (E := 3) (A := w.heap.size + 1) (w := w.alloc (.cells #[.int .i64 K, .slice a n cp] 26)) (by simp)
    rw [show (w.alloc (.cells #[.int .i64 K, .slice a n cp] 26)).heap.size = w.heap.size + 1 from by simp] at h
    exact h)
  have HG0 := Lib.hid (show w.heap.size + 1 < ((w.alloc (.cells #[.int .i64 K, .slice a n cp] 26)).alloc (Obj.cells #[] 3)).heap.size by simp)
  have p0 := HBE.out.cell 0
  have p1 := HBE.out.cell 1
  simp only [List.getElem?_toArray, List.getElem?_cons_zero, List.getElem?_cons_succ] at p0 p1
  go_enter Try.func38, Try.ntmps38
  go_wp2_with fail
  refine (PrecS.l4Kind _ ⟨K, z⟩ c _ HIE.out).mono ?_
  rintro e w1 ⟨rfl, hb1⟩
  have hbx := hbe.trans (hb1.mono hbe.size)
  have HB1 := Lib.hid (HBE.out.kept hb1)
  have HI1 := Lib.hid (HIE.out.below hb1)
  have HO1 := Lib.hid (HO0.out.kept hb1)
  have HG1 := Lib.hid (show (w.heap.size + 1) < w1.heap.size from Nat.lt_of_lt_of_le HG0.out hb1.size)
  clear hb1 hb0 HB0 HI0 p0 p1 HBE HIE HO0 hbe HG0
  simp only
  cases hg : (goodB K z && inK K c) with
  | false =>
    have HA := Lib.hid (b_bad (r := ⟨K, z⟩) hg)
    clear hg
    go_wp2_with fail
    go_ret2
    exact ⟨_, [], false, rfl, HA.out, HO1.out.low (by omega), hbx⟩
  | true =>
    have HA0 := Lib.hid hg
    rw [Bool.and_eq_true] at hg
    obtain ⟨k, rfl, hk1, hk8, hzl, hin, hin8⟩ := good_nat hg.1
    have HA := Lib.hid (b_good HA0.out)
    have HIn := Lib.hid hin
    clear hg hin hin8 hzl HA0
    have p0 := HB1.out.cell 0
    have p1 := HB1.out.cell 1
    simp only [List.getElem?_toArray, List.getElem?_cons_zero, List.getElem?_cons_succ] at p0 p1
    go_wp2_with fail
    refine (PrecR.l4Reach _ ⟨(k : Int), z⟩ c k _ HI1.out HIn.out hk8).mono ?_
    rintro e w2 ⟨u, rfl, ho, hu, hb2⟩
    have hby := hbx.trans (hb2.mono hbx.size)
    have HU := Lib.hid (ho.low hbx.size)
    have HO2 := Lib.hid (HO1.out.kept hb2)
    have HB2 := Lib.hid (HB1.out.kept hb2)
    have HD := Lib.hid (show ∀ g, (Value.slice (some ⟨w.heap.size + 1, 0, none⟩) 0 0).ownBlock = some g → u.ownBlock ≠ some g from fun g hg hu => by
      have h1 := (ho.lt g hu).1
      have h2 := HG1.out
      simp only [Value.ownBlock, Option.some.injEq] at hg
      omega)
    clear ho hu hb2 HB1 HO1 p0 p1 hbx
    go_wp2_with fail
    go_loopw [6, 8] (fun so i wr => ∃ (j : Nat) (o : Value) (zs : List Int), o = so ∧ j ≤ k ∧ i = .int .i64 j ∧ Hid (zs = (kinds j).filter (blk z c)) ∧ zs.length ≤ j ∧ Hid (Own LInt.rec 3 wr (w.heap.size + 1) o zs) ∧ Hid (Own LInt.rec 3 wr w.heap.size u (reach k z c)) ∧ Hid (∀ g, o.ownBlock = some g → u.ownBlock ≠ some g) ∧ Below w.heap.size w wr ∧ Hid (Bx wr w.heap.size 26 #[.int .i64 k, .slice a n cp])) (fun _ i _ => k - (intOf i).toNat)
    case atStart => exact ⟨0, _, [], rfl, Nat.zero_le _, rfl, Lib.hid rfl, Nat.le_refl _, HO2, HU, HD, hby, HB2⟩
    case round =>
      clear hby HO2 HU HD HB2
      obtain ⟨j, o, zs, rfl, hj, rfl, HZ, hzl, HO, HU, HD, hb, HBx⟩ := hrel
      have p0 := HBx.out.cell 0
      have p1 := HBx.out.cell 1
      simp only [List.getElem?_toArray, List.getElem?_cons_zero, List.getElem?_cons_succ] at p0 p1
      by_cases hlt : j < k
      · by_cases hjc : (j : Int) = c
        · have HZ2 := Lib.hid (flt_no HZ.out (blk_eq (z := z) hjc))
          have e1 : ((j : Int) != c) = false := by simpa using hjc
          clear hjc
          go_wp2_with fail
          go_roundw
          case rel => exact ⟨j + 1, o, zs, rfl, by omega, by go_num, HZ2, by omega, HO, HU, HD, hb, HBx⟩
          case measure => simp [intOf]; omega
        · have e1 : ((j : Int) != c) = true := by simpa using hjc
          have HPN := Lib.hid (blk_ne (z := z) hjc)
          clear hjc
          go_wp2_with fail
          refine (IntF.l1Has _ _ (j : Int) _ HU.out.is).mono ?_
          rintro e _ ⟨rfl, rfl⟩
          rw [has_in hlt]
          cases g : yieldsB z c (j : Int) with
          | true =>
            have HZ2 := Lib.hid (flt_no HZ.out (show blk z c (j : Int) = false by rw [HPN.out, g]; rfl))
            clear g
            go_wp2_with fail
            go_roundw
            case rel => exact ⟨j + 1, o, zs, rfl, by omega, by go_num, HZ2, by omega, HO, HU, HD, hb, HBx⟩
            case measure => simp [intOf]; omega
          | false =>
            have HPJ := Lib.hid (show blk z c (j : Int) = true by rw [HPN.out, g]; rfl)
            clear g
            have HZ2 := Lib.hid (flt_yes HZ.out HPJ.out)
            have hsz : (w.heap.size + 1) ≤ wr.heap.size := by have := HBx.out.lt; omega
            go_wp2_with (at_builtin; refine wpList_append_own_at _ rfl (.tmp 33) (.tmp 35) 28 rfl (w.heap.size + 1) 3 i9 (.int .i64 0) 1 8 Try.underlying28 HI9.out HZ9.out.1 HZ9.out.2.1 HZ9.out.2.2 rfl (by decide) _ _ _ rfl (Own.kept HO.out (by (repeat (first | assumption | exact Below.refl _ _ | refine Below.drew ?_ | refine Below.setCell ?_ (by first | (simp; done) | (simp; omega) | omega) _ | refine Below.alloc ?_ (by first | (simp; done) | (simp; omega) | omega) _)))) ⟨_, 0, none⟩ 1 1 [.int .i64 j] rfl rfl ?c1 ?c2 ?c3 ?c4 ?c5 ?c6)
            try (case c1 => first | exact World.news_of_block (heap_alloc_new _ _) | exact World.news_of_block (alloc_two _ _ _))
            case c2 => first | rfl | (intro u hu; simp only [List.mem_cons, List.not_mem_nil, or_false] at hu; subst hu; rfl)
            case c3 => unfold maxLen; omega
            case c4 => omega
            case c5 => first | (simp; done) | (simp; omega) | omega
            case c6 =>
              intro v' w4 hown' hgrow _ hat
              have hb3 : Below w.heap.size w w4 := Below.grown (by (repeat (first | assumption | exact Below.refl _ _ | refine Below.drew ?_ | refine Below.setCell ?_ (by first | (simp; done) | (simp; omega) | omega) _ | refine Below.alloc ?_ (by first | (simp; done) | (simp; omega) | omega) _))) hgrow (by first | (simp; done) | (simp; omega) | omega) (fun j hj => by have := (HO.out.lt j hj).1; omega)
              have HBx2 := Lib.hid (show Bx w4 w.heap.size 26 #[.int .i64 k, .slice a n cp] from (hgrow.block w.heap.size (by simp; have := HBx.out.lt; omega) (fun e => by have := (HO.out.lt _ e.symm).1; omega)).trans (Bx.alloc HBx.out _))
              have HO2 := Lib.hid (show Own LInt.rec 3 w4 (w.heap.size + 1) v' (zs ++ [(j : Int)]) from own_of LInt.rec hown' (by simp) (by rw [flat_append]; rfl))
              have HU2 := Lib.hid (show Own LInt.rec 3 w4 w.heap.size u (reach k z c) from (HU.out.alloc _).same (fun g hg => hgrow.block g ((HU.out.alloc _).lt g hg).2 (fun e => HD.out g e.symm hg)))
              have HD2 := Lib.hid (show ∀ g, v'.ownBlock = some g → u.ownBlock ≠ some g from fun g hg hu => by
                rcases hat with e | e
                · exact HD.out g (by rw [← e]; exact hg) hu
                · rw [hg] at e
                  have h1 := (HU.out.lt g hu).2
                  have h2 := Option.some.inj e
                  (try simp at h2)
                  omega)
              clear hown' hgrow hat
              go_wp2_with fail
              go_roundw
              case rel => exact ⟨j + 1, _, _, rfl, by omega, by go_num, HZ2, by simp; omega, HO2, HU2, HD2, hb3, HBx2⟩
              case measure => simp [intOf]; omega
      · obtain rfl : j = k := by omega
        have HE := Lib.hid (show Own LInt.rec 3 wr w.heap.size o ((kinds j).filter (blk z c)) by rw [← HZ.out]; exact HO.out.low (by omega))
        go_wp2_with fail
        go_ret2
        exact ⟨_, _, true, rfl, HA.out, HE.out, hb⟩
set_option maxRecDepth 100000 in
set_option maxHeartbeats 3200000 in
theorem implB (v : Value) (r : LPrecedence.R) (c : Int) (w : World) (h : LPrecedence.Is w v r) :
    Calls Try.prog 37 #[v, .int .i64 c] w (Post r c w) := by
  obtain ⟨K, z⟩ := r
  obtain ⟨s, rfl, h⟩ := h
  obtain ⟨a, cp, rfl, h⟩ := h
  simp only at h ⊢
  have hIs := Lib.hid (show LPrecedence.Is w (.agg #[.int .i64 K, .slice a z.length cp]) ⟨K, z⟩ from ⟨_, rfl, a, cp, rfl, h⟩)
  obtain ⟨n, hn⟩ : ∃ n, n = z.length := ⟨_, rfl⟩
  have hnb : n ≤ cp := by have := h.1; omega
  have h2 := h.2.1
  unfold maxLen at h2
  have HN := Lib.hid hn.symm
  rw [← hn] at hIs ⊢
  have hle : n ≤ z.length := by omega
  clear hn h
  have hb0 := (Below.refl w.heap.size w).alloc (Nat.le_refl _) (.cells #[.int .i64 K, .slice a n cp] 26)
  have HB0 := Lib.hid (Bx.new w 26 #[.int .i64 K, .slice a n cp])
  have HI0 := Lib.hid (hIs.out.below hb0)
  obtain ⟨i9, hi, hz0, hz1, hz2⟩ := info_parts LInt.infoK
  have HI9 := Lib.hid hi
  have HZ9 := Lib.hid (And.intro hz0 (And.intro hz1 hz2))
  clear hi hz0 hz1 hz2
  go_enter Try.func37, Try.ntmps37
  go_wp2_with fail
  refine (PrecF.yieldsI _ ⟨K, z⟩ c _ HI0.out).mono ?_
  rintro e w1 ⟨u, r0, r1, rfl, hy, ho, hu, hb1⟩
  have hbx := hb0.trans (hb1.mono hb0.size)
  have HB1 := Lib.hid (HB0.out.kept hb1)
  have HU0 := Lib.hid ho
  clear hb1 hb0 HB0 HI0 ho hu
  cases hg : (goodB K z && inK K c) with
  | false =>
    have HA := Lib.hid (b_bad (r := ⟨K, z⟩) hg)
    rw [y_bad (r := ⟨K, z⟩) hg] at hy
    simp only [Prod.mk.injEq] at hy
    obtain ⟨rfl, rfl⟩ := hy
    clear hg
    have HO := Lib.hid (Own.start (T := LInt.rec) (E := 3) (w := w1) hbx.size)
    have hbz := hbx.alloc hbx.size (Obj.cells #[] 3)
    go_wp2_with fail
    go_ret2
    exact ⟨_, [], false, rfl, HA.out, HO.out, hbz⟩
  | true =>
    have HA0 := Lib.hid hg
    rw [Bool.and_eq_true] at hg
    obtain ⟨k, rfl, hk1, hk8, _, _, _⟩ := good_nat hg.1
    rw [y_good hg.1 hg.2] at hy
    simp only [Prod.mk.injEq] at hy
    obtain ⟨rfl, rfl⟩ := hy
    have HA := Lib.hid (b_good HA0.out)
    have HB2 := Lib.hid (HB1.out.alloc (Obj.cells #[] 3))
    have hbA := (Below.refl w1.heap.size w1).alloc (Nat.le_refl _) (Obj.cells #[] 3)
    have HO0 := Lib.hid (Own.start (T := LInt.rec) (E := 3) (w := w1) (Nat.le_refl _))
    clear hg HA0 HB1
    have p0 := HB2.out.cell 0
    have p1 := HB2.out.cell 1
    simp only [List.getElem?_toArray, List.getElem?_cons_zero, List.getElem?_cons_succ] at p0 p1
    go_wp2_with fail
    clear p0 p1 HB2
    generalize hwA : w1 = wA at *
    clear hwA
    go_loopw [8, 22] (fun so i wr => ∃ (j : Nat) (o : Value) (zs : List Int), o = so ∧ j ≤ k ∧ i = .int .i64 j ∧ Hid (zs = (kinds j).filter (blk z c)) ∧ zs.length ≤ j ∧ Hid (Own LInt.rec 3 wr wA.heap.size o zs) ∧ Below wA.heap.size wA wr) (fun _ i _ => k - (intOf i).toNat)
    case atStart => exact ⟨0, _, [], rfl, Nat.zero_le _, rfl, Lib.hid rfl, Nat.le_refl _, HO0, hbA⟩
    case round =>
      clear hbA HO0
      obtain ⟨j, o, zs, rfl, hj, rfl, HZ, hzl, HO, hb⟩ := hrel
      by_cases hlt : j < k
      · by_cases hjc : (j : Int) = c
        · have HZ2 := Lib.hid (flt_no HZ.out (blk_eq (z := z) hjc))
          have e1 : ((j : Int) != c) = false := by simpa using hjc
          clear hjc
          go_wp2_with fail
          go_roundw
          case rel => exact ⟨j + 1, o, zs, rfl, by omega, by go_num, HZ2, by omega, HO, hb⟩
          case measure => simp [intOf]; omega
        · have e1 : ((j : Int) != c) = true := by simpa using hjc
          have HPN := Lib.hid (blk_ne (z := z) hjc)
          have HUI := Lib.hid (HU0.out.kept hb).is
          clear hjc
          go_wp2_with fail
          refine (IntF.contains _ _ (j : Int) _ HUI.out).mono ?_
          rintro e _ ⟨rfl, rfl⟩
          rw [has_in hlt]
          cases g : yieldsB z c (j : Int) with
          | true =>
            have HZ2 := Lib.hid (flt_no HZ.out (show blk z c (j : Int) = false by rw [HPN.out, g]; rfl))
            clear g
            go_wp2_with fail
            go_roundw
            case rel => exact ⟨j + 1, o, zs, rfl, by omega, by go_num, HZ2, by omega, HO, hb⟩
            case measure => simp [intOf]; omega
          | false =>
            have HPJ := Lib.hid (show blk z c (j : Int) = true by rw [HPN.out, g]; rfl)
            clear g
            have HZ2 := Lib.hid (flt_yes HZ.out HPJ.out)
            have hsz := hb.size
            go_wp2_with (at_builtin; refine wpList_append_own _ rfl (.tmp 34) (.tmp 36) 28 rfl wA.heap.size 3 i9 (.int .i64 0) 1 8 Try.underlying28 HI9.out HZ9.out.1 HZ9.out.2.1 HZ9.out.2.2 rfl (by decide) _ _ _ rfl (Own.kept HO.out (by (repeat (first | assumption | exact Below.refl _ _ | refine Below.drew ?_ | refine Below.setCell ?_ (by first | (simp; done) | (simp; omega) | omega) _ | refine Below.alloc ?_ (by first | (simp; done) | (simp; omega) | omega) _)))) ⟨_, 0, none⟩ 1 1 [.int .i64 j] rfl rfl ?c1 ?c2 ?c3 ?c4 ?c5 ?c6)
            try (case c1 => first | exact World.news_of_block (heap_alloc_new _ _) | exact World.news_of_block (alloc_two _ _ _))
            case c2 => first | rfl | (intro u hu; simp only [List.mem_cons, List.not_mem_nil, or_false] at hu; subst hu; rfl)
            case c3 => unfold maxLen; omega
            case c4 => omega
            case c5 => first | (simp; done) | (simp; omega) | omega
            case c6 =>
              intro v' w4 hown' hgrow _
              have hb3 : Below wA.heap.size wA w4 := Below.grown (by (repeat (first | assumption | exact Below.refl _ _ | refine Below.drew ?_ | refine Below.setCell ?_ (by first | (simp; done) | (simp; omega) | omega) _ | refine Below.alloc ?_ (by first | (simp; done) | (simp; omega) | omega) _))) hgrow (by first | (simp; done) | (simp; omega) | omega) (fun j hj => (HO.out.lt j hj).1)
              have HO2 := Lib.hid (show Own LInt.rec 3 w4 wA.heap.size v' (zs ++ [(j : Int)]) from own_of LInt.rec hown' (by simp) (by rw [flat_append]; rfl))
              clear hown' hgrow
              go_wp2_with fail
              go_roundw
              case rel => exact ⟨j + 1, _, _, rfl, by omega, by go_num, HZ2, by simp; omega, HO2, hb3⟩
              case measure => simp [intOf]; omega
      · obtain rfl : j = k := by omega
        have HE := Lib.hid (show Own LInt.rec 3 wr w.heap.size o ((kinds j).filter (blk z c)) by rw [← HZ.out]; exact HO.out.low hbx.size)
        have hbz := hbx.trans (hb.mono hbx.size)
        go_wp2_with fail
        go_ret2
        exact ⟨_, _, true, rfl, HA.out, HE.out, hbz⟩
theorem spec (v0 : Value) (z0 : LPrecedence.R) (a1 : Int) (w : World) (h0 : LPrecedence.IsS w v0 z0) (f0 : LPrecedence.Fine z0) (l0 : z0.over.length ≤ 1048576) :
    Calls Try.prog 38 #[v0, .int .i64 a1] w (Post z0 a1 w) := specB v0 z0 a1 w h0.is
theorem impl (v0 : Value) (z0 : LPrecedence.R) (a1 : Int) (w : World) (h0 : LPrecedence.IsS w v0 z0) (f0 : LPrecedence.Fine z0) (l0 : z0.over.length ≤ 1048576) :
    Calls Try.prog 37 #[v0, .int .i64 a1] w (Post z0 a1 w) := implB v0 z0 a1 w h0.is
end Go.Proofs.Ytokdkponmefbaaa.BlockedKindsC
