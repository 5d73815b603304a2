/- Precedences: the kinds to which a kind yields, and the others; model and program. No condition. -/
import Derived.Test.YtokdkponmefbaaaPrecS
import Derived.Test.YtokdkponmefbaaaLIntK
namespace Go.Proofs.Ytokdkponmefbaaa.PrecF
open Go.RowKit Bs Word PrecM PrecB PrecG PrecR PrecY PrecS IntF
set_option linter.unusedVariables false
theorem flt_yes {p : Int → Bool} {j : Nat} {zs : List Int} (h : zs = (kinds j).filter p) (hp : p j = true) : zs ++ [(j : Int)] = (kinds (j + 1)).filter p := by rw [filter_next, hp, h]; rfl
theorem flt_no {p : Int → Bool} {j : Nat} {zs : List Int} (h : zs = (kinds j).filter p) (hp : p j = false) : zs = (kinds (j + 1)).filter p := by rw [filter_next, hp, h]; simp
theorem own_some {w : World} {A n : Nat} {v : Value} {cs : List Value} {E : TypeId} {sz : Nat} (h : w.ownsRow A E sz v n cs) (hn : 0 < n) : ∃ g, v.ownBlock = some g := by
  rcases h.2 with ⟨h', hz⟩ | ⟨g, cap, cur, h', _⟩
  · omega
  · exact ⟨g, by rw [h']; rfl⟩
theorem flt_len (p : Int → Bool) (k : Nat) : ((kinds k).filter p).length ≤ k := by
  have h := List.length_filter_le p (kinds k)
  unfold kinds at h ⊢
  simpa using h
noncomputable def yA (r : LPrecedence.R) (c : Int) : List Int × Bool := if (goodB r.kinds r.over && inK r.kinds c) = true then (reach r.kinds.toNat r.over c, true) else ([], false)
theorem y_bad {r : LPrecedence.R} {c : Int} (h : (goodB r.kinds r.over && inK r.kinds c) = false) : yA r c = ([], false) := by unfold yA; rw [h]; rfl
theorem y_good {z : List M} {k : Nat} {c : Int} (h : goodB (k : Int) z = true) (hc : inK (k : Int) c = true) : yA ⟨(k : Int), z⟩ c = (reach k z c, true) := by unfold yA; simp only; rw [h, hc]; rfl
theorem y_len {r : LPrecedence.R} {c : Int} {r0 : List Int} {r1 : Bool} (h : yA r c = (r0, r1)) : r0.length ≤ 1048576 := by
  unfold yA at h
  split at h
  · rename_i hg
    simp only [Prod.mk.injEq] at h
    rw [Bool.and_eq_true] at hg
    have h8 := (good_of hg.1).2.1
    have := flt_len (fun n => yieldsB r.over c n) r.kinds.toNat
    rw [← h.1]
    unfold reach
    unfold kinds at this
    omega
  · simp only [Prod.mk.injEq] at h; rw [← h.1]; simp
def YPost (r : LPrecedence.R) (c : Int) (w : World) (e : Ending) (w' : World) : Prop := ∃ v r0 r1, e = .returned (.tuple #[v, .bool r1]) ∧ yA r c = (r0, r1) ∧ Own LInt.rec 3 w' w.heap.size v r0 ∧ (∃ g, v.ownBlock = some g) ∧ Below w.heap.size w w'
set_option maxRecDepth 100000 in
set_option maxHeartbeats 1600000 in
theorem yieldsS (v : Value) (r : LPrecedence.R) (c : Int) (w : World) (h : LPrecedence.Is w v r) :
    Calls Try.prog 39 #[v, .int .i64 c] w (YPost r c w) := by
  obtain ⟨K, z⟩ := r
  obtain ⟨s, rfl, h⟩ := h
  obtain ⟨a, cp, rfl, h⟩ := h
  simp only at h ⊢
  have hIs := Lib.hid (show LPrecedence.Is w (.agg #[.int .i64 K, .slice a z.length cp]) ⟨K, z⟩ from ⟨_, rfl, a, cp, rfl, h⟩)
  obtain ⟨n, hn⟩ : ∃ n, n = z.length := ⟨_, rfl⟩
  have hnb : n ≤ cp := by have := h.1; omega
  have h2 := h.2.1
  unfold maxLen at h2
  have HN := Lib.hid hn.symm
  rw [← hn] at hIs ⊢
  have hle : n ≤ z.length := by omega
  clear hn h
  have hb0 := (Below.refl w.heap.size w).alloc (Nat.le_refl _) (.cells #[.int .i64 K, .slice a n cp] 26)
  have HB0 := Lib.hid (Bx.new w 26 #[.int .i64 K, .slice a n cp])
  have HI0 := Lib.hid (hIs.out.below hb0)
  go_enter Try.func39, Try.ntmps39
  go_wp2_with fail
  refine (PrecS.l4Kind _ ⟨K, z⟩ c _ HI0.out).mono ?_
  rintro e w1 ⟨rfl, hb1⟩
  have hbx := hb0.trans (hb1.mono hb0.size)
  have HB1 := Lib.hid (HB0.out.kept hb1)
  have HI1 := Lib.hid (HI0.out.below hb1)
  clear hb1 hb0 HB0 HI0
  simp only
  cases hg : (goodB K z && inK K c) with
  | false =>
    have HA := Lib.hid (y_bad (r := ⟨K, z⟩) hg)
    clear hg
    have HO := Lib.hid (Own.start (T := LInt.rec) (E := 3) (w := w1) hbx.size)
    have hbz := hbx.alloc hbx.size (Obj.cells #[] 3)
    go_wp2_with fail
    go_ret2
    exact ⟨_, [], false, rfl, HA.out, HO.out, ⟨_, rfl⟩, hbz⟩
  | true =>
    rw [Bool.and_eq_true] at hg
    obtain ⟨k, rfl, hk1, hk8, hzl, hin, hin8⟩ := good_nat hg.1
    have HA := Lib.hid (y_good hg.1 hg.2)
    have HIn := Lib.hid hin
    clear hg hin hin8 hzl
    have p0 := HB1.out.cell 0
    have p1 := HB1.out.cell 1
    simp only [List.getElem?_toArray, List.getElem?_cons_zero, List.getElem?_cons_succ] at p0 p1
    go_wp2_with fail
    refine (PrecR.l4Reach _ ⟨(k : Int), z⟩ c k _ HI1.out HIn.out hk8).mono ?_
    rintro e w2 ⟨u, rfl, ho, hu, hb2⟩
    have hby := hbx.trans (hb2.mono hbx.size)
    have HO := Lib.hid (ho.low hbx.size)
    have HU := Lib.hid hu
    clear ho hu hb2
    go_wp2_with fail
    go_ret2
    exact ⟨_, _, true, rfl, HA.out, HO.out, HU.out, hby⟩
set_option maxRecDepth 100000 in
set_option maxHeartbeats 3200000 in
theorem yieldsI (v : Value) (r : LPrecedence.R) (c : Int) (w : World) (h : LPrecedence.Is w v r) :
    Calls Try.prog 23 #[v, .int .i64 c] w (YPost r c w) := by
  obtain ⟨K, z⟩ := r
  obtain ⟨s, rfl, h⟩ := h
  obtain ⟨a, cp, rfl, h⟩ := h
  simp only at h ⊢
  have hIs := Lib.hid (show LPrecedence.Is w (.agg #[.int .i64 K, .slice a z.length cp]) ⟨K, z⟩ from ⟨_, rfl, a, cp, rfl, h⟩)
  obtain ⟨n, hn⟩ : ∃ n, n = z.length := ⟨_, rfl⟩
  have hnb : n ≤ cp := by have := h.1; omega
  have h2 := h.2.1
  unfold maxLen at h2
  have HN := Lib.hid hn.symm
  rw [← hn] at hIs ⊢
  have hle : n ≤ z.length := by omega
  clear hn h
  have hb0 := (Below.refl w.heap.size w).alloc (Nat.le_refl _) (.cells #[.int .i64 K, .slice a n cp] 26)
  have HB0 := Lib.hid (Bx.new w 26 #[.int .i64 K, .slice a n cp])
  have HI0 := Lib.hid (hIs.out.below hb0)
  obtain ⟨i9, hi, hz0, hz1, hz2⟩ := info_parts LInt.infoK
  have HI9 := Lib.hid hi
  have HZ9 := Lib.hid (And.intro hz0 (And.intro hz1 hz2))
  clear hi hz0 hz1 hz2
  go_enter Try.func23, Try.ntmps23
  go_wp2_with fail
  refine (PrecG.isValid _ ⟨K, z⟩ _ HI0.out).mono ?_
  rintro e w1 ⟨rfl, hb1⟩
  have hbx := hb0.trans (hb1.mono hb0.size)
  have HB1 := Lib.hid (HB0.out.kept hb1)
  have HI1 := Lib.hid (HI0.out.below hb1)
  clear hb1 hb0 HB0 HI0
  simp only
  cases hg : goodB K z with
  | false =>
    have HA := Lib.hid (y_bad (r := ⟨K, z⟩) (c := c) (by rw [hg]; rfl))
    clear hg
    have HO := Lib.hid (Own.start (T := LInt.rec) (E := 3) (w := w1) hbx.size)
    have hbz := hbx.alloc hbx.size (Obj.cells #[] 3)
    go_wp2_with fail
    go_ret2
    exact ⟨_, [], false, rfl, HA.out, HO.out, ⟨_, rfl⟩, hbz⟩
  | true =>
    have p0 := HB1.out.cell 0
    have p1 := HB1.out.cell 1
    simp only [List.getElem?_toArray, List.getElem?_cons_zero, List.getElem?_cons_succ] at p0 p1
    go_wp2_with fail
    refine (isKind K _ c _).mono ?_
    rintro e w5 ⟨rfl, hb5⟩
    have hbv := hbx.trans (hb5.mono hbx.size)
    replace HB1 := Lib.hid (HB1.out.kept hb5)
    replace HI1 := Lib.hid (HI1.out.below hb5)
    clear hb5 hbx p0 p1
    cases hg2 : inK K c with
    | false =>
      have HA := Lib.hid (y_bad (r := ⟨K, z⟩) (c := c) (by rw [hg2, Bool.and_false]))
      clear hg hg2
      have HO := Lib.hid (Own.start (T := LInt.rec) (E := 3) (w := w5) hbv.size)
      have hbz := hbv.alloc hbv.size (Obj.cells #[] 3)
      go_wp2_with fail
      go_ret2
      exact ⟨_, [], false, rfl, HA.out, HO.out, ⟨_, rfl⟩, hbz⟩
    | true =>
      obtain ⟨k, rfl, hk1, hk8, hzl, hin, hin8⟩ := good_nat hg
      have HA := Lib.hid (y_good hg hg2)
      obtain ⟨c, rfl⟩ : ∃ d : Nat, c = (d : Int) := ⟨c.toNat, by have := (in_iff.1 hg2).1; omega⟩
      have hck : c < k := by have := (in_iff.1 hg2).2; omega
      have HIn8 := Lib.hid hin8
      have HSl := Lib.hid (show Bs.Is LIntA2.rec w5 (.slice a n cp) z by
        obtain ⟨s, e, h⟩ := HI1.out
        simp only [Value.agg.injEq, Array.mk.injEq, List.cons.injEq, and_true, true_and] at e
        rw [e]; exact h)
      clear hg hg2 hin hin8 hzl HI1
      have p0 := HB1.out.cell 0
      have p1 := HB1.out.cell 1
      simp only [List.getElem?_toArray, List.getElem?_cons_zero, List.getElem?_cons_succ] at p0 p1
      go_wp2_with fail
      refine (PrecY.yieldingBy _ z _ HSl.out HIn8.out).mono ?_
      rintro e w2 ⟨f, rfl, hf, hb2⟩
      have HF := Lib.hid hf
      have hby := hbv.trans (hb2.mono hbv.size)
      have HB2 := Lib.hid (Bx.alloc (Bx.alloc (HB1.out.kept hb2) (Obj.cells (tab f) 73)) (Obj.cells #[] 3))
      have HT := Lib.hid (show Bt (w2.alloc (Obj.cells (tab f) 73)) w2.heap.size f from Bx.new w2 _ _)
      replace hby := hby.alloc hby.size (Obj.cells (tab f) 73)
      have hbA := (Below.refl (w2.alloc (Obj.cells (tab f) 73)).heap.size (w2.alloc (Obj.cells (tab f) 73))).alloc (Nat.le_refl _) (Obj.cells #[] 3)
      have HO0 := Lib.hid (Own.start (T := LInt.rec) (E := 3) (w := w2.alloc (Obj.cells (tab f) 73)) (Nat.le_refl _))
      have HG := Lib.hid (show w2.heap.size + 1 = (w2.alloc (Obj.cells (tab f) 73)).heap.size by simp)
      clear hf hb2 hbv HB1 p0 p1
      have p0 := HB2.out.cell 0
      have p1 := HB2.out.cell 1
      simp only [List.getElem?_toArray, List.getElem?_cons_zero, List.getElem?_cons_succ] at p0 p1
      go_wp2_with ((with_reducible refine tab_store f _ ?_ (.tmp 6) (.tmp 21) ?_ ?_ ?_ ?_ ?_); rfl; rfl; rfl; rfl; rfl)
      clear p0 p1 HB2
      generalize hwA : w2.alloc (Obj.cells (tab f) 73) = wA at *
      rw [HG.out] at *
      generalize w2.heap.size = G at *
      clear hwA
      obtain ⟨p, hp⟩ : ∃ p : Int → Bool, p = fun n => yieldsB z (c : Int) n := ⟨_, rfl⟩
      have HP := Lib.hid hp
      clear hp
      go_loopw [7, 25] (fun so i wr => ∃ (j : Nat) (o : Value) (zs : List Int), o = so ∧ j ≤ k ∧ i = .int .i64 j ∧ Hid (zs = (kinds j).filter p) ∧ zs.length ≤ j ∧ Hid (Own LInt.rec 3 wr wA.heap.size o zs) ∧ Hid (∃ g, o.ownBlock = some g) ∧ Below wA.heap.size wA wr) (fun _ i _ => k - (intOf i).toNat)
      case atStart => exact ⟨0, _, [], rfl, Nat.zero_le _, rfl, Lib.hid rfl, Nat.le_refl _, HO0, Lib.hid ⟨_, rfl⟩, hbA⟩
      case round =>
        clear hbA HO0
        obtain ⟨j, o, zs, rfl, hj, rfl, HZ, hzl, HO, HU, hb⟩ := hrel
        by_cases hlt : j < k
        · have c1 := Bt.cell (Bx.kept HT.out hb) c j (by omega) (by omega)
          have e1 : (c : Int) < 8 := by omega
          have e2 : (j : Int) < 8 := by omega
          rw [HF.out c j (by omega) (by omega)] at c1
          cases g : yieldsB z (c : Int) (j : Int) with
          | true =>
            rw [g] at c1
            have HPJ := Lib.hid (show p (j : Int) = true by rw [HP.out]; exact g)
            clear g
            have HZ2 := Lib.hid (flt_yes HZ.out HPJ.out)
            have hsz := hb.size
            go_wp2_with (at_builtin; refine wpList_append_own _ rfl (.tmp 33) (.tmp 35) 28 rfl wA.heap.size 3 i9 (.int .i64 0) 1 8 Try.underlying28 HI9.out HZ9.out.1 HZ9.out.2.1 HZ9.out.2.2 rfl (by decide) _ _ _ rfl (Own.kept HO.out (by (repeat (first | assumption | exact Below.refl _ _ | refine Below.drew ?_ | refine Below.setCell ?_ (by first | (simp; done) | (simp; omega) | omega) _ | refine Below.alloc ?_ (by first | (simp; done) | (simp; omega) | omega) _)))) ⟨_, 0, none⟩ 1 1 [.int .i64 j] rfl rfl ?c1 ?c2 ?c3 ?c4 ?c5 ?c6)
            try (case c1 => first | exact World.news_of_block (heap_alloc_new _ _) | exact World.news_of_block (alloc_two _ _ _))
            case c2 => first | rfl | (intro u hu; simp only [List.mem_cons, List.not_mem_nil, or_false] at hu; subst hu; rfl)
            case c3 => unfold maxLen; omega
            case c4 => omega
            case c5 => first | (simp; done) | (simp; omega) | omega
            case c6 =>
              intro v' w4 hown' hgrow _
              have hb3 : Below wA.heap.size wA w4 := Below.grown (by (repeat (first | assumption | exact Below.refl _ _ | refine Below.drew ?_ | refine Below.setCell ?_ (by first | (simp; done) | (simp; omega) | omega) _ | refine Below.alloc ?_ (by first | (simp; done) | (simp; omega) | omega) _))) hgrow (by first | (simp; done) | (simp; omega) | omega) (fun j hj => (HO.out.lt j hj).1)
              have HO2 := Lib.hid (show Own LInt.rec 3 w4 wA.heap.size v' (zs ++ [(j : Int)]) from own_of LInt.rec hown' (by simp) (by rw [flat_append]; rfl))
              have HU2 := Lib.hid (own_some hown' (by omega))
              clear hown' hgrow
              go_wp2_with fail
              go_roundw
              case rel => exact ⟨j + 1, _, _, rfl, by omega, by go_num, HZ2, by simp; omega, HO2, HU2, hb3⟩
              case measure => simp [intOf]; omega
          | false =>
            rw [g] at c1
            have HZ2 := Lib.hid (flt_no HZ.out (show p (j : Int) = false by rw [HP.out]; exact g))
            clear g
            go_wp2_with fail
            go_roundw
            case rel => exact ⟨j + 1, o, zs, rfl, by omega, by go_num, HZ2, by omega, HO, HU, hb⟩
            case measure => simp [intOf]; omega
        · obtain rfl : j = k := by omega
          have HE := Lib.hid (show zs = reach j z (c : Int) by rw [HZ.out, HP.out]; rfl)
          have HO2 := Lib.hid (show Own LInt.rec 3 wr w.heap.size o (reach j z (c : Int)) by rw [← HE.out]; exact HO.out.low (by have := hby.size; omega))
          have hbz := hby.trans (hb.mono hby.size)
          go_wp2_with fail
          go_ret2
          exact ⟨_, _, true, rfl, HA.out, HO2.out, HU.out, hbz⟩
end Go.Proofs.Ytokdkponmefbaaa.PrecF
