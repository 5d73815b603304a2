/- ItemsUntil, model and program: what both answer. -/
import Derived.Test.YtgemnjimgjnlhaaGreatDoorJ1
import Derived.BigQuiet
namespace Go.Proofs.YtgemnjimgjnlhaaGreatDoor.ItemsUntilC
open Go.RowKit Bs Word Ag AgT AgS ItemTimesC AgP
set_option linter.unusedVariables false
noncomputable def lA (z : List M) (s e : Int) : List Int × Bool := if (askB z s && inB e s 10000) = true then (pick (tillT e) s z, true) else ([], false)
theorem l_no {z : List M} {s e : Int} (h : (askB z s && inB e s 10000) = false) : lA z s e = ([], false) := by unfold lA; rw [h]; rfl
theorem l_yes {z : List M} {s e : Int} (h : (askB z s && inB e s 10000) = true) : lA z s e = (pick (tillT e) s z, true) := by unfold lA; rw [if_pos h]
def Ans (z0 : List LAgendaItem.R) (a1 : Int) (a2 : Int) (r0 : List Int) (r1 : Bool) : Prop := lA z0 a1 a2 = (r0, r1)
theorem same {z0 : List LAgendaItem.R} {a1 a2 : Int} {r0 s0 : List Int} {r1 s1 : Bool} (h : Ans z0 a1 a2 r0 r1) (h' : Ans z0 a1 a2 s0 s1) : r0 = s0 ∧ r1 = s1 := by have := h.symm.trans h'; simpa using this
theorem len0 {z0 : List LAgendaItem.R} {a1 a2 : Int} {r0 : List Int} {r1 : Bool} (h : Ans z0 a1 a2 r0 r1) : r0.length ≤ 1048576 := by
  unfold Ans lA at h
  split at h
  · rename_i hg
    simp only [Prod.mk.injEq] at h
    have h10 := good_len (ask_parts (by rw [Bool.and_eq_true] at hg; exact hg.1)).1
    have := pick_len (tillT a2) a1 z0
    rw [← h.1]; omega
  · simp only [Prod.mk.injEq] at h; rw [← h.1]; simp
def Post (z0 : List LAgendaItem.R) (a1 : Int) (a2 : Int) (w : World) (e : Ending) (w' : World) : Prop := ∃ v0 r0 r1, e = .returned (.tuple #[v0, .bool r1]) ∧ Ans z0 a1 a2 r0 r1 ∧ Own LInt.rec 3 w' w.heap.size v0 r0 ∧ Below w.heap.size w w'
set_option maxRecDepth 100000 in
set_option maxHeartbeats 1600000 in
theorem implL (v0 : Value) (z0 : List LAgendaItem.R) (a1 : Int) (a2 : Int) (w : World) (h : Is LAgendaItem.rec w v0 z0) (f0 : ∀ x ∈ z0, LAgendaItem.Fine x) :
    Calls Tryz.prog 27 #[v0, .int .i64 a1, .int .i64 a2] w (Post z0 a1 a2 w) := by
  have HTm := Lib.hid (implI v0 z0 a1 w h f0)
  obtain ⟨a, cp, rfl, h⟩ := h
  have hc := h.at_ LAgendaItem.rec
  obtain ⟨n, hn⟩ : ∃ n, n = z0.length := ⟨_, rfl⟩
  have hnb : n ≤ cp := by have := h.1; omega
  have hn2 := h.2.1
  unfold maxLen at hn2
  have HN := Lib.hid hn.symm
  rw [← hn] at HTm ⊢
  have hnle : n ≤ z0.length := by omega
  clear hn h
  clear f0
  obtain ⟨i9, hi, hz0, hz1, hz2⟩ := info_parts LInt.infoK
  have HI9 := Lib.hid hi
  have HZ9 := Lib.hid (And.intro hz0 (And.intro hz1 hz2))
  clear hi hz0 hz1 hz2
  cases hg : askB z0 a1 with
  | false =>
    have HAn := Lib.hid (l_no (e := a2) (show (askB z0 a1 && inB a2 a1 10000) = false by rw [hg]; rfl))
    have HT := Lib.hid (t_no hg)
    clear hg
    go_enter Tryz.func27, Tryz.ntmps27
    go_wp2_with fail
    refine HTm.out.mono ?_
    rintro e w1 ⟨v, r0, r1, rfl, hA, ho, hb1⟩
    have hA2 := HT.out.symm.trans hA
    simp only [Prod.mk.injEq] at hA2
    obtain ⟨rfl, rfl⟩ := hA2
    clear ho hA
    have HO := Lib.hid (Own.start (T := LInt.rec) (E := 3) (w := w1) hb1.size)
    have hb2 := hb1.alloc hb1.size (Obj.cells #[] 3)
    go_wp2_with fail
    go_ret2
    exact ⟨_, [], false, rfl, HAn.out, HO.out, hb2⟩
  | true =>
    have HT := Lib.hid (t_yes hg)
    obtain ⟨hgd, s0, s1⟩ := ask_parts hg
    have h10 : n ≤ 10 := by have := good_len hgd; have := HN.out; omega
    have HG := Lib.hid hgd
    by_cases e1 : a2 < a1
    · have HAn := Lib.hid (l_no (e := a2) (show (askB z0 a1 && inB a2 a1 10000) = false by rw [inB_not (fun h => by omega), Bool.and_false]))
      clear hg hgd
      go_enter Tryz.func27, Tryz.ntmps27
      go_wp2_with fail
      refine HTm.out.mono ?_
      rintro e w1 ⟨v, r0, r1, rfl, hA, ho, hb1⟩
      have hA2 := HT.out.symm.trans hA
      simp only [Prod.mk.injEq] at hA2
      obtain ⟨rfl, rfl⟩ := hA2
      clear ho hA
      have HO := Lib.hid (Own.start (T := LInt.rec) (E := 3) (w := w1) hb1.size)
      have hb2 := hb1.alloc hb1.size (Obj.cells #[] 3)
      go_wp2_with fail
      go_ret2
      exact ⟨_, [], false, rfl, HAn.out, HO.out, hb2⟩
    · by_cases e2 : 10000 < a2
      · have HAn := Lib.hid (l_no (e := a2) (show (askB z0 a1 && inB a2 a1 10000) = false by rw [inB_not (fun h => by omega), Bool.and_false]))
        clear hg hgd
        go_enter Tryz.func27, Tryz.ntmps27
        go_wp2_with fail
        refine HTm.out.mono ?_
        rintro e w1 ⟨v, r0, r1, rfl, hA, ho, hb1⟩
        have hA2 := HT.out.symm.trans hA
        simp only [Prod.mk.injEq] at hA2
        obtain ⟨rfl, rfl⟩ := hA2
        clear ho hA
        have HO := Lib.hid (Own.start (T := LInt.rec) (E := 3) (w := w1) hb1.size)
        have hb2 := hb1.alloc hb1.size (Obj.cells #[] 3)
        go_wp2_with fail
        go_ret2
        exact ⟨_, [], false, rfl, HAn.out, HO.out, hb2⟩
      · have HAn := Lib.hid (l_yes (e := a2) (show (askB z0 a1 && inB a2 a1 10000) = true by rw [inB_mk (by omega) (by omega), hg]; rfl))
        clear hg hgd
        go_enter Tryz.func27, Tryz.ntmps27
        go_wp2_with fail
        refine HTm.out.mono ?_
        rintro e w1 ⟨v, r0, r1, rfl, hA, ho, hb1⟩
        have hA2 := HT.out.symm.trans hA
        simp only [Prod.mk.injEq] at hA2
        obtain ⟨rfl, rfl⟩ := hA2
        obtain ⟨au, cu, rfl⟩ := own_form ho
        have hlu : n ≤ cu := by have := (own_rows ho).1; rw [begs_len] at this; omega
        have hlu2 := (own_rows ho).2.1
        unfold maxLen at hlu2
        have HU := Lib.hid (own_rows ho)
        rw [begs_len, HN.out]
        have hbA := (Below.refl w1.heap.size w1).alloc (Nat.le_refl _) (Obj.cells #[] 3)
        have HO0 := Lib.hid (Own.start (T := LInt.rec) (E := 3) (w := w1) (Nat.le_refl _))
        clear hA ho HTm
        go_wp2_with fail
        generalize w1 = wA at *
        go_loopw [10, 34] (fun so i wr => ∃ (k : Nat) (o : Value) (zs : List Int), o = so ∧ k ≤ n ∧ i = .int .i64 k ∧ Hid (zs = pick (tillT a2) a1 (z0.take k)) ∧ zs.length ≤ k ∧ Hid (Own LInt.rec 3 wr wA.heap.size o zs) ∧ Below wA.heap.size wA wr) (fun _ i _ => n - (intOf i).toNat)
        case atStart => exact ⟨0, _, [], rfl, Nat.zero_le _, rfl, Lib.hid rfl, Nat.le_refl _, HO0, hbA⟩
        case round =>
          clear HO0 hbA
          obtain ⟨k, o, zs, rfl, hk, rfl, HZ, hzl, HO, hb⟩ := hrel
          by_cases hlt : k < n
          · have hx : k < z0.length := by omega
            obtain ⟨b, o', rfl, hbl, hcell0⟩ := hc.out k z0[k] (List.getElem?_eq_getElem hx)
            obtain ⟨q0, q1, q2, q3⟩ := LAgendaItem.cells (hcell0.below LAgendaItem.rec (hb1.trans (hb.mono hb1.size)) hbl)
            simp only [LAgendaItem.rec_n] at q0 q1 q2 q3
            have HX := Lib.hid (List.getElem?_eq_getElem hx)
            clear hcell0
            generalize z0[k] = X at *
            obtain ⟨_, _, ⟨m0, m1⟩, ⟨t0, t1⟩⟩ := ok_parts (good_at HG.out HX.out)
            obtain ⟨f0, f1⟩ := begin_small HG.out s0 s1 HX.out
            have k0 : 0 ≤ (k : Int) := by omega
            have k1 : (k : Int) < (n : Int) := by omega
            go_upto_region 8 with fail
            have HBX := Lib.hid (LAgendaItem.box wr X 52)
            have hba := hb.alloc hb.size (Obj.cells #[.int .i64 X.id, .string X.title, .int .i64 X.mins, .int .i64 X.time] 52)
            have hGq : wr.heap.size < (wr.alloc (Obj.cells #[.int .i64 X.id, .string X.title, .int .i64 X.mins, .int .i64 X.time] 52)).heap.size := by simp
            have HO1 := Lib.hid (HO.out.alloc (Obj.cells #[.int .i64 X.id, .string X.title, .int .i64 X.mins, .int .i64 X.time] 52))
            have hGl : wA.heap.size ≤ wr.heap.size := hb.size
            clear q0 q1 q2 q3 HO hb
            generalize wr.alloc (Obj.cells #[.int .i64 X.id, .string X.title, .int .i64 X.mins, .int .i64 X.time] 52) = wq at *
            generalize wr.heap.size = G at *
            obtain ⟨b2, o2, rfl, hbl2, hcell2⟩ := (HU.out.at_ LInt.rec).out k _ (begs_at HX.out)
            have p0 := LInt.cells (hcell2.below LInt.rec hba hbl2)
            simp only [LInt.rec_n, Nat.mul_one] at p0
            obtain ⟨B, hB⟩ : ∃ B, B = max (fin a1 (z0.take k)) X.time := ⟨_, rfl⟩
            rw [← hB] at f0 f1 p0
            have HB := Lib.hid hB
            have s2 : IntKind.i64.wrap (B + X.mins) = B + X.mins := IntWalk.i64_in _ (by omega)
            clear hB hcell2
            obtain ⟨x0, x1, x2, x3⟩ := LAgendaItem.cells0 HBX.out
            go_cut [47] (fun t wx => ∃ v : Bool, t = .bool v ∧ Hid ((tillT a2 B X) = v) ∧ Below wq.heap.size wq wx)
            case first =>
              have HV := Lib.hid (show tillT a2 B X = decide (B + X.mins ≤ a2) from rfl)
              go_quiet (fail)
              go_wp2_with fail
              go_meet
              exact ⟨_, rfl, HV, drawn_below _ _⟩
            case rest =>
              obtain ⟨v, rfl, HV, hbv⟩ := hcut
              have hbt := hba.trans (hbv.mono hba.size)
              have HO := Lib.hid (HO1.out.kept hbv)
              have hq0 := (LAgendaItem.cells0 (HBX.out.below LAgendaItem.rec hbv hGq)).1
              clear x0 x1 x2 x3 p0 hba HO1 hbv
              cases v with
              | false =>
                have HZ2 := Lib.hid (pick_no (p := (tillT a2)) HZ.out HX.out HB.out HV.out)
                go_wp2_with fail
                go_roundw
                case rel => exact ⟨k + 1, o, zs, rfl, by omega, by go_num, HZ2, by omega, HO, hbt⟩
                case measure => simp [intOf]; omega
              | true =>
                have HZ2 := Lib.hid (pick_yes (p := (tillT a2)) HZ.out HX.out HB.out HV.out)
                have hsz := hbt.size
                go_wp2_with (at_builtin; refine wpList_append_own _ rfl (.tmp 48) (.tmp 51) 45 rfl wA.heap.size 3 i9 (.int .i64 0) 1 8 Tryz.underlying45 HI9.out HZ9.out.1 HZ9.out.2.1 HZ9.out.2.2 rfl (by decide) _ _ _ rfl (Own.kept HO.out (by (repeat (first | assumption | exact Below.refl _ _ | refine Below.drew ?_ | refine Below.setCell ?_ (by first | (simp; done) | (simp; omega) | omega) _ | refine Below.alloc ?_ (by first | (simp; done) | (simp; omega) | omega) _)))) ⟨_, 0, none⟩ 1 1 [.int .i64 X.id] rfl rfl ?c1 ?c2 ?c3 ?c4 ?c5 ?c6)
                try (case c1 => first | exact World.news_of_block (heap_alloc_new _ _) | exact World.news_of_block (alloc_two _ _ _))
                case c2 => first | rfl | (intro u hu; simp only [List.mem_cons, List.not_mem_nil, or_false] at hu; subst hu; rfl)
                case c3 => unfold maxLen; omega
                case c4 => omega
                case c5 => first | (simp; done) | (simp; omega) | omega
                case c6 =>
                  intro v' w4 hown' hgrow _
                  have hb3 : Below wA.heap.size wA w4 := Below.grown (by (repeat (first | assumption | exact Below.refl _ _ | refine Below.drew ?_ | refine Below.setCell ?_ (by first | (simp; done) | (simp; omega) | omega) _ | refine Below.alloc ?_ (by first | (simp; done) | (simp; omega) | omega) _))) hgrow (by first | (simp; done) | (simp; omega) | omega) (fun j hj => (HO.out.lt j hj).1)
                  have HO2 := Lib.hid (show Own LInt.rec 3 w4 wA.heap.size v' (zs ++ [X.id]) from own_of LInt.rec hown' (by simp) (by rw [flat_append]; rfl))
                  clear hown' hgrow
                  go_wp2_with fail
                  go_roundw
                  case rel => exact ⟨k + 1, _, _, rfl, by omega, by go_num, HZ2, by simp; omega, HO2, hb3⟩
                  case measure => simp [intOf]; omega
          · obtain rfl : k = n := by omega
            have HE := Lib.hid (show Own LInt.rec 3 wr w.heap.size o (pick (tillT a2) a1 z0) by have h := HO.out.low hb1.size; rw [HZ.out, List.take_of_length_le (by have := HN.out; omega)] at h; exact h)
            have hbz := hb1.trans (hb.mono hb1.size)
            go_wp2_with fail
            go_ret2
            exact ⟨_, _, true, rfl, HAn.out, HE.out, hbz⟩
theorem impl (v0 : Value) (z0 : List LAgendaItem.R) (a1 : Int) (a2 : Int) (w : World) (h0 : IsS LAgendaItem.rec w v0 z0) (f0 : ∀ x ∈ z0, LAgendaItem.Fine x) (l0 : z0.length ≤ 1048576) :
    Calls Tryz.prog 27 #[v0, .int .i64 a1, .int .i64 a2] w (Post z0 a1 a2 w) := implL v0 z0 a1 a2 w (IsS.is LAgendaItem.rec h0) f0
end Go.Proofs.YtgemnjimgjnlhaaGreatDoor.ItemsUntilC
