/- ItemTimes, model and program: what both answer. -/
import Derived.Test.YtcjknefpnopkcaaAgS
import Derived.Test.YtcjknefpnopkcaaAgI
import Derived.Lib.MinMax
namespace Go.Proofs.Ytcjknefpnopkcaa.ItemTimesC
open Go.RowKit Bs Word Ag AgT AgS
set_option linter.unusedVariables false
noncomputable def tA (z : List M) (s : Int) : List Int × Bool := if askB z s = true then (begs s z, true) else ([], false)
theorem t_no {z : List M} {s : Int} (h : askB z s = false) : tA z s = ([], false) := by unfold tA; rw [h]; rfl
theorem t_yes {z : List M} {s : Int} (h : askB z s = true) : tA z s = (begs s z, true) := by unfold tA; rw [if_pos h]
theorem ask_parts {z : List M} {s : Int} (h : askB z s = true) : goodB z = true ∧ 0 ≤ s ∧ s ≤ 1439 := by
  unfold askB at h
  rw [Bool.and_eq_true] at h
  exact ⟨h.1, inB_yes h.2⟩
def Ans (z0 : List LAgendaItem.R) (a1 : Int) (r0 : List Int) (r1 : Bool) : Prop := tA z0 a1 = (r0, r1)
theorem same {z0 : List LAgendaItem.R} {a1 : Int} {r0 s0 : List Int} {r1 s1 : Bool} (h : Ans z0 a1 r0 r1) (h' : Ans z0 a1 s0 s1) : r0 = s0 ∧ r1 = s1 := by have := h.symm.trans h'; simpa using this
theorem len0 {z0 : List LAgendaItem.R} {a1 : Int} {r0 : List Int} {r1 : Bool} (h : Ans z0 a1 r0 r1) : r0.length ≤ 1048576 := by
  unfold Ans tA at h
  split at h
  · rename_i hg
    simp only [Prod.mk.injEq] at h
    have := good_len (ask_parts hg).1
    rw [← h.1, begs_len]; omega
  · simp only [Prod.mk.injEq] at h; rw [← h.1]; simp
def Post (z0 : List LAgendaItem.R) (a1 : Int) (w : World) (e : Ending) (w' : World) : Prop := ∃ v0 r0 r1, e = .returned (.tuple #[v0, .bool r1]) ∧ Ans z0 a1 r0 r1 ∧ Own LInt.rec 3 w' w.heap.size v0 r0 ∧ Below w.heap.size w w'
set_option maxRecDepth 100000 in
set_option maxHeartbeats 1600000 in
theorem implI (v0 : Value) (z0 : List LAgendaItem.R) (a1 : Int) (w : World) (h : Is LAgendaItem.rec w v0 z0) (f0 : ∀ x ∈ z0, LAgendaItem.Fine x) :
    Calls Try.prog 95 #[v0, .int .i64 a1] w (Post z0 a1 w) := by
  have HV := Lib.hid (AgI.isValidAgenda v0 z0 w h f0)
  obtain ⟨a, cp, rfl, h⟩ := h
  have hc := h.at_ LAgendaItem.rec
  obtain ⟨n, hn⟩ : ∃ n, n = z0.length := ⟨_, rfl⟩
  have hnb : n ≤ cp := by have := h.1; omega
  have hn2 := h.2.1
  unfold maxLen at hn2
  have HN := Lib.hid hn.symm
  rw [← hn] at HV ⊢
  have hnle : n ≤ z0.length := by omega
  clear hn h
  clear f0
  have go1 : ∀ g, goodB z0 = g → AgG.Post z0 w = fun e w' => e = .returned (.bool g) ∧ Below w.heap.size w w' := fun g hg => by unfold AgG.Post; rw [hg]
  obtain ⟨i9, hi, hz0, hz1, hz2⟩ := info_parts LInt.infoK
  have HI9 := Lib.hid hi
  have HZ9 := Lib.hid (And.intro hz0 (And.intro hz1 hz2))
  clear hi hz0 hz1 hz2
  cases hg : goodB z0 with
  | false =>
    have HAn := Lib.hid (t_no (z := z0) (s := a1) (show askB z0 a1 = false by unfold askB; rw [hg]; rfl))
    rw [go1 _ hg] at HV
    clear hg go1
    go_enter Try.func95, Try.ntmps95
    go_wp2_with fail
    refine HV.out.mono ?_
    rintro e w1 ⟨rfl, hb1⟩
    have hb2 := hb1.alloc hb1.size (Obj.cells #[] 3)
    have HO := Lib.hid (Own.start (T := LInt.rec) (E := 3) (w := w1) hb1.size)
    go_wp2_with fail
    go_ret2
    exact ⟨_, [], false, rfl, HAn.out, HO.out, hb2⟩
  | true =>
    rw [go1 _ hg] at HV
    clear go1
    cases hm : inB a1 0 1439 with
    | false =>
      have HAn := Lib.hid (t_no (z := z0) (s := a1) (show askB z0 a1 = false by unfold askB; rw [hm, Bool.and_false]))
      have HM := Lib.hid (fun W => imin_as a1 false hm W)
      clear hg hm
      go_enter Try.func95, Try.ntmps95
      go_wp2_with fail
      refine HV.out.mono ?_
      rintro e w1 ⟨rfl, hb1⟩
      go_wp2_with fail
      refine (HM.out _).mono ?_
      rintro e _ ⟨rfl, rfl⟩
      have hb2 := hb1.alloc hb1.size (Obj.cells #[] 3)
      have HO := Lib.hid (Own.start (T := LInt.rec) (E := 3) (w := w1) hb1.size)
      go_wp2_with fail
      go_ret2
      exact ⟨_, [], false, rfl, HAn.out, HO.out, hb2⟩
    | true =>
      have hask : askB z0 a1 = true := by unfold askB; rw [hg, hm]; rfl
      have HAn := Lib.hid (t_yes hask)
      obtain ⟨_, s0, s1⟩ := ask_parts hask
      have HM := Lib.hid (fun W => imin_as a1 true hm W)
      have HGd := Lib.hid hg
      have h10 : n ≤ 10 := by have := good_len hg; have := HN.out; omega
      clear hg hm hask
      go_enter Try.func95, Try.ntmps95
      go_wp2_with fail
      refine HV.out.mono ?_
      rintro e w1 ⟨rfl, hb1⟩
      go_wp2_with fail
      refine (HM.out _).mono ?_
      rintro e _ ⟨rfl, rfl⟩
      have hb2 := hb1.alloc hb1.size (Obj.cells #[] 3)
      have HO0 := Lib.hid (Own.start (T := LInt.rec) (E := 3) (w := w1) hb1.size)
      clear hb1
      go_wp2_with fail
      go_loopw [6, 7, 23] (fun so sn i wr => ∃ (k : Nat) (o : Value) (zs : List Int) (t : Int), o = so ∧ Value.int .i64 t = sn ∧ k ≤ n ∧ i = .int .i64 k ∧ Hid (zs = begs a1 (z0.take k)) ∧ Hid (t = fin a1 (z0.take k)) ∧ zs.length ≤ k ∧ Hid (Own LInt.rec 3 wr w.heap.size o zs) ∧ Below w.heap.size w wr) (fun _ _ i _ => n - (intOf i).toNat)
      case atStart => exact ⟨0, _, [], a1, rfl, rfl, Nat.zero_le _, rfl, Lib.hid rfl, Lib.hid rfl, Nat.le_refl _, HO0, hb2⟩
      case round =>
        clear HO0 hb2
        obtain ⟨k, o, zs, t, rfl, rfl, hk, rfl, HZ, HT, hzl, HO, hb⟩ := hrel
        by_cases hlt : k < n
        · have hx : k < z0.length := by omega
          obtain ⟨b, o', rfl, hbl, hcell0⟩ := hc.out k z0[k] (List.getElem?_eq_getElem hx)
          obtain ⟨q0, q1, q2, q3⟩ := LAgendaItem.cells (hcell0.below LAgendaItem.rec hb hbl)
          simp only [LAgendaItem.rec_n] at q0 q1 q2 q3
          have HX := Lib.hid (List.getElem?_eq_getElem hx)
          clear hcell0
          generalize z0[k] = X at *
          obtain ⟨_, _, ⟨m0, m1⟩, ⟨t0, t1⟩⟩ := ok_parts (good_at HGd.out HX.out)
          obtain ⟨f0, f1⟩ := begin_small HGd.out s0 s1 HX.out
          rw [← HT.out] at f0 f1
          obtain ⟨B, hB⟩ : ∃ B, B = max t X.time := ⟨_, rfl⟩
          rw [← hB] at f0 f1
          have HZ2 := Lib.hid (show zs ++ [B] = begs a1 (z0.take (k + 1)) by rw [hB, HZ.out, HT.out]; exact (run_next HX.out).symm)
          have HT2 := Lib.hid (show B + X.mins = fin a1 (z0.take (k + 1)) by rw [hB, HT.out]; exact (fin_next HX.out).symm)
          have s2 : IntKind.i64.wrap (B + X.mins) = B + X.mins := IntWalk.i64_in _ (by omega)
          have HB := Lib.hid hB
          clear hB
          have k0 : 0 ≤ (k : Int) := by omega
          have k1 : (k : Int) < (n : Int) := by omega
          go_upto_region 8 with fail
          have HBX := Lib.hid (LAgendaItem.box wr X 61)
          have hba := hb.alloc hb.size (Obj.cells #[.int .i64 X.id, .string X.title, .int .i64 X.mins, .int .i64 X.time] 61)
          have hGq : wr.heap.size < (wr.alloc (Obj.cells #[.int .i64 X.id, .string X.title, .int .i64 X.mins, .int .i64 X.time] 61)).heap.size := by simp
          have HO1 := Lib.hid (HO.out.alloc (Obj.cells #[.int .i64 X.id, .string X.title, .int .i64 X.mins, .int .i64 X.time] 61))
          have HL := Lib.hid (fun g hg => (HO.out.lt g hg).2)
          have hGl : w.heap.size ≤ wr.heap.size := hb.size
          clear q0 q1 q2 q3 HO hb
          generalize wr.alloc (Obj.cells #[.int .i64 X.id, .string X.title, .int .i64 X.mins, .int .i64 X.time] 61) = wq at *
          generalize wr.heap.size = G at *
          have HO := HO1
          clear HO1
          obtain ⟨x0, x1, x2, x3⟩ := LAgendaItem.cells0 HBX.out
          have hsz := hba.size
          go_upto_region 9 with fail
          rw [← HB.out]
          go_wp2_with (at_builtin; refine wpList_append_own _ rfl (.tmp 31) (.tmp 33) 26 rfl w.heap.size 3 i9 (.int .i64 0) 1 8 Try.underlying26 HI9.out HZ9.out.1 HZ9.out.2.1 HZ9.out.2.2 rfl (by decide) _ _ _ rfl (Own.kept HO.out (by (repeat (first | assumption | exact Below.refl _ _ | refine Below.drew ?_ | refine Below.setCell ?_ (by first | (simp; done) | (simp; omega) | omega) _ | refine Below.alloc ?_ (by first | (simp; done) | (simp; omega) | omega) _)))) ⟨_, 0, none⟩ 1 1 [.int .i64 B] rfl rfl ?c1 ?c2 ?c3 ?c4 ?c5 ?c6)
          try (case c1 => first | exact World.news_of_block (heap_alloc_new _ _) | exact World.news_of_block (alloc_two _ _ _))
          case c2 => first | rfl | (intro u hu; simp only [List.mem_cons, List.not_mem_nil, or_false] at hu; subst hu; rfl)
          case c3 => unfold maxLen; omega
          case c4 => omega
          case c5 => first | (simp; done) | (simp; omega) | omega
          case c6 =>
            intro v' w4 hown' hgrow _
            have hb3 : Below w.heap.size w w4 := Below.grown (by (repeat (first | assumption | exact Below.refl _ _ | refine Below.drew ?_ | refine Below.setCell ?_ (by first | (simp; done) | (simp; omega) | omega) _ | refine Below.alloc ?_ (by first | (simp; done) | (simp; omega) | omega) _))) hgrow (by first | (simp; done) | (simp; omega) | omega) (fun j hj => (HO.out.lt j hj).1)
            have HO2 := Lib.hid (show Own LInt.rec 3 w4 w.heap.size v' (zs ++ [B]) from own_of LInt.rec hown' (by simp) (by rw [flat_append]; rfl))
            clear hown'
            have HBX4 := Lib.hid (show At LAgendaItem.rec w4 G 0 X from (HBX.out.below LAgendaItem.rec ((Below.refl wq.heap.size wq).alloc (Nat.le_refl _) _) hGq).keep LAgendaItem.rec (fun p => World.cell?_of_block (a := ⟨G, p, none⟩) (hgrow.block G (by simp; omega) (fun e => by have := HL.out _ e.symm; omega))))
            clear hgrow x0 x1 x2 x3
            obtain ⟨x0, x1, x2, x3⟩ := LAgendaItem.cells0 HBX4.out
            go_wp2_with fail
            go_roundw
            case rel => exact ⟨k + 1, _, _, _, rfl, rfl, by omega, by go_num, HZ2, HT2, by simp; omega, HO2, hb3⟩
            case measure => simp [intOf]; omega
        · obtain rfl : k = n := by omega
          have HE := Lib.hid (show Own LInt.rec 3 wr w.heap.size o (begs a1 z0) by have h := HO.out; rw [HZ.out, List.take_of_length_le (by have := HN.out; omega)] at h; exact h)
          go_wp2_with fail
          go_ret2
          exact ⟨_, _, true, rfl, HAn.out, HE.out, hb⟩
theorem impl (v0 : Value) (z0 : List LAgendaItem.R) (a1 : Int) (w : World) (h0 : IsS LAgendaItem.rec w v0 z0) (f0 : ∀ x ∈ z0, LAgendaItem.Fine x) (l0 : z0.length ≤ 1048576) :
    Calls Try.prog 95 #[v0, .int .i64 a1] w (Post z0 a1 w) := implI v0 z0 a1 w (IsS.is LAgendaItem.rec h0) f0
end Go.Proofs.Ytcjknefpnopkcaa.ItemTimesC
