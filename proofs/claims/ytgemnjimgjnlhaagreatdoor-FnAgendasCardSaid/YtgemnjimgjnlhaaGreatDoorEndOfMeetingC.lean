/- EndOfMeeting, model and program: what both answer. -/
import Derived.Test.YtgemnjimgjnlhaaGreatDoorJ1
import Derived.BigQuiet
namespace Go.Proofs.YtgemnjimgjnlhaaGreatDoor.EndOfMeetingC
open Go.RowKit Bs Word Ag AgT AgS ItemTimesC AgP
set_option linter.unusedVariables false
noncomputable def eA (z : List M) (s : Int) : Int × Bool := if askB z s = true then (fin s z, true) else (0, false)
theorem e_no {z : List M} {s : Int} (h : askB z s = false) : eA z s = (0, false) := by unfold eA; rw [h]; rfl
theorem e_yes {z : List M} {s : Int} (h : askB z s = true) : eA z s = (fin s z, true) := by unfold eA; rw [if_pos h]
def Ans (z0 : List LAgendaItem.R) (a1 : Int) (r0 : Int) (r1 : Bool) : Prop := eA z0 a1 = (r0, r1)
theorem same {z0 : List LAgendaItem.R} {a1 : Int} {r0 s0 : Int} {r1 s1 : Bool} (h : Ans z0 a1 r0 r1) (h' : Ans z0 a1 s0 s1) : r0 = s0 ∧ r1 = s1 := by have := h.symm.trans h'; simpa using this
def Post (z0 : List LAgendaItem.R) (a1 : Int) (w : World) (e : Ending) (w' : World) : Prop := ∃ r0 r1, e = .returned (.tuple #[.int .i64 r0, .bool r1]) ∧ Ans z0 a1 r0 r1 ∧ Below w.heap.size w w'
set_option maxRecDepth 100000 in
theorem spec (v0 : Value) (z0 : List LAgendaItem.R) (a1 : Int) (w : World) (h0 : IsS LAgendaItem.rec w v0 z0) (f0 : ∀ x ∈ z0, LAgendaItem.Fine x) (l0 : z0.length ≤ 1048576) :
    Calls Tryz.prog 25 #[v0, .int .i64 a1] w (Post z0 a1 w) := by
  have h1 := IsS.is LAgendaItem.rec h0
  have HI := Lib.hid h1
  have HA := Lib.hid (l5Asked v0 z0 a1 w h1 f0)
  obtain ⟨b, o, cp, rfl, _⟩ := h0
  clear h1 f0
  cases hg : askB z0 a1 with
  | false =>
    have HAn := Lib.hid (e_no hg)
    rw [hg] at HA
    clear hg
    go_enter Tryz.func25, Tryz.ntmps25
    go_wp2_with fail
    refine HA.out.mono ?_
    rintro e w1 ⟨rfl, hb1⟩
    go_wp2_with fail
    go_ret2
    exact ⟨_, _, rfl, HAn.out, hb1⟩
  | true =>
    have HAn := Lib.hid (e_yes hg)
    obtain ⟨hgd, s0, s1⟩ := ask_parts hg
    have HG := Lib.hid hgd
    rw [hg] at HA
    clear hg hgd
    go_enter Tryz.func25, Tryz.ntmps25
    go_wp2_with fail
    refine HA.out.mono ?_
    rintro e w1 ⟨rfl, hb1⟩
    have HI1 := Lib.hid (HI.out.below LAgendaItem.rec hb1)
    go_wp2_with fail
    refine (l5Times _ z0 a1 _ HI1.out HG.out s0 s1).mono ?_
    rintro e w2 ⟨v, rfl, ho, hb2⟩
    have hb3 := hb1.trans (hb2.mono hb1.size)
    clear ho hb2
    go_wp2_with fail
    go_ret2
    exact ⟨_, _, rfl, HAn.out, hb3⟩
set_option maxRecDepth 100000 in
set_option maxHeartbeats 800000 in
theorem implE (v0 : Value) (z0 : List LAgendaItem.R) (a1 : Int) (w : World) (h : Is LAgendaItem.rec w v0 z0) (f0 : ∀ x ∈ z0, LAgendaItem.Fine x) :
    Calls Tryz.prog 23 #[v0, .int .i64 a1] w (Post z0 a1 w) := by
  have HTm := Lib.hid (implI v0 z0 a1 w h f0)
  obtain ⟨a, cp, rfl, h⟩ := h
  have hc := h.at_ LAgendaItem.rec
  obtain ⟨n, hn⟩ : ∃ n, n = z0.length := ⟨_, rfl⟩
  have hnb : n ≤ cp := by have := h.1; omega
  have hn2 := h.2.1
  unfold maxLen at hn2
  have HN := Lib.hid hn.symm
  rw [← hn] at HTm ⊢
  have hnle : n ≤ z0.length := by omega
  clear hn h
  clear f0
  cases hg : askB z0 a1 with
  | false =>
    have HAn := Lib.hid (e_no hg)
    have HT := Lib.hid (t_no hg)
    clear hg
    go_enter Tryz.func23, Tryz.ntmps23
    go_wp2_with fail
    refine HTm.out.mono ?_
    rintro e w1 ⟨v, r0, r1, rfl, hA, ho, hb1⟩
    have hA2 := HT.out.symm.trans hA
    simp only [Prod.mk.injEq] at hA2
    obtain ⟨rfl, rfl⟩ := hA2
    clear ho hA
    go_wp2_with fail
    go_ret2
    exact ⟨_, _, rfl, HAn.out, hb1⟩
  | true =>
    have HAn := Lib.hid (e_yes hg)
    have HT := Lib.hid (t_yes hg)
    obtain ⟨hgd, s0, s1⟩ := ask_parts hg
    have HGd := Lib.hid hgd
    have h10 : n ≤ 10 := by have := good_len hgd; have := HN.out; omega
    clear hg hgd
    go_enter Tryz.func23, Tryz.ntmps23
    go_wp2_with fail
    refine HTm.out.mono ?_
    rintro e w1 ⟨v, r0, r1, rfl, hA, ho, hb1⟩
    have hA2 := HT.out.symm.trans hA
    simp only [Prod.mk.injEq] at hA2
    obtain ⟨rfl, rfl⟩ := hA2
    obtain ⟨av, cv, rfl⟩ := own_form ho
    have hcv := (own_rows ho).at_ LInt.rec
    have hlv : n ≤ cv := by have := (own_rows ho).1; rw [begs_len] at this; omega
    have hlv2 := (own_rows ho).2.1
    unfold maxLen at hlv2
    rw [begs_len, HN.out]
    clear ho hA
    by_cases hz : n = 0
    · subst hz
      have HF := Lib.hid (show fin a1 z0 = a1 by rw [List.eq_nil_of_length_eq_zero HN.out]; rfl)
      rw [HF.out] at HAn
      go_wp2_with fail
      go_ret2
      exact ⟨_, _, rfl, HAn.out, hb1⟩
    · have hx : n - 1 < z0.length := by omega
      obtain ⟨b, o, rfl, hbl, hcell0⟩ := hc.out (n - 1) z0[n - 1] (List.getElem?_eq_getElem hx)
      obtain ⟨q0, q1, q2, q3⟩ := LAgendaItem.cells (hcell0.below LAgendaItem.rec hb1 hbl)
      simp only [LAgendaItem.rec_n] at q0 q1 q2 q3
      have HX := Lib.hid (List.getElem?_eq_getElem hx)
      clear hcell0
      generalize z0[n - 1] = X at *
      obtain ⟨b2, o2, rfl, hbl2, hcell2⟩ := hcv.out (n - 1) _ (begs_at HX.out)
      have p0 := LInt.cells hcell2
      simp only [LInt.rec_n, Nat.mul_one] at p0
      obtain ⟨_, _, ⟨m0, m1⟩, ⟨t0, t1⟩⟩ := ok_parts (good_at HGd.out HX.out)
      obtain ⟨f0, f1⟩ := begin_small HGd.out s0 s1 HX.out
      have HF := Lib.hid (show max (fin a1 (z0.take (n - 1))) X.time + X.mins = fin a1 z0 by
        have := fin_next (s := a1) HX.out
        rw [show n - 1 + 1 = n by omega, fin_all HN.out] at this
        exact this.symm)
      generalize max (fin a1 (z0.take (n - 1))) X.time = B at *
      have s2 : IntKind.i64.wrap (B + X.mins) = B + X.mins := IntWalk.i64_in _ (by omega)
      have n1 : IntKind.i64.wrap ((n : Int) - 1) = (n : Int) - 1 := IntWalk.i64_in _ (by omega)
      have n2 : ((n : Int) - 1).toNat = n - 1 := by omega
      have n3 : 0 ≤ (n : Int) - 1 := by omega
      have n4 : (n : Int) - 1 < (n : Int) := by omega
      have n5 : decide (n = 0) = false := by simpa using hz
      have n6 : ((n : Int) == 0) = false := by simpa using hz
      clear hcell2 hz
      go_wp2_with fail
      go_quiet (fail)
      go_wp2_with fail
      go_ret2
      exact ⟨_, _, by rw [← HF.out]; rfl, HAn.out, hb1.trans ((drawn_below _ _).mono hb1.size)⟩
theorem impl (v0 : Value) (z0 : List LAgendaItem.R) (a1 : Int) (w : World) (h0 : IsS LAgendaItem.rec w v0 z0) (f0 : ∀ x ∈ z0, LAgendaItem.Fine x) (l0 : z0.length ≤ 1048576) :
    Calls Tryz.prog 23 #[v0, .int .i64 a1] w (Post z0 a1 w) := implE v0 z0 a1 w (IsS.is LAgendaItem.rec h0) f0
end Go.Proofs.YtgemnjimgjnlhaaGreatDoor.EndOfMeetingC
