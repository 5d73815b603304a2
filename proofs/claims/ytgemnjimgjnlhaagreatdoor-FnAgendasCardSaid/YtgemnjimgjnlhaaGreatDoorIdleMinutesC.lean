/- IdleMinutes, model and program: what both answer. -/
import Derived.Test.YtgemnjimgjnlhaaGreatDoorEndOfMeetingC
import Derived.BigQuiet
namespace Go.Proofs.YtgemnjimgjnlhaaGreatDoor.IdleMinutesC
open Go.RowKit Bs Word Ag AgT AgS ItemTimesC AgP EndOfMeetingC
set_option linter.unusedVariables false
noncomputable def iA (z : List M) (s : Int) : Int × Bool := if askB z s = true then (fin s z - s - mins z, true) else (0, false)
theorem i_no {z : List M} {s : Int} (h : askB z s = false) : iA z s = (0, false) := by unfold iA; rw [h]; rfl
theorem i_yes {z : List M} {s : Int} (h : askB z s = true) : iA z s = (fin s z - s - mins z, true) := by unfold iA; rw [if_pos h]
theorem mins_all {xs : List M} {n : Nat} (hn : xs.length = n) : mins (xs.take n) = mins xs := by rw [List.take_of_length_le (by omega)]
def Ans (z0 : List LAgendaItem.R) (a1 : Int) (r0 : Int) (r1 : Bool) : Prop := iA z0 a1 = (r0, r1)
theorem same {z0 : List LAgendaItem.R} {a1 : Int} {r0 s0 : Int} {r1 s1 : Bool} (h : Ans z0 a1 r0 r1) (h' : Ans z0 a1 s0 s1) : r0 = s0 ∧ r1 = s1 := by have := h.symm.trans h'; simpa using this
def Post (z0 : List LAgendaItem.R) (a1 : Int) (w : World) (e : Ending) (w' : World) : Prop := ∃ r0 r1, e = .returned (.tuple #[.int .i64 r0, .bool r1]) ∧ Ans z0 a1 r0 r1 ∧ Below w.heap.size w w'
set_option maxRecDepth 100000 in
set_option maxHeartbeats 800000 in
theorem spec (v0 : Value) (z0 : List LAgendaItem.R) (a1 : Int) (w : World) (h0 : IsS LAgendaItem.rec w v0 z0) (f0 : ∀ x ∈ z0, LAgendaItem.Fine x) (l0 : z0.length ≤ 1048576) :
    Calls Tryz.prog 26 #[v0, .int .i64 a1] w (Post z0 a1 w) := by
  have h := IsS.is LAgendaItem.rec h0
  have HI := Lib.hid h
  have HA := Lib.hid (l5Asked v0 z0 a1 w h f0)
  obtain ⟨a, cp, rfl, h⟩ := h
  have hc := h.at_ LAgendaItem.rec
  obtain ⟨n, hn⟩ : ∃ n, n = z0.length := ⟨_, rfl⟩
  have hnb : n ≤ cp := by have := h.1; omega
  have hn2 := h.2.1
  unfold maxLen at hn2
  have HN := Lib.hid hn.symm
  rw [← hn] at HA HI ⊢
  have hnle : n ≤ z0.length := by omega
  clear hn h h0
  clear f0
  cases hg : askB z0 a1 with
  | false =>
    have HAn := Lib.hid (i_no hg)
    rw [hg] at HA
    clear hg
    go_enter Tryz.func26, Tryz.ntmps26
    go_wp2_with fail
    refine HA.out.mono ?_
    rintro e w1 ⟨rfl, hb1⟩
    go_wp2_with fail
    go_ret2
    exact ⟨_, _, rfl, HAn.out, hb1⟩
  | true =>
    have HAn := Lib.hid (i_yes hg)
    obtain ⟨hgd, s0, s1⟩ := ask_parts hg
    have HG := Lib.hid hgd
    have h10 : n ≤ 10 := by have := good_len hgd; have := HN.out; omega
    have hf := fin_small hgd s0 s1 n (by omega)
    rw [fin_all HN.out] at hf
    rw [hg] at HA
    clear hg hgd
    go_enter Tryz.func26, Tryz.ntmps26
    go_wp2_with fail
    refine HA.out.mono ?_
    rintro e w1 ⟨rfl, hb1⟩
    have HI1 := Lib.hid (HI.out.below LAgendaItem.rec hb1)
    go_wp2_with fail
    refine (l5Times _ z0 a1 _ HI1.out HG.out s0 s1).mono ?_
    rintro e w2 ⟨v, rfl, ho, hb2⟩
    have hb3 := hb1.trans (hb2.mono hb1.size)
    obtain ⟨F, hF⟩ : ∃ F, F = fin a1 z0 := ⟨_, rfl⟩
    rw [← hF] at hf ⊢
    have HF := Lib.hid hF
    have s3 : IntKind.i64.wrap (F - a1) = F - a1 := IntWalk.i64_in _ (by omega)
    clear ho hb2 hb1 hF
    go_wp2_with fail
    go_loopw [8, 9] (fun si i wr => ∃ (k : Nat) (t : Int), Value.int .i64 t = si ∧ k ≤ n ∧ i = .int .i64 k ∧ Hid (t = F - a1 - mins (z0.take k)) ∧ Below w.heap.size w wr) (fun _ i _ => n - (intOf i).toNat)
    case atStart => exact ⟨0, F - a1, rfl, Nat.zero_le _, rfl, Lib.hid (show F - a1 = F - a1 - 0 by omega), hb3⟩
    case round =>
      clear hb3
      obtain ⟨k, t, rfl, hk, rfl, HT, hb⟩ := hrel
      by_cases hlt : k < n
      · have hx : k < z0.length := by omega
        obtain ⟨b, o', rfl, hbl, hcell0⟩ := hc.out k z0[k] (List.getElem?_eq_getElem hx)
        obtain ⟨q0, q1, q2, q3⟩ := LAgendaItem.cells (hcell0.below LAgendaItem.rec hb hbl)
        simp only [LAgendaItem.rec_n] at q0 q1 q2 q3
        have HX := Lib.hid (List.getElem?_eq_getElem hx)
        clear hcell0
        generalize z0[k] = X at *
        obtain ⟨_, _, ⟨m0, m1⟩, _⟩ := ok_parts (good_at HG.out HX.out)
        have hm := mins_small HG.out k (by omega)
        have ht := HT.out
        have s2 : IntKind.i64.wrap (t - X.mins) = t - X.mins := IntWalk.i64_in _ (by omega)
        have HT2 := Lib.hid (show t - X.mins = F - a1 - mins (z0.take (k + 1)) by rw [mins_next HX.out]; omega)
        have k0 : 0 ≤ (k : Int) := by omega
        have k1 : (k : Int) < (n : Int) := by omega
        clear ht hm
        go_wp2_with fail
        go_roundw
        case rel => exact ⟨k + 1, _, rfl, by omega, by go_num, HT2, hb⟩
        case measure => simp [intOf]; omega
      · obtain rfl : k = n := by omega
        have HE := Lib.hid (show t = fin a1 z0 - a1 - mins z0 by have := HT.out; rw [mins_all HN.out, HF.out] at this; exact this)
        go_wp2_with fail
        go_ret2
        exact ⟨_, _, by rw [← HE.out]; rfl, HAn.out, hb⟩
set_option maxRecDepth 100000 in
set_option maxHeartbeats 800000 in
theorem impl (v0 : Value) (z0 : List LAgendaItem.R) (a1 : Int) (w : World) (h0 : IsS LAgendaItem.rec w v0 z0) (f0 : ∀ x ∈ z0, LAgendaItem.Fine x) (l0 : z0.length ≤ 1048576) :
    Calls Tryz.prog 24 #[v0, .int .i64 a1] w (Post z0 a1 w) := by
  have h := IsS.is LAgendaItem.rec h0
  have HTm := Lib.hid (implE v0 z0 a1 w h f0)
  obtain ⟨a, cp, rfl, h⟩ := h
  have hc := h.at_ LAgendaItem.rec
  obtain ⟨n, hn⟩ : ∃ n, n = z0.length := ⟨_, rfl⟩
  have hnb : n ≤ cp := by have := h.1; omega
  have hn2 := h.2.1
  unfold maxLen at hn2
  have HN := Lib.hid hn.symm
  rw [← hn] at HTm ⊢
  have hnle : n ≤ z0.length := by omega
  clear hn h h0
  clear f0
  cases hg : askB z0 a1 with
  | false =>
    have HAn := Lib.hid (i_no hg)
    have HT := Lib.hid (e_no hg)
    clear hg
    go_enter Tryz.func24, Tryz.ntmps24
    go_wp2_with fail
    refine HTm.out.mono ?_
    rintro e w1 ⟨r0, r1, rfl, hA, hb1⟩
    have hA2 := HT.out.symm.trans hA
    simp only [Prod.mk.injEq] at hA2
    obtain ⟨rfl, rfl⟩ := hA2
    clear hA
    go_wp2_with fail
    go_ret2
    exact ⟨_, _, rfl, HAn.out, hb1⟩
  | true =>
    have HAn := Lib.hid (i_yes hg)
    have HT := Lib.hid (e_yes hg)
    obtain ⟨hgd, s0, s1⟩ := ask_parts hg
    have HG := Lib.hid hgd
    have h10 : n ≤ 10 := by have := good_len hgd; have := HN.out; omega
    have hf := fin_small hgd s0 s1 n (by omega)
    rw [fin_all HN.out] at hf
    clear hg hgd
    go_enter Tryz.func24, Tryz.ntmps24
    go_wp2_with fail
    refine HTm.out.mono ?_
    rintro e w1 ⟨r0, r1, rfl, hA, hb3⟩
    have hA2 := HT.out.symm.trans hA
    simp only [Prod.mk.injEq] at hA2
    obtain ⟨hr0, rfl⟩ := hA2
    obtain ⟨F, hF⟩ : ∃ F, F = fin a1 z0 := ⟨_, rfl⟩
    rw [← hr0, ← hF]
    rw [← hF] at hf
    have HF := Lib.hid hF
    have s3 : IntKind.i64.wrap (F - a1) = F - a1 := IntWalk.i64_in _ (by omega)
    clear hA hF hr0
    go_wp2_with fail
    go_loopw [8, 24] (fun si i wr => ∃ (k : Nat) (t : Int), Value.int .i64 t = si ∧ k ≤ n ∧ i = .int .i64 k ∧ Hid (t = F - a1 - mins (z0.take k)) ∧ Below w.heap.size w wr) (fun _ i _ => n - (intOf i).toNat)
    case atStart => exact ⟨0, F - a1, rfl, Nat.zero_le _, rfl, Lib.hid (show F - a1 = F - a1 - 0 by omega), hb3⟩
    case round =>
      clear hb3
      obtain ⟨k, t, rfl, hk, rfl, HT, hb⟩ := hrel
      by_cases hlt : k < n
      · have hx : k < z0.length := by omega
        obtain ⟨b, o', rfl, hbl, hcell0⟩ := hc.out k z0[k] (List.getElem?_eq_getElem hx)
        obtain ⟨q0, q1, q2, q3⟩ := LAgendaItem.cells (hcell0.below LAgendaItem.rec hb hbl)
        simp only [LAgendaItem.rec_n] at q0 q1 q2 q3
        have HX := Lib.hid (List.getElem?_eq_getElem hx)
        clear hcell0
        generalize z0[k] = X at *
        obtain ⟨_, _, ⟨m0, m1⟩, _⟩ := ok_parts (good_at HG.out HX.out)
        have hm := mins_small HG.out k (by omega)
        have ht := HT.out
        have s2 : IntKind.i64.wrap (t - X.mins) = t - X.mins := IntWalk.i64_in _ (by omega)
        have HT2 := Lib.hid (show t - X.mins = F - a1 - mins (z0.take (k + 1)) by rw [mins_next HX.out]; omega)
        have k0 : 0 ≤ (k : Int) := by omega
        have k1 : (k : Int) < (n : Int) := by omega
        have hba := hb.alloc hb.size (Obj.cells #[.int .i64 X.id, .string X.title, .int .i64 X.mins, .int .i64 X.time] 52)
        clear ht hm
        go_wp2_with fail
        go_roundw
        case rel => exact ⟨k + 1, _, rfl, by omega, by go_num, HT2, hba⟩
        case measure => simp [intOf]; omega
      · obtain rfl : k = n := by omega
        have HE := Lib.hid (show t = fin a1 z0 - a1 - mins z0 by have := HT.out; rw [mins_all HN.out, HF.out] at this; exact this)
        go_wp2_with fail
        go_ret2
        exact ⟨_, _, by rw [← HE.out]; rfl, HAn.out, hb⟩
end Go.Proofs.YtgemnjimgjnlhaaGreatDoor.IdleMinutesC
