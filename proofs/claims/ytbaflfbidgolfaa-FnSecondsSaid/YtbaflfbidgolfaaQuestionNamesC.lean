/- QuestionNames, model and program: what both answer. No condition but that names are no longer than strings can be. -/
import Derived.Test.YtbaflfbidgolfaaData
namespace Go.Proofs.Ytbaflfbidgolfaa.QuestionNamesC
open Go.RowKit Bs Word Sq St StF StL StG StA IntF
set_option linter.unusedVariables false
def Ans (z0 : List LRule.R) (z1 : List LQuestion.R) (r0 : List ByteArray) (r1 : Bool) : Prop := nmA z0 z1 = (r0, r1)
theorem same {z0 : List LRule.R} {z1 : List LQuestion.R} {r0 s0 : List ByteArray} {r1 s1 : Bool} (h : Ans z0 z1 r0 r1) (h' : Ans z0 z1 s0 s1) : r0 = s0 ∧ r1 = s1 := by
  have := h.symm.trans h'; simp only [Prod.mk.injEq] at this; exact this
theorem len0 {z0 : List LRule.R} {z1 : List LQuestion.R} {r0 : List ByteArray} {r1 : Bool} (h : Ans z0 z1 r0 r1) : r0.length ≤ 1048576 := by
  unfold Ans nmA at h
  split at h
  · rename_i hg
    simp only [Prod.mk.injEq] at h
    rw [← h.1]
    have := good_len hg; unfold nms; rw [List.length_map]; omega
  · simp only [Prod.mk.injEq] at h; rw [← h.1]; simp
def APost (z0 : List LRule.R) (z1 : List LQuestion.R) (w : World) (e : Ending) (w' : World) : Prop :=
  ∃ v0 r0 r1, e = .returned (.tuple #[v0, .bool r1]) ∧ Ans z0 z1 r0 r1 ∧ Own LString.rec 9 w' w.heap.size v0 r0 ∧ Below w.heap.size w w'
set_option maxRecDepth 100000 in
set_option maxHeartbeats 3200000 in
theorem spec (v0 : Value) (z0 : List LRule.R) (v1 : Value) (z1 : List LQuestion.R) (w : World) (h0 : IsS LRule.rec w v0 z0) (f0 : ∀ x ∈ z0, LRule.Fine x) (l0 : z0.length ≤ 1048576) (h1 : IsS LQuestion.rec w v1 z1) (f1 : ∀ x ∈ z1, LQuestion.Fine x) (l1 : z1.length ≤ 1048576) :
    Calls Try.prog 43 #[v0, v1] w (APost z0 z1 w) := by
  have HR := Lib.hid (IsS.is LRule.rec h0)
  have HQI := Lib.hid (IsS.is LQuestion.rec h1)
  have HIS := Lib.hid h1
  have HF0 := Lib.hid f0
  obtain ⟨b, o, cp, rfl, hbl, hxc, hcm, hcell⟩ := h1
  have HC := Lib.hid hcell
  obtain ⟨n, hn⟩ : ∃ n, n = z1.length := ⟨_, rfl⟩
  have HN := Lib.hid hn.symm
  rw [← hn] at HQI HIS hxc l1 ⊢
  unfold maxLen at hcm
  clear hn hcell f0 f1 h0
  obtain ⟨i9, hi, hz0, hz1, hz2⟩ := info_parts LString.infoK
  have HI9 := Lib.hid hi
  have HZ9 := Lib.hid (And.intro hz0 (And.intro hz1 hz2))
  clear hi hz0 hz1 hz2
  have h := HR.out
  obtain ⟨ar, cr, rfl, h⟩ := h
  have hcr := h.at_ LRule.rec
  obtain ⟨nr, hn⟩ : ∃ n, n = z0.length := ⟨_, rfl⟩
  have hnrb : nr ≤ cr := by have := h.1; omega
  have hnr2 := h.2.1
  unfold maxLen at hnr2
  have HNr := Lib.hid hn.symm
  rw [← hn] at  HR ⊢
  have hnrle : nr ≤ z0.length := by omega
  clear hn h
  have hba := (Below.refl w.heap.size w).alloc (Nat.le_refl _) (Obj.cells #[] 9)
  have HRr := Lib.hid (HR.out.below LRule.rec hba)
  have HQr := Lib.hid (HQI.out.below LQuestion.rec hba)
  cases hg : goodQ z0 z1 with
  | false =>
    have HG := Lib.hid (good_asS false HRr.out HQr.out HF0.out hg)
    have HA := Lib.hid (nmA_no hg)
    clear hg
    go_enter Try.func43, Try.ntmps43
    go_wp2_with fail
    refine HG.out.mono ?_
    rintro e w1 ⟨rfl, hb1⟩
    have HOb := Lib.hid ((Own.start (T := LString.rec) (E := 9) (w := w) (A := w.heap.size) (Nat.le_refl _)).kept hb1)
    have hbz := hba.trans (hb1.mono hba.size)
    go_wp2_with fail
    go_ret2
    exact ⟨_, [], false, rfl, HA.out, HOb.out, hbz⟩
  | true =>
    have HG := Lib.hid (good_asS true HRr.out HQr.out HF0.out hg)
    have HA := Lib.hid (nmA_yes hg)
    have HGD := Lib.hid hg
    have h6 : n ≤ 6 := by have := good_len hg; have := HN.out; omega
    clear hg
    go_enter Try.func43, Try.ntmps43
    go_wp2_with fail
    refine HG.out.mono ?_
    rintro e w1 ⟨rfl, hb1⟩
    have HO0 := Lib.hid ((Own.start (T := LString.rec) (E := 9) (w := w) (A := w.heap.size) (Nat.le_refl _)).kept hb1)
    have hbs := hba.trans (hb1.mono hba.size)
    go_wp2_with fail
    go_loopw [6, 7] (fun so i wr => ∃ (k : Nat) (o1 : Value) (zs : List ByteArray), o1 = so ∧ k ≤ n ∧ i = .int .i64 k ∧ Hid (zs = nms z0 (z1.take k)) ∧ zs.length ≤ k ∧ Hid (Own LString.rec 9 wr w.heap.size o1 zs) ∧ Below w.heap.size w wr) (fun _ i _ => n - (intOf i).toNat)
    case atStart => exact ⟨0, _, [], rfl, Nat.zero_le _, rfl, Lib.hid rfl, Nat.le_refl _, HO0, hbs⟩
    case round =>
      clear HO0 hbs hb1
      obtain ⟨k, o1, zs, rfl, hk, rfl, HZ, hzl, HO, hb⟩ := hrel
      by_cases hlt : k < n
      · have hx : k < z1.length := by have := HN.out; omega
        have HX := Lib.hid (List.getElem?_eq_getElem hx)
        have HCX := Lib.hid (HC.out k z1[k] HX.out)
        obtain ⟨j, r, hi, hr, he, hjl, _, _⟩ := ok_parts (good_at HGD.out HX.out)
        have HJ := Lib.hid hi
        have k0 : 0 ≤ (k : Int) := by omega
        have k1 : (k : Int) < (n : Int) := by omega
        have j0 : 0 ≤ (j : Int) := by omega
        have j1 : (j : Int) < (nr : Int) := by have := HNr.out; omega
        obtain ⟨br, orr, rfl, hblr, hcellr⟩ := hcr.out j r hr
        have HCR := Lib.hid hcellr
        have HZ2 := Lib.hid (show zs ++ [r.name] = nms z0 (z1.take (k + 1)) by rw [nms_next HX.out, ← HZ.out, he])
        clear hi hr he hcellr
        generalize z1[k] = X at *
        have HF := Lib.hid (find_at (HR.out.below LRule.rec hb) HJ.out)
        obtain ⟨q0, q1, q2⟩ := LQuestion.cells (HCX.out.below LQuestion.rec hb hbl)
        obtain ⟨p0, p1, p2, p3, p4, p5, p6⟩ := LRule.cells (HCR.out.below LRule.rec hb hblr)
        simp only [LQuestion.rec_n, LRule.rec_n] at q0 q1 q2 p0 p1 p2 p3 p4 p5 p6
        have hsz := hb.size
        go_wp2_with fail
        refine HF.out.mono ?_
        rintro e _ ⟨rfl, rfl⟩
        go_wp2_with (at_builtin; refine wpList_append_own _ rfl (.tmp 20) (.tmp 32) 52 rfl w.heap.size 9 i9 (.string ⟨#[]⟩) 1 16 Try.underlying52 HI9.out HZ9.out.1 HZ9.out.2.1 HZ9.out.2.2 rfl (by decide) _ _ _ rfl (Own.kept HO.out (by (repeat (first | assumption | exact Below.refl _ _ | refine Below.drew ?_ | refine Below.setCell ?_ (by first | (simp; done) | (simp; omega) | omega) _ | refine Below.alloc ?_ (by first | (simp; done) | (simp; omega) | omega) _)))) ⟨_, 0, none⟩ 1 1 [.string r.name] rfl rfl ?c1 ?c2 ?c3 ?c4 ?c5 ?c6)
        try (case c1 => first | exact World.news_of_block (heap_alloc_new _ _) | exact World.news_of_block (alloc_two _ _ _))
        case c2 => first | rfl | (intro u hu; simp only [List.mem_cons, List.not_mem_nil, or_false] at hu; subst hu; rfl)
        case c3 => unfold maxLen; omega
        case c4 => omega
        case c5 => first | (simp; done) | (simp; omega) | omega
        case c6 =>
          intro v' w4 hown' hgrow _
          have hb3 : Below w.heap.size w w4 := Below.grown (by (repeat (first | assumption | exact Below.refl _ _ | refine Below.drew ?_ | refine Below.setCell ?_ (by first | (simp; done) | (simp; omega) | omega) _ | refine Below.alloc ?_ (by first | (simp; done) | (simp; omega) | omega) _))) hgrow (by first | (simp; done) | (simp; omega) | omega) (fun j hj => (HO.out.lt j hj).1)
          have HO2 := Lib.hid (show Own LString.rec 9 w4 w.heap.size v' (zs ++ [r.name]) from own_of LString.rec hown' (by simp) (by rw [flat_append]; rfl))
          clear hown' hgrow
          go_wp2_with fail
          go_roundw
          case rel => exact ⟨k + 1, _, _, rfl, by omega, by go_num, HZ2, by simp; omega, HO2, hb3⟩
          case measure => simp [intOf]; omega
      · obtain rfl : k = n := by omega
        have HE := Lib.hid (show Own LString.rec 9 wr w.heap.size o1 (nms z0 z1) by have h := HO.out; rw [HZ.out, List.take_of_length_le (by have := HN.out; omega)] at h; exact h)
        go_wp2_with fail
        go_ret2
        exact ⟨_, _, true, rfl, HA.out, HE.out, hb⟩
set_option maxRecDepth 100000 in
set_option maxHeartbeats 3200000 in
theorem impl (v0 : Value) (z0 : List LRule.R) (v1 : Value) (z1 : List LQuestion.R) (w : World) (h0 : IsS LRule.rec w v0 z0) (f0 : ∀ x ∈ z0, LRule.Fine x) (l0 : z0.length ≤ 1048576) (h1 : IsS LQuestion.rec w v1 z1) (f1 : ∀ x ∈ z1, LQuestion.Fine x) (l1 : z1.length ≤ 1048576) :
    Calls Try.prog 44 #[v0, v1] w (APost z0 z1 w) := by
  have HR := Lib.hid (IsS.is LRule.rec h0)
  have HQI := Lib.hid (IsS.is LQuestion.rec h1)
  have HIS := Lib.hid h1
  have HF0 := Lib.hid f0
  obtain ⟨b, o, cp, rfl, hbl, hxc, hcm, hcell⟩ := h1
  have HC := Lib.hid hcell
  obtain ⟨n, hn⟩ : ∃ n, n = z1.length := ⟨_, rfl⟩
  have HN := Lib.hid hn.symm
  rw [← hn] at HQI HIS hxc l1 ⊢
  unfold maxLen at hcm
  clear hn hcell f0 f1 h0
  obtain ⟨i9, hi, hz0, hz1, hz2⟩ := info_parts LString.infoK
  have HI9 := Lib.hid hi
  have HZ9 := Lib.hid (And.intro hz0 (And.intro hz1 hz2))
  clear hi hz0 hz1 hz2
  have h := HR.out
  obtain ⟨ar, cr, rfl, h⟩ := h
  have hcr := h.at_ LRule.rec
  obtain ⟨nr, hn⟩ : ∃ n, n = z0.length := ⟨_, rfl⟩
  have hnrb : nr ≤ cr := by have := h.1; omega
  have hnr2 := h.2.1
  unfold maxLen at hnr2
  have HNr := Lib.hid hn.symm
  rw [← hn] at  HR ⊢
  have hnrle : nr ≤ z0.length := by omega
  clear hn h
  have HRr := HR
  have HQr := HQI
  cases hg : goodQ z0 z1 with
  | false =>
    have HG := Lib.hid (good_asI false HRr.out HQr.out HF0.out hg)
    have HA := Lib.hid (nmA_no hg)
    clear hg
    go_enter Try.func44, Try.ntmps44
    go_wp2_with fail
    refine HG.out.mono ?_
    rintro e w1 ⟨rfl, hb1⟩
    have HOb := Lib.hid (Own.start (T := LString.rec) (E := 9) (w := w1) hb1.size)
    have hbz := hb1.alloc hb1.size (Obj.cells #[] 9)
    go_wp2_with fail
    go_ret2
    exact ⟨_, [], false, rfl, HA.out, HOb.out, hbz⟩
  | true =>
    have HG := Lib.hid (good_asI true HRr.out HQr.out HF0.out hg)
    have HA := Lib.hid (nmA_yes hg)
    have HGD := Lib.hid hg
    have h6 : n ≤ 6 := by have := good_len hg; have := HN.out; omega
    clear hg
    go_enter Try.func44, Try.ntmps44
    go_wp2_with fail
    refine HG.out.mono ?_
    rintro e w1 ⟨rfl, hb1⟩
    have hbs := hb1.alloc hb1.size (Obj.cells #[] 9)
    have HO0 := Lib.hid (Own.start (T := LString.rec) (E := 9) (w := w1) hb1.size)
    go_wp2_with fail
    go_loopw [6, 17] (fun so i wr => ∃ (k : Nat) (o1 : Value) (zs : List ByteArray), o1 = so ∧ k ≤ n ∧ i = .int .i64 k ∧ Hid (zs = nms z0 (z1.take k)) ∧ zs.length ≤ k ∧ Hid (Own LString.rec 9 wr w.heap.size o1 zs) ∧ Below w.heap.size w wr) (fun _ i _ => n - (intOf i).toNat)
    case atStart => exact ⟨0, _, [], rfl, Nat.zero_le _, rfl, Lib.hid rfl, Nat.le_refl _, HO0, hbs⟩
    case round =>
      clear HO0 hbs hb1
      obtain ⟨k, o1, zs, rfl, hk, rfl, HZ, hzl, HO, hb⟩ := hrel
      by_cases hlt : k < n
      · have hx : k < z1.length := by have := HN.out; omega
        have HX := Lib.hid (List.getElem?_eq_getElem hx)
        have HCX := Lib.hid (HC.out k z1[k] HX.out)
        obtain ⟨j, r, hi, hr, he, hjl, _, _⟩ := ok_parts (good_at HGD.out HX.out)
        have HJ := Lib.hid hi
        have k0 : 0 ≤ (k : Int) := by omega
        have k1 : (k : Int) < (n : Int) := by omega
        have j0 : 0 ≤ (j : Int) := by omega
        have j1 : (j : Int) < (nr : Int) := by have := HNr.out; omega
        obtain ⟨br, orr, rfl, hblr, hcellr⟩ := hcr.out j r hr
        have HCR := Lib.hid hcellr
        have HZ2 := Lib.hid (show zs ++ [r.name] = nms z0 (z1.take (k + 1)) by rw [nms_next HX.out, ← HZ.out, he])
        clear hi hr he hcellr
        generalize z1[k] = X at *
        obtain ⟨q0, q1, q2⟩ := LQuestion.cells (HCX.out.below LQuestion.rec hb hbl)
        simp only [LQuestion.rec_n] at q0 q1 q2
        go_upto_region 7 with fail
        have HBX := Lib.hid (LQuestion.box wr X 47)
        have hba := hb.alloc hb.size (Obj.cells #[.int .i64 X.rule, .int .i64 X.mover, .bool X.sec] 47)
        have hGq : wr.heap.size < (wr.alloc (Obj.cells #[.int .i64 X.rule, .int .i64 X.mover, .bool X.sec] 47)).heap.size := by simp
        have HO1 := Lib.hid (HO.out.alloc (Obj.cells #[.int .i64 X.rule, .int .i64 X.mover, .bool X.sec] 47))
        clear q0 q1 q2 HO
        generalize wr.alloc (Obj.cells #[.int .i64 X.rule, .int .i64 X.mover, .bool X.sec] 47) = wq at *
        have hGl : w.heap.size ≤ wr.heap.size := hb.size
        generalize wr.heap.size = G at *
        clear hb
        obtain ⟨x0, x1, x2⟩ := LQuestion.cells0 HBX.out
        have HF := Lib.hid (index_at (HR.out.below LRule.rec hba) HJ.out)
        go_wp2_with fail
        refine HF.out.mono ?_
        rintro e w3 ⟨rfl, hb3⟩
        have hbt := hba.trans (hb3.mono hba.size)
        have HO := Lib.hid (HO1.out.kept hb3)
        obtain ⟨p0, p1, p2, p3, p4, p5, p6⟩ := LRule.cells (HCR.out.below LRule.rec hbt hblr)
        simp only [LRule.rec_n] at p0 p1 p2 p3 p4 p5 p6
        have hsz := hbt.size
        clear x0 x1 x2 HO1 hba hb3
        go_wp2_with (at_builtin; refine wpList_append_own _ rfl (.tmp 21) (.tmp 30) 52 rfl w.heap.size 9 i9 (.string ⟨#[]⟩) 1 16 Try.underlying52 HI9.out HZ9.out.1 HZ9.out.2.1 HZ9.out.2.2 rfl (by decide) _ _ _ rfl (Own.kept HO.out (by (repeat (first | assumption | exact Below.refl _ _ | refine Below.drew ?_ | refine Below.setCell ?_ (by first | (simp; done) | (simp; omega) | omega) _ | refine Below.alloc ?_ (by first | (simp; done) | (simp; omega) | omega) _)))) ⟨_, 0, none⟩ 1 1 [.string r.name] rfl rfl ?c1 ?c2 ?c3 ?c4 ?c5 ?c6)
        try (case c1 => first | exact World.news_of_block (heap_alloc_new _ _) | exact World.news_of_block (alloc_two _ _ _))
        case c2 => first | rfl | (intro u hu; simp only [List.mem_cons, List.not_mem_nil, or_false] at hu; subst hu; rfl)
        case c3 => unfold maxLen; omega
        case c4 => omega
        case c5 => first | (simp; done) | (simp; omega) | omega
        case c6 =>
          intro v' w4 hown' hgrow _
          have hb3 : Below w.heap.size w w4 := Below.grown (by (repeat (first | assumption | exact Below.refl _ _ | refine Below.drew ?_ | refine Below.setCell ?_ (by first | (simp; done) | (simp; omega) | omega) _ | refine Below.alloc ?_ (by first | (simp; done) | (simp; omega) | omega) _))) hgrow (by first | (simp; done) | (simp; omega) | omega) (fun j hj => (HO.out.lt j hj).1)
          have HO2 := Lib.hid (show Own LString.rec 9 w4 w.heap.size v' (zs ++ [r.name]) from own_of LString.rec hown' (by simp) (by rw [flat_append]; rfl))
          clear hown' hgrow
          go_wp2_with fail
          go_roundw
          case rel => exact ⟨k + 1, _, _, rfl, by omega, by go_num, HZ2, by simp; omega, HO2, hb3⟩
          case measure => simp [intOf]; omega
      · obtain rfl : k = n := by omega
        have HE := Lib.hid (show Own LString.rec 9 wr w.heap.size o1 (nms z0 z1) by have h := HO.out; rw [HZ.out, List.take_of_length_le (by have := HN.out; omega)] at h; exact h)
        go_wp2_with fail
        go_ret2
        exact ⟨_, _, true, rfl, HA.out, HE.out, hb⟩
end Go.Proofs.Ytbaflfbidgolfaa.QuestionNamesC
