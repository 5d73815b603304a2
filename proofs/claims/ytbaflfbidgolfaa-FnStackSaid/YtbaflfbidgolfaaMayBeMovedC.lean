/- MayBeMoved, model and program: what both answer. No condition but that names are no longer than strings can be. -/
import Derived.Test.YtbaflfbidgolfaaData
namespace Go.Proofs.Ytbaflfbidgolfaa.MayBeMovedC
open Go.RowKit Bs Word Sq St StF StL StG StA IntF
set_option linter.unusedVariables false
def MPost (z : List R) (l : List Q) (w : World) (e : Ending) (w' : World) : Prop := ∃ v, e = .returned v ∧ Own LInt.rec 3 w' w.heap.size v (may z l) ∧ Below w.heap.size w w'
def Ans (z0 : List LRule.R) (z1 : List LQuestion.R) (r0 : List Int) (r1 : Bool) : Prop := mayA z0 z1 = (r0, r1)
theorem same {z0 : List LRule.R} {z1 : List LQuestion.R} {r0 s0 : List Int} {r1 s1 : Bool} (h : Ans z0 z1 r0 r1) (h' : Ans z0 z1 s0 s1) : r0 = s0 ∧ r1 = s1 := by
  have := h.symm.trans h'; simp only [Prod.mk.injEq] at this; exact this
theorem len0 {z0 : List LRule.R} {z1 : List LQuestion.R} {r0 : List Int} {r1 : Bool} (h : Ans z0 z1 r0 r1) : r0.length ≤ 1048576 := by
  unfold Ans mayA at h
  split at h
  · rename_i hg
    simp only [Prod.mk.injEq] at h
    rw [← h.1]
    have := may_len (z := z0) (l := z1); have := good_rules hg; omega
  · simp only [Prod.mk.injEq] at h; rw [← h.1]; simp
def APost (z0 : List LRule.R) (z1 : List LQuestion.R) (w : World) (e : Ending) (w' : World) : Prop :=
  ∃ v0 r0 r1, e = .returned (.tuple #[v0, .bool r1]) ∧ Ans z0 z1 r0 r1 ∧ Own LInt.rec 3 w' w.heap.size v0 r0 ∧ Below w.heap.size w w'
set_option maxRecDepth 100000 in
set_option maxHeartbeats 3200000 in
theorem l7May (v0 v1 : Value) (z : List R) (l : List Q) (w : World) (h : Is LRule.rec w v0 z) (h1 : Is LQuestion.rec w v1 l) (ht : TopIn z l) (l0 : z.length ≤ 8) :
    Calls Try.prog 85 #[v0, v1] w (MPost z l w) := by
  have HR := Lib.hid h
  have HTI := Lib.hid ht
  have hb0 := (Below.refl w.heap.size w).alloc (Nat.le_refl _) (Obj.cells #[] 3)
  have HO0 := Lib.hid (Own.start (T := LInt.rec) (E := 3) (w := w) (Nat.le_refl _))
  obtain ⟨ar, cr, rfl, h⟩ := h
  have hcr := h.at_ LRule.rec
  obtain ⟨nr, hn⟩ : ∃ n, n = z.length := ⟨_, rfl⟩
  have hnrb : nr ≤ cr := by have := h.1; omega
  have hnr2 := h.2.1
  unfold maxLen at hnr2
  have HNr := Lib.hid hn.symm
  rw [← hn] at  HR ⊢
  have hnrle : nr ≤ z.length := by omega
  clear hn h
  obtain ⟨a, cp, rfl, h1⟩ := h1
  have hc := h1.at_ LQuestion.rec
  obtain ⟨n, hn⟩ : ∃ n, n = l.length := ⟨_, rfl⟩
  have hnb : n ≤ cp := by have := h1.1; omega
  have hn2 := h1.2.1
  unfold maxLen at hn2
  have HN := Lib.hid hn.symm
  rw [← hn]
  have hnle : n ≤ l.length := by omega
  clear hn h1
  obtain ⟨i9, hi, hz0, hz1, hz2⟩ := info_parts LInt.infoK
  have HI9 := Lib.hid hi
  have HZ9 := Lib.hid (And.intro hz0 (And.intro hz1 hz2))
  clear hi hz0 hz1 hz2
  clear ht
  rw [HNr.out] at l0
  go_enter Try.func85, Try.ntmps85
  go_wp2_with fail
  go_loopw [5, 7] (fun so i wr => ∃ (k : Nat) (o : Value) (zs : List Int), o = so ∧ k ≤ nr ∧ i = .int .i64 k ∧ Hid (zs = mayT z l k) ∧ zs.length ≤ k ∧ Hid (Own LInt.rec 3 wr w.heap.size o zs) ∧ Below w.heap.size w wr) (fun _ i _ => nr - (intOf i).toNat)
  case atStart => exact ⟨0, _, [], rfl, Nat.zero_le _, rfl, Lib.hid rfl, Nat.le_refl _, HO0, hb0⟩
  case round =>
    clear HO0 hb0
    obtain ⟨k, o, zs, rfl, hk, rfl, HZ, hzl, HO, hb⟩ := hrel
    by_cases hlt : k < nr
    · by_cases h6 : n < 6
      · have hx : k < z.length := by omega
        obtain ⟨b, o', rfl, hbl, hcell0⟩ := hcr.out k z[k] (List.getElem?_eq_getElem hx)
        have HK := Lib.hid hcell0
        have HX := Lib.hid (List.getElem?_eq_getElem hx)
        have hlb : b < wr.heap.size := Nat.lt_of_lt_of_le hbl hb.size
        have k0 : 0 ≤ (k : Int) := by omega
        have k1 : (k : Int) < (nr : Int) := by omega
        have HGX := LRule.grown (hcell0.below LRule.rec hb hbl) hlb
        clear hcell0
        generalize z[k] = X at *
        go_upto_region 6 with fail
        go_cut [47] (fun t wx => ∃ v : Bool, t = .bool v ∧ Hid (mayB z l X = v) ∧ Below wr.heap.size wr wx)
        case first =>
          by_cases hz : n = 0
          · have HV := Lib.hid (show mayB z l X = true from may_nil (by rw [HN.out]; exact hz))
            have n5 : decide (n = 0) = true := by simpa using hz
            have n6 : ((n : Int) == 0) = true := by simpa using hz
            subst hz
            refine wp_region_quiet_below (by kernel_rfl) (by kernel_rfl) ?_
            repeat (go_big_quiet_step (fail))
            refine wpQuiet_nil ?_
            intro _ hw'
            obtain ⟨⟨dq, osq⟩, hw''⟩ := hw'
            subst hw''
            go_wp2_with fail
            go_meet
            exact ⟨true, rfl, HV, below_regrown _ _ _⟩
          · have hpx : n - 1 < l.length := by have := HN.out; omega
            have hp : top l = some l[n - 1] := by unfold top; rw [HN.out]; exact List.getElem?_eq_getElem hpx
            obtain ⟨b1, o1, rfl, hbl1, hcell1⟩ := hc.out (n - 1) l[n - 1] (List.getElem?_eq_getElem hpx)
            obtain ⟨kp, hkp⟩ := Option.isSome_iff_exists.1 (HTI.out _ hp)
            have HT := Lib.hid (show mayB z l X = folR z l[n - 1] X by rw [may_top hp, HN.out, show decide (n < 6) = true from decide_eq_true h6, Bool.true_and])
            have HGP := LQuestion.grown (hcell1.below LQuestion.rec hb hbl1) (Nat.lt_of_lt_of_le hbl1 hb.size)
            have HKP := Lib.hid hkp
            have n1 : IntKind.i64.wrap ((n : Int) - 1) = (n : Int) - 1 := IntWalk.i64_in _ (by omega)
            have n2 : ((n : Int) - 1).toNat = n - 1 := by omega
            have n3 : 0 ≤ (n : Int) - 1 := by omega
            have n4 : (n : Int) - 1 < (n : Int) := by omega
            have n5 : decide (n = 0) = false := by simpa using hz
            have n6 : ((n : Int) == 0) = false := by simpa using hz
            clear hp hkp hcell1 hz
            generalize l[n - 1] = P at *
            have c0 := fun d os => (LQuestion.cells (HGP.out d os)).1
            have c1 := fun d os => (LQuestion.cells (HGP.out d os)).2.1
            have c2 := fun d os => (LQuestion.cells (HGP.out d os)).2.2
            have p2 := fun d os => (LRule.cells (HGX.out d os)).2.2.1
            simp only [LQuestion.rec_n, LRule.rec_n] at c0 c1 c2 p2
            have HRK := Lib.hid (fun (d : Nat) (os : Array Obj) => l7Rank _ z P kp (Sort.grow (redrawn wr d) os) (HR.out.below LRule.rec (hb.trans ((below_regrown wr d os).mono hb.size))) HKP.out)
            cases hl : lacks z P with
            | true =>
              have HLK := Lib.hid (fun (d : Nat) (os : Array Obj) => lacks_as (w := Sort.grow (redrawn wr d) os) (HR.out.below LRule.rec (hb.trans ((below_regrown wr d os).mono hb.size))) HKP.out hl)
              have HV := Lib.hid (show mayB z l X = false by rw [HT.out]; unfold folR; rw [hl]; rfl)
              clear hl
              refine wp_region_quiet_below (by kernel_rfl) (by kernel_rfl) ?_
              repeat (go_big_quiet_step ((first | (go_at_call 89; exact Calls.regrown_of (HLK.out _ _)) | (go_at_call 111; exact Calls.regrown_of (HRK.out _ _)))))
              refine wpQuiet_nil ?_
              intro _ hw'
              obtain ⟨⟨dq, osq⟩, hw''⟩ := hw'
              subst hw''
              go_wp2_with fail
              go_meet
              exact ⟨false, rfl, HV, below_regrown _ _ _⟩
            | false =>
              have HLK := Lib.hid (fun (d : Nat) (os : Array Obj) => lacks_as (w := Sort.grow (redrawn wr d) os) (HR.out.below LRule.rec (hb.trans ((below_regrown wr d os).mono hb.size))) HKP.out hl)
              have HV := Lib.hid (show mayB z l X = decide (rk z P < X.rank) by rw [HT.out]; unfold folR; rw [hl]; rfl)
              clear hl
              generalize rk z P = K at *
              refine wp_region_quiet_below (by kernel_rfl) (by kernel_rfl) ?_
              repeat (go_big_quiet_step ((first | (go_at_call 89; exact Calls.regrown_of (HLK.out _ _)) | (go_at_call 111; exact Calls.regrown_of (HRK.out _ _)))))
              refine wpQuiet_nil ?_
              intro _ hw'
              obtain ⟨⟨dq, osq⟩, hw''⟩ := hw'
              subst hw''
              go_wp2_with fail
              go_meet
              exact ⟨_, rfl, HV, below_regrown _ _ _⟩
        case rest =>
          obtain ⟨v, rfl, HV, hbv⟩ := hcut
          have hbt := hb.trans (hbv.mono hb.size)
          have HO2 := Lib.hid (HO.out.kept hbv)
          have hq0 := (LRule.cells (HK.out.below LRule.rec hbt hbl)).1
          simp only [LRule.rec_n] at hq0
          clear hb HO hbv HGX hlb
          have HO := HO2
          clear HO2
          cases v with
          | false =>
            have HZ2 := Lib.hid (show zs = mayT z l (k + 1) by rw [mayT_next HX.out HV.out, ← HZ.out]; simp)
            go_wp2_with fail
            go_roundw
            case rel => exact ⟨k + 1, o, zs, rfl, by omega, by go_num, HZ2, by omega, HO, hbt⟩
            case measure => simp [intOf]; omega
          | true =>
            have HZ2 := Lib.hid (show zs ++ [X.id] = mayT z l (k + 1) by rw [mayT_next HX.out HV.out, ← HZ.out]; rfl)
            have hsz := hbt.size
            go_wp2_with (at_builtin; refine wpList_append_own _ rfl (.tmp 48) (.tmp 54) 34 rfl w.heap.size 3 i9 (.int .i64 0) 1 8 Try.underlying34 HI9.out HZ9.out.1 HZ9.out.2.1 HZ9.out.2.2 rfl (by decide) _ _ _ rfl (Own.kept HO.out (by (repeat (first | assumption | exact Below.refl _ _ | refine Below.drew ?_ | refine Below.setCell ?_ (by first | (simp; done) | (simp; omega) | omega) _ | refine Below.alloc ?_ (by first | (simp; done) | (simp; omega) | omega) _)))) ⟨_, 0, none⟩ 1 1 [.int .i64 X.id] rfl rfl ?c1 ?c2 ?c3 ?c4 ?c5 ?c6)
            try (case c1 => first | exact World.news_of_block (heap_alloc_new _ _) | exact World.news_of_block (alloc_two _ _ _))
            case c2 => first | rfl | (intro u hu; simp only [List.mem_cons, List.not_mem_nil, or_false] at hu; subst hu; rfl)
            case c3 => unfold maxLen; omega
            case c4 => omega
            case c5 => first | (simp; done) | (simp; omega) | omega
            case c6 =>
              intro v' w4 hown' hgrow _
              have hb3 : Below w.heap.size w w4 := Below.grown (by (repeat (first | assumption | exact Below.refl _ _ | refine Below.drew ?_ | refine Below.setCell ?_ (by first | (simp; done) | (simp; omega) | omega) _ | refine Below.alloc ?_ (by first | (simp; done) | (simp; omega) | omega) _))) hgrow (by first | (simp; done) | (simp; omega) | omega) (fun j hj => (HO.out.lt j hj).1)
              have HO2 := Lib.hid (show Own LInt.rec 3 w4 w.heap.size v' (zs ++ [X.id]) from own_of LInt.rec hown' (by simp) (by rw [flat_append]; rfl))
              clear hown' hgrow
              go_wp2_with fail
              go_roundw
              case rel => exact ⟨k + 1, _, _, rfl, by omega, by go_num, HZ2, by simp; omega, HO2, hb3⟩
              case measure => simp [intOf]; omega
      · have HE := Lib.hid (show Own LInt.rec 3 wr w.heap.size o (may z l) by
          have h := HO.out
          have e1 : may z l = [] := may_full (by have := HN.out; omega)
          have e2 : zs = [] := by
            have := HZ.out
            cases hzz : zs with
            | nil => rfl
            | cons y ys =>
              exfalso
              have hy : y ∈ mayT z l k := by rw [← HZ.out, hzz]; exact List.mem_cons_self
              have hy2 : y ∈ may z l := by
                unfold mayT at hy; unfold may
                obtain ⟨r, hr, he⟩ := List.mem_map.1 hy
                obtain ⟨hm, hb⟩ := List.mem_filter.1 hr
                exact List.mem_map.2 ⟨r, List.mem_filter.2 ⟨List.mem_of_mem_take hm, hb⟩, he⟩
              rw [e1] at hy2; cases hy2
          rw [e1]; rw [e2] at h; exact h)
        have h6d : decide ((n : Int) < 6) = false := decide_eq_false (by omega)
        go_wp2_with fail
        go_ret
        exact ⟨_, rfl, HE.out, hb⟩
    · obtain rfl : k = nr := by omega
      have HE := Lib.hid (show Own LInt.rec 3 wr w.heap.size o (may z l) by have h := HO.out; rw [HZ.out, mayT_all (by have := HNr.out; omega)] at h; exact h)
      go_wp2_with fail
      go_ret
      exact ⟨_, rfl, HE.out, hb⟩
set_option maxRecDepth 100000 in
set_option maxHeartbeats 3200000 in
theorem spec (v0 : Value) (z0 : List LRule.R) (v1 : Value) (z1 : List LQuestion.R) (w : World) (h0 : IsS LRule.rec w v0 z0) (f0 : ∀ x ∈ z0, LRule.Fine x) (l0 : z0.length ≤ 1048576) (h1 : IsS LQuestion.rec w v1 z1) (f1 : ∀ x ∈ z1, LQuestion.Fine x) (l1 : z1.length ≤ 1048576) :
    Calls Try.prog 24 #[v0, v1] w (APost z0 z1 w) := by
  have HR := Lib.hid (IsS.is LRule.rec h0)
  have HQI := Lib.hid (IsS.is LQuestion.rec h1)
  have HF0 := Lib.hid f0
  clear h0 h1 f0 f1
  cases hg : goodQ z0 z1 with
  | false =>
    have HG := Lib.hid (good_asS false HR.out HQI.out HF0.out hg)
    have HA := Lib.hid (mayA_no hg)
    clear hg
    go_enter Try.func24, Try.ntmps24
    go_wp2_with fail
    refine HG.out.mono ?_
    rintro e w1 ⟨rfl, hb1⟩
    have HOb := Lib.hid (Own.start (T := LInt.rec) (E := 3) (w := w1) hb1.size)
    have hbz := hb1.alloc hb1.size (Obj.cells #[] 3)
    go_wp2_with fail
    go_ret2
    exact ⟨_, [], false, rfl, HA.out, HOb.out, hbz⟩
  | true =>
    have HG := Lib.hid (good_asS true HR.out HQI.out HF0.out hg)
    have HA := Lib.hid (mayA_yes hg)
    have HT := Lib.hid (topIn_good hg)
    have HL := Lib.hid (good_rules hg)
    clear hg
    go_enter Try.func24, Try.ntmps24
    go_wp2_with fail
    refine HG.out.mono ?_
    rintro e w1 ⟨rfl, hb1⟩
    go_wp2_with fail
    refine (l7May _ _ z0 z1 _ (HR.out.below LRule.rec hb1) (HQI.out.below LQuestion.rec hb1) HT.out HL.out).mono ?_
    rintro e w2 ⟨v, rfl, ho, hb2⟩
    have HO := Lib.hid (ho.low hb1.size)
    have hb3 := hb1.trans (hb2.mono hb1.size)
    clear ho hb2
    go_wp2_with fail
    go_ret2
    exact ⟨_, _, true, rfl, HA.out, HO.out, hb3⟩
set_option maxRecDepth 100000 in
set_option maxHeartbeats 3200000 in
theorem impl (v0 : Value) (z0 : List LRule.R) (v1 : Value) (z1 : List LQuestion.R) (w : World) (h0 : IsS LRule.rec w v0 z0) (f0 : ∀ x ∈ z0, LRule.Fine x) (l0 : z0.length ≤ 1048576) (h1 : IsS LQuestion.rec w v1 z1) (f1 : ∀ x ∈ z1, LQuestion.Fine x) (l1 : z1.length ≤ 1048576) :
    Calls Try.prog 25 #[v0, v1] w (APost z0 z1 w) := by
  have HR := Lib.hid (IsS.is LRule.rec h0)
  have HQI := Lib.hid (IsS.is LQuestion.rec h1)
  have HF0 := Lib.hid f0
  have h := IsS.is LRule.rec h0
  obtain ⟨ar, cr, rfl, h⟩ := h
  have hcr := h.at_ LRule.rec
  obtain ⟨nr, hn⟩ : ∃ n, n = z0.length := ⟨_, rfl⟩
  have hnrb : nr ≤ cr := by have := h.1; omega
  have hnr2 := h.2.1
  unfold maxLen at hnr2
  have HNr := Lib.hid hn.symm
  rw [← hn] at  HR ⊢
  have hnrle : nr ≤ z0.length := by omega
  clear hn h
  obtain ⟨i9, hi, hz0, hz1, hz2⟩ := info_parts LInt.infoK
  have HI9 := Lib.hid hi
  have HZ9 := Lib.hid (And.intro hz0 (And.intro hz1 hz2))
  clear hi hz0 hz1 hz2
  clear h0 h1 f0 f1
  cases hg : goodQ z0 z1 with
  | false =>
    have HG := Lib.hid (good_asI false HR.out HQI.out HF0.out hg)
    have HA := Lib.hid (mayA_no hg)
    clear hg
    go_enter Try.func25, Try.ntmps25
    go_wp2_with fail
    refine HG.out.mono ?_
    rintro e w1 ⟨rfl, hb1⟩
    have HOb := Lib.hid (Own.start (T := LInt.rec) (E := 3) (w := w1) hb1.size)
    have hbz := hb1.alloc hb1.size (Obj.cells #[] 3)
    go_wp2_with fail
    go_ret2
    exact ⟨_, [], false, rfl, HA.out, HOb.out, hbz⟩
  | true =>
    have HG := Lib.hid (good_asI true HR.out HQI.out HF0.out hg)
    have HA := Lib.hid (mayA_yes hg)
    have HT := Lib.hid (topIn_good hg)
    have hn8 : nr ≤ 8 := by have := good_rules hg; have := HNr.out; omega
    clear hg
    go_enter Try.func25, Try.ntmps25
    go_wp2_with fail
    refine HG.out.mono ?_
    rintro e w1 ⟨rfl, hb1⟩
    have hb0 := hb1.alloc hb1.size (Obj.cells #[] 3)
    have HO0 := Lib.hid (Own.start (T := LInt.rec) (E := 3) (w := w1) hb1.size)
    go_wp2_with fail
    go_loopw [6, 17] (fun so i wr => ∃ (k : Nat) (o : Value) (zs : List Int), o = so ∧ k ≤ nr ∧ i = .int .i64 k ∧ Hid (zs = mayT z0 z1 k) ∧ zs.length ≤ k ∧ Hid (Own LInt.rec 3 wr w.heap.size o zs) ∧ Below w.heap.size w wr) (fun _ i _ => nr - (intOf i).toNat)
    case atStart => exact ⟨0, _, [], rfl, Nat.zero_le _, rfl, Lib.hid rfl, Nat.le_refl _, HO0, hb0⟩
    case round =>
      clear HO0 hb0 hb1
      obtain ⟨k, o, zs, rfl, hk, rfl, HZ, hzl, HO, hb⟩ := hrel
      by_cases hlt : k < nr
      · have hx : k < z0.length := by omega
        obtain ⟨b, o', rfl, hbl, hcell0⟩ := hcr.out k z0[k] (List.getElem?_eq_getElem hx)
        obtain ⟨q0, q1, q2, q3, q4, q5, q6⟩ := LRule.cells (hcell0.below LRule.rec hb hbl)
        simp only [LRule.rec_n] at q0 q1 q2 q3 q4 q5 q6
        have HX := Lib.hid (List.getElem?_eq_getElem hx)
        have k0 : 0 ≤ (k : Int) := by omega
        have k1 : (k : Int) < (nr : Int) := by omega
        clear hcell0
        generalize z0[k] = X at *
        go_upto_region 7 with fail
        have HBX := Lib.hid (LRule.box wr X 63)
        have hba := hb.alloc hb.size (Obj.cells #[.int .i64 X.id, .string X.name, .int .i64 X.rank, .bool X.sec, .bool X.deb, .bool X.am, .int .i64 X.need] 63)
        have hGq : wr.heap.size < (wr.alloc (Obj.cells #[.int .i64 X.id, .string X.name, .int .i64 X.rank, .bool X.sec, .bool X.deb, .bool X.am, .int .i64 X.need] 63)).heap.size := by simp
        have HO1 := Lib.hid (HO.out.alloc (Obj.cells #[.int .i64 X.id, .string X.name, .int .i64 X.rank, .bool X.sec, .bool X.deb, .bool X.am, .int .i64 X.need] 63))
        clear q0 q1 q2 q3 q4 q5 q6 HO
        generalize wr.alloc (Obj.cells #[.int .i64 X.id, .string X.name, .int .i64 X.rank, .bool X.sec, .bool X.deb, .bool X.am, .int .i64 X.need] 63) = wq at *
        have hGl : w.heap.size ≤ wr.heap.size := hb.size
        generalize wr.heap.size = G at *
        clear hb
        obtain ⟨x0, x1, x2, x3, x4, x5, x6⟩ := LRule.cells0 HBX.out
        cases hv : mayB z0 z1 X with
        | false =>
          have HM := Lib.hid (may_asI false (HR.out.below LRule.rec hba) (HQI.out.below LQuestion.rec hba) HT.out hv)
          have HZ2 := Lib.hid (show zs = mayT z0 z1 (k + 1) by rw [mayT_next HX.out hv, ← HZ.out]; simp)
          clear hv
          go_wp2_with fail
          refine HM.out.mono ?_
          rintro e w3 ⟨rfl, hb3⟩
          have hb4 := hba.trans (hb3.mono hba.size)
          have HO := Lib.hid (HO1.out.kept hb3)
          go_wp2_with fail
          go_roundw
          case rel => exact ⟨k + 1, o, zs, rfl, by omega, by go_num, HZ2, by omega, HO, hb4⟩
          case measure => simp [intOf]; omega
        | true =>
          have HM := Lib.hid (may_asI true (HR.out.below LRule.rec hba) (HQI.out.below LQuestion.rec hba) HT.out hv)
          have HZ2 := Lib.hid (show zs ++ [X.id] = mayT z0 z1 (k + 1) by rw [mayT_next HX.out hv, ← HZ.out]; rfl)
          clear hv
          go_wp2_with fail
          refine HM.out.mono ?_
          rintro e w3 ⟨rfl, hb3⟩
          have hbt := hba.trans (hb3.mono hba.size)
          have HO := Lib.hid (HO1.out.kept hb3)
          have hq0 := (LRule.cells0 (HBX.out.below LRule.rec hb3 hGq)).1
          have hsz := hbt.size
          clear x0 x1 x2 x3 x4 x5 x6 HO1 hba
          go_wp2_with (at_builtin; refine wpList_append_own _ rfl (.tmp 25) (.tmp 28) 34 rfl w.heap.size 3 i9 (.int .i64 0) 1 8 Try.underlying34 HI9.out HZ9.out.1 HZ9.out.2.1 HZ9.out.2.2 rfl (by decide) _ _ _ rfl (Own.kept HO.out (by (repeat (first | assumption | exact Below.refl _ _ | refine Below.drew ?_ | refine Below.setCell ?_ (by first | (simp; done) | (simp; omega) | omega) _ | refine Below.alloc ?_ (by first | (simp; done) | (simp; omega) | omega) _)))) ⟨_, 0, none⟩ 1 1 [.int .i64 X.id] rfl rfl ?c1 ?c2 ?c3 ?c4 ?c5 ?c6)
          try (case c1 => first | exact World.news_of_block (heap_alloc_new _ _) | exact World.news_of_block (alloc_two _ _ _))
          case c2 => first | rfl | (intro u hu; simp only [List.mem_cons, List.not_mem_nil, or_false] at hu; subst hu; rfl)
          case c3 => unfold maxLen; omega
          case c4 => omega
          case c5 => first | (simp; done) | (simp; omega) | omega
          case c6 =>
            intro v' w4 hown' hgrow _
            have hb3 : Below w.heap.size w w4 := Below.grown (by (repeat (first | assumption | exact Below.refl _ _ | refine Below.drew ?_ | refine Below.setCell ?_ (by first | (simp; done) | (simp; omega) | omega) _ | refine Below.alloc ?_ (by first | (simp; done) | (simp; omega) | omega) _))) hgrow (by first | (simp; done) | (simp; omega) | omega) (fun j hj => (HO.out.lt j hj).1)
            have HO2 := Lib.hid (show Own LInt.rec 3 w4 w.heap.size v' (zs ++ [X.id]) from own_of LInt.rec hown' (by simp) (by rw [flat_append]; rfl))
            clear hown' hgrow
            go_wp2_with fail
            go_roundw
            case rel => exact ⟨k + 1, _, _, rfl, by omega, by go_num, HZ2, by simp; omega, HO2, hb3⟩
            case measure => simp [intOf]; omega
      · obtain rfl : k = nr := by omega
        have HE := Lib.hid (show Own LInt.rec 3 wr w.heap.size o (may z0 z1) by have h := HO.out; rw [HZ.out, mayT_all (by have := HNr.out; omega)] at h; exact h)
        go_wp2_with fail
        go_ret2
        exact ⟨_, _, true, rfl, HA.out, HE.out, hb⟩
end Go.Proofs.Ytbaflfbidgolfaa.MayBeMovedC
