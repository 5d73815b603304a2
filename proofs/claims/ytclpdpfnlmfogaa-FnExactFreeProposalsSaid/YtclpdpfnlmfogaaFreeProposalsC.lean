/- FreeProposals: what it answers, on both sides. No condition. -/
import Derived.Test.YtclpdpfnlmfogaaCfR
import Derived.Test.YtclpdpfnlmfogaaLIntK
import Derived.Maps.AppendAt
import Derived.Deep.DrawnRows
import Derived.Lib.QuietBelow
namespace Go.Proofs.Ytclpdpfnlmfogaa.FreeProposalsC
open Go.RowKit Bs Word Am AmA AmG AmF Cf CfG CfD CfI CfM CfR
set_option linter.unusedVariables false
def Ans (z0 : T) (z1 : List P) (r0 : List Int) (r1 : Bool) : Prop := (r0, r1) = if propsB z0 z1 = true then (free z1, true) else ([], false)
theorem yes {z0 : T} {z1 : List P} (h : propsB z0 z1 = true) : Ans z0 z1 (free z1) true := by unfold Ans; rw [if_pos h]
theorem no {z0 : T} {z1 : List P} (h : propsB z0 z1 = false) : Ans z0 z1 [] false := by unfold Ans; rw [h]; rfl
theorem same {z0 : T} {z1 : List P} {r0 s0 : List Int} {r1 s1 : Bool} (h1 : Ans z0 z1 r0 r1) (h2 : Ans z0 z1 s0 s1) : r0 = s0 ∧ r1 = s1 := by
  have h := (show (r0, r1) = _ from h1).trans (show (s0, s1) = _ from h2).symm
  exact ⟨congrArg Prod.fst h, congrArg Prod.snd h⟩
theorem len0 {z0 : T} {z1 : List P} {r0 : List Int} {r1 : Bool} (h : Ans z0 z1 r0 r1) : r0.length ≤ 1048576 := by
  replace h := (show (r0, r1) = _ from h)
  split at h
  · rename_i hc
    have := congrArg Prod.fst h
    simp only at this
    subst this
    have h1 := (props_parts hc).2.1
    have h2 := freeIds_len z1 z1.length
    unfold free
    omega
  · have := congrArg Prod.fst h; simp only at this; subst this; simp
def Post (z0 : T) (z1 : List P) (w : World) (e : Ending) (w' : World) : Prop := ∃ v0 r0 r1, e = .returned (.tuple #[v0, .bool r1]) ∧ Ans z0 z1 r0 r1 ∧ Own LInt.rec 3 w' w.heap.size v0 r0 ∧ Below w.heap.size w w'
theorem conf_as (v v' : Value) (a b : M) (bv : Bool) (hv : confB a b = bv) (w : World) (h0 : LAmendment.Is w v a) (h1 : LAmendment.Is w v' b) (ga : good a = true) (gb : good b = true) :
    Calls Try.prog 41 #[v, v'] w fun e w' => e = .returned (.bool bv) ∧ Below w.heap.size w w' := by subst hv; exact l10Conflict v v' a b w h0 h1 ga gb
attribute [local go_sem ↓] Go.wp_at_zero Go.wp_at_succ in
set_option maxRecDepth 100000 in
set_option maxHeartbeats 3200000 in
theorem spec (v0 : Value) (z0 : T) (v1 : Value) (z1 : List P) (w : World) (h0 : IsS LString.rec w v0 z0) (f0 : ∀ x ∈ z0, LString.Fine x) (l0 : z0.length ≤ 1048576) (h1 : LProposalS.IsS w v1 z1) (f1 : ∀ x ∈ z1, LProposalS.Fine x) (l1 : z1.length ≤ 1048576) :
    Calls Try.prog 27 #[v0, v1] w (Post z0 z1 w) := by
  obtain ⟨z, hz⟩ : ∃ z, z = z1 := ⟨_, rfl⟩
  subst hz
  have h1 := Bs.NIsS.is h1
  obtain ⟨i9, hi, hz0, hz1, hz2⟩ := info_parts LInt.infoK
  have HI9 := Lib.hid hi
  have HZ9 := Lib.hid (And.intro hz0 (And.intro hz1 hz2))
  clear hi hz0 hz1 hz2
  have HG := Lib.hid (fun W (hW : Below w.heap.size w W) => CfG.l10Good v0 v1 z0 z W (.inr (IsS.below _ h0 hW)) (Bs.NIs.below h1 hW) f0 f1 l0)
  have HNO := Lib.hid (no (z0 := z0) (z1 := z))
  have HYES := Lib.hid (yes (z0 := z0) (z1 := z))
  have hb0 := (Below.refl w.heap.size w).alloc (Nat.le_refl _) (Obj.cells #[] 3)
  have HO0 := Lib.hid (Own.start (T := LInt.rec) (E := 3) (w := w) (Nat.le_refl _))
  obtain ⟨b0, o0, c0, rfl, -⟩ := h0
  have hc := LProposalS.get h1
  obtain ⟨a, cp, rfl, hnb, h2⟩ := h1.form
  unfold maxLen at h2
  obtain ⟨n, hn⟩ : ∃ n, n = z.length := ⟨_, rfl⟩
  have HN := Lib.hid hn.symm
  have HF := Lib.hid f1
  have HLI := Lib.hid h1
  rw [← hn] at hc hnb HLI HG ⊢
  have hle : n ≤ z.length := by omega
  clear hn h1 f1
  clear f0 l0 l1
  cases gp : propsB z0 z with
  | false =>
    have HC := Lib.hid (HG.out _ hb0)
    rw [gp] at HC
    have HA := Lib.hid (HNO.out gp)
    clear gp
    go_enter Try.func27, Try.ntmps27
    go_wp2_with fail
    refine HC.out.mono ?_
    rintro e w1 ⟨rfl, hb1⟩
    have HO1 := Lib.hid (HO0.out.kept hb1)
    have hb2 := hb0.trans (hb1.mono hb0.size)
    clear hb1
    go_wp2_with fail
    go_ret2
    exact ⟨_, [], false, rfl, HA.out, HO1.out, hb2⟩
  | true =>
  have HC := Lib.hid (HG.out _ hb0)
  rw [gp] at HC
  have HA := Lib.hid (HYES.out gp)
  have HGA := Lib.hid (props_good gp)
  have hn8 : n ≤ 8 := by have := (props_parts gp).2.1; have := HN.out; omega
  clear gp HG HNO HYES
  go_enter Try.func27, Try.ntmps27
  go_wp2_with fail
  refine HC.out.mono ?_
  rintro e w1 ⟨rfl, hb1⟩
  have HO1 := Lib.hid (HO0.out.kept hb1)
  have hb2 := hb0.trans (hb1.mono hb0.size)
  clear hb1 hb0 HO0
  go_wp2_with fail
  go_loopw [6, 7] (fun so i wr => ∃ (k : Nat) (o : Value), o = so ∧ k ≤ n ∧ i = .int .i64 k ∧ Hid (Own LInt.rec 3 wr w.heap.size o (freeIds z k)) ∧ Below w.heap.size w wr) (fun _ i _ => n - (intOf i).toNat)
  case atStart => exact ⟨0, _, rfl, Nat.zero_le _, rfl, HO1, hb2⟩
  case round =>
    clear HO1 hb2
    obtain ⟨i, ov, rfl, hik, rfl, HO, hb⟩ := hrel
    by_cases hlt : i < n
    · have k0 : 0 ≤ (i : Int) := by omega
      have k1 : (i : Int) < (n : Int) := by omega
      have hx : i < z.length := by omega
      obtain ⟨b, o, c, x, y, s, he, hbl, hat, hI⟩ := hc.out i z[i] (List.getElem?_eq_getElem hx)
      simp only [Value.slice.injEq] at he
      obtain ⟨rfl, -, rfl⟩ := he
      have HAT := Lib.hid hat
      have HX := Lib.hid (List.getElem?_eq_getElem hx)
      have HFX := Lib.hid (HF.out _ (List.getElem_mem hx))
      have HGX := Lib.hid (HGA.out _ (List.getElem_mem hx))
      have HQX := Lib.hid hI
      clear hat hI
      generalize z[i] = X at *
      go_wp2_with fail
      go_loopw [8, 9] (fun fr j wr => ∃ m : Nat, m ≤ n ∧ fr = .bool (freeTo z i m) ∧ j = .int .i64 m ∧ Hid (Own LInt.rec 3 wr w.heap.size ov (freeIds z i)) ∧ Below w.heap.size w wr) (fun _ j _ => n - (intOf j).toNat)
      case atStart => exact ⟨0, Nat.zero_le _, by rw [freeTo_zero], rfl, HO, hb⟩
      case round =>
        clear HO hb
        obtain ⟨m, hmk, rfl, rfl, HO, hb⟩ := hrel
        by_cases hlm : m < n
        · have m0 : 0 ≤ (m : Int) := by omega
          have m1 : (m : Int) < (n : Int) := by omega
          have hxb : m < z.length := by omega
          obtain ⟨bb, ob, cb, xb, yb, sb, heb, hblb, hatb, hIb⟩ := hc.out m z[m] (List.getElem?_eq_getElem hxb)
          simp only [Value.slice.injEq, Option.some.injEq, Addr.mk.injEq, and_true] at heb
          obtain ⟨⟨rfl, rfl⟩, -⟩ := heb
          have HATb := Lib.hid hatb
          have HXb := Lib.hid (List.getElem?_eq_getElem hxb)
          have HFXb := Lib.hid (HF.out _ (List.getElem_mem hxb))
          have HGXb := Lib.hid (HGA.out _ (List.getElem_mem hxb))
          have HQXb := Lib.hid hIb
          clear hatb hIb
          generalize z[m] = Y at *
          have HFT := Lib.hid (freeTo_next z i m)
          rw [cf_at HX.out HXb.out] at HFT
          go_upto_region 11 with fail
          cases gf : freeTo z i m with
          | false =>
            have HV := Lib.hid (show freeTo z i (m + 1) = false by rw [HFT.out, gf]; rfl)
            clear gf
            refine wp_region_quiet_below (by kernel_rfl) (by kernel_rfl) ?_
            repeat (go_big_quiet_step (fail))
            refine wpQuiet_nil ?_
            intro _ hw'
            obtain ⟨⟨dq, osq⟩, hw''⟩ := hw'
            subst hw''
            have hbq := below_regrown wr dq osq
            have HO2 := Lib.hid (HO.out.kept hbq)
            have hb2 := hb.trans (hbq.mono hb.size)
            clear hbq
            go_wp2_with fail
            go_roundw
            case rel => exact ⟨m + 1, by omega, by rw [HV.out], by go_num, HO2, hb2⟩
            case measure => simp [intOf]; omega
          | true =>
          by_cases him : i = m
          · have HV := Lib.hid (show freeTo z i (m + 1) = true by rw [HFT.out, gf]; simp [him])
            have e1 : ((i : Int) == (m : Int)) = true := by simp [him]
            clear gf him
            refine wp_region_quiet_below (by kernel_rfl) (by kernel_rfl) ?_
            repeat (go_big_quiet_step (fail))
            refine wpQuiet_nil ?_
            intro _ hw'
            obtain ⟨⟨dq, osq⟩, hw''⟩ := hw'
            subst hw''
            have hbq := below_regrown wr dq osq
            have HO2 := Lib.hid (HO.out.kept hbq)
            have hb2 := hb.trans (hbq.mono hb.size)
            clear hbq
            go_wp2_with fail
            go_roundw
            case rel => exact ⟨m + 1, by omega, by rw [HV.out], by go_num, HO2, hb2⟩
            case measure => simp [intOf]; omega
          · have e1 : ((i : Int) == (m : Int)) = false := beq_eq_false_iff_ne.2 (by omega)
            have e2 : (i == m) = false := by simp [him]
            rw [e2, gf] at HFT
            clear him e2
            have a1 := fun d os => (isAt (HAT.out.below LProposalS.kit.row (hb.trans ((below_regrown wr d os).mono hb.size)) hbl)).1
            have a2 := fun d os => (isAt (HAT.out.below LProposalS.kit.row (hb.trans ((below_regrown wr d os).mono hb.size)) hbl)).2.1
            have a3 := fun d os => (isAt (HAT.out.below LProposalS.kit.row (hb.trans ((below_regrown wr d os).mono hb.size)) hbl)).2.2.1
            have a4 := fun d os => (isAt (HAT.out.below LProposalS.kit.row (hb.trans ((below_regrown wr d os).mono hb.size)) hbl)).2.2.2
            have d1 := fun d os => (isAt (HATb.out.below LProposalS.kit.row (hb.trans ((below_regrown wr d os).mono hb.size)) hblb)).1
            have d2 := fun d os => (isAt (HATb.out.below LProposalS.kit.row (hb.trans ((below_regrown wr d os).mono hb.size)) hblb)).2.1
            have d3 := fun d os => (isAt (HATb.out.below LProposalS.kit.row (hb.trans ((below_regrown wr d os).mono hb.size)) hblb)).2.2.1
            have d4 := fun d os => (isAt (HATb.out.below LProposalS.kit.row (hb.trans ((below_regrown wr d os).mono hb.size)) hblb)).2.2.2
            cases cv : confB (ch X) (ch Y) with
            | false =>
              have HC := Lib.hid (fun W (hW : Below wr.heap.size wr W) => conf_as _ _ (ch X) (ch Y) false cv W (is_ch (LProposal.Is.below HQX.out (hb.trans (hW.mono hb.size)))) (is_ch (LProposal.Is.below HQXb.out (hb.trans (hW.mono hb.size)))) HGX.out HGXb.out)
              have HV := Lib.hid (show freeTo z i (m + 1) = true by rw [HFT.out, cv]; rfl)
              clear cv
              refine wp_region_quiet_below (by kernel_rfl) (by kernel_rfl) ?_
              repeat (go_big_quiet_step ((first | (go_at_call 41; exact Calls.regrown_of (HC.out _ (below_regrown wr _ _))) | fail)))
              refine wpQuiet_nil ?_
              intro _ hw'
              obtain ⟨⟨dq, osq⟩, hw''⟩ := hw'
              subst hw''
              have hbq := below_regrown wr dq osq
              have HO2 := Lib.hid (HO.out.kept hbq)
              have hb2 := hb.trans (hbq.mono hb.size)
              clear hbq a1 a2 a3 a4 d1 d2 d3 d4
              go_wp2_with fail
              go_roundw
              case rel => exact ⟨m + 1, by omega, by rw [HV.out], by go_num, HO2, hb2⟩
              case measure => simp [intOf]; omega
            | true =>
              have HC := Lib.hid (fun W (hW : Below wr.heap.size wr W) => conf_as _ _ (ch X) (ch Y) true cv W (is_ch (LProposal.Is.below HQX.out (hb.trans (hW.mono hb.size)))) (is_ch (LProposal.Is.below HQXb.out (hb.trans (hW.mono hb.size)))) HGX.out HGXb.out)
              have HV := Lib.hid (show freeTo z i (m + 1) = false by rw [HFT.out, cv]; rfl)
              clear cv
              refine wp_region_quiet_below (by kernel_rfl) (by kernel_rfl) ?_
              repeat (go_big_quiet_step ((first | (go_at_call 41; exact Calls.regrown_of (HC.out _ (below_regrown wr _ _))) | fail)))
              refine wpQuiet_nil ?_
              intro _ hw'
              obtain ⟨⟨dq, osq⟩, hw''⟩ := hw'
              subst hw''
              have hbq := below_regrown wr dq osq
              have HO2 := Lib.hid (HO.out.kept hbq)
              have hb2 := hb.trans (hbq.mono hb.size)
              clear hbq a1 a2 a3 a4 d1 d2 d3 d4
              go_wp2_with fail
              go_roundw
              case rel => exact ⟨m + 1, by omega, by rw [HV.out], by go_num, HO2, hb2⟩
              case measure => simp [intOf]; omega
        · obtain rfl : m = n := by omega
          have HE := Lib.hid (show freeTo z i m = freeAt z i by unfold freeAt; rw [HN.out])
          have p0 := (LProposalS.cells_hd (HAT.out.below LProposalS.kit.row hb hbl)).1
          have hfl := freeIds_len z i
          have hsz := hb.size
          rw [HE.out]
          cases gf : freeAt z i with
          | false =>
            have HF2 := Lib.hid (freeIds_no gf)
            clear gf
            go_wp2_with fail
            go_roundw
            case rel => exact ⟨i + 1, _, rfl, by omega, by go_num, Lib.hid (HF2.out ▸ HO.out), hb⟩
            case measure => simp [intOf]; omega
          | true =>
            have HF2 := Lib.hid (freeIds_yes HX.out gf)
            clear gf
            go_wp2_with (at_builtin; refine wpList_append_own_at _ rfl (.tmp 49) (.tmp 55) 45 rfl w.heap.size 3 i9 (.int .i64 0) 1 8 Try.underlying45 HI9.out HZ9.out.1 HZ9.out.2.1 HZ9.out.2.2 rfl (by decide) _ _ _ rfl (Own.kept HO.out (by (repeat (first | assumption | exact Below.refl _ _ | refine Below.drew ?_ | refine Below.setCell ?_ (by first | (simp; done) | (simp; omega) | omega) _ | refine Below.alloc ?_ (by first | (simp; done) | (simp; omega) | omega) _)))) ⟨_, 0, none⟩ 1 1 [.int .i64 X.id] rfl rfl ?c1 ?c2 ?c3 ?c4 ?c5 ?c6)
            try (case c1 => first | exact World.news_of_block (heap_alloc_new _ _) | exact World.news_of_block (alloc_two _ _ _))
            case c2 => first | rfl | (intro u hu; simp only [List.mem_cons, List.not_mem_nil, or_false] at hu; subst hu; rfl)
            case c3 => unfold maxLen; omega
            case c4 => omega
            case c5 => first | (simp; done) | (simp; omega) | omega
            case c6 =>
              intro v' w4 hown' hgrow _ hat
              have hb3 : Below w.heap.size w w4 := Below.grown (by (repeat (first | assumption | exact Below.refl _ _ | refine Below.drew ?_ | refine Below.setCell ?_ (by first | (simp; done) | (simp; omega) | omega) _ | refine Below.alloc ?_ (by first | (simp; done) | (simp; omega) | omega) _))) hgrow (by first | (simp; done) | (simp; omega) | omega) (fun j hj => (HO.out.lt j hj).1)
              have HO2 := Lib.hid (show Own LInt.rec 3 w4 w.heap.size v' (freeIds z (i + 1)) from own_of LInt.rec hown' (by rw [HF2.out]; simp) (by rw [HF2.out, flat_append]; rfl))
              clear hown' hgrow hat
              go_wp2_with fail
              go_roundw
              case rel => exact ⟨i + 1, _, rfl, by omega, by go_num, HO2, hb3⟩
              case measure => simp [intOf]; omega
    · obtain rfl : i = n := by omega
      have HE := Lib.hid (show freeIds z i = free z by unfold free; rw [HN.out])
      go_wp2_with fail
      go_ret2
      exact ⟨_, _, true, rfl, HA.out, HE.out ▸ HO.out, hb⟩
set_option maxRecDepth 100000 in
set_option maxHeartbeats 3200000 in
theorem impl (v0 : Value) (z0 : T) (v1 : Value) (z1 : List P) (w : World) (h0 : IsS LString.rec w v0 z0) (f0 : ∀ x ∈ z0, LString.Fine x) (l0 : z0.length ≤ 1048576) (h1 : LProposalS.IsS w v1 z1) (f1 : ∀ x ∈ z1, LProposalS.Fine x) (l1 : z1.length ≤ 1048576) :
    Calls Try.prog 28 #[v0, v1] w (Post z0 z1 w) := by
  obtain ⟨z, hz⟩ : ∃ z, z = z1 := ⟨_, rfl⟩
  subst hz
  have h1 := Bs.NIsS.is h1
  obtain ⟨i9, hi, hz0, hz1, hz2⟩ := info_parts LInt.infoK
  have HI9 := Lib.hid hi
  have HZ9 := Lib.hid (And.intro hz0 (And.intro hz1 hz2))
  clear hi hz0 hz1 hz2
  have HC := Lib.hid (CfG.areProposals v0 v1 z0 z w (.inr h0) h1 f0 f1 l0)
  have HNO := Lib.hid (no (z0 := z0) (z1 := z))
  have HYES := Lib.hid (yes (z0 := z0) (z1 := z))
  obtain ⟨b0, o0, c0, rfl, -⟩ := h0
  have HRV := Lib.hid (fun W (hW : Below w.heap.size w W) => CfR.rivalsOf v1 z W (Bs.NIs.below h1 hW) f1)
  have hc := LProposalS.get h1
  obtain ⟨a, cp, rfl, hnb, h2⟩ := h1.form
  unfold maxLen at h2
  obtain ⟨n, hn⟩ : ∃ n, n = z.length := ⟨_, rfl⟩
  have HN := Lib.hid hn.symm
  have HF := Lib.hid f1
  have HLI := Lib.hid h1
  rw [← hn] at hc hnb HLI HC HRV ⊢
  have hle : n ≤ z.length := by omega
  clear hn h1 f1
  clear f0 l0 l1
  cases gp : propsB z0 z with
  | false =>
    rw [gp] at HC
    have HA := Lib.hid (HNO.out gp)
    clear gp
    go_enter Try.func28, Try.ntmps28
    go_wp2_with fail
    refine HC.out.mono ?_
    rintro e w1 ⟨rfl, hb1⟩
    have HO1 := Lib.hid (Own.start (T := LInt.rec) (E := 3) (w := w1) hb1.size)
    have hb2 := hb1.alloc hb1.size (Obj.cells #[] 3)
    clear hb1
    go_wp2_with fail
    go_ret2
    exact ⟨_, [], false, rfl, HA.out, HO1.out, hb2⟩
  | true =>
  rw [gp] at HC
  have HA := Lib.hid (HYES.out gp)
  have HGA := Lib.hid (props_good gp)
  have hn8 : n ≤ 8 := by have := (props_parts gp).2.1; have := HN.out; omega
  have HRV2 := Lib.hid (fun W (hW : Below w.heap.size w W) => HRV.out W hW hn8 HGA.out)
  clear gp HNO HYES HRV
  go_enter Try.func28, Try.ntmps28
  go_wp2_with fail
  refine HC.out.mono ?_
  rintro e w1 ⟨rfl, hb1⟩
  obtain ⟨wa, hwa⟩ : ∃ wa : World, wa = w1.alloc (Obj.cells #[] 3) := ⟨_, rfl⟩
  have HO1 := Lib.hid (show Own LInt.rec 3 wa w.heap.size (.slice (some ⟨w1.heap.size, 0, none⟩) 0 0) [] by rw [hwa]; exact Own.start hb1.size)
  have hb2 : Below w.heap.size w wa := by rw [hwa]; exact hb1.alloc hb1.size _
  have HA1 := Lib.hid (show w1.heap.size < wa.heap.size by rw [hwa]; simp)
  go_upto_region 4 with fail
  rw [← hwa]
  clear hwa hb1
  generalize w1.heap.size = G1 at *
  go_wp2_with fail
  refine (HRV2.out _ hb2).mono ?_
  rintro e w2 ⟨gr, rfl, hgr, hor, hb3⟩
  have HO2 := Lib.hid (HO1.out.kept hb3)
  have HD := Lib.hid (show ∀ g, (Value.slice (some ⟨G1, 0, none⟩) 0 0).ownBlock = some g → g ≠ gr from fun g hg => by
    have h1 := Option.some.inj hg
    simp only at h1
    have := HA1.out
    omega)
  have HU := Lib.hid (show Own LSet.rec 69 w2 w.heap.size (.slice (some ⟨gr, 0, none⟩) n n) (rivs z) from hor.low hb2.size)
  replace hb2 := hb2.trans (hb3.mono hb2.size)
  clear hor hb3 hgr HO1 HA1 HRV2
  go_wp2_with fail
  go_loopw [6, 18] (fun so i wr => ∃ (k : Nat) (o : Value), o = so ∧ k ≤ n ∧ i = .int .i64 k ∧ Hid (Own LInt.rec 3 wr w.heap.size o (freeIds z k)) ∧ Hid (Own LSet.rec 69 wr w.heap.size (.slice (some ⟨gr, 0, none⟩) n n) (rivs z)) ∧ Hid (∀ g, o.ownBlock = some g → g ≠ gr) ∧ Below w.heap.size w wr) (fun _ i _ => n - (intOf i).toNat)
  case atStart => exact ⟨0, _, rfl, Nat.zero_le _, rfl, HO2, HU, HD, hb2⟩
  case round =>
    clear HO2 HU HD hb2
    obtain ⟨i, ov, rfl, hik, rfl, HO, HU, HD, hb⟩ := hrel
    by_cases hlt : i < n
    · have k0 : 0 ≤ (i : Int) := by omega
      have k1 : (i : Int) < (n : Int) := by omega
      have hx : i < z.length := by omega
      obtain ⟨b, o, c, x, y, s, he, hbl, hat, hI⟩ := hc.out i z[i] (List.getElem?_eq_getElem hx)
      simp only [Value.slice.injEq] at he
      obtain ⟨rfl, -, rfl⟩ := he
      have HAT := Lib.hid hat
      have HX := Lib.hid (List.getElem?_eq_getElem hx)
      have HFX := Lib.hid (HF.out _ (List.getElem_mem hx))
      have HGX := Lib.hid (HGA.out _ (List.getElem_mem hx))
      have HQX := Lib.hid hI
      clear hat hI
      generalize z[i] = X at *
      have p0 := (LProposalS.cells_hd (HAT.out.below LProposalS.kit.row hb hbl)).1
      have q0 := LSet.cells (Own.at_ HU.out i (riv z i) (rivs_at (by have := HN.out; omega)))
      simp only [LSet.rec_n, Nat.mul_one] at q0
      have hfl := freeIds_len z i
      have hsz := hb.size
      have HFR := Lib.hid (free_riv z i)
      generalize riv z i = RV at *
      by_cases hr : RV = 0
      · have HF2 := Lib.hid (freeIds_yes HX.out (by rw [HFR.out]; exact decide_eq_true hr))
        have e1 : ((RV : Int) == 0) = true := by simp [hr]
        clear hr
        go_wp2_with (at_builtin; refine wpList_append_own_at _ rfl (.tmp 25) (.tmp 31) 45 rfl w.heap.size 3 i9 (.int .i64 0) 1 8 Try.underlying45 HI9.out HZ9.out.1 HZ9.out.2.1 HZ9.out.2.2 rfl (by decide) _ _ _ rfl (Own.kept HO.out (by (repeat (first | assumption | exact Below.refl _ _ | refine Below.drew ?_ | refine Below.setCell ?_ (by first | (simp; done) | (simp; omega) | omega) _ | refine Below.alloc ?_ (by first | (simp; done) | (simp; omega) | omega) _)))) ⟨_, 0, none⟩ 1 1 [.int .i64 X.id] rfl rfl ?c1 ?c2 ?c3 ?c4 ?c5 ?c6)
        try (case c1 => first | exact World.news_of_block (heap_alloc_new _ _) | exact World.news_of_block (alloc_two _ _ _))
        case c2 => first | rfl | (intro u hu; simp only [List.mem_cons, List.not_mem_nil, or_false] at hu; subst hu; rfl)
        case c3 => unfold maxLen; omega
        case c4 => omega
        case c5 => first | (simp; done) | (simp; omega) | omega
        case c6 =>
          intro v' w4 hown' hgrow _ hat
          have hb3 : Below w.heap.size w w4 := Below.grown (by (repeat (first | assumption | exact Below.refl _ _ | refine Below.drew ?_ | refine Below.setCell ?_ (by first | (simp; done) | (simp; omega) | omega) _ | refine Below.alloc ?_ (by first | (simp; done) | (simp; omega) | omega) _))) hgrow (by first | (simp; done) | (simp; omega) | omega) (fun j hj => (HO.out.lt j hj).1)
          have HO2 := Lib.hid (show Own LInt.rec 3 w4 w.heap.size v' (freeIds z (i + 1)) from own_of LInt.rec hown' (by rw [HF2.out]; simp) (by rw [HF2.out, flat_append]; rfl))
          have HU2 := Lib.hid (show Own LSet.rec 69 w4 w.heap.size (.slice (some ⟨gr, 0, none⟩) n n) (rivs z) from (HU.out.alloc _).same (fun g hg => hgrow.block g ((HU.out.alloc _).lt g hg).2 (fun e => HD.out g e.symm (Option.some.inj hg).symm)))
          have HD2 := Lib.hid (show ∀ g, v'.ownBlock = some g → g ≠ gr from fun g hg hu => by
            rcases hat with e | e
            · exact HD.out g (by rw [← e]; exact hg) hu
            · rw [hg] at e
              have h1 := (HU.out.lt gr rfl).2
              have h2 := Option.some.inj e
              (try simp at h2)
              omega)
          clear hown' hgrow hat
          go_wp2_with fail
          go_roundw
          case rel => exact ⟨i + 1, _, rfl, by omega, by go_num, HO2, HU2, HD2, hb3⟩
          case measure => simp [intOf]; omega
      · have HF2 := Lib.hid (freeIds_no (l := z) (k := i) (by rw [HFR.out]; exact decide_eq_false hr))
        have e1 : ((RV : Int) == 0) = false := beq_eq_false_iff_ne.2 (by omega)
        clear hr
        go_wp2_with fail
        go_roundw
        case rel => exact ⟨i + 1, _, rfl, by omega, by go_num, Lib.hid (HF2.out ▸ HO.out), HU, HD, hb⟩
        case measure => simp [intOf]; omega
    · obtain rfl : i = n := by omega
      have HE := Lib.hid (show freeIds z i = free z by unfold free; rw [HN.out])
      go_wp2_with fail
      go_ret2
      exact ⟨_, _, true, rfl, HA.out, HE.out ▸ HO.out, hb⟩
end Go.Proofs.Ytclpdpfnlmfogaa.FreeProposalsC
