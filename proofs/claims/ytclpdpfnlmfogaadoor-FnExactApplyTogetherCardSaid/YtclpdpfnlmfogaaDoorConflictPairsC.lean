/- ConflictPairs: what it answers, on both sides. No condition. -/
import Derived.Test.YtclpdpfnlmfogaaDoorCfR
import Derived.Test.YtclpdpfnlmfogaaDoorJ1
import Derived.Test.YtclpdpfnlmfogaaDoorAppO
import Derived.Maps.AppendAt
import Derived.Deep.DrawnRows
import Derived.Lib.QuietBelow
namespace Go.Proofs.YtclpdpfnlmfogaaDoor.ConflictPairsC
open Go.RowKit Bs Word Am AmA AmG AmF Cf CfG CfD CfI CfM CfN CfQ CfR CfJ
set_option linter.unusedVariables false
def Ans (z0 : T) (z1 : List P) (r0 : List LIntA2.R) (r1 : Bool) : Prop := (r0, r1) = if propsB z0 z1 = true then (pairs z1, true) else ([], false)
theorem yes {z0 : T} {z1 : List P} (h : propsB z0 z1 = true) : Ans z0 z1 (pairs z1) true := by unfold Ans; rw [if_pos h]
theorem no {z0 : T} {z1 : List P} (h : propsB z0 z1 = false) : Ans z0 z1 [] false := by unfold Ans; rw [h]; rfl
theorem same {z0 : T} {z1 : List P} {r0 s0 : List LIntA2.R} {r1 s1 : Bool} (h1 : Ans z0 z1 r0 r1) (h2 : Ans z0 z1 s0 s1) : r0 = s0 ∧ r1 = s1 := by
  have h := (show (r0, r1) = _ from h1).trans (show (s0, s1) = _ from h2).symm
  exact ⟨congrArg Prod.fst h, congrArg Prod.snd h⟩
theorem rows_len8 {l : List P} (h : l.length ≤ 8) {i : Nat} (hi : i ≤ 8) : (rows l i).length ≤ 64 := Nat.le_trans (rows_len l i) (Nat.le_trans (Nat.mul_le_mul hi h) (Nat.le_refl _))
theorem len0 {z0 : T} {z1 : List P} {r0 : List LIntA2.R} {r1 : Bool} (h : Ans z0 z1 r0 r1) : r0.length ≤ 1048576 := by
  replace h := (show (r0, r1) = _ from h)
  split at h
  · rename_i hc
    have := congrArg Prod.fst h
    simp only at this
    subst this
    have h1 := (props_parts hc).2.1
    have h2 := rows_len8 h1 h1
    unfold pairs
    omega
  · have := congrArg Prod.fst h; simp only at this; subst this; simp
theorem len_row {z : List P} (h : z.length ≤ 8) {i k : Nat} (hi : i ≤ 8) (hk : k ≤ 8) : (rows z i ++ rowTo z i k).length ≤ 100 := by
  have h1 := rows_len8 h hi
  have h2 := rowTo_len z i k
  rw [List.length_append]; omega
theorem len_up {z : List P} (h : z.length ≤ 8) {i : Nat} (hi : i ≤ 8) (js : List Nat) (hj : js.length ≤ 8) : (rows z i ++ upTo z i js).length ≤ 100 := by
  have h1 := rows_len8 h hi
  have h2 := upTo_len z i js
  rw [List.length_append]; omega
def Post (z0 : T) (z1 : List P) (w : World) (e : Ending) (w' : World) : Prop := ∃ v0 r0 r1, e = .returned (.tuple #[v0, .bool r1]) ∧ Ans z0 z1 r0 r1 ∧ Own LIntA2.rec 55 w' w.heap.size v0 r0 ∧ Below w.heap.size w w'
theorem conf_as (v v' : Value) (a b : M) (bv : Bool) (hv : confB a b = bv) (w : World) (h0 : LAmendment.Is w v a) (h1 : LAmendment.Is w v' b) (ga : good a = true) (gb : good b = true) :
    Calls Tryd.prog 56 #[v, v'] w fun e w' => e = .returned (.bool bv) ∧ Below w.heap.size w w' := by subst hv; exact l10Conflict v v' a b w h0 h1 ga gb
attribute [local go_sem ↓] Go.wp_at_zero Go.wp_at_succ in
set_option maxRecDepth 100000 in
set_option maxHeartbeats 3200000 in
theorem spec (v0 : Value) (z0 : T) (v1 : Value) (z1 : List P) (W : World) (h0 : IsS LString.rec W v0 z0) (f0 : ∀ x ∈ z0, LString.Fine x) (l0 : z0.length ≤ 1048576) (h1 : LProposalS.IsS W v1 z1) (f1 : ∀ x ∈ z1, LProposalS.Fine x) (l1 : z1.length ≤ 1048576) :
    Calls Tryd.prog 25 #[v0, v1] W (Post z0 z1 W) := by
  obtain ⟨z, hz⟩ : ∃ z, z = z1 := ⟨_, rfl⟩
  subst hz
  have h1 := Bs.NIsS.is h1
  obtain ⟨i1, hi, hz0, hz1, hz2⟩ := info_parts LIntA2.infoK
  have HI1 := Lib.hid hi
  have HZ1 := Lib.hid (And.intro hz0 (And.intro hz1 hz2))
  clear hi hz0 hz1 hz2
  have HG := Lib.hid (fun W' (hW : Below W.heap.size W W') => CfG.l10Good v0 v1 z0 z W' (.inr (IsS.below _ h0 hW)) (Bs.NIs.below h1 hW) f0 f1 l0)
  have HNO := Lib.hid (no (z0 := z0) (z1 := z))
  have HYES := Lib.hid (yes (z0 := z0) (z1 := z))
  have hb0 := (Below.refl W.heap.size W).alloc (Nat.le_refl _) (Obj.cells #[] 55)
  have HO0 := Lib.hid (Own.start (T := LIntA2.rec) (E := 55) (w := W) (Nat.le_refl _))
  obtain ⟨b0, o0, c0, rfl, -⟩ := h0
  have hc := LProposalS.get h1
  obtain ⟨a, cp, rfl, hnb, h2⟩ := h1.form
  unfold maxLen at h2
  obtain ⟨n, hn⟩ : ∃ n, n = z.length := ⟨_, rfl⟩
  have HN := Lib.hid hn.symm
  have HF := Lib.hid f1
  have HLI := Lib.hid h1
  rw [← hn] at hc hnb HLI HG ⊢
  have hle : n ≤ z.length := by omega
  clear hn h1 f1
  clear f0 l0 l1
  cases gp : propsB z0 z with
  | false =>
    have HC := Lib.hid (HG.out _ hb0)
    rw [gp] at HC
    have HA := Lib.hid (HNO.out gp)
    clear gp
    go_enter Tryd.func25, Tryd.ntmps25
    go_wp2_with fail
    refine HC.out.mono ?_
    rintro e w1 ⟨rfl, hb1⟩
    have HO1 := Lib.hid (HO0.out.kept hb1)
    have hb2 := hb0.trans (hb1.mono hb0.size)
    clear hb1
    go_wp2_with fail
    go_ret2
    exact ⟨_, [], false, rfl, HA.out, HO1.out, hb2⟩
  | true =>
  have HC := Lib.hid (HG.out _ hb0)
  rw [gp] at HC
  have HA := Lib.hid (HYES.out gp)
  have HGA := Lib.hid (props_good gp)
  have hn8 : n ≤ 8 := by have := (props_parts gp).2.1; have := HN.out; omega
  clear gp HG HNO HYES
  go_enter Tryd.func25, Tryd.ntmps25
  go_wp2_with fail
  refine HC.out.mono ?_
  rintro e w1 ⟨rfl, hb1⟩
  have HO1 := Lib.hid (HO0.out.kept hb1)
  have hb2 := hb0.trans (hb1.mono hb0.size)
  clear hb1 hb0 HO0
  go_wp2_with fail
  go_loopw [6, 7] (fun so i wr => ∃ (k : Nat) (o : Value), o = so ∧ k ≤ n ∧ i = .int .i64 k ∧ Hid (Own LIntA2.rec 55 wr W.heap.size o (rows z k)) ∧ Below W.heap.size W wr) (fun _ i _ => n - (intOf i).toNat)
  case atStart => exact ⟨0, _, rfl, Nat.zero_le _, rfl, HO1, hb2⟩
  case round =>
    clear HO1 hb2
    obtain ⟨i, ov, rfl, hik, rfl, HO, hb⟩ := hrel
    by_cases hlt : i < n
    · have k0 : 0 ≤ (i : Int) := by omega
      have k1 : (i : Int) < (n : Int) := by omega
      have hx : i < z.length := by omega
      obtain ⟨b, o, c, x, y, s, he, hbl, hat, hI⟩ := hc.out i z[i] (List.getElem?_eq_getElem hx)
      simp only [Value.slice.injEq] at he
      obtain ⟨rfl, -, rfl⟩ := he
      have HAT := Lib.hid hat
      have HX := Lib.hid (List.getElem?_eq_getElem hx)
      have HFX := Lib.hid (HF.out _ (List.getElem_mem hx))
      have HGX := Lib.hid (HGA.out _ (List.getElem_mem hx))
      have HQX := Lib.hid hI
      clear hat hI
      generalize z[i] = X at *
      have s1 : IntKind.i64.wrap ((i : Int) + 1) = ((i + 1 : Nat) : Int) := by rw [IntWalk.i64_in _ (by omega)]; omega
      have HO1 := Lib.hid (show Own LIntA2.rec 55 wr W.heap.size ov (rows z i ++ rowTo z i (i + 1)) by rw [rowTo_begin, List.append_nil]; exact HO.out)
      clear HO
      go_wp2_with fail
      go_loopw [6, 8] (fun so j wr => ∃ (m : Nat) (o : Value) (zs : List LIntA2.R), o = so ∧ i < m ∧ m ≤ n ∧ j = .int .i64 m ∧ Hid (zs = rows z i ++ rowTo z i m) ∧ Hid (Own LIntA2.rec 55 wr W.heap.size o zs) ∧ Below W.heap.size W wr) (fun _ j _ => n - (intOf j).toNat)
      case atStart => exact ⟨i + 1, _, _, rfl, by omega, by omega, by simp, Lib.hid rfl, HO1, hb⟩
      case round =>
        clear HO1 hb
        obtain ⟨m, ov, zs, rfl, him, hmk, rfl, HZ, HO, hb⟩ := hrel
        by_cases hlm : m < n
        · have m0 : 0 ≤ (m : Int) := by omega
          have m1 : (m : Int) < (n : Int) := by omega
          have hxb : m < z.length := by omega
          obtain ⟨bb, ob, cb, xb, yb, sb, heb, hblb, hatb, hIb⟩ := hc.out m z[m] (List.getElem?_eq_getElem hxb)
          simp only [Value.slice.injEq, Option.some.injEq, Addr.mk.injEq, and_true] at heb
          obtain ⟨⟨rfl, rfl⟩, -⟩ := heb
          have HATb := Lib.hid hatb
          have HXb := Lib.hid (List.getElem?_eq_getElem hxb)
          have HFXb := Lib.hid (HF.out _ (List.getElem_mem hxb))
          have HGXb := Lib.hid (HGA.out _ (List.getElem_mem hxb))
          have HQXb := Lib.hid hIb
          clear hatb hIb
          generalize z[m] = Y at *
          have HCF := Lib.hid (cf_at HX.out HXb.out)
          have HZL := Lib.hid (show zs.length ≤ 100 by rw [HZ.out]; exact len_row (by have := HN.out; omega) (by omega) (by omega))
          have a1 := fun d os => (isAt (HAT.out.below LProposalS.kit.row (hb.trans ((below_regrown wr d os).mono hb.size)) hbl)).1
          have a2 := fun d os => (isAt (HAT.out.below LProposalS.kit.row (hb.trans ((below_regrown wr d os).mono hb.size)) hbl)).2.1
          have a3 := fun d os => (isAt (HAT.out.below LProposalS.kit.row (hb.trans ((below_regrown wr d os).mono hb.size)) hbl)).2.2.1
          have a4 := fun d os => (isAt (HAT.out.below LProposalS.kit.row (hb.trans ((below_regrown wr d os).mono hb.size)) hbl)).2.2.2
          have d1 := fun d os => (isAt (HATb.out.below LProposalS.kit.row (hb.trans ((below_regrown wr d os).mono hb.size)) hblb)).1
          have d2 := fun d os => (isAt (HATb.out.below LProposalS.kit.row (hb.trans ((below_regrown wr d os).mono hb.size)) hblb)).2.1
          have d3 := fun d os => (isAt (HATb.out.below LProposalS.kit.row (hb.trans ((below_regrown wr d os).mono hb.size)) hblb)).2.2.1
          have d4 := fun d os => (isAt (HATb.out.below LProposalS.kit.row (hb.trans ((below_regrown wr d os).mono hb.size)) hblb)).2.2.2
          go_upto_region 10 with fail
          cases cv : confB (ch X) (ch Y) with
          | false =>
            have HC := Lib.hid (fun W' (hW : Below wr.heap.size wr W') => conf_as _ _ (ch X) (ch Y) false cv W' (is_ch (LProposal.Is.below HQX.out (hb.trans (hW.mono hb.size)))) (is_ch (LProposal.Is.below HQXb.out (hb.trans (hW.mono hb.size)))) HGX.out HGXb.out)
            have HZ2 := Lib.hid (show zs = rows z i ++ rowTo z i (m + 1) by rw [rowTo_no (HCF.out.trans cv)]; exact HZ.out)
            clear cv
            refine wp_region_quiet_below (by kernel_rfl) (by kernel_rfl) ?_
            repeat (go_big_quiet_step ((first | (go_at_call 56; exact Calls.regrown_of (HC.out _ (below_regrown wr _ _))) | fail)))
            refine wpQuiet_nil ?_
            intro _ hw'
            obtain ⟨⟨dq, osq⟩, hw''⟩ := hw'
            subst hw''
            have hbq := below_regrown wr dq osq
            have HO2 := Lib.hid (HO.out.kept hbq)
            have hb2 := hb.trans (hbq.mono hb.size)
            clear hbq a1 a2 a3 a4 d1 d2 d3 d4
            go_wp2_with fail
            go_roundw
            case rel => exact ⟨m + 1, _, _, rfl, by omega, by omega, by go_num, HZ2, HO2, hb2⟩
            case measure => simp [intOf]; omega
          | true =>
            have HC := Lib.hid (fun W' (hW : Below wr.heap.size wr W') => conf_as _ _ (ch X) (ch Y) true cv W' (is_ch (LProposal.Is.below HQX.out (hb.trans (hW.mono hb.size)))) (is_ch (LProposal.Is.below HQXb.out (hb.trans (hW.mono hb.size)))) HGX.out HGXb.out)
            have HZ2 := Lib.hid (show zs ++ [(⟨X.id, Y.id⟩ : LIntA2.R)] = rows z i ++ rowTo z i (m + 1) by rw [rowTo_yes HX.out HXb.out him (HCF.out.trans cv), ← List.append_assoc, ← HZ.out])
            clear cv
            refine wp_region_quiet_below (by kernel_rfl) (by kernel_rfl) ?_
            repeat (go_big_quiet_step ((first | (go_at_call 56; exact Calls.regrown_of (HC.out _ (below_regrown wr _ _))) | fail)))
            refine wpQuiet_nil ?_
            intro _ hw'
            obtain ⟨⟨dq, osq⟩, hw''⟩ := hw'
            subst hw''
            have hbq := below_regrown wr dq osq
            have HO2 := Lib.hid (HO.out.kept hbq)
            have hb2 := hb.trans (hbq.mono hb.size)
            clear hbq a1 a2 a3 a4 d1 d2 d3 d4 hb HO
            generalize Sort.grow (redrawn wr dq) osq = ws at *
            go_upto_region 11 with fail
            have HK := Lib.hid (show ∀ w' : World, Below W.heap.size W w' → Below W.heap.size W w' ∧ w'.cell? ⟨b, o + i * 6, none⟩ = some (.int .i64 X.id) ∧ w'.cell? ⟨b, o + m * 6, none⟩ = some (.int .i64 Y.id) from fun w' hB => ⟨hB, (LProposalS.cells_hd (HAT.out.below LProposalS.kit.row hB hbl)).1, (LProposalS.cells_hd (HATb.out.below LProposalS.kit.row hB hblb)).1⟩)
            have hB : Below W.heap.size W ws.drew := hb2.drew
            have hO1 := HO2.out.kept ((Below.refl _ _).drew)
            refine wp_region_held_drew (S := fun w' => Below W.heap.size W w' ∧ w'.cell? ⟨b, o + i * 6, none⟩ = some (.int .i64 X.id) ∧ w'.cell? ⟨b, o + m * 6, none⟩ = some (.int .i64 Y.id)) (by kernel_rfl) (HK.out _ hB) (fun hHeld => ?_)
            clear hb2 HO2
            generalize ws.drew = x0 at *
            refine wpAnyH_take (i := 0) (v := ?v1) rfl (by kernel_rfl) (by kernel_rfl) (by kernel_rfl) (fun _ _ _ h => h) (Or.inl ⟨by rfl, ?hy1⟩) (by assumption) ?rest1
            case hy1 => (intro wq hSw; (try dsimp only at hSw); go_split_ands; go_simp; (try with_reducible rfl))
            case rest1 =>
            refine wpAnyH_take (i := 1) (v := ?v2) rfl (by kernel_rfl) (by kernel_rfl) (by kernel_rfl) (fun _ _ _ h => h) (Or.inl ⟨by rfl, ?hy2⟩) (by assumption) ?rest2
            case hy2 => (intro wq hSw; (try dsimp only at hSw); go_split_ands; go_simp; (try with_reducible rfl))
            case rest2 =>
            refine wpAnyH_take (i := 2) (v := ?v3) rfl (by kernel_rfl) (by kernel_rfl) (by kernel_rfl) (fun _ _ _ h => h) (Or.inl ⟨by rfl, ?hy3⟩) (by assumption) ?rest3
            case hy3 => (intro wq hSw; (try dsimp only at hSw); go_split_ands; go_simp; (try with_reducible rfl))
            case rest3 =>
            refine wpAnyH_take (i := 3) (v := ?v4) rfl (by kernel_rfl) (by kernel_rfl) (by kernel_rfl) (fun _ _ _ h => h) (Or.inl ⟨by rfl, ?hy4⟩) (by assumption) ?rest4
            case hy4 => (intro wq hSw; (try dsimp only at hSw); go_split_ands; go_simp; (try with_reducible rfl))
            case rest4 =>
            refine wpAnyH_take (i := 4) (v := ?v5) rfl (by kernel_rfl) (by kernel_rfl) (by kernel_rfl) (fun _ _ _ h => h) (Or.inl ⟨by rfl, ?hy5⟩) (by assumption) ?rest5
            case hy5 => (intro wq hSw; (try dsimp only at hSw); go_split_ands; go_simp; (try with_reducible rfl))
            case rest5 =>
            refine wpAnyH_take (i := 5) (v := ?v6) rfl (by kernel_rfl) (by kernel_rfl) (by kernel_rfl) (fun _ _ _ h => h) (Or.inl ⟨by rfl, ?hy6⟩) (by assumption) ?rest6
            case hy6 => (intro wq hSw; (try dsimp only at hSw); go_split_ands; go_simp; (try with_reducible rfl))
            case rest6 =>
            refine wpAnyH_take (i := 6) (v := ?v7) rfl (by kernel_rfl) (by kernel_rfl) (by kernel_rfl) (fun _ _ _ h => h) (Or.inl ⟨by rfl, ?hy7⟩) (by assumption) ?rest7
            case hy7 => (intro wq hSw; (try dsimp only at hSw); go_split_ands; go_simp; (try with_reducible rfl))
            case rest7 =>
            refine wpAnyH_take (i := 7) (v := ?v8) rfl (by kernel_rfl) (by kernel_rfl) (by kernel_rfl) (fun _ _ _ h => h) (Or.inl ⟨by rfl, ?hy8⟩) (by assumption) ?rest8
            case hy8 => (intro wq hSw; (try dsimp only at hSw); go_split_ands; go_simp; (try with_reducible rfl))
            case rest8 =>
            refine wpAnyH_take (i := 8) (v := ?v9) rfl (by kernel_rfl) (by kernel_rfl) (by kernel_rfl) (fun _ _ _ h => h) (Or.inl ⟨by rfl, ?hy9⟩) (by assumption) ?rest9
            case hy9 => (intro wq hSw; (try dsimp only at hSw); go_split_ands; go_simp; (try with_reducible rfl))
            case rest9 =>
            refine wpAnyH_take (i := 9) (v := ?v10) rfl (by kernel_rfl) (by kernel_rfl) (by kernel_rfl) (fun _ _ _ h => h) (Or.inl ⟨by rfl, ?hy10⟩) (by assumption) ?rest10
            case hy10 => (intro wq hSw; (try dsimp only at hSw); go_split_ands; go_simp; (try with_reducible rfl))
            case rest10 =>
            refine wpAnyH_take (i := 10) (v := ?v11) rfl (by kernel_rfl) (by kernel_rfl) (by kernel_rfl) (fun _ _ _ h => h) (Or.inl ⟨by rfl, ?hy11⟩) (by assumption) ?rest11
            case hy11 => (intro wq hSw; (try dsimp only at hSw); go_split_ands; go_simp; (try with_reducible rfl))
            case rest11 =>
            refine wpAnyH_take (i := 11) (v := ?v12) rfl (by kernel_rfl) (by kernel_rfl) (by kernel_rfl) (fun _ _ _ h => h) (Or.inl ⟨by rfl, ?hy12⟩) (by assumption) ?rest12
            case hy12 => (intro wq hSw; (try dsimp only at hSw); go_split_ands; go_simp; (try with_reducible rfl))
            case rest12 =>
            refine wpAnyH_ready (rs := [12]) (by kernel_rfl) (by simp) ?_
            refine AllReadyH.cons rfl (fun K hK => ?step13) ?more13
            case step13 =>
              go_simp
              refine hK.out _ _ (HK.out _ (hB.alloc hB.size _)) (fun hHeld => ?_)
              clear hK K
              have hNq_1 : (ov).ownBlock ≠ some x0.heap.size := fun e => by have h1 := (hO1.lt _ e).2; omega
              replace hO1 := hO1.alloc (Obj.cells #[.int .i64 X.id, .int .i64 Y.id] 55)
              have hXq := Bx.new x0 55 #[.int .i64 X.id, .int .i64 Y.id]
              have hXAq : W.heap.size ≤ x0.heap.size := hB.size
              replace hB := hB.alloc hB.size (Obj.cells #[.int .i64 X.id, .int .i64 Y.id] 55)
              generalize x0.alloc (Obj.cells #[.int .i64 X.id, .int .i64 Y.id] 55) = x1 at *
              generalize x0.heap.size = gqx1 at *
              refine wpAnyH_ready (rs := [13]) (by kernel_rfl) (by simp) ?_
              refine AllReadyH.cons rfl (fun K hK => ?step14) ?more14
              case step14 =>
                refine step_append_o (T := LIntA2.rec) (by rfl) (.tmp 40) (.tmp 52) 44 (by rfl) W.heap.size 55 i1 (.agg #[.int .i64 0, .int .i64 0]) 16 Tryd.underlying44 HI1.out HZ1.out.1 HZ1.out.2.1 HZ1.out.2.2 (by decide) _ _ (by rfl) hO1 (some ⟨gqx1, 0, none⟩) (1) (1) ([(⟨X.id, Y.id⟩ : LIntA2.R)]) (by rfl) (by rfl) (src_one (T := LIntA2.rec) hXq) (by have := HZL.out; unfold maxLen; omega) (by have := HZL.out; omega) hB.size ?_
                intro vx2 x2 hown hgrow hnn hat
                have hB2 := below_grown hB hgrow hB.size (fun k hk => (hO1.lt k hk).1)
                refine hK.out _ _ (HK.out _ hB2) (fun hHeld => ?_)
                clear hK K
                have hE := box_besides hXq hgrow hNq_1
                have hF := ne_next hNq_1 hXq.lt hat
                clear hXq hNq_1
                have hXq := hE
                have hNq_1 := hF
                clear hE hF
                clear hO1 hB hgrow hat hnn
                have hO1 := hown
                have hB := hB2
                clear hown hB2
                refine wpAnyH_take (i := 14) (v := ?v15) rfl (by kernel_rfl) (by kernel_rfl) (by kernel_rfl) (fun _ _ _ h => h) (Or.inl ⟨by rfl, ?hy15⟩) (by assumption) ?rest15
                case hy15 => (intro wq hSw; (try dsimp only at hSw); go_split_ands; go_simp; (try with_reducible rfl))
                case rest15 =>
                refine wpAnyH_done (by kernel_rfl) ?_ _
                clear hXq
                go_wp2_with fail
                go_roundw
                case rel => exact ⟨m + 1, _, _, rfl, by omega, by omega, by go_num, HZ2, Lib.hid hO1, hB⟩
                case measure => simp [intOf]; omega
              case more14 => exact AllReadyH.nil
            case more13 => exact AllReadyH.nil
        · obtain rfl : m = n := by omega
          have HE := Lib.hid (show Own LIntA2.rec 55 wr W.heap.size ov (rows z (i + 1)) by have h := HO.out; rw [HZ.out, show rowTo z i m = row z i by unfold row; rw [HN.out], ← rows_next] at h; exact h)
          go_wp2_with fail
          go_roundw
          case rel => exact ⟨i + 1, _, rfl, by omega, by go_num, HE, hb⟩
          case measure => simp [intOf]; omega
    · obtain rfl : i = n := by omega
      have HE := Lib.hid (show rows z i = pairs z by unfold pairs; rw [HN.out])
      go_wp2_with fail
      go_ret2
      exact ⟨_, _, true, rfl, HA.out, HE.out ▸ HO.out, hb⟩
attribute [local go_sem ↓] Go.wp_at_zero Go.wp_at_succ in
set_option maxRecDepth 100000 in
set_option maxHeartbeats 3200000 in
theorem impl (v0 : Value) (z0 : T) (v1 : Value) (z1 : List P) (W : World) (h0 : IsS LString.rec W v0 z0) (f0 : ∀ x ∈ z0, LString.Fine x) (l0 : z0.length ≤ 1048576) (h1 : LProposalS.IsS W v1 z1) (f1 : ∀ x ∈ z1, LProposalS.Fine x) (l1 : z1.length ≤ 1048576) (hT : Laid.T64 W) :
    Calls Tryd.prog 24 #[v0, v1] W (Post z0 z1 W) := by
  obtain ⟨z, hz⟩ : ∃ z, z = z1 := ⟨_, rfl⟩
  subst hz
  have h1 := Bs.NIsS.is h1
  obtain ⟨i1, hi, hz0, hz1, hz2⟩ := info_parts LIntA2.infoK
  have HI1 := Lib.hid hi
  have HZ1 := Lib.hid (And.intro hz0 (And.intro hz1 hz2))
  clear hi hz0 hz1 hz2
  have HTL := Lib.hid hT
  have HC := Lib.hid (CfG.areProposals v0 v1 z0 z W (.inr h0) h1 f0 f1 l0)
  have HNO := Lib.hid (no (z0 := z0) (z1 := z))
  have HYES := Lib.hid (yes (z0 := z0) (z1 := z))
  obtain ⟨b0, o0, c0, rfl, -⟩ := h0
  have HRV := Lib.hid (fun W' (hW : Below W.heap.size W W') => CfR.rivalsOf v1 z W' (Bs.NIs.below h1 hW) f1)
  have hc := LProposalS.get h1
  obtain ⟨a, cp, rfl, hnb, h2⟩ := h1.form
  unfold maxLen at h2
  obtain ⟨n, hn⟩ : ∃ n, n = z.length := ⟨_, rfl⟩
  have HN := Lib.hid hn.symm
  have HF := Lib.hid f1
  have HLI := Lib.hid h1
  rw [← hn] at hc hnb HLI HC HRV ⊢
  have hle : n ≤ z.length := by omega
  clear hn h1 f1
  clear f0 l0 l1 hT
  cases gp : propsB z0 z with
  | false =>
    rw [gp] at HC
    have HA := Lib.hid (HNO.out gp)
    clear gp
    go_enter Tryd.func24, Tryd.ntmps24
    go_wp2_with fail
    refine HC.out.mono ?_
    rintro e w1 ⟨rfl, hb1⟩
    have HO1 := Lib.hid (Own.start (T := LIntA2.rec) (E := 55) (w := w1) hb1.size)
    have hb2 := hb1.alloc hb1.size (Obj.cells #[] 55)
    clear hb1
    go_wp2_with fail
    go_ret2
    exact ⟨_, [], false, rfl, HA.out, HO1.out, hb2⟩
  | true =>
  rw [gp] at HC
  have HA := Lib.hid (HYES.out gp)
  have HGA := Lib.hid (props_good gp)
  have hn8 : n ≤ 8 := by have := (props_parts gp).2.1; have := HN.out; omega
  have HRV2 := Lib.hid (fun W' (hW : Below W.heap.size W W') => HRV.out W' hW hn8 HGA.out)
  clear gp HNO HYES HRV
  go_enter Tryd.func24, Tryd.ntmps24
  go_wp2_with fail
  refine HC.out.mono ?_
  rintro e w1 ⟨rfl, hb1⟩
  obtain ⟨wa, hwa⟩ : ∃ wa : World, wa = w1.alloc (Obj.cells #[] 55) := ⟨_, rfl⟩
  have HO1 := Lib.hid (show Own LIntA2.rec 55 wa W.heap.size (.slice (some ⟨w1.heap.size, 0, none⟩) 0 0) [] by rw [hwa]; exact Own.start hb1.size)
  have hb2 : Below W.heap.size W wa := by rw [hwa]; exact hb1.alloc hb1.size _
  have HA1 := Lib.hid (show w1.heap.size < wa.heap.size by rw [hwa]; simp)
  go_upto_region 4 with fail
  rw [← hwa]
  clear hwa hb1
  generalize w1.heap.size = G1 at *
  go_wp2_with fail
  refine (HRV2.out _ hb2).mono ?_
  rintro e w2 ⟨gr, rfl, hgr, hor, hb3⟩
  have HO2 := Lib.hid (HO1.out.kept hb3)
  have HD := Lib.hid (show Dist (.slice (some ⟨G1, 0, none⟩) 0 0) (.slice (some ⟨gr, 0, none⟩) n n) from fun g hg hu => by
    have h1 := Option.some.inj hg
    have h2 := Option.some.inj hu
    simp only at h1 h2
    have := HA1.out
    omega)
  have HU := Lib.hid (show Own LSet.rec 90 w2 W.heap.size (.slice (some ⟨gr, 0, none⟩) n n) (rivs z) from hor.low hb2.size)
  replace hb2 := hb2.trans (hb3.mono hb2.size)
  clear hor hb3 hgr HO1 HA1 HRV2
  go_wp2_with fail
  go_loopw [6, 20] (fun so i wr => ∃ (k : Nat) (o : Value), o = so ∧ k ≤ n ∧ i = .int .i64 k ∧ Hid (Own LIntA2.rec 55 wr W.heap.size o (rows z k)) ∧ Hid (Own LSet.rec 90 wr W.heap.size (.slice (some ⟨gr, 0, none⟩) n n) (rivs z)) ∧ Hid (Dist o (.slice (some ⟨gr, 0, none⟩) n n)) ∧ Below W.heap.size W wr) (fun _ i _ => n - (intOf i).toNat)
  case atStart => exact ⟨0, _, rfl, Nat.zero_le _, rfl, HO2, HU, HD, hb2⟩
  case round =>
    clear HO2 HU HD hb2
    obtain ⟨i, ov, rfl, hik, rfl, HO, HU, HD, hb⟩ := hrel
    by_cases hlt : i < n
    · have k0 : 0 ≤ (i : Int) := by omega
      have k1 : (i : Int) < (n : Int) := by omega
      have hx : i < z.length := by omega
      obtain ⟨b, o, c, x, y, s, he, hbl, hat, hI⟩ := hc.out i z[i] (List.getElem?_eq_getElem hx)
      simp only [Value.slice.injEq] at he
      obtain ⟨rfl, -, rfl⟩ := he
      have HAT := Lib.hid hat
      have HX := Lib.hid (List.getElem?_eq_getElem hx)
      have HFX := Lib.hid (HF.out _ (List.getElem_mem hx))
      have HGX := Lib.hid (HGA.out _ (List.getElem_mem hx))
      have HQX := Lib.hid hI
      clear hat hI
      generalize z[i] = X at *
      have q0 := LSet.cells (Own.at_ HU.out i (riv z i) (rivs_at (by have := HN.out; omega)))
      simp only [LSet.rec_n, Nat.mul_one] at q0
      have HRB := Lib.hid (row_bits z i)
      have HIX := Lib.hid (CfJ.indicesIn (riv z i) z.length wr (by have := HN.out; omega) (mask_lt _ _) (Laid.T64.below HTL.out hb))
      generalize riv z i = RV at *
      have HJL := Lib.hid (bits_len RV z.length)
      have HJB := Lib.hid (fun j (h : j ∈ bitsL RV z.length) => bits_lt h)
      generalize bitsL RV z.length = js at *
      obtain ⟨jl, hjl⟩ : ∃ jl, jl = js.length := ⟨_, rfl⟩
      have HJN := Lib.hid hjl.symm
      rw [← hjl] at HIX
      have hj8 : jl ≤ 8 := by have := HJL.out; have := HN.out; omega
      clear hjl
      go_wp2_with fail
      refine HIX.out.mono ?_
      rintro e w4 ⟨gj, cj, rfl, hoj, hb4⟩
      have HO2 := Lib.hid (HO.out.kept hb4)
      have HU2 := Lib.hid (HU.out.kept hb4)
      have HD3 := Lib.hid (dist_call HO.out hoj)
      have HJ2 := Lib.hid (hoj.low hb.size)
      have hjc := (isq_len (Own.isQ hoj)).2
      unfold maxLen at hjc
      obtain ⟨hjc1, hjc2⟩ := hjc
      have hb5 := hb.trans (hb4.mono hb.size)
      clear hb4 hoj HO HU hb q0
      have HO1 := Lib.hid (show Own LIntA2.rec 55 w4 W.heap.size ov (rows z i ++ upTo z i (js.take 0)) by rw [show upTo z i (js.take 0) = [] from rfl, List.append_nil]; exact HO2.out)
      clear HO2
      go_wp2_with fail
      go_loopw [6, 28] (fun so j wr => ∃ (m : Nat) (o : Value) (zs : List LIntA2.R), o = so ∧ m ≤ jl ∧ j = .int .i64 m ∧ Hid (zs = rows z i ++ upTo z i (js.take m)) ∧ Hid (Own LIntA2.rec 55 wr W.heap.size o zs) ∧ Hid (Own LSet.rec 90 wr W.heap.size (.slice (some ⟨gr, 0, none⟩) n n) (rivs z)) ∧ Hid (Own LInt.rec 3 wr W.heap.size (.slice (some ⟨gj, 0, none⟩) jl cj) (ints js)) ∧ Hid (Dist o (.slice (some ⟨gr, 0, none⟩) n n)) ∧ Hid (Dist o (.slice (some ⟨gj, 0, none⟩) jl cj)) ∧ Below W.heap.size W wr) (fun _ j _ => jl - (intOf j).toNat)
      case atStart => exact ⟨0, _, _, rfl, Nat.zero_le _, rfl, Lib.hid rfl, HO1, HU2, HJ2, HD, HD3, hb5⟩
      case round =>
        clear HO1 HU2 HJ2 HD HD3 hb5
        obtain ⟨m, ov, zs, rfl, hmk, rfl, HZ, HO, HU, HJ, HD, HD3, hb⟩ := hrel
        by_cases hlm : m < jl
        · have m0 : 0 ≤ (m : Int) := by omega
          have m1 : (m : Int) < (jl : Int) := by omega
          have hjx : m < js.length := by have := HJN.out; omega
          have HJA := Lib.hid (List.getElem?_eq_getElem hjx)
          have HJM := Lib.hid (HJB.out _ (List.getElem_mem hjx))
          generalize js[m] = J at *
          have p0 := LInt.cells (Own.at_ HJ.out m (J : Int) (CfN.ints_at HJA.out))
          simp only [LInt.rec_n, Nat.mul_one] at p0
          have hJn : J < n := by have := HJM.out; have := HN.out; omega
          have J0 : 0 ≤ (J : Int) := by omega
          have J1 : (J : Int) < (n : Int) := by omega
          have hxb : J < z.length := by omega
          obtain ⟨bb, ob, cb, xb, yb, sb, heb, hblb, hatb, hIb⟩ := hc.out J z[J] (List.getElem?_eq_getElem hxb)
          simp only [Value.slice.injEq, Option.some.injEq, Addr.mk.injEq, and_true] at heb
          obtain ⟨⟨rfl, rfl⟩, -⟩ := heb
          have HATb := Lib.hid hatb
          have HXb := Lib.hid (List.getElem?_eq_getElem hxb)
          have HFXb := Lib.hid (HF.out _ (List.getElem_mem hxb))
          have HGXb := Lib.hid (HGA.out _ (List.getElem_mem hxb))
          have HQXb := Lib.hid hIb
          clear hatb hIb
          generalize z[J] = Y at *
          have HZL := Lib.hid (show zs.length ≤ 100 by rw [HZ.out]; exact len_up (by have := HN.out; omega) (by omega) _ (by rw [List.length_take]; have := HJN.out; omega))
          by_cases hij : i < J
          · have HZ2 := Lib.hid (show zs ++ [(⟨X.id, Y.id⟩ : LIntA2.R)] = rows z i ++ upTo z i (js.take (m + 1)) by rw [upTo_yes HX.out HJA.out HXb.out hij, ← List.append_assoc, ← HZ.out])
            have hij2 : (i : Int) < (J : Int) := by omega
            clear hij
            go_upto_region 11 with fail
            have HK := Lib.hid (show ∀ w' : World, Below W.heap.size W w' → Below W.heap.size W w' ∧ w'.cell? ⟨b, o + i * 6, none⟩ = some (.int .i64 X.id) ∧ w'.cell? ⟨b, o + J * 6, none⟩ = some (.int .i64 Y.id) from fun w' hB => ⟨hB, (LProposalS.cells_hd (HAT.out.below LProposalS.kit.row hB hbl)).1, (LProposalS.cells_hd (HATb.out.below LProposalS.kit.row hB hblb)).1⟩)
            have hB : Below W.heap.size W wr.drew := hb.drew
            have hO1 := HO.out.kept ((Below.refl _ _).drew)
            have hO2 := HU.out.kept ((Below.refl _ _).drew)
            have hO3 := HJ.out.kept ((Below.refl _ _).drew)
            have hD1_2 := HD.out
            have hD1_3 := HD3.out
            refine wp_region_held_drew (S := fun w' => Below W.heap.size W w' ∧ w'.cell? ⟨b, o + i * 6, none⟩ = some (.int .i64 X.id) ∧ w'.cell? ⟨b, o + J * 6, none⟩ = some (.int .i64 Y.id)) (by kernel_rfl) (HK.out _ hB) (fun hHeld => ?_)
            clear hb HO HU HJ HD HD3 p0
            generalize wr.drew = x0 at *
            refine wpAnyH_take (i := 0) (v := ?v1) rfl (by kernel_rfl) (by kernel_rfl) (by kernel_rfl) (fun _ _ _ h => h) (Or.inl ⟨by rfl, ?hy1⟩) (by assumption) ?rest1
            case hy1 => (intro wq hSw; (try dsimp only at hSw); go_split_ands; go_simp; (try with_reducible rfl))
            case rest1 =>
            refine wpAnyH_take (i := 1) (v := ?v2) rfl (by kernel_rfl) (by kernel_rfl) (by kernel_rfl) (fun _ _ _ h => h) (Or.inl ⟨by rfl, ?hy2⟩) (by assumption) ?rest2
            case hy2 => (intro wq hSw; (try dsimp only at hSw); go_split_ands; go_simp; (try with_reducible rfl))
            case rest2 =>
            refine wpAnyH_take (i := 2) (v := ?v3) rfl (by kernel_rfl) (by kernel_rfl) (by kernel_rfl) (fun _ _ _ h => h) (Or.inl ⟨by rfl, ?hy3⟩) (by assumption) ?rest3
            case hy3 => (intro wq hSw; (try dsimp only at hSw); go_split_ands; go_simp; (try with_reducible rfl))
            case rest3 =>
            refine wpAnyH_take (i := 3) (v := ?v4) rfl (by kernel_rfl) (by kernel_rfl) (by kernel_rfl) (fun _ _ _ h => h) (Or.inl ⟨by rfl, ?hy4⟩) (by assumption) ?rest4
            case hy4 => (intro wq hSw; (try dsimp only at hSw); go_split_ands; go_simp; (try with_reducible rfl))
            case rest4 =>
            refine wpAnyH_take (i := 4) (v := ?v5) rfl (by kernel_rfl) (by kernel_rfl) (by kernel_rfl) (fun _ _ _ h => h) (Or.inl ⟨by rfl, ?hy5⟩) (by assumption) ?rest5
            case hy5 => (intro wq hSw; (try dsimp only at hSw); go_split_ands; go_simp; (try with_reducible rfl))
            case rest5 =>
            refine wpAnyH_take (i := 5) (v := ?v6) rfl (by kernel_rfl) (by kernel_rfl) (by kernel_rfl) (fun _ _ _ h => h) (Or.inl ⟨by rfl, ?hy6⟩) (by assumption) ?rest6
            case hy6 => (intro wq hSw; (try dsimp only at hSw); go_split_ands; go_simp; (try with_reducible rfl))
            case rest6 =>
            refine wpAnyH_take (i := 6) (v := ?v7) rfl (by kernel_rfl) (by kernel_rfl) (by kernel_rfl) (fun _ _ _ h => h) (Or.inl ⟨by rfl, ?hy7⟩) (by assumption) ?rest7
            case hy7 => (intro wq hSw; (try dsimp only at hSw); go_split_ands; go_simp; (try with_reducible rfl))
            case rest7 =>
            refine wpAnyH_take (i := 7) (v := ?v8) rfl (by kernel_rfl) (by kernel_rfl) (by kernel_rfl) (fun _ _ _ h => h) (Or.inl ⟨by rfl, ?hy8⟩) (by assumption) ?rest8
            case hy8 => (intro wq hSw; (try dsimp only at hSw); go_split_ands; go_simp; (try with_reducible rfl))
            case rest8 =>
            refine wpAnyH_take (i := 8) (v := ?v9) rfl (by kernel_rfl) (by kernel_rfl) (by kernel_rfl) (fun _ _ _ h => h) (Or.inl ⟨by rfl, ?hy9⟩) (by assumption) ?rest9
            case hy9 => (intro wq hSw; (try dsimp only at hSw); go_split_ands; go_simp; (try with_reducible rfl))
            case rest9 =>
            refine wpAnyH_take (i := 9) (v := ?v10) rfl (by kernel_rfl) (by kernel_rfl) (by kernel_rfl) (fun _ _ _ h => h) (Or.inl ⟨by rfl, ?hy10⟩) (by assumption) ?rest10
            case hy10 => (intro wq hSw; (try dsimp only at hSw); go_split_ands; go_simp; (try with_reducible rfl))
            case rest10 =>
            refine wpAnyH_take (i := 10) (v := ?v11) rfl (by kernel_rfl) (by kernel_rfl) (by kernel_rfl) (fun _ _ _ h => h) (Or.inl ⟨by rfl, ?hy11⟩) (by assumption) ?rest11
            case hy11 => (intro wq hSw; (try dsimp only at hSw); go_split_ands; go_simp; (try with_reducible rfl))
            case rest11 =>
            refine wpAnyH_take (i := 11) (v := ?v12) rfl (by kernel_rfl) (by kernel_rfl) (by kernel_rfl) (fun _ _ _ h => h) (Or.inl ⟨by rfl, ?hy12⟩) (by assumption) ?rest12
            case hy12 => (intro wq hSw; (try dsimp only at hSw); go_split_ands; go_simp; (try with_reducible rfl))
            case rest12 =>
            refine wpAnyH_ready (rs := [12]) (by kernel_rfl) (by simp) ?_
            refine AllReadyH.cons rfl (fun K hK => ?step13) ?more13
            case step13 =>
              go_simp
              refine hK.out _ _ (HK.out _ (hB.alloc hB.size _)) (fun hHeld => ?_)
              clear hK K
              have hNq_1 : (ov).ownBlock ≠ some x0.heap.size := fun e => by have h1 := (hO1.lt _ e).2; omega
              replace hO1 := hO1.alloc (Obj.cells #[.int .i64 X.id, .int .i64 Y.id] 55)
              have hNq_2 : (Value.slice (some ⟨gr, 0, none⟩) n n).ownBlock ≠ some x0.heap.size := fun e => by have h1 := (hO2.lt _ e).2; omega
              replace hO2 := hO2.alloc (Obj.cells #[.int .i64 X.id, .int .i64 Y.id] 55)
              have hNq_3 : (Value.slice (some ⟨gj, 0, none⟩) jl cj).ownBlock ≠ some x0.heap.size := fun e => by have h1 := (hO3.lt _ e).2; omega
              replace hO3 := hO3.alloc (Obj.cells #[.int .i64 X.id, .int .i64 Y.id] 55)
              have hXq := Bx.new x0 55 #[.int .i64 X.id, .int .i64 Y.id]
              have hXAq : W.heap.size ≤ x0.heap.size := hB.size
              replace hB := hB.alloc hB.size (Obj.cells #[.int .i64 X.id, .int .i64 Y.id] 55)
              generalize x0.alloc (Obj.cells #[.int .i64 X.id, .int .i64 Y.id] 55) = x1 at *
              generalize x0.heap.size = gqx1 at *
              refine wpAnyH_ready (rs := [13]) (by kernel_rfl) (by simp) ?_
              refine AllReadyH.cons rfl (fun K hK => ?step14) ?more14
              case step14 =>
                refine step_append_o (T := LIntA2.rec) (by rfl) (.tmp 35) (.tmp 47) 44 (by rfl) W.heap.size 55 i1 (.agg #[.int .i64 0, .int .i64 0]) 16 Tryd.underlying44 HI1.out HZ1.out.1 HZ1.out.2.1 HZ1.out.2.2 (by decide) _ _ (by rfl) hO1 (some ⟨gqx1, 0, none⟩) (1) (1) ([(⟨X.id, Y.id⟩ : LIntA2.R)]) (by rfl) (by rfl) (src_one (T := LIntA2.rec) hXq) (by have := HZL.out; unfold maxLen; omega) (by have := HZL.out; omega) hB.size ?_
                intro vx2 x2 hown hgrow hnn hat
                have hB2 := below_grown hB hgrow hB.size (fun k hk => (hO1.lt k hk).1)
                refine hK.out _ _ (HK.out _ hB2) (fun hHeld => ?_)
                clear hK K
                have hE := own_besides hO2 hgrow hD1_2.symm
                have hF := dist_grow hO2 hD1_2.symm hat
                clear hO2 hD1_2
                have hO2 := hE
                have hD1_2 := hF.symm
                clear hE hF
                have hE := own_besides hO3 hgrow hD1_3.symm
                have hF := dist_grow hO3 hD1_3.symm hat
                clear hO3 hD1_3
                have hO3 := hE
                have hD1_3 := hF.symm
                clear hE hF
                have hE := box_besides hXq hgrow hNq_1
                have hF := ne_next hNq_1 hXq.lt hat
                clear hXq hNq_1
                have hXq := hE
                have hNq_1 := hF
                clear hE hF
                clear hO1 hB hgrow hat hnn
                have hO1 := hown
                have hB := hB2
                clear hown hB2
                refine wpAnyH_take (i := 14) (v := ?v15) rfl (by kernel_rfl) (by kernel_rfl) (by kernel_rfl) (fun _ _ _ h => h) (Or.inl ⟨by rfl, ?hy15⟩) (by assumption) ?rest15
                case hy15 => (intro wq hSw; (try dsimp only at hSw); go_split_ands; go_simp; (try with_reducible rfl))
                case rest15 =>
                refine wpAnyH_done (by kernel_rfl) ?_ _
                clear hXq
                go_wp2_with fail
                go_roundw
                case rel => exact ⟨m + 1, _, _, rfl, by omega, by go_num, HZ2, Lib.hid hO1, Lib.hid hO2, Lib.hid hO3, Lib.hid hD1_2, Lib.hid hD1_3, hB⟩
                case measure => simp [intOf]; omega
              case more14 => exact AllReadyH.nil
            case more13 => exact AllReadyH.nil
          · have HZ2 := Lib.hid (show zs = rows z i ++ upTo z i (js.take (m + 1)) by rw [upTo_no HJA.out hij]; exact HZ.out)
            have hij2 : ¬ (i : Int) < (J : Int) := by omega
            clear hij
            go_wp2_with fail
            go_roundw
            case rel => exact ⟨m + 1, _, _, rfl, by omega, by go_num, HZ2, HO, HU, HJ, HD, HD3, hb⟩
            case measure => simp [intOf]; omega
        · obtain rfl : m = jl := by omega
          have HE := Lib.hid (show Own LIntA2.rec 55 wr W.heap.size ov (rows z (i + 1)) by
            have h := HO.out
            rw [HZ.out, List.take_of_length_le (by have := HJN.out; omega), ← HRB.out, ← rows_next] at h
            exact h)
          go_wp2_with fail
          go_roundw
          case rel => exact ⟨i + 1, _, rfl, by omega, by go_num, HE, HU, HD, hb⟩
          case measure => simp [intOf]; omega
    · obtain rfl : i = n := by omega
      have HE := Lib.hid (show rows z i = pairs z by unfold pairs; rw [HN.out])
      go_wp2_with fail
      go_ret2
      exact ⟨_, _, true, rfl, HA.out, HE.out ▸ HO.out, hb⟩
end Go.Proofs.YtclpdpfnlmfogaaDoor.ConflictPairsC
