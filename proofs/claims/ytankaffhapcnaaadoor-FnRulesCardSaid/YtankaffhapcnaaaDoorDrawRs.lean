/- The draw of a list of rules. No condition. -/
import Derived.Test.YtankaffhapcnaaaDoorDrawRd
namespace Go.Proofs.YtankaffhapcnaaaDoor.Draw
open Go.RowKit Cur Bs
set_option linter.unusedVariables false
set_option maxRecDepth 100000 in
set_option maxHeartbeats 6400000 in
theorem rules (B m : Nat) (w : World) (h : Cur w B m) (hm : m < 700000) : Calls Tryd.prog 37 #[.pointer (some ⟨B, 0, none⟩)] w (RsOf w B (m + 300)) := by
  have hB := h.lt
  obtain ⟨i0, hi, hz0, hz1, hz2⟩ := info_parts LRule.infoK
  have HI0 := Lib.hid hi
  have HZ0 := Lib.hid (And.intro hz0 (And.intro hz1 hz2))
  clear hi hz0 hz1 hz2
  have HC0 := Lib.hid (cur_alloc h (.cells #[] 25))
  have HO0 := Lib.hid (Own.start (T := LRule.rec) (E := 25) (w := w) (Nat.le_refl _))
  have hg0 := grown_alloc w (.cells #[] 25) (some B)
  clear h
  go_enter Tryd.func37, Tryd.ntmps37
  go_wp2_with fail
  generalize w.alloc (.cells #[] 25) = W0 at *
  refine (pick B m 7 _ HC0.out (by omega) (by omega) (by omega)).mono ?_
  rintro e w2 ⟨q, rfl, q0, q1, hc2, hg2⟩
  obtain ⟨q, rfl⟩ := Int.eq_ofNat_of_zero_le q0
  have HO2 := Lib.hid (own_grown HO0.out hg2 hB)
  have hgg2 := grown_trans hg0 hg2
  have HC2 := Lib.hid hc2
  clear hc2 hg2 HO0 hg0 HC0 W0
  go_wp2_with fail
  go_loopw [3, 4] (fun u b wr => ∃ (q c : Nat) (z : List LRule.R), q ≤ 6 ∧ b = .int .i64 q ∧ Hid (Own LRule.rec 25 wr w.heap.size u z) ∧ Hid (∃ g, u.ownBlock = some g) ∧ Hid (RShort z) ∧ z.length + q ≤ 6 ∧ Hid (Cur wr B c) ∧ c + 20 * q ≤ m + 122 ∧ w.grownBy wr (some B)) (fun _ b _ => (intOf b).toNat)
  case atStart => exact ⟨q, m + 2, [], by omega, rfl, HO2, Lib.hid ⟨_, rfl⟩, Lib.hid (fun x hx => by cases hx), by simp; omega, HC2, by omega, hgg2⟩
  case round =>
    clear HO2 hgg2 HC2 q0 q1
    obtain ⟨q, c, z, hq, rfl, HO, HNn, HSh, hzl, HC, hc, hgw⟩ := hrel
    have hws := grown_size hgw
    by_cases hpos : 0 < q
    · obtain ⟨q, rfl⟩ : ∃ p, q = p + 1 := ⟨q - 1, by omega⟩
      have hqi : (0 : Int) < (q : Int) + 1 := by omega
      go_wp2_with fail
      refine (rule B c _ HC.out (by omega)).mono ?_
      rintro e w2 ⟨r, rfl, hrs, hc2, hgr2⟩
      have HO2 := Lib.hid (own_grown HO.out hgr2 hB)
      have hgw2 := grown_trans hgw hgr2
      have HC2 := Lib.hid hc2
      have hws2 := grown_size hgw2
      clear hc2 hgr2 HO HC hgw
      go_wp2_with fail
      refine (AddC.spec _ z r _ (HO2.out.isS HNn.out) (rshort_fine HSh.out) (by omega) (rule_fine hrs)).mono ?_
      rintro e w3 ⟨v0, r0, r1, rfl, hans, hown, hb⟩
      have HO3 := Lib.hid (HO2.out.kept hb)
      have HC3 := Lib.hid (HC2.out.kept hb)
      have hgw3 := grown_of_below hgw2 hb
      have HV3 := Lib.hid (Own.low hown hws2)
      clear HO2 HC2 hgw2 hb hown
      rcases hans with ⟨_, _, rfl, rfl⟩ | ⟨_, rfl, rfl⟩
      · have hil := Ins.ins_len z r
        have HN3 := Lib.hid (rown_some HV3.out (by omega))
        have HS3 := Lib.hid (rshort_ins HSh.out hrs)
        clear HO3
        go_wp2_with fail
        go_roundw
        case rel => exact ⟨q, c + 20, Ins.ins z r, by omega, by first | go_num | (congr 1; omega), HV3, HN3, HS3, by omega, HC3, by omega, hgw3⟩
        case measure => simp [intOf]
      · clear HV3
        go_wp2_with fail
        go_roundw
        case rel => exact ⟨q, c + 20, z, by omega, by first | go_num | (congr 1; omega), HO3, HNn, HSh, by omega, HC3, by omega, hgw3⟩
        case measure => simp [intOf]
    · obtain rfl : q = 0 := by omega
      go_wp2_with fail
      refine (pick B c 24 _ HC.out (by omega) (by omega) (by omega)).mono ?_
      rintro e w3 ⟨s, rfl, s0, s1, hc3, hgr3⟩
      have HO3 := Lib.hid (own_grown HO.out hgr3 hB)
      have hgw3 := grown_trans hgw hgr3
      have HC3 := Lib.hid hc3
      have hws3 := grown_size hgw3
      clear hc3 hgr3 HO HC hgw
      cases e1 : (s == 0) with
      | true =>
        go_wp2_with fail
        refine (rule B _ _ HC3.out (by omega)).mono ?_
        rintro e w5 ⟨r, rfl, hrs, hc5, hgr5⟩
        have HO5 := Lib.hid (own_grown HO3.out hgr5 hB)
        have hgw5 := grown_trans hgw3 hgr5
        have HC5 := Lib.hid hc5
        have HS5 := Lib.hid (rshort_snoc HSh.out hrs)
        have hws5 := grown_size hgw5
        clear hc5 hgr5 HO3 HC3 hgw3
        go_wp2_with (at_builtin; refine wpList_append_own _ rfl (.tmp 28) (.tmp 31) 33 rfl w.heap.size 25 i0 (.agg #[.int .i64 0, .string ⟨#[]⟩, .int .i64 0, .bool false, .bool false, .bool false, .int .i64 0]) 7 48 Tryd.underlying33 HI0.out HZ0.out.1 HZ0.out.2.1 HZ0.out.2.2 rfl (by decide) _ _ _ rfl (Own.alloc HO5.out _) ⟨_, 0, none⟩ 1 1 [.int .i64 r.id, .string r.name, .int .i64 r.rank, .bool r.sec, .bool r.deb, .bool r.am, .int .i64 r.need] rfl rfl ?t1 ?t2 ?t3 ?t4 ?t5 ?t6)
        case t1 => first | exact World.news_of_block (heap_alloc_new _ _) | exact World.news_of_block (alloc_two _ _ _)
        case t2 => intro u hu; simp only [List.mem_cons, List.not_mem_nil, or_false] at hu; rcases hu with rfl | rfl | rfl | rfl | rfl | rfl | rfl <;> rfl
        case t3 => unfold maxLen; omega
        case t4 => omega
        case t5 => first | (simp; done) | (simp; omega) | omega
        case t6 =>
          intro v2 w6 hown2 hgrow2 _
          have HV6 := Lib.hid (show Own LRule.rec 25 w6 w.heap.size v2 (z ++ [r]) from own_of LRule.rec hown2 (by simp) (by rw [flat_append]; rfl))
          have HC6 := Lib.hid (cur_own (cur_alloc HC5.out (.cells #[.int .i64 r.id, .string r.name, .int .i64 r.rank, .bool r.sec, .bool r.deb, .bool r.am, .int .i64 r.need] 25)) hgrow2 (fun k hk => by have := (HO5.out.lt k hk).1; omega))
          have hgw6 := grown_own (grown_trans hgw5 (grown_alloc w5 (.cells #[.int .i64 r.id, .string r.name, .int .i64 r.rank, .bool r.sec, .bool r.deb, .bool r.am, .int .i64 r.need] 25) (some B))) hgrow2 (fun k hk => (HO5.out.lt k hk).1)
          clear hown2 hgrow2
          go_wp2_with fail
          go_ret
          exact ⟨v2, z ++ [r], rfl, HV6.out, rown_some HV6.out (by simp), HS5.out, by simp; omega, HC6.out.mono (by omega), hgw6⟩
      | false =>
        cases e2 : (s == 1) with
        | true =>
          go_wp2_with fail
          go_loopw [3, 7] (fun u a wr => ∃ (j c : Nat) (z : List LRule.R), j ≤ 10 ∧ a = .int .i64 j ∧ Hid (Own LRule.rec 25 wr w.heap.size u z) ∧ Hid (∃ g, u.ownBlock = some g) ∧ Hid (RShort z) ∧ z.length ≤ 6 + j ∧ Hid (Cur wr B c) ∧ c + 4 * (10 - j) ≤ m + 200 ∧ w.grownBy wr (some B)) (fun _ a _ => 10 - (intOf a).toNat)
          case atStart => exact ⟨0, c + 2, z, by omega, rfl, HO3, HNn, HSh, by omega, HC3, by omega, hgw3⟩
          case round =>
            clear HO3 HC3 HSh HNn hzl hgw3
            clear z
            obtain ⟨j, c, z, hj, rfl, HO, HNn, HSh, hzl, HC, hc, hgw⟩ := hrel
            have hws := grown_size hgw
            rcases HO.out.shape with ⟨rfl, hz⟩ | ⟨g, cap, rfl, hg1, hg2, hcap, hcm⟩
            · obtain ⟨g, hg⟩ := HNn.out; cases hg
            unfold maxLen at hcm
            obtain ⟨l, hl⟩ : ∃ l, l = z.length := ⟨_, rfl⟩
            have HLn := Lib.hid hl.symm
            rw [← hl] at HO HNn hzl hcap ⊢
            clear hl
            go_wp2_with fail
            refine (pick B c 2 _ HC.out (by omega) (by omega) (by omega)).mono ?_
            rintro e w4 ⟨d, rfl, d0, d1, hc4, hgr4⟩
            have HO4 := Lib.hid (own_grown HO.out hgr4 hB)
            have hgw4 := grown_trans hgw hgr4
            have HC4 := Lib.hid hc4
            have hws4 := grown_size hgw4
            have d2 : 8 + d ≤ 9 := by omega
            have d3 : 0 ≤ 8 + d := by omega
            clear hc4 hgr4 HO HC hgw
            by_cases hjd : (l : Int) < 8 + d
            · by_cases hj10 : (j : Int) < 10
              · have j0 : 0 ≤ (j : Int) := by omega
                have hl8 : l ≤ 8 := by omega
                have hw11 : IntKind.i64.wrap (11 + (j : Int)) = 11 + (j : Int) := IntWalk.i64_in _ (by omega)
                obtain ⟨k, hk⟩ : ∃ k, k = j % 8 := ⟨_, rfl⟩
                have hk7 : k ≤ 7 := by omega
                have hmod : (j : Int).tmod 8 = (k : Int) := by rw [Int.tmod_eq_emod_of_nonneg j0]; omega
                have hwk : IntKind.i64.wrap (k : Int) = (k : Int) := IntWalk.i64_in _ (by omega)
                have hk8 : (k : Int) ≤ 8 := by omega
                have hne4 : w4.heap.size ≠ B := by have := HC4.out.lt; omega
                have HOf := Lib.hid (of_any B (c + 2) w4.heap.size 0 2 2 [⟨#[97]⟩, ⟨#[98]⟩] (w4.alloc (Obj.cells #[.string ⟨#[97]⟩, .string ⟨#[98]⟩] 9)).drew ((cur_alloc HC4.out _).kept (Below.drew (Below.refl _ _))) (by omega) rfl (by omega) (by omega) (by omega) hne4 (by simp) (fun j x hx => lit_cells w4 [⟨#[97]⟩, ⟨#[98]⟩] j x hx))
                have HO5 := Lib.hid ((Own.alloc HO4.out (Obj.cells #[.string ⟨#[97]⟩, .string ⟨#[98]⟩] 9)).kept (Below.drew (Below.refl _ _)))
                have hgw5 := grown_trans (grown_trans hgw4 (grown_alloc w4 (Obj.cells #[.string ⟨#[97]⟩, .string ⟨#[98]⟩] 9) (some B))) (grown_drew _ 1 (some B))
                clear hk
                go_upto_region 15 with fail
                refine wp_region_held_drew (S := (fun _ : World => True)) (by kernel_rfl) trivial (fun hHeld => ?_)
                refine wpAnyH_take (i := 0) (v := ?v1) rfl (by kernel_rfl) (by kernel_rfl) (by kernel_rfl) (fun _ _ _ h => h) (Or.inl ⟨by rfl, ?hy1⟩) (by assumption) ?rest1
                case hy1 => (intro wq hSw; (try dsimp only at hSw); go_split_ands; go_simp; (try with_reducible rfl))
                case rest1 =>
                refine wpAnyH_take (i := 1) (v := ?v2) rfl (by kernel_rfl) (by kernel_rfl) (by kernel_rfl) (fun _ _ _ h => h) (Or.inl ⟨by rfl, ?hy2⟩) (by assumption) ?rest2
                case hy2 => (intro wq hSw; (try dsimp only at hSw); go_split_ands; go_simp; (try with_reducible rfl))
                case rest2 =>
                refine wpAnyH_take (i := 2) (v := ?v3) rfl (by kernel_rfl) (by kernel_rfl) (by kernel_rfl) (fun _ _ _ h => h) (Or.inl ⟨by rfl, ?hy3⟩) (by assumption) ?rest3
                case hy3 => (intro wq hSw; (try dsimp only at hSw); go_split_ands; go_simp; (try with_reducible rfl))
                case rest3 =>
                refine wpAnyH_take (i := 3) (v := ?v4) rfl (by kernel_rfl) (by kernel_rfl) (by kernel_rfl) (fun _ _ _ h => h) (Or.inl ⟨by rfl, ?hy4⟩) (by assumption) ?rest4
                case hy4 => (intro wq hSw; (try dsimp only at hSw); go_split_ands; go_simp; (try with_reducible rfl))
                case rest4 =>
                refine wpAnyH_take (i := 7) (v := ?v5) rfl (by kernel_rfl) (by kernel_rfl) (by kernel_rfl) (fun _ _ _ h => h) (Or.inl ⟨by rfl, ?hy5⟩) (by assumption) ?rest5
                case hy5 => (intro wq hSw; (try dsimp only at hSw); go_split_ands; go_simp; (try with_reducible rfl))
                case rest5 =>
                refine wpAnyH_take (i := 8) (v := ?v6) rfl (by kernel_rfl) (by kernel_rfl) (by kernel_rfl) (fun _ _ _ h => h) (Or.inl ⟨by rfl, ?hy6⟩) (by assumption) ?rest6
                case hy6 => (intro wq hSw; (try dsimp only at hSw); go_split_ands; go_simp; (try with_reducible rfl))
                case rest6 =>
                refine wpAnyH_take (i := 9) (v := ?v7) rfl (by kernel_rfl) (by kernel_rfl) (by kernel_rfl) (fun _ _ _ h => h) (Or.inl ⟨by rfl, ?hy7⟩) (by assumption) ?rest7
                case hy7 => (intro wq hSw; (try dsimp only at hSw); go_split_ands; go_simp; (try with_reducible rfl))
                case rest7 =>
                have hSX : ((⟨#[97, 98, 99, 100, 101, 102, 103, 104]⟩ : ByteArray).extract 0 k).size ≤ 8 := by rw [ByteArray.size_extract]; exact Nat.le_trans (Nat.sub_le _ _) (Nat.min_le_right _ _)
                generalize (⟨#[97, 98, 99, 100, 101, 102, 103, 104]⟩ : ByteArray).extract 0 k = SX at *
                refine wpAnyH_ready (rs := [4]) (by kernel_rfl) (by simp) ?_
                refine AllReadyH.cons rfl (fun K hK => ?step8) ?more8
                case step8 =>
                  go_simp
                  refine hK.out _ _ trivial (fun hHeld => ?_)
                  clear hK K
                  refine wpAnyH_ready (rs := [5]) (by kernel_rfl) (by simp) ?_
                  refine AllReadyH.cons rfl (fun K hK => ?step9) ?more9
                  case step9 =>
                    go_simp
                    go_at_call 50
                    refine HOf.out.mono ?_
                    rintro e w5 ⟨x, hx, rfl, hc5, hg5⟩
                    have hxs := small_of _ 1 (by decide +kernel) x hx
                    replace HO5 := Lib.hid (own_grown HO5.out hg5 hB)
                    replace hgw5 := grown_trans hgw5 hg5
                    have HC5 := Lib.hid hc5
                    have hws5 := grown_size hgw5
                    clear HOf hx hc5 hg5
                    have hs1 : ¬ (9223372036854775807 < 1 + x.size) := by omega
                    have hs2 : ¬ (9223372036854775807 < 1 + x.size + SX.size) := by omega
                    go_wp2_with fail
                    refine hK.out _ _ trivial (fun hHeld => ?_)
                    clear hK K
                    refine wpAnyH_take (i := 6) (v := ?v10) rfl (by kernel_rfl) (by kernel_rfl) (by kernel_rfl) (fun _ _ _ h => h) (Or.inl ⟨by rfl, ?hy10⟩) (by assumption) ?rest10
                    case hy10 => (intro wq hSw; (try dsimp only at hSw); go_split_ands; go_simp; (try with_reducible rfl))
                    case rest10 =>
                    refine wpAnyH_take (i := 10) (v := ?v11) rfl (by kernel_rfl) (by kernel_rfl) (by kernel_rfl) (fun _ _ _ h => h) (Or.inl ⟨by rfl, ?hy11⟩) (by assumption) ?rest11
                    case hy11 => (intro wq hSw; (try dsimp only at hSw); go_split_ands; go_simp; (try with_reducible rfl))
                    case rest11 =>
                    refine wpAnyH_take (i := 11) (v := ?v12) rfl (by kernel_rfl) (by kernel_rfl) (by kernel_rfl) (fun _ _ _ h => h) (Or.inl ⟨by rfl, ?hy12⟩) (by assumption) ?rest12
                    case hy12 => (intro wq hSw; (try dsimp only at hSw); go_split_ands; go_simp; (try with_reducible rfl))
                    case rest12 =>
                    refine wpAnyH_ready (rs := [12]) (by kernel_rfl) (by simp) ?_
                    refine AllReadyH.cons rfl (fun K hK => ?step13) ?more13
                    case step13 =>
                      go_simp
                      refine hK.out _ _ trivial (fun hHeld => ?_)
                      clear hK K
                      refine wpAnyH_ready (rs := [13]) (by kernel_rfl) (by simp) ?_
                      refine AllReadyH.cons rfl (fun K hK => ?step14) ?more14
                      case step14 =>
                        refine step_append (by rfl) (.tmp 47) (.tmp 59) 33 (by rfl) w.heap.size 25 i0 (.agg #[.int .i64 0, .string ⟨#[]⟩, .int .i64 0, .bool false, .bool false, .bool false, .int .i64 0]) 7 48 Tryd.underlying33 HI0.out HZ0.out.1 HZ0.out.2.1 HZ0.out.2.2 rfl (by decide) _ _ _ (by rfl) (by first | exact Own.alloc HO5.out _ | exact (Own.alloc HO5.out _).kept (Below.drew (Below.refl _ _))) _ 1 1 [.int .i64 (11 + (j : Int)), .string ((⟨#[120]⟩ ++ x) ++ SX), .int .i64 3, .bool false, .bool false, .bool false, .int .i64 1] (by rfl) (by rfl) (by first | exact World.news_of_block (heap_alloc_new _ _)) (by intro u hu; simp only [List.mem_cons, List.not_mem_nil, or_false] at hu; rcases hu with rfl | rfl | rfl | rfl | rfl | rfl | rfl <;> rfl) (by have := HLn.out; unfold maxLen; omega) (by have := HLn.out; omega) ?low14 ?_
                        case low14 => first | (simp; done) | (simp; omega) | omega
                        intro v2 w6 hown2 hgrow2
                        refine hK.out _ _ trivial (fun hHeld => ?_)
                        clear hK K
                        refine wpAnyH_take (i := 14) (v := ?v15) rfl (by kernel_rfl) (by kernel_rfl) (by kernel_rfl) (fun _ _ _ h => h) (Or.inl ⟨by rfl, ?hy15⟩) (by assumption) ?rest15
                        case hy15 => (intro wq hSw; (try dsimp only at hSw); go_split_ands; go_simp; (try with_reducible rfl))
                        case rest15 =>
                        refine wpAnyH_done (by kernel_rfl) ?_ _
                        have HV6 := Lib.hid (show Own LRule.rec 25 w6 w.heap.size v2 (z ++ [⟨11 + (j : Int), (⟨#[120]⟩ ++ x) ++ SX, 3, false, false, false, 1⟩]) from own_of LRule.rec hown2 (by rw [List.length_append, List.length_singleton]) (by rw [flat_append]; rfl))
                        have HC6 := Lib.hid (cur_own (by first | exact cur_alloc HC5.out _ | exact (cur_alloc HC5.out _).kept (Below.drew (Below.refl _ _))) hgrow2 (fun k hk => by have := (HO5.out.lt k hk).1; omega))
                        have hgw6 := grown_own (by first | exact grown_trans hgw5 (grown_alloc w5 _ (some B)) | exact grown_trans (grown_trans hgw5 (grown_alloc w5 _ (some B))) (grown_drew _ 1 (some B))) hgrow2 (fun k hk => (HO5.out.lt k hk).1)
                        have HN6 := Lib.hid (rown_some HV6.out (by simp))
                        have HS6 := Lib.hid (rshort_snoc (r := ⟨11 + (j : Int), (⟨#[120]⟩ ++ x) ++ SX, 3, false, false, false, 1⟩) HSh.out (by show (_ : ByteArray).size ≤ 11; rw [ByteArray.size_append, ByteArray.size_append]; show 1 + x.size + SX.size ≤ 11; omega))
                        clear hown2 hgrow2
                        go_wp2_with fail
                        go_roundw
                        case rel => exact ⟨j + 1, c + 4, _, by omega, by go_num, HV6, HN6, HS6, by have := HLn.out; rw [List.length_append, List.length_singleton]; omega, HC6, by omega, hgw6⟩
                        case measure => simp [intOf]; omega
                      case more14 => exact AllReadyH.nil
                    case more13 => exact AllReadyH.nil
                  case more9 => exact AllReadyH.nil
                case more8 => exact AllReadyH.nil
              · go_wp2_with fail
                go_ret
                exact ⟨_, z, rfl, HO4.out, HNn.out, HSh.out, by have := HLn.out; omega, HC4.out.mono (by omega), hgw4⟩
            · go_wp2_with fail
              go_ret
              exact ⟨_, z, rfl, HO4.out, HNn.out, HSh.out, by have := HLn.out; omega, HC4.out.mono (by omega), hgw4⟩
        | false =>
          go_wp2_with fail
          go_ret
          exact ⟨_, z, rfl, HO3.out, HNn.out, HSh.out, by omega, HC3.out.mono (by omega), hgw3⟩
end Go.Proofs.YtankaffhapcnaaaDoor.Draw
