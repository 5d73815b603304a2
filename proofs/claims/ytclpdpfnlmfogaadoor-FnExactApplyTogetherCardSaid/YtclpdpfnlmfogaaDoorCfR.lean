/- The sets of rivals of a list of proposals: the program. No condition. -/
import Derived.Test.YtclpdpfnlmfogaaDoorCfI
import Derived.Test.YtclpdpfnlmfogaaDoorCfG
import Derived.Test.YtclpdpfnlmfogaaDoorJ1
import Derived.Test.YtclpdpfnlmfogaaDoorLProposalSD
import Derived.StillTailTactics
import Derived.Laws.Bits64b
import Derived.Deep.DeepCutAuto
namespace Go.Proofs.YtclpdpfnlmfogaaDoor.CfR
open Go.RowKit Bs Word Am AmA AmG AmF Cf CfG CfD CfI CfM
set_option linter.unusedVariables false
theorem conflict_as (v v' : Value) (a b : M) (bv : Bool) (hv : confB a b = bv) (w : World) (h0 : LAmendment.Is w v a) (h1 : LAmendment.Is w v' b) (f0 : LAmendment.Fine a) (f1 : LAmendment.Fine b) (ga : good a = true) (gb : good b = true) :
    Calls Tryd.prog 10 #[v, v'] w fun e w' => e = .returned (.tuple #[.bool bv, .bool true]) ∧ Below w.heap.size w w' := by
  subst hv
  refine (CfI.doConflict v v' a b w h0 h1 f0 f1).mono ?_
  rintro e w' ⟨rfl, hb⟩
  exact ⟨by rw [ga, gb]; rfl, hb⟩
theorem shl_one (j : Nat) (h : j < 64) : IntKind.u64.wrap (2 ^ j) = ((1 <<< j : Nat) : Int) := by
  have h2 : 2 ^ j < 2 ^ 64 := Nat.pow_lt_pow_right (by decide) h
  rw [Nat.shiftLeft_eq, Nat.one_mul, IntKind.wrap_u64]
  have : ((2 : Int) ^ j) = ((2 ^ j : Nat) : Int) := by simp
  rw [this]
  generalize (2 ^ j : Nat) = m at *
  omega
/-- what lies in the sets while the row i is made: j others looked at -/
def St (z : List P) (n i j : Nat) : List Nat := (LSet.part (rivs z) n i).set i (mask (rivB z i) j)
theorem st_len (z : List P) {n : Nat} (hn : z.length = n) {i : Nat} (hi : i ≤ n) (j : Nat) : (St z n i j).length = n := by
  unfold St; rw [List.length_set, LSet.part_len _ _ _ (by rw [rivs_len, hn]) hi]
theorem st_zero (z : List P) {n : Nat} (hn : z.length = n) {i : Nat} (hi : i < n) : St z n i 0 = LSet.part (rivs z) n i := by
  unfold St
  have h := LSet.part_at (rivs z) n i (by rw [rivs_len, hn]) hi
  have hl : i < (LSet.part (rivs z) n i).length := (List.getElem?_eq_some_iff.1 h).1
  apply List.ext_getElem?
  intro k
  by_cases e : i = k
  · subst e; rw [List.getElem?_set_self hl, h]; rfl
  · rw [List.getElem?_set_ne e]
theorem st_at (z : List P) {n : Nat} (hn : z.length = n) {i : Nat} (hi : i < n) (j : Nat) : (St z n i j)[i]? = some (mask (rivB z i) j) := by
  unfold St
  rw [List.getElem?_set_self (by rw [LSet.part_len _ _ _ (by rw [rivs_len, hn]) (by omega)]; exact hi)]
theorem st_yes (z : List P) {n i j : Nat} (h : rivB z i j = true) : (St z n i j).set i (mask (rivB z i) j ||| 1 <<< j) = St z n i (j + 1) := by
  unfold St; rw [List.set_set, mask_step h]
theorem st_no (z : List P) {n i j : Nat} (h : rivB z i j = false) : St z n i j = St z n i (j + 1) := by unfold St; rw [mask_skip h]
theorem st_end (z : List P) {n : Nat} (hn : z.length = n) {i : Nat} (hi : i < n) : St z n i n = LSet.part (rivs z) n (i + 1) := by
  have hl : i < (rivs z).length := by rw [rivs_len, hn]; exact hi
  rw [← LSet.part_set (rivs z) n i (by rw [rivs_len, hn]) hl]
  unfold St
  congr 1
  have := rivs_at (l := z) (i := i) (by omega)
  rw [List.getElem?_eq_getElem hl] at this
  rw [Option.some.inj this]
  unfold riv
  rw [hn]
theorem riv_self (z : List P) (i : Nat) : rivB z i i = false := by unfold rivB; simp
theorem riv_conf {z : List P} {i j : Nat} {a b : P} (hi : z[i]? = some a) (hj : z[j]? = some b) (h : i ≠ j) : rivB z i j = confB (ch a) (ch b) := by
  unfold rivB; rw [cf_at hi hj, decide_eq_true h, Bool.and_true]
theorem riv_no {z : List P} {i j : Nat} {a b : P} (hi : z[i]? = some a) (hj : z[j]? = some b) (h : confB (ch a) (ch b) = false) : rivB z i j = false := by
  unfold rivB; rw [cf_at hi hj, h]; rfl
theorem isAt {w : World} {b o : Nat} {r : P} {a : Option Addr} {l d : Nat} (h : At LProposalS.kit.row w b o (LProposalS.hd r a l d)) : w.cell? ⟨b, o + 1, none⟩ = some (.int .i64 r.kind) ∧ w.cell? ⟨b, o + 2, none⟩ = some (.int .i64 r.pos) ∧ w.cell? ⟨b, o + 3, none⟩ = some (.int .i64 r.count) ∧ w.cell? ⟨b, o + 4, none⟩ = some (.slice a l d) := ⟨(LProposalS.cells_hd h).2.1, (LProposalS.cells_hd h).2.2.1, (LProposalS.cells_hd h).2.2.2.1, (LProposalS.cells_hd h).2.2.2.2.1⟩
set_option maxRecDepth 100000 in
set_option maxHeartbeats 3200000 in
theorem rivalsOf (v1 : Value) (z : List P) (w : World) (h1 : LProposalS.Is w v1 z) (f1 : ∀ x ∈ z, LProposal.Fine x) (h8 : z.length ≤ 8) (hg : ∀ x ∈ z, good (ch x) = true) :
    Calls Tryd.prog 76 #[v1] w fun e w' => ∃ (g : Nat), e = .returned (.slice (some ⟨g, 0, none⟩) z.length z.length) ∧ w.heap.size ≤ g ∧ Own LSet.rec 90 w' w.heap.size (.slice (some ⟨g, 0, none⟩) z.length z.length) (rivs z) ∧ Below w.heap.size w w' := by
  obtain ⟨i0, hi, hz0, hz1⟩ : ∃ i, Tryd.prog.info? 90 = some i ∧ i.zero = some (.int .u64 0) ∧ i.size = 1 := by
    have := LSet.info
    cases h' : Tryd.prog.info? 90 with
    | none => rw [h'] at this; cases this
    | some i => rw [h'] at this; simp only [Option.map_some, Option.some.injEq, Prod.mk.injEq] at this; exact ⟨i, rfl, this⟩
  have hz2 : i0.bytes ≤ 1000 := by
    have e : (Tryd.prog.info? 90).map (fun i => decide (i.bytes ≤ 1000)) = some true := by kernel_rfl
    rw [hi] at e
    simpa using e
  have HI := Lib.hid hi
  have HZ := Lib.hid (And.intro hz0 (And.intro hz1 hz2))
  have HGA := Lib.hid hg
  clear hi hz0 hz1 hz2 hg
  have hc := LProposalS.get h1
  obtain ⟨a, cp, rfl, hnb, h2⟩ := h1.form
  unfold maxLen at h2
  obtain ⟨n, hn⟩ : ∃ n, n = z.length := ⟨_, rfl⟩
  have HN := Lib.hid hn.symm
  have HF := Lib.hid f1
  have HLI := Lib.hid h1
  rw [← hn] at hc hnb HLI ⊢
  have hle : n ≤ z.length := by omega
  clear hn h1 f1
  have hn8 : n ≤ 8 := by have := HN.out; omega
  clear h8
  go_enter Tryd.func76, Tryd.ntmps76
  go_wp2_with (at_make; refine wpList_make_full _ rfl (.tmp 11) (.tmp 11) 87 rfl w.heap.size 90 i0 _ 1 Tryd.underlying87 HI.out HZ.out.1 HZ.out.2.1 .i64 .i64 _ _ n rfl rfl rfl rfl ?c1 ?c2 ?c3 ?c4)
  case c1 => exact Nat.le_trans (Nat.mul_le_mul HZ.out.2.2 hn8) (show 1000 * 8 ≤ 281474976710656 by decide)
  case c2 => unfold maxLen; omega
  case c4 =>
    intro w1 hown hgrow
    have hb : Below w.heap.size w w1 := (Below.refl _ _).grown hgrow (Nat.le_refl _) (fun k hk => by cases hk)
    have HO : Hid (Own LSet.rec 90 w1 w.heap.size (.slice (some ⟨w.heap.size, 0, none⟩) n n) (LSet.part (rivs z) n 0)) := by
      rw [LSet.part_zero]
      rw [LSet.made_zero] at hown
      show Own _ _ _ _ _ _
      unfold Own
      rw [List.length_replicate]
      exact hown
    have HGS := Lib.hid (show w.heap.size + 1 ≤ w1.heap.size from (HO.out.lt w.heap.size rfl).2)
    clear hown hgrow
    go_wp2_with fail
    go_loopw [15] (fun i wr => ∃ k : Nat, k ≤ n ∧ i = .int .i64 k ∧ Hid (Own LSet.rec 90 wr w.heap.size (.slice (some ⟨w.heap.size, 0, none⟩) n n) (LSet.part (rivs z) n k)) ∧ Hid (w.heap.size + 1 ≤ wr.heap.size) ∧ Below w.heap.size w wr) (fun i _ => n - (intOf i).toNat)
    case atStart => exact ⟨0, Nat.zero_le _, rfl, HO, HGS, hb⟩
    case round =>
      clear hb HO HGS
      obtain ⟨i, hik, rfl, HO, HGS, hb⟩ := hrel
      by_cases hlt : i < n
      · have k0 : 0 ≤ (i : Int) := by omega
        have k1 : (i : Int) < (n : Int) := by omega
        have hx : i < z.length := by omega
        obtain ⟨b, o, c, x, y, s, he, hbl, hat, hI⟩ := hc.out i z[i] (List.getElem?_eq_getElem hx)
        simp only [Value.slice.injEq] at he
        obtain ⟨rfl, -, rfl⟩ := he
        obtain ⟨q0, q1, q2, q3, q4, q5⟩ := LProposalS.cells_hd (hat.below LProposalS.kit.row hb hbl)
        have HX := Lib.hid (List.getElem?_eq_getElem hx)
        have HFX := Lib.hid (HF.out _ (List.getElem_mem hx))
        have HIX := Lib.hid (is_ch (LProposal.Is.below hI hb))
        have HGX := Lib.hid (HGA.out _ (List.getElem_mem hx))
        have HQX := Lib.hid hI
        clear hat hI HIX
        generalize z[i] = X at *
        obtain ⟨wa, hwa⟩ : ∃ wa : World, wa = wr.alloc (Obj.cells #[.int .i64 X.id, .int .i64 X.kind, .int .i64 X.pos, .int .i64 X.count, .slice x y s, .int .i64 X.weight] 42) := ⟨_, rfl⟩
        have hba : Below wr.heap.size wr wa := by rw [hwa]; exact (Below.refl _ _).alloc (Nat.le_refl _) _
        have BX := Lib.hid (show Bx wa wr.heap.size 42 #[.int .i64 X.id, .int .i64 X.kind, .int .i64 X.pos, .int .i64 X.count, .slice x y s, .int .i64 X.weight] by rw [hwa]; exact Bx.new _ _ _)
        have hb2 := hb.trans (hba.mono hb.size)
        have HO1 := Lib.hid (show Own LSet.rec 90 wa w.heap.size (.slice (some ⟨w.heap.size, 0, none⟩) n n) (St z n i 0) by rw [st_zero z HN.out hlt]; exact HO.out.kept hba)
        have HG5 := Lib.hid (show w.heap.size < wr.heap.size from HGS.out)
        have HGA1 := Lib.hid (show w.heap.size + 1 ≤ wa.heap.size from Nat.le_trans HGS.out hba.size)
        go_upto_region 5 with fail
        rw [← hwa]
        clear hwa hba q0 q1 q2 q3 q4 q5 HO HGS hb
        generalize wr.heap.size = G5 at *
        go_wp2_with fail
        go_loopw [22] (fun j ws => ∃ m : Nat, m ≤ n ∧ j = .int .i64 m ∧ Hid (Own LSet.rec 90 ws w.heap.size (.slice (some ⟨w.heap.size, 0, none⟩) n n) (St z n i m)) ∧ Hid (Bx ws G5 42 #[.int .i64 X.id, .int .i64 X.kind, .int .i64 X.pos, .int .i64 X.count, .slice x y s, .int .i64 X.weight]) ∧ Hid (w.heap.size + 1 ≤ ws.heap.size) ∧ Below w.heap.size w ws) (fun j _ => n - (intOf j).toNat)
        case atStart => exact ⟨0, Nat.zero_le _, rfl, HO1, BX, HGA1, hb2⟩
        case round =>
          clear HO1 BX HGA1 hb2
          obtain ⟨m, hmk, rfl, HO, BX, HGS, hb⟩ := hrel
          by_cases hlm : m < n
          · have m0 : 0 ≤ (m : Int) := by omega
            have m1 : (m : Int) < (n : Int) := by omega
            have hxm : m < z.length := by omega
            obtain ⟨b', o', c', x2, y2, s2, he, hbl', hat, hI⟩ := hc.out m z[m] (List.getElem?_eq_getElem hxm)
            simp only [Value.slice.injEq, Option.some.injEq, Addr.mk.injEq, and_true] at he
            obtain ⟨⟨rfl, rfl⟩, -⟩ := he
            obtain ⟨q0, q1, q2, q3, q4, q5⟩ := LProposalS.cells_hd (hat.below LProposalS.kit.row hb hbl')
            have HXm := Lib.hid (List.getElem?_eq_getElem hxm)
            have HFm := Lib.hid (HF.out _ (List.getElem_mem hxm))
            have HGm := Lib.hid (HGA.out _ (List.getElem_mem hxm))
            have HQm := Lib.hid hI
            clear hat hI
            generalize z[m] = Y at *
            obtain ⟨wa, hwa⟩ : ∃ wa : World, wa = wr.alloc (Obj.cells #[.int .i64 Y.id, .int .i64 Y.kind, .int .i64 Y.pos, .int .i64 Y.count, .slice x2 y2 s2, .int .i64 Y.weight] 42) := ⟨_, rfl⟩
            have hba : Below wr.heap.size wr wa := by rw [hwa]; exact (Below.refl _ _).alloc (Nat.le_refl _) _
            have BY := Lib.hid (show Bx wa wr.heap.size 42 #[.int .i64 Y.id, .int .i64 Y.kind, .int .i64 Y.pos, .int .i64 Y.count, .slice x2 y2 s2, .int .i64 Y.weight] by rw [hwa]; exact Bx.new _ _ _)
            have hb2 := hb.trans (hba.mono hb.size)
            have HO2 := Lib.hid (HO.out.kept hba)
            have BX2 := Lib.hid (BX.out.kept hba)
            have HGS2 := Lib.hid (show w.heap.size + 1 ≤ wa.heap.size from Nat.le_trans HGS.out hba.size)
            go_upto_region 8 with fail
            rw [← hwa]
            clear hwa hba q0 q1 q2 q3 q4 q5 HO BX HGS hb
            generalize wr.heap.size = G7 at *
            have c1 := BX2.out.cell 1
            have c2 := BX2.out.cell 2
            have c3 := BX2.out.cell 3
            have c4 := BX2.out.cell 4
            simp only [List.getElem?_toArray, List.getElem?_cons_zero, List.getElem?_cons_succ] at c1 c2 c3 c4
            have d1 := BY.out.cell 1
            have d2 := BY.out.cell 2
            have d3 := BY.out.cell 3
            have d4 := BY.out.cell 4
            simp only [List.getElem?_toArray, List.getElem?_cons_zero, List.getElem?_cons_succ] at d1 d2 d3 d4
            cases cv : confB (ch X) (ch Y) with
            | false =>
              have HC := Lib.hid (conflict_as _ _ (ch X) (ch Y) false cv wa (is_ch (LProposal.Is.below HQX.out hb2)) (is_ch (LProposal.Is.below HQm.out hb2)) HFX.out HFm.out HGX.out HGm.out)
              have HR := Lib.hid (st_no z (n := n) (riv_no HX.out HXm.out cv))
              go_wp2_with fail
              refine HC.out.mono ?_
              rintro e w4 ⟨rfl, hb4⟩
              replace HO2 := Lib.hid (HO2.out.kept hb4)
              replace BX2 := Lib.hid (BX2.out.kept hb4)
              replace HGS2 := Lib.hid (Nat.le_trans HGS2.out hb4.size)
              replace hb2 := hb2.trans (hb4.mono hb2.size)
              clear hb4 c1 c2 c3 c4 d1 d2 d3 d4
              go_wp2_with fail
              go_roundw
              case rel => exact ⟨m + 1, by omega, by go_num, Lib.hid (HR.out ▸ HO2.out), BX2, HGS2, hb2⟩
              case measure => simp [intOf]; omega
            | true =>
              have HC := Lib.hid (conflict_as _ _ (ch X) (ch Y) true cv wa (is_ch (LProposal.Is.below HQX.out hb2)) (is_ch (LProposal.Is.below HQm.out hb2)) HFX.out HFm.out HGX.out HGm.out)
              by_cases him : i = m
              · have HR := Lib.hid (st_no z (n := n) (i := i) (j := m) (by rw [him]; exact riv_self z m))
                have e1 : ((i : Int) != (m : Int)) = false := by simp [him]
                clear him cv
                go_wp2_with fail
                refine HC.out.mono ?_
                rintro e w4 ⟨rfl, hb4⟩
                replace HO2 := Lib.hid (HO2.out.kept hb4)
                replace BX2 := Lib.hid (BX2.out.kept hb4)
                replace HGS2 := Lib.hid (Nat.le_trans HGS2.out hb4.size)
                replace hb2 := hb2.trans (hb4.mono hb2.size)
                clear hb4 c1 c2 c3 c4 d1 d2 d3 d4
                go_wp2_with fail
                go_roundw
                case rel => exact ⟨m + 1, by omega, by go_num, Lib.hid (HR.out ▸ HO2.out), BX2, HGS2, hb2⟩
                case measure => simp [intOf]; omega
              · have HR := Lib.hid (st_yes z (n := n) (show rivB z i m = true by rw [riv_conf HX.out HXm.out him]; exact cv))
                have e1 : ((i : Int) != (m : Int)) = true := bne_iff_ne.2 (by omega)
                clear him cv
                go_wp2_with fail
                refine HC.out.mono ?_
                rintro e w4 ⟨rfl, hb4⟩
                replace HO2 := Lib.hid (HO2.out.kept hb4)
                replace BX2 := Lib.hid (BX2.out.kept hb4)
                replace HGS2 := Lib.hid (Nat.le_trans HGS2.out hb4.size)
                replace hb2 := hb2.trans (hb4.mono hb2.size)
                clear hb4 c1 c2 c3 c4 d1 d2 d3 d4
                have HAt := st_at z HN.out hlt m
                have HL := Lib.hid (st_len z HN.out (Nat.le_of_lt hlt) m)
                have hA := mask_small (rivB z i) (show m ≤ 8 by omega)
                have hS := shl_one m (by omega)
                have hS2 : (1 <<< m : Nat) < 18446744073709551616 := by
                  rw [Nat.shiftLeft_eq, Nat.one_mul]
                  exact Nat.pow_lt_pow_right (a := 2) (n := 64) (by decide) (by omega)
                generalize mask (rivB z i) m = A at *
                have HPut := Lib.hid (LSet.putAll HL.out HO2.out i A (A ||| 1 <<< m) HAt)
                have hc1 := LSet.cells (Own.at_ HO2.out i A HAt)
                simp only [LSet.rec_n, Nat.mul_one] at hc1
                have hf : ∀ o, w4.frozen? ⟨w.heap.size, o, none⟩ = false := Own.frozen HL.out HO2.out
                have hor := bits_or_u64_nat A (1 <<< m) (by omega) hS2
                generalize (1 <<< m : Nat) = S at *
                have hmin : min m 64 = m := by omega
                have HBf := Lib.hid (show Bx (w4.setCell ⟨w.heap.size, i, none⟩ (.int .u64 ((A ||| S : Nat) : Int))) G5 42 #[.int .i64 X.id, .int .i64 X.kind, .int .i64 X.pos, .int .i64 X.count, .slice x y s, .int .i64 X.weight] from Bx.far (p := ⟨w.heap.size, i, none⟩) BX2.out (by have := HG5.out; show G5 ≠ w.heap.size; omega) _)
                have hb5 := hb2.setCell (p := ⟨w.heap.size, i, none⟩) (Nat.le_refl _) (.int .u64 ((A ||| S : Nat) : Int))
                have HGS3 := Lib.hid (show w.heap.size + 1 ≤ (w4.setCell ⟨w.heap.size, i, none⟩ (.int .u64 ((A ||| S : Nat) : Int))).heap.size by simpa using HGS2.out)
                clear HO2 BX2 hb2 HAt HGS2
                go_wp2_with fail
                refine wp_region_still_tail 8 (by kernel_rfl) (by kernel_rfl) ?_
                simp only [List.take_succ_cons, List.take_zero, List.drop_succ_cons, List.drop_zero]
                repeat still_step
                refine wpStill_nil ?_
                go_wp2_with fail
                go_roundw
                case rel => exact ⟨m + 1, by omega, by go_num, Lib.hid (HR.out ▸ Own.kept HPut.out ((Below.refl _ _).drew)), Lib.hid (HBf.out.kept ((Below.refl _ _).drew)), HGS3, hb5.drew⟩
                case measure => simp [intOf]; omega
          · obtain rfl : m = n := by omega
            have HE := Lib.hid (st_end z HN.out hlt)
            go_wp2_with fail
            go_roundw
            case rel => exact ⟨i + 1, by omega, by go_num, Lib.hid (HE.out ▸ HO.out), HGS, hb⟩
            case measure => simp [intOf]; omega
      · obtain rfl : i = n := by omega
        have HE := Lib.hid (show LSet.part (rivs z) i i = rivs z from LSet.part_all _ _ (by rw [rivs_len, HN.out]))
        go_wp2_with fail
        go_ret
        exact ⟨w.heap.size, rfl, Nat.le_refl _, HE.out ▸ HO.out, hb⟩
end Go.Proofs.YtclpdpfnlmfogaaDoor.CfR
