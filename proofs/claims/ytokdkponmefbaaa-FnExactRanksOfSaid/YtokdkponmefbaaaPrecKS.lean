/- RanksOf, the model. No condition. -/
import Derived.Test.YtokdkponmefbaaaPrecKA
namespace Go.Proofs.Ytokdkponmefbaaa.PrecK
open Go.RowKit Bs Word PrecM PrecB PrecG PrecS PrecO IntF
set_option linter.unusedVariables false
set_option maxRecDepth 100000 in
set_option maxHeartbeats 3200000 in
theorem ranksS (v : Value) (r : LPrecedence.R) (w : World) (h : LPrecedence.Is w v r) :
    Calls Try.prog 28 #[v] w (KPost r w) := by
  have HIS := Lib.hid h
  obtain ⟨K, z⟩ := r
  obtain ⟨s, rfl, h⟩ := h
  obtain ⟨a, cp, rfl, h⟩ := h
  simp only at h ⊢
  have hc := h.at_ LIntA2.rec
  obtain ⟨n, hn⟩ : ∃ n, n = z.length := ⟨_, rfl⟩
  have hnb : n ≤ cp := by have := h.1; omega
  have h2 := h.2.1
  unfold maxLen at h2
  have HN := Lib.hid hn.symm
  rw [← hn]
  have hle : n ≤ z.length := by omega
  clear hn h
  have hb0 := (Below.refl w.heap.size w).alloc (Nat.le_refl _) (.cells #[.int .i64 K, .slice a n cp] 26)
  have HB0 := Lib.hid (Bx.new w 26 #[.int .i64 K, .slice a n cp])
  obtain ⟨i0, hi, hz0, hz1⟩ : ∃ i, Try.prog.info? 3 = some i ∧ i.zero = some (.int .i64 0) ∧ i.size = 1 := by
    have := LInt.info
    cases h' : Try.prog.info? 3 with
    | none => rw [h'] at this; cases this
    | some i => rw [h'] at this; simp only [Option.map_some, Option.some.injEq, Prod.mk.injEq] at this; exact ⟨i, rfl, this⟩
  have hz2 : i0.bytes ≤ 1000 := by
    have e : (Try.prog.info? 3).map (fun i => decide (i.bytes ≤ 1000)) = some true := by kernel_rfl
    rw [hi] at e
    simpa using e
  have HI := Lib.hid hi
  have HZ := Lib.hid (And.intro hz0 (And.intro hz1 hz2))
  clear hi hz0 hz1 hz2
  have hIs := Lib.hid (show LPrecedence.Is w (.agg #[.int .i64 K, .slice a n cp]) ⟨K, z⟩ by rw [← HN.out]; exact HIS.out)
  have HIE := Lib.hid (hIs.out.below hb0)
  have p0 := HB0.out.cell 0
  have p1 := HB0.out.cell 1
  simp only [List.getElem?_toArray, List.getElem?_cons_zero, List.getElem?_cons_succ] at p0 p1
  go_enter Try.func28, Try.ntmps28
  go_wp2_with fail
  refine (PrecG.l4Good _ ⟨K, z⟩ _ HIE.out).mono ?_
  rintro e w1 ⟨rfl, hb1⟩
  have hbx := hb0.trans (hb1.mono hb0.size)
  have HB1 := Lib.hid (HB0.out.kept hb1)
  have HI1 := Lib.hid (HIE.out.below hb1)
  clear hb1 hb0 HB0 p0 p1 HIE HIS hIs
  simp only
  cases hg : goodB K z with
  | false =>
    have HA := Lib.hid (k_bad (r := ⟨K, z⟩) (by rw [hg]; rfl))
    clear hg
    have HO := Lib.hid (Own.start (T := LInt.rec) (E := 3) (w := w1) hbx.size)
    have hbz := hbx.alloc hbx.size (Obj.cells #[] 3)
    go_wp2_with fail
    go_ret2
    exact ⟨_, [], false, rfl, HA.out, HO.out, hbz⟩
  | true =>
    obtain ⟨k, rfl, hk1, hk8, hzl, hin, hin8⟩ := good_nat hg
    have HG := Lib.hid hg
    have HIn := Lib.hid hin
    clear hg hin hin8 hzl
    have p0 := HB1.out.cell 0
    have p1 := HB1.out.cell 1
    simp only [List.getElem?_toArray, List.getElem?_cons_zero, List.getElem?_cons_succ] at p0 p1
    go_wp2_with fail
    refine (PrecR.l4Sound _ ⟨(k : Int), z⟩ k _ HI1.out rfl HIn.out hk8).mono ?_
    rintro e w2 ⟨rfl, hb2⟩
    have hby := hbx.trans (hb2.mono hbx.size)
    have HB2 := Lib.hid (HB1.out.kept hb2)
    clear hb2 hbx HB1 p0 p1 HI1
    simp only
    cases hs : soundB (k : Int) z with
    | false =>
      have HA := Lib.hid (k_bad (r := ⟨(k : Int), z⟩) (by simp only; rw [hs, Bool.and_false]))
      clear hs
      have HO := Lib.hid (Own.start (T := LInt.rec) (E := 3) (w := w2) hby.size)
      have hbz := hby.alloc hby.size (Obj.cells #[] 3)
      go_wp2_with fail
      go_ret2
      exact ⟨_, [], false, rfl, HA.out, HO.out, hbz⟩
    | true =>
      have HA := Lib.hid (k_good (z := z) (k := k) (by rw [HG.out, hs]; rfl))
      have HSd := Lib.hid (sound_of hs)
      have HGB := Lib.hid HB2.out.lt
      clear hs
      have p0 := HB2.out.cell 0
      have p1 := HB2.out.cell 1
      simp only [List.getElem?_toArray, List.getElem?_cons_zero, List.getElem?_cons_succ] at p0 p1
      go_wp2_with (at_make; refine wpList_make_full _ rfl (.tmp 19) (.tmp 19) 28 rfl w2.heap.size 3 i0 _ 1 Try.underlying28 HI.out HZ.out.1 HZ.out.2.1 .i64 .i64 _ _ k rfl rfl rfl rfl ?c1 ?c2 ?c3 ?c4)
      case c1 => exact Nat.le_trans (Nat.mul_le_mul HZ.out.2.2 (show k ≤ 1048576 by omega)) (show 1000 * 1048576 ≤ 281474976710656 by decide)
      case c2 => unfold maxLen; omega
      case c3 => exact Nat.le_refl _
      case c4 =>
        intro w3 hown hgrow
        have hb3 : Below w.heap.size w w3 := hby.grown hgrow hby.size (fun k hk => by cases hk)
        have HB3 := Lib.hid (show Bx w3 w.heap.size 26 #[.int .i64 k, .slice a n cp] from (hgrow.block _ HB2.out.lt (fun e => by cases e)).trans HB2.out)
        have HO3 : Hid (LInt.OwnR w3 w2.heap.size w2.heap.size k k (List.replicate k 0)) := by
          have e := LInt.made_zero k
          show Own _ _ _ _ _ _
          unfold Own
          rw [List.length_replicate, show flat LInt.rec (List.replicate k (0 : Int)) = (madeCells (#[.int .i64 0] : Array Value) k).toList from e.symm]
          exact hown
        have HR0 := Lib.hid (rnd_zero (k := k) (z := z))
        clear hown hgrow HB2 p0 p1 hby
        generalize w2.heap.size = g at *
        go_wp2_with fail
        go_loopw [5] (fun si wr => ∃ (s : Nat) (ys : List Int), s ≤ k ∧ si = .int .i64 s ∧ Hid (LInt.OwnR wr g g k k ys) ∧ Hid (Rnd k z s 0 ys) ∧ Below w.heap.size w wr ∧ Hid (Bx wr w.heap.size 26 #[.int .i64 k, .slice a n cp])) (fun si _ => k - (intOf si).toNat)
        case atStart => exact ⟨0, _, Nat.zero_le _, rfl, HO3, HR0, hb3, HB3⟩
        case round =>
          clear hb3 HB3 HO3 HR0
          obtain ⟨s, ys, hs, rfl, HO, HR, hb, HBx⟩ := hrel
          have p0 := HBx.out.cell 0
          have p1 := HBx.out.cell 1
          simp only [List.getElem?_toArray, List.getElem?_cons_zero, List.getElem?_cons_succ] at p0 p1
          by_cases hlt : s < k
          · go_wp2_with fail
            clear p0 p1
            go_loopw [6] (fun sj wr => ∃ (j : Nat) (ys : List Int), j ≤ n ∧ sj = .int .i64 j ∧ Hid (LInt.OwnR wr g g k k ys) ∧ Hid (Rnd k z s j ys) ∧ Below w.heap.size w wr ∧ Hid (Bx wr w.heap.size 26 #[.int .i64 k, .slice a n cp])) (fun sj _ => n - (intOf sj).toNat)
            case atStart => exact ⟨0, ys, Nat.zero_le _, rfl, HO, HR, hb, HBx⟩
            case round =>
              clear HO HR hb HBx
              obtain ⟨j, ys, hj, rfl, HO, HR, hb, HBx⟩ := hrel
              have p0 := HBx.out.cell 0
              have p1 := HBx.out.cell 1
              simp only [List.getElem?_toArray, List.getElem?_cons_zero, List.getElem?_cons_succ] at p0 p1
              by_cases hjn : j < n
              · have hx : j < z.length := by omega
                obtain ⟨bb, oo, rfl, hbl, hcell0⟩ := hc.out j z[j] (List.getElem?_eq_getElem hx)
                obtain ⟨q0, q1⟩ := LIntA2.cells (hcell0.below LIntA2.rec hb hbl)
                simp only [LIntA2.rec_n] at q0 q1
                have HX0 := Lib.hid (List.getElem?_eq_getElem hx)
                have hin := HIn.out z[j] (List.getElem_mem hx)
                clear hcell0
                generalize z[j] = X at *
                obtain ⟨xa, xb⟩ := X
                obtain ⟨⟨i0', i1'⟩, j0', j1'⟩ := hin
                simp only at q0 q1 i0' i1' j0' j1'
                obtain ⟨xa, rfl⟩ : ∃ l : Nat, xa = l := ⟨xa.toNat, by omega⟩
                obtain ⟨xb, rfl⟩ : ∃ l : Nat, xb = l := ⟨xb.toNat, by omega⟩
                obtain ⟨va, hva⟩ := at_low HR.out.low (n := xa) (by omega)
                obtain ⟨vb, hvb⟩ := at_low HR.out.low (n := xb) (by omega)
                have k0 : 0 ≤ (j : Int) := by omega
                have k1 : (j : Int) < (n : Int) := by omega
                have HVA := Lib.hid hva
                have HVB := Lib.hid hvb
                clear hva hvb
                go_wp2_with fail
                go_quiet (fail)
                go_wp2_with fail
                have hdr := drawn_below wr nq
                replace HO := Lib.hid (Own.kept HO.out hdr)
                replace hb := hb.trans (hdr.mono hb.size)
                replace HBx := Lib.hid (HBx.out.kept hdr)
                clear hdr q0 q1 p0 p1
                generalize wr.drewN nq = wr at *
                have hva := HVA.out
                have hvb := HVB.out
                have HR2 := Lib.hid (HR.out.put HIn.out HSd.out HX0.out hva hvb)
                have c1 := own_cell HO.out hva
                have c2 := own_cell HO.out hvb
                have hf := Own.frozen HR.out.low.len HO.out
                have hv8 := (HR.out.low.low xa va hva)
                have hv9 := rk_le HIn.out HSd.out (xa : Int)
                have s1 : IntKind.i64.wrap (va + 1) = va + 1 := IntWalk.i64_in _ (by omega)
                have HPut := Lib.hid (LInt.putAll HR.out.low.len HO.out xb vb (max vb (va + 1)) hvb)
                have HBp := Lib.hid (show Bx (wr.setCell ⟨g, xb, none⟩ (.int .i64 (max vb (va + 1)))) w.heap.size 26 #[.int .i64 k, .slice (some ⟨bb, oo, none⟩) n cp] from Bx.far (p := ⟨g, xb, none⟩) HBx.out (by have := HGB.out; show w.heap.size ≠ g; omega) _)
                have hb4 := hb.setCell (p := ⟨g, xb, none⟩) (by have := HGB.out; show w.heap.size ≤ g; omega) (.int .i64 (max vb (va + 1)))
                have hcl := fun X Y W => most X Y W
                have HMo := Lib.hid hcl
                have a1 : (xa : Int) < (k : Int) := by omega
                have a2 : (xb : Int) < (k : Int) := by omega
                clear hv8 hv9 hva hvb HR HO hb HBx hcl HX0
                refine wp_region_still_tail 13 (by kernel_rfl) (by kernel_rfl) ?_
                simp only [List.take_succ_cons, List.take_zero, List.drop_succ_cons, List.drop_zero]
                repeat still_step
                still_call (HMo.out _ _ _)
                repeat still_step
                refine wpStill_nil ?_
                generalize max vb (va + 1) = vm at *
                go_wp2_with fail
                go_roundw
                case rel => exact ⟨j + 1, _, by omega, by go_num, HPut, HR2, hb4.drew, HBp⟩
                case measure => simp [intOf]; omega
              · have HR2 := Lib.hid (HR.out.step HIn.out HSd.out (show z.length ≤ j by have := HN.out; omega))
                go_wp2_with fail
                go_roundw
                case rel => exact ⟨s + 1, ys, by omega, by go_num, HO, HR2, hb, HBx⟩
                case measure => simp [intOf]; omega
          · have HE := Lib.hid (HR.out.done HIn.out HSd.out (show k ≤ s by omega))
            have HO2 := Lib.hid (show Own LInt.rec 3 wr w.heap.size (.slice (some ⟨g, 0, none⟩) k k) (ranks k z) by rw [← HE.out]; exact HO.out.low (by have := HGB.out; omega))
            go_wp2_with fail
            go_ret2
            exact ⟨_, _, true, rfl, HA.out, HO2.out, hb⟩
end Go.Proofs.Ytokdkponmefbaaa.PrecK
