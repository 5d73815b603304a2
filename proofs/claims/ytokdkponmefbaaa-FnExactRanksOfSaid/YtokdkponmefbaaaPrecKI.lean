/- RanksOf, the program. No condition. -/
import Derived.Test.YtokdkponmefbaaaPrecKA
import Derived.Test.YtokdkponmefbaaaPrecOI
namespace Go.Proofs.Ytokdkponmefbaaa.PrecK
open Go.RowKit Bs Word PrecM PrecB PrecG PrecS PrecO IntF
set_option linter.unusedVariables false
set_option maxRecDepth 100000 in
set_option maxHeartbeats 3200000 in
theorem ranksI (v : Value) (r : LPrecedence.R) (w : World) (h : LPrecedence.Is w v r) :
    Calls Try.prog 27 #[v] w (KPost r w) := by
  have HIS := Lib.hid h
  obtain ⟨K, z⟩ := r
  obtain ⟨s, rfl, h⟩ := h
  obtain ⟨a, cp, rfl, h⟩ := h
  simp only at h ⊢
  have hc := h.at_ LIntA2.rec
  obtain ⟨n, hn⟩ : ∃ n, n = z.length := ⟨_, rfl⟩
  have hnb : n ≤ cp := by have := h.1; omega
  have h2 := h.2.1
  unfold maxLen at h2
  have HN := Lib.hid hn.symm
  rw [← hn]
  have hle : n ≤ z.length := by omega
  clear hn h
  have hb0 := (Below.refl w.heap.size w).alloc (Nat.le_refl _) (.cells #[.int .i64 K, .slice a n cp] 26)
  have HB0 := Lib.hid (Bx.new w 26 #[.int .i64 K, .slice a n cp])
  obtain ⟨i0, hi, hz0, hz1⟩ : ∃ i, Try.prog.info? 3 = some i ∧ i.zero = some (.int .i64 0) ∧ i.size = 1 := by
    have := LInt.info
    cases h' : Try.prog.info? 3 with
    | none => rw [h'] at this; cases this
    | some i => rw [h'] at this; simp only [Option.map_some, Option.some.injEq, Prod.mk.injEq] at this; exact ⟨i, rfl, this⟩
  have hz2 : i0.bytes ≤ 1000 := by
    have e : (Try.prog.info? 3).map (fun i => decide (i.bytes ≤ 1000)) = some true := by kernel_rfl
    rw [hi] at e
    simpa using e
  have HI := Lib.hid hi
  have HZ := Lib.hid (And.intro hz0 (And.intro hz1 hz2))
  clear hi hz0 hz1 hz2
  have hIs := Lib.hid (show LPrecedence.Is w (.agg #[.int .i64 K, .slice a n cp]) ⟨K, z⟩ by rw [← HN.out]; exact HIS.out)
  have HIE := Lib.hid (hIs.out.below hb0)
  have p0 := HB0.out.cell 0
  have p1 := HB0.out.cell 1
  simp only [List.getElem?_toArray, List.getElem?_cons_zero, List.getElem?_cons_succ] at p0 p1
  go_enter Try.func27, Try.ntmps27
  go_wp2_with fail
  refine (PrecO.orderI _ ⟨K, z⟩ _ HIE.out).mono ?_
  rintro e w1 ⟨vo, r0, r1, rfl, hans, hord, hb1⟩
  have hby := hb0.trans (hb1.mono hb0.size)
  have HB2 := Lib.hid (HB0.out.kept hb1)
  have HOr := Lib.hid (hord.low hb0.size)
  clear hb1 hb0 HB0 p0 p1 HIE HIS hIs hord
  cases hg : (goodB K z && soundB K z) with
  | false =>
    have HA := Lib.hid (k_bad (r := ⟨K, z⟩) hg)
    unfold PrecO.Ans at hans
    rw [o_bad (r := ⟨K, z⟩) hg] at hans
    simp only [Prod.mk.injEq] at hans
    obtain ⟨rfl, rfl⟩ := hans
    clear hg
    have HO := Lib.hid (Own.start (T := LInt.rec) (E := 3) (w := w1) hby.size)
    have hbz := hby.alloc hby.size (Obj.cells #[] 3)
    go_wp2_with fail
    go_ret2
    exact ⟨_, [], false, rfl, HA.out, HO.out, hbz⟩
  | true =>
    have HGG := Lib.hid hg
    rw [Bool.and_eq_true] at hg
    obtain ⟨k, rfl, hk1, hk8, hzl, hin, hin8⟩ := good_nat hg.1
    have HIn := Lib.hid hin
    have HSd := Lib.hid (sound_of hg.2)
    have HA := Lib.hid (k_good HGG.out)
    unfold PrecO.Ans at hans
    rw [o_good HGG.out] at hans
    simp only [Prod.mk.injEq] at hans
    obtain ⟨rfl, rfl⟩ := hans
    have hol : (ord z k).length = k := ord_len z k
    obtain ⟨go, co, rfl, hgo⟩ : ∃ go co, vo = .slice (some ⟨go, 0, none⟩) k co ∧ go < w1.heap.size ∧ k ≤ co ∧ co ≤ maxLen := by
      rcases HOr.out.shape with ⟨_, h⟩ | ⟨g, c, h, h1, h2, h3, h4⟩
      · rw [h] at hol; simp at hol; omega
      · rw [hol] at h h3
        exact ⟨g, c, h, h2, h3, h4⟩
    obtain ⟨hg1, hg2, hg3⟩ := hgo
    unfold maxLen at hg3
    clear hg hin hin8 hzl hol HGG
    have HGB := Lib.hid HB2.out.lt
    have p0 := HB2.out.cell 0
    have p1 := HB2.out.cell 1
    simp only [List.getElem?_toArray, List.getElem?_cons_zero, List.getElem?_cons_succ] at p0 p1
    go_wp2_with (at_make; refine wpList_make_full _ rfl (.tmp 20) (.tmp 20) 28 rfl w1.heap.size 3 i0 _ 1 Try.underlying28 HI.out HZ.out.1 HZ.out.2.1 .i64 .i64 _ _ k rfl rfl rfl rfl ?c1 ?c2 ?c3 ?c4)
    case c1 => exact Nat.le_trans (Nat.mul_le_mul HZ.out.2.2 (show k ≤ 1048576 by omega)) (show 1000 * 1048576 ≤ 281474976710656 by decide)
    case c2 => unfold maxLen; omega
    case c3 => exact Nat.le_refl _
    case c4 =>
      intro w3 hown hgrow
      have hb3 : Below w.heap.size w w3 := hby.grown hgrow hby.size (fun k hk => by cases hk)
      have HB3 := Lib.hid (show Bx w3 w.heap.size 26 #[.int .i64 k, .slice a n cp] from (hgrow.block _ HB2.out.lt (fun e => by cases e)).trans HB2.out)
      have HOr3 := Lib.hid (show LInt.OwnR w3 w.heap.size go k co (ord z k) from Own.same HOr.out (fun j hj => by
        simp only [Value.ownBlock, Option.some.injEq] at hj
        subst hj
        exact hgrow.block _ hg1 (fun e => by cases e)))
      have HO3 : Hid (LInt.OwnR w3 w1.heap.size w1.heap.size k k (List.replicate k 0)) := by
        have e := LInt.made_zero k
        show Own _ _ _ _ _ _
        unfold Own
        rw [List.length_replicate, show flat LInt.rec (List.replicate k (0 : Int)) = (madeCells (#[.int .i64 0] : Array Value) k).toList from e.symm]
        exact hown
      have HR0 := Lib.hid (top_zero (k := k) (z := z) (c := 0))
      clear hown hgrow HB2 p0 p1 hby HOr
      generalize w1.heap.size = g at *
      go_wp2_with fail
      go_loopw [24] (fun si wr => ∃ (s : Nat) (ys : List Int), s ≤ k ∧ si = .int .i64 s ∧ Hid (LInt.OwnR wr g g k k ys) ∧ Hid (Top k z (ord z s) 0 0 ys) ∧ Below w.heap.size w wr ∧ Hid (Bx wr w.heap.size 26 #[.int .i64 k, .slice a n cp]) ∧ Hid (LInt.OwnR wr w.heap.size go k co (ord z k))) (fun si _ => k - (intOf si).toNat)
      case atStart => exact ⟨0, _, Nat.zero_le _, rfl, HO3, HR0, hb3, HB3, HOr3⟩
      case round =>
        clear hb3 HB3 HO3 HR0 HOr3
        obtain ⟨s, ys, hs, rfl, HO, HR, hb, HBx, HOr⟩ := hrel
        have p0 := HBx.out.cell 0
        have p1 := HBx.out.cell 1
        simp only [List.getElem?_toArray, List.getElem?_cons_zero, List.getElem?_cons_succ] at p0 p1
        by_cases hlt : s < k
        · have cO := own_cell HOr.out (ord_at (z := z) hlt)
          have HRdy := Lib.hid (ord_ready HIn.out HSd.out hlt)
          have hck := (nxt_ok HIn.out HSd.out (xs := ord z s) (by rw [ord_len]; exact hlt)).1
          have HNx := Lib.hid (show ord z (s + 1) = ord z s ++ [((nxt z (ord z s) : Nat) : Int)] from rfl)
          generalize nxt z (ord z s) = c at *
          replace HR := Lib.hid (HR.out.any (d := (c : Int)))
          have k0 : 0 ≤ (s : Int) := by omega
          have k1 : (s : Int) < (k : Int) := by omega
          go_wp2_with fail
          clear p0 p1 cO
          go_loopw [31] (fun sj wr => ∃ (j : Nat) (ys : List Int), j ≤ n ∧ sj = .int .i64 j ∧ Hid (LInt.OwnR wr g g k k ys) ∧ Hid (Top k z (ord z s) (c : Int) j ys) ∧ Below w.heap.size w wr ∧ Hid (Bx wr w.heap.size 26 #[.int .i64 k, .slice a n cp]) ∧ Hid (LInt.OwnR wr w.heap.size go k co (ord z k))) (fun sj _ => n - (intOf sj).toNat)
          case atStart => exact ⟨0, ys, Nat.zero_le _, rfl, HO, HR, hb, HBx, HOr⟩
          case round =>
            clear HO HR hb HBx HOr
            obtain ⟨j, ys, hj, rfl, HO, HR, hb, HBx, HOr⟩ := hrel
            by_cases hjn : j < n
            · have hx : j < z.length := by omega
              obtain ⟨bb, oo, rfl, hbl, hcell0⟩ := hc.out j z[j] (List.getElem?_eq_getElem hx)
              obtain ⟨q0, q1⟩ := LIntA2.cells (hcell0.below LIntA2.rec hb hbl)
              simp only [LIntA2.rec_n] at q0 q1
              have HX0 := Lib.hid (List.getElem?_eq_getElem hx)
              have hin := HIn.out z[j] (List.getElem_mem hx)
              clear hcell0
              generalize z[j] = X at *
              obtain ⟨xa, xb⟩ := X
              obtain ⟨⟨i0', i1'⟩, j0', j1'⟩ := hin
              simp only at q0 q1 i0' i1' j0' j1'
              obtain ⟨xa, rfl⟩ : ∃ l : Nat, xa = l := ⟨xa.toNat, by omega⟩
              obtain ⟨xb, rfl⟩ : ∃ l : Nat, xb = l := ⟨xb.toNat, by omega⟩
              have HBX := Lib.hid (Bx.new wr 37 #[.int .i64 xa, .int .i64 xb])
              replace HO := Lib.hid (show LInt.OwnR _ g g k k ys from Own.alloc HO.out (Obj.cells #[.int .i64 xa, .int .i64 xb] 37))
              replace HOr := Lib.hid (show LInt.OwnR _ w.heap.size go k co (ord z k) from Own.alloc HOr.out (Obj.cells #[.int .i64 xa, .int .i64 xb] 37))
              replace HBx := Lib.hid (HBx.out.alloc (Obj.cells #[.int .i64 xa, .int .i64 xb] 37))
              replace hb := hb.alloc hb.size (Obj.cells #[.int .i64 xa, .int .i64 xb] 37)
              have k0 : 0 ≤ (j : Int) := by omega
              have k1 : (j : Int) < (n : Int) := by omega
              by_cases hac : xa = c
              · subst hac
                go_upto_region 12 with fail
                clear q0 q1
                have HGX := Lib.hid HBX.out.lt
                generalize hwq : wr.alloc (Obj.cells #[.int .i64 xa, .int .i64 xb] 37) = wq at *
                clear hwq
                generalize wr.heap.size = G at *
                have x0 := HBX.out.cell 0
                have x1 := HBX.out.cell 1
                simp only [List.getElem?_toArray, List.getElem?_cons_zero, List.getElem?_cons_succ] at x0 x1
                obtain ⟨va, hva⟩ := at_low HR.out.low (n := xa) (by omega)
                obtain ⟨vb, hvb⟩ := at_low HR.out.low (n := xb) (by omega)
                have HR2 := Lib.hid (HR.out.put HIn.out HSd.out HRdy.out.2 HX0.out hva hvb)
                have c1 := own_cell HO.out hva
                have c2 := own_cell HO.out hvb
                have hf := Own.frozen HR.out.low.len HO.out
                have hv8 := (HR.out.low.low xa va hva)
                have hv9 := rk_le HIn.out HSd.out (xa : Int)
                have s1 : IntKind.i64.wrap (va + 1) = va + 1 := IntWalk.i64_in _ (by omega)
                have HPut := Lib.hid (LInt.putAll HR.out.low.len HO.out xb vb (max vb (va + 1)) hvb)
                have HBp := Lib.hid (show Bx (wq.setCell ⟨g, xb, none⟩ (.int .i64 (max vb (va + 1)))) w.heap.size 26 #[.int .i64 k, .slice (some ⟨bb, oo, none⟩) n cp] from Bx.far (p := ⟨g, xb, none⟩) HBx.out (by have := HGB.out; show w.heap.size ≠ g; omega) _)
                have HOr2 := Lib.hid (show LInt.OwnR (wq.setCell ⟨g, xb, none⟩ (.int .i64 (max vb (va + 1)))) w.heap.size go k co (ord z k) from own_set (p := ⟨g, xb, none⟩) HOr.out (fun q hq => by simp only [Value.ownBlock, Option.some.injEq] at hq; show q ≠ g; omega) _)
                have hb4 := hb.setCell (p := ⟨g, xb, none⟩) (by have := HGB.out; show w.heap.size ≤ g; omega) (.int .i64 (max vb (va + 1)))
                have a1 : (xa : Int) < (k : Int) := by omega
                have a2 : (xb : Int) < (k : Int) := by omega
                have HMX : max vb (va + 1) = if vb < va + 1 then va + 1 else vb := by split <;> omega
                rw [HMX] at HPut HBp HOr2 hb4 HR2
                clear HMX hv8 hv9 hva hvb HR HO hb HBx HX0 HOr
                refine wp_region_still_tail 15 (by kernel_rfl) (by kernel_rfl) ?_
                simp only [List.take_succ_cons, List.take_zero, List.drop_succ_cons, List.drop_zero]
                repeat still_step
                refine wpStill_nil ?_
                go_wp2_with fail
                go_roundw
                case rel => exact ⟨j + 1, _, by omega, by go_num, HPut, HR2, hb4.drew, HBp, HOr2⟩
                case measure => simp [intOf]; omega
              · have e1 : ((xa : Int) == (c : Int)) = false := by simp; omega
                have HR2 := Lib.hid (HR.out.other HX0.out (by simp only; omega))
                go_wp2_with fail
                go_roundw
                case rel => exact ⟨j + 1, ys, by omega, by go_num, HO, HR2, hb, HBx, HOr⟩
                case measure => simp [intOf]; omega
            · have HR2 := Lib.hid (show Top k z (ord z (s + 1)) 0 0 ys by rw [HNx.out]; exact HR.out.step (show z.length ≤ j by have := HN.out; omega))
              go_wp2_with fail
              go_roundw
              case rel => exact ⟨s + 1, ys, by omega, by go_num, HO, HR2, hb, HBx, HOr⟩
              case measure => simp [intOf]; omega
        · obtain rfl : s = k := by omega
          have HE := Lib.hid (HR.out.done HIn.out HSd.out (fun n hn => ord_all HIn.out HSd.out hn))
          have HO2 := Lib.hid (show Own LInt.rec 3 wr w.heap.size (.slice (some ⟨g, 0, none⟩) s s) (ranks s z) by rw [← HE.out]; exact HO.out.low (by have := HGB.out; omega))
          go_wp2_with fail
          go_ret2
          exact ⟨_, _, true, rfl, HA.out, HO2.out, hb⟩
end Go.Proofs.Ytokdkponmefbaaa.PrecK
