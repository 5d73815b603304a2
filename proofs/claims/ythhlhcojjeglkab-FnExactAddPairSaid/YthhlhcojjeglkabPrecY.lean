/- Precedences: the program's table of which kinds yield to which. No condition but that the kinds are below 8. -/
import Derived.Test.YthhlhcojjeglkabPrecB
import Derived.Test.YthhlhcojjeglkabTab
import Derived.StillTailTactics
namespace Go.Proofs.Ythhlhcojjeglkab.PrecY
open Go.RowKit Bs Word PrecM PrecB
set_option linter.unusedVariables false
theorem tab_zero : (#[.bool false, .bool false, .bool false, .bool false, .bool false, .bool false, .bool false, .bool false, .bool false, .bool false, .bool false, .bool false, .bool false, .bool false, .bool false, .bool false, .bool false, .bool false, .bool false, .bool false, .bool false, .bool false, .bool false, .bool false, .bool false, .bool false, .bool false, .bool false, .bool false, .bool false, .bool false, .bool false, .bool false, .bool false, .bool false, .bool false, .bool false, .bool false, .bool false, .bool false, .bool false, .bool false, .bool false, .bool false, .bool false, .bool false, .bool false, .bool false, .bool false, .bool false, .bool false, .bool false, .bool false, .bool false, .bool false, .bool false, .bool false, .bool false, .bool false, .bool false, .bool false, .bool false, .bool false, .bool false] : Array Value) = tab (fun _ _ => false) := by rfl
theorem tab_put (f : Nat → Nat → Bool) (l h : Nat) (hl : l < 8) (hh : h < 8) : (tab f).setIfInBounds (l * 8 + h) (.bool true) = tab (put f l h) := tab_set f _ l h true hl hh (fun _ _ => rfl)
theorem infoT : (Try.prog.info? 66).map (·.size) = some 64 := by kernel_rfl
/-- the box of the table, while the call runs -/
def Bt (w : World) (G : Nat) (f : Nat → Nat → Bool) : Prop := Bx w G 66 (tab f)
theorem Bt.cell {w : World} {G : Nat} {f : Nat → Nat → Bool} (h : Bt w G f) (l k : Nat) (hl : l < 8) (hk : k < 8) : w.cell? ⟨G, l * 8 + k, none⟩ = some (.bool (f l k)) := (Bx.cell h _).trans (tab_get f l k hl hk)
theorem Bt.put_ {w : World} {G : Nat} {f : Nat → Nat → Bool} (h : Bt w G f) (l k : Nat) (hl : l < 8) (hk : k < 8) : Bt (w.setCell ⟨G, l * 8 + k, none⟩ (.bool true)) G (put f l k) := by
  have := Bx.set_ h (l * 8 + k) (.bool true)
  rw [tab_put f l k hl hk] at this
  exact this
set_option maxRecDepth 100000 in
set_option maxHeartbeats 3200000 in
theorem yieldingBy (v : Value) (z : List M) (w : World) (h : Is LIntA2.rec w v z) (hz : In 8 z) :
    Calls Try.prog 43 #[v] w fun e w' => ∃ f, e = .returned (.agg (tab f)) ∧ (∀ l k : Nat, l < 8 → k < 8 → f l k = yieldsB z l k) ∧ Below w.heap.size w w' := by
  obtain ⟨a, cp, rfl, h⟩ := h
  have hc := h.at_ LIntA2.rec
  obtain ⟨n, hn⟩ : ∃ n, n = z.length := ⟨_, rfl⟩
  have hnb : n ≤ cp := by have := h.1; omega
  have h2 := h.2.1
  unfold maxLen at h2
  have HN := Lib.hid hn.symm
  have HIn := Lib.hid hz
  rw [← hn]
  have hle : n ≤ z.length := by omega
  clear hn h hz
  have hb0 := ((Below.refl w.heap.size w).alloc (Nat.le_refl _) (.cells #[.bool false, .bool false, .bool false, .bool false, .bool false, .bool false, .bool false, .bool false, .bool false, .bool false, .bool false, .bool false, .bool false, .bool false, .bool false, .bool false, .bool false, .bool false, .bool false, .bool false, .bool false, .bool false, .bool false, .bool false, .bool false, .bool false, .bool false, .bool false, .bool false, .bool false, .bool false, .bool false, .bool false, .bool false, .bool false, .bool false, .bool false, .bool false, .bool false, .bool false, .bool false, .bool false, .bool false, .bool false, .bool false, .bool false, .bool false, .bool false, .bool false, .bool false, .bool false, .bool false, .bool false, .bool false, .bool false, .bool false, .bool false, .bool false, .bool false, .bool false, .bool false, .bool false, .bool false, .bool false] 66)).alloc (by simp) (.cells #[.bool false, .bool false, .bool false, .bool false, .bool false, .bool false, .bool false, .bool false, .bool false, .bool false, .bool false, .bool false, .bool false, .bool false, .bool false, .bool false, .bool false, .bool false, .bool false, .bool false, .bool false, .bool false, .bool false, .bool false, .bool false, .bool false, .bool false, .bool false, .bool false, .bool false, .bool false, .bool false, .bool false, .bool false, .bool false, .bool false, .bool false, .bool false, .bool false, .bool false, .bool false, .bool false, .bool false, .bool false, .bool false, .bool false, .bool false, .bool false, .bool false, .bool false, .bool false, .bool false, .bool false, .bool false, .bool false, .bool false, .bool false, .bool false, .bool false, .bool false, .bool false, .bool false, .bool false, .bool false] 66)
  have HR0 := Lib.hid (show Bt ((w.alloc (.cells #[.bool false, .bool false, .bool false, .bool false, .bool false, .bool false, .bool false, .bool false, .bool false, .bool false, .bool false, .bool false, .bool false, .bool false, .bool false, .bool false, .bool false, .bool false, .bool false, .bool false, .bool false, .bool false, .bool false, .bool false, .bool false, .bool false, .bool false, .bool false, .bool false, .bool false, .bool false, .bool false, .bool false, .bool false, .bool false, .bool false, .bool false, .bool false, .bool false, .bool false, .bool false, .bool false, .bool false, .bool false, .bool false, .bool false, .bool false, .bool false, .bool false, .bool false, .bool false, .bool false, .bool false, .bool false, .bool false, .bool false, .bool false, .bool false, .bool false, .bool false, .bool false, .bool false, .bool false, .bool false] 66)).alloc (.cells #[.bool false, .bool false, .bool false, .bool false, .bool false, .bool false, .bool false, .bool false, .bool false, .bool false, .bool false, .bool false, .bool false, .bool false, .bool false, .bool false, .bool false, .bool false, .bool false, .bool false, .bool false, .bool false, .bool false, .bool false, .bool false, .bool false, .bool false, .bool false, .bool false, .bool false, .bool false, .bool false, .bool false, .bool false, .bool false, .bool false, .bool false, .bool false, .bool false, .bool false, .bool false, .bool false, .bool false, .bool false, .bool false, .bool false, .bool false, .bool false, .bool false, .bool false, .bool false, .bool false, .bool false, .bool false, .bool false, .bool false, .bool false, .bool false, .bool false, .bool false, .bool false, .bool false, .bool false, .bool false] 66)) w.heap.size (fun _ _ => false) from (Bx.new w _ _).alloc _)
  have HT0 := Lib.hid (show Bt ((w.alloc (.cells #[.bool false, .bool false, .bool false, .bool false, .bool false, .bool false, .bool false, .bool false, .bool false, .bool false, .bool false, .bool false, .bool false, .bool false, .bool false, .bool false, .bool false, .bool false, .bool false, .bool false, .bool false, .bool false, .bool false, .bool false, .bool false, .bool false, .bool false, .bool false, .bool false, .bool false, .bool false, .bool false, .bool false, .bool false, .bool false, .bool false, .bool false, .bool false, .bool false, .bool false, .bool false, .bool false, .bool false, .bool false, .bool false, .bool false, .bool false, .bool false, .bool false, .bool false, .bool false, .bool false, .bool false, .bool false, .bool false, .bool false, .bool false, .bool false, .bool false, .bool false, .bool false, .bool false, .bool false, .bool false] 66)).alloc (.cells #[.bool false, .bool false, .bool false, .bool false, .bool false, .bool false, .bool false, .bool false, .bool false, .bool false, .bool false, .bool false, .bool false, .bool false, .bool false, .bool false, .bool false, .bool false, .bool false, .bool false, .bool false, .bool false, .bool false, .bool false, .bool false, .bool false, .bool false, .bool false, .bool false, .bool false, .bool false, .bool false, .bool false, .bool false, .bool false, .bool false, .bool false, .bool false, .bool false, .bool false, .bool false, .bool false, .bool false, .bool false, .bool false, .bool false, .bool false, .bool false, .bool false, .bool false, .bool false, .bool false, .bool false, .bool false, .bool false, .bool false, .bool false, .bool false, .bool false, .bool false, .bool false, .bool false, .bool false, .bool false] 66)) (w.heap.size + 1) (fun _ _ => false) by
    have h := Bx.new (w.alloc (.cells #[.bool false, .bool false, .bool false, .bool false, .bool false, .bool false, .bool false, .bool false, .bool false, .bool false, .bool false, .bool false, .bool false, .bool false, .bool false, .bool false, .bool false, .bool false, .bool false, .bool false, .bool false, .bool false, .bool false, .bool false, .bool false, .bool false, .bool false, .bool false, .bool false, .bool false, .bool false, .bool false, .bool false, .bool false, .bool false, .bool false, .bool false, .bool false, .bool false, .bool false, .bool false, .bool false, .bool false, .bool false, .bool false, .bool false, .bool false, .bool false, .bool false, .bool false, .bool false, .bool false, .bool false, .bool false, .bool false, .bool false, .bool false, .bool false, .bool false, .bool false, .bool false, .bool false, .bool false, .bool false] 66)) 66 #[.bool false, .bool false, .bool false, .bool false, .bool false, .bool false, .bool false, .bool false, .bool false, .bool false, .bool false, .bool false, .bool false, .bool false, .bool false, .bool false, .bool false, .bool false, .bool false, .bool false, .bool false, .bool false, .bool false, .bool false, .bool false, .bool false, .bool false, .bool false, .bool false, .bool false, .bool false, .bool false, .bool false, .bool false, .bool false, .bool false, .bool false, .bool false, .bool false, .bool false, .bool false, .bool false, .bool false, .bool false, .bool false, .bool false, .bool false, .bool false, .bool false, .bool false, .bool false, .bool false, .bool false, .bool false, .bool false, .bool false, .bool false, .bool false, .bool false, .bool false, .bool false, .bool false, .bool false, .bool false]
    rw [show (w.alloc (.cells #[.bool false, .bool false, .bool false, .bool false, .bool false, .bool false, .bool false, .bool false, .bool false, .bool false, .bool false, .bool false, .bool false, .bool false, .bool false, .bool false, .bool false, .bool false, .bool false, .bool false, .bool false, .bool false, .bool false, .bool false, .bool false, .bool false, .bool false, .bool false, .bool false, .bool false, .bool false, .bool false, .bool false, .bool false, .bool false, .bool false, .bool false, .bool false, .bool false, .bool false, .bool false, .bool false, .bool false, .bool false, .bool false, .bool false, .bool false, .bool false, .bool false, .bool false, .bool false, .bool false, .bool false, .bool false, .bool false, .bool false, .bool false, .bool false, .bool false, .bool false, .bool false, .bool false, .bool false, .bool false] 66)).heap.size = w.heap.size + 1 from by simp] at h
    exact h)
  go_enter Try.func43, Try.ntmps43
  go_wp2_with fail
  generalize (w.alloc (.cells #[.bool false, .bool false, .bool false, .bool false, .bool false, .bool false, .bool false, .bool false, .bool false, .bool false, .bool false, .bool false, .bool false, .bool false, .bool false, .bool false, .bool false, .bool false, .bool false, .bool false, .bool false, .bool false, .bool false, .bool false, .bool false, .bool false, .bool false, .bool false, .bool false, .bool false, .bool false, .bool false, .bool false, .bool false, .bool false, .bool false, .bool false, .bool false, .bool false, .bool false, .bool false, .bool false, .bool false, .bool false, .bool false, .bool false, .bool false, .bool false, .bool false, .bool false, .bool false, .bool false, .bool false, .bool false, .bool false, .bool false, .bool false, .bool false, .bool false, .bool false, .bool false, .bool false, .bool false, .bool false] 66)).alloc (.cells #[.bool false, .bool false, .bool false, .bool false, .bool false, .bool false, .bool false, .bool false, .bool false, .bool false, .bool false, .bool false, .bool false, .bool false, .bool false, .bool false, .bool false, .bool false, .bool false, .bool false, .bool false, .bool false, .bool false, .bool false, .bool false, .bool false, .bool false, .bool false, .bool false, .bool false, .bool false, .bool false, .bool false, .bool false, .bool false, .bool false, .bool false, .bool false, .bool false, .bool false, .bool false, .bool false, .bool false, .bool false, .bool false, .bool false, .bool false, .bool false, .bool false, .bool false, .bool false, .bool false, .bool false, .bool false, .bool false, .bool false, .bool false, .bool false, .bool false, .bool false, .bool false, .bool false, .bool false, .bool false] 66) = wq at *
  go_loopw [11] (fun i wr => ∃ (k : Nat) (f : Nat → Nat → Bool), k ≤ n ∧ i = .int .i64 k ∧ Below w.heap.size w wr ∧ Hid (Bt wr w.heap.size (fun _ _ => false)) ∧ Hid (Bt wr (w.heap.size + 1) f) ∧ Hid (Pairs z k f)) (fun i _ => n - (intOf i).toNat)
  case atStart => exact ⟨0, _, Nat.zero_le _, rfl, hb0, HR0, HT0, Lib.hid pairs_zero⟩
  case round =>
    clear hb0 HR0 HT0
    obtain ⟨k, f, hk, rfl, hb, HR, HT, HP⟩ := hrel
    by_cases hlt : k < n
    · have hx : k < z.length := by omega
      obtain ⟨b, o, rfl, hbl, hcell0⟩ := hc.out k z[k] (List.getElem?_eq_getElem hx)
      obtain ⟨q0, q1⟩ := LIntA2.cells (hcell0.below LIntA2.rec hb hbl)
      simp only [LIntA2.rec_n] at q0 q1
      have HX := Lib.hid (List.getElem?_eq_getElem hx)
      have hin := HIn.out z[k] (List.getElem_mem hx)
      clear hcell0
      generalize z[k] = X at *
      obtain ⟨xa, xb⟩ := X
      obtain ⟨⟨i0, i1⟩, j0, j1⟩ := hin
      simp only at q0 q1 i0 i1 j0 j1
      obtain ⟨l, rfl⟩ : ∃ l : Nat, xa = l := ⟨xa.toNat, by omega⟩
      obtain ⟨h, rfl⟩ : ∃ h : Nat, xb = h := ⟨xb.toNat, by omega⟩
      have hl8 : l < 8 := by omega
      have hh8 : h < 8 := by omega
      have HBX := Lib.hid (Bx.new wr 48 #[.int .i64 l, .int .i64 h])
      replace HR := Lib.hid (show Bt _ _ _ from Bx.alloc HR.out (Obj.cells #[.int .i64 l, .int .i64 h] 48))
      replace HT := Lib.hid (show Bt _ _ _ from Bx.alloc HT.out (Obj.cells #[.int .i64 l, .int .i64 h] 48))
      replace hb := hb.alloc hb.size (Obj.cells #[.int .i64 l, .int .i64 h] 48)
      go_upto_region 5 with fail
      clear q0 q1
      generalize wr.alloc (Obj.cells #[.int .i64 l, .int .i64 h] 48) = wq2 at *
      generalize wr.heap.size = G at *
      have x0 := HBX.out.cell 0
      have x1 := HBX.out.cell 1
      simp only [List.getElem?_toArray, List.getElem?_cons_zero, List.getElem?_cons_succ] at x0 x1
      have c1 := HT.out.cell l h hl8 hh8
      have f1 := Bx.frozen HT.out (l * 8 + h)
      have HR2 := Lib.hid (show Bt (wq2.setCell ⟨w.heap.size + 1, l * 8 + h, none⟩ (.bool true)) w.heap.size (fun _ _ => false) from Bx.far HR.out (by simp) _)
      have HT2 := Lib.hid (HT.out.put_ l h hl8 hh8)
      have HP2 := Lib.hid (pairs_next HP.out HX.out rfl rfl)
      have hb2 := hb.setCell (p := ⟨w.heap.size + 1, l * 8 + h, none⟩) (by simp) (.bool true)
      go_still_tail 6, (by kernel_rfl)
      go_wp2_with fail
      go_roundw
      case rel => exact ⟨k + 1, _, by omega, by go_num, hb2.drew, HR2, HT2, HP2⟩
      case measure => simp [intOf]; omega
    · have HP0 := Lib.hid (pairs_done HP.out (show z.length ≤ k by have := HN.out; omega))
      clear HP
      go_wp2_with fail
      go_loopw [22] (fun i wr => ∃ (m : Nat) (f : Nat → Nat → Bool), m ≤ 8 ∧ i = .int .i64 m ∧ Below w.heap.size w wr ∧ Hid (Bt wr w.heap.size (fun _ _ => false)) ∧ Hid (Bt wr (w.heap.size + 1) f) ∧ Hid (Pass z m 0 f)) (fun i _ => 8 - (intOf i).toNat)
      case atStart => exact ⟨0, f, by omega, rfl, hb, HR, HT, HP0⟩
      case round =>
        clear hb HR HT HP0
        obtain ⟨m, f, hm, rfl, hb, HR, HT, HP⟩ := hrel
        by_cases hm8 : m < 8
        · go_wp2_with fail
          go_loopw [25] (fun i wr => ∃ (l : Nat) (f : Nat → Nat → Bool), l ≤ 8 ∧ i = .int .i64 l ∧ Below w.heap.size w wr ∧ Hid (Bt wr w.heap.size (fun _ _ => false)) ∧ Hid (Bt wr (w.heap.size + 1) f) ∧ Hid (Pass z m (8 * l) f)) (fun i _ => 8 - (intOf i).toNat)
          case atStart => exact ⟨0, f, by omega, rfl, hb, HR, HT, HP⟩
          case round =>
            clear hb HR HT HP
            obtain ⟨l, f, hl, rfl, hb, HR, HT, HP⟩ := hrel
            by_cases hl8 : l < 8
            · go_wp2_with fail
              go_loopw [28] (fun i wr => ∃ (h : Nat) (f : Nat → Nat → Bool), h ≤ 8 ∧ i = .int .i64 h ∧ Below w.heap.size w wr ∧ Hid (Bt wr w.heap.size (fun _ _ => false)) ∧ Hid (Bt wr (w.heap.size + 1) f) ∧ Hid (Pass z m (8 * l + h) f)) (fun i _ => 8 - (intOf i).toNat)
              case atStart => exact ⟨0, f, by omega, rfl, hb, HR, HT, HP⟩
              case round =>
                clear hb HR HT HP
                obtain ⟨h, f, hh, rfl, hb, HR, HT, HP⟩ := hrel
                by_cases hh8 : h < 8
                · have c1 := HT.out.cell l m hl8 hm8
                  have c2 := HT.out.cell m h hm8 hh8
                  have c3 := HT.out.cell l h hl8 hh8
                  have f3 := Bx.frozen HT.out (l * 8 + h)
                  have e1 : (l : Int) < 8 := by omega
                  have e2 : (m : Int) < 8 := by omega
                  have e3 : (h : Int) < 8 := by omega
                  by_cases hv : f l m = true ∧ f m h = true
                  · have HP2 := Lib.hid (HP.out.yes rfl hh8 hv.1 hv.2)
                    have HR2 := Lib.hid (show Bt (wr.setCell ⟨w.heap.size + 1, l * 8 + h, none⟩ (.bool true)) w.heap.size (fun _ _ => false) from Bx.far HR.out (by simp) _)
                    have HT2 := Lib.hid (HT.out.put_ l h hl8 hh8)
                    have hb2 := hb.setCell (p := ⟨w.heap.size + 1, l * 8 + h, none⟩) (by simp) (.bool true)
                    rw [hv.1] at c1
                    rw [hv.2] at c2
                    clear hv HP HR HT hb
                    generalize f l h = b3 at *
                    go_wp2_with fail
                    go_roundw
                    case rel => exact ⟨h + 1, _, by omega, by go_num, hb2, HR2, HT2, HP2⟩
                    case measure => simp [intOf]; omega
                  · have HP2 := Lib.hid (HP.out.no rfl hh8 hm8 hl8 hv)
                    have HV := Lib.hid hv
                    clear HP hv
                    cases g1 : f l m with
                    | false =>
                      rw [g1] at c1
                      clear g1 c2 c3 f3
                      go_wp2_with fail
                      go_roundw
                      case rel => exact ⟨h + 1, f, by omega, by go_num, hb, HR, HT, HP2⟩
                      case measure => simp [intOf]; omega
                    | true =>
                      have g2 : f m h = false := by
                        cases g2 : f m h with
                        | false => rfl
                        | true => exact absurd ⟨g1, g2⟩ HV.out
                      rw [g1] at c1
                      rw [g2] at c2
                      clear g1 g2 c3 f3
                      go_wp2_with fail
                      go_roundw
                      case rel => exact ⟨h + 1, f, by omega, by go_num, hb, HR, HT, HP2⟩
                      case measure => simp [intOf]; omega
                · obtain rfl : h = 8 := by omega
                  go_wp2_with fail
                  go_roundw
                  case rel => exact ⟨l + 1, f, by omega, by go_num, hb, HR, HT, Lib.hid (by have := HP.out; rwa [show 8 * l + 8 = 8 * (l + 1) by omega] at this)⟩
                  case measure => simp [intOf]; omega
            · obtain rfl : l = 8 := by omega
              go_wp2_with fail
              go_roundw
              case rel => exact ⟨m + 1, f, by omega, by go_num, hb, HR, HT, Lib.hid (HP.out.step)⟩
              case measure => simp [intOf]; omega
        · obtain rfl : m = 8 := by omega
          have HD := Lib.hid (fun l k hl hk => HP.out.done HIn.out l k hl hk)
          have HB := Lib.hid (row_below hb (Nat.le_refl _) (tab f))
          have HR2 := Lib.hid (Bx.row HR.out (tab f))
          go_upto_region 21 with fail
          refine wp_region_list ?_
          refine wpList_load_row rfl 66 (.tmp 3) rfl (w.heap.size + 1) rfl 66 (tab f) (0, 0) _ HT.out Try.underlying66 rfl (by rw [tab_size]; exact infoT) ?_
          refine wpList_store_row rfl 66 (.tmp 2) (.tmp 50) rfl w.heap.size (tab f) rfl rfl 66 _ HR.out (by rw [tab_size]; exact infoT) (by rw [tab_size, tab_size]) (tab_one f) ?_
          refine wpList_nil ?_
          clear HR HT HP
          go_wp2_with fail
          refine bodyPost_ret (v := .agg (tab f)) (results_cell_row rfl _ _ w.heap.size 66 (tab f) (0, 0) _ rfl HR2.out Try.underlying66 rfl (by rw [tab_size]; exact infoT)) rfl ?_
          exact ⟨f, rfl, HD.out, HB.out⟩
end Go.Proofs.Ythhlhcojjeglkab.PrecY
