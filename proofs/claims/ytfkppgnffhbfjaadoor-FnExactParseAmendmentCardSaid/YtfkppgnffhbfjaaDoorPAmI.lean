/- An amendment read from its line: the program's ParseAmendment. The laid package variables of strconv and the cell of internal/bytealg.MaxLen must lie in memory. -/
import Derived.Test.YtfkppgnffhbfjaaDoorPAmH
import Derived.Test.YtfkppgnffhbfjaaDoorAmX
import Derived.Test.YtfkppgnffhbfjaaDoorBx
import Derived.BigQuiet
import Derived.Deep.DeepCutAuto
namespace Go.Proofs.YtfkppgnffhbfjaaDoor.PAmI
open Go.RowKit Bs Word SplitMath NumMath Am AmL PAm PAmQ PAmH
set_option linter.unusedVariables false
theorem eq_list {a b : ByteArray} {v : Bool} (h : (a.toList == b.toList) = v) : v = true ↔ a.data.toList = b.data.toList := by
  rw [ByteArray.toList_eq, ByteArray.toList_eq] at h
  refine ⟨fun hv => ?_, fun hv => ?_⟩
  · rw [hv] at h; simpa using h
  · rw [hv] at h; simpa using h
def Post (s : ByteArray) (w : World) (e : Ending) (w' : World) : Prop := ∃ v0 r0 r1, e = .returned (.tuple #[v0, .bool r1]) ∧ PAm.Ans s r0 r1 ∧ LAmendment.Own w' w.heap.size v0 r0 ∧ Below w.heap.size w w'
set_option maxRecDepth 100000 in
set_option maxHeartbeats 6400000 in
theorem parse (s : ByteArray) (w : World) (hs : s.size ≤ 1048576) (vp : Laid.Pow w) (vr : Laid.Err "strconv.ErrRange" w) (vs : Laid.Err "strconv.ErrSyntax" w) (vm : Mx w) :
    Calls Tryd.prog 11 #[.string s] w (Post s w) := by
  have HVP := Lib.hid vp
  have HVR := Lib.hid vr
  have HVS := Lib.hid vs
  have HVM := Lib.hid vm
  have HP := Lib.hid (fun (S : ByteArray) W (hS : S.size ≤ 1048576) (h : Below w.heap.size w W) => PInt.parseInt S W (by omega) (HVP.out.below h) (HVR.out.below h) (HVS.out.below h))
  unfold PInt.RI at HP
  have HC := Lib.hid (fun (S sep : ByteArray) W (hS : S.size ≤ 1048576) (h : Below w.heap.size w W) => cutC S sep W hS (HVM.out.below h))
  unfold CR at HC
  clear vp vr vs vm
  have hb := (Below.refl w.heap.size w).alloc (Nat.le_refl _) (Obj.cells #[.int .i64 0, .int .i64 0, .int .i64 0, .slice none 0 0] 28)
  have HR := Lib.hid (Bx.new w 28 #[.int .i64 0, .int .i64 0, .int .i64 0, .slice none 0 0])
  go_enter Tryd.func11, Tryd.ntmps11
  go_wp2_with fail
  refine (HC.out s ⟨#[58, 32]⟩ _ (by omega) hb).mono ?_
  rintro e w1 ⟨f1, ph, hw, rfl, hc1, ⟨hl1a, hl1b⟩, hb1⟩
  have HC1 := Lib.hid hc1
  replace HR := Lib.hid (HR.out.kept hb1)
  replace hb := hb.trans (hb1.mono hb.size)
  clear hc1 hb1
  go_wp2_with fail
  refine (HC.out f1 ⟨#[32, 97, 116, 32]⟩ _ (by omega) hb).mono ?_
  rintro e w2 ⟨f2, pl, o2, rfl, hc2, ⟨hl2a, hl2b⟩, hb2⟩
  have HC2 := Lib.hid hc2
  replace HR := Lib.hid (HR.out.kept hb2)
  replace hb := hb.trans (hb2.mono hb.size)
  clear hc2 hb2
  go_wp2_with fail
  refine (HC.out f2 ⟨#[32]⟩ _ (by omega) hb).mono ?_
  rintro e w3 ⟨v, cn, o3, rfl, hc3, ⟨hl3a, hl3b⟩, hb3⟩
  have HC3 := Lib.hid hc3
  replace HR := Lib.hid (HR.out.kept hb3)
  replace hb := hb.trans (hb3.mono hb.size)
  clear hc3 hb3
  go_wp2_with fail
  have HM := Lib.hid (Bx.new w3 28 #[.int .i64 0, .int .i64 0, .int .i64 0, .slice none 0 0])
  have hGw : w.heap.size < w3.heap.size := HR.out.lt
  replace HR := Lib.hid (HR.out.alloc (Obj.cells #[.int .i64 0, .int .i64 0, .int .i64 0, .slice none 0 0] 28))
  replace hb := hb.alloc hb.size (Obj.cells #[.int .i64 0, .int .i64 0, .int .i64 0, .slice none 0 0] 28)
  have hGl : w3.heap.size < (w3.alloc (Obj.cells #[.int .i64 0, .int .i64 0, .int .i64 0, .slice none 0 0] 28)).heap.size := by simp
  obtain ⟨G, hG⟩ : ∃ G, G = w3.heap.size := ⟨_, rfl⟩
  rw [← hG] at HM hGw hGl
  generalize w3.alloc (Obj.cells #[.int .i64 0, .int .i64 0, .int .i64 0, .slice none 0 0] 28) = w4 at *
  simp only [← hG]
  have hRG : w.heap.size ≠ G := by omega
  have hRw : w.heap.size ≤ w.heap.size := Nat.le_refl _
  clear hG
  go_loopw [13] (fun q wr => ∃ k : Nat, 1 ≤ k ∧ k ≤ 4 ∧ q = .int .i64 k ∧ Hid (Bx wr w.heap.size 28 #[.int .i64 0, .int .i64 0, .int .i64 0, .slice none 0 0]) ∧ Hid (Bx wr G 28 #[.int .i64 (kindOf v.data.toList (k - 1)), .int .i64 0, .int .i64 0, .slice none 0 0]) ∧ Below w.heap.size w wr) (fun q _ => (4 - intOf q).toNat)
  case atStart => exact ⟨1, by omega, by omega, rfl, HR, HM, hb⟩
  case round =>
    clear HR HM hb hGl
    obtain ⟨k, hk1, hk4, rfl, HR, HM, hb⟩ := hrel
    obtain ⟨j, rfl⟩ : ∃ j, k = j + 1 := ⟨k - 1, by omega⟩
    rw [Nat.add_sub_cancel] at HM
    have hj : j ≤ 3 := by omega
    have kk : ((j + 1 : Nat) : Int) = (j : Int) + 1 := by omega
    rw [kk]
    clear kk hk1 hk4
    by_cases hj3 : j < 3
    · have HOf := Lib.hid (fun W => AmX.amendWord ((j : Int) + 1) W)
      have HKs := Lib.hid (show kindOf v.data.toList (j + 1) = if v.data.toList = (verb ((j : Int) + 1)).data.toList then (j : Int) + 1 else kindOf v.data.toList j by
        have e : ((j + 1 : Nat) : Int) = (j : Int) + 1 := by omega
        rw [← e]; rfl)
      generalize verb ((j : Int) + 1) = VB at *
      have hd : decide ((j : Int) + 1 ≤ 3) = true := decide_eq_true (by omega)
      cases he : (v.toList == VB.toList) with
      | false =>
        have HL := Lib.hid (show kindOf v.data.toList j = kindOf v.data.toList (j + 1) by rw [HKs.out, if_neg (fun h => by have := (eq_list he).2 h; cases this)])
        rw [HL.out] at HM
        go_wp2_with fail
        refine (HOf.out _).mono ?_
        rintro e _ ⟨rfl, rfl⟩
        go_wp2_with fail
        go_roundw
        case rel => exact ⟨j + 1 + 1, by omega, by omega, by go_num, HR, HM, hb⟩
        case measure => simp [intOf]; omega
      | true =>
        have HL := Lib.hid (show kindOf v.data.toList (j + 1) = (j : Int) + 1 by rw [HKs.out, if_pos ((eq_list he).1 rfl)])
        have x0 := HM.out.cell 0
        have z0 := HM.out.frozen 0
        simp only [List.getElem?_toArray, List.getElem?_cons_zero] at x0
        have HM2 := Lib.hid (show Bx (wr.setCell ⟨G, 0, none⟩ (.int .i64 ((j : Int) + 1))) G 28 #[.int .i64 (kindOf v.data.toList (j + 1)), .int .i64 0, .int .i64 0, .slice none 0 0] by
          rw [HL.out]; exact Bx.set_ HM.out 0 (.int .i64 ((j : Int) + 1)))
        have HR2 := Lib.hid (Bx.far (p := ⟨G, 0, none⟩) HR.out hRG (.int .i64 ((j : Int) + 1)))
        have hb2 := hb.setCell (p := ⟨G, 0, none⟩) (Nat.le_of_lt hGw) (.int .i64 ((j : Int) + 1))
        go_wp2_with fail
        refine (HOf.out _).mono ?_
        rintro e _ ⟨rfl, rfl⟩
        go_wp2_with fail
        go_roundw
        case rel => exact ⟨j + 1 + 1, by omega, by omega, by go_num, HR2, HM2, hb2⟩
        case measure => simp [intOf]; omega
    · obtain rfl : j = 3 := by omega
      have HF := Lib.hid (fun (p c : Int) (ws : T) (q : M) (hp : Numeral pl.data.toList p ∨ ((∀ v, ¬ Numeral pl.data.toList v) ∧ p = 0)) (hc : Numeral cn.data.toList c ∨ ((∀ v, ¬ Numeral cn.data.toList v) ∧ c = 0)) (hws : (hw = true ∧ (ph.size ≤ 4000 → ws = bs (splitOf ph.data.toList 32))) ∨ (hw = false ∧ ws = [])) (hq : good q = true) (hl : line q = s) => impl_found HC1.out HC2.out HC3.out hp hc hws hq hl)
      generalize kindOf v.data.toList 3 = K at *
      clear HC1 HC2 HC3 HC HVP HVR HVS HVM
      go_wp2_with fail
      refine (HP.out pl _ (by omega) hb).mono ?_
      rintro e w5 ⟨p, o5, rfl, hp, hb5⟩
      have HPn := Lib.hid hp
      replace HR := Lib.hid (HR.out.kept hb5)
      replace HM := Lib.hid (HM.out.kept hb5)
      replace hb := hb.trans (hb5.mono hb.size)
      clear hp hb5
      have x1 := HM.out.cell 1
      have z1 := HM.out.frozen 1
      simp only [List.getElem?_toArray, List.getElem?_cons_zero, List.getElem?_cons_succ] at x1
      go_wp2_with fail
      clear x1 z1
      replace HM := Lib.hid (show Bx (w5.setCell ⟨G, 1, none⟩ (.int .i64 p)) G 28 #[.int .i64 K, .int .i64 p, .int .i64 0, .slice none 0 0] from Bx.set_ HM.out 1 (.int .i64 p))
      replace HR := Lib.hid (Bx.far (p := ⟨G, 1, none⟩) HR.out hRG (.int .i64 p))
      replace hb := hb.setCell (p := ⟨G, 1, none⟩) (Nat.le_of_lt hGw) (.int .i64 p)
      generalize w5.setCell ⟨G, 1, none⟩ (.int .i64 p) = w6 at *
      refine (HP.out cn _ (by omega) hb).mono ?_
      rintro e w7 ⟨c, o7, rfl, hc, hb7⟩
      have HCn := Lib.hid hc
      replace HR := Lib.hid (HR.out.kept hb7)
      replace HM := Lib.hid (HM.out.kept hb7)
      replace hb := hb.trans (hb7.mono hb.size)
      clear hc hb7
      have x2 := HM.out.cell 2
      have z2 := HM.out.frozen 2
      simp only [List.getElem?_toArray, List.getElem?_cons_zero, List.getElem?_cons_succ] at x2
      have HM8 := Lib.hid (show Bx (w7.setCell ⟨G, 2, none⟩ (.int .i64 c)) G 28 #[.int .i64 K, .int .i64 p, .int .i64 c, .slice none 0 0] from Bx.set_ HM.out 2 (.int .i64 c))
      have HR8 := Lib.hid (Bx.far (p := ⟨G, 2, none⟩) HR.out hRG (.int .i64 c))
      have hb8 := hb.setCell (p := ⟨G, 2, none⟩) (Nat.le_of_lt hGw) (.int .i64 c)
      cases hw with
      | false =>
        have HF9 := Lib.hid (fun q hq hl => HF.out p c [] q HPn.out HCn.out (.inr ⟨rfl, rfl⟩) hq hl)
        go_upto_region 14 with fail
        clear x2 z2
        generalize w7.setCell ⟨G, 2, none⟩ (.int .i64 c) = w8 at *
        have HOw := Lib.hid (show LAmendment.Own w8 (w.heap.size + 1) (.agg #[.int .i64 K, .int .i64 p, .int .i64 c, .slice none 0 0]) ⟨K, p, c, []⟩ from ⟨_, rfl, Bs.Own.nil⟩)
        have HLn := Lib.hid (AmX.lineI _ _ w8 (LAmendment.Own.isQ HOw.out) (show LAmendment.Fine ⟨K, p, c, []⟩ from (fun x hx => by cases hx)))
        have y0 := HM8.out.cell 0
        have y1 := HM8.out.cell 1
        have y2 := HM8.out.cell 2
        have y3 := HM8.out.cell 3
        simp only [List.getElem?_toArray, List.getElem?_cons_zero, List.getElem?_cons_succ] at y0 y1 y2 y3
        go_wp2_with fail
        refine HLn.out.mono ?_
        rintro e w9 ⟨l9, o9, rfl, ha, hb9⟩
        have HA9 := Lib.hid ha
        clear y0 y1 y2 y3 ha HLn
        replace HOw := Lib.hid (LAmendment.Own.kept HOw.out hb9)
        replace HM8 := Lib.hid (HM8.out.kept hb9)
        replace HR8 := Lib.hid (HR8.out.kept hb9)
        replace hb8 := hb8.trans (hb9.mono hb8.size)
        clear hb9
        have hgd : (o9 = true ∧ good ⟨K, p, c, []⟩ = true ∧ l9 = line ⟨K, p, c, []⟩) ∨ (o9 = false ∧ good ⟨K, p, c, []⟩ = false) := by
          have h := HA9.out
          unfold AmL.Ans at h
          cases hg : good (⟨K, p, c, []⟩ : M) with
          | true => rw [hg, if_pos rfl] at h; simp only [Prod.mk.injEq] at h; exact .inl ⟨h.2, rfl, h.1⟩
          | false => rw [hg] at h; simp only [Bool.false_eq_true, if_false, Prod.mk.injEq] at h; exact .inr ⟨h.2, rfl⟩
        have HGd := Lib.hid hgd
        clear hgd
        cases o9 with
        | false =>
          have HAns := Lib.hid (ans_no (r := ⟨K, p, c, []⟩) (fun q hq hl => HF9.out q hq hl) (fun h => by rcases HGd.out with ⟨h1, _⟩ | ⟨_, h1⟩; cases h1; rw [h.1] at h1; cases h1))
          have r0 := HR8.out.cell 0
          have r1 := HR8.out.cell 1
          have r2 := HR8.out.cell 2
          have r3 := HR8.out.cell 3
          simp only [List.getElem?_toArray, List.getElem?_cons_zero, List.getElem?_cons_succ] at r0 r1 r2 r3
          have f0 := HR8.out.frozen 0
          have f1 := HR8.out.frozen 1
          have f2 := HR8.out.frozen 2
          have f3 := HR8.out.frozen 3
          have HRS := Lib.hid (Bx.set_ (Bx.set_ (Bx.set_ (Bx.set_ HR8.out 0 (.int .i64 0)) 1 (.int .i64 0)) 2 (.int .i64 0)) 3 (.slice none 0 0))
          have hbs := ((((hb8.setCell (p := ⟨w.heap.size, 0, none⟩) hRw (.int .i64 0)).setCell (p := ⟨w.heap.size, 1, none⟩) hRw (.int .i64 0)).setCell (p := ⟨w.heap.size, 2, none⟩) hRw (.int .i64 0)).setCell (p := ⟨w.heap.size, 3, none⟩) hRw (.slice none 0 0))
          go_wp2_with fail
          clear r0 r1 r2 r3 f0 f1 f2 f3
          generalize (((w9.setCell ⟨w.heap.size, 0, none⟩ (.int .i64 0)).setCell ⟨w.heap.size, 1, none⟩ (.int .i64 0)).setCell ⟨w.heap.size, 2, none⟩ (.int .i64 0)).setCell ⟨w.heap.size, 3, none⟩ (.slice none 0 0) = wz at *
          simp only [List.setIfInBounds_toArray, List.set_cons_zero, List.set_cons_succ] at HRS
          have r0 := HRS.out.cell 0
          have r1 := HRS.out.cell 1
          have r2 := HRS.out.cell 2
          have r3 := HRS.out.cell 3
          simp only [List.getElem?_toArray, List.getElem?_cons_zero, List.getElem?_cons_succ] at r0 r1 r2 r3
          (try simp only [Exit.inBlock, Exit.then])
          refine bodyPost_ret (v := .tuple #[.agg #[.int .i64 0, .int .i64 0, .int .i64 0, .slice none 0 0], .bool false]) (by rw [results_cell_tmp rfl]; go_simp) rfl ?_
          exact ⟨_, zeroM, false, rfl, HAns.out, LAmendment.Own.zero, hbs⟩
        | true =>
          cases he : (l9.toList == s.toList) with
          | false =>
            have hne : (l9.toList != s.toList) = true := by simp only [bne, he]; rfl
            have HAns := Lib.hid (ans_no (r := ⟨K, p, c, []⟩) (fun q hq hl => HF9.out q hq hl) (fun h => by
              rcases HGd.out with ⟨_, _, h1⟩ | ⟨h1, _⟩
              · have := (eq_list he).2 (by rw [h1, h.2]); cases this
              · cases h1))
            have r0 := HR8.out.cell 0
            have r1 := HR8.out.cell 1
            have r2 := HR8.out.cell 2
            have r3 := HR8.out.cell 3
            simp only [List.getElem?_toArray, List.getElem?_cons_zero, List.getElem?_cons_succ] at r0 r1 r2 r3
            have f0 := HR8.out.frozen 0
            have f1 := HR8.out.frozen 1
            have f2 := HR8.out.frozen 2
            have f3 := HR8.out.frozen 3
            have HRS := Lib.hid (Bx.set_ (Bx.set_ (Bx.set_ (Bx.set_ HR8.out 0 (.int .i64 0)) 1 (.int .i64 0)) 2 (.int .i64 0)) 3 (.slice none 0 0))
            have hbs := ((((hb8.setCell (p := ⟨w.heap.size, 0, none⟩) hRw (.int .i64 0)).setCell (p := ⟨w.heap.size, 1, none⟩) hRw (.int .i64 0)).setCell (p := ⟨w.heap.size, 2, none⟩) hRw (.int .i64 0)).setCell (p := ⟨w.heap.size, 3, none⟩) hRw (.slice none 0 0))
            go_wp2_with fail
            clear r0 r1 r2 r3 f0 f1 f2 f3
            generalize (((w9.setCell ⟨w.heap.size, 0, none⟩ (.int .i64 0)).setCell ⟨w.heap.size, 1, none⟩ (.int .i64 0)).setCell ⟨w.heap.size, 2, none⟩ (.int .i64 0)).setCell ⟨w.heap.size, 3, none⟩ (.slice none 0 0) = wz at *
            simp only [List.setIfInBounds_toArray, List.set_cons_zero, List.set_cons_succ] at HRS
            have r0 := HRS.out.cell 0
            have r1 := HRS.out.cell 1
            have r2 := HRS.out.cell 2
            have r3 := HRS.out.cell 3
            simp only [List.getElem?_toArray, List.getElem?_cons_zero, List.getElem?_cons_succ] at r0 r1 r2 r3
            (try simp only [Exit.inBlock, Exit.then])
            refine bodyPost_ret (v := .tuple #[.agg #[.int .i64 0, .int .i64 0, .int .i64 0, .slice none 0 0], .bool false]) (by rw [results_cell_tmp rfl]; go_simp) rfl ?_
            exact ⟨_, zeroM, false, rfl, HAns.out, LAmendment.Own.zero, hbs⟩
          | true =>
            have hne : (l9.toList != s.toList) = false := by simp only [bne, he]; rfl
            have HAns := Lib.hid (show PAm.Ans s ⟨K, p, c, []⟩ true by
              rcases HGd.out with ⟨_, h0, h1⟩ | ⟨h1, _⟩
              · exact ans_yes h0 (by rw [← h1]; exact ByteArray.ext (Array.toList_inj.1 ((eq_list he).1 rfl)))
              · cases h1)
            have y0 := HM8.out.cell 0
            have y1 := HM8.out.cell 1
            have y2 := HM8.out.cell 2
            have y3 := HM8.out.cell 3
            simp only [List.getElem?_toArray, List.getElem?_cons_zero, List.getElem?_cons_succ] at y0 y1 y2 y3
            have r0 := HR8.out.cell 0
            have r1 := HR8.out.cell 1
            have r2 := HR8.out.cell 2
            have r3 := HR8.out.cell 3
            simp only [List.getElem?_toArray, List.getElem?_cons_zero, List.getElem?_cons_succ] at r0 r1 r2 r3
            have f0 := HR8.out.frozen 0
            have f1 := HR8.out.frozen 1
            have f2 := HR8.out.frozen 2
            have f3 := HR8.out.frozen 3
            have HRS := Lib.hid (Bx.set_ (Bx.set_ (Bx.set_ (Bx.set_ HR8.out 0 (.int .i64 K)) 1 (.int .i64 p)) 2 (.int .i64 c)) 3 (.slice none 0 0))
            have hbs := ((((hb8.setCell (p := ⟨w.heap.size, 0, none⟩) hRw (.int .i64 K)).setCell (p := ⟨w.heap.size, 1, none⟩) hRw (.int .i64 p)).setCell (p := ⟨w.heap.size, 2, none⟩) hRw (.int .i64 c)).setCell (p := ⟨w.heap.size, 3, none⟩) hRw (.slice none 0 0))
            obtain ⟨sv, hsv, hos⟩ := HOw.out
            obtain rfl : .slice none 0 0 = sv := by simp only [Value.agg.injEq, Array.mk.injEq, List.cons.injEq, and_true, true_and] at hsv; exact hsv
            have HOS := Lib.hid (own_set (own_set (own_set (own_set hos (p := ⟨w.heap.size, 0, none⟩) (fun k hk => by have h2 := (hos.lt k hk).1; show k ≠ w.heap.size; omega) (.int .i64 K)) (p := ⟨w.heap.size, 1, none⟩) (fun k hk => by have h2 := (hos.lt k hk).1; show k ≠ w.heap.size; omega) (.int .i64 p)) (p := ⟨w.heap.size, 2, none⟩) (fun k hk => by have h2 := (hos.lt k hk).1; show k ≠ w.heap.size; omega) (.int .i64 c)) (p := ⟨w.heap.size, 3, none⟩) (fun k hk => by have h2 := (hos.lt k hk).1; show k ≠ w.heap.size; omega) (.slice none 0 0))
            clear hos hsv
            go_wp2_with fail
            clear r0 r1 r2 r3 f0 f1 f2 f3
            generalize (((w9.setCell ⟨w.heap.size, 0, none⟩ (.int .i64 K)).setCell ⟨w.heap.size, 1, none⟩ (.int .i64 p)).setCell ⟨w.heap.size, 2, none⟩ (.int .i64 c)).setCell ⟨w.heap.size, 3, none⟩ (.slice none 0 0) = wz at *
            simp only [List.setIfInBounds_toArray, List.set_cons_zero, List.set_cons_succ] at HRS
            have r0 := HRS.out.cell 0
            have r1 := HRS.out.cell 1
            have r2 := HRS.out.cell 2
            have r3 := HRS.out.cell 3
            simp only [List.getElem?_toArray, List.getElem?_cons_zero, List.getElem?_cons_succ] at r0 r1 r2 r3
            (try simp only [Exit.inBlock, Exit.then])
            refine bodyPost_ret (v := .tuple #[.agg #[.int .i64 K, .int .i64 p, .int .i64 c, .slice none 0 0], .bool true]) (by rw [results_cell_tmp rfl]; go_simp) rfl ?_
            exact ⟨_, ⟨K, p, c, []⟩, true, rfl, HAns.out, ⟨_, rfl, Bs.Own.low HOS.out (by omega)⟩, hbs⟩
      | true =>
        have HSp := Lib.hid (fun W => splitQ ph W (by omega))
        unfold SQ at HSp
        go_wp2_with fail
        clear x2 z2
        have hGl8 : G < (w7.setCell ⟨G, 2, none⟩ (.int .i64 c)).heap.size := HM8.out.lt
        generalize w7.setCell ⟨G, 2, none⟩ (.int .i64 c) = w8 at *
        refine (HSp.out _).mono ?_
        rintro e wa ⟨sa, sn, sc, oa, ws, rfl, hown, hfine, hws, hba⟩
        have HF9 := Lib.hid (fun q hq hl => HF.out p c ws q HPn.out HCn.out (by simp only [true_and, Bool.true_eq_false, false_and, or_false]; exact hws) hq hl)
        have HFi := Lib.hid hfine
        have HO1 := Lib.hid hown
        replace HM8 := Lib.hid (HM8.out.kept hba)
        replace HR8 := Lib.hid (HR8.out.kept hba)
        replace hb8 := hb8.trans (hba.mono hb8.size)
        clear hws hba hown hfine HSp HF
        have x3 := HM8.out.cell 3
        have z3 := HM8.out.frozen 3
        simp only [List.getElem?_toArray, List.getElem?_cons_zero, List.getElem?_cons_succ] at x3
        have HM9 := Lib.hid (show Bx (wa.setCell ⟨G, 3, none⟩ (.slice sa sn sc)) G 28 #[.int .i64 K, .int .i64 p, .int .i64 c, .slice sa sn sc] from Bx.set_ HM8.out 3 (.slice sa sn sc))
        have HR9 := Lib.hid (Bx.far (p := ⟨G, 3, none⟩) HR8.out hRG (.slice sa sn sc))
        have hb9 := hb8.setCell (p := ⟨G, 3, none⟩) (Nat.le_of_lt hGw) (.slice sa sn sc)
        have HO2 := Lib.hid (own_set HO1.out (p := ⟨G, 3, none⟩) (fun k hk => by have h2 := (HO1.out.lt k hk).1; show k ≠ G; omega) (.slice sa sn sc))
        replace HO2 := Lib.hid (Bs.Own.low HO2.out (show w.heap.size + 1 ≤ w8.heap.size by omega))
        clear HM8 HR8 hb8 HO1
        go_upto_region 14 with fail
        clear x3 z3
        generalize wa.setCell ⟨G, 3, none⟩ (.slice sa sn sc) = w8b at *
        have HM8 := HM9
        have HR8 := HR9
        have hb8 := hb9
        clear HM9 HR9 hb9
        have HOw := Lib.hid (show LAmendment.Own w8b (w.heap.size + 1) (.agg #[.int .i64 K, .int .i64 p, .int .i64 c, .slice sa sn sc]) ⟨K, p, c, ws⟩ from ⟨_, rfl, HO2.out⟩)
        have HLn := Lib.hid (AmX.lineI _ _ w8b (LAmendment.Own.isQ HOw.out) (show LAmendment.Fine ⟨K, p, c, ws⟩ from (fun x hx => by have := HFi.out x hx; show x.size ≤ maxLen; unfold maxLen; omega)))
        have y0 := HM8.out.cell 0
        have y1 := HM8.out.cell 1
        have y2 := HM8.out.cell 2
        have y3 := HM8.out.cell 3
        simp only [List.getElem?_toArray, List.getElem?_cons_zero, List.getElem?_cons_succ] at y0 y1 y2 y3
        go_wp2_with fail
        refine HLn.out.mono ?_
        rintro e w9 ⟨l9, o9, rfl, ha, hb9⟩
        have HA9 := Lib.hid ha
        clear y0 y1 y2 y3 ha HLn
        replace HOw := Lib.hid (LAmendment.Own.kept HOw.out hb9)
        replace HM8 := Lib.hid (HM8.out.kept hb9)
        replace HR8 := Lib.hid (HR8.out.kept hb9)
        replace hb8 := hb8.trans (hb9.mono hb8.size)
        clear hb9
        have hgd : (o9 = true ∧ good ⟨K, p, c, ws⟩ = true ∧ l9 = line ⟨K, p, c, ws⟩) ∨ (o9 = false ∧ good ⟨K, p, c, ws⟩ = false) := by
          have h := HA9.out
          unfold AmL.Ans at h
          cases hg : good (⟨K, p, c, ws⟩ : M) with
          | true => rw [hg, if_pos rfl] at h; simp only [Prod.mk.injEq] at h; exact .inl ⟨h.2, rfl, h.1⟩
          | false => rw [hg] at h; simp only [Bool.false_eq_true, if_false, Prod.mk.injEq] at h; exact .inr ⟨h.2, rfl⟩
        have HGd := Lib.hid hgd
        clear hgd
        cases o9 with
        | false =>
          have HAns := Lib.hid (ans_no (r := ⟨K, p, c, ws⟩) (fun q hq hl => HF9.out q hq hl) (fun h => by rcases HGd.out with ⟨h1, _⟩ | ⟨_, h1⟩; cases h1; rw [h.1] at h1; cases h1))
          have r0 := HR8.out.cell 0
          have r1 := HR8.out.cell 1
          have r2 := HR8.out.cell 2
          have r3 := HR8.out.cell 3
          simp only [List.getElem?_toArray, List.getElem?_cons_zero, List.getElem?_cons_succ] at r0 r1 r2 r3
          have f0 := HR8.out.frozen 0
          have f1 := HR8.out.frozen 1
          have f2 := HR8.out.frozen 2
          have f3 := HR8.out.frozen 3
          have HRS := Lib.hid (Bx.set_ (Bx.set_ (Bx.set_ (Bx.set_ HR8.out 0 (.int .i64 0)) 1 (.int .i64 0)) 2 (.int .i64 0)) 3 (.slice none 0 0))
          have hbs := ((((hb8.setCell (p := ⟨w.heap.size, 0, none⟩) hRw (.int .i64 0)).setCell (p := ⟨w.heap.size, 1, none⟩) hRw (.int .i64 0)).setCell (p := ⟨w.heap.size, 2, none⟩) hRw (.int .i64 0)).setCell (p := ⟨w.heap.size, 3, none⟩) hRw (.slice none 0 0))
          go_wp2_with fail
          clear r0 r1 r2 r3 f0 f1 f2 f3
          generalize (((w9.setCell ⟨w.heap.size, 0, none⟩ (.int .i64 0)).setCell ⟨w.heap.size, 1, none⟩ (.int .i64 0)).setCell ⟨w.heap.size, 2, none⟩ (.int .i64 0)).setCell ⟨w.heap.size, 3, none⟩ (.slice none 0 0) = wz at *
          simp only [List.setIfInBounds_toArray, List.set_cons_zero, List.set_cons_succ] at HRS
          have r0 := HRS.out.cell 0
          have r1 := HRS.out.cell 1
          have r2 := HRS.out.cell 2
          have r3 := HRS.out.cell 3
          simp only [List.getElem?_toArray, List.getElem?_cons_zero, List.getElem?_cons_succ] at r0 r1 r2 r3
          (try simp only [Exit.inBlock, Exit.then])
          refine bodyPost_ret (v := .tuple #[.agg #[.int .i64 0, .int .i64 0, .int .i64 0, .slice none 0 0], .bool false]) (by rw [results_cell_tmp rfl]; go_simp) rfl ?_
          exact ⟨_, zeroM, false, rfl, HAns.out, LAmendment.Own.zero, hbs⟩
        | true =>
          cases he : (l9.toList == s.toList) with
          | false =>
            have hne : (l9.toList != s.toList) = true := by simp only [bne, he]; rfl
            have HAns := Lib.hid (ans_no (r := ⟨K, p, c, ws⟩) (fun q hq hl => HF9.out q hq hl) (fun h => by
              rcases HGd.out with ⟨_, _, h1⟩ | ⟨h1, _⟩
              · have := (eq_list he).2 (by rw [h1, h.2]); cases this
              · cases h1))
            have r0 := HR8.out.cell 0
            have r1 := HR8.out.cell 1
            have r2 := HR8.out.cell 2
            have r3 := HR8.out.cell 3
            simp only [List.getElem?_toArray, List.getElem?_cons_zero, List.getElem?_cons_succ] at r0 r1 r2 r3
            have f0 := HR8.out.frozen 0
            have f1 := HR8.out.frozen 1
            have f2 := HR8.out.frozen 2
            have f3 := HR8.out.frozen 3
            have HRS := Lib.hid (Bx.set_ (Bx.set_ (Bx.set_ (Bx.set_ HR8.out 0 (.int .i64 0)) 1 (.int .i64 0)) 2 (.int .i64 0)) 3 (.slice none 0 0))
            have hbs := ((((hb8.setCell (p := ⟨w.heap.size, 0, none⟩) hRw (.int .i64 0)).setCell (p := ⟨w.heap.size, 1, none⟩) hRw (.int .i64 0)).setCell (p := ⟨w.heap.size, 2, none⟩) hRw (.int .i64 0)).setCell (p := ⟨w.heap.size, 3, none⟩) hRw (.slice none 0 0))
            go_wp2_with fail
            clear r0 r1 r2 r3 f0 f1 f2 f3
            generalize (((w9.setCell ⟨w.heap.size, 0, none⟩ (.int .i64 0)).setCell ⟨w.heap.size, 1, none⟩ (.int .i64 0)).setCell ⟨w.heap.size, 2, none⟩ (.int .i64 0)).setCell ⟨w.heap.size, 3, none⟩ (.slice none 0 0) = wz at *
            simp only [List.setIfInBounds_toArray, List.set_cons_zero, List.set_cons_succ] at HRS
            have r0 := HRS.out.cell 0
            have r1 := HRS.out.cell 1
            have r2 := HRS.out.cell 2
            have r3 := HRS.out.cell 3
            simp only [List.getElem?_toArray, List.getElem?_cons_zero, List.getElem?_cons_succ] at r0 r1 r2 r3
            (try simp only [Exit.inBlock, Exit.then])
            refine bodyPost_ret (v := .tuple #[.agg #[.int .i64 0, .int .i64 0, .int .i64 0, .slice none 0 0], .bool false]) (by rw [results_cell_tmp rfl]; go_simp) rfl ?_
            exact ⟨_, zeroM, false, rfl, HAns.out, LAmendment.Own.zero, hbs⟩
          | true =>
            have hne : (l9.toList != s.toList) = false := by simp only [bne, he]; rfl
            have HAns := Lib.hid (show PAm.Ans s ⟨K, p, c, ws⟩ true by
              rcases HGd.out with ⟨_, h0, h1⟩ | ⟨h1, _⟩
              · exact ans_yes h0 (by rw [← h1]; exact ByteArray.ext (Array.toList_inj.1 ((eq_list he).1 rfl)))
              · cases h1)
            have y0 := HM8.out.cell 0
            have y1 := HM8.out.cell 1
            have y2 := HM8.out.cell 2
            have y3 := HM8.out.cell 3
            simp only [List.getElem?_toArray, List.getElem?_cons_zero, List.getElem?_cons_succ] at y0 y1 y2 y3
            have r0 := HR8.out.cell 0
            have r1 := HR8.out.cell 1
            have r2 := HR8.out.cell 2
            have r3 := HR8.out.cell 3
            simp only [List.getElem?_toArray, List.getElem?_cons_zero, List.getElem?_cons_succ] at r0 r1 r2 r3
            have f0 := HR8.out.frozen 0
            have f1 := HR8.out.frozen 1
            have f2 := HR8.out.frozen 2
            have f3 := HR8.out.frozen 3
            have HRS := Lib.hid (Bx.set_ (Bx.set_ (Bx.set_ (Bx.set_ HR8.out 0 (.int .i64 K)) 1 (.int .i64 p)) 2 (.int .i64 c)) 3 (.slice sa sn sc))
            have hbs := ((((hb8.setCell (p := ⟨w.heap.size, 0, none⟩) hRw (.int .i64 K)).setCell (p := ⟨w.heap.size, 1, none⟩) hRw (.int .i64 p)).setCell (p := ⟨w.heap.size, 2, none⟩) hRw (.int .i64 c)).setCell (p := ⟨w.heap.size, 3, none⟩) hRw (.slice sa sn sc))
            obtain ⟨sv, hsv, hos⟩ := HOw.out
            obtain rfl : .slice sa sn sc = sv := by simp only [Value.agg.injEq, Array.mk.injEq, List.cons.injEq, and_true, true_and] at hsv; exact hsv
            have HOS := Lib.hid (own_set (own_set (own_set (own_set hos (p := ⟨w.heap.size, 0, none⟩) (fun k hk => by have h2 := (hos.lt k hk).1; show k ≠ w.heap.size; omega) (.int .i64 K)) (p := ⟨w.heap.size, 1, none⟩) (fun k hk => by have h2 := (hos.lt k hk).1; show k ≠ w.heap.size; omega) (.int .i64 p)) (p := ⟨w.heap.size, 2, none⟩) (fun k hk => by have h2 := (hos.lt k hk).1; show k ≠ w.heap.size; omega) (.int .i64 c)) (p := ⟨w.heap.size, 3, none⟩) (fun k hk => by have h2 := (hos.lt k hk).1; show k ≠ w.heap.size; omega) (.slice sa sn sc))
            clear hos hsv
            go_wp2_with fail
            clear r0 r1 r2 r3 f0 f1 f2 f3
            generalize (((w9.setCell ⟨w.heap.size, 0, none⟩ (.int .i64 K)).setCell ⟨w.heap.size, 1, none⟩ (.int .i64 p)).setCell ⟨w.heap.size, 2, none⟩ (.int .i64 c)).setCell ⟨w.heap.size, 3, none⟩ (.slice sa sn sc) = wz at *
            simp only [List.setIfInBounds_toArray, List.set_cons_zero, List.set_cons_succ] at HRS
            have r0 := HRS.out.cell 0
            have r1 := HRS.out.cell 1
            have r2 := HRS.out.cell 2
            have r3 := HRS.out.cell 3
            simp only [List.getElem?_toArray, List.getElem?_cons_zero, List.getElem?_cons_succ] at r0 r1 r2 r3
            (try simp only [Exit.inBlock, Exit.then])
            refine bodyPost_ret (v := .tuple #[.agg #[.int .i64 K, .int .i64 p, .int .i64 c, .slice sa sn sc], .bool true]) (by rw [results_cell_tmp rfl]; go_simp) rfl ?_
            exact ⟨_, ⟨K, p, c, ws⟩, true, rfl, HAns.out, ⟨_, rfl, Bs.Own.low HOS.out (by omega)⟩, hbs⟩
end Go.Proofs.YtfkppgnffhbfjaaDoor.PAmI
