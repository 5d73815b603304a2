/- One line of members: the program's reading. For it: the table of powers of ten and the two errors that strconv reads are as their initialisers lay them. -/
import Derived.Test.YtneecokjhmnagaaDoorPMem
import Derived.Test.YtneecokjhmnagaaDoorSplI
import Derived.Test.YtneecokjhmnagaaDoorPLMember
import Derived.Test.YtneecokjhmnagaaDoorPInt
import Derived.Test.YtneecokjhmnagaaDoorBx
import Derived.BigQuiet
namespace Go.Proofs.YtneecokjhmnagaaDoor.PMemI
open Go.RowKit Bs SplitMath SplitL NumMath Mem MLine PMem PLMember
set_option linter.unusedVariables false
theorem below_grow (w : World) (k : Nat) (os : Array Obj) : Below w.heap.size w (Sort.grow (w.drewN k) os) :=
  ⟨rfl, rfl, rfl, by show w.heap.size ≤ (w.heap ++ os).size; simp, fun i hi => by show (w.heap ++ os)[i]? = _; rw [Array.getElem?_append_left hi]⟩
theorem itoaN (n : Int) (w : World) (h0 : -999999 ≤ n) (h1 : n ≤ 999999) (vp : Laid.Pow w) :
    Calls Tryd.prog 66 #[.int .i64 n] w fun e w' => e = .returned (.string (num n)) ∧ Below w.heap.size w w' :=
  (Tryd.strconv_Itoa n (by omega) (by omega) w vp).mono fun e w' ⟨he, k, os, hk⟩ => ⟨he, by subst hk; exact below_grow w k os⟩
theorem eq_list {a b : ByteArray} {v : Bool} (h : (a.toList == b.toList) = v) : (v = true → a.data.toList = b.data.toList) ∧ (v = false → a.data.toList ≠ b.data.toList) := by
  have e1 : a.toList = a.data.toList := ByteArray.toList_eq ..
  have e2 : b.toList = b.data.toList := ByteArray.toList_eq ..
  rw [e1, e2] at h
  refine ⟨fun hv => ?_, fun hv => ?_⟩
  · rw [hv] at h; simpa using h
  · rw [hv] at h; simpa using h
set_option maxRecDepth 100000 in
set_option maxHeartbeats 3200000 in
theorem parseMember (s : ByteArray) (w : World) (hs : s.size ≤ 4000) (vp : Laid.Pow w) (vr : Laid.Err "strconv.ErrRange" w) (vs : Laid.Err "strconv.ErrSyntax" w) :
    Calls Tryd.prog 43 #[.string s] w (PPost P s w) := by
  obtain ⟨ws, hws⟩ : ∃ ws, ws = splitOf s.data.toList 32 := ⟨_, rfl⟩
  obtain ⟨n, hn⟩ : ∃ n, n = ws.length := ⟨_, rfl⟩
  have HSp := Lib.hid (fun W => SplI.split s 32 ws n hws.symm hn.symm W hs)
  have HW := Lib.hid hws.symm
  have HN := Lib.hid hn.symm
  have hnn : n ≤ 4001 := by
    have h1 := splitOf_length s.data.toList 32
    rw [← hws] at h1
    have h2 : s.data.toList.length ≤ 4000 := by rw [Array.length_toList]; exact hs
    omega
  have HPc := Lib.hid (show ∀ x ∈ ws, x.length ≤ 4000 from fun x hx => by
    have h1 := PInt.piece_le (l := s.data.toList) (c := 32) (x := x) (by rw [← hws]; exact hx)
    have h2 : s.data.toList.length ≤ 4000 := by rw [Array.length_toList]; exact hs
    omega)
  have HCl := Lib.hid (show ∀ x ∈ ws, ∀ b ∈ x, b ≠ 32 from fun x hx => piece_clean (c := 32) s.data.toList x (by rw [← hws]; exact hx))
  clear hws hn
  unfold SplI.SP at HSp
  have HVP := Lib.hid vp
  have HVR := Lib.hid vr
  have HVS := Lib.hid vs
  clear vp vr vs
  have hb0 := (Below.refl w.heap.size w).alloc (Nat.le_refl _) (Obj.cells #[.int .i64 0, .string ⟨#[]⟩, .int .i64 0] 60)
  have HR0 := Lib.hid (Bx.new w 60 #[.int .i64 0, .string ⟨#[]⟩, .int .i64 0])
  go_enter Tryd.func43, Tryd.ntmps43
  go_wp2_with fail
  refine (HSp.out _).mono ?_
  rintro e w1 ⟨g, c, rfl, hc0, hc1, hg0, hg1, hcell, hb1⟩
  have hb2 := hb0.trans (hb1.mono hb0.size)
  have hRg : w.heap.size < g := by simp at hg0; omega
  have hRw : w.heap.size ≤ w.heap.size := Nat.le_refl _
  have HR := Lib.hid (HR0.out.kept hb1)
  unfold maxLen at hc1
  clear hb0 hb1 HR0 hg0
  obtain ⟨R, hR⟩ : ∃ R, R = w.heap.size := ⟨_, rfl⟩
  rw [← hR] at HR hRg ⊢
  have HRe := Lib.hid hR
  have hRw : w.heap.size ≤ R := by omega
  clear hR
  by_cases h2 : 2 ≤ n
  · obtain ⟨w0, hw0⟩ : ∃ x, ws[0]? = some x := ⟨_, List.getElem?_eq_getElem (by have := HN.out; omega)⟩
    obtain ⟨x1, hw1⟩ : ∃ x, ws[1]? = some x := ⟨_, List.getElem?_eq_getElem (by have := HN.out; omega)⟩
    obtain ⟨X0, hX0⟩ : ∃ X : ByteArray, X = ⟨w0.toArray⟩ := ⟨_, rfl⟩
    obtain ⟨X1, hX1⟩ : ∃ X : ByteArray, X = ⟨x1.toArray⟩ := ⟨_, rfl⟩
    have p0 := hcell 0 w0 hw0
    have p1 := hcell 1 x1 hw1
    rw [← hX0] at p0
    rw [← hX1] at p1
    have HX0 := Lib.hid (show X0.data.toList = w0 by rw [hX0])
    have HX1 := Lib.hid (show X1.data.toList = x1 by rw [hX1])
    have HX1b := Lib.hid hX1
    have h0s : X0.size ≤ 4000 := by
      have : X0.size = X0.data.toList.length := (Array.length_toList (xs := X0.data)).symm
      rw [this, HX0.out]; exact HPc.out w0 (List.mem_of_getElem? hw0)
    have h1s : X1.size ≤ 4000 := by
      have : X1.size = X1.data.toList.length := (Array.length_toList (xs := X1.data)).symm
      rw [this, HX1.out]; exact HPc.out x1 (List.mem_of_getElem? hw1)
    have HPI := Lib.hid (fun W (h : Below w.heap.size w W) => PInt.parseInt X0 W (by omega) (HVP.out.below h) (HVR.out.below h) (HVS.out.below h))
    unfold PInt.RI at HPI
    have HCl1 := Lib.hid (HCl.out x1 (List.mem_of_getElem? hw1))
    have HC2 := Lib.hid (hcell 2)
    have HW0 := Lib.hid hw0
    have HW1 := Lib.hid hw1
    clear hX0 hX1 hcell hw0 hw1 HCl HPc HSp
    go_wp2_with fail
    refine (HPI.out _ hb2).mono ?_
    rintro e w2 ⟨m, okn, rfl, hnum, hb3⟩
    have hm0 : -999999 ≤ m ∧ m ≤ 999999 := by
      rcases hnum with h | ⟨_, h⟩
      · exact ⟨h.1, h.2.1⟩
      · omega
    have HNum := Lib.hid hnum
    have hb4 := hb2.trans (hb3.mono hb2.size)
    replace HR := Lib.hid (HR.out.kept hb3)
    have HBl := Lib.hid (hb3.block g hg1)
    have p1' : w2.cell? ⟨g, 1, none⟩ = some (.string X1) := by rw [World.cell?_of_block (a := ⟨g, 1, none⟩) HBl.out]; exact p1
    have hg2 : g < w2.heap.size := Nat.lt_of_lt_of_le hg1 hb3.size
    clear hnum hb2 hb3 p0 p1 HPI
    go_wp2_with fail
    have HM0 := Lib.hid (Bx.new w2 60 #[.int .i64 m, .string X1, .int .i64 0])
    replace HR := Lib.hid (HR.out.alloc (Obj.cells #[.int .i64 m, .string X1, .int .i64 0] 60))
    have HBl3 := Lib.hid ((Below.heap_alloc w2 (Obj.cells #[.int .i64 m, .string X1, .int .i64 0] 60) g hg2).trans HBl.out)
    have hb5 := hb4.alloc hb4.size (Obj.cells #[.int .i64 m, .string X1, .int .i64 0] 60)
    have hG1 : w2.heap.size < (w2.alloc (Obj.cells #[.int .i64 m, .string X1, .int .i64 0] 60)).heap.size := by simp
    have hRG : R ≠ w2.heap.size := by omega
    have hGg : w2.heap.size ≠ g := by omega
    have hGw : w.heap.size ≤ w2.heap.size := hb4.size
    clear p1' hb4 HBl
    generalize w2.alloc (Obj.cells #[.int .i64 m, .string X1, .int .i64 0] 60) = w3 at *
    generalize w2.heap.size = G at *
    obtain ⟨has, hhas⟩ : ∃ has, has = decide (2 < n) := ⟨_, rfl⟩
    obtain ⟨x2, hx2⟩ : ∃ x, has = true → ws[2]? = some x := by
      by_cases h3 : 2 < n
      · exact ⟨ws[2]'(by have := HN.out; omega), fun _ => List.getElem?_eq_getElem _⟩
      · exact ⟨[], fun h => by rw [hhas, decide_eq_false h3] at h; cases h⟩
    have HX2 := Lib.hid hx2
    have HHas := Lib.hid hhas
    clear hx2 hhas
    go_loopw [9] (fun q wr => ∃ k : Nat, 1 ≤ k ∧ k ≤ 4 ∧ q = .int .i64 k ∧ Hid (Bx wr R 60 #[.int .i64 0, .string ⟨#[]⟩, .int .i64 0]) ∧ Hid (Bx wr G 60 #[.int .i64 m, .string X1, .int .i64 (lastO has x2 (k - 1))]) ∧ Hid (wr.heap[g]? = w1.heap[g]?) ∧ Below w.heap.size w wr) (fun q _ => (4 - intOf q).toNat)
    case atStart => exact ⟨1, by omega, by omega, rfl, HR, HM0, HBl3, hb5⟩
    case round =>
      clear HR HM0 HBl3 hb5 hG1
      obtain ⟨k, hk1, hk4, rfl, HR, HMx, HBl, hb⟩ := hrel
      obtain ⟨j, rfl⟩ : ∃ j, k = j + 1 := ⟨k - 1, by omega⟩
      rw [Nat.add_sub_cancel] at HMx
      have hj : j ≤ 3 := by omega
      have kk : ((j + 1 : Nat) : Int) = (j : Int) + 1 := by omega
      rw [kk]
      clear kk hk1 hk4
      by_cases hj3 : j < 3
      · have hb' := fun nq => hb.trans ((drawn_below wr nq).mono hb.size)
        cases has with
        | false =>
          have h3 : ¬ 2 < n := fun h => by have := HHas.out; rw [decide_eq_true h] at this; cases this
          have hd : decide ((2 : Int) < (n : Int)) = false := decide_eq_false (by omega)
          have HL := Lib.hid (show lastO false x2 j = lastO false x2 (j + 1) by rw [lastO_no, lastO_no])
          rw [HL.out] at HMx
          go_wp2_with fail
          go_quiet (fail)
          go_wp2_with fail
          go_roundw
          case rel => exact ⟨j + 1 + 1, by omega, by omega, by go_num, HR, HMx, HBl, hb' _⟩
          case measure => simp [intOf]; omega
        | true =>
          have h3 : 2 < n := of_decide_eq_true HHas.out.symm
          obtain ⟨X2, hX2⟩ : ∃ X : ByteArray, X = ⟨x2.toArray⟩ := ⟨_, rfl⟩
          have HXl := Lib.hid (show X2.data.toList = x2 by rw [hX2])
          have p2 : wr.cell? ⟨g, 2, none⟩ = some (.string X2) := by
            rw [World.cell?_of_block (a := ⟨g, 2, none⟩) HBl.out, hX2]
            exact HC2.out x2 (HX2.out rfl)
          have hd : decide ((2 : Int) < (n : Int)) = true := decide_eq_true (by omega)
          have HOf := Lib.hid (fun W => officeWord ((j : Int) + 1) W)
          have HwO := Lib.hid (show (offW ((j : Int) + 1)).data.toList = wO ((j : Int) + 1) from rfl)
          have HLs := Lib.hid (show lastO true x2 (j + 1) = if true = true ∧ x2 = wO ((j + 1 : Nat) : Int) then ((j + 1 : Nat) : Int) else lastO true x2 j from rfl)
          clear hX2
          generalize offW ((j : Int) + 1) = OW at *
          cases he : (X2.toList == OW.toList) with
          | false =>
            have HL := Lib.hid (show lastO true x2 j = lastO true x2 (j + 1) by
              rw [HLs.out, if_neg (fun h => (eq_list he).2 rfl (by rw [HXl.out, HwO.out]; exact h.2))])
            rw [HL.out] at HMx
            go_wp2_with fail
            go_quiet ((go_at_call 67; exact quiet_eq (HOf.out _)))
            go_wp2_with fail
            go_roundw
            case rel => exact ⟨j + 1 + 1, by omega, by omega, by go_num, HR, HMx, HBl, hb' _⟩
            case measure => simp [intOf]; omega
          | true =>
            have HL := Lib.hid (show lastO true x2 (j + 1) = (j : Int) + 1 by
              rw [HLs.out, if_pos ⟨rfl, by have := (eq_list he).1 rfl; rw [HXl.out, HwO.out] at this; exact this⟩]; omega)
            have f2 := HMx.out.frozen 2
            have c2 := HMx.out.cell 2
            simp only [List.getElem?_toArray, List.getElem?_cons_zero, List.getElem?_cons_succ] at c2
            have HM2 := Lib.hid (fun nq => show Bx ((wr.drewN nq).setCell ⟨G, 2, none⟩ (.int .i64 ((j : Int) + 1))) G 60 #[.int .i64 m, .string X1, .int .i64 (lastO true x2 (j + 1))] by
              rw [HL.out]
              exact Bx.set_ (show Bx (wr.drewN nq) G _ _ from HMx.out) 2 (.int .i64 ((j : Int) + 1)))
            have HR2 := Lib.hid (fun nq => Bx.far (p := ⟨G, 2, none⟩) (show Bx (wr.drewN nq) R _ _ from HR.out) hRG (.int .i64 ((j : Int) + 1)))
            have HBl2 := Lib.hid (fun nq => show ((wr.drewN nq).setCell ⟨G, 2, none⟩ (.int .i64 ((j : Int) + 1))).heap[g]? = w1.heap[g]? from (Below.heap_setCell (wr.drewN nq) ⟨G, 2, none⟩ (.int .i64 ((j : Int) + 1)) g (fun h => hGg h.symm)).trans HBl.out)
            have hb2 := fun nq => (hb' nq).setCell (p := ⟨G, 2, none⟩) hGw (.int .i64 ((j : Int) + 1))
            go_wp2_with fail
            go_quiet ((go_at_call 67; exact quiet_eq (HOf.out _)))
            go_wp2_with fail
            go_roundw
            case rel => exact ⟨j + 1 + 1, by omega, by omega, by go_num, Lib.hid (HR2.out _), Lib.hid (HM2.out _), Lib.hid (HBl2.out _), hb2 _⟩
            case measure => simp [intOf]; omega
      · obtain rfl : j = 3 := by omega
        have hlb := lastO_bd (has := has) (w := x2) 3 (by omega)
        have HFd := Lib.hid (fun q hq => impl_found (q := q) HW.out HW0.out HW1.out (by rw [HN.out]; exact HHas.out) HX2.out (by rw [← HX0.out]; exact HNum.out) hq)
        generalize lastO has x2 3 = O at *
        have k0 := HMx.out.cell 0
        have k1 := HMx.out.cell 1
        have k2 := HMx.out.cell 2
        simp only [List.getElem?_toArray, List.getElem?_cons_zero, List.getElem?_cons_succ] at k0 k1 k2
        have HML := Lib.hid (MLine.memberLine ⟨m, X1, O⟩ wr hm0.1 hm0.2 (by show X1.size ≤ 1048576; omega) hlb (fun W hW => itoaN m W hm0.1 hm0.2 (HVP.out.below (hb.trans (hW.mono hb.size)))))
        have HQ := Lib.hid (show Q ⟨m, X1, O⟩ from ⟨hm0, hlb, by show ∀ b ∈ X1.data.toList, b ≠ 32; rw [HX1.out]; exact HCl1.out⟩)
        have HLe := Lib.hid (show (lineM ⟨m, X1, O⟩).data.toList = ln ⟨m, X1, O⟩ from rfl)
        obtain ⟨LM, hLM⟩ : ∃ L, L = lineM ⟨m, X1, O⟩ := ⟨_, rfl⟩
        rw [← hLM] at HML HLe
        have HFd2 := Lib.hid (show ∀ q, P s.data.toList q → (⟨m, X1, O⟩ : Mem.M) = q from fun q hq => by
          have := HFd.out q hq
          rw [← HX1b.out] at this; exact this)
        clear hLM hlb HFd
        go_wp2_with fail
        refine HML.out.mono ?_
        rintro e w4 ⟨rfl, hb4⟩
        have hb6 := hb.trans (hb4.mono hb.size)
        have HM4 := Lib.hid (HMx.out.kept hb4)
        replace HR := Lib.hid (HR.out.kept hb4)
        clear hb hb4 HMx HML k0 k1 k2 HBl
        have k0 := HM4.out.cell 0
        have k1 := HM4.out.cell 1
        have k2 := HM4.out.cell 2
        simp only [List.getElem?_toArray, List.getElem?_cons_zero, List.getElem?_cons_succ] at k0 k1 k2
        cases he : (LM.toList == s.toList) with
        | true =>
          have HPy := Lib.hid (show P s.data.toList ⟨m, X1, O⟩ from ⟨HQ.out, by rw [← HLe.out]; exact (eq_list he).1 rfl⟩)
          have r0 := HR.out.cell 0
          have r1 := HR.out.cell 1
          have r2 := HR.out.cell 2
          have f0 := HR.out.frozen 0
          have f1 := HR.out.frozen 1
          have f2 := HR.out.frozen 2
          simp only [List.getElem?_toArray, List.getElem?_cons_zero, List.getElem?_cons_succ] at r0 r1 r2
          have HRS := Lib.hid (show Bx _ _ 60 #[.int .i64 m, .string X1, .int .i64 O] from Bx.set_ (Bx.set_ (Bx.set_ HR.out 0 (.int .i64 m)) 1 (.string X1)) 2 (.int .i64 O))
          have hbs := (((hb6).setCell (p := ⟨R, 0, none⟩) hRw (.int .i64 m)).setCell (p := ⟨R, 1, none⟩) hRw (.string X1)).setCell (p := ⟨R, 2, none⟩) hRw (.int .i64 O)
          go_wp2_with fail
          clear r0 r1 r2 f0 f1 f2
          generalize ((w4.setCell ⟨R, 0, none⟩ (.int .i64 m)).setCell ⟨R, 1, none⟩ (.string X1)).setCell ⟨R, 2, none⟩ (.int .i64 O) = wz at *
          have r0 := HRS.out.cell 0
          have r1 := HRS.out.cell 1
          have r2 := HRS.out.cell 2
          simp only [List.getElem?_toArray, List.getElem?_cons_zero, List.getElem?_cons_succ] at r0 r1 r2
          (try simp only [Exit.inBlock, Exit.then])
          refine bodyPost_ret (v := .tuple #[.agg #[.int .i64 m, .string X1, .int .i64 O], .bool true]) (by rw [results_cell_tmp rfl]; go_simp) rfl ?_
          exact ⟨⟨m, X1, O⟩, true, rfl, fun _ => HPy.out, (fun h => by cases h), hbs⟩
        | false =>
          have HNo := Lib.hid (show ∀ q, ¬ P s.data.toList q from fun q hq => (eq_list he).2 rfl (by rw [HLe.out, HFd2.out q hq]; exact hq.2))
          clear k0 k1 k2
          have r0 := HR.out.cell 0
          have r1 := HR.out.cell 1
          have r2 := HR.out.cell 2
          have f0 := HR.out.frozen 0
          have f1 := HR.out.frozen 1
          have f2 := HR.out.frozen 2
          simp only [List.getElem?_toArray, List.getElem?_cons_zero, List.getElem?_cons_succ] at r0 r1 r2
          have HRS := Lib.hid (show Bx _ _ 60 #[.int .i64 0, .string ⟨#[]⟩, .int .i64 0] from Bx.set_ (Bx.set_ (Bx.set_ HR.out 0 (.int .i64 0)) 1 (.string ⟨#[]⟩)) 2 (.int .i64 0))
          have hbs := (((hb6).setCell (p := ⟨R, 0, none⟩) hRw (.int .i64 0)).setCell (p := ⟨R, 1, none⟩) hRw (.string ⟨#[]⟩)).setCell (p := ⟨R, 2, none⟩) hRw (.int .i64 0)
          go_wp2_with fail
          clear r0 r1 r2 f0 f1 f2
          generalize ((w4.setCell ⟨R, 0, none⟩ (.int .i64 0)).setCell ⟨R, 1, none⟩ (.string ⟨#[]⟩)).setCell ⟨R, 2, none⟩ (.int .i64 0) = wz at *
          have r0 := HRS.out.cell 0
          have r1 := HRS.out.cell 1
          have r2 := HRS.out.cell 2
          simp only [List.getElem?_toArray, List.getElem?_cons_zero, List.getElem?_cons_succ] at r0 r1 r2
          (try simp only [Exit.inBlock, Exit.then])
          refine bodyPost_ret (v := .tuple #[.agg #[.int .i64 0, .string ⟨#[]⟩, .int .i64 0], .bool false]) (by rw [results_cell_tmp rfl]; go_simp) rfl ?_
          exact ⟨⟨0, ⟨#[]⟩, 0⟩, false, rfl, (fun h => by cases h), fun _ => HNo.out, hbs⟩
  · have HNo := Lib.hid (few_words (s := s.data.toList) (by rw [HW.out, HN.out]; exact h2))
    have hn1 : (n : Int) ≤ 1 := by omega
    have r0 := HR.out.cell 0
    have r1 := HR.out.cell 1
    have r2 := HR.out.cell 2
    have f0 := HR.out.frozen 0
    have f1 := HR.out.frozen 1
    have f2 := HR.out.frozen 2
    simp only [List.getElem?_toArray, List.getElem?_cons_zero, List.getElem?_cons_succ] at r0 r1 r2
    have HRS := Lib.hid (show Bx _ _ 60 #[.int .i64 0, .string ⟨#[]⟩, .int .i64 0] from Bx.set_ (Bx.set_ (Bx.set_ HR.out 0 (.int .i64 0)) 1 (.string ⟨#[]⟩)) 2 (.int .i64 0))
    have hbs := (((hb2).setCell (p := ⟨R, 0, none⟩) hRw (.int .i64 0)).setCell (p := ⟨R, 1, none⟩) hRw (.string ⟨#[]⟩)).setCell (p := ⟨R, 2, none⟩) hRw (.int .i64 0)
    go_wp2_with fail
    clear r0 r1 r2 f0 f1 f2
    generalize ((w1.setCell ⟨R, 0, none⟩ (.int .i64 0)).setCell ⟨R, 1, none⟩ (.string ⟨#[]⟩)).setCell ⟨R, 2, none⟩ (.int .i64 0) = wz at *
    have r0 := HRS.out.cell 0
    have r1 := HRS.out.cell 1
    have r2 := HRS.out.cell 2
    simp only [List.getElem?_toArray, List.getElem?_cons_zero, List.getElem?_cons_succ] at r0 r1 r2
    (try simp only [Exit.inBlock, Exit.then])
    refine bodyPost_ret (v := .tuple #[.agg #[.int .i64 0, .string ⟨#[]⟩, .int .i64 0], .bool false]) (by rw [results_cell_tmp rfl]; go_simp) rfl ?_
    exact ⟨⟨0, ⟨#[]⟩, 0⟩, false, rfl, (fun h => by cases h), fun _ => HNo.out, hbs⟩
end Go.Proofs.YtneecokjhmnagaaDoor.PMemI
