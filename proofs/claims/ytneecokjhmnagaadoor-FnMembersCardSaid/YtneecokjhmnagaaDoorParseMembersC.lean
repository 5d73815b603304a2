/- ParseMembers, model and program: what both answer. For the program's: the table of powers of ten and the two errors that strconv reads are as their initialisers lay them. -/
import Derived.Test.YtneecokjhmnagaaDoorPMem
import Derived.Test.YtneecokjhmnagaaDoorPMemI
import Derived.Test.YtneecokjhmnagaaDoorRead
import Derived.Test.YtneecokjhmnagaaDoorSplA
import Derived.Test.YtneecokjhmnagaaDoorAppA
import Derived.Test.YtneecokjhmnagaaDoorMemI
import Derived.BigQuiet
import Derived.Deep.DeepCutAuto
import Derived.Deep.CutBlock
namespace Go.Proofs.YtneecokjhmnagaaDoor.ParseMembersC
open Go.RowKit Bs SplitMath SplitL Word PMem NumMath
set_option linter.unusedVariables false
abbrev Ans := PMem.Ans
noncomputable abbrev good := Mem.goodB
abbrev text := MLine.textM
theorem same {s : ByteArray} {r0 s0 : List LMember.R} {r1 s1 : Bool} (h : Ans s r0 r1) (h' : Ans s s0 s1) : r0 = s0 ∧ r1 = s1 := PMem.same h h'
theorem len0 {s : ByteArray} {r0 : List LMember.R} {r1 : Bool} (h : Ans s r0 r1) : r0.length ≤ 1048576 := PMem.len0 h
def APost (a0 : ByteArray) (w : World) (e : Ending) (w' : World) : Prop :=
  ∃ v0 r0 r1, e = .returned (.tuple #[v0, .bool r1]) ∧ Ans a0 r0 r1 ∧ Bs.Own LMember.rec 60 w' w.heap.size v0 r0 ∧ Below w.heap.size w w'
theorem fine_of {r : LMember.R} (n : Nat) (h : r.name.size ≤ n) (hn : n ≤ 1048576) : LMember.Fine r := by show r.name.size ≤ maxLen; unfold maxLen; omega
theorem arr_size (l : List UInt8) : (⟨l.toArray⟩ : ByteArray).size = l.length := by show l.toArray.size = _; simp
theorem fineS {ls : List (List UInt8)} {ys : List LMember.R} (hl : ∀ l ∈ ls, l.length ≤ 1048576) (h : Reads RdS ls ys) : ∀ x ∈ ys, LMember.Fine x := fun x hx => by
  obtain ⟨i, hi, rfl⟩ := List.mem_iff_getElem.1 hx
  have hi2 : i < ls.length := by rw [h.1]; exact hi
  have h1 := hl _ (List.getElem_mem hi2)
  rcases h.2 i _ _ (List.getElem?_eq_getElem hi2) (List.getElem?_eq_getElem hi) with ⟨a, b, e, _, hn, _⟩ | ⟨a, b, c, e, _, hn, _⟩
  · have h2 := PInt.piece_le (l := ls[i]) (c := 32) (x := b) (by rw [e]; simp)
    exact fine_of _ (by rw [hn, arr_size]; exact Nat.le_refl _) (by omega)
  · have h2 := PInt.piece_le (l := ls[i]) (c := 32) (x := b) (by rw [e]; simp)
    exact fine_of _ (by rw [hn, arr_size]; exact Nat.le_refl _) (by omega)
theorem fine1 {l : List UInt8} {r : LMember.R} (hl : l.length ≤ 4000) (h : P l r) : LMember.Fine r := by
  have h1 := h.2
  have h2 : r.name.data.toList.length ≤ l.length := by rw [← h1, ln_list, List.length_append, List.length_cons, List.length_append]; omega
  have h3 : r.name.data.toList.length = r.name.size := Array.length_toList
  exact fine_of r.name.size (Nat.le_refl _) (by omega)
theorem goodS (v : Value) (xs : List LMember.R) (w : World) (h : Is LMember.rec w v xs) (f : ∀ x ∈ xs, LMember.Fine x) : Calls Tryd.prog 34 #[v] w fun e w' => e = .returned (.bool (good xs)) ∧ Below w.heap.size w w' :=
  MemG.l3Good v xs w h f
theorem textS (v : Value) (xs : List LMember.R) (w : World) (h : Is LMember.rec w v xs) (hg : good xs = true) : Calls Tryd.prog 41 #[v] w fun e w' => e = .returned (.string (text xs)) ∧ Below w.heap.size w w' :=
  MLine.l3Text v xs w h (MLine.all_ok hg) (Mem.good_of hg).1
theorem validI (v : Value) (xs : List LMember.R) (w : World) (h : Is LMember.rec w v xs) (f : ∀ x ∈ xs, LMember.Fine x) : Calls Tryd.prog 11 #[v] w (PLMember.VPost good xs w) :=
  MemI.isValidMembers v xs w h f
theorem eq_no {a b : ByteArray} (h : (a.toList == b.toList) = false) : a ≠ b := fun e => by rw [e] at h; simp at h
theorem eq_yes {a b : ByteArray} (h : (a.toList == b.toList) = true) : a = b := by
  have h1 : a.toList = b.toList := by simpa using h
  rw [ByteArray.toList_eq, ByteArray.toList_eq] at h1
  apply ByteArray.ext
  exact Array.toList_inj.1 h1
set_option maxRecDepth 100000 in
set_option maxHeartbeats 3200000 in
theorem spec (a0 : ByteArray) (w : World) (hs0 : a0.size ≤ 1048576) :
    Calls Tryd.prog 19 #[.string a0] w (APost a0 w) := by
  obtain ⟨i0, hi, hz0, hz1, hz2⟩ := info_parts LMember.infoK
  have HI0 := Lib.hid hi
  have HZ0 := Lib.hid (And.intro hz0 (And.intro hz1 hz2))
  clear hi hz0 hz1 hz2
  obtain ⟨ls, z, hlz⟩ : ∃ ls z, splitOf a0.data.toList 10 = ls ++ [z] := EndL.snoc_ex (by simp [splitOf])
  obtain ⟨n, hn⟩ : ∃ n, n = ls.length := ⟨_, rfl⟩
  have HSp := Lib.hid (fun W => SplA.split a0 10 10 rfl (ls ++ [z]) (n + 1) hlz (by rw [List.length_append, hn]; rfl) W hs0)
  have HL := Lib.hid hlz
  have HN := Lib.hid hn.symm
  have hle := splitOf_length a0.data.toList 10
  rw [hlz, List.length_append] at hle
  have hn2 : n ≤ 1048576 := by have h2 : a0.data.toList.length ≤ 1048576 := (by rw [Array.length_toList]; exact hs0); have h3 : [z].length = 1 := rfl; omega
  have HLs := Lib.hid (show ∀ l ∈ ls, l.length ≤ 1048576 from fun l hl => by
    have h1 := PInt.piece_le (l := a0.data.toList) (c := 10) (x := l) (by rw [hlz]; simp [hl])
    rw [Array.length_toList] at h1
    exact Nat.le_trans h1 hs0)
  clear hlz hn hle
  have HO0 := Lib.hid (Bs.Own.start (T := LMember.rec) (E := 60) (w := w) (Nat.le_refl _))
  have hb0 := (Below.refl w.heap.size w).alloc (Nat.le_refl _) (Obj.cells #[] 60)
  unfold SplA.SP at HSp
  by_cases h3 : 400 < a0.size
  · have HA := Lib.hid (show Ans a0 [] false from ans_none fun q hg ht => by have := (found hg ht).1; omega)
    go_enter Tryd.func19, Tryd.ntmps19
    go_wp2_with fail
    go_ret2
    exact ⟨_, [], false, rfl, HA.out, HO0.out, hb0⟩
  · go_enter Tryd.func19, Tryd.ntmps19
    go_wp2_with fail
    refine (HSp.out _).mono ?_
    rintro e w1 ⟨g0, c0, rfl, hc0, hc1, hg0, hg1, hcell, hb1⟩
    have HCell := Lib.hid hcell
    have HO1 := Lib.hid (HO0.out.kept hb1)
    have hb2 := hb0.trans (hb1.mono hb0.size)
    unfold maxLen at hc1
    have s1 : IntKind.i64.wrap (((n + 1 : Nat) : Int) - 1) = (n : Int) := by rw [IntWalk.i64_in _ (by omega)]; omega
    have s2 : IntKind.i64.wrap ((n : Int) + 1 - 1) = (n : Int) := by rw [IntWalk.i64_in _ (by omega)]; omega
    have s3 : (n : Int) + 1 - 1 = (n : Int) := by omega
    have s4 : (n : Int) < (n : Int) + 1 := by omega
    have s6 : 0 ≤ (n : Int) := by omega
    have hgg : w.heap.size ≠ g0 := by simp at hg0; omega
    clear hcell HO0 hb0
    go_wp2_with fail
    go_loopw [4, 6] (fun v i wr => ∃ (k : Nat) (ys : List LMember.R) (g c : Nat), k ≤ n ∧ i = .int .i64 k ∧ v = .slice (some ⟨g, 0, none⟩) k c ∧ Hid (Bs.Own LMember.rec 60 wr w.heap.size (.slice (some ⟨g, 0, none⟩) k c) ys) ∧ Hid (Reads RdS (ls.take k) ys) ∧ g ≠ g0 ∧ Hid (wr.heap[g0]? = w1.heap[g0]?) ∧ w1.heap.size ≤ wr.heap.size ∧ Below w.heap.size w wr) (fun _ i _ => n - (intOf i).toNat)
    case atStart => exact ⟨0, [], _, _, Nat.zero_le _, rfl, rfl, HO1, Lib.hid reads_nil, hgg, Lib.hid rfl, Nat.le_refl _, hb2⟩
    case round =>
      clear HO1 hb2 hgg
      obtain ⟨k, ys, g, c, hk, rfl, rfl, HO, HR, hgg, HBl, hws, hb⟩ := hrel
      have HYL := Lib.hid (show ys.length = k by have := HR.out.1; rw [List.length_take] at this; have := HN.out; omega)
      by_cases hlt : k < n
      · have hx : k < ls.length := by have := HN.out; omega
        obtain ⟨L, hL⟩ : ∃ L, L = ls[k] := ⟨_, rfl⟩
        have HLk := Lib.hid (show ls[k]? = some L by rw [hL]; exact List.getElem?_eq_getElem hx)
        have HTk := Lib.hid (show ls.take (k + 1) = ls.take k ++ [L] by rw [hL]; exact List.take_succ_eq_append_getElem hx)
        obtain ⟨X, hX⟩ : ∃ X : ByteArray, X = ⟨L.toArray⟩ := ⟨_, rfl⟩
        have HXL := Lib.hid (show X.data.toList = L by rw [hX])
        have HXe := Lib.hid hX
        have q0 : wr.cell? ⟨g0, k, none⟩ = some (.string X) := by
          rw [World.cell?_of_block (a := ⟨g0, k, none⟩) HBl.out, hX]
          exact HCell.out k L (by rw [List.getElem?_append_left hx]; exact HLk.out)
        have hXs : X.size ≤ 1048576 := by
          have h1 := HLs.out L (by rw [hL]; exact List.getElem_mem hx)
          have : X.size = X.data.toList.length := (Array.length_toList (xs := X.data)).symm
          rw [this, HXL.out]; exact h1
        obtain ⟨ws, hws2⟩ : ∃ ws, ws = splitOf L 32 := ⟨_, rfl⟩
        obtain ⟨p, hp⟩ : ∃ p, p = ws.length := ⟨_, rfl⟩
        have HSx := Lib.hid (SplA.split X 32 32 rfl ws p (by rw [HXL.out]; exact hws2.symm) hp.symm wr hXs)
        have HWs := Lib.hid hws2.symm
        have HPn := Lib.hid hp.symm
        have hpp : 1 ≤ p ∧ p ≤ 1048577 := by
          have h1 := splitOf_length L 32
          have h2 : X.size = X.data.toList.length := (Array.length_toList (xs := X.data)).symm
          have h3 : 0 < (splitOf L 32).length := by simp [splitOf]
          rw [HXL.out] at h2
          rw [hp, hws2]; omega
        unfold SplA.SP at HSx
        have k0 : 0 ≤ (k : Int) := by omega
        have k1 : (k : Int) < (n : Int) := by omega
        clear hL hX hws2 hp hx
        go_wp2_with fail
        refine HSx.out.mono ?_
        rintro e w2 ⟨g2, c2, rfl, hc2, hc3, hg2, hg3, hcw, hb3⟩
        have hbw := hb.trans (hb3.mono hb.size)
        have HO2 := Lib.hid (HO.out.kept hb3)
        have HBl2 := Lib.hid ((hb3.block g0 (by omega)).trans HBl.out)
        have hws3 : w1.heap.size ≤ w2.heap.size := Nat.le_trans hws hb3.size
        have hgA : w.heap.size ≤ g := (HO2.out.lt g rfl).1
        have hgw : g < wr.heap.size := (HO.out.lt g rfl).2
        unfold maxLen at hc3
        clear hb hb3 HO HBl q0 HSx hws
        obtain ⟨y0, hy0⟩ : ∃ x, ws[0]? = some x := ⟨_, List.getElem?_eq_getElem (by have := HPn.out; omega)⟩
        obtain ⟨Y0, hY0⟩ : ∃ Y : ByteArray, Y = ⟨y0.toArray⟩ := ⟨_, rfl⟩
        have p0 := hcw 0 y0 hy0
        rw [← hY0] at p0
        have HY0 := Lib.hid (show Y0.data.toList = y0 by rw [hY0])
        have hY0s : Y0.size ≤ maxLen := by
          have h1 := PInt.piece_le (l := L) (c := 32) (x := y0) (by rw [HWs.out]; exact List.mem_of_getElem? hy0)
          have h2 : X.size = X.data.toList.length := (Array.length_toList (xs := X.data)).symm
          have h3 : Y0.size = Y0.data.toList.length := (Array.length_toList (xs := Y0.data)).symm
          rw [HXL.out] at h2
          rw [HY0.out] at h3
          unfold maxLen; omega
        have HRd := Lib.hid (Read.l1Read Y0 w2 hY0s)
        unfold Read.PQ at HRd
        have HCw := Lib.hid hcw
        have Hy0 := Lib.hid hy0
        clear hY0 hy0 hcw hY0s
        go_wp2_with fail
        refine HRd.out.mono ?_
        rintro e w3 ⟨hrd, hb4⟩
        rw [HY0.out] at hrd
        have hbx := hbw.trans (hb4.mono hbw.size)
        have HO3 := Lib.hid (HO2.out.kept hb4)
        have HBl3 := Lib.hid ((hb4.block g0 (by omega)).trans HBl2.out)
        have hws4 : w1.heap.size ≤ w3.heap.size := Nat.le_trans hws3 hb4.size
        have HBw := Lib.hid (hb4.block g2 hg3)
        have hg4 : g2 < w3.heap.size := Nat.lt_of_lt_of_le hg3 hb4.size
        have hgw3 : g < w2.heap.size := by omega
        clear hbw hb4 HO2 HBl2 HRd p0
        rcases hrd with ⟨m, hm, rfl⟩ | ⟨hnm, rfl⟩
        · have HNm := Lib.hid hm
          cases hin : inB (p : Int) 2 3 with
          | false =>
            have HI := Lib.hid (fun W => in_as (p : Int) 2 3 false hin W)
            have HA := Lib.hid (show Ans a0 [] false from bad_line HL.out HLk.out (fun q hq => by
              rcases hq with ⟨a, b, e, _⟩ | ⟨a, b, c, e, _⟩
              · rw [HWs.out] at e; have h2 := HPn.out; rw [e] at h2; have h3 : p = 2 := h2.symm; exact inB_no hin (by omega)
              · rw [HWs.out] at e; have h2 := HPn.out; rw [e] at h2; have h3 : p = 3 := h2.symm; exact inB_no hin (by omega)))
            clear hin
            go_wp2_with fail
            refine (HI.out _).mono ?_
            rintro e _ ⟨rfl, rfl⟩
            have hb3 := hbx
            have HO := Lib.hid (Bs.Own.start (T := LMember.rec) (E := 60) (w := w3) hb3.size)
            have hbz := hb3.alloc hb3.size (Obj.cells #[] 60)
            go_wp2_with fail
            go_ret2
            exact ⟨_, [], false, rfl, HA.out, HO.out, hbz⟩
          | true =>
            have hp23 := inB_yes hin
            have HI := Lib.hid (fun W => in_as (p : Int) 2 3 true hin W)
            obtain ⟨y1, hy1⟩ : ∃ x, ws[1]? = some x := ⟨_, List.getElem?_eq_getElem (by have := HPn.out; omega)⟩
            obtain ⟨X1, hX1⟩ : ∃ Y : ByteArray, Y = ⟨y1.toArray⟩ := ⟨_, rfl⟩
            have HX1 := Lib.hid hX1
            have p1 : w3.cell? ⟨g2, 1, none⟩ = some (.string X1) := by
              rw [World.cell?_of_block (a := ⟨g2, 1, none⟩) HBw.out, hX1]
              exact HCw.out 1 y1 hy1
            have hX1s : X1.size ≤ 1048576 := by
              have h1 := PInt.piece_le (l := L) (c := 32) (x := y1) (by rw [HWs.out]; exact List.mem_of_getElem? hy1)
              have h2 : X.size = X.data.toList.length := (Array.length_toList (xs := X.data)).symm
              have h3 : X1.size = y1.length := by rw [hX1]; show y1.toArray.size = _; simp
              rw [HXL.out] at h2
              omega
            have Hy1 := Lib.hid hy1
            have hm0 : -999999 ≤ m ∧ m ≤ 999999 := ⟨hm.1, hm.2.1⟩
            have q0 : w3.cell? ⟨g0, k, none⟩ = some (.string X) := by
              rw [World.cell?_of_block (a := ⟨g0, k, none⟩) HBl3.out, HXe.out]
              exact HCell.out k L (by rw [List.getElem?_append_left (by have := HN.out; omega)]; exact HLk.out)
            clear hin hX1 hy1 hm HCw
            go_wp2_with fail
            refine (HI.out _).mono ?_
            rintro e _ ⟨rfl, rfl⟩
            have HG0 := Lib.hid (Bx.new w3 60 #[.int .i64 m, .string X1, .int .i64 0])
            have hbg := hbx.alloc hbx.size (Obj.cells #[.int .i64 m, .string X1, .int .i64 0] 60)
            have HO4 := Lib.hid (HO3.out.alloc (Obj.cells #[.int .i64 m, .string X1, .int .i64 0] 60))
            have HBl4 := Lib.hid ((Below.heap_alloc w3 (Obj.cells #[.int .i64 m, .string X1, .int .i64 0] 60) g0 (by omega)).trans HBl3.out)
            have q0' : (w3.alloc (Obj.cells #[.int .i64 m, .string X1, .int .i64 0] 60)).cell? ⟨g0, k, none⟩ = some (.string X) := by
              rw [World.cell?_of_block (a := ⟨g0, k, none⟩) (Below.heap_alloc w3 (Obj.cells #[.int .i64 m, .string X1, .int .i64 0] 60) g0 (by omega))]; exact q0
            have hGs : w3.heap.size < (w3.alloc (Obj.cells #[.int .i64 m, .string X1, .int .i64 0] 60)).heap.size := by simp
            have hGg : g < w3.heap.size := by omega
            have hG0 : g0 < w3.heap.size := by omega
            have hGA : w.heap.size ≤ w3.heap.size := hbx.size
            have hws5 : w1.heap.size ≤ (w3.alloc (Obj.cells #[.int .i64 m, .string X1, .int .i64 0] 60)).heap.size := by simp; omega
            go_upto_block 2 with fail
            clear p1 q0 hbx HO3 HBl3 HBw
            generalize w3.alloc (Obj.cells #[.int .i64 m, .string X1, .int .i64 0] 60) = w4 at *
            generalize w3.heap.size = G at *
            have HXd := Lib.hid (show L = X.data.toList from HXL.out.symm)
            go_cut [11] (fun _ wx => ∃ O : Int, Hid (Bx wx G 60 #[.int .i64 m, .string X1, .int .i64 O]) ∧ Hid ((p = 3 → O = firstO m X1 L) ∧ (p ≠ 3 → O = 0)) ∧ 0 ≤ O ∧ O ≤ 3 ∧ Hid (Apart G (G + 1) w4 wx))
            case first =>
              go_wp2_with fail
              go_loopw [11] (fun q wx => ∃ j : Nat, 1 ≤ j ∧ j ≤ 4 ∧ q = .int .i64 j ∧ Hid (Bx wx G 60 #[.int .i64 m, .string X1, .int .i64 0]) ∧ Hid (∀ o : Nat, 1 ≤ o → o < j → p = 3 → ln ⟨m, X1, (o : Int)⟩ ≠ L) ∧ Hid (Apart G (G + 1) w4 wx)) (fun q _ => (4 - intOf q).toNat)
              case atStart => exact ⟨1, by omega, by omega, rfl, HG0, Lib.hid (fun o h1 h2 => by omega), Lib.hid (Apart.refl _ _ _)⟩
              case round =>
                clear HG0
                obtain ⟨j, hj1, hj4, rfl, HGx, HNo, HAp⟩ := hrel
                by_cases hj : j < 4
                · have f2 := HGx.out.frozen 2
                  have c2 := HGx.out.cell 2
                  simp only [List.getElem?_toArray, List.getElem?_cons_zero, List.getElem?_cons_succ] at c2
                  have HGk := Lib.hid (show Bx (wr.setCell ⟨G, 2, none⟩ (.int .i64 (j : Int))) G 60 #[.int .i64 m, .string X1, .int .i64 (j : Int)] from Bx.set_ HGx.out 2 (.int .i64 (j : Int)))
                  have HApk := Lib.hid (HAp.out.set (p := ⟨G, 2, none⟩) (Nat.le_refl _) (Nat.lt_succ_self _) (.int .i64 (j : Int)))
                  have j1 : (j : Int) ≤ 3 := by omega
                  go_upto_region 17 with fail
                  clear f2 c2 HGx HAp
                  generalize wr.setCell ⟨G, 2, none⟩ (.int .i64 (j : Int)) = W at *
                  have f2 := HGk.out.frozen 2
                  have c2 := HGk.out.cell 2
                  simp only [List.getElem?_toArray, List.getElem?_cons_zero, List.getElem?_cons_succ] at c2
                  by_cases hp3 : p = 3
                  · have hd : ((p : Int) == 3) = true := by rw [beq_iff_eq]; omega
                    have hGW : G < W.heap.size := HGk.out.lt
                    have HAt := LMember.grown (LMember.at_of (r := ⟨m, X1, (j : Int)⟩) (w := W) (b := G) (p := 0) (HGk.out.cell 0) (HGk.out.cell 1) (HGk.out.cell 2)) hGW
                    have a0 := fun d os => (LMember.cells0 (HAt.out d os)).1
                    have a1 := fun d os => (LMember.cells0 (HAt.out d os)).2.1
                    have a2 := fun d os => (LMember.cells0 (HAt.out d os)).2.2
                    simp only at a0 a1 a2
                    have hqW : W.cell? ⟨g0, k, none⟩ = some (.string X) := by
                      rw [World.cell?_of_block (a := ⟨g0, k, none⟩) (HApk.out.block g0 (by omega) (.inl hG0))]; exact q0'
                    have hgW : g0 < W.heap.size := by omega
                    have hq := Lib.hid (fun d os => show (Sort.grow (redrawn W d) os).cell? ⟨g0, k, none⟩ = some (.string X) by rw [(below_regrown W d os).cell (p := ⟨g0, k, none⟩) hgW]; exact hqW)
                    have q1 := fun d os => hq.out d os
                    have HLM := Lib.hid (fun V => MLine.l3Line ⟨m, X1, (j : Int)⟩ V hm0.1 hm0.2 hX1s ⟨by show 0 ≤ (j : Int); omega, by show (j : Int) ≤ 3; omega⟩)
                    have HLe := Lib.hid (show (MLine.lineM ⟨m, X1, (j : Int)⟩).data.toList = ln ⟨m, X1, (j : Int)⟩ from rfl)
                    obtain ⟨LM, hLM⟩ : ∃ S, S = MLine.lineM ⟨m, X1, (j : Int)⟩ := ⟨_, rfl⟩
                    rw [← hLM] at HLM HLe
                    have hHP := Lib.hid hp3
                    clear hLM HAt hqW hq q0' hp3
                    cases he : (LM.toList == X.toList) with
                    | true =>
                      have HOk := Lib.hid (show (p = 3 → (j : Int) = firstO m X1 L) ∧ (p ≠ 3 → (j : Int) = 0) from ⟨fun _ => (firstO_at ⟨hj1, by omega⟩ (by rw [← HLe.out, HXd.out]; exact (PMemI.eq_list he).1 rfl) (fun o h1 h2 => HNo.out o h1 h2 hHP.out)).symm, fun h => absurd hHP.out h⟩)
                      refine wp_region_quiet_below (by kernel_rfl) (by kernel_rfl) ?_
                      repeat (go_big_quiet_step ((go_at_call 48; exact Calls.regrown_of (HLM.out _))))
                      refine wpQuiet_nil ?_
                      intro _ hw'
                      obtain ⟨⟨dq, osq⟩, hw''⟩ := hw'
                      subst hw''
                      have HGq := Lib.hid (HGk.out.kept (below_regrown W dq osq))
                      have HAq := Lib.hid (HApk.out.on (below_regrown W dq osq))
                      clear a0 a1 a2 q1 f2 c2
                      go_wp2_with fail
                      go_meet
                      exact ⟨(j : Int), HGq, HOk, by omega, by omega, HAq⟩
                    | false =>
                      have HNo2 := Lib.hid (show ∀ o : Nat, 1 ≤ o → o < j + 1 → p = 3 → ln ⟨m, X1, (o : Int)⟩ ≠ L from fun o h1 h2 h3 => by
                        rcases Nat.lt_or_ge o j with h4 | h4
                        · exact HNo.out o h1 h4 h3
                        · obtain rfl : o = j := by omega
                          rw [← HLe.out, HXd.out]; exact (PMemI.eq_list he).2 rfl)
                      refine wp_region_quiet_below (by kernel_rfl) (by kernel_rfl) ?_
                      repeat (go_big_quiet_step ((go_at_call 48; exact Calls.regrown_of (HLM.out _))))
                      refine wpQuiet_nil ?_
                      intro _ hw'
                      obtain ⟨⟨dq, osq⟩, hw''⟩ := hw'
                      subst hw''
                      have HGq := Lib.hid (HGk.out.kept (below_regrown W dq osq))
                      have HAq := Lib.hid (HApk.out.on (below_regrown W dq osq))
                      clear a0 a1 a2 q1 f2 c2 HGk HApk
                      generalize Sort.grow (redrawn W dq) osq = V at *
                      have f2 := HGq.out.frozen 2
                      have c2 := HGq.out.cell 2
                      simp only [List.getElem?_toArray, List.getElem?_cons_zero, List.getElem?_cons_succ] at c2
                      have HGz := Lib.hid (show Bx (V.setCell ⟨G, 2, none⟩ (.int .i64 0)) G 60 #[.int .i64 m, .string X1, .int .i64 0] from Bx.set_ HGq.out 2 (.int .i64 0))
                      have HAz := Lib.hid (HAq.out.set (p := ⟨G, 2, none⟩) (Nat.le_refl _) (Nat.lt_succ_self _) (.int .i64 0))
                      go_wp2_with fail
                      go_roundw
                      case rel => exact ⟨j + 1, by omega, by omega, by go_num, HGz, HNo2, HAz⟩
                      case measure => simp [intOf]; omega
                  · have hd : ((p : Int) == 3) = false := by rw [beq_eq_false_iff_ne]; omega
                    have HNo2 := Lib.hid (show ∀ o : Nat, 1 ≤ o → o < j + 1 → p = 3 → ln ⟨m, X1, (o : Int)⟩ ≠ L from fun o h1 h2 h3 => absurd h3 hp3)
                    have HGz := Lib.hid (fun nq => show Bx ((W.drewN nq).setCell ⟨G, 2, none⟩ (.int .i64 0)) G 60 #[.int .i64 m, .string X1, .int .i64 0] from Bx.set_ (show Bx (W.drewN nq) G _ _ from HGk.out) 2 (.int .i64 0))
                    have HAz := Lib.hid (fun nq => (HApk.out.on (drawn_below W nq)).set (p := ⟨G, 2, none⟩) (Nat.le_refl _) (Nat.lt_succ_self _) (.int .i64 0))
                    clear hp3
                    go_quiet (fail)
                    go_wp2_with fail
                    go_roundw
                    case rel => exact ⟨j + 1, by omega, by omega, by go_num, Lib.hid (HGz.out _), HNo2, Lib.hid (HAz.out _)⟩
                    case measure => simp [intOf]; omega
                · obtain rfl : j = 4 := by omega
                  have HOk := Lib.hid (show (p = 3 → (0 : Int) = firstO m X1 L) ∧ (p ≠ 3 → (0 : Int) = 0) from ⟨fun h => (firstO_none (fun o h1 h2 => HNo.out o h1 h2 h)).symm, fun _ => rfl⟩)
                  go_wp2_with fail
                  go_meet
                  exact ⟨0, HGx, Lib.hid ⟨HOk.out.1, fun _ => rfl⟩, by omega, by omega, HAp⟩
            case rest =>
              obtain ⟨O, HGx, HOk, hO0, hO3, HAp⟩ := hcut
              have HRN := Lib.hid (show Reads RdS (ls.take (k + 1)) (ys ++ [⟨m, X1, O⟩]) by
                rw [HTk.out]
                refine reads_snoc HR.out ?_
                have h2 := HPn.out
                have ha := Hy0.out
                have hb := Hy1.out
                by_cases h3 : p = 3
                · match ws, h2, ha, hb, HWs with
                  | [a, b, c], _, ha, hb, HWs =>
                    simp only [List.getElem?_cons_zero, List.getElem?_cons_succ, Option.some.injEq] at ha hb
                    subst ha hb
                    exact .inr ⟨_, _, _, HWs.out, HNm.out, HX1.out, HOk.out.1 h3⟩
                  | [], h2, _, _, _ => simp at h2; omega
                  | [a], h2, _, _, _ => simp at h2; omega
                  | [a, b], h2, _, _, _ => simp at h2; omega
                  | a :: b :: c :: d :: e, h2, _, _, _ => simp at h2; omega
                · match ws, h2, ha, hb, HWs with
                  | [a, b], _, ha, hb, HWs =>
                    simp only [List.getElem?_cons_zero, List.getElem?_cons_succ, Option.some.injEq] at ha hb
                    subst ha hb
                    exact .inl ⟨_, _, HWs.out, HNm.out, HX1.out, HOk.out.2 h3⟩
                  | [], h2, _, _, _ => simp at h2; omega
                  | [a], h2, _, _, _ => simp at h2; omega
                  | [a, b, c], h2, _, _, _ => simp at h2; omega
                  | a :: b :: c :: d :: e, h2, _, _, _ => simp at h2; omega)
              have HO := Lib.hid (HO4.out.same (fun q hq => HAp.out.block q (HO4.out.lt q hq).2 (.inl (by have : q = g := (Option.some.inj hq).symm; omega))))
              have hbw := hbg.trans (HAp.out.below hGA hbg.size)
              have HBl2 := Lib.hid ((HAp.out.block g0 (by omega) (.inl hG0)).trans HBl4.out)
              have hws3 : w1.heap.size ≤ wc.heap.size := Nat.le_trans hws5 HAp.out.size
              have hys : ys.length ≤ 1048576 := by have := HYL.out; omega
              have hz1 := hbw.size
              have l0 := HGx.out.cell 0
              have l1 := HGx.out.cell 1
              have l2 := HGx.out.cell 2
              simp only [List.getElem?_toArray, List.getElem?_cons_zero, List.getElem?_cons_succ] at l0 l1 l2
              clear HR HTk HLk HXL HOk HAp HO4 HBl4 hbg q0' HXd
              go_wp2_with (at_builtin; refine wpList_append_own_at _ rfl (.tmp 71) (.tmp 73) 24 rfl w.heap.size 60 i0 (.agg #[.int .i64 0, .string ⟨#[]⟩, .int .i64 0]) 3 32 Tryd.underlying24 HI0.out HZ0.out.1 HZ0.out.2.1 HZ0.out.2.2 rfl (by decide) _ _ _ rfl (Bs.Own.kept HO.out (by (repeat (first | assumption | exact Below.refl _ _ | refine Below.drew ?_ | refine Below.setCell ?_ (by first | (simp; done) | (simp; omega) | omega) _ | refine Below.alloc ?_ (by first | (simp; done) | (simp; omega) | omega) _)))) ⟨_, 0, none⟩ 1 1 [.int .i64 m, .string X1, .int .i64 O] rfl rfl ?c1 ?c2 ?c3 ?c4 ?c5 ?c6)
              case c1 => first | exact World.news_of_block (heap_alloc_new _ _) | exact World.news_of_block (alloc_two _ _ _)
              case c2 => intro u hu; simp only [List.mem_cons, List.not_mem_nil, or_false] at hu; rcases hu with rfl | rfl | rfl <;> rfl
              case c3 => unfold maxLen; omega
              case c4 => omega
              case c5 => first | (simp; done) | (simp; omega) | omega
              case c6 =>
                intro v6 w6 hown6 hgrow6 _ hat6
                have hK6 := app_keep hgrow6 (W := wc) (by (repeat (first | assumption | exact Below.refl _ _ | refine Below.drew ?_ | refine Below.alloc ?_ (by first | (simp; done) | (simp; omega) | omega) _))) hbw hgA
                have HBl6 := Lib.hid (show w6.heap[g0]? = w1.heap[g0]? from (hK6.2.2 g0 (by omega) hgg).trans HBl2.out)
                have hws6 : w1.heap.size ≤ w6.heap.size := Nat.le_trans hws3 hK6.2.1
                have hO6 : Bs.Own LMember.rec 60 w6 w.heap.size v6 (ys ++ [⟨m, X1, O⟩]) := own_of LMember.rec hown6 (by simp [HYL.out]) (by rw [flat_append]; rfl)
                obtain ⟨g6, c6, rfl, _⟩ := PLMember.some_block hO6 (by simp)
                have hne6 : g6 ≠ g0 := by
                  rcases hat6 with h | h
                  · have h2 := Option.some.inj (show some g6 = some g from h)
                    rw [h2]; exact hgg
                  · have h2 : g6 = _ := Option.some.inj h
                    rw [h2]; simp; omega
                have hb6 := hK6.1
                rw [show (ys ++ [(⟨m, X1, O⟩ : LMember.R)]).length = k + 1 by rw [List.length_append, HYL.out]; rfl] at hO6 ⊢
                have HO6 := Lib.hid hO6
                clear hK6 hown6 hat6 hO6 hgrow6 HO l0 l1 l2 HGx
                go_wp2_with fail
                go_roundw
                case rel => exact ⟨k + 1, _, g6, c6, by omega, by go_num, rfl, HO6, HRN, hne6, HBl6, hws6, hb6⟩
                case measure => simp [intOf]; omega
        · have HA := Lib.hid (show Ans a0 [] false from bad_line HL.out HLk.out (fun q hq => by
            rcases hq with ⟨a, b, e, n, _⟩ | ⟨a, b, c, e, n, _⟩
            · rw [HWs.out] at e; have h2 := Hy0.out; rw [e] at h2; simp only [List.getElem?_cons_zero, Option.some.injEq] at h2; subst h2; exact hnm _ n
            · rw [HWs.out] at e; have h2 := Hy0.out; rw [e] at h2; simp only [List.getElem?_cons_zero, Option.some.injEq] at h2; subst h2; exact hnm _ n))
          clear hnm
          have hb3 := hbx
          have HO := Lib.hid (Bs.Own.start (T := LMember.rec) (E := 60) (w := w3) hb3.size)
          have hbz := hb3.alloc hb3.size (Obj.cells #[] 60)
          go_wp2_with fail
          go_ret2
          exact ⟨_, [], false, rfl, HA.out, HO.out, hbz⟩
      · have hkn : ls.take k = ls := List.take_of_length_le (by have := HN.out; omega)
        rw [hkn] at HR
        have HGd := Lib.hid (goodS (.slice (some ⟨g, 0, none⟩) k c) ys wr HO.out.is (fineS HLs.out HR.out))
        have HTx := Lib.hid (fun hg W hW => textS (.slice (some ⟨g, 0, none⟩) k c) ys W (HO.out.is.below LMember.rec hW) hg)
        have HNo := Lib.hid (fun (hn : ¬ (good ys = true ∧ text ys = a0)) => show Ans a0 [] false from only HL.out HR.out hn)
        clear hkn HBl
        cases hg : good ys with
        | false =>
          have HA := Lib.hid (HNo.out (fun h => by rw [hg] at h; cases h.1))
          rw [hg] at HGd
          clear hg HTx
          go_wp2_with fail
          refine HGd.out.mono ?_
          rintro e w3 ⟨rfl, hb2⟩
          have hb3 := hb.trans (hb2.mono hb.size)
          have HO := Lib.hid (Bs.Own.start (T := LMember.rec) (E := 60) (w := w3) hb3.size)
          have hbz := hb3.alloc hb3.size (Obj.cells #[] 60)
          go_wp2_with fail
          go_ret2
          exact ⟨_, [], false, rfl, HA.out, HO.out, hbz⟩
        | true =>
          have HTy := Lib.hid (HTx.out hg)
          have HYes := Lib.hid (fun (ht : text ys = a0) => show Ans a0 ys true from ans_yes hg ht)
          have HNo2 := Lib.hid (fun (hn : text ys ≠ a0) => HNo.out (fun h => hn h.2))
          rw [hg] at HGd
          clear hg HTx HNo
          obtain ⟨TX, hTX⟩ : ∃ TX, TX = text ys := ⟨_, rfl⟩
          rw [← hTX] at HTy HYes HNo2
          clear hTX
          go_wp2_with fail
          refine HGd.out.mono ?_
          rintro e w3 ⟨rfl, hb2⟩
          have hb3 := hb.trans (hb2.mono hb.size)
          have HO3 := Lib.hid (HO.out.kept hb2)
          go_wp2_with fail
          refine (HTy.out _ hb2).mono ?_
          rintro e w4 ⟨rfl, hb4⟩
          have hb5 := hb3.trans (hb4.mono hb3.size)
          have HO4 := Lib.hid (HO3.out.kept hb4)
          cases he : (TX.toList == a0.toList) with
          | true =>
            have HA := Lib.hid (HYes.out (eq_yes he))
            clear HYes HNo2
            go_wp2_with fail
            go_ret2
            exact ⟨_, _, true, rfl, HA.out, HO4.out, hb5⟩
          | false =>
            have HA := Lib.hid (HNo2.out (eq_no he))
            clear HYes HNo2
            have HO := Lib.hid (Bs.Own.start (T := LMember.rec) (E := 60) (w := w4) hb5.size)
            have hbz := hb5.alloc hb5.size (Obj.cells #[] 60)
            go_wp2_with fail
            go_ret2
            exact ⟨_, [], false, rfl, HA.out, HO.out, hbz⟩
set_option maxRecDepth 100000 in
theorem impl (a0 : ByteArray) (w : World) (hs0 : a0.size ≤ 1048576) (vp : Laid.Pow w) (vr : Laid.Err "strconv.ErrRange" w) (vs : Laid.Err "strconv.ErrSyntax" w) :
    Calls Tryd.prog 17 #[.string a0] w (APost a0 w) := by
  have HP := Lib.hid (PLMember.parseLines P good a0 w (by unfold maxLen; omega) (fun l W hW hl => PMemI.parseMember l W hl (vp.below hW) (vr.below hW) (vs.below hW)) (fun v xs W _ h hf => validI v xs W h hf) (fun l r hl h => fine1 hl h) (fun l r r' h h' => p_uniq h h'))
  unfold PLMember.PLPost at HP
  go_enter Tryd.func17, Tryd.ntmps17
  go_wp2_with fail
  refine HP.out.mono ?_
  rintro e w1 ⟨v, r0, r1, rfl, hpl, ho, _, hb1⟩
  have HA := Lib.hid (show Ans a0 r0 r1 from by
    rcases hpl with ⟨rfl, h4, ls, hsp, hrd, hg⟩ | ⟨⟨rfl, rfl⟩, hn⟩
    · exact ans_yes hg (text_of hsp hrd)
    · exact ans_none fun q hg ht => by
        have hf := found hg ht
        have := hn _ q (by omega) hf.2 (reads_of hg)
        rw [show good q = true from hg] at this; cases this)
  have HO := Lib.hid ho
  clear hpl ho HP
  go_wp2_with fail
  go_ret2
  exact ⟨_, _, _, rfl, HA.out, HO.out, hb1⟩
end Go.Proofs.YtneecokjhmnagaaDoor.ParseMembersC
