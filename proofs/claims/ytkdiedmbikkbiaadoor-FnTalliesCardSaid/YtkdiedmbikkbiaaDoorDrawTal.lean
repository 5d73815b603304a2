/- The draws of a tally and of its text. No condition. -/
import Derived.Test.YtkdiedmbikkbiaaDoorDrawW
import Derived.Test.YtkdiedmbikkbiaaDoorLive
import Derived.Test.YtkdiedmbikkbiaaDoorSpoil
import Derived.Test.YtkdiedmbikkbiaaDoorTalX
import Derived.Deep.DeepCutAuto
import Derived.Deep.CutBlock
namespace Go.Proofs.YtkdiedmbikkbiaaDoor.DrawTal
open Go.RowKit Cur Bs Draw Tal TalT
set_option linter.unusedVariables false
def TalOf (w : World) (B m : Nat) (e : Ending) (w' : World) : Prop := ∃ r : T, e = .returned (.agg #[.int .i64 r.yes, .int .i64 r.no, .int .i64 r.abstain]) ∧ Cur w' B m ∧ w.grownBy w' (some B)
def TalArg (w : World) (e : Ending) (w' : World) : Prop := ∃ r : T, e = .returned (.agg #[.int .i64 r.yes, .int .i64 r.no, .int .i64 r.abstain]) ∧ Below w.heap.size w w'
def TwoArg (w : World) (e : Ending) (w' : World) : Prop := ∃ r q : T, e = .returned (.tuple #[.agg #[.int .i64 r.yes, .int .i64 r.no, .int .i64 r.abstain], .agg #[.int .i64 q.yes, .int .i64 q.no, .int .i64 q.abstain]]) ∧ Below w.heap.size w w'
def TxtArg (w : World) (e : Ending) (w' : World) : Prop := ∃ s : ByteArray, e = .returned (.string s) ∧ s.size ≤ 100 ∧ Below w.heap.size w w'
theorem bx3 {w : World} {R : Nat} {t : TypeId} {a b c : Value} (h : Draw.Bx w R t #[a, b, c]) (a' b' c' : Value) : Draw.Bx (((w.setCell ⟨R, 0, none⟩ a').setCell ⟨R, 1, none⟩ b').setCell ⟨R, 2, none⟩ c') R t #[a', b', c'] := by
  have h4 := ((h.set_ 0 a').set_ 1 b').set_ 2 c'
  simpa using h4
theorem below_end {w W0 w' : World} {B : Nat} {a : Option Addr} {len cap : Nat} (hB : w.heap.size = B) (hW : w.alloc (.cells #[.slice a len cap, .int .i64 0, .int .u64 0] 53) = W0) (hg : W0.grownBy w' (some B)) : Below w.heap.size w w' := by
  subst hB hW
  exact below_cur hg
theorem row_kept {k : IntKind} {w w' : World} {a : Option Addr} {len cap : Nat} {zs : List Int} (h : Frame.IsRow k w a len cap zs) (hb : Below w.heap.size w w') : Frame.IsRow k w' a len cap zs := by
  rcases h with h | ⟨x, h1, h2, h3, h4, h5, h6⟩
  · exact .inl h
  · refine .inr ⟨x, h1, h2, h3, h4, fun i hi => ?_, h6⟩
    have hc := h5 i hi
    rw [hb.cell (Cur.cell_lt hc)]
    exact hc
theorem least11 (a b : Int) (w : World) : Calls Tryd.prog 45 #[.int .i64 a, .int .i64 b] w fun e w' => e = .returned (.int .i64 (if a < b then a else b)) ∧ w = w' := by
  by_cases h : a < b
  · have HM := Lib.hid (show (if a < b then a else b) = a from if_pos h)
    go_enter Tryd.func45, Tryd.ntmps45
    go_wp2_with fail
    go_ret
    exact ⟨rfl, rfl⟩
  · have HM := Lib.hid (show (if a < b then a else b) = b from if_neg h)
    go_enter Tryd.func45, Tryd.ntmps45
    go_wp2_with fail
    go_ret
    exact ⟨rfl, rfl⟩
theorem votes (B m : Nat) (w : World) (h : Cur w B m) (hm : m < 800000) : Calls Tryd.prog 42 #[.pointer (some ⟨B, 0, none⟩)] w (Ints w B (m + 2) [0, 1, 2, 3, 5, 9, 10, 20, 40, 999, 1000]) := by
  have HX := Lib.hid (among_lit B m [0, 1, 2, 3, 5, 9, 10, 20, 40, 999, 1000] w h (by omega) (by decide) (by decide))
  clear h
  go_enter Tryd.func42, Tryd.ntmps42
  go_wp2_with fail
  refine HX.out.mono ?_
  rintro e w1 ⟨x, hx, rfl, hc, hg⟩
  go_wp2_with fail
  go_ret
  exact ⟨x, hx, rfl, hc, hg⟩
set_option maxRecDepth 100000 in
set_option maxHeartbeats 3200000 in
theorem tally (B m : Nat) (w : World) (h : Cur w B m) (hm : m < 700000) : Calls Tryd.prog 28 #[.pointer (some ⟨B, 0, none⟩)] w (TalOf w B (m + 20)) := by
  have hBl := h.lt
  have HL0 := Lib.hid ((Live.start h).alloc (.cells #[.int .i64 0, .int .i64 0, .int .i64 0] 25))
  have HR0 := Lib.hid (Draw.Bx.new w 25 #[.int .i64 0, .int .i64 0, .int .i64 0])
  clear h
  go_enter Tryd.func28, Tryd.ntmps28
  go_wp2_with fail
  generalize w.alloc (.cells #[.int .i64 0, .int .i64 0, .int .i64 0] 25) = W0 at *
  generalize hR : w.heap.size = R at *
  have HRe := Lib.hid hR
  have hRA : w.heap.size ≤ R := by omega
  have hRB : R ≠ B := by omega
  clear hR
  refine (votes B _ _ HL0.out.cur (by omega)).mono ?_
  rintro e w1 ⟨Y, hY, rfl, hc, hg⟩
  have HR1 := Lib.hid (HR0.out.grown hg hRB)
  have HL1 := Lib.hid (HL0.out.draw hc hg)
  clear hc hg HR0 HL0
  go_wp2_with fail
  refine (votes B _ _ HL1.out.cur (by omega)).mono ?_
  rintro e w2 ⟨N, hN, rfl, hc, hg⟩
  have HR2 := Lib.hid (HR1.out.grown hg hRB)
  have HL2 := Lib.hid (HL1.out.draw hc hg)
  clear hc hg HR1 HL1
  go_wp2_with fail
  refine (among_lit B _ [0, 0, 1, 7, 1000] w2 HL2.out.cur (by omega) (by decide) (by decide)).mono ?_
  rintro e w3 ⟨A, hA, rfl, hc, hg⟩
  have HR3 := Lib.hid (HR2.out.grown hg hRB)
  have HL3 := Lib.hid (HL2.out.draw hc hg)
  clear hc hg HR2 HL2
  go_wp2_with fail
  have HB4 := Lib.hid (Draw.Bx.new w3 25 #[.int .i64 Y, .int .i64 N, .int .i64 A])
  have HR4 := Lib.hid (HR3.out.alloc (.cells #[.int .i64 Y, .int .i64 N, .int .i64 A] 25))
  have HL4 := Lib.hid (HL3.out.alloc (.cells #[.int .i64 Y, .int .i64 N, .int .i64 A] 25))
  have hGR : R < w3.heap.size := HR3.out.lt
  clear HR3 HL3
  generalize w3.alloc (.cells #[.int .i64 Y, .int .i64 N, .int .i64 A] 25) = w4 at *
  generalize w3.heap.size = G at *
  have hGA : w.heap.size ≤ G := by omega
  have hGB : G ≠ B := by omega
  refine (pick B _ 6 _ HL4.out.cur (by omega) (by omega) (by omega)).mono ?_
  rintro e w5 ⟨s, rfl, s0, s1, hc, hg⟩
  have HR7 := Lib.hid (HR4.out.grown hg hRB)
  have HB7 := Lib.hid (HB4.out.grown hg hGB)
  have HL7 := Lib.hid (HL4.out.draw hc hg)
  clear hc hg HR4 HB4 HL4 hA
  have hN0 : 0 ≤ N ∧ N ≤ 1000 := by simp only [List.mem_cons, List.not_mem_nil, or_false] at hN; omega
  clear hY hN
  go_upto_block 0 with fail
  go_cut [3] (fun u wx => u = .pointer (some ⟨G, 0, none⟩) ∧ ∃ r : T, Hid (Draw.Bx wx G 25 #[.int .i64 r.yes, .int .i64 r.no, .int .i64 r.abstain]) ∧ Hid (Draw.Bx wx R 25 #[.int .i64 0, .int .i64 0, .int .i64 0]) ∧ Hid (Live B (m + 8) w wx))
  case first =>
    cases e0 : (s == 0) with
    | true =>
      have q1 := HB7.out.cell 1
      simp only [List.getElem?_toArray, List.getElem?_cons_zero, List.getElem?_cons_succ] at q1
      have f0 := HB7.out.frozen 0
      have b0 := HB7.out.cell 0
      simp only [List.getElem?_toArray, List.getElem?_cons_zero] at b0
      have HB8 := Lib.hid (show Draw.Bx (w5.setCell ⟨G, 0, none⟩ (.int .i64 N)) G 25 #[.int .i64 N, .int .i64 N, .int .i64 A] from HB7.out.set_ 0 _)
      have HR8 := Lib.hid (HR7.out.far (p := ⟨G, 0, none⟩) (by show R ≠ G; omega) (.int .i64 N))
      have HL8 := Lib.hid (HL7.out.set (p := ⟨G, 0, none⟩) hGA (.int .i64 N))
      clear HR7 HB7 HL7
      go_wp2_with fail
      go_meet
      exact ⟨rfl, ⟨N, N, A⟩, HB8, HR8, Lib.hid (HL8.out.mono (by omega))⟩
    | false =>
    cases e1 : (s == 1) with
    | true =>
      have q1 := HB7.out.cell 1
      simp only [List.getElem?_toArray, List.getElem?_cons_zero, List.getElem?_cons_succ] at q1
      have hw2 : IntKind.i64.wrap (2 * N) = 2 * N := IntWalk.i64_in _ (by omega)
      obtain ⟨V, hV⟩ : ∃ V, V = (if (1000 : Int) < 2 * N then 1000 else 2 * N) := ⟨_, rfl⟩
      have HLE := Lib.hid (fun W => least11 1000 (2 * N) W)
      rw [← hV] at HLE
      clear hV
      have f0 := HB7.out.frozen 0
      have b0 := HB7.out.cell 0
      simp only [List.getElem?_toArray, List.getElem?_cons_zero] at b0
      have HB8 := Lib.hid (show Draw.Bx (w5.setCell ⟨G, 0, none⟩ (.int .i64 V)) G 25 #[.int .i64 V, .int .i64 N, .int .i64 A] from HB7.out.set_ 0 _)
      have HR8 := Lib.hid (HR7.out.far (p := ⟨G, 0, none⟩) (by show R ≠ G; omega) (.int .i64 V))
      have HL8 := Lib.hid (HL7.out.set (p := ⟨G, 0, none⟩) hGA (.int .i64 V))
      clear HR7 HB7 HL7
      go_wp2_with fail
      refine (HLE.out _).mono ?_
      rintro e _ ⟨rfl, rfl⟩
      go_wp2_with fail
      go_meet
      exact ⟨rfl, ⟨V, N, A⟩, HB8, HR8, Lib.hid (HL8.out.mono (by omega))⟩
    | false =>
    cases e2 : (s == 2) with
    | true =>
      have f0 := HB7.out.frozen 1
      have b0 := HB7.out.cell 1
      simp only [List.getElem?_toArray, List.getElem?_cons_zero, List.getElem?_cons_succ] at b0
      have HB8 := Lib.hid (show Draw.Bx (w5.setCell ⟨G, 1, none⟩ (.int .i64 0)) G 25 #[.int .i64 Y, .int .i64 0, .int .i64 A] from HB7.out.set_ 1 _)
      have HR8 := Lib.hid (HR7.out.far (p := ⟨G, 1, none⟩) (by show R ≠ G; omega) (.int .i64 0))
      have HL8 := Lib.hid (HL7.out.set (p := ⟨G, 1, none⟩) hGA (.int .i64 0))
      clear HR7 HB7 HL7
      go_wp2_with fail
      go_meet
      exact ⟨rfl, ⟨Y, 0, A⟩, HB8, HR8, Lib.hid (HL8.out.mono (by omega))⟩
    | false =>
      go_wp2_with fail
      go_meet
      exact ⟨rfl, ⟨Y, N, A⟩, HB7, HR7, Lib.hid (HL7.out.mono (by omega))⟩
  case rest =>
  clear HR7 HB7 HL7 hN0 s0 s1
  obtain ⟨rfl, ⟨Y2, N2, A2⟩, HB, HR, HL⟩ := hcut
  simp only at HB
  go_wp2_with fail
  refine (pick B _ 24 _ HL.out.cur (by omega) (by omega) (by omega)).mono ?_
  rintro e w6 ⟨s, rfl, s0, s1, hc, hg⟩
  have HR6 := Lib.hid (HR.out.grown hg hRB)
  have HB6 := Lib.hid (HB.out.grown hg hGB)
  have HL6 := Lib.hid (HL.out.draw hc hg)
  clear hc hg HR HB HL
  go_upto_block 1 with fail
  go_cut [3] (fun u wx => u = .pointer (some ⟨G, 0, none⟩) ∧ ∃ r : T, Hid (Draw.Bx wx G 25 #[.int .i64 r.yes, .int .i64 r.no, .int .i64 r.abstain]) ∧ Hid (Draw.Bx wx R 25 #[.int .i64 0, .int .i64 0, .int .i64 0]) ∧ Hid (Live B (m + 20) w wx))
  case first =>
    cases e0 : (s == 0) with
    | true =>
      go_wp2_with fail
      refine (among_lit B _ [-1, 1001] w6 HL6.out.cur (by omega) (by decide) (by decide)).mono ?_
      rintro e w7 ⟨V, hV, rfl, hc, hg⟩
      have HR7 := Lib.hid (HR6.out.grown hg hRB)
      have HB7 := Lib.hid (HB6.out.grown hg hGB)
      have HL7 := Lib.hid (HL6.out.draw hc hg)
      have f0 := HB7.out.frozen 0
      have b0 := HB7.out.cell 0
      simp only [List.getElem?_toArray, List.getElem?_cons_zero] at b0
      have HB8 := Lib.hid (show Draw.Bx (w7.setCell ⟨G, 0, none⟩ (.int .i64 V)) G 25 #[.int .i64 V, .int .i64 N2, .int .i64 A2] from HB7.out.set_ 0 _)
      have HR8 := Lib.hid (HR7.out.far (p := ⟨G, 0, none⟩) (by show R ≠ G; omega) (.int .i64 V))
      have HL8 := Lib.hid (HL7.out.set (p := ⟨G, 0, none⟩) hGA (.int .i64 V))
      clear hV hc hg HR6 HB6 HL6 HR7 HB7 HL7
      go_wp2_with fail
      go_meet
      exact ⟨rfl, ⟨V, N2, A2⟩, HB8, HR8, Lib.hid (HL8.out.mono (by omega))⟩
    | false =>
    cases e1 : (s == 1) with
    | true =>
      go_wp2_with fail
      refine (among_lit B _ [-1, 1001] w6 HL6.out.cur (by omega) (by decide) (by decide)).mono ?_
      rintro e w7 ⟨V, hV, rfl, hc, hg⟩
      have HR7 := Lib.hid (HR6.out.grown hg hRB)
      have HB7 := Lib.hid (HB6.out.grown hg hGB)
      have HL7 := Lib.hid (HL6.out.draw hc hg)
      have f0 := HB7.out.frozen 2
      have b0 := HB7.out.cell 2
      simp only [List.getElem?_toArray, List.getElem?_cons_zero, List.getElem?_cons_succ] at b0
      have HB8 := Lib.hid (show Draw.Bx (w7.setCell ⟨G, 2, none⟩ (.int .i64 V)) G 25 #[.int .i64 Y2, .int .i64 N2, .int .i64 V] from HB7.out.set_ 2 _)
      have HR8 := Lib.hid (HR7.out.far (p := ⟨G, 2, none⟩) (by show R ≠ G; omega) (.int .i64 V))
      have HL8 := Lib.hid (HL7.out.set (p := ⟨G, 2, none⟩) hGA (.int .i64 V))
      clear hV hc hg HR6 HB6 HL6 HR7 HB7 HL7
      go_wp2_with fail
      go_meet
      exact ⟨rfl, ⟨Y2, N2, V⟩, HB8, HR8, Lib.hid (HL8.out.mono (by omega))⟩
    | false =>
      go_wp2_with fail
      go_meet
      exact ⟨rfl, ⟨Y2, N2, A2⟩, HB6, HR6, Lib.hid (HL6.out.mono (by omega))⟩
  case rest =>
  clear HR6 HB6 HL6 s0 s1
  obtain ⟨rfl, r, HB, HR, HL⟩ := hcut
  have k0 := HB.out.cell 0
  have k1 := HB.out.cell 1
  have k2 := HB.out.cell 2
  have j0 := HR.out.frozen 0
  have j1 := HR.out.frozen 1
  have j2 := HR.out.frozen 2
  have l0 := HR.out.cell 0
  have l1 := HR.out.cell 1
  have l2 := HR.out.cell 2
  simp only [List.getElem?_toArray, List.getElem?_cons_zero, List.getElem?_cons_succ] at k0 k1 k2 l0 l1 l2
  have HRf := Lib.hid (bx3 HR.out (.int .i64 r.yes) (.int .i64 r.no) (.int .i64 r.abstain))
  have HLf := Lib.hid (((HL.out.set (p := ⟨R, 0, none⟩) hRA (.int .i64 r.yes)).set (p := ⟨R, 1, none⟩) hRA (.int .i64 r.no)).set (p := ⟨R, 2, none⟩) hRA (.int .i64 r.abstain))
  go_wp2_with fail
  clear k0 k1 k2 j0 j1 j2 l0 l1 l2
  generalize (((wc.setCell ⟨R, 0, none⟩ (.int .i64 r.yes)).setCell ⟨R, 1, none⟩ (.int .i64 r.no)).setCell ⟨R, 2, none⟩ (.int .i64 r.abstain)) = wz at *
  have e0 := HRf.out.cell 0
  have e1 := HRf.out.cell 1
  have e2 := HRf.out.cell 2
  simp only [List.getElem?_toArray, List.getElem?_cons_zero, List.getElem?_cons_succ] at e0 e1 e2
  (try simp only [Exit.inBlock, Exit.then])
  refine bodyPost_ret (v := .agg #[.int .i64 r.yes, .int .i64 r.no, .int .i64 r.abstain]) (by simp [results, Tryd.results28, go_sem, e0, e1, e2]) rfl ?_
  exact ⟨r, rfl, HLf.out.cur, HLf.out.grown⟩
set_option maxRecDepth 100000 in
set_option maxHeartbeats 3200000 in
theorem drawIsValidTally (a : Option Addr) (len cap : Nat) (zs : List Int) (w : World) (h : Frame.IsRow .u8 w a len cap zs) (hl : len ≤ 65536) :
    Calls Tryd.prog 21 #[.slice a len cap] w (TalArg w) := by
  have hs : (w.alloc (.cells #[.int .i64 0, .int .i64 0, .int .i64 0] 25)).heap.size = w.heap.size + 1 := by simp
  have HC := Lib.hid (cur_new (row_kept h ((Below.refl _ _).alloc (Nat.le_refl _) (.cells #[.int .i64 0, .int .i64 0, .int .i64 0] 25))) hl)
  have HR := Lib.hid ((Draw.Bx.new w 25 #[.int .i64 0, .int .i64 0, .int .i64 0]).alloc (.cells #[.slice a len cap, .int .i64 0, .int .u64 0] 53))
  have HBel : Hid (∀ w', ((w.alloc (.cells #[.int .i64 0, .int .i64 0, .int .i64 0] 25)).alloc (.cells #[.slice a len cap, .int .i64 0, .int .u64 0] 53)).grownBy w' (some (w.heap.size + 1)) → Below w.heap.size w w') := Lib.hid (fun w' hg => by
    rw [← hs] at hg
    exact ((Below.refl w.heap.size w).alloc (Nat.le_refl _) _).trans ((below_cur hg).mono (by simp)))
  rw [hs] at HC
  clear h hs
  go_enter Tryd.func21, Tryd.ntmps21
  go_wp2_with fail
  generalize (w.alloc (.cells #[.int .i64 0, .int .i64 0, .int .i64 0] 25)).alloc (.cells #[.slice a len cap, .int .i64 0, .int .u64 0] 53) = W0 at *
  generalize hB0 : w.heap.size + 1 = B at *
  refine (tally B 0 _ HC.out (by omega)).mono ?_
  rintro e w1 ⟨r, rfl, hc, hg⟩
  have hb := HBel.out _ hg
  replace HR := Lib.hid (HR.out.grown hg (by omega))
  clear hc hg HC HBel
  have l0 := HR.out.cell 0
  have l1 := HR.out.cell 1
  have l2 := HR.out.cell 2
  simp only [List.getElem?_toArray, List.getElem?_cons_zero, List.getElem?_cons_succ] at l0 l1 l2
  have lf0 := HR.out.frozen 0
  have lf1 := HR.out.frozen 1
  have lf2 := HR.out.frozen 2
  have HRf := Lib.hid (bx3 HR.out (.int .i64 r.yes) (.int .i64 r.no) (.int .i64 r.abstain))
  have HBF := ((hb.setCell (p := ⟨w.heap.size, 0, none⟩) (Nat.le_refl _) (.int .i64 r.yes)).setCell (p := ⟨w.heap.size, 1, none⟩) (Nat.le_refl _) (.int .i64 r.no)).setCell (p := ⟨w.heap.size, 2, none⟩) (Nat.le_refl _) (.int .i64 r.abstain)
  go_wp2_with fail
  have e0 := HRf.out.cell 0
  have e1 := HRf.out.cell 1
  have e2 := HRf.out.cell 2
  simp only [List.getElem?_toArray, List.getElem?_cons_zero, List.getElem?_cons_succ] at e0 e1 e2
  (try simp only [Exit.inBlock, Exit.then])
  refine bodyPost_ret (v := .agg #[.int .i64 r.yes, .int .i64 r.no, .int .i64 r.abstain]) (by simp [results, Tryd.results21, go_sem, e0, e1, e2]) rfl ?_
  exact ⟨r, rfl, HBF⟩
set_option maxRecDepth 100000 in
set_option maxHeartbeats 3200000 in
theorem drawTallyText (a : Option Addr) (len cap : Nat) (zs : List Int) (w : World) (h : Frame.IsRow .u8 w a len cap zs) (hl : len ≤ 65536) :
    Calls Tryd.prog 7 #[.slice a len cap] w (TalArg w) := by
  have HD := Lib.hid (drawIsValidTally a len cap zs _ (row_kept h ((Below.refl _ _).alloc (Nat.le_refl _) (.cells #[.int .i64 0, .int .i64 0, .int .i64 0] 25))) hl)
  have HR := Lib.hid (Draw.Bx.new w 25 #[.int .i64 0, .int .i64 0, .int .i64 0])
  have hb0 := (Below.refl w.heap.size w).alloc (Nat.le_refl _) (.cells #[.int .i64 0, .int .i64 0, .int .i64 0] 25)
  clear h
  unfold TalArg at HD
  go_enter Tryd.func7, Tryd.ntmps7
  go_wp2_with fail
  refine HD.out.mono ?_
  rintro e w1 ⟨r, rfl, hb1⟩
  have hb := hb0.trans (hb1.mono hb0.size)
  replace HR := Lib.hid (HR.out.keptB hb1)
  clear hb1 hb0 HD
  have l0 := HR.out.cell 0
  have l1 := HR.out.cell 1
  have l2 := HR.out.cell 2
  simp only [List.getElem?_toArray, List.getElem?_cons_zero, List.getElem?_cons_succ] at l0 l1 l2
  have lf0 := HR.out.frozen 0
  have lf1 := HR.out.frozen 1
  have lf2 := HR.out.frozen 2
  have HRf := Lib.hid (bx3 HR.out (.int .i64 r.yes) (.int .i64 r.no) (.int .i64 r.abstain))
  have HBF := ((hb.setCell (p := ⟨w.heap.size, 0, none⟩) (Nat.le_refl _) (.int .i64 r.yes)).setCell (p := ⟨w.heap.size, 1, none⟩) (Nat.le_refl _) (.int .i64 r.no)).setCell (p := ⟨w.heap.size, 2, none⟩) (Nat.le_refl _) (.int .i64 r.abstain)
  go_wp2_with fail
  have e0 := HRf.out.cell 0
  have e1 := HRf.out.cell 1
  have e2 := HRf.out.cell 2
  simp only [List.getElem?_toArray, List.getElem?_cons_zero, List.getElem?_cons_succ] at e0 e1 e2
  (try simp only [Exit.inBlock, Exit.then])
  refine bodyPost_ret (v := .agg #[.int .i64 r.yes, .int .i64 r.no, .int .i64 r.abstain]) (by simp [results, Tryd.results7, go_sem, e0, e1, e2]) rfl ?_
  exact ⟨r, rfl, HBF⟩
set_option maxRecDepth 100000 in
set_option maxHeartbeats 3200000 in
theorem drawYesShare (a : Option Addr) (len cap : Nat) (zs : List Int) (w : World) (h : Frame.IsRow .u8 w a len cap zs) (hl : len ≤ 65536) :
    Calls Tryd.prog 13 #[.slice a len cap] w (TalArg w) := by
  have HD := Lib.hid (drawIsValidTally a len cap zs _ (row_kept h ((Below.refl _ _).alloc (Nat.le_refl _) (.cells #[.int .i64 0, .int .i64 0, .int .i64 0] 25))) hl)
  have HR := Lib.hid (Draw.Bx.new w 25 #[.int .i64 0, .int .i64 0, .int .i64 0])
  have hb0 := (Below.refl w.heap.size w).alloc (Nat.le_refl _) (.cells #[.int .i64 0, .int .i64 0, .int .i64 0] 25)
  clear h
  unfold TalArg at HD
  go_enter Tryd.func13, Tryd.ntmps13
  go_wp2_with fail
  refine HD.out.mono ?_
  rintro e w1 ⟨r, rfl, hb1⟩
  have hb := hb0.trans (hb1.mono hb0.size)
  replace HR := Lib.hid (HR.out.keptB hb1)
  clear hb1 hb0 HD
  have l0 := HR.out.cell 0
  have l1 := HR.out.cell 1
  have l2 := HR.out.cell 2
  simp only [List.getElem?_toArray, List.getElem?_cons_zero, List.getElem?_cons_succ] at l0 l1 l2
  have lf0 := HR.out.frozen 0
  have lf1 := HR.out.frozen 1
  have lf2 := HR.out.frozen 2
  have HRf := Lib.hid (bx3 HR.out (.int .i64 r.yes) (.int .i64 r.no) (.int .i64 r.abstain))
  have HBF := ((hb.setCell (p := ⟨w.heap.size, 0, none⟩) (Nat.le_refl _) (.int .i64 r.yes)).setCell (p := ⟨w.heap.size, 1, none⟩) (Nat.le_refl _) (.int .i64 r.no)).setCell (p := ⟨w.heap.size, 2, none⟩) (Nat.le_refl _) (.int .i64 r.abstain)
  go_wp2_with fail
  have e0 := HRf.out.cell 0
  have e1 := HRf.out.cell 1
  have e2 := HRf.out.cell 2
  simp only [List.getElem?_toArray, List.getElem?_cons_zero, List.getElem?_cons_succ] at e0 e1 e2
  (try simp only [Exit.inBlock, Exit.then])
  refine bodyPost_ret (v := .agg #[.int .i64 r.yes, .int .i64 r.no, .int .i64 r.abstain]) (by simp [results, Tryd.results13, go_sem, e0, e1, e2]) rfl ?_
  exact ⟨r, rfl, HBF⟩
set_option maxRecDepth 100000 in
set_option maxHeartbeats 3200000 in
theorem drawAddTallies (a : Option Addr) (len cap : Nat) (zs : List Int) (w : World) (h : Frame.IsRow .u8 w a len cap zs) (hl : len ≤ 65536) :
    Calls Tryd.prog 16 #[.slice a len cap] w (TwoArg w) := by
  have hs : ((w.alloc (.cells #[.int .i64 0, .int .i64 0, .int .i64 0] 25)).alloc (.cells #[.int .i64 0, .int .i64 0, .int .i64 0] 25)).heap.size = w.heap.size + 1 + 1 := by simp
  have HC := Lib.hid (cur_new (row_kept h (((Below.refl _ _).alloc (Nat.le_refl _) (.cells #[.int .i64 0, .int .i64 0, .int .i64 0] 25)).alloc (by simp) (.cells #[.int .i64 0, .int .i64 0, .int .i64 0] 25))) hl)
  have HR := Lib.hid (((Draw.Bx.new w 25 #[.int .i64 0, .int .i64 0, .int .i64 0]).alloc (.cells #[.int .i64 0, .int .i64 0, .int .i64 0] 25)).alloc (.cells #[.slice a len cap, .int .i64 0, .int .u64 0] 53))
  have HR2 := Lib.hid (show Draw.Bx (((w.alloc (.cells #[.int .i64 0, .int .i64 0, .int .i64 0] 25)).alloc (.cells #[.int .i64 0, .int .i64 0, .int .i64 0] 25)).alloc (.cells #[.slice a len cap, .int .i64 0, .int .u64 0] 53)) (w.heap.size + 1) 25 #[.int .i64 0, .int .i64 0, .int .i64 0] by have h := (Draw.Bx.new (w.alloc (.cells #[.int .i64 0, .int .i64 0, .int .i64 0] 25)) 25 #[.int .i64 0, .int .i64 0, .int .i64 0]).alloc (.cells #[.slice a len cap, .int .i64 0, .int .u64 0] 53); rwa [World.size_alloc] at h)
  have HBel : Hid (∀ w', (((w.alloc (.cells #[.int .i64 0, .int .i64 0, .int .i64 0] 25)).alloc (.cells #[.int .i64 0, .int .i64 0, .int .i64 0] 25)).alloc (.cells #[.slice a len cap, .int .i64 0, .int .u64 0] 53)).grownBy w' (some (w.heap.size + 1 + 1)) → Below w.heap.size w w') := Lib.hid (fun w' hg => by
    rw [← hs] at hg
    exact (((Below.refl w.heap.size w).alloc (Nat.le_refl _) _).alloc (by simp) _).trans ((below_cur hg).mono (by simp; omega)))
  rw [hs] at HC
  clear h hs
  go_enter Tryd.func16, Tryd.ntmps16
  go_wp2_with fail
  generalize ((w.alloc (.cells #[.int .i64 0, .int .i64 0, .int .i64 0] 25)).alloc (.cells #[.int .i64 0, .int .i64 0, .int .i64 0] 25)).alloc (.cells #[.slice a len cap, .int .i64 0, .int .u64 0] 53) = W0 at *
  generalize hB0 : w.heap.size + 1 + 1 = B at *
  refine (tally B 0 _ HC.out (by omega)).mono ?_
  rintro e w1 ⟨r, rfl, hc, hg⟩
  have HC1 := Lib.hid hc
  replace HR := Lib.hid (HR.out.grown hg (by omega))
  replace HR2 := Lib.hid (HR2.out.grown hg (by omega))
  have HG := Lib.hid hg
  clear hc hg HC
  go_wp2_with fail
  refine (tally B _ _ HC1.out (by omega)).mono ?_
  rintro e w2 ⟨q, rfl, hc, hg⟩
  have hb := HBel.out _ (grown_trans HG.out hg)
  replace HR := Lib.hid (HR.out.grown hg (by omega))
  replace HR2 := Lib.hid (HR2.out.grown hg (by omega))
  clear hc hg HC1 HBel HG
  have l0 := HR.out.cell 0
  have l1 := HR.out.cell 1
  have l2 := HR.out.cell 2
  simp only [List.getElem?_toArray, List.getElem?_cons_zero, List.getElem?_cons_succ] at l0 l1 l2
  have lf0 := HR.out.frozen 0
  have lf1 := HR.out.frozen 1
  have lf2 := HR.out.frozen 2
  have k0 := HR2.out.cell 0
  have k1 := HR2.out.cell 1
  have k2 := HR2.out.cell 2
  simp only [List.getElem?_toArray, List.getElem?_cons_zero, List.getElem?_cons_succ] at k0 k1 k2
  have kf0 := HR2.out.frozen 0
  have kf1 := HR2.out.frozen 1
  have kf2 := HR2.out.frozen 2
  have HRf := Lib.hid ((((bx3 HR.out (.int .i64 r.yes) (.int .i64 r.no) (.int .i64 r.abstain)).far (p := ⟨w.heap.size + 1, 0, none⟩) (by show w.heap.size ≠ w.heap.size + 1; omega) (.int .i64 q.yes)).far (p := ⟨w.heap.size + 1, 1, none⟩) (by show w.heap.size ≠ w.heap.size + 1; omega) (.int .i64 q.no)).far (p := ⟨w.heap.size + 1, 2, none⟩) (by show w.heap.size ≠ w.heap.size + 1; omega) (.int .i64 q.abstain))
  have HR2f := Lib.hid (bx3 (((HR2.out.far (p := ⟨w.heap.size, 0, none⟩) (by show w.heap.size + 1 ≠ w.heap.size; omega) (.int .i64 r.yes)).far (p := ⟨w.heap.size, 1, none⟩) (by show w.heap.size + 1 ≠ w.heap.size; omega) (.int .i64 r.no)).far (p := ⟨w.heap.size, 2, none⟩) (by show w.heap.size + 1 ≠ w.heap.size; omega) (.int .i64 r.abstain)) (.int .i64 q.yes) (.int .i64 q.no) (.int .i64 q.abstain))
  have HBF := ((((((hb.setCell (p := ⟨w.heap.size, 0, none⟩) (Nat.le_refl _) (.int .i64 r.yes)).setCell (p := ⟨w.heap.size, 1, none⟩) (Nat.le_refl _) (.int .i64 r.no)).setCell (p := ⟨w.heap.size, 2, none⟩) (Nat.le_refl _) (.int .i64 r.abstain)).setCell (p := ⟨w.heap.size + 1, 0, none⟩) (by simp) (.int .i64 q.yes)).setCell (p := ⟨w.heap.size + 1, 1, none⟩) (by simp) (.int .i64 q.no)).setCell (p := ⟨w.heap.size + 1, 2, none⟩) (by simp) (.int .i64 q.abstain))
  go_wp2_with fail
  have e0 := HRf.out.cell 0
  have e1 := HRf.out.cell 1
  have e2 := HRf.out.cell 2
  simp only [List.getElem?_toArray, List.getElem?_cons_zero, List.getElem?_cons_succ] at e0 e1 e2
  have d0 := HR2f.out.cell 0
  have d1 := HR2f.out.cell 1
  have d2 := HR2f.out.cell 2
  simp only [List.getElem?_toArray, List.getElem?_cons_zero, List.getElem?_cons_succ] at d0 d1 d2
  (try simp only [Exit.inBlock, Exit.then])
  refine bodyPost_ret (v := .tuple #[.agg #[.int .i64 r.yes, .int .i64 r.no, .int .i64 r.abstain], .agg #[.int .i64 q.yes, .int .i64 q.no, .int .i64 q.abstain]]) (by simp [results, Tryd.results16, go_sem, e0, e1, e2, d0, d1, d2]) rfl ?_
  exact ⟨r, q, rfl, HBF⟩
set_option maxRecDepth 100000 in
set_option maxHeartbeats 3200000 in
theorem drawParseTally (a : Option Addr) (len cap : Nat) (zs : List Int) (w : World) (h : Frame.IsRow .u8 w a len cap zs) (hl : len ≤ 65536) :
    Calls Tryd.prog 11 #[.slice a len cap] w (TxtArg w) := by
  have HC := Lib.hid (cur_new h hl)
  have hz : w.heap.size + 1 ≤ (w.alloc (.cells #[.slice a len cap, .int .i64 0, .int .u64 0] 53)).heap.size := by simp
  clear h
  go_enter Tryd.func11, Tryd.ntmps11
  go_wp2_with fail
  generalize hWW : w.alloc (.cells #[.slice a len cap, .int .i64 0, .int .u64 0] 53) = W0 at *
  have HWW := Lib.hid hWW
  generalize hB0 : w.heap.size = B at *
  have HB0 := Lib.hid hB0
  clear hWW hB0
  have HL00 := Lib.hid (Live.start HC.out)
  refine (tally B 0 _ HC.out (by omega)).mono ?_
  rintro e w1 ⟨⟨y, n, k⟩, rfl, hc, hg⟩
  simp only
  have HL1 := Lib.hid (HL00.out.draw hc hg)
  clear hc hg HC HL00
  have HG := Lib.hid (Draw.Bx.new w1 25 #[.int .i64 y, .int .i64 n, .int .i64 k])
  have HL := Lib.hid (HL1.out.alloc (.cells #[.int .i64 y, .int .i64 n, .int .i64 k] 25))
  have hGA : W0.heap.size ≤ w1.heap.size := HL1.out.size
  clear HL1
  go_upto_region 3 with fail
  generalize w1.alloc (.cells #[.int .i64 y, .int .i64 n, .int .i64 k] 25) = w2 at *
  generalize w1.heap.size = G at *
  have HGD := Lib.hid (fun b (hx : good ⟨y, n, k⟩ = b) W => TalG.l11Good ⟨y, n, k⟩ b hx W)
  simp only at HGD
  have g0 := HG.out.cell 0
  have g1 := HG.out.cell 1
  have g2 := HG.out.cell 2
  simp only [List.getElem?_toArray, List.getElem?_cons_zero, List.getElem?_cons_succ] at g0 g1 g2
  cases hgd : good ⟨y, n, k⟩ with
  | true =>
    replace HGD := Lib.hid (HGD.out _ hgd)
    have HGR := Lib.hid hgd
    clear hgd
    go_wp2_with fail
    refine (HGD.out _).mono ?_
    rintro e w6 ⟨rfl, hb⟩
    replace HL := Lib.hid (HL.out.kept hb)
    replace HG := Lib.hid (HG.out.keptB hb)
    clear hb g0 g1 g2
    have g0 := HG.out.cell 0
    have g1 := HG.out.cell 1
    have g2 := HG.out.cell 2
    simp only [List.getElem?_toArray, List.getElem?_cons_zero, List.getElem?_cons_succ] at g0 g1 g2
    go_wp2_with fail
    refine (TalX.l11Text ⟨y, n, k⟩ _ HGR.out).mono ?_
    rintro e w3 ⟨rfl, hb3⟩
    have hss := line_size HGR.out
    replace HL := Lib.hid (HL.out.kept hb3)
    clear hb3
    generalize line ⟨y, n, k⟩ = s at *
    go_wp2_with fail
    refine (one B _ 4 _ HL.out.cur (by omega) (by omega) (by omega)).mono ?_
    rintro e w4 ⟨b, rfl, hc, hg⟩
    replace HL := Lib.hid (HL.out.draw hc hg)
    clear hc hg
    cases b with
    | false =>
      go_wp2_with fail
      have hbl := below_end HB0.out HWW.out HL.out.grown
      go_ret
      exact ⟨s, rfl, by omega, hbl⟩
    | true =>
      go_wp2_with fail
      refine (spoilt B _ s ⟨#[49, 32, 44, 121, 110, 97]⟩ _ HL.out.cur (by omega) (by omega) (by decide) (by decide)).mono ?_
      rintro e w5 ⟨s', rfl, hs', hc, hg⟩
      replace HL := Lib.hid (HL.out.draw hc hg)
      clear hc hg
      go_wp2_with fail
      have hbl := below_end HB0.out HWW.out HL.out.grown
      go_ret
      exact ⟨s', rfl, by omega, hbl⟩
  | false =>
    replace HGD := Lib.hid (HGD.out _ hgd)
    clear hgd
    go_wp2_with fail
    refine (HGD.out _).mono ?_
    rintro e w6 ⟨rfl, hb⟩
    replace HL := Lib.hid (HL.out.kept hb)
    replace HG := Lib.hid (HG.out.keptB hb)
    clear hb g0 g1 g2
    have g0 := HG.out.cell 0
    have g1 := HG.out.cell 1
    have g2 := HG.out.cell 2
    simp only [List.getElem?_toArray, List.getElem?_cons_zero, List.getElem?_cons_succ] at g0 g1 g2
    have f0 := HG.out.frozen 0
    have f1 := HG.out.frozen 1
    have f2 := HG.out.frozen 2
    go_upto_region 5 with fail
    clear g0 g1 g2 f0 f1 f2
    replace HG := Lib.hid (bx3 HG.out (.int .i64 3) (.int .i64 2) (.int .i64 1))
    replace HL := Lib.hid (((HL.out.set (p := ⟨G, 0, none⟩) hGA (.int .i64 3)).set (p := ⟨G, 1, none⟩) hGA (.int .i64 2)).set (p := ⟨G, 2, none⟩) hGA (.int .i64 1))
    generalize (((w6.setCell ⟨G, 0, none⟩ (.int .i64 3)).setCell ⟨G, 1, none⟩ (.int .i64 2)).setCell ⟨G, 2, none⟩ (.int .i64 1)) = w7 at *
    have g0 := HG.out.cell 0
    have g1 := HG.out.cell 1
    have g2 := HG.out.cell 2
    simp only [List.getElem?_toArray, List.getElem?_cons_zero, List.getElem?_cons_succ] at g0 g1 g2
    go_wp2_with fail
    refine (TalX.l11Text ⟨3, 2, 1⟩ _ (show good ⟨3, 2, 1⟩ = true from rfl)).mono ?_
    rintro e w3 ⟨rfl, hb3⟩
    have hss := line_size (show good ⟨3, 2, 1⟩ = true from rfl)
    replace HL := Lib.hid (HL.out.kept hb3)
    clear hb3
    generalize line ⟨3, 2, 1⟩ = s at *
    go_wp2_with fail
    refine (one B _ 4 _ HL.out.cur (by omega) (by omega) (by omega)).mono ?_
    rintro e w4 ⟨b, rfl, hc, hg⟩
    replace HL := Lib.hid (HL.out.draw hc hg)
    clear hc hg
    cases b with
    | false =>
      go_wp2_with fail
      have hbl := below_end HB0.out HWW.out HL.out.grown
      go_ret
      exact ⟨s, rfl, by omega, hbl⟩
    | true =>
      go_wp2_with fail
      refine (spoilt B _ s ⟨#[49, 32, 44, 121, 110, 97]⟩ _ HL.out.cur (by omega) (by omega) (by decide) (by decide)).mono ?_
      rintro e w5 ⟨s', rfl, hs', hc, hg⟩
      replace HL := Lib.hid (HL.out.draw hc hg)
      clear hc hg
      go_wp2_with fail
      have hbl := below_end HB0.out HWW.out HL.out.grown
      go_ret
      exact ⟨s', rfl, by omega, hbl⟩
end Go.Proofs.YtkdiedmbikkbiaaDoor.DrawTal
