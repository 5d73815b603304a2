/- The draws of a tally. No condition. -/
import Derived.Test.YtankaffhapcnaaaDrawW
import Derived.Test.YtankaffhapcnaaaLive
import Derived.Test.YtankaffhapcnaaaTal
import Derived.IntWalk
import Derived.Deep.DeepCutAuto
import Derived.Deep.CutBlock
namespace Go.Proofs.Ytankaffhapcnaaa.DrawTal
open Go.RowKit Cur Bs Draw Tal
set_option linter.unusedVariables false
def TalOf (w : World) (B m : Nat) (e : Ending) (w' : World) : Prop := ∃ r : T, e = .returned (.agg #[.int .i64 r.yes, .int .i64 r.no, .int .i64 r.abstain]) ∧ Cur w' B m ∧ w.grownBy w' (some B)
def TalArg (w : World) (e : Ending) (w' : World) : Prop := ∃ r : T, e = .returned (.agg #[.int .i64 r.yes, .int .i64 r.no, .int .i64 r.abstain]) ∧ Below w.heap.size w w'
def TwoArg (w : World) (e : Ending) (w' : World) : Prop := ∃ r q : T, e = .returned (.tuple #[.agg #[.int .i64 r.yes, .int .i64 r.no, .int .i64 r.abstain], .agg #[.int .i64 q.yes, .int .i64 q.no, .int .i64 q.abstain]]) ∧ Below w.heap.size w w'
def TxtArg (w : World) (e : Ending) (w' : World) : Prop := ∃ s : ByteArray, e = .returned (.string s) ∧ s.size ≤ 100 ∧ Below w.heap.size w w'
theorem bx3 {w : World} {R : Nat} {t : TypeId} {a b c : Value} (h : Draw.Bx w R t #[a, b, c]) (a' b' c' : Value) : Draw.Bx (((w.setCell ⟨R, 0, none⟩ a').setCell ⟨R, 1, none⟩ b').setCell ⟨R, 2, none⟩ c') R t #[a', b', c'] := by
  have h4 := ((h.set_ 0 a').set_ 1 b').set_ 2 c'
  simpa using h4
theorem below_end {w W0 w' : World} {B : Nat} {a : Option Addr} {len cap : Nat} (hB : w.heap.size = B) (hW : w.alloc (.cells #[.slice a len cap, .int .i64 0, .int .u64 0] 79) = W0) (hg : W0.grownBy w' (some B)) : Below w.heap.size w w' := by
  subst hB hW
  exact below_cur hg
theorem row_kept {k : IntKind} {w w' : World} {a : Option Addr} {len cap : Nat} {zs : List Int} (h : Frame.IsRow k w a len cap zs) (hb : Below w.heap.size w w') : Frame.IsRow k w' a len cap zs := by
  rcases h with h | ⟨x, h1, h2, h3, h4, h5, h6⟩
  · exact .inl h
  · refine .inr ⟨x, h1, h2, h3, h4, fun i hi => ?_, h6⟩
    have hc := h5 i hi
    rw [hb.cell (Cur.cell_lt hc)]
    exact hc
theorem least11 (a b : Int) (w : World) : Calls Try.prog 90 #[.int .i64 a, .int .i64 b] w fun e w' => e = .returned (.int .i64 (if a < b then a else b)) ∧ w = w' := by
  by_cases h : a < b
  · have HM := Lib.hid (show (if a < b then a else b) = a from if_pos h)
    go_enter Try.func90, Try.ntmps90
    go_wp2_with fail
    go_ret
    exact ⟨rfl, rfl⟩
  · have HM := Lib.hid (show (if a < b then a else b) = b from if_neg h)
    go_enter Try.func90, Try.ntmps90
    go_wp2_with fail
    go_ret
    exact ⟨rfl, rfl⟩
theorem votes (B m : Nat) (w : World) (h : Cur w B m) (hm : m < 800000) : Calls Try.prog 147 #[.pointer (some ⟨B, 0, none⟩)] w (Ints w B (m + 2) [0, 1, 2, 3, 5, 9, 10, 20, 40, 999, 1000]) := by
  have HX := Lib.hid (among_lit B m [0, 1, 2, 3, 5, 9, 10, 20, 40, 999, 1000] w h (by omega) (by decide) (by decide))
  clear h
  go_enter Try.func147, Try.ntmps147
  go_wp2_with fail
  refine HX.out.mono ?_
  rintro e w1 ⟨x, hx, rfl, hc, hg⟩
  go_wp2_with fail
  go_ret
  exact ⟨x, hx, rfl, hc, hg⟩
set_option maxRecDepth 100000 in
set_option maxHeartbeats 3200000 in
theorem tally (B m : Nat) (w : World) (h : Cur w B m) (hm : m < 700000) : Calls Try.prog 124 #[.pointer (some ⟨B, 0, none⟩)] w (TalOf w B (m + 20)) := by
  have hBl := h.lt
  have HL0 := Lib.hid ((Live.start h).alloc (.cells #[.int .i64 0, .int .i64 0, .int .i64 0] 71))
  have HR0 := Lib.hid (Draw.Bx.new w 71 #[.int .i64 0, .int .i64 0, .int .i64 0])
  clear h
  go_enter Try.func124, Try.ntmps124
  go_wp2_with fail
  generalize w.alloc (.cells #[.int .i64 0, .int .i64 0, .int .i64 0] 71) = W0 at *
  generalize hR : w.heap.size = R at *
  have HRe := Lib.hid hR
  have hRA : w.heap.size ≤ R := by omega
  have hRB : R ≠ B := by omega
  clear hR
  refine (votes B _ _ HL0.out.cur (by omega)).mono ?_
  rintro e w1 ⟨Y, hY, rfl, hc, hg⟩
  have HR1 := Lib.hid (HR0.out.grown hg hRB)
  have HL1 := Lib.hid (HL0.out.draw hc hg)
  clear hc hg HR0 HL0
  go_wp2_with fail
  refine (votes B _ _ HL1.out.cur (by omega)).mono ?_
  rintro e w2 ⟨N, hN, rfl, hc, hg⟩
  have HR2 := Lib.hid (HR1.out.grown hg hRB)
  have HL2 := Lib.hid (HL1.out.draw hc hg)
  clear hc hg HR1 HL1
  go_wp2_with fail
  refine (among_lit B _ [0, 0, 1, 7, 1000] w2 HL2.out.cur (by omega) (by decide) (by decide)).mono ?_
  rintro e w3 ⟨A, hA, rfl, hc, hg⟩
  have HR3 := Lib.hid (HR2.out.grown hg hRB)
  have HL3 := Lib.hid (HL2.out.draw hc hg)
  clear hc hg HR2 HL2
  go_wp2_with fail
  have HB4 := Lib.hid (Draw.Bx.new w3 71 #[.int .i64 Y, .int .i64 N, .int .i64 A])
  have HR4 := Lib.hid (HR3.out.alloc (.cells #[.int .i64 Y, .int .i64 N, .int .i64 A] 71))
  have HL4 := Lib.hid (HL3.out.alloc (.cells #[.int .i64 Y, .int .i64 N, .int .i64 A] 71))
  have hGR : R < w3.heap.size := HR3.out.lt
  clear HR3 HL3
  generalize w3.alloc (.cells #[.int .i64 Y, .int .i64 N, .int .i64 A] 71) = w4 at *
  generalize w3.heap.size = G at *
  have hGA : w.heap.size ≤ G := by omega
  have hGB : G ≠ B := by omega
  refine (pick B _ 6 _ HL4.out.cur (by omega) (by omega) (by omega)).mono ?_
  rintro e w5 ⟨s, rfl, s0, s1, hc, hg⟩
  have HR7 := Lib.hid (HR4.out.grown hg hRB)
  have HB7 := Lib.hid (HB4.out.grown hg hGB)
  have HL7 := Lib.hid (HL4.out.draw hc hg)
  clear hc hg HR4 HB4 HL4 hA
  have hN0 : 0 ≤ N ∧ N ≤ 1000 := by simp only [List.mem_cons, List.not_mem_nil, or_false] at hN; omega
  clear hY hN
  go_upto_block 0 with fail
  go_cut [3] (fun u wx => u = .pointer (some ⟨G, 0, none⟩) ∧ ∃ r : T, Hid (Draw.Bx wx G 71 #[.int .i64 r.yes, .int .i64 r.no, .int .i64 r.abstain]) ∧ Hid (Draw.Bx wx R 71 #[.int .i64 0, .int .i64 0, .int .i64 0]) ∧ Hid (Live B (m + 8) w wx))
  case first =>
    cases e0 : (s == 0) with
    | true =>
      have q1 := HB7.out.cell 1
      simp only [List.getElem?_toArray, List.getElem?_cons_zero, List.getElem?_cons_succ] at q1
      have f0 := HB7.out.frozen 0
      have b0 := HB7.out.cell 0
      simp only [List.getElem?_toArray, List.getElem?_cons_zero] at b0
      have HB8 := Lib.hid (show Draw.Bx (w5.setCell ⟨G, 0, none⟩ (.int .i64 N)) G 71 #[.int .i64 N, .int .i64 N, .int .i64 A] from HB7.out.set_ 0 _)
      have HR8 := Lib.hid (HR7.out.far (p := ⟨G, 0, none⟩) (by show R ≠ G; omega) (.int .i64 N))
      have HL8 := Lib.hid (HL7.out.set (p := ⟨G, 0, none⟩) hGA (.int .i64 N))
      clear HR7 HB7 HL7
      go_wp2_with fail
      go_meet
      exact ⟨rfl, ⟨N, N, A⟩, HB8, HR8, Lib.hid (HL8.out.mono (by omega))⟩
    | false =>
    cases e1 : (s == 1) with
    | true =>
      have q1 := HB7.out.cell 1
      simp only [List.getElem?_toArray, List.getElem?_cons_zero, List.getElem?_cons_succ] at q1
      have hw2 : IntKind.i64.wrap (2 * N) = 2 * N := IntWalk.i64_in _ (by omega)
      obtain ⟨V, hV⟩ : ∃ V, V = (if (1000 : Int) < 2 * N then 1000 else 2 * N) := ⟨_, rfl⟩
      have HLE := Lib.hid (fun W => least11 1000 (2 * N) W)
      rw [← hV] at HLE
      clear hV
      have f0 := HB7.out.frozen 0
      have b0 := HB7.out.cell 0
      simp only [List.getElem?_toArray, List.getElem?_cons_zero] at b0
      have HB8 := Lib.hid (show Draw.Bx (w5.setCell ⟨G, 0, none⟩ (.int .i64 V)) G 71 #[.int .i64 V, .int .i64 N, .int .i64 A] from HB7.out.set_ 0 _)
      have HR8 := Lib.hid (HR7.out.far (p := ⟨G, 0, none⟩) (by show R ≠ G; omega) (.int .i64 V))
      have HL8 := Lib.hid (HL7.out.set (p := ⟨G, 0, none⟩) hGA (.int .i64 V))
      clear HR7 HB7 HL7
      go_wp2_with fail
      refine (HLE.out _).mono ?_
      rintro e _ ⟨rfl, rfl⟩
      go_wp2_with fail
      go_meet
      exact ⟨rfl, ⟨V, N, A⟩, HB8, HR8, Lib.hid (HL8.out.mono (by omega))⟩
    | false =>
    cases e2 : (s == 2) with
    | true =>
      have f0 := HB7.out.frozen 1
      have b0 := HB7.out.cell 1
      simp only [List.getElem?_toArray, List.getElem?_cons_zero, List.getElem?_cons_succ] at b0
      have HB8 := Lib.hid (show Draw.Bx (w5.setCell ⟨G, 1, none⟩ (.int .i64 0)) G 71 #[.int .i64 Y, .int .i64 0, .int .i64 A] from HB7.out.set_ 1 _)
      have HR8 := Lib.hid (HR7.out.far (p := ⟨G, 1, none⟩) (by show R ≠ G; omega) (.int .i64 0))
      have HL8 := Lib.hid (HL7.out.set (p := ⟨G, 1, none⟩) hGA (.int .i64 0))
      clear HR7 HB7 HL7
      go_wp2_with fail
      go_meet
      exact ⟨rfl, ⟨Y, 0, A⟩, HB8, HR8, Lib.hid (HL8.out.mono (by omega))⟩
    | false =>
      go_wp2_with fail
      go_meet
      exact ⟨rfl, ⟨Y, N, A⟩, HB7, HR7, Lib.hid (HL7.out.mono (by omega))⟩
  case rest =>
  clear HR7 HB7 HL7 hN0 s0 s1
  obtain ⟨rfl, ⟨Y2, N2, A2⟩, HB, HR, HL⟩ := hcut
  simp only at HB
  go_wp2_with fail
  refine (pick B _ 24 _ HL.out.cur (by omega) (by omega) (by omega)).mono ?_
  rintro e w6 ⟨s, rfl, s0, s1, hc, hg⟩
  have HR6 := Lib.hid (HR.out.grown hg hRB)
  have HB6 := Lib.hid (HB.out.grown hg hGB)
  have HL6 := Lib.hid (HL.out.draw hc hg)
  clear hc hg HR HB HL
  go_upto_block 1 with fail
  go_cut [3] (fun u wx => u = .pointer (some ⟨G, 0, none⟩) ∧ ∃ r : T, Hid (Draw.Bx wx G 71 #[.int .i64 r.yes, .int .i64 r.no, .int .i64 r.abstain]) ∧ Hid (Draw.Bx wx R 71 #[.int .i64 0, .int .i64 0, .int .i64 0]) ∧ Hid (Live B (m + 20) w wx))
  case first =>
    cases e0 : (s == 0) with
    | true =>
      go_wp2_with fail
      refine (among_lit B _ [-1, 1001] w6 HL6.out.cur (by omega) (by decide) (by decide)).mono ?_
      rintro e w7 ⟨V, hV, rfl, hc, hg⟩
      have HR7 := Lib.hid (HR6.out.grown hg hRB)
      have HB7 := Lib.hid (HB6.out.grown hg hGB)
      have HL7 := Lib.hid (HL6.out.draw hc hg)
      have f0 := HB7.out.frozen 0
      have b0 := HB7.out.cell 0
      simp only [List.getElem?_toArray, List.getElem?_cons_zero] at b0
      have HB8 := Lib.hid (show Draw.Bx (w7.setCell ⟨G, 0, none⟩ (.int .i64 V)) G 71 #[.int .i64 V, .int .i64 N2, .int .i64 A2] from HB7.out.set_ 0 _)
      have HR8 := Lib.hid (HR7.out.far (p := ⟨G, 0, none⟩) (by show R ≠ G; omega) (.int .i64 V))
      have HL8 := Lib.hid (HL7.out.set (p := ⟨G, 0, none⟩) hGA (.int .i64 V))
      clear hV hc hg HR6 HB6 HL6 HR7 HB7 HL7
      go_wp2_with fail
      go_meet
      exact ⟨rfl, ⟨V, N2, A2⟩, HB8, HR8, Lib.hid (HL8.out.mono (by omega))⟩
    | false =>
    cases e1 : (s == 1) with
    | true =>
      go_wp2_with fail
      refine (among_lit B _ [-1, 1001] w6 HL6.out.cur (by omega) (by decide) (by decide)).mono ?_
      rintro e w7 ⟨V, hV, rfl, hc, hg⟩
      have HR7 := Lib.hid (HR6.out.grown hg hRB)
      have HB7 := Lib.hid (HB6.out.grown hg hGB)
      have HL7 := Lib.hid (HL6.out.draw hc hg)
      have f0 := HB7.out.frozen 2
      have b0 := HB7.out.cell 2
      simp only [List.getElem?_toArray, List.getElem?_cons_zero, List.getElem?_cons_succ] at b0
      have HB8 := Lib.hid (show Draw.Bx (w7.setCell ⟨G, 2, none⟩ (.int .i64 V)) G 71 #[.int .i64 Y2, .int .i64 N2, .int .i64 V] from HB7.out.set_ 2 _)
      have HR8 := Lib.hid (HR7.out.far (p := ⟨G, 2, none⟩) (by show R ≠ G; omega) (.int .i64 V))
      have HL8 := Lib.hid (HL7.out.set (p := ⟨G, 2, none⟩) hGA (.int .i64 V))
      clear hV hc hg HR6 HB6 HL6 HR7 HB7 HL7
      go_wp2_with fail
      go_meet
      exact ⟨rfl, ⟨Y2, N2, V⟩, HB8, HR8, Lib.hid (HL8.out.mono (by omega))⟩
    | false =>
      go_wp2_with fail
      go_meet
      exact ⟨rfl, ⟨Y2, N2, A2⟩, HB6, HR6, Lib.hid (HL6.out.mono (by omega))⟩
  case rest =>
  clear HR6 HB6 HL6 s0 s1
  obtain ⟨rfl, r, HB, HR, HL⟩ := hcut
  have k0 := HB.out.cell 0
  have k1 := HB.out.cell 1
  have k2 := HB.out.cell 2
  have j0 := HR.out.frozen 0
  have j1 := HR.out.frozen 1
  have j2 := HR.out.frozen 2
  have l0 := HR.out.cell 0
  have l1 := HR.out.cell 1
  have l2 := HR.out.cell 2
  simp only [List.getElem?_toArray, List.getElem?_cons_zero, List.getElem?_cons_succ] at k0 k1 k2 l0 l1 l2
  have HRf := Lib.hid (bx3 HR.out (.int .i64 r.yes) (.int .i64 r.no) (.int .i64 r.abstain))
  have HLf := Lib.hid (((HL.out.set (p := ⟨R, 0, none⟩) hRA (.int .i64 r.yes)).set (p := ⟨R, 1, none⟩) hRA (.int .i64 r.no)).set (p := ⟨R, 2, none⟩) hRA (.int .i64 r.abstain))
  go_wp2_with fail
  clear k0 k1 k2 j0 j1 j2 l0 l1 l2
  generalize (((wc.setCell ⟨R, 0, none⟩ (.int .i64 r.yes)).setCell ⟨R, 1, none⟩ (.int .i64 r.no)).setCell ⟨R, 2, none⟩ (.int .i64 r.abstain)) = wz at *
  have e0 := HRf.out.cell 0
  have e1 := HRf.out.cell 1
  have e2 := HRf.out.cell 2
  simp only [List.getElem?_toArray, List.getElem?_cons_zero, List.getElem?_cons_succ] at e0 e1 e2
  (try simp only [Exit.inBlock, Exit.then])
  refine bodyPost_ret (v := .agg #[.int .i64 r.yes, .int .i64 r.no, .int .i64 r.abstain]) (by simp [results, Try.results124, go_sem, e0, e1, e2]) rfl ?_
  exact ⟨r, rfl, HLf.out.cur, HLf.out.grown⟩
end Go.Proofs.Ytankaffhapcnaaa.DrawTal
