/- The draws of an item and of a minute. No condition. -/
import Derived.Test.YtgemnjimgjnlhaaGreatDoorJ1
import Derived.Deep.DeepCutAuto
import Derived.Deep.CutBlock
namespace Go.Proofs.YtgemnjimgjnlhaaGreatDoor.DrawAg
open Go.RowKit Cur Bs Draw
set_option linter.unusedVariables false
abbrev M := LAgendaItem.R
/-- an item whose title is short -/
def ItOf (w : World) (B m : Nat) (e : Ending) (w' : World) : Prop := ∃ r : M, e = .returned (.agg #[.int .i64 r.id, .string r.title, .int .i64 r.mins, .int .i64 r.time]) ∧ r.title.size ≤ 11 ∧ Cur w' B m ∧ w.grownBy w' (some B)
def MinOf (w : World) (B m : Nat) (e : Ending) (w' : World) : Prop := ∃ x : Int, e = .returned (.int .i64 x) ∧ -1 ≤ x ∧ x ≤ 1440 ∧ Cur w' B m ∧ w.grownBy w' (some B)
theorem bx4 {w : World} {R : Nat} {t : TypeId} {a b c d : Value} (h : Bx w R t #[a, b, c, d]) (a' b' c' d' : Value) : Bx ((((w.setCell ⟨R, 0, none⟩ a').setCell ⟨R, 1, none⟩ b').setCell ⟨R, 2, none⟩ c').setCell ⟨R, 3, none⟩ d') R t #[a', b', c', d'] := by
  have h4 := (((h.set_ 0 a').set_ 1 b').set_ 2 c').set_ 3 d'
  simpa using h4
set_option maxRecDepth 100000 in
set_option maxHeartbeats 3200000 in
theorem agendaItem (B m : Nat) (n : Int) (w : World) (h : Cur w B m) (hm : m < 700000) : Calls Tryz.prog 101 #[.pointer (some ⟨B, 0, none⟩), .int .i64 n] w (ItOf w B (m + 20)) := by
  have hBl := h.lt
  have HL0 := Lib.hid ((Live.start h).alloc (.cells #[.int .i64 0, .string ⟨#[]⟩, .int .i64 0, .int .i64 0] 52))
  have HR0 := Lib.hid (Bx.new w 52 #[.int .i64 0, .string ⟨#[]⟩, .int .i64 0, .int .i64 0])
  clear h
  go_enter Tryz.func101, Tryz.ntmps101
  go_wp2_with fail
  generalize w.alloc (.cells #[.int .i64 0, .string ⟨#[]⟩, .int .i64 0, .int .i64 0] 52) = W0 at *
  generalize hR : w.heap.size = R at *
  have HRe := Lib.hid hR
  have hRA : w.heap.size ≤ R := by omega
  have hRB : R ≠ B := by omega
  clear hR
  refine (word B _ _ HL0.out.cur (by omega)).mono ?_
  rintro e w1 ⟨X, rfl, hX, hc1, hg1⟩
  have HR1 := Lib.hid (HR0.out.grown hg1 hRB)
  have HL1 := Lib.hid (HL0.out.draw hc1 hg1)
  clear hc1 hg1 HR0 HL0 W0
  go_wp2_with fail
  refine (among_lit B _ [1, 5, 10, 25, 60, 240] w1 HL1.out.cur (by omega) (by decide) (by decide)).mono ?_
  rintro e w2 ⟨N, _, rfl, hc2, hg2⟩
  have HR2 := Lib.hid (HR1.out.grown hg2 hRB)
  have HL2 := Lib.hid (HL1.out.draw hc2 hg2)
  clear hc2 hg2 HR1 HL1
  go_wp2_with fail
  have HB3 := Lib.hid (Bx.new w2 52 #[.int .i64 n, .string X, .int .i64 N, .int .i64 (-1)])
  have HR3 := Lib.hid (HR2.out.alloc (.cells #[.int .i64 n, .string X, .int .i64 N, .int .i64 (-1)] 52))
  have HL3 := Lib.hid (HL2.out.alloc (.cells #[.int .i64 n, .string X, .int .i64 N, .int .i64 (-1)] 52))
  have hGR : R < w2.heap.size := HR2.out.lt
  clear HR2 HL2
  generalize w2.alloc (.cells #[.int .i64 n, .string X, .int .i64 N, .int .i64 (-1)] 52) = w3 at *
  generalize w2.heap.size = G at *
  have hGA : w.heap.size ≤ G := by omega
  have hGB : G ≠ B := by omega
  refine (one B _ 2 _ HL3.out.cur (by omega) (by omega) (by omega)).mono ?_
  rintro e w4 ⟨b, rfl, hc4, hg4⟩
  have HR4 := Lib.hid (HR3.out.grown hg4 hRB)
  have HB4 := Lib.hid (HB3.out.grown hg4 hGB)
  have HL4 := Lib.hid (HL3.out.draw hc4 hg4)
  clear hc4 hg4 HR3 HB3 HL3
  go_upto_if 14 with fail
  go_cut [5] (fun u wx => u = .pointer (some ⟨G, 0, none⟩) ∧ ∃ t : Int, Hid (Bx wx G 52 #[.int .i64 n, .string X, .int .i64 N, .int .i64 t]) ∧ Hid (Bx wx R 52 #[.int .i64 0, .string ⟨#[]⟩, .int .i64 0, .int .i64 0]) ∧ Hid (Live B (m + 8) w wx))
  case first =>
    cases b with
    | false =>
      go_wp2_with fail
      go_meet
      exact ⟨rfl, -1, HB4, HR4, Lib.hid (HL4.out.mono (by omega))⟩
    | true =>
      go_wp2_with fail
      refine (among_lit B _ [0, 540, 570, 600, 1439] w4 HL4.out.cur (by omega) (by decide) (by decide)).mono ?_
      rintro e w5 ⟨t, _, rfl, hc5, hg5⟩
      have HR5 := Lib.hid (HR4.out.grown hg5 hRB)
      have HB5 := Lib.hid (HB4.out.grown hg5 hGB)
      have HL5 := Lib.hid (HL4.out.draw hc5 hg5)
      have f3 := HB5.out.frozen 3
      have b3 := HB5.out.cell 3
      simp only [List.getElem?_toArray, List.getElem?_cons_zero, List.getElem?_cons_succ] at b3
      have HB6 := Lib.hid (show Bx (w5.setCell ⟨G, 3, none⟩ (.int .i64 t)) G 52 #[.int .i64 n, .string X, .int .i64 N, .int .i64 t] from HB5.out.set_ 3 _)
      have HR6 := Lib.hid (HR5.out.far (p := ⟨G, 3, none⟩) (by show R ≠ G; omega) (.int .i64 t))
      have HL6 := Lib.hid ((HL5.out.set (p := ⟨G, 3, none⟩) hGA (.int .i64 t)).mono (m' := m + 8) (by omega))
      clear hc5 hg5 HR4 HB4 HL4 HR5 HB5 HL5
      go_wp2_with fail
      go_meet
      exact ⟨rfl, t, HB6, HR6, HL6⟩
  case rest =>
  clear HR4 HB4 HL4
  obtain ⟨rfl, t, HB, HR, HL⟩ := hcut
  go_wp2_with fail
  refine (pick B _ 60 _ HL.out.cur (by omega) (by omega) (by omega)).mono ?_
  rintro e w6 ⟨s, rfl, s0, s1, hc6, hg6⟩
  have HR6 := Lib.hid (HR.out.grown hg6 hRB)
  have HB6 := Lib.hid (HB.out.grown hg6 hGB)
  have HL6 := Lib.hid (HL.out.draw hc6 hg6)
  clear hc6 hg6 HR HB HL
  go_upto_block 0 with fail
  go_cut [5] (fun u wx => u = .pointer (some ⟨G, 0, none⟩) ∧ ∃ r : M, r.title.size ≤ 11 ∧ Hid (Bx wx G 52 #[.int .i64 r.id, .string r.title, .int .i64 r.mins, .int .i64 r.time]) ∧ Hid (Bx wx R 52 #[.int .i64 0, .string ⟨#[]⟩, .int .i64 0, .int .i64 0]) ∧ Hid (Live B (m + 20) w wx))
  case first =>
    cases e0 : (s == 0) with
    | true =>
      go_wp2_with fail
      refine (among_lit B _ [0, 99, 100] w6 HL6.out.cur (by omega) (by decide) (by decide)).mono ?_
      rintro e w7 ⟨V, hV, rfl, hc7, hg7⟩
      have HR7 := Lib.hid (HR6.out.grown hg7 hRB)
      have HB7 := Lib.hid (HB6.out.grown hg7 hGB)
      have HL7 := Lib.hid (HL6.out.draw hc7 hg7)
      have f0 := HB7.out.frozen 0
      have b0 := HB7.out.cell 0
      simp only [List.getElem?_toArray, List.getElem?_cons_zero] at b0
      have HB8 := Lib.hid (show Bx (w7.setCell ⟨G, 0, none⟩ (.int .i64 V)) G 52 #[.int .i64 V, .string X, .int .i64 N, .int .i64 t] from HB7.out.set_ 0 _)
      have HR8 := Lib.hid (HR7.out.far (p := ⟨G, 0, none⟩) (by show R ≠ G; omega) (.int .i64 V))
      have HL8 := Lib.hid ((HL7.out.set (p := ⟨G, 0, none⟩) hGA (.int .i64 V)).mono (m' := m + 20) (by omega))
      clear hV hc7 hg7 HR6 HB6 HL6 HR7 HB7 HL7
      go_wp2_with fail
      go_meet
      exact ⟨rfl, ⟨V, X, N, t⟩, (show X.size ≤ 11 by omega), HB8, HR8, HL8⟩
    | false =>
      cases e1 : (s == 1) with
      | true =>
        go_wp2_with fail
        refine (among_lit B _ [0, 241] w6 HL6.out.cur (by omega) (by decide) (by decide)).mono ?_
        rintro e w7 ⟨V, hV, rfl, hc7, hg7⟩
        have HR7 := Lib.hid (HR6.out.grown hg7 hRB)
        have HB7 := Lib.hid (HB6.out.grown hg7 hGB)
        have HL7 := Lib.hid (HL6.out.draw hc7 hg7)
        have f0 := HB7.out.frozen 2
        have b0 := HB7.out.cell 2
        simp only [List.getElem?_toArray, List.getElem?_cons_zero, List.getElem?_cons_succ] at b0
        have HB8 := Lib.hid (show Bx (w7.setCell ⟨G, 2, none⟩ (.int .i64 V)) G 52 #[.int .i64 n, .string X, .int .i64 V, .int .i64 t] from HB7.out.set_ 2 _)
        have HR8 := Lib.hid (HR7.out.far (p := ⟨G, 2, none⟩) (by show R ≠ G; omega) (.int .i64 V))
        have HL8 := Lib.hid ((HL7.out.set (p := ⟨G, 2, none⟩) hGA (.int .i64 V)).mono (m' := m + 20) (by omega))
        clear hV hc7 hg7 HR6 HB6 HL6 HR7 HB7 HL7
        go_wp2_with fail
        go_meet
        exact ⟨rfl, ⟨n, X, V, t⟩, (show X.size ≤ 11 by omega), HB8, HR8, HL8⟩
      | false =>
        cases e2 : (s == 2) with
        | true =>
          go_wp2_with fail
          refine (among_lit B _ [-2, 1440] w6 HL6.out.cur (by omega) (by decide) (by decide)).mono ?_
          rintro e w7 ⟨V, hV, rfl, hc7, hg7⟩
          have HR7 := Lib.hid (HR6.out.grown hg7 hRB)
          have HB7 := Lib.hid (HB6.out.grown hg7 hGB)
          have HL7 := Lib.hid (HL6.out.draw hc7 hg7)
          have f0 := HB7.out.frozen 3
          have b0 := HB7.out.cell 3
          simp only [List.getElem?_toArray, List.getElem?_cons_zero, List.getElem?_cons_succ] at b0
          have HB8 := Lib.hid (show Bx (w7.setCell ⟨G, 3, none⟩ (.int .i64 V)) G 52 #[.int .i64 n, .string X, .int .i64 N, .int .i64 V] from HB7.out.set_ 3 _)
          have HR8 := Lib.hid (HR7.out.far (p := ⟨G, 3, none⟩) (by show R ≠ G; omega) (.int .i64 V))
          have HL8 := Lib.hid ((HL7.out.set (p := ⟨G, 3, none⟩) hGA (.int .i64 V)).mono (m' := m + 20) (by omega))
          clear hV hc7 hg7 HR6 HB6 HL6 HR7 HB7 HL7
          go_wp2_with fail
          go_meet
          exact ⟨rfl, ⟨n, X, N, V⟩, (show X.size ≤ 11 by omega), HB8, HR8, HL8⟩
        | false =>
          cases e3 : (s == 3) with
          | true =>
            go_wp2_with fail
            refine (of_lit B _ [⟨#[]⟩, ⟨#[65]⟩, ⟨#[97, 98, 99, 100, 101, 102, 103, 104, 105, 106, 107]⟩] w6 HL6.out.cur (by omega) (by decide) (by decide)).mono ?_
            rintro e w7 ⟨V, hV, rfl, hc7, hg7⟩
            have hVs := small_of _ 11 (by decide +kernel) V hV
            have HR7 := Lib.hid (HR6.out.grown hg7 hRB)
            have HB7 := Lib.hid (HB6.out.grown hg7 hGB)
            have HL7 := Lib.hid (HL6.out.draw hc7 hg7)
            have f0 := HB7.out.frozen 1
            have b0 := HB7.out.cell 1
            simp only [List.getElem?_toArray, List.getElem?_cons_zero, List.getElem?_cons_succ] at b0
            have HB8 := Lib.hid (show Bx (w7.setCell ⟨G, 1, none⟩ (.string V)) G 52 #[.int .i64 n, .string V, .int .i64 N, .int .i64 t] from HB7.out.set_ 1 _)
            have HR8 := Lib.hid (HR7.out.far (p := ⟨G, 1, none⟩) (by show R ≠ G; omega) (.string V))
            have HL8 := Lib.hid ((HL7.out.set (p := ⟨G, 1, none⟩) hGA (.string V)).mono (m' := m + 20) (by omega))
            clear hV hc7 hg7 HR6 HB6 HL6 HR7 HB7 HL7
            go_wp2_with fail
            go_meet
            exact ⟨rfl, ⟨n, V, N, t⟩, (show V.size ≤ 11 by omega), HB8, HR8, HL8⟩
          | false =>
            go_wp2_with fail
            go_meet
            exact ⟨rfl, ⟨n, X, N, t⟩, (show X.size ≤ 11 by omega), HB6, HR6, Lib.hid (HL6.out.mono (by omega))⟩
  case rest =>
  clear HR6 HB6 HL6
  obtain ⟨rfl, r, hr, HB, HR, HL⟩ := hcut
  have k0 := HB.out.cell 0
  have k1 := HB.out.cell 1
  have k2 := HB.out.cell 2
  have k3 := HB.out.cell 3
  have j0 := HR.out.frozen 0
  have j1 := HR.out.frozen 1
  have j2 := HR.out.frozen 2
  have j3 := HR.out.frozen 3
  have l0 := HR.out.cell 0
  have l1 := HR.out.cell 1
  have l2 := HR.out.cell 2
  have l3 := HR.out.cell 3
  simp only [List.getElem?_toArray, List.getElem?_cons_zero, List.getElem?_cons_succ] at k0 k1 k2 k3 l0 l1 l2 l3
  have HRf := Lib.hid (bx4 HR.out (.int .i64 r.id) (.string r.title) (.int .i64 r.mins) (.int .i64 r.time))
  have HLf := Lib.hid (((((HL.out.set (p := ⟨R, 0, none⟩) hRA (.int .i64 r.id)).set (p := ⟨R, 1, none⟩) hRA (.string r.title)).set (p := ⟨R, 2, none⟩) hRA (.int .i64 r.mins)).set (p := ⟨R, 3, none⟩) hRA (.int .i64 r.time)))
  go_wp2_with fail
  clear k0 k1 k2 k3 j0 j1 j2 j3 l0 l1 l2 l3
  generalize ((((wc.setCell ⟨R, 0, none⟩ (.int .i64 r.id)).setCell ⟨R, 1, none⟩ (.string r.title)).setCell ⟨R, 2, none⟩ (.int .i64 r.mins)).setCell ⟨R, 3, none⟩ (.int .i64 r.time)) = wz at *
  have e0 := HRf.out.cell 0
  have e1 := HRf.out.cell 1
  have e2 := HRf.out.cell 2
  have e3 := HRf.out.cell 3
  simp only [List.getElem?_toArray, List.getElem?_cons_zero, List.getElem?_cons_succ] at e0 e1 e2 e3
  refine bodyPost_ret (v := .agg #[.int .i64 r.id, .string r.title, .int .i64 r.mins, .int .i64 r.time]) (by simp [results, Tryz.results101, go_sem, e0, e1, e2, e3]) rfl ⟨r, rfl, hr, HLf.out.post (Nat.le_refl _)⟩
end Go.Proofs.YtgemnjimgjnlhaaGreatDoor.DrawAg
