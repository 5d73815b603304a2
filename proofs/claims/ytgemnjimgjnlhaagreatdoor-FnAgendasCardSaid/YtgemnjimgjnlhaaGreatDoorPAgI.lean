/- An item read from its line: the program's minuteAt and parseItem. The laid package variables of strconv and the cell of internal/bytealg.MaxLen must lie in memory. -/
import Derived.Test.YtgemnjimgjnlhaaGreatDoorPAg
import Derived.Test.YtgemnjimgjnlhaaGreatDoorPCutH
import Derived.Test.YtgemnjimgjnlhaaGreatDoorPInt
import Derived.Test.YtgemnjimgjnlhaaGreatDoorJ1
import Derived.Test.YtgemnjimgjnlhaaGreatDoorBx
import Derived.BigQuiet
import Derived.Deep.DeepCutAuto
namespace Go.Proofs.YtgemnjimgjnlhaaGreatDoor.PAgI
open Go.RowKit Bs Word SplitMath NumMath Ag AgX PCut PCutH PAg
set_option linter.unusedVariables false
theorem eq_list {a b : ByteArray} {v : Bool} (h : (a.toList == b.toList) = v) : (v = true → a.data.toList = b.data.toList) ∧ (v = false → a.data.toList ≠ b.data.toList) := by
  rw [ByteArray.toList_eq, ByteArray.toList_eq] at h
  refine ⟨fun hv => ?_, fun hv => ?_⟩
  · rw [hv] at h; simpa using h
  · rw [hv] at h; simpa using h
theorem atoiC (s : ByteArray) (w : World) (hs : s.size ≤ 1048576) (vr : Laid.Err "strconv.ErrRange" w) (vs : Laid.Err "strconv.ErrSyntax" w) :
    Calls Tryz.prog 94 #[.string s] w fun e w' => ∃ v er, e = .returned (.tuple #[.int .i64 v, er]) ∧ AtoiOf s.data.toList v ∧ Below w.heap.size w w' := by
  obtain ⟨tr, pr, er⟩ := vr
  obtain ⟨ts, ps, es⟩ := vs
  rcases ha : Lib.atoiAll s.data.toList with v | _ | _
  · refine (Tryz.strconv_Atoi_ok s (by omega) v ha w).mono ?_
    rintro e w1 ⟨rfl, hw1⟩
    exact ⟨v, _, rfl, fun n hn => by rw [ha] at hn; exact Lib.NumEnd.ok.inj hn, Read.below_bytes hw1⟩
  · refine (Tryz.strconv_Atoi_syntax_var s (by omega) ha ts ps w es).mono ?_
    rintro e w1 ⟨N, rfl, _, _, hb1⟩
    exact ⟨0, _, rfl, (fun n hn => by rw [ha] at hn; cases hn), hb1⟩
  · refine (Tryz.strconv_Atoi_range_var s (by omega) ha tr pr w er).mono ?_
    rintro e w1 ⟨N, rfl, _, _, hb1⟩
    exact ⟨_, _, rfl, (fun n hn => by rw [ha] at hn; cases hn), hb1⟩
theorem minuteAt (s : ByteArray) (w : World) (hs : s.size ≤ 1048576) (vr : Laid.Err "strconv.ErrRange" w) (vs : Laid.Err "strconv.ErrSyntax" w) (vm : Mx w) :
    Calls Tryz.prog 112 #[.string s] w fun e w' => ∃ v, e = .returned (.int .i64 v) ∧ ClockOf s.data.toList v ∧ Below w.heap.size w w' := by
  have HVR := Lib.hid vr
  have HVS := Lib.hid vs
  have HC := Lib.hid (cutC s ⟨#[58]⟩ w (by omega) vm)
  unfold CR at HC
  have HA := Lib.hid (fun (S : ByteArray) W (hS : S.size ≤ 1048576) (h : Below w.heap.size w W) => atoiC S W hS (HVR.out.below h) (HVS.out.below h))
  clear vr vs vm
  go_enter Tryz.func112, Tryz.ntmps112
  go_wp2_with fail
  refine HC.out.mono ?_
  rintro e w1 ⟨hh, mm, ok, rfl, hc, ⟨hl1, hl2⟩, hb1⟩
  have HC1 := Lib.hid hc
  clear hc HC
  go_wp2_with fail
  refine (HA.out hh _ (by omega) hb1).mono ?_
  rintro e w2 ⟨h, e1, rfl, ho1, hb2⟩
  have HO1 := Lib.hid ho1
  have hb3 := hb1.trans (hb2.mono hb1.size)
  clear ho1 hb1 hb2
  go_wp2_with fail
  refine (HA.out mm _ (by omega) hb3).mono ?_
  rintro e w3 ⟨m, e2, rfl, ho2, hb4⟩
  have HO2 := Lib.hid ho2
  have hb5 := hb3.trans (hb4.mono hb3.size)
  clear ho2 hb3 hb4
  have HE := Lib.hid (clock_of HC1.out HO1.out HO2.out)
  go_wp2_with fail
  go_ret
  exact ⟨_, rfl, by have h := HE.out; rw [IntWalk.i64_left, IntWalk.i64_left] at h; exact h, hb5⟩
theorem trim_len (l p q : List UInt8) : (Lib.trimPrefix l p).length ≤ l.length ∧ (Lib.trimSuffix l q).length ≤ l.length := by
  unfold Lib.trimPrefix Lib.trimSuffix
  refine ⟨?_, ?_⟩
  · split
    · first | (simp; done) | (simp; omega)
    · exact Nat.le_refl _
  · split
    · first | (simp; done) | (simp; omega)
    · exact Nat.le_refl _
def PPost (P : List UInt8 → M → Prop) (l : ByteArray) (w : World) (e : Ending) (w' : World) : Prop :=
  ∃ (r : M) (ok : Bool), e = .returned (.tuple #[.agg #[.int .i64 r.id, .string r.title, .int .i64 r.mins, .int .i64 r.time], .bool ok]) ∧ (ok = true → P l.data.toList r) ∧ (ok = false → ∀ q, ¬ P l.data.toList q) ∧ Below w.heap.size w w'
set_option maxRecDepth 100000 in
set_option maxHeartbeats 6400000 in
theorem parseItem (s : ByteArray) (w : World) (hs : s.size ≤ 1048576) (vp : Laid.Pow w) (vr : Laid.Err "strconv.ErrRange" w) (vs : Laid.Err "strconv.ErrSyntax" w) (vm : Mx w) :
    Calls Tryz.prog 75 #[.string s] w (PPost P s w) := by
  have HVP := Lib.hid vp
  have HVR := Lib.hid vr
  have HVS := Lib.hid vs
  have HVM := Lib.hid vm
  have HP := Lib.hid (fun (S : ByteArray) W (hS : S.size ≤ 1048576) (h : Below w.heap.size w W) => PInt.parseInt S W (by omega) (HVP.out.below h) (HVR.out.below h) (HVS.out.below h))
  unfold PInt.RI at HP
  have HC := Lib.hid (fun (S sep : ByteArray) W (hS : S.size ≤ 1048576) (h : Below w.heap.size w W) => cutC S sep W hS (HVM.out.below h))
  unfold CR at HC
  have HMA := Lib.hid (fun (S : ByteArray) W (hS : S.size ≤ 1048576) (h : Below w.heap.size w W) => minuteAt S W hS (HVR.out.below h) (HVS.out.below h) (HVM.out.below h))
  clear vp vr vs vm
  have hb := (Below.refl w.heap.size w).alloc (Nat.le_refl _) (Obj.cells #[.int .i64 0, .string ⟨#[]⟩, .int .i64 0, .int .i64 0] 52)
  have HR := Lib.hid (Bx.new w 52 #[.int .i64 0, .string ⟨#[]⟩, .int .i64 0, .int .i64 0])
  go_enter Tryz.func75, Tryz.ntmps75
  go_wp2_with fail
  refine (HC.out s ⟨#[46, 32]⟩ _ (by omega) hb).mono ?_
  rintro e w1 ⟨a1, r1, o1, rfl, hc, ⟨hla1, hlb1⟩, hb1⟩
  have HC1 := Lib.hid hc
  replace HR := Lib.hid (HR.out.kept hb1)
  replace hb := hb.trans (hb1.mono hb.size)
  clear hc hb1
  go_wp2_with fail
  refine (HC.out r1 ⟨#[32, 40]⟩ _ (by omega) hb).mono ?_
  rintro e w2 ⟨a2, r2, o2, rfl, hc, ⟨hla2, hlb2⟩, hb1⟩
  have HC2 := Lib.hid hc
  replace HR := Lib.hid (HR.out.kept hb1)
  replace hb := hb.trans (hb1.mono hb.size)
  clear hc hb1
  go_wp2_with fail
  refine (HC.out r2 ⟨#[32, 109, 105, 110]⟩ _ (by omega) hb).mono ?_
  rintro e w3 ⟨a3, r3, o3, rfl, hc, ⟨hla3, hlb3⟩, hb1⟩
  have HC3 := Lib.hid hc
  replace HR := Lib.hid (HR.out.kept hb1)
  replace hb := hb.trans (hb1.mono hb.size)
  clear hc hb1
  go_wp2_with fail
  have HM := Lib.hid (Bx.new w3 52 #[.int .i64 0, .string a2, .int .i64 0, .int .i64 (-1)])
  have hGw : w.heap.size < w3.heap.size := HR.out.lt
  replace HR := Lib.hid (HR.out.alloc (Obj.cells #[.int .i64 0, .string a2, .int .i64 0, .int .i64 (-1)] 52))
  replace hb := hb.alloc hb.size (Obj.cells #[.int .i64 0, .string a2, .int .i64 0, .int .i64 (-1)] 52)
  obtain ⟨G, hG⟩ : ∃ G, G = w3.heap.size := ⟨_, rfl⟩
  rw [← hG] at HM hGw
  generalize w3.alloc (Obj.cells #[.int .i64 0, .string a2, .int .i64 0, .int .i64 (-1)] 52) = w4 at *
  simp only [← hG]
  have hRG : w.heap.size ≠ G := by omega
  have hGw2 : w.heap.size ≤ G := by omega
  have hRw : w.heap.size ≤ w.heap.size := Nat.le_refl _
  clear hG
  refine (HP.out a1 _ (by omega) hb).mono ?_
  rintro e w5 ⟨id, ok1, rfl, hi, hb1⟩
  have HI := Lib.hid (show NumOf a1.data.toList id from hi)
  replace HR := Lib.hid (HR.out.kept hb1)
  replace HM := Lib.hid (HM.out.kept hb1)
  replace hb := hb.trans (hb1.mono hb.size)
  clear hi hb1
  have f0 := HM.out.frozen 0
  have c0 := HM.out.cell 0
  simp only [List.getElem?_toArray, List.getElem?_cons_zero] at c0
  have HM2 := Lib.hid (HM.out.set_ 0 (.int .i64 id))
  have HR2 := Lib.hid (Bx.far (p := ⟨G, 0, none⟩) HR.out hRG (.int .i64 id))
  have hbs := hb.setCell (p := ⟨G, 0, none⟩) hGw2 (.int .i64 id)
  simp at HM2
  go_wp2_with fail
  generalize w5.setCell ⟨G, 0, none⟩ (.int .i64 id) = w6 at *
  clear HM HR hb f0 c0
  have HM := HM2
  have HR := HR2
  have hb := hbs
  clear HM2 HR2 hbs
  refine (HP.out a3 _ (by omega) hb).mono ?_
  rintro e w7 ⟨mi, ok2, rfl, hi, hb1⟩
  have HMI := Lib.hid (show NumOf a3.data.toList mi from hi)
  replace HR := Lib.hid (HR.out.kept hb1)
  replace HM := Lib.hid (HM.out.kept hb1)
  replace hb := hb.trans (hb1.mono hb.size)
  clear hi hb1
  have f0 := HM.out.frozen 2
  have c0 := HM.out.cell 2
  simp only [List.getElem?_toArray, List.getElem?_cons_zero, List.getElem?_cons_succ] at c0
  have HM2 := Lib.hid (HM.out.set_ 2 (.int .i64 mi))
  have HR2 := Lib.hid (Bx.far (p := ⟨G, 2, none⟩) HR.out hRG (.int .i64 mi))
  have hbs := hb.setCell (p := ⟨G, 2, none⟩) hGw2 (.int .i64 mi)
  simp at HM2
  go_wp2_with fail
  generalize w7.setCell ⟨G, 2, none⟩ (.int .i64 mi) = w8 at *
  clear HM HR hb f0 c0
  have HM := HM2
  have HR := HR2
  have hb := hbs
  clear HM2 HR2 hbs
  have HCP := Lib.hid (Tryz.strings_CutPrefix r3 ⟨#[44, 32, 110, 111, 116, 32, 98, 101, 102, 111, 114, 101, 32]⟩ w8)
  have hpl := (trim_len r3.data.toList pre pre).1
  rw [show (⟨#[44, 32, 110, 111, 116, 32, 98, 101, 102, 111, 114, 101, 32]⟩ : ByteArray).data.toList = pre from rfl] at HCP
  obtain ⟨X, hX⟩ : ∃ X : ByteArray, X = ⟨(Lib.trimPrefix r3.data.toList pre).toArray⟩ := ⟨_, rfl⟩
  have HX := Lib.hid (show X.data.toList = Lib.trimPrefix r3.data.toList pre by rw [hX])
  have hXs : X.size ≤ 1048576 := by
    have h1 : X.size = X.data.toList.length := (Array.length_toList (xs := X.data)).symm
    have h2 : r3.size = r3.data.toList.length := (Array.length_toList (xs := r3.data)).symm
    rw [h1, HX.out]; omega
  rw [← hX] at HCP
  clear hX hpl
  cases gp : Lib.hasPrefix r3.data.toList pre with
  | false =>
    have HF := Lib.hid (impl_found (l := s.data.toList) HC1.out HC2.out HC3.out HI.out HMI.out (t := -1) ⟨fun _ => rfl, fun h => by rw [gp] at h; cases h⟩ (ti := a2) rfl)
    rw [gp] at HCP
    clear gp
    go_wp2_with fail
    refine HCP.out.mono ?_
    rintro e w8 ⟨rfl, rfl⟩
    obtain ⟨ti, hti⟩ : ∃ ti : Int, ti = -1 := ⟨_, rfl⟩
    rw [← hti] at HF HM
    clear hti
    have c0 := HM.out.cell 0
    have c1 := HM.out.cell 1
    have c2 := HM.out.cell 2
    have c3 := HM.out.cell 3
    simp only [List.getElem?_toArray, List.getElem?_cons_zero, List.getElem?_cons_succ] at c0 c1 c2 c3
    cases gk : okB ⟨id, a2, mi, ti⟩ with
    | false =>
      have HV := Lib.hid (AgI.valid_as ⟨id, a2, mi, ti⟩ false gk (by show a2.size ≤ maxLen; unfold maxLen; omega) w8)
      have HNo := Lib.hid (show ∀ q, ¬ P s.data.toList q from fun q hq => by have h := HF.out q hq; have h2 := hq.1; rw [← h, gk] at h2; cases h2)
      clear gk
      go_wp2_with fail
      refine HV.out.mono ?_
      rintro e wv ⟨rfl, hb1⟩
      replace HR := Lib.hid (HR.out.kept hb1)
      replace hb := hb.trans (hb1.mono hb.size)
      clear hb1 c0 c1 c2 c3
      have r0 := HR.out.cell 0
      have r1 := HR.out.cell 1
      have r2 := HR.out.cell 2
      have r3 := HR.out.cell 3
      simp only [List.getElem?_toArray, List.getElem?_cons_zero, List.getElem?_cons_succ] at r0 r1 r2 r3
      have f0 := HR.out.frozen 0
      have f1 := HR.out.frozen 1
      have f2 := HR.out.frozen 2
      have f3 := HR.out.frozen 3
      have HRS := Lib.hid (show Bx _ _ 52 #[.int .i64 0, .string ⟨#[]⟩, .int .i64 0, .int .i64 0] from (Bx.set_ (Bx.set_ (Bx.set_ (Bx.set_ HR.out 0 (.int .i64 0)) 1 (.string ⟨#[]⟩)) 2 (.int .i64 0)) 3 (.int .i64 0)))
      have hbs := ((((hb.setCell (p := ⟨w.heap.size, 0, none⟩) hRw (.int .i64 0)).setCell (p := ⟨w.heap.size, 1, none⟩) hRw (.string ⟨#[]⟩)).setCell (p := ⟨w.heap.size, 2, none⟩) hRw (.int .i64 0)).setCell (p := ⟨w.heap.size, 3, none⟩) hRw (.int .i64 0))
      go_wp2_with fail
      clear r0 r1 r2 r3 f0 f1 f2 f3
      generalize (((wv.setCell ⟨w.heap.size, 0, none⟩ (.int .i64 0)).setCell ⟨w.heap.size, 1, none⟩ (.string ⟨#[]⟩)).setCell ⟨w.heap.size, 2, none⟩ (.int .i64 0)).setCell ⟨w.heap.size, 3, none⟩ (.int .i64 0) = wz at *
      have r0 := HRS.out.cell 0
      have r1 := HRS.out.cell 1
      have r2 := HRS.out.cell 2
      have r3 := HRS.out.cell 3
      simp only [List.getElem?_toArray, List.getElem?_cons_zero, List.getElem?_cons_succ] at r0 r1 r2 r3
      (try simp only [Exit.inBlock, Exit.then])
      refine bodyPost_ret (v := .tuple #[.agg #[.int .i64 0, .string ⟨#[]⟩, .int .i64 0, .int .i64 0], .bool false]) (by rw [results_cell_tmp rfl]; go_simp) rfl ?_
      exact ⟨⟨0, ⟨#[]⟩, 0, 0⟩, false, rfl, (fun h => by cases h), fun _ => HNo.out, hbs⟩
    | true =>
      have HV := Lib.hid (AgI.valid_as ⟨id, a2, mi, ti⟩ true gk (by show a2.size ≤ maxLen; unfold maxLen; omega) w8)
      have HOK := Lib.hid gk
      have HIL := Lib.hid (fun W (h : Below w.heap.size w W) => itemLine ⟨id, a2, mi, ti⟩ W gk (HVP.out.below h))
      obtain ⟨LM, hLM⟩ : ∃ LM, LM = lineM ⟨id, a2, mi, ti⟩ := ⟨_, rfl⟩
      have HLM := Lib.hid hLM
      rw [← hLM] at HIL
      clear gk hLM
      go_wp2_with fail
      refine HV.out.mono ?_
      rintro e wv ⟨rfl, hb1⟩
      replace HR := Lib.hid (HR.out.kept hb1)
      replace HM := Lib.hid (HM.out.kept hb1)
      replace hb := hb.trans (hb1.mono hb.size)
      clear hb1 c0 c1 c2 c3
      have c0 := HM.out.cell 0
      have c1 := HM.out.cell 1
      have c2 := HM.out.cell 2
      have c3 := HM.out.cell 3
      simp only [List.getElem?_toArray, List.getElem?_cons_zero, List.getElem?_cons_succ] at c0 c1 c2 c3
      go_wp2_with fail
      refine (HIL.out _ hb).mono ?_
      rintro e wl ⟨rfl, hb1⟩
      replace HR := Lib.hid (HR.out.kept hb1)
      replace HM := Lib.hid (HM.out.kept hb1)
      replace hb := hb.trans (hb1.mono hb.size)
      clear hb1 c0 c1 c2 c3
      cases he : (LM.toList == s.toList) with
      | true =>
        have HPy := Lib.hid (show P s.data.toList ⟨id, a2, mi, ti⟩ from ⟨HOK.out, by rw [← HLM.out]; exact (eq_list he).1 rfl⟩)
        have c0 := HM.out.cell 0
        have c1 := HM.out.cell 1
        have c2 := HM.out.cell 2
        have c3 := HM.out.cell 3
        simp only [List.getElem?_toArray, List.getElem?_cons_zero, List.getElem?_cons_succ] at c0 c1 c2 c3
        have r0 := HR.out.cell 0
        have r1 := HR.out.cell 1
        have r2 := HR.out.cell 2
        have r3 := HR.out.cell 3
        simp only [List.getElem?_toArray, List.getElem?_cons_zero, List.getElem?_cons_succ] at r0 r1 r2 r3
        have f0 := HR.out.frozen 0
        have f1 := HR.out.frozen 1
        have f2 := HR.out.frozen 2
        have f3 := HR.out.frozen 3
        have HRS := Lib.hid (show Bx _ _ 52 #[.int .i64 id, .string a2, .int .i64 mi, .int .i64 ti] from (Bx.set_ (Bx.set_ (Bx.set_ (Bx.set_ HR.out 0 (.int .i64 id)) 1 (.string a2)) 2 (.int .i64 mi)) 3 (.int .i64 ti)))
        have hbs := ((((hb.setCell (p := ⟨w.heap.size, 0, none⟩) hRw (.int .i64 id)).setCell (p := ⟨w.heap.size, 1, none⟩) hRw (.string a2)).setCell (p := ⟨w.heap.size, 2, none⟩) hRw (.int .i64 mi)).setCell (p := ⟨w.heap.size, 3, none⟩) hRw (.int .i64 ti))
        go_wp2_with fail
        clear r0 r1 r2 r3 f0 f1 f2 f3
        generalize (((wl.setCell ⟨w.heap.size, 0, none⟩ (.int .i64 id)).setCell ⟨w.heap.size, 1, none⟩ (.string a2)).setCell ⟨w.heap.size, 2, none⟩ (.int .i64 mi)).setCell ⟨w.heap.size, 3, none⟩ (.int .i64 ti) = wz at *
        have r0 := HRS.out.cell 0
        have r1 := HRS.out.cell 1
        have r2 := HRS.out.cell 2
        have r3 := HRS.out.cell 3
        simp only [List.getElem?_toArray, List.getElem?_cons_zero, List.getElem?_cons_succ] at r0 r1 r2 r3
        (try simp only [Exit.inBlock, Exit.then])
        refine bodyPost_ret (v := .tuple #[.agg #[.int .i64 id, .string a2, .int .i64 mi, .int .i64 ti], .bool true]) (by rw [results_cell_tmp rfl]; go_simp) rfl ?_
        exact ⟨⟨id, a2, mi, ti⟩, true, rfl, fun _ => HPy.out, (fun h => by cases h), hbs⟩
      | false =>
        have HNo := Lib.hid (show ∀ q, ¬ P s.data.toList q from fun q hq => (eq_list he).2 rfl (by rw [HLM.out, HF.out q hq]; exact hq.2))
        have r0 := HR.out.cell 0
        have r1 := HR.out.cell 1
        have r2 := HR.out.cell 2
        have r3 := HR.out.cell 3
        simp only [List.getElem?_toArray, List.getElem?_cons_zero, List.getElem?_cons_succ] at r0 r1 r2 r3
        have f0 := HR.out.frozen 0
        have f1 := HR.out.frozen 1
        have f2 := HR.out.frozen 2
        have f3 := HR.out.frozen 3
        have HRS := Lib.hid (show Bx _ _ 52 #[.int .i64 0, .string ⟨#[]⟩, .int .i64 0, .int .i64 0] from (Bx.set_ (Bx.set_ (Bx.set_ (Bx.set_ HR.out 0 (.int .i64 0)) 1 (.string ⟨#[]⟩)) 2 (.int .i64 0)) 3 (.int .i64 0)))
        have hbs := ((((hb.setCell (p := ⟨w.heap.size, 0, none⟩) hRw (.int .i64 0)).setCell (p := ⟨w.heap.size, 1, none⟩) hRw (.string ⟨#[]⟩)).setCell (p := ⟨w.heap.size, 2, none⟩) hRw (.int .i64 0)).setCell (p := ⟨w.heap.size, 3, none⟩) hRw (.int .i64 0))
        go_wp2_with fail
        clear r0 r1 r2 r3 f0 f1 f2 f3
        generalize (((wl.setCell ⟨w.heap.size, 0, none⟩ (.int .i64 0)).setCell ⟨w.heap.size, 1, none⟩ (.string ⟨#[]⟩)).setCell ⟨w.heap.size, 2, none⟩ (.int .i64 0)).setCell ⟨w.heap.size, 3, none⟩ (.int .i64 0) = wz at *
        have r0 := HRS.out.cell 0
        have r1 := HRS.out.cell 1
        have r2 := HRS.out.cell 2
        have r3 := HRS.out.cell 3
        simp only [List.getElem?_toArray, List.getElem?_cons_zero, List.getElem?_cons_succ] at r0 r1 r2 r3
        (try simp only [Exit.inBlock, Exit.then])
        refine bodyPost_ret (v := .tuple #[.agg #[.int .i64 0, .string ⟨#[]⟩, .int .i64 0, .int .i64 0], .bool false]) (by rw [results_cell_tmp rfl]; go_simp) rfl ?_
        exact ⟨⟨0, ⟨#[]⟩, 0, 0⟩, false, rfl, (fun h => by cases h), fun _ => HNo.out, hbs⟩
  | true =>
    have HTO := Lib.hid gp
    rw [gp] at HCP
    clear gp
    have HTS := Lib.hid (Tryz.strings_TrimSuffix X ⟨#[41]⟩ w8 (by omega))
    have hsl := (trim_len X.data.toList pre [41]).2
    rw [show (⟨#[41]⟩ : ByteArray).data.toList = [41] from rfl] at HTS
    obtain ⟨Y, hY⟩ : ∃ Y : ByteArray, Y = ⟨(Lib.trimSuffix X.data.toList [41]).toArray⟩ := ⟨_, rfl⟩
    have HY := Lib.hid (show Y.data.toList = Lib.trimSuffix X.data.toList [41] by rw [hY])
    have hYs : Y.size ≤ 1048576 := by
      have h1 : Y.size = Y.data.toList.length := (Array.length_toList (xs := Y.data)).symm
      have h2 : X.size = X.data.toList.length := (Array.length_toList (xs := X.data)).symm
      rw [h1, HY.out]; omega
    rw [← hY] at HTS
    clear hY hsl
    go_wp2_with fail
    refine HCP.out.mono ?_
    rintro e w8 ⟨rfl, rfl⟩
    go_wp2_with fail
    refine HTS.out.mono ?_
    rintro e w8 ⟨rfl, rfl⟩
    go_wp2_with fail
    refine (HMA.out Y _ hYs hb).mono ?_
    rintro e w9 ⟨ti, rfl, hcl, hb1⟩
    have HF := Lib.hid (impl_found (l := s.data.toList) HC1.out HC2.out HC3.out HI.out HMI.out (t := ti) ⟨(fun h => by rw [HTO.out] at h; cases h), fun _ u u0 u1 hu => hcl u u0 u1 (by rw [HY.out, HX.out]; exact hu)⟩ (ti := a2) rfl)
    replace HR := Lib.hid (HR.out.kept hb1)
    replace HM := Lib.hid (HM.out.kept hb1)
    replace hb := hb.trans (hb1.mono hb.size)
    clear hcl hb1
    have f0 := HM.out.frozen 3
    have c3 := HM.out.cell 3
    simp only [List.getElem?_toArray, List.getElem?_cons_zero, List.getElem?_cons_succ] at c3
    have HM2 := Lib.hid (HM.out.set_ 3 (.int .i64 ti))
    have HR2 := Lib.hid (Bx.far (p := ⟨G, 3, none⟩) HR.out hRG (.int .i64 ti))
    have hbs := hb.setCell (p := ⟨G, 3, none⟩) hGw2 (.int .i64 ti)
    simp at HM2
    go_upto_region 10 with fail
    generalize w9.setCell ⟨G, 3, none⟩ (.int .i64 ti) = w10 at *
    clear HM HR hb f0 c3
    have HM := HM2
    have HR := HR2
    have hb := hbs
    clear HM2 HR2 hbs
    have c0 := HM.out.cell 0
    have c1 := HM.out.cell 1
    have c2 := HM.out.cell 2
    have c3 := HM.out.cell 3
    simp only [List.getElem?_toArray, List.getElem?_cons_zero, List.getElem?_cons_succ] at c0 c1 c2 c3
    cases gk : okB ⟨id, a2, mi, ti⟩ with
    | false =>
      have HV := Lib.hid (AgI.valid_as ⟨id, a2, mi, ti⟩ false gk (by show a2.size ≤ maxLen; unfold maxLen; omega) w10)
      have HNo := Lib.hid (show ∀ q, ¬ P s.data.toList q from fun q hq => by have h := HF.out q hq; have h2 := hq.1; rw [← h, gk] at h2; cases h2)
      clear gk
      go_wp2_with fail
      refine HV.out.mono ?_
      rintro e wv ⟨rfl, hb1⟩
      replace HR := Lib.hid (HR.out.kept hb1)
      replace hb := hb.trans (hb1.mono hb.size)
      clear hb1 c0 c1 c2 c3
      have r0 := HR.out.cell 0
      have r1 := HR.out.cell 1
      have r2 := HR.out.cell 2
      have r3 := HR.out.cell 3
      simp only [List.getElem?_toArray, List.getElem?_cons_zero, List.getElem?_cons_succ] at r0 r1 r2 r3
      have f0 := HR.out.frozen 0
      have f1 := HR.out.frozen 1
      have f2 := HR.out.frozen 2
      have f3 := HR.out.frozen 3
      have HRS := Lib.hid (show Bx _ _ 52 #[.int .i64 0, .string ⟨#[]⟩, .int .i64 0, .int .i64 0] from (Bx.set_ (Bx.set_ (Bx.set_ (Bx.set_ HR.out 0 (.int .i64 0)) 1 (.string ⟨#[]⟩)) 2 (.int .i64 0)) 3 (.int .i64 0)))
      have hbs := ((((hb.setCell (p := ⟨w.heap.size, 0, none⟩) hRw (.int .i64 0)).setCell (p := ⟨w.heap.size, 1, none⟩) hRw (.string ⟨#[]⟩)).setCell (p := ⟨w.heap.size, 2, none⟩) hRw (.int .i64 0)).setCell (p := ⟨w.heap.size, 3, none⟩) hRw (.int .i64 0))
      go_wp2_with fail
      clear r0 r1 r2 r3 f0 f1 f2 f3
      generalize (((wv.setCell ⟨w.heap.size, 0, none⟩ (.int .i64 0)).setCell ⟨w.heap.size, 1, none⟩ (.string ⟨#[]⟩)).setCell ⟨w.heap.size, 2, none⟩ (.int .i64 0)).setCell ⟨w.heap.size, 3, none⟩ (.int .i64 0) = wz at *
      have r0 := HRS.out.cell 0
      have r1 := HRS.out.cell 1
      have r2 := HRS.out.cell 2
      have r3 := HRS.out.cell 3
      simp only [List.getElem?_toArray, List.getElem?_cons_zero, List.getElem?_cons_succ] at r0 r1 r2 r3
      (try simp only [Exit.inBlock, Exit.then])
      refine bodyPost_ret (v := .tuple #[.agg #[.int .i64 0, .string ⟨#[]⟩, .int .i64 0, .int .i64 0], .bool false]) (by rw [results_cell_tmp rfl]; go_simp) rfl ?_
      exact ⟨⟨0, ⟨#[]⟩, 0, 0⟩, false, rfl, (fun h => by cases h), fun _ => HNo.out, hbs⟩
    | true =>
      have HV := Lib.hid (AgI.valid_as ⟨id, a2, mi, ti⟩ true gk (by show a2.size ≤ maxLen; unfold maxLen; omega) w10)
      have HOK := Lib.hid gk
      have HIL := Lib.hid (fun W (h : Below w.heap.size w W) => itemLine ⟨id, a2, mi, ti⟩ W gk (HVP.out.below h))
      obtain ⟨LM, hLM⟩ : ∃ LM, LM = lineM ⟨id, a2, mi, ti⟩ := ⟨_, rfl⟩
      have HLM := Lib.hid hLM
      rw [← hLM] at HIL
      clear gk hLM
      go_wp2_with fail
      refine HV.out.mono ?_
      rintro e wv ⟨rfl, hb1⟩
      replace HR := Lib.hid (HR.out.kept hb1)
      replace HM := Lib.hid (HM.out.kept hb1)
      replace hb := hb.trans (hb1.mono hb.size)
      clear hb1 c0 c1 c2 c3
      have c0 := HM.out.cell 0
      have c1 := HM.out.cell 1
      have c2 := HM.out.cell 2
      have c3 := HM.out.cell 3
      simp only [List.getElem?_toArray, List.getElem?_cons_zero, List.getElem?_cons_succ] at c0 c1 c2 c3
      go_wp2_with fail
      refine (HIL.out _ hb).mono ?_
      rintro e wl ⟨rfl, hb1⟩
      replace HR := Lib.hid (HR.out.kept hb1)
      replace HM := Lib.hid (HM.out.kept hb1)
      replace hb := hb.trans (hb1.mono hb.size)
      clear hb1 c0 c1 c2 c3
      cases he : (LM.toList == s.toList) with
      | true =>
        have HPy := Lib.hid (show P s.data.toList ⟨id, a2, mi, ti⟩ from ⟨HOK.out, by rw [← HLM.out]; exact (eq_list he).1 rfl⟩)
        have c0 := HM.out.cell 0
        have c1 := HM.out.cell 1
        have c2 := HM.out.cell 2
        have c3 := HM.out.cell 3
        simp only [List.getElem?_toArray, List.getElem?_cons_zero, List.getElem?_cons_succ] at c0 c1 c2 c3
        have r0 := HR.out.cell 0
        have r1 := HR.out.cell 1
        have r2 := HR.out.cell 2
        have r3 := HR.out.cell 3
        simp only [List.getElem?_toArray, List.getElem?_cons_zero, List.getElem?_cons_succ] at r0 r1 r2 r3
        have f0 := HR.out.frozen 0
        have f1 := HR.out.frozen 1
        have f2 := HR.out.frozen 2
        have f3 := HR.out.frozen 3
        have HRS := Lib.hid (show Bx _ _ 52 #[.int .i64 id, .string a2, .int .i64 mi, .int .i64 ti] from (Bx.set_ (Bx.set_ (Bx.set_ (Bx.set_ HR.out 0 (.int .i64 id)) 1 (.string a2)) 2 (.int .i64 mi)) 3 (.int .i64 ti)))
        have hbs := ((((hb.setCell (p := ⟨w.heap.size, 0, none⟩) hRw (.int .i64 id)).setCell (p := ⟨w.heap.size, 1, none⟩) hRw (.string a2)).setCell (p := ⟨w.heap.size, 2, none⟩) hRw (.int .i64 mi)).setCell (p := ⟨w.heap.size, 3, none⟩) hRw (.int .i64 ti))
        go_wp2_with fail
        clear r0 r1 r2 r3 f0 f1 f2 f3
        generalize (((wl.setCell ⟨w.heap.size, 0, none⟩ (.int .i64 id)).setCell ⟨w.heap.size, 1, none⟩ (.string a2)).setCell ⟨w.heap.size, 2, none⟩ (.int .i64 mi)).setCell ⟨w.heap.size, 3, none⟩ (.int .i64 ti) = wz at *
        have r0 := HRS.out.cell 0
        have r1 := HRS.out.cell 1
        have r2 := HRS.out.cell 2
        have r3 := HRS.out.cell 3
        simp only [List.getElem?_toArray, List.getElem?_cons_zero, List.getElem?_cons_succ] at r0 r1 r2 r3
        (try simp only [Exit.inBlock, Exit.then])
        refine bodyPost_ret (v := .tuple #[.agg #[.int .i64 id, .string a2, .int .i64 mi, .int .i64 ti], .bool true]) (by rw [results_cell_tmp rfl]; go_simp) rfl ?_
        exact ⟨⟨id, a2, mi, ti⟩, true, rfl, fun _ => HPy.out, (fun h => by cases h), hbs⟩
      | false =>
        have HNo := Lib.hid (show ∀ q, ¬ P s.data.toList q from fun q hq => (eq_list he).2 rfl (by rw [HLM.out, HF.out q hq]; exact hq.2))
        have r0 := HR.out.cell 0
        have r1 := HR.out.cell 1
        have r2 := HR.out.cell 2
        have r3 := HR.out.cell 3
        simp only [List.getElem?_toArray, List.getElem?_cons_zero, List.getElem?_cons_succ] at r0 r1 r2 r3
        have f0 := HR.out.frozen 0
        have f1 := HR.out.frozen 1
        have f2 := HR.out.frozen 2
        have f3 := HR.out.frozen 3
        have HRS := Lib.hid (show Bx _ _ 52 #[.int .i64 0, .string ⟨#[]⟩, .int .i64 0, .int .i64 0] from (Bx.set_ (Bx.set_ (Bx.set_ (Bx.set_ HR.out 0 (.int .i64 0)) 1 (.string ⟨#[]⟩)) 2 (.int .i64 0)) 3 (.int .i64 0)))
        have hbs := ((((hb.setCell (p := ⟨w.heap.size, 0, none⟩) hRw (.int .i64 0)).setCell (p := ⟨w.heap.size, 1, none⟩) hRw (.string ⟨#[]⟩)).setCell (p := ⟨w.heap.size, 2, none⟩) hRw (.int .i64 0)).setCell (p := ⟨w.heap.size, 3, none⟩) hRw (.int .i64 0))
        go_wp2_with fail
        clear r0 r1 r2 r3 f0 f1 f2 f3
        generalize (((wl.setCell ⟨w.heap.size, 0, none⟩ (.int .i64 0)).setCell ⟨w.heap.size, 1, none⟩ (.string ⟨#[]⟩)).setCell ⟨w.heap.size, 2, none⟩ (.int .i64 0)).setCell ⟨w.heap.size, 3, none⟩ (.int .i64 0) = wz at *
        have r0 := HRS.out.cell 0
        have r1 := HRS.out.cell 1
        have r2 := HRS.out.cell 2
        have r3 := HRS.out.cell 3
        simp only [List.getElem?_toArray, List.getElem?_cons_zero, List.getElem?_cons_succ] at r0 r1 r2 r3
        (try simp only [Exit.inBlock, Exit.then])
        refine bodyPost_ret (v := .tuple #[.agg #[.int .i64 0, .string ⟨#[]⟩, .int .i64 0, .int .i64 0], .bool false]) (by rw [results_cell_tmp rfl]; go_simp) rfl ?_
        exact ⟨⟨0, ⟨#[]⟩, 0, 0⟩, false, rfl, (fun h => by cases h), fun _ => HNo.out, hbs⟩
end Go.Proofs.YtgemnjimgjnlhaaGreatDoor.PAgI
