/- DisposeQuestion, model and program: what both answer. No condition but that names are no longer than strings can be. -/
import Derived.Test.YtbaflfbidgolfaaData
import Derived.Deep.DeepCutAuto
import Derived.Deep.RegionHeld3
import Derived.Laws.ResultCell
import Derived.Deep.DrawnRows
namespace Go.Proofs.Ytbaflfbidgolfaa.DisposeQuestionC
open Go.RowKit Bs Word Sq St StF StL StG StA IntF
set_option linter.unusedVariables false
def Ans (z0 : List LRule.R) (z1 : List LQuestion.R) (r0 : List LQuestion.R) (r1 : LQuestion.R) (r2 : Bool) : Prop := dsA z0 z1 = (r0, r1, r2)
theorem same {z0 : List LRule.R} {z1 : List LQuestion.R} {r0 s0 : List LQuestion.R} {r1 s1 : LQuestion.R} {r2 s2 : Bool} (h : Ans z0 z1 r0 r1 r2) (h' : Ans z0 z1 s0 s1 s2) : r0 = s0 ∧ r1 = s1 ∧ r2 = s2 := by
  have := h.symm.trans h'; simp only [Prod.mk.injEq] at this; exact this
theorem len0 {z0 : List LRule.R} {z1 : List LQuestion.R} {r0 : List LQuestion.R} {r1 : LQuestion.R} {r2 : Bool} (h : Ans z0 z1 r0 r1 r2) : r0.length ≤ 1048576 := by
  unfold Ans dsA at h
  split at h
  · simp only [Prod.mk.injEq] at h; rw [← h.1]; simp
  · split at h
    · rename_i hg
      rw [Bool.and_eq_true] at hg
      have := good_len hg.1
      simp only [Prod.mk.injEq] at h
      rw [← h.1, List.length_take]; omega
    · simp only [Prod.mk.injEq] at h; rw [← h.1]; simp
def APost (z0 : List LRule.R) (z1 : List LQuestion.R) (w : World) (e : Ending) (w' : World) : Prop :=
  ∃ v0 r0 r1 r2, e = .returned (.tuple #[v0, .agg #[.int .i64 r1.rule, .int .i64 r1.mover, .bool r1.sec], .bool r2]) ∧ Ans z0 z1 r0 r1 r2 ∧ Own LQuestion.rec 47 w' w.heap.size v0 r0 ∧ Below w.heap.size w w'
theorem own_set3 {w : World} {A G : Nat} {v : Value} {l : List Q} (h : Own LQuestion.rec 47 w A v l) (hg : ∀ k, v.ownBlock = some k → k ≠ G) (a b d : Value) : Own LQuestion.rec 47 (((w.setCell ⟨G, 0, none⟩ (a)).setCell ⟨G, 1, none⟩ (b)).setCell ⟨G, 2, none⟩ (d)) A v l :=
  own_set (p := ⟨G, 2, none⟩) (own_set (p := ⟨G, 1, none⟩) (own_set (p := ⟨G, 0, none⟩) h hg a) hg b) hg d
attribute [local go_sem ↓] Go.wp_at_zero Go.wp_at_succ in
set_option maxRecDepth 100000 in
set_option maxHeartbeats 3200000 in
theorem impl (v0 : Value) (z0 : List LRule.R) (v1 : Value) (z1 : List LQuestion.R) (w : World) (h0 : IsS LRule.rec w v0 z0) (f0 : ∀ x ∈ z0, LRule.Fine x) (l0 : z0.length ≤ 1048576) (h1 : IsS LQuestion.rec w v1 z1) (f1 : ∀ x ∈ z1, LQuestion.Fine x) (l1 : z1.length ≤ 1048576) :
    Calls Try.prog 37 #[v0, v1] w (APost z0 z1 w) := by
  have HR := Lib.hid (IsS.is LRule.rec h0)
  have HQI := Lib.hid (IsS.is LQuestion.rec h1)
  have HIS := Lib.hid h1
  have HF0 := Lib.hid f0
  obtain ⟨b, o, cp, rfl, hbl, hxc, hcm, hcell⟩ := h1
  have HC := Lib.hid hcell
  obtain ⟨n, hn⟩ : ∃ n, n = z1.length := ⟨_, rfl⟩
  have HN := Lib.hid hn.symm
  rw [← hn] at HQI HIS hxc l1 ⊢
  unfold maxLen at hcm
  clear hn hcell f0 f1 h0
  obtain ⟨i0, hi, hz0, hz1, hz2⟩ := info_parts LQuestion.infoK
  have HI0 := Lib.hid hi
  have HZ0 := Lib.hid (And.intro hz0 (And.intro hz1 hz2))
  clear hi hz0 hz1 hz2
  have hbr := (Below.refl w.heap.size w).alloc (Nat.le_refl _) (Obj.cells #[.int .i64 0, .int .i64 0, .bool false] 47)
  have HR0 := Lib.hid (Bx.new w 47 #[.int .i64 0, .int .i64 0, .bool false])
  have HRr := Lib.hid (HR.out.below LRule.rec hbr)
  have HQr := Lib.hid (HQI.out.below LQuestion.rec hbr)
  have hsz : w.heap.size + 1 = (w.alloc (Obj.cells #[.int .i64 0, .int .i64 0, .bool false] 47)).heap.size := by simp
  go_enter Try.func37, Try.ntmps37
  go_upto_region 1 with fail
  generalize w.alloc (Obj.cells #[.int .i64 0, .int .i64 0, .bool false] 47) = wA at *
  have hBW : ∀ W : World, Below wA.heap.size wA W → Below w.heap.size w W := fun W h => hbr.trans (h.mono hbr.size)
  have hGNE : ∀ W : World, Below wA.heap.size wA W → W.heap.size ≠ w.heap.size := fun W h => by have := h.size; omega
  have hGA : w.heap.size < wA.heap.size := by omega
  cases hg : goodQ z0 z1 with
  | false =>
    have HG := Lib.hid (good_asI false HRr.out HQr.out HF0.out hg)
    have HA := Lib.hid (dsA_no hg)
    clear hg
    go_wp2_with fail
    refine HG.out.mono ?_
    rintro e wg ⟨rfl, hb1'⟩
    have HRB := Lib.hid (HR0.out.kept hb1')
    have hGne : wg.heap.size ≠ w.heap.size := hGNE _ hb1'
    have HOb := Lib.hid (Own.start (T := LQuestion.rec) (E := 47) (w := wg) (A := w.heap.size) (hBW _ hb1').size)
    have hbz := (hBW _ hb1').alloc (hBW _ hb1').size (Obj.cells #[] 47)
    replace HRB := Lib.hid (HRB.out.alloc (Obj.cells #[] 47))
    have r0 := HRB.out.cell 0
    have r1 := HRB.out.cell 1
    have r2 := HRB.out.cell 2
    have f0 := HRB.out.frozen 0
    have f1 := HRB.out.frozen 1
    have f2 := HRB.out.frozen 2
    simp only [List.getElem?_toArray, List.getElem?_cons_zero, List.getElem?_cons_succ] at r0 r1 r2
    have HRS := Lib.hid (show Bx ((((wg.alloc (Obj.cells #[] 47)).setCell ⟨w.heap.size, 0, none⟩ (.int .i64 0)).setCell ⟨w.heap.size, 1, none⟩ (.int .i64 0)).setCell ⟨w.heap.size, 2, none⟩ (.bool false)) w.heap.size 47 #[.int .i64 0, .int .i64 0, .bool false] from Bx.set_ (Bx.set_ (Bx.set_ HRB.out 0 (.int .i64 0)) 1 (.int .i64 0)) 2 (.bool false))
    have hbs : Below w.heap.size w ((((wg.alloc (Obj.cells #[] 47)).setCell ⟨w.heap.size, 0, none⟩ (.int .i64 0)).setCell ⟨w.heap.size, 1, none⟩ (.int .i64 0)).setCell ⟨w.heap.size, 2, none⟩ (.bool false)) := ((hbz.setCell (p := ⟨w.heap.size, 0, none⟩) (Nat.le_refl _) _).setCell (p := ⟨w.heap.size, 1, none⟩) (Nat.le_refl _) _).setCell (p := ⟨w.heap.size, 2, none⟩) (Nat.le_refl _) _
    have HOs := Lib.hid (own_set3 HOb.out (G := w.heap.size) (fun k hk e => hGne (by simp only [Value.ownBlock, Option.some.injEq] at hk; omega)) (.int .i64 0) (.int .i64 0) (.bool false))
    go_wp2_with fail
    clear r0 r1 r2 f0 f1 f2
    have r0 := HRS.out.cell 0
    have r1 := HRS.out.cell 1
    have r2 := HRS.out.cell 2
    simp only [List.getElem?_toArray, List.getElem?_cons_zero, List.getElem?_cons_succ] at r0 r1 r2
    (try simp only [Exit.inBlock, Exit.then])
    refine bodyPost_ret (v := .tuple #[.slice (some ⟨wg.heap.size, 0, none⟩) 0 0, .agg #[.int .i64 0, .int .i64 0, .bool false], .bool false]) (by simp [results, Try.results37, go_sem, r0, r1, r2]) rfl ?_
    exact ⟨_, [], Q0, false, rfl, HA.out, HOs.out, hbs⟩
  | true =>
    have HG := Lib.hid (good_asI true HRr.out HQr.out HF0.out hg)
    have HT := Lib.hid (topIn_good hg)
    have HGD := Lib.hid hg
    clear hg
    by_cases hz : n = 0
    · have HA := Lib.hid (dsA_nil (z := z0) (l := z1) (by rw [HN.out]; exact hz))
      have n5 : decide (n = 0) = true := by simpa using hz
      have n6 : ((n : Int) == 0) = true := by simpa using hz
      subst hz
      go_wp2_with fail
      refine HG.out.mono ?_
      rintro e wg ⟨rfl, hb1'⟩
      have HRB := Lib.hid (HR0.out.kept hb1')
      have hGne : wg.heap.size ≠ w.heap.size := hGNE _ hb1'
      have HOb := Lib.hid (Own.start (T := LQuestion.rec) (E := 47) (w := wg) (A := w.heap.size) (hBW _ hb1').size)
      have hbz := (hBW _ hb1').alloc (hBW _ hb1').size (Obj.cells #[] 47)
      replace HRB := Lib.hid (HRB.out.alloc (Obj.cells #[] 47))
      have r0 := HRB.out.cell 0
      have r1 := HRB.out.cell 1
      have r2 := HRB.out.cell 2
      have f0 := HRB.out.frozen 0
      have f1 := HRB.out.frozen 1
      have f2 := HRB.out.frozen 2
      simp only [List.getElem?_toArray, List.getElem?_cons_zero, List.getElem?_cons_succ] at r0 r1 r2
      have HRS := Lib.hid (show Bx ((((wg.alloc (Obj.cells #[] 47)).setCell ⟨w.heap.size, 0, none⟩ (.int .i64 0)).setCell ⟨w.heap.size, 1, none⟩ (.int .i64 0)).setCell ⟨w.heap.size, 2, none⟩ (.bool false)) w.heap.size 47 #[.int .i64 0, .int .i64 0, .bool false] from Bx.set_ (Bx.set_ (Bx.set_ HRB.out 0 (.int .i64 0)) 1 (.int .i64 0)) 2 (.bool false))
      have hbs : Below w.heap.size w ((((wg.alloc (Obj.cells #[] 47)).setCell ⟨w.heap.size, 0, none⟩ (.int .i64 0)).setCell ⟨w.heap.size, 1, none⟩ (.int .i64 0)).setCell ⟨w.heap.size, 2, none⟩ (.bool false)) := ((hbz.setCell (p := ⟨w.heap.size, 0, none⟩) (Nat.le_refl _) _).setCell (p := ⟨w.heap.size, 1, none⟩) (Nat.le_refl _) _).setCell (p := ⟨w.heap.size, 2, none⟩) (Nat.le_refl _) _
      have HOs := Lib.hid (own_set3 HOb.out (G := w.heap.size) (fun k hk e => hGne (by simp only [Value.ownBlock, Option.some.injEq] at hk; omega)) (.int .i64 0) (.int .i64 0) (.bool false))
      go_wp2_with fail
      clear r0 r1 r2 f0 f1 f2
      have r0 := HRS.out.cell 0
      have r1 := HRS.out.cell 1
      have r2 := HRS.out.cell 2
      simp only [List.getElem?_toArray, List.getElem?_cons_zero, List.getElem?_cons_succ] at r0 r1 r2
      (try simp only [Exit.inBlock, Exit.then])
      refine bodyPost_ret (v := .tuple #[.slice (some ⟨wg.heap.size, 0, none⟩) 0 0, .agg #[.int .i64 0, .int .i64 0, .bool false], .bool false]) (by simp [results, Try.results37, go_sem, r0, r1, r2]) rfl ?_
      exact ⟨_, [], Q0, false, rfl, HA.out, HOs.out, hbs⟩
    · have hx : n - 1 < z1.length := by have := HN.out; omega
      have hp : top z1 = some z1[n - 1] := by unfold top; rw [HN.out]; exact List.getElem?_eq_getElem hx
      have HX := Lib.hid (List.getElem?_eq_getElem hx)
      obtain ⟨kp, hkp⟩ := Option.isSome_iff_exists.1 (HT.out _ hp)
      have HTP := Lib.hid hp
      have HLT := Lib.hid (lackT_top (z := z0) hp)
      have HQC := Lib.hid (HC.out (n - 1) z1[n - 1] HX.out)
      have HKP := Lib.hid hkp
      have n1 : IntKind.i64.wrap ((n : Int) - 1) = (n : Int) - 1 := IntWalk.i64_in _ (by omega)
      have n2 : ((n : Int) - 1).toNat = n - 1 := by omega
      have n3 : 0 ≤ (n : Int) - 1 := by omega
      have n4 : (n : Int) - 1 < (n : Int) := by omega
      have n9 : (n : Int) - 1 ≤ (n : Int) := by omega
      have n10 : (n : Int) - 1 ≤ (cp : Int) := by omega
      have n11 : (n : Int) ≤ (cp : Int) := by omega
      have n12 : 0 ≤ (n : Int) := by omega
      have n5 : decide (n = 0) = false := by simpa using hz
      have n6 : ((n : Int) == 0) = false := by simpa using hz
      have n15 : (1 : Int) ≤ (n : Int) := by omega
      have n16 : 1 ≤ n := by omega
      have n17 : 0 < n := by omega
      have n18 : (n : Int) ≤ (cp : Int) + 1 := by omega
      have n19 : (0 : Int) < (n : Int) := by omega
      clear hp hkp hz
      generalize z1[n - 1] = P at *
      go_wp2_with fail
      refine HG.out.mono ?_
      rintro e wg ⟨rfl, hb1'⟩
      cases hl : lacks z0 P with
      | true =>
        have HLK := Lib.hid (lack_asI true (HR.out.below LRule.rec (hBW _ hb1')) (HQI.out.below LQuestion.rec (hBW _ hb1')) HT.out (HLT.out.trans hl))
        have HA := Lib.hid (dsA_lack HTP.out hl)
        clear hl
        go_wp2_with fail
        refine HLK.out.mono ?_
        rintro e w5 ⟨rfl, hb5⟩
        have hb6 := hb1'.trans (hb5.mono hb1'.size)
        have HRB := Lib.hid (HR0.out.kept hb6)
        have hGne : w5.heap.size ≠ w.heap.size := hGNE _ hb6
        have HOb := Lib.hid (Own.start (T := LQuestion.rec) (E := 47) (w := w5) (A := w.heap.size) (hBW _ hb6).size)
        have hbz := (hBW _ hb6).alloc (hBW _ hb6).size (Obj.cells #[] 47)
        replace HRB := Lib.hid (HRB.out.alloc (Obj.cells #[] 47))
        have r0 := HRB.out.cell 0
        have r1 := HRB.out.cell 1
        have r2 := HRB.out.cell 2
        have f0 := HRB.out.frozen 0
        have f1 := HRB.out.frozen 1
        have f2 := HRB.out.frozen 2
        simp only [List.getElem?_toArray, List.getElem?_cons_zero, List.getElem?_cons_succ] at r0 r1 r2
        have HRS := Lib.hid (show Bx ((((w5.alloc (Obj.cells #[] 47)).setCell ⟨w.heap.size, 0, none⟩ (.int .i64 0)).setCell ⟨w.heap.size, 1, none⟩ (.int .i64 0)).setCell ⟨w.heap.size, 2, none⟩ (.bool false)) w.heap.size 47 #[.int .i64 0, .int .i64 0, .bool false] from Bx.set_ (Bx.set_ (Bx.set_ HRB.out 0 (.int .i64 0)) 1 (.int .i64 0)) 2 (.bool false))
        have hbs : Below w.heap.size w ((((w5.alloc (Obj.cells #[] 47)).setCell ⟨w.heap.size, 0, none⟩ (.int .i64 0)).setCell ⟨w.heap.size, 1, none⟩ (.int .i64 0)).setCell ⟨w.heap.size, 2, none⟩ (.bool false)) := ((hbz.setCell (p := ⟨w.heap.size, 0, none⟩) (Nat.le_refl _) _).setCell (p := ⟨w.heap.size, 1, none⟩) (Nat.le_refl _) _).setCell (p := ⟨w.heap.size, 2, none⟩) (Nat.le_refl _) _
        have HOs := Lib.hid (own_set3 HOb.out (G := w.heap.size) (fun k hk e => hGne (by simp only [Value.ownBlock, Option.some.injEq] at hk; omega)) (.int .i64 0) (.int .i64 0) (.bool false))
        go_wp2_with fail
        clear r0 r1 r2 f0 f1 f2
        have r0 := HRS.out.cell 0
        have r1 := HRS.out.cell 1
        have r2 := HRS.out.cell 2
        simp only [List.getElem?_toArray, List.getElem?_cons_zero, List.getElem?_cons_succ] at r0 r1 r2
        (try simp only [Exit.inBlock, Exit.then])
        refine bodyPost_ret (v := .tuple #[.slice (some ⟨w5.heap.size, 0, none⟩) 0 0, .agg #[.int .i64 0, .int .i64 0, .bool false], .bool false]) (by simp [results, Try.results37, go_sem, r0, r1, r2]) rfl ?_
        exact ⟨_, [], Q0, false, rfl, HA.out, HOs.out, hbs⟩
      | false =>
        have HLK := Lib.hid (lack_asI false (HR.out.below LRule.rec (hBW _ hb1')) (HQI.out.below LQuestion.rec (hBW _ hb1')) HT.out (HLT.out.trans hl))
        have HA := Lib.hid (show dsA z0 z1 = (z1.take (n - 1), P, true) by rw [dsA_yes HGD.out HTP.out hl, HN.out])
        clear hl
        go_wp2_with fail
        refine HLK.out.mono ?_
        rintro e w5 ⟨rfl, hb5⟩
        have hb6 := hb1'.trans (hb5.mono hb1'.size)
        have HRB := Lib.hid (HR0.out.kept hb6)
        have hszw : w.heap.size + 1 ≤ w5.heap.size := by have := hb6.size; omega
        have hb7 := hb6.drew
        have HRB7 := Lib.hid (HR0.out.kept hb7)
        obtain ⟨q0, q1, q2⟩ := LQuestion.cells (HQC.out.below LQuestion.rec (hBW _ hb7) hbl)
        simp only [LQuestion.rec_n] at q0 q1 q2
        have HRB0 := HRB
        have HS1 := Lib.hid (show ∀ w' : World, Below w5.heap.size w5 w' → ∀ j u, (flat LQuestion.rec (z1.take (n - 1)))[j]? = some u → w'.cell? (Addr.add ⟨b, o, none⟩ j) = some u from fun w' hb' =>
          ((HIS.out.below LQuestion.rec ((hBW _ hb6).trans (hb'.mono (hBW _ hb6).size))).take LQuestion.rec (k := (n - 1)) (by omega)).flatCells LQuestion.rec)
        have HK := Lib.hid (show ∀ w' : World, Below w5.heap.size w5 w' → Below w5.heap.size w5 w' ∧ w'.cell? ⟨b, o + (n - 1) * 3, none⟩ = some (.int .i64 P.rule) ∧ w'.cell? ⟨b, o + (n - 1) * 3 + 1, none⟩ = some (.int .i64 P.mover) ∧ w'.cell? ⟨b, o + (n - 1) * 3 + 2, none⟩ = some (.bool P.sec) ∧ w'.cell? ⟨w.heap.size, 0, none⟩ = some (.int .i64 0) ∧ w'.cell? ⟨w.heap.size, 1, none⟩ = some (.int .i64 0) ∧ w'.cell? ⟨w.heap.size, 2, none⟩ = some (.bool false) ∧ w'.frozen? ⟨w.heap.size, 0, none⟩ = false ∧ w'.frozen? ⟨w.heap.size, 1, none⟩ = false ∧ w'.frozen? ⟨w.heap.size, 2, none⟩ = false from fun w' hb' => by
          obtain ⟨p0, p1, p2⟩ := LQuestion.cells (HQC.out.below LQuestion.rec ((hBW _ hb6).trans (hb'.mono (hBW _ hb6).size)) hbl)
          have hR := HRB.out.kept hb'
          have r0 := hR.cell 0
          have r1 := hR.cell 1
          have r2 := hR.cell 2
          simp only [List.getElem?_toArray, List.getElem?_cons_zero, List.getElem?_cons_succ] at r0 r1 r2
          exact ⟨hb', p0, p1, p2, r0, r1, r2, hR.frozen 0, hR.frozen 1, hR.frozen 2⟩)
        have HK2 := Lib.hid (show ∀ w' : World, Below w.heap.size w w' → Below w.heap.size w w' ∧ w'.cell? ⟨b, o + (n - 1) * 3, none⟩ = some (.int .i64 P.rule) ∧ w'.cell? ⟨b, o + (n - 1) * 3 + 1, none⟩ = some (.int .i64 P.mover) ∧ w'.cell? ⟨b, o + (n - 1) * 3 + 2, none⟩ = some (.bool P.sec) from fun w' hb' => by
          obtain ⟨p0, p1, p2⟩ := LQuestion.cells (HQC.out.below LQuestion.rec hb' hbl)
          exact ⟨hb', p0, p1, p2⟩)
        have hBw5 := hBW _ hb6
        have hszA := (hb6).size
        go_upto_region 4 with fail
        go_cut [4, 6] (fun s4 s6 wx => ∃ v, v = s4 ∧ s6 = .bool true ∧ Hid (Own LQuestion.rec 47 wx w.heap.size v (z1.take (n - 1))) ∧ Hid (Bx wx w.heap.size 47 #[.int .i64 P.rule, .int .i64 P.mover, .bool P.sec]) ∧ Below w.heap.size w wx)
        case first =>
          go_region_with (go_at_call 91; refine (LQuestion.clone _ (z1.take (n - 1)) _ (IsS.is LQuestion.rec ((HIS.out.below LQuestion.rec (hBW _ hb7)).take LQuestion.rec (by omega))) (by rw [List.length_take]; omega)).mono ?_; rintro e w2 ⟨v2, rfl, ho, hbx⟩; have hbw2 : Below wA.heap.size wA w2 := hb7.trans (hbx.mono hb7.size); obtain ⟨p0, p1, p2⟩ := LQuestion.cells (HQC.out.below LQuestion.rec (hBW _ hbw2) hbl); simp only [LQuestion.rec_n] at p0 p1 p2; have HRB2 := HR0.out.kept hbw2; have r0 := HRB2.cell 0; have r1 := HRB2.cell 1; have r2 := HRB2.cell 2; have f0 := HRB2.frozen 0; have f1 := HRB2.frozen 1; have f2 := HRB2.frozen 2; simp only [List.getElem?_toArray, List.getElem?_cons_zero, List.getElem?_cons_succ] at r0 r1 r2; have hOv := Own.low (A' := w.heap.size) ho (by simp; omega); have hOge : ∀ k, v2.ownBlock = some k → w.heap.size < k := fun k hk => by (have h9 := (ho.lt k hk).1; simp at h9; omega))
          all_goals
            have hB2 := hBW _ hbw2
            have HRB := Lib.hid HRB2
            have HRS := Lib.hid (show Bx (((w2.setCell ⟨w.heap.size, 0, none⟩ (.int .i64 P.rule)).setCell ⟨w.heap.size, 1, none⟩ (.int .i64 P.mover)).setCell ⟨w.heap.size, 2, none⟩ (.bool P.sec)) w.heap.size 47 #[.int .i64 P.rule, .int .i64 P.mover, .bool P.sec] from Bx.set_ (Bx.set_ (Bx.set_ HRB.out 0 (.int .i64 P.rule)) 1 (.int .i64 P.mover)) 2 (.bool P.sec))
            have hbs : Below w.heap.size w (((w2.setCell ⟨w.heap.size, 0, none⟩ (.int .i64 P.rule)).setCell ⟨w.heap.size, 1, none⟩ (.int .i64 P.mover)).setCell ⟨w.heap.size, 2, none⟩ (.bool P.sec)) := ((hB2.setCell (p := ⟨w.heap.size, 0, none⟩) (Nat.le_refl _) _).setCell (p := ⟨w.heap.size, 1, none⟩) (Nat.le_refl _) _).setCell (p := ⟨w.heap.size, 2, none⟩) (Nat.le_refl _) _
            have HOs := Lib.hid (own_set3 hOv (G := w.heap.size) (fun k hk e => by have := hOge k hk; omega) (.int .i64 P.rule) (.int .i64 P.mover) (.bool P.sec))
            go_wp2_with fail
            go_meet
            exact ⟨_, rfl, rfl, HOs, HRS, hbs⟩
        case rest =>
          obtain ⟨v, rfl, rfl, HOr, HRS, hbs⟩ := hcut
          go_wp2_with fail
          have r0 := HRS.out.cell 0
          have r1 := HRS.out.cell 1
          have r2 := HRS.out.cell 2
          simp only [List.getElem?_toArray, List.getElem?_cons_zero, List.getElem?_cons_succ] at r0 r1 r2
          (try simp only [Exit.inBlock, Exit.then])
          refine bodyPost_ret (v := .tuple #[v, .agg #[.int .i64 P.rule, .int .i64 P.mover, .bool P.sec], .bool true]) (by simp [results, Try.results37, go_sem, r0, r1, r2]) rfl ?_
          exact ⟨v, _, P, true, rfl, HA.out, HOr.out, hbs⟩
attribute [local go_sem ↓] Go.wp_at_zero Go.wp_at_succ in
set_option maxRecDepth 100000 in
set_option maxHeartbeats 3200000 in
theorem spec (v0 : Value) (z0 : List LRule.R) (v1 : Value) (z1 : List LQuestion.R) (w : World) (h0 : IsS LRule.rec w v0 z0) (f0 : ∀ x ∈ z0, LRule.Fine x) (l0 : z0.length ≤ 1048576) (h1 : IsS LQuestion.rec w v1 z1) (f1 : ∀ x ∈ z1, LQuestion.Fine x) (l1 : z1.length ≤ 1048576) :
    Calls Try.prog 36 #[v0, v1] w (APost z0 z1 w) := by
  have HR := Lib.hid (IsS.is LRule.rec h0)
  have HQI := Lib.hid (IsS.is LQuestion.rec h1)
  have HIS := Lib.hid h1
  have HF0 := Lib.hid f0
  obtain ⟨b, o, cp, rfl, hbl, hxc, hcm, hcell⟩ := h1
  have HC := Lib.hid hcell
  obtain ⟨n, hn⟩ : ∃ n, n = z1.length := ⟨_, rfl⟩
  have HN := Lib.hid hn.symm
  rw [← hn] at HQI HIS hxc l1 ⊢
  unfold maxLen at hcm
  clear hn hcell f0 f1 h0
  obtain ⟨i0, hi, hz0, hz1, hz2⟩ := info_parts LQuestion.infoK
  have HI0 := Lib.hid hi
  have HZ0 := Lib.hid (And.intro hz0 (And.intro hz1 hz2))
  clear hi hz0 hz1 hz2
  have hbr := (Below.refl w.heap.size w).alloc (Nat.le_refl _) (Obj.cells #[.int .i64 0, .int .i64 0, .bool false] 47)
  have HR0 := Lib.hid (Bx.new w 47 #[.int .i64 0, .int .i64 0, .bool false])
  have HRr := Lib.hid (HR.out.below LRule.rec hbr)
  have HQr := Lib.hid (HQI.out.below LQuestion.rec hbr)
  have hsz : w.heap.size + 1 = (w.alloc (Obj.cells #[.int .i64 0, .int .i64 0, .bool false] 47)).heap.size := by simp
  go_enter Try.func36, Try.ntmps36
  go_upto_region 1 with fail
  generalize w.alloc (Obj.cells #[.int .i64 0, .int .i64 0, .bool false] 47) = wA at *
  have hBW : ∀ W : World, Below wA.heap.size wA W → Below w.heap.size w W := fun W h => hbr.trans (h.mono hbr.size)
  have hGNE : ∀ W : World, Below wA.heap.size wA W → W.heap.size ≠ w.heap.size := fun W h => by have := h.size; omega
  have hGA : w.heap.size < wA.heap.size := by omega
  cases hg : goodQ z0 z1 with
  | false =>
    have HG := Lib.hid (good_asS false HRr.out HQr.out HF0.out hg)
    have HA := Lib.hid (dsA_no hg)
    clear hg
    go_wp2_with fail
    refine HG.out.mono ?_
    rintro e wg ⟨rfl, hb1'⟩
    have HRB := Lib.hid (HR0.out.kept hb1')
    have hGne : wg.heap.size ≠ w.heap.size := hGNE _ hb1'
    have HOb := Lib.hid (Own.start (T := LQuestion.rec) (E := 47) (w := wg) (A := w.heap.size) (hBW _ hb1').size)
    have hbz := (hBW _ hb1').alloc (hBW _ hb1').size (Obj.cells #[] 47)
    replace HRB := Lib.hid (HRB.out.alloc (Obj.cells #[] 47))
    have r0 := HRB.out.cell 0
    have r1 := HRB.out.cell 1
    have r2 := HRB.out.cell 2
    have f0 := HRB.out.frozen 0
    have f1 := HRB.out.frozen 1
    have f2 := HRB.out.frozen 2
    simp only [List.getElem?_toArray, List.getElem?_cons_zero, List.getElem?_cons_succ] at r0 r1 r2
    have HRS := Lib.hid (show Bx ((((wg.alloc (Obj.cells #[] 47)).setCell ⟨w.heap.size, 0, none⟩ (.int .i64 0)).setCell ⟨w.heap.size, 1, none⟩ (.int .i64 0)).setCell ⟨w.heap.size, 2, none⟩ (.bool false)) w.heap.size 47 #[.int .i64 0, .int .i64 0, .bool false] from Bx.set_ (Bx.set_ (Bx.set_ HRB.out 0 (.int .i64 0)) 1 (.int .i64 0)) 2 (.bool false))
    have hbs : Below w.heap.size w ((((wg.alloc (Obj.cells #[] 47)).setCell ⟨w.heap.size, 0, none⟩ (.int .i64 0)).setCell ⟨w.heap.size, 1, none⟩ (.int .i64 0)).setCell ⟨w.heap.size, 2, none⟩ (.bool false)) := ((hbz.setCell (p := ⟨w.heap.size, 0, none⟩) (Nat.le_refl _) _).setCell (p := ⟨w.heap.size, 1, none⟩) (Nat.le_refl _) _).setCell (p := ⟨w.heap.size, 2, none⟩) (Nat.le_refl _) _
    have HOs := Lib.hid (own_set3 HOb.out (G := w.heap.size) (fun k hk e => hGne (by simp only [Value.ownBlock, Option.some.injEq] at hk; omega)) (.int .i64 0) (.int .i64 0) (.bool false))
    go_wp2_with fail
    clear r0 r1 r2 f0 f1 f2
    have r0 := HRS.out.cell 0
    have r1 := HRS.out.cell 1
    have r2 := HRS.out.cell 2
    simp only [List.getElem?_toArray, List.getElem?_cons_zero, List.getElem?_cons_succ] at r0 r1 r2
    (try simp only [Exit.inBlock, Exit.then])
    refine bodyPost_ret (v := .tuple #[.slice (some ⟨wg.heap.size, 0, none⟩) 0 0, .agg #[.int .i64 0, .int .i64 0, .bool false], .bool false]) (by simp [results, Try.results36, go_sem, r0, r1, r2]) rfl ?_
    exact ⟨_, [], Q0, false, rfl, HA.out, HOs.out, hbs⟩
  | true =>
    have HG := Lib.hid (good_asS true HRr.out HQr.out HF0.out hg)
    have HT := Lib.hid (topIn_good hg)
    have HGD := Lib.hid hg
    clear hg
    by_cases hz : n = 0
    · have HA := Lib.hid (dsA_nil (z := z0) (l := z1) (by rw [HN.out]; exact hz))
      have n5 : decide (n = 0) = true := by simpa using hz
      have n6 : ((n : Int) == 0) = true := by simpa using hz
      subst hz
      go_wp2_with fail
      refine HG.out.mono ?_
      rintro e wg ⟨rfl, hb1'⟩
      have HRB := Lib.hid (HR0.out.kept hb1')
      have hGne : wg.heap.size ≠ w.heap.size := hGNE _ hb1'
      have HOb := Lib.hid (Own.start (T := LQuestion.rec) (E := 47) (w := wg) (A := w.heap.size) (hBW _ hb1').size)
      have hbz := (hBW _ hb1').alloc (hBW _ hb1').size (Obj.cells #[] 47)
      replace HRB := Lib.hid (HRB.out.alloc (Obj.cells #[] 47))
      have r0 := HRB.out.cell 0
      have r1 := HRB.out.cell 1
      have r2 := HRB.out.cell 2
      have f0 := HRB.out.frozen 0
      have f1 := HRB.out.frozen 1
      have f2 := HRB.out.frozen 2
      simp only [List.getElem?_toArray, List.getElem?_cons_zero, List.getElem?_cons_succ] at r0 r1 r2
      have HRS := Lib.hid (show Bx ((((wg.alloc (Obj.cells #[] 47)).setCell ⟨w.heap.size, 0, none⟩ (.int .i64 0)).setCell ⟨w.heap.size, 1, none⟩ (.int .i64 0)).setCell ⟨w.heap.size, 2, none⟩ (.bool false)) w.heap.size 47 #[.int .i64 0, .int .i64 0, .bool false] from Bx.set_ (Bx.set_ (Bx.set_ HRB.out 0 (.int .i64 0)) 1 (.int .i64 0)) 2 (.bool false))
      have hbs : Below w.heap.size w ((((wg.alloc (Obj.cells #[] 47)).setCell ⟨w.heap.size, 0, none⟩ (.int .i64 0)).setCell ⟨w.heap.size, 1, none⟩ (.int .i64 0)).setCell ⟨w.heap.size, 2, none⟩ (.bool false)) := ((hbz.setCell (p := ⟨w.heap.size, 0, none⟩) (Nat.le_refl _) _).setCell (p := ⟨w.heap.size, 1, none⟩) (Nat.le_refl _) _).setCell (p := ⟨w.heap.size, 2, none⟩) (Nat.le_refl _) _
      have HOs := Lib.hid (own_set3 HOb.out (G := w.heap.size) (fun k hk e => hGne (by simp only [Value.ownBlock, Option.some.injEq] at hk; omega)) (.int .i64 0) (.int .i64 0) (.bool false))
      go_wp2_with fail
      clear r0 r1 r2 f0 f1 f2
      have r0 := HRS.out.cell 0
      have r1 := HRS.out.cell 1
      have r2 := HRS.out.cell 2
      simp only [List.getElem?_toArray, List.getElem?_cons_zero, List.getElem?_cons_succ] at r0 r1 r2
      (try simp only [Exit.inBlock, Exit.then])
      refine bodyPost_ret (v := .tuple #[.slice (some ⟨wg.heap.size, 0, none⟩) 0 0, .agg #[.int .i64 0, .int .i64 0, .bool false], .bool false]) (by simp [results, Try.results36, go_sem, r0, r1, r2]) rfl ?_
      exact ⟨_, [], Q0, false, rfl, HA.out, HOs.out, hbs⟩
    · have hx : n - 1 < z1.length := by have := HN.out; omega
      have hp : top z1 = some z1[n - 1] := by unfold top; rw [HN.out]; exact List.getElem?_eq_getElem hx
      have HX := Lib.hid (List.getElem?_eq_getElem hx)
      obtain ⟨kp, hkp⟩ := Option.isSome_iff_exists.1 (HT.out _ hp)
      have HTP := Lib.hid hp
      have HLT := Lib.hid (lackT_top (z := z0) hp)
      have HQC := Lib.hid (HC.out (n - 1) z1[n - 1] HX.out)
      have HKP := Lib.hid hkp
      have n1 : IntKind.i64.wrap ((n : Int) - 1) = (n : Int) - 1 := IntWalk.i64_in _ (by omega)
      have n2 : ((n : Int) - 1).toNat = n - 1 := by omega
      have n3 : 0 ≤ (n : Int) - 1 := by omega
      have n4 : (n : Int) - 1 < (n : Int) := by omega
      have n9 : (n : Int) - 1 ≤ (n : Int) := by omega
      have n10 : (n : Int) - 1 ≤ (cp : Int) := by omega
      have n11 : (n : Int) ≤ (cp : Int) := by omega
      have n12 : 0 ≤ (n : Int) := by omega
      have n5 : decide (n = 0) = false := by simpa using hz
      have n6 : ((n : Int) == 0) = false := by simpa using hz
      have n15 : (1 : Int) ≤ (n : Int) := by omega
      have n16 : 1 ≤ n := by omega
      have n17 : 0 < n := by omega
      have n18 : (n : Int) ≤ (cp : Int) + 1 := by omega
      have n19 : (0 : Int) < (n : Int) := by omega
      clear hp hkp hz
      generalize z1[n - 1] = P at *
      go_wp2_with fail
      refine HG.out.mono ?_
      rintro e wg ⟨rfl, hb1'⟩
      obtain ⟨q0, q1, q2⟩ := LQuestion.cells (HQC.out.below LQuestion.rec (hBW _ hb1') hbl)
      simp only [LQuestion.rec_n] at q0 q1 q2
      cases hl : lacks z0 P with
      | true =>
        have HLK := Lib.hid (lacks_as (HR.out.below LRule.rec (hBW _ hb1')) HKP.out hl)
        have HA := Lib.hid (dsA_lack HTP.out hl)
        clear hl
        go_wp2_with fail
        refine HLK.out.mono ?_
        rintro e w5 ⟨rfl, hb5⟩
        have hb6 := hb1'.trans (hb5.mono hb1'.size)
        have HRB := Lib.hid (HR0.out.kept hb6)
        clear q0 q1 q2
        have hGne : w5.heap.size ≠ w.heap.size := hGNE _ hb6
        have HOb := Lib.hid (Own.start (T := LQuestion.rec) (E := 47) (w := w5) (A := w.heap.size) (hBW _ hb6).size)
        have hbz := (hBW _ hb6).alloc (hBW _ hb6).size (Obj.cells #[] 47)
        replace HRB := Lib.hid (HRB.out.alloc (Obj.cells #[] 47))
        have r0 := HRB.out.cell 0
        have r1 := HRB.out.cell 1
        have r2 := HRB.out.cell 2
        have f0 := HRB.out.frozen 0
        have f1 := HRB.out.frozen 1
        have f2 := HRB.out.frozen 2
        simp only [List.getElem?_toArray, List.getElem?_cons_zero, List.getElem?_cons_succ] at r0 r1 r2
        have HRS := Lib.hid (show Bx ((((w5.alloc (Obj.cells #[] 47)).setCell ⟨w.heap.size, 0, none⟩ (.int .i64 0)).setCell ⟨w.heap.size, 1, none⟩ (.int .i64 0)).setCell ⟨w.heap.size, 2, none⟩ (.bool false)) w.heap.size 47 #[.int .i64 0, .int .i64 0, .bool false] from Bx.set_ (Bx.set_ (Bx.set_ HRB.out 0 (.int .i64 0)) 1 (.int .i64 0)) 2 (.bool false))
        have hbs : Below w.heap.size w ((((w5.alloc (Obj.cells #[] 47)).setCell ⟨w.heap.size, 0, none⟩ (.int .i64 0)).setCell ⟨w.heap.size, 1, none⟩ (.int .i64 0)).setCell ⟨w.heap.size, 2, none⟩ (.bool false)) := ((hbz.setCell (p := ⟨w.heap.size, 0, none⟩) (Nat.le_refl _) _).setCell (p := ⟨w.heap.size, 1, none⟩) (Nat.le_refl _) _).setCell (p := ⟨w.heap.size, 2, none⟩) (Nat.le_refl _) _
        have HOs := Lib.hid (own_set3 HOb.out (G := w.heap.size) (fun k hk e => hGne (by simp only [Value.ownBlock, Option.some.injEq] at hk; omega)) (.int .i64 0) (.int .i64 0) (.bool false))
        go_wp2_with fail
        clear r0 r1 r2 f0 f1 f2
        have r0 := HRS.out.cell 0
        have r1 := HRS.out.cell 1
        have r2 := HRS.out.cell 2
        simp only [List.getElem?_toArray, List.getElem?_cons_zero, List.getElem?_cons_succ] at r0 r1 r2
        (try simp only [Exit.inBlock, Exit.then])
        refine bodyPost_ret (v := .tuple #[.slice (some ⟨w5.heap.size, 0, none⟩) 0 0, .agg #[.int .i64 0, .int .i64 0, .bool false], .bool false]) (by simp [results, Try.results36, go_sem, r0, r1, r2]) rfl ?_
        exact ⟨_, [], Q0, false, rfl, HA.out, HOs.out, hbs⟩
      | false =>
        have HLK := Lib.hid (lacks_as (HR.out.below LRule.rec (hBW _ hb1')) HKP.out hl)
        have HA := Lib.hid (show dsA z0 z1 = (z1.take (n - 1), P, true) by rw [dsA_yes HGD.out HTP.out hl, HN.out])
        clear hl
        go_wp2_with fail
        refine HLK.out.mono ?_
        rintro e w5 ⟨rfl, hb5⟩
        have hb6 := hb1'.trans (hb5.mono hb1'.size)
        have HRB := Lib.hid (HR0.out.kept hb6)
        clear q0 q1 q2
        have hszw : w.heap.size + 1 ≤ w5.heap.size := by have := hb6.size; omega
        have hb7 := hb6.drew
        have HRB7 := Lib.hid (HR0.out.kept hb7)
        obtain ⟨q0, q1, q2⟩ := LQuestion.cells (HQC.out.below LQuestion.rec (hBW _ hb7) hbl)
        simp only [LQuestion.rec_n] at q0 q1 q2
        have hsz7 := hb7.size
        have hb8 := hb7.alloc hb7.size (Obj.cells #[] 47)
        have HS9 := Lib.hid (show ∀ w' : World, Below wA.heap.size wA w' → ∀ j u, (flat LQuestion.rec (z1.take (n - 1)))[j]? = some u → w'.cell? (Addr.add ⟨b, o, none⟩ j) = some u from fun w' hb' => ((HIS.out.below LQuestion.rec (hBW _ hb')).take LQuestion.rec (k := (n - 1)) (by omega)).flatCells LQuestion.rec)
        have HRB0 := HRB
        have HS1 := Lib.hid (show ∀ w' : World, Below w5.heap.size w5 w' → ∀ j u, (flat LQuestion.rec (z1.take (n - 1)))[j]? = some u → w'.cell? (Addr.add ⟨b, o, none⟩ j) = some u from fun w' hb' =>
          ((HIS.out.below LQuestion.rec ((hBW _ hb6).trans (hb'.mono (hBW _ hb6).size))).take LQuestion.rec (k := (n - 1)) (by omega)).flatCells LQuestion.rec)
        have HK := Lib.hid (show ∀ w' : World, Below w5.heap.size w5 w' → Below w5.heap.size w5 w' ∧ w'.cell? ⟨b, o + (n - 1) * 3, none⟩ = some (.int .i64 P.rule) ∧ w'.cell? ⟨b, o + (n - 1) * 3 + 1, none⟩ = some (.int .i64 P.mover) ∧ w'.cell? ⟨b, o + (n - 1) * 3 + 2, none⟩ = some (.bool P.sec) ∧ w'.cell? ⟨w.heap.size, 0, none⟩ = some (.int .i64 0) ∧ w'.cell? ⟨w.heap.size, 1, none⟩ = some (.int .i64 0) ∧ w'.cell? ⟨w.heap.size, 2, none⟩ = some (.bool false) ∧ w'.frozen? ⟨w.heap.size, 0, none⟩ = false ∧ w'.frozen? ⟨w.heap.size, 1, none⟩ = false ∧ w'.frozen? ⟨w.heap.size, 2, none⟩ = false from fun w' hb' => by
          obtain ⟨p0, p1, p2⟩ := LQuestion.cells (HQC.out.below LQuestion.rec ((hBW _ hb6).trans (hb'.mono (hBW _ hb6).size)) hbl)
          have hR := HRB.out.kept hb'
          have r0 := hR.cell 0
          have r1 := hR.cell 1
          have r2 := hR.cell 2
          simp only [List.getElem?_toArray, List.getElem?_cons_zero, List.getElem?_cons_succ] at r0 r1 r2
          exact ⟨hb', p0, p1, p2, r0, r1, r2, hR.frozen 0, hR.frozen 1, hR.frozen 2⟩)
        have HK2 := Lib.hid (show ∀ w' : World, Below w.heap.size w w' → Below w.heap.size w w' ∧ w'.cell? ⟨b, o + (n - 1) * 3, none⟩ = some (.int .i64 P.rule) ∧ w'.cell? ⟨b, o + (n - 1) * 3 + 1, none⟩ = some (.int .i64 P.mover) ∧ w'.cell? ⟨b, o + (n - 1) * 3 + 2, none⟩ = some (.bool P.sec) from fun w' hb' => by
          obtain ⟨p0, p1, p2⟩ := LQuestion.cells (HQC.out.below LQuestion.rec hb' hbl)
          exact ⟨hb', p0, p1, p2⟩)
        have hBw5 := hBW _ hb6
        have hszA := (hb6).size
        go_upto_region 4 with fail
        go_cut [4, 6] (fun s4 s6 wx => ∃ v, v = s4 ∧ s6 = .bool true ∧ Hid (Own LQuestion.rec 47 wx w.heap.size v (z1.take (n - 1))) ∧ Hid (Bx wx w.heap.size 47 #[.int .i64 P.rule, .int .i64 P.mover, .bool P.sec]) ∧ Below w.heap.size w wx)
        case first =>
          go_region_held3 (fun w' => Below w.heap.size w w' ∧ w'.cell? ⟨b, o + (n - 1) * 3, none⟩ = some (.int .i64 P.rule) ∧ w'.cell? ⟨b, o + (n - 1) * 3 + 1, none⟩ = some (.int .i64 P.mover) ∧ w'.cell? ⟨b, o + (n - 1) * 3 + 2, none⟩ = some (.bool P.sec)) ((refine HK2.out _ ?_; (repeat (first | assumption | exact Below.refl _ _ | refine Below.drew ?_ | refine Below.setCell ?_ (by first | (simp; done) | (simp; omega) | omega) _ | refine Below.alloc ?_ (by first | (simp; done) | (simp; omega) | omega) _)))) (first | (refine step_append (by rfl) (.tmp 29) (.tmp 33) 29 (by rfl) (w.heap.size + 1) 47 i0 (.agg #[.int .i64 0, .int .i64 0, .bool false]) 3 24 Try.underlying29 HI0.out HZ0.out.1 HZ0.out.2.1 HZ0.out.2.2 rfl (by decide) _ (0) ([]) (by rfl) (LQuestion.startB (heap_alloc_new _ _) (by first | (simp; done) | (simp; omega) | omega)) (⟨b, o, none⟩) (n - 1) (cp) (flat LQuestion.rec (z1.take (n - 1))) (by rfl) (by rw [flat_len, LQuestion.rec_n, List.length_take]; have := HN.out; omega) (fun j u hu => HS9.out _ (by (repeat (first | assumption | exact Below.refl _ _ | refine Below.drew ?_ | refine Below.alloc ?_ (by first | (simp; done) | (simp; omega) | omega) _))) j u hu) (flat_one _ _) (by unfold maxLen; omega) (by omega) (by first | (simp; done) | (simp; omega) | omega) ?_; intro v2 w2 hown hgrow; have hbw2 : Below wA.heap.size wA w2 := Below.grown (by (repeat (first | assumption | exact Below.refl _ _ | refine Below.drew ?_ | refine Below.alloc ?_ (by first | (simp; done) | (simp; omega) | omega) _))) hgrow (by first | (simp; done) | (simp; omega) | omega) (fun j hj => own_ge hj (by first | (simp; done) | (simp; omega) | omega)); have hsz2 : w.heap.size + 1 ≤ w2.heap.size := (by have := hbw2.size; omega); have hB2 := hBW _ hbw2; have HRB2 := HR0.out.kept hbw2; have r0 := HRB2.cell 0; have r1 := HRB2.cell 1; have r2 := HRB2.cell 2; have f0 := HRB2.frozen 0; have f1 := HRB2.frozen 1; have f2 := HRB2.frozen 2; simp only [List.getElem?_toArray, List.getElem?_cons_zero, List.getElem?_cons_succ] at r0 r1 r2; have hOw : Own LQuestion.rec 47 w2 (w.heap.size + 1) v2 (z1.take (n - 1)) := own_of LQuestion.rec (show w2.ownsRow (w.heap.size + 1) 47 3 v2 (n - 1) (flat LQuestion.rec (z1.take (n - 1))) from (by first | exact hown | exact own_in hown)) (by rw [List.length_take]; have := HN.out; omega) rfl; have hOv := Own.low (A' := w.heap.size) hOw (by omega); have hOge : ∀ k, v2.ownBlock = some k → w.heap.size < k := fun k hk => by (have h9 := (hOw.lt k hk).1; omega)) | fail)
          all_goals
            have hB2 := hBW _ hbw2
            have HRB := Lib.hid HRB2
            have HRS := Lib.hid (show Bx (((w2.setCell ⟨w.heap.size, 0, none⟩ (.int .i64 P.rule)).setCell ⟨w.heap.size, 1, none⟩ (.int .i64 P.mover)).setCell ⟨w.heap.size, 2, none⟩ (.bool P.sec)) w.heap.size 47 #[.int .i64 P.rule, .int .i64 P.mover, .bool P.sec] from Bx.set_ (Bx.set_ (Bx.set_ HRB.out 0 (.int .i64 P.rule)) 1 (.int .i64 P.mover)) 2 (.bool P.sec))
            have hbs : Below w.heap.size w (((w2.setCell ⟨w.heap.size, 0, none⟩ (.int .i64 P.rule)).setCell ⟨w.heap.size, 1, none⟩ (.int .i64 P.mover)).setCell ⟨w.heap.size, 2, none⟩ (.bool P.sec)) := ((hB2.setCell (p := ⟨w.heap.size, 0, none⟩) (Nat.le_refl _) _).setCell (p := ⟨w.heap.size, 1, none⟩) (Nat.le_refl _) _).setCell (p := ⟨w.heap.size, 2, none⟩) (Nat.le_refl _) _
            have HOs := Lib.hid (own_set3 hOv (G := w.heap.size) (fun k hk e => by have := hOge k hk; omega) (.int .i64 P.rule) (.int .i64 P.mover) (.bool P.sec))
            go_wp2_with fail
            go_meet
            exact ⟨_, rfl, rfl, HOs, HRS, hbs⟩
        case rest =>
          obtain ⟨v, rfl, rfl, HOr, HRS, hbs⟩ := hcut
          go_wp2_with fail
          have r0 := HRS.out.cell 0
          have r1 := HRS.out.cell 1
          have r2 := HRS.out.cell 2
          simp only [List.getElem?_toArray, List.getElem?_cons_zero, List.getElem?_cons_succ] at r0 r1 r2
          (try simp only [Exit.inBlock, Exit.then])
          refine bodyPost_ret (v := .tuple #[v, .agg #[.int .i64 P.rule, .int .i64 P.mover, .bool P.sec], .bool true]) (by simp [results, Try.results36, go_sem, r0, r1, r2]) rfl ?_
          exact ⟨v, _, P, true, rfl, HA.out, HOr.out, hbs⟩
end Go.Proofs.Ytbaflfbidgolfaa.DisposeQuestionC
