/- Floors: the program's test of a floor. No condition. -/
import Derived.Test.YtmbffcblhhippaaFlI
namespace Go.Proofs.Ytmbffcblhhippaa.FlV
open Go.RowKit Bs Word Sq IntF Fl FlA FlG FlB FlI
set_option linter.unusedVariables false
theorem g1 {f : F} (h : f.turns < 1) : good f = false := good1 (notin (.inl h))
theorem g2 {f : F} (h : 3 < f.turns) : good f = false := good1 (notin (.inr h))
theorem g3 {f : F} (h : f.seconds < 1) : good f = false := good2 (notin (.inl h))
theorem g4 {f : F} (h : 3600 < f.seconds) : good f = false := good2 (notin (.inr h))
theorem g5 {f : F} (h1 : ¬ f.turns < 1) (h2 : ¬ 3 < f.turns) (h3 : ¬ f.seconds < 1) (h4 : ¬ 3600 < f.seconds) : good f = (shB f && (spk f && waits f)) := by
  unfold good
  rw [isin h1 h2, isin h3 h4, Bool.true_and, Bool.true_and, Bool.and_comm (waits f)]
set_option maxRecDepth 100000 in
set_option maxHeartbeats 1600000 in
theorem isValid (v0 : Value) (r : F) (w : World) (h0 : LFloor.Is w v0 r) :
    Calls Try.prog 38 #[v0] w fun e w' => e = .returned (.bool (good r)) ∧ Below w.heap.size w w' := by
  obtain ⟨a3, n3, c3, a4, n4, c4, rfl, HN3, HN4, hb3, hb4, hm3, hm4, hc3, hc4, HI⟩ := open_is h0
  clear h0
  obtain ⟨W, hW⟩ : ∃ W : World, W = w.alloc (Obj.cells #[.int .i64 r.turns, .int .i64 r.seconds, .int .i64 r.speaking, .slice a3 n3 c3, .slice a4 n4 c4] 29) := ⟨_, rfl⟩
  have hb : Below w.heap.size w W := by rw [hW]; exact (Below.refl _ _).alloc (Nat.le_refl _) _
  have B0 := Lib.hid (show Bx W w.heap.size 29 #[.int .i64 r.turns, .int .i64 r.seconds, .int .i64 r.speaking, .slice a3 n3 c3, .slice a4 n4 c4] by rw [hW]; exact Bx.new _ _ _)
  have HIW := Lib.hid (LFloor.Is.below HI.out hb)
  have q0 := B0.out.cell 0
  have q1 := B0.out.cell 1
  have q2 := B0.out.cell 2
  have q3 := B0.out.cell 3
  have q4 := B0.out.cell 4
  simp only [List.getElem?_toArray, List.getElem?_cons_zero, List.getElem?_cons_succ] at q0 q1 q2 q3 q4
  have HA := Lib.hid (areShares _ r W HIW.out)
  by_cases c1 : r.turns < 1
  · have HG := Lib.hid (g1 c1)
    go_enter Try.func38, Try.ntmps38
    go_wp2_with fail
    rw [← hW]
    go_ret
    exact ⟨ret_bool HG.out.symm, hb⟩
  by_cases c2 : 3 < r.turns
  · have HG := Lib.hid (g2 c2)
    go_enter Try.func38, Try.ntmps38
    go_wp2_with fail
    rw [← hW]
    go_ret
    exact ⟨ret_bool HG.out.symm, hb⟩
  by_cases c3 : r.seconds < 1
  · have HG := Lib.hid (g3 c3)
    go_enter Try.func38, Try.ntmps38
    go_wp2_with fail
    rw [← hW]
    go_ret
    exact ⟨ret_bool HG.out.symm, hb⟩
  by_cases c4 : 3600 < r.seconds
  · have HG := Lib.hid (g4 c4)
    go_enter Try.func38, Try.ntmps38
    go_wp2_with fail
    rw [← hW]
    go_ret
    exact ⟨ret_bool HG.out.symm, hb⟩
  have HG := Lib.hid (g5 c1 c2 c3 c4)
  go_enter Try.func38, Try.ntmps38
  go_wp2_with fail
  rw [← hW]
  clear hW
  refine HA.out.mono ?_
  rintro e w1 ⟨rfl, hb1⟩
  have hb2 := hb.trans (hb1.mono hb.size)
  replace B0 := Lib.hid (B0.out.kept hb1)
  clear q0 q1 q2 q3 q4 c1 c2 c3 c4 hb1
  have q0 := B0.out.cell 0
  have q1 := B0.out.cell 1
  have q2 := B0.out.cell 2
  have q3 := B0.out.cell 3
  have q4 := B0.out.cell 4
  simp only [List.getElem?_toArray, List.getElem?_cons_zero, List.getElem?_cons_succ] at q0 q1 q2 q3 q4
  cases c : shB r with
  | false =>
    have HGx := Lib.hid (show good r = false by rw [HG.out, c]; rfl)
    go_wp2_with fail
    go_ret
    exact ⟨ret_bool HGx.out.symm, hb2⟩
  | true =>
  have HS := Lib.hid (sh_of c)
  replace HG := Lib.hid (show good r = (spk r && waits r) by rw [HG.out, c]; rfl)
  clear c
  have HM := Lib.hid (maySpeak _ r w1 (LFloor.Is.below HI.out hb2) HS.out)
  go_wp2_with fail
  refine HM.out.mono ?_
  rintro e w2 ⟨rfl, hb1⟩
  have hb3' := hb2.trans (hb1.mono hb2.size)
  replace B0 := Lib.hid (B0.out.kept hb1)
  clear q0 q1 q2 q3 q4 hb1
  have q0 := B0.out.cell 0
  have q1 := B0.out.cell 1
  have q2 := B0.out.cell 2
  have q3 := B0.out.cell 3
  have q4 := B0.out.cell 4
  simp only [List.getElem?_toArray, List.getElem?_cons_zero, List.getElem?_cons_succ] at q0 q1 q2 q3 q4
  cases c : spk r with
  | false =>
    have HGx := Lib.hid (show good r = false by rw [HG.out, c]; rfl)
    go_wp2_with fail
    go_ret
    exact ⟨ret_bool HGx.out.symm, hb3'⟩
  | true =>
  replace HG := Lib.hid (show good r = waits r by rw [HG.out, c]; rfl)
  clear c
  have HW := Lib.hid (mayWait _ r w2 (LFloor.Is.below HI.out hb3') HS.out)
  go_wp2_with fail
  refine HW.out.mono ?_
  rintro e w3 ⟨rfl, hb1⟩
  go_wp2_with fail
  go_ret
  exact ⟨ret_bool HG.out.symm, hb3'.trans (hb1.mono hb3'.size)⟩
end Go.Proofs.Ytmbffcblhhippaa.FlV
