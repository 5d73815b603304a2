/- A valid amendment: the tests of the model and of the program. No condition. -/
import Derived.Test.YtclpdpfnlmfogaaAmA
import Derived.Test.YtclpdpfnlmfogaaJ1
namespace Go.Proofs.Ytclpdpfnlmfogaa.AmG
open Go.RowKit Bs Word Am AmA
set_option linter.unusedVariables false
theorem open_is {w : World} {v : Value} {r : M} (h : LAmendment.Is w v r) : ∃ (a3 : Option Addr) (n3 c3 : Nat), v = .agg #[.int .i64 r.kind, .int .i64 r.pos, .int .i64 r.count, .slice a3 n3 c3] ∧ Hid (r.words.length = n3) ∧ n3 ≤ c3 ∧ c3 ≤ 9223372036854775807 ∧ Hid (Bs.Is LString.rec w (.slice a3 n3 c3) r.words) := by
  obtain ⟨s3, rfl, a, c, rfl, h⟩ := h
  have h2 := h.2.1
  unfold maxLen at h2
  exact ⟨a, _, c, rfl, rfl, h.1, h2, ⟨_, _, rfl, h⟩⟩
theorem kind1 {c : Int} {n : Nat} : kindB 1 c n = (decide (c = 0) && decide (0 < n)) := rfl
theorem kind2 {c : Int} {n : Nat} : kindB 2 c n = (inB c 1 5 && decide (n = 0)) := rfl
theorem kind3 {c : Int} {n : Nat} : kindB 3 c n = (inB c 1 5 && decide (0 < n)) := rfl
theorem kind0 {k c : Int} {n : Nat} (h1 : k ≠ 1) (h2 : k ≠ 2) (h3 : k ≠ 3) : kindB k c n = false := by unfold kindB; rw [if_neg h1, if_neg h2, if_neg h3]
set_option maxRecDepth 100000 in
set_option maxHeartbeats 1600000 in
theorem l9Good (v0 : Value) (r : M) (w : World) (h0 : LAmendment.Is w v0 r) (f0 : LAmendment.Fine r) :
    Calls Try.prog 40 #[v0] w fun e w' => e = .returned (.bool (good r)) ∧ Below w.heap.size w w' := by
  obtain ⟨a3, n3, c3, rfl, HN3, hb3, hm3, HIW0⟩ := open_is h0
  clear h0
  obtain ⟨W, hW⟩ : ∃ W : World, W = w.alloc (Obj.cells #[.int .i64 r.kind, .int .i64 r.pos, .int .i64 r.count, .slice a3 n3 c3] 38) := ⟨_, rfl⟩
  have hb : Below w.heap.size w W := by rw [hW]; exact (Below.refl _ _).alloc (Nat.le_refl _) _
  have B0 := Lib.hid (show Bx W w.heap.size 38 #[.int .i64 r.kind, .int .i64 r.pos, .int .i64 r.count, .slice a3 n3 c3] by rw [hW]; exact Bx.new _ _ _)
  have HC := Lib.hid (l9Words _ r.words 5 W (Bs.Is.below _ HIW0.out hb) f0 (by decide))
  have q0 := B0.out.cell 0
  have q1 := B0.out.cell 1
  have q2 := B0.out.cell 2
  have q3 := B0.out.cell 3
  simp only [List.getElem?_toArray, List.getElem?_cons_zero, List.getElem?_cons_succ] at q0 q1 q2 q3
  cases g1 : inB r.pos 0 20 with
  | false =>
    have HG := Lib.hid (good1 g1)
    have HL := Lib.hid (inB_no g1)
    clear g1
    go_enter Try.func40, Try.ntmps40
    go_wp2_with fail
    rw [← hW]
    clear hW
    refine (in_no _ _ _ _ HL.out).mono ?_
    rintro e _ ⟨rfl, rfl⟩
    go_wp2_with fail
    go_ret
    exact ⟨ret_bool HG.out.symm, hb⟩
  | true =>
  obtain ⟨p1, p2⟩ := inB_yes g1
  cases g2 : wordsB r.words 5 with
  | false =>
    have HG := Lib.hid (good2 g2)
    rw [g2] at HC
    clear g1 g2
    go_enter Try.func40, Try.ntmps40
    go_wp2_with fail
    rw [← hW]
    clear hW
    refine (in_yes _ _ _ _ p1 p2).mono ?_
    rintro e _ ⟨rfl, rfl⟩
    go_wp2_with fail
    refine HC.out.mono ?_
    rintro e _ ⟨rfl, rfl⟩
    go_wp2_with fail
    go_ret
    exact ⟨ret_bool HG.out.symm, hb⟩
  | true =>
  have HG := Lib.hid (show good r = kindB r.kind r.count n3 by rw [good3 g1 g2, HN3.out])
  rw [g2] at HC
  clear g1 g2
  go_enter Try.func40, Try.ntmps40
  go_wp2_with fail
  rw [← hW]
  clear hW
  refine (in_yes _ _ _ _ p1 p2).mono ?_
  rintro e _ ⟨rfl, rfl⟩
  go_wp2_with fail
  refine HC.out.mono ?_
  rintro e _ ⟨rfl, rfl⟩
  by_cases k1 : r.kind = 1
  · have HK := Lib.hid (show good r = (decide (r.count = 0) && decide (0 < n3)) by rw [HG.out, k1]; rfl)
    have e1 : (r.kind == 1) = true := by simp [k1]
    clear k1
    by_cases d0 : r.count = 0
    · have HK2 := Lib.hid (show good r = decide (0 < n3) by rw [HK.out, decide_eq_true d0]; rfl)
      have e2 : (r.count == 0) = true := by simp [d0]
      clear d0
      go_wp2_with fail
      go_ret
      exact ⟨ret_bool HK2.out.symm, hb⟩
    · have HK2 := Lib.hid (show good r = false by rw [HK.out, decide_eq_false d0]; rfl)
      have e2 : (r.count == 0) = false := by simp [d0]
      clear d0
      go_wp2_with fail
      go_ret
      exact ⟨ret_bool HK2.out.symm, hb⟩
  have e1 : (r.kind == 1) = false := by simp [k1]
  by_cases k2 : r.kind = 2
  · have HK := Lib.hid (show good r = (inB r.count 1 5 && decide (n3 = 0)) by rw [HG.out, k2]; rfl)
    have e2 : (r.kind == 2) = true := by simp [k2]
    clear k1 k2
    go_wp2_with fail
    cases g3 : inB r.count 1 5 with
    | false =>
      have HK2 := Lib.hid (show good r = false by rw [HK.out, g3]; rfl)
      refine (in_no _ _ _ _ (inB_no g3)).mono ?_
      rintro e _ ⟨rfl, rfl⟩
      go_wp2_with fail
      go_ret
      exact ⟨ret_bool HK2.out.symm, hb⟩
    | true =>
      have HK2 := Lib.hid (show good r = decide (n3 = 0) by rw [HK.out, g3]; rfl)
      refine (in_yes _ _ _ _ (inB_yes g3).1 (inB_yes g3).2).mono ?_
      rintro e _ ⟨rfl, rfl⟩
      clear g3
      by_cases z : n3 = 0
      · have e3 : ((n3 : Int) == 0) = true := by simp [z]
        have HK3 := Lib.hid (show good r = true by rw [HK2.out, decide_eq_true z])
        clear z
        go_wp2_with fail
        go_ret
        exact ⟨ret_bool HK3.out.symm, hb⟩
      · have e3 : ((n3 : Int) == 0) = false := by simp [z]
        have HK3 := Lib.hid (show good r = false by rw [HK2.out, decide_eq_false z])
        clear z
        go_wp2_with fail
        go_ret
        exact ⟨ret_bool HK3.out.symm, hb⟩
  have e2 : (r.kind == 2) = false := by simp [k2]
  by_cases k3 : r.kind = 3
  · have HK := Lib.hid (show good r = (inB r.count 1 5 && decide (0 < n3)) by rw [HG.out, k3]; rfl)
    have e3 : (r.kind == 3) = true := by simp [k3]
    clear k1 k2 k3
    go_wp2_with fail
    cases g3 : inB r.count 1 5 with
    | false =>
      have HK2 := Lib.hid (show good r = false by rw [HK.out, g3]; rfl)
      refine (in_no _ _ _ _ (inB_no g3)).mono ?_
      rintro e _ ⟨rfl, rfl⟩
      go_wp2_with fail
      go_ret
      exact ⟨ret_bool HK2.out.symm, hb⟩
    | true =>
      have HK2 := Lib.hid (show good r = decide (0 < n3) by rw [HK.out, g3]; rfl)
      refine (in_yes _ _ _ _ (inB_yes g3).1 (inB_yes g3).2).mono ?_
      rintro e _ ⟨rfl, rfl⟩
      clear g3
      go_wp2_with fail
      go_ret
      exact ⟨ret_bool HK2.out.symm, hb⟩
  have e3 : (r.kind == 3) = false := by simp [k3]
  have HK := Lib.hid (show good r = false by rw [HG.out]; exact kind0 k1 k2 k3)
  clear k1 k2 k3
  go_wp2_with fail
  go_ret
  exact ⟨ret_bool HK.out.symm, hb⟩
theorem pos_out {r : M} (h : r.pos < 0 ∨ 20 < r.pos) : good r = false := good1 (inB_not (by omega))
/-- the program tests the words only where the kind wants some -/
theorem good_ins {r : M} (h1 : 0 ≤ r.pos) (h2 : r.pos ≤ 20) (k : r.kind = 1) (c : r.count = 0) : good r = rangeB r.words 1 5 := by
  unfold good rangeB
  rw [inB_mk h1 h2, k, c, Bool.true_and, kind1, decide_eq_true rfl, Bool.true_and, Bool.and_comm]
  rfl
theorem good_ins0 {r : M} (h1 : 0 ≤ r.pos) (h2 : r.pos ≤ 20) (k : r.kind = 1) (c : r.count ≠ 0) : good r = false := good_kind (inB_mk h1 h2) (by rw [k, kind1, decide_eq_false c]; rfl)
theorem words_nil {l : T} {m : Nat} (h : l.length = 0) : wordsB l m = true := by
  rw [List.eq_nil_of_length_eq_zero h]; unfold wordsB; simp
theorem good_str {r : M} (h1 : 0 ≤ r.pos) (h2 : r.pos ≤ 20) (k : r.kind = 2) (c : inB r.count 1 5 = true) : good r = decide (r.words.length = 0) := by
  unfold good
  rw [inB_mk h1 h2, k, kind2, c, Bool.true_and, Bool.true_and]
  by_cases h : r.words.length = 0
  · rw [words_nil h, decide_eq_true h]; rfl
  · rw [decide_eq_false h]; simp
theorem good_str0 {r : M} (h1 : 0 ≤ r.pos) (h2 : r.pos ≤ 20) (k : r.kind = 2) (c : inB r.count 1 5 = false) : good r = false := good_kind (inB_mk h1 h2) (by rw [k, kind2, c]; rfl)
theorem good_rep {r : M} (h1 : 0 ≤ r.pos) (h2 : r.pos ≤ 20) (k : r.kind = 3) (c : inB r.count 1 5 = true) : good r = rangeB r.words 1 5 := by
  unfold good rangeB
  rw [inB_mk h1 h2, k, kind3, c, Bool.true_and, Bool.true_and, Bool.and_comm]
  rfl
theorem good_rep0 {r : M} (h1 : 0 ≤ r.pos) (h2 : r.pos ≤ 20) (k : r.kind = 3) (c : inB r.count 1 5 = false) : good r = false := good_kind (inB_mk h1 h2) (by rw [k, kind3, c]; rfl)
theorem good_no {r : M} (h1 : 0 ≤ r.pos) (h2 : r.pos ≤ 20) (k1 : r.kind ≠ 1) (k2 : r.kind ≠ 2) (k3 : r.kind ≠ 3) : good r = false := good_kind (inB_mk h1 h2) (kind0 k1 k2 k3)
set_option maxRecDepth 100000 in
set_option maxHeartbeats 1600000 in
theorem isValid (v0 : Value) (r : M) (w : World) (h0 : LAmendment.Is w v0 r) (f0 : LAmendment.Fine r) :
    Calls Try.prog 42 #[v0] w fun e w' => e = .returned (.bool (good r)) ∧ Below w.heap.size w w' := by
  obtain ⟨a3, n3, c3, rfl, HN3, hb3, hm3, HIW0⟩ := open_is h0
  clear h0
  obtain ⟨W, hW⟩ : ∃ W : World, W = w.alloc (Obj.cells #[.int .i64 r.kind, .int .i64 r.pos, .int .i64 r.count, .slice a3 n3 c3] 38) := ⟨_, rfl⟩
  have hb : Below w.heap.size w W := by rw [hW]; exact (Below.refl _ _).alloc (Nat.le_refl _) _
  have B0 := Lib.hid (show Bx W w.heap.size 38 #[.int .i64 r.kind, .int .i64 r.pos, .int .i64 r.count, .slice a3 n3 c3] by rw [hW]; exact Bx.new _ _ _)
  have HC := Lib.hid (isPhrase _ r.words W (Bs.Is.below _ HIW0.out hb) f0)
  have q0 := B0.out.cell 0
  have q1 := B0.out.cell 1
  have q2 := B0.out.cell 2
  have q3 := B0.out.cell 3
  simp only [List.getElem?_toArray, List.getElem?_cons_zero, List.getElem?_cons_succ] at q0 q1 q2 q3
  by_cases p1 : r.pos < 0
  · have HG := Lib.hid (pos_out (.inl p1))
    go_enter Try.func42, Try.ntmps42
    go_wp2_with fail
    rw [← hW]
    clear hW
    go_ret
    exact ⟨ret_bool HG.out.symm, hb⟩
  by_cases p2 : 20 < r.pos
  · have HG := Lib.hid (pos_out (.inr p2))
    go_enter Try.func42, Try.ntmps42
    go_wp2_with fail
    rw [← hW]
    clear hW
    go_ret
    exact ⟨ret_bool HG.out.symm, hb⟩
  have p0 : 0 ≤ r.pos := by omega
  have p20 : r.pos ≤ 20 := by omega
  by_cases k1 : r.kind = 1
  · have e1 : (r.kind == 1) = true := by simp [k1]
    by_cases d0 : r.count = 0
    · have HG := Lib.hid (good_ins p0 p20 k1 d0)
      have e2 : (r.count == 0) = true := by simp [d0]
      have s1 : ¬ 1 ≤ r.count := by omega
      clear k1 d0
      go_enter Try.func42, Try.ntmps42
      go_wp2_with fail
      rw [← hW]
      clear hW
      refine HC.out.mono ?_
      rintro e _ ⟨rfl, rfl⟩
      go_wp2_with fail
      go_ret
      exact ⟨ret_bool HG.out.symm, hb⟩
    · have HG := Lib.hid (good_ins0 p0 p20 k1 d0)
      have e2 : (r.count == 0) = false := by simp [d0]
      clear k1 d0
      by_cases s1 : 1 ≤ r.count
      · go_enter Try.func42, Try.ntmps42
        go_wp2_with fail
        rw [← hW]
        clear hW
        go_ret
        exact ⟨ret_bool HG.out.symm, hb⟩
      · go_enter Try.func42, Try.ntmps42
        go_wp2_with fail
        rw [← hW]
        clear hW
        go_ret
        exact ⟨ret_bool HG.out.symm, hb⟩
  have e1 : (r.kind == 1) = false := by simp [k1]
  by_cases k2 : r.kind = 2
  · have e2 : (r.kind == 2) = true := by simp [k2]
    by_cases s1 : 1 ≤ r.count
    · by_cases s2 : r.count ≤ 5
      · have HG := Lib.hid (good_str p0 p20 k2 (inB_mk s1 s2))
        rw [HN3.out] at HG
        clear k1 k2
        by_cases z : n3 = 0
        · have e3 : ((n3 : Int) == 0) = true := by simp [z]
          have HK3 := Lib.hid (show good r = true by rw [HG.out, decide_eq_true z])
          clear z
          go_enter Try.func42, Try.ntmps42
          go_wp2_with fail
          rw [← hW]
          clear hW
          go_ret
          exact ⟨ret_bool HK3.out.symm, hb⟩
        · have e3 : ((n3 : Int) == 0) = false := by simp [z]
          have HK3 := Lib.hid (show good r = false by rw [HG.out, decide_eq_false z])
          clear z
          go_enter Try.func42, Try.ntmps42
          go_wp2_with fail
          rw [← hW]
          clear hW
          go_ret
          exact ⟨ret_bool HK3.out.symm, hb⟩
      · have HG := Lib.hid (good_str0 p0 p20 k2 (inB_not (by omega)))
        clear k1 k2
        go_enter Try.func42, Try.ntmps42
        go_wp2_with fail
        rw [← hW]
        clear hW
        go_ret
        exact ⟨ret_bool HG.out.symm, hb⟩
    · have HG := Lib.hid (good_str0 p0 p20 k2 (inB_not (by omega)))
      clear k1 k2
      go_enter Try.func42, Try.ntmps42
      go_wp2_with fail
      rw [← hW]
      clear hW
      go_ret
      exact ⟨ret_bool HG.out.symm, hb⟩
  have e2 : (r.kind == 2) = false := by simp [k2]
  by_cases k3 : r.kind = 3
  · have e3 : (r.kind == 3) = true := by simp [k3]
    by_cases s1 : 1 ≤ r.count
    · by_cases s2 : r.count ≤ 5
      · have HG := Lib.hid (good_rep p0 p20 k3 (inB_mk s1 s2))
        clear k1 k2 k3
        go_enter Try.func42, Try.ntmps42
        go_wp2_with fail
        rw [← hW]
        clear hW
        refine HC.out.mono ?_
        rintro e _ ⟨rfl, rfl⟩
        go_wp2_with fail
        go_ret
        exact ⟨ret_bool HG.out.symm, hb⟩
      · have HG := Lib.hid (good_rep0 p0 p20 k3 (inB_not (by omega)))
        clear k1 k2 k3
        go_enter Try.func42, Try.ntmps42
        go_wp2_with fail
        rw [← hW]
        clear hW
        go_ret
        exact ⟨ret_bool HG.out.symm, hb⟩
    · have HG := Lib.hid (good_rep0 p0 p20 k3 (inB_not (by omega)))
      clear k1 k2 k3
      go_enter Try.func42, Try.ntmps42
      go_wp2_with fail
      rw [← hW]
      clear hW
      go_ret
      exact ⟨ret_bool HG.out.symm, hb⟩
  have e3 : (r.kind == 3) = false := by simp [k3]
  have HG := Lib.hid (good_no p0 p20 k1 k2 k3)
  clear k1 k2 k3
  by_cases s1 : 1 ≤ r.count
  · go_enter Try.func42, Try.ntmps42
    go_wp2_with fail
    rw [← hW]
    clear hW
    go_ret
    exact ⟨ret_bool HG.out.symm, hb⟩
  · go_enter Try.func42, Try.ntmps42
    go_wp2_with fail
    rw [← hW]
    clear hW
    go_ret
    exact ⟨ret_bool HG.out.symm, hb⟩
end Go.Proofs.Ytclpdpfnlmfogaa.AmG
