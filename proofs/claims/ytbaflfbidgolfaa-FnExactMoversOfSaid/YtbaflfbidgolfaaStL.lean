/- Pending questions: one question and one rule: members, what lacks a second, ranks, what may follow. No condition. -/
import Derived.Test.YtbaflfbidgolfaaStF
import Derived.Test.YtbaflfbidgolfaaLQuestionZ
namespace Go.Proofs.Ytbaflfbidgolfaa.StL
open Go.RowKit Bs Word Sq St StF
set_option linter.unusedVariables false
theorem l7Member (x : Int) (v : Bool) (h : inB x 1 99 = v) (w : World) : Calls Try.prog 87 #[.int .i64 x] w fun e w' => e = .returned (.bool v) ∧ w = w' := by
  have HI := Lib.hid (fun W => in_as x 1 99 v h W)
  go_enter Try.func87, Try.ntmps87
  go_wp2_with fail
  refine (HI.out _).mono ?_
  rintro e w' ⟨rfl, rfl⟩
  go_wp2_with fail
  go_ret
  exact ⟨rfl, rfl⟩
theorem member (x : Int) (v : Bool) (h : inB x 1 99 = v) (w : World) : Calls Try.prog 82 #[.int .i64 x] w fun e w' => e = .returned (.bool v) ∧ w = w' := by
  cases v with
  | true =>
    obtain ⟨h1, h2⟩ := inB_yes h
    clear h
    go_enter Try.func82, Try.ntmps82
    go_wp2_with fail
    go_ret
    exact ⟨rfl, rfl⟩
  | false =>
    have hn := inB_no h
    clear h
    by_cases h1 : 1 ≤ x
    · have h2 : ¬ x ≤ 99 := by omega
      clear hn
      go_enter Try.func82, Try.ntmps82
      go_wp2_with fail
      go_ret
      exact ⟨rfl, rfl⟩
    · clear hn
      go_enter Try.func82, Try.ntmps82
      go_wp2_with fail
      go_ret
      exact ⟨rfl, rfl⟩
set_option maxHeartbeats 800000 in
theorem l7Lacks (v0 : Value) (z : List R) (q : Q) (k : Nat) (w : World) (h : Is LRule.rec w v0 z) (hk : idx z q.rule = some k) :
    Calls Try.prog 89 #[v0, .agg #[.int .i64 q.rule, .int .i64 q.mover, .bool q.sec]] w fun e w' => e = .returned (.bool (lacks z q)) ∧ Below w.heap.size w w' := by
  have hb0 := (Below.refl w.heap.size w).alloc (Nat.le_refl _) (Obj.cells #[.int .i64 q.rule, .int .i64 q.mover, .bool q.sec] 47)
  have HF := Lib.hid (find_at (h.below LRule.rec hb0) hk)
  obtain ⟨r, hr, hid, he, hkl⟩ := idx_get hk
  have HL := Lib.hid (show lacks z q = (r.sec && !q.sec) by unfold lacks; rw [he])
  clear he hk hid
  obtain ⟨a, cp, rfl, h⟩ := h
  have hc := h.at_ LRule.rec
  obtain ⟨n, hn⟩ : ∃ n, n = z.length := ⟨_, rfl⟩
  have hnb : n ≤ cp := by have := h.1; omega
  have hn2 := h.2.1
  unfold maxLen at hn2
  have HN := Lib.hid hn.symm
  rw [← hn] at  HF ⊢
  have hnle : n ≤ z.length := by omega
  clear hn h
  have k0 : 0 ≤ (k : Int) := by omega
  have k1 : (k : Int) < (n : Int) := by have := HN.out; omega
  obtain ⟨b, o, rfl, hbl, hcell⟩ := hc.out k r hr
  obtain ⟨q0, q1, q2, q3, q4, q5, q6⟩ := LRule.cells (hcell.below LRule.rec hb0 hbl)
  simp only [LRule.rec_n] at q0 q1 q2 q3 q4 q5 q6
  clear hcell hr
  cases hs : r.sec with
  | false =>
    rw [hs] at q3
    go_enter Try.func89, Try.ntmps89
    go_wp2_with fail
    refine HF.out.mono ?_
    rintro e _ ⟨rfl, rfl⟩
    go_wp2_with fail
    go_ret
    exact ⟨ret_bool (by rw [HL.out, hs]; rfl), hb0⟩
  | true =>
    rw [hs] at q3
    go_enter Try.func89, Try.ntmps89
    go_wp2_with fail
    refine HF.out.mono ?_
    rintro e _ ⟨rfl, rfl⟩
    go_wp2_with fail
    go_ret
    exact ⟨ret_bool (by rw [HL.out, hs]; rfl), hb0⟩
set_option maxHeartbeats 800000 in
theorem l7Rank (v0 : Value) (z : List R) (q : Q) (k : Nat) (w : World) (h : Is LRule.rec w v0 z) (hk : idx z q.rule = some k) :
    Calls Try.prog 111 #[v0, .agg #[.int .i64 q.rule, .int .i64 q.mover, .bool q.sec]] w fun e w' => e = .returned (.int .i64 (rk z q)) ∧ Below w.heap.size w w' := by
  have hb0 := (Below.refl w.heap.size w).alloc (Nat.le_refl _) (Obj.cells #[.int .i64 q.rule, .int .i64 q.mover, .bool q.sec] 47)
  have HF := Lib.hid (find_at (h.below LRule.rec hb0) hk)
  obtain ⟨r, hr, hid, he, hkl⟩ := idx_get hk
  have HL := Lib.hid (show rk z q = r.rank by unfold rk; rw [he])
  clear he hk hid
  obtain ⟨a, cp, rfl, h⟩ := h
  have hc := h.at_ LRule.rec
  obtain ⟨n, hn⟩ : ∃ n, n = z.length := ⟨_, rfl⟩
  have hnb : n ≤ cp := by have := h.1; omega
  have hn2 := h.2.1
  unfold maxLen at hn2
  have HN := Lib.hid hn.symm
  rw [← hn] at  HF ⊢
  have hnle : n ≤ z.length := by omega
  clear hn h
  have k0 : 0 ≤ (k : Int) := by omega
  have k1 : (k : Int) < (n : Int) := by have := HN.out; omega
  obtain ⟨b, o, rfl, hbl, hcell⟩ := hc.out k r hr
  obtain ⟨q0, q1, q2, q3, q4, q5, q6⟩ := LRule.cells (hcell.below LRule.rec hb0 hbl)
  simp only [LRule.rec_n] at q0 q1 q2 q3 q4 q5 q6
  clear hcell hr
  go_enter Try.func111, Try.ntmps111
  go_wp2_with fail
  refine HF.out.mono ?_
  rintro e _ ⟨rfl, rfl⟩
  go_wp2_with fail
  go_ret
  exact ⟨ret_int HL.out.symm, hb0⟩
/-- what the top of a list tells, nothing for an empty one -/
def lackT (z : List R) (l : List Q) : Bool := match top l with | none => false | some p => lacks z p
theorem lackT_nil {z : List R} {l : List Q} (h : l.length = 0) : lackT z l = false := by rw [List.eq_nil_of_length_eq_zero h]; rfl
theorem lackT_top {z : List R} {l : List Q} {p : Q} (h : top l = some p) : lackT z l = lacks z p := by unfold lackT; rw [h]
/-- the rules of a list's top are there -/
def TopIn (z : List R) (l : List Q) : Prop := ∀ p, top l = some p → (idx z p.rule).isSome = true
theorem topIn_good {z : List R} {l : List Q} (h : goodQ z l = true) : TopIn z l := fun p hp => by
  obtain ⟨k, _, hk, _⟩ := ok_parts (good_at h hp)
  rw [hk]; rfl
set_option maxRecDepth 100000 in
set_option maxHeartbeats 1600000 in
theorem lacksSecond (v0 v1 : Value) (z : List R) (l : List Q) (w : World) (h : Is LRule.rec w v0 z) (h1 : Is LQuestion.rec w v1 l) (ht : TopIn z l) :
    Calls Try.prog 90 #[v0, v1] w fun e w' => e = .returned (.bool (lackT z l)) ∧ Below w.heap.size w w' := by
  have HR := Lib.hid h
  obtain ⟨ar, cr, rfl, h⟩ := h
  have hcr := h.at_ LRule.rec
  obtain ⟨nr, hn⟩ : ∃ n, n = z.length := ⟨_, rfl⟩
  have hnrb : nr ≤ cr := by have := h.1; omega
  have hnr2 := h.2.1
  unfold maxLen at hnr2
  have HNr := Lib.hid hn.symm
  rw [← hn] at  HR ⊢
  have hnrle : nr ≤ z.length := by omega
  clear hn h
  obtain ⟨a, cp, rfl, h1⟩ := h1
  have hc := h1.at_ LQuestion.rec
  obtain ⟨n, hn⟩ : ∃ n, n = l.length := ⟨_, rfl⟩
  have hnb : n ≤ cp := by have := h1.1; omega
  have hn2 := h1.2.1
  unfold maxLen at hn2
  have HN := Lib.hid hn.symm
  rw [← hn]
  have hnle : n ≤ l.length := by omega
  clear hn h1
  by_cases hz : n = 0
  · subst hz
    have HT := Lib.hid (lackT_nil (z := z) HN.out)
    go_enter Try.func90, Try.ntmps90
    go_wp2_with fail
    go_ret
    exact ⟨ret_bool HT.out.symm, Below.refl _ _⟩
  · have hx : n - 1 < l.length := by omega
    have hp : top l = some l[n - 1] := by unfold top; rw [HN.out]; exact List.getElem?_eq_getElem hx
    obtain ⟨b1, o1, rfl, hbl1, hcell1⟩ := hc.out (n - 1) l[n - 1] (List.getElem?_eq_getElem hx)
    obtain ⟨k, hk⟩ := Option.isSome_iff_exists.1 (ht _ hp)
    have HT := Lib.hid (lackT_top (z := z) hp)
    obtain ⟨r, hr, hid, he, hkl⟩ := idx_get hk
    obtain ⟨q0, q1, q2⟩ := LQuestion.cells (hcell1)
    simp only [LQuestion.rec_n] at q0 q1 q2
    generalize l[n - 1] = q at *
    have hb0 := (Below.refl w.heap.size w).alloc (Nat.le_refl _) (Obj.cells #[.int .i64 q.rule, .int .i64 q.mover, .bool q.sec] 47)
    have HF := Lib.hid (index_at (HR.out.below LRule.rec hb0) hk)
    have HL := Lib.hid (show lacks z q = (r.sec && !q.sec) by unfold lacks; rw [he])
    have HBX := Lib.hid (LQuestion.box w q 47)
    have hG : w.heap.size < (w.alloc (Obj.cells #[.int .i64 q.rule, .int .i64 q.mover, .bool q.sec] 47)).heap.size := by simp
    obtain ⟨b, o, rfl, hbl, hcell⟩ := hcr.out k r hr
    have HC := Lib.hid hcell
    have k0 : 0 ≤ (k : Int) := by omega
    have k1 : (k : Int) < (nr : Int) := by have := HNr.out; omega
    have n1 : IntKind.i64.wrap ((n : Int) - 1) = (n : Int) - 1 := IntWalk.i64_in _ (by omega)
    have n2 : ((n : Int) - 1).toNat = n - 1 := by omega
    have n3 : 0 ≤ (n : Int) - 1 := by omega
    have n4 : (n : Int) - 1 < (n : Int) := by omega
    have n5 : decide (n = 0) = false := by simpa using hz
    have n6 : ((n : Int) == 0) = false := by simpa using hz
    clear he hk hid hp ht hcell hcell1 hr hz
    go_enter Try.func90, Try.ntmps90
    go_wp2_with fail
    refine HF.out.mono ?_
    rintro e w1 ⟨rfl, hb1⟩
    have hb2 := hb0.trans (hb1.mono hb0.size)
    obtain ⟨p0, p1, p2, p3, p4, p5, p6⟩ := LRule.cells (HC.out.below LRule.rec hb2 hbl)
    simp only [LRule.rec_n] at p0 p1 p2 p3 p4 p5 p6
    obtain ⟨x0, x1, x2⟩ := LQuestion.cells0 (HBX.out.below LQuestion.rec hb1 hG)
    clear q0 q1 q2
    cases hs : r.sec with
    | false =>
      rw [hs] at p3
      go_wp2_with fail
      go_ret
      exact ⟨ret_bool (by rw [HT.out, HL.out, hs]; rfl), hb2⟩
    | true =>
      rw [hs] at p3
      go_wp2_with fail
      go_ret
      exact ⟨ret_bool (by rw [HT.out, HL.out, hs]; rfl), hb2⟩
set_option maxRecDepth 100000 in
set_option maxHeartbeats 1600000 in
theorem mayFollow (v0 v1 : Value) (z : List R) (l : List Q) (r : R) (w : World) (h : Is LRule.rec w v0 z) (h1 : Is LQuestion.rec w v1 l) (ht : TopIn z l) :
    Calls Try.prog 83 #[v0, v1, .agg #[.int .i64 r.id, .string r.name, .int .i64 r.rank, .bool r.sec, .bool r.deb, .bool r.am, .int .i64 r.need]] w fun e w' => e = .returned (.bool (mayB z l r)) ∧ Below w.heap.size w w' := by
  have hb0 := (Below.refl w.heap.size w).alloc (Nat.le_refl _) (Obj.cells #[.int .i64 r.id, .string r.name, .int .i64 r.rank, .bool r.sec, .bool r.deb, .bool r.am, .int .i64 r.need] 63)
  have HR := Lib.hid (h.below LRule.rec hb0)
  have HQ := Lib.hid (h1.below LQuestion.rec hb0)
  have HTI := Lib.hid ht
  have HBX := Lib.hid (LRule.box w r 63)
  have hG : w.heap.size < (w.alloc (Obj.cells #[.int .i64 r.id, .string r.name, .int .i64 r.rank, .bool r.sec, .bool r.deb, .bool r.am, .int .i64 r.need] 63)).heap.size := by simp
  obtain ⟨ar, cr, rfl, h⟩ := h
  have hcr := h.at_ LRule.rec
  obtain ⟨nr, hn⟩ : ∃ n, n = z.length := ⟨_, rfl⟩
  have hnrb : nr ≤ cr := by have := h.1; omega
  have hnr2 := h.2.1
  unfold maxLen at hnr2
  have HNr := Lib.hid hn.symm
  rw [← hn] at  HR ⊢
  have hnrle : nr ≤ z.length := by omega
  clear hn h
  obtain ⟨a, cp, rfl, h1⟩ := h1
  have hc := h1.at_ LQuestion.rec
  obtain ⟨n, hn⟩ : ∃ n, n = l.length := ⟨_, rfl⟩
  have hnb : n ≤ cp := by have := h1.1; omega
  have hn2 := h1.2.1
  unfold maxLen at hn2
  have HN := Lib.hid hn.symm
  rw [← hn] at  HQ ⊢
  have hnle : n ≤ l.length := by omega
  clear hn h1
  by_cases hz : n = 0
  · subst hz
    have HT := Lib.hid (may_nil (z := z) (r := r) HN.out)
    go_enter Try.func83, Try.ntmps83
    go_wp2_with fail
    go_ret
    exact ⟨ret_bool HT.out.symm, hb0⟩
  · have hx : n - 1 < l.length := by omega
    have hp : top l = some l[n - 1] := by unfold top; rw [HN.out]; exact List.getElem?_eq_getElem hx
    obtain ⟨b1, o1, rfl, hbl1, hcell1⟩ := hc.out (n - 1) l[n - 1] (List.getElem?_eq_getElem hx)
    obtain ⟨k, hk⟩ := Option.isSome_iff_exists.1 (ht _ hp)
    have HT := Lib.hid (show mayB z l r = (decide (n < 6) && folR z l[n - 1] r) by rw [may_top hp, HN.out])
    have HLT := Lib.hid (lackT_top (z := z) hp)
    obtain ⟨R1, hr, hid, he, hkl⟩ := idx_get hk
    obtain ⟨q0, q1, q2⟩ := LQuestion.cells (hcell1.below LQuestion.rec hb0 hbl1)
    simp only [LQuestion.rec_n] at q0 q1 q2
    generalize l[n - 1] = q at *
    have HF := Lib.hid (index_at HR.out hk)
    have HFR := Lib.hid (show folR z q r = (!lacks z q && decide (R1.rank < r.rank)) by unfold folR rk; rw [he])
    obtain ⟨b, o, rfl, hbl, hcell⟩ := hcr.out k R1 hr
    have HC := Lib.hid hcell
    have k0 : 0 ≤ (k : Int) := by omega
    have k1 : (k : Int) < (nr : Int) := by have := HNr.out; omega
    have n1 : IntKind.i64.wrap ((n : Int) - 1) = (n : Int) - 1 := IntWalk.i64_in _ (by omega)
    have n2 : ((n : Int) - 1).toNat = n - 1 := by omega
    have n3 : 0 ≤ (n : Int) - 1 := by omega
    have n4 : (n : Int) - 1 < (n : Int) := by omega
    have n5 : decide (n = 0) = false := by simpa using hz
    have n6 : ((n : Int) == 0) = false := by simpa using hz
    clear he hk hid hp ht hcell hcell1 hr hz
    go_enter Try.func83, Try.ntmps83
    go_wp2_with fail
    refine HF.out.mono ?_
    rintro e w1 ⟨rfl, hb1⟩
    have hb2 := hb0.trans (hb1.mono hb0.size)
    obtain ⟨p0, p1, p2, p3, p4, p5, p6⟩ := LRule.cells (HC.out.below LRule.rec hb2 hbl)
    simp only [LRule.rec_n] at p0 p1 p2 p3 p4 p5 p6
    obtain ⟨x0, x1, x2, x3, x4, x5, x6⟩ := LRule.cells0 (HBX.out.below LRule.rec hb1 hG)
    clear q0 q1 q2
    go_upto_region 4 with fail
    have HBX2 := Lib.hid (LRule.box w1 R1 63)
    have hb3 := hb2.alloc hb2.size (Obj.cells #[.int .i64 R1.id, .string R1.name, .int .i64 R1.rank, .bool R1.sec, .bool R1.deb, .bool R1.am, .int .i64 R1.need] 63)
    have hb13 := hb1.trans (((Below.refl w1.heap.size w1).alloc (Nat.le_refl _) (Obj.cells #[.int .i64 R1.id, .string R1.name, .int .i64 R1.rank, .bool R1.sec, .bool R1.deb, .bool R1.am, .int .i64 R1.need] 63)).mono hb1.size)
    have hG2 : w1.heap.size < (w1.alloc (Obj.cells #[.int .i64 R1.id, .string R1.name, .int .i64 R1.rank, .bool R1.sec, .bool R1.deb, .bool R1.am, .int .i64 R1.need] 63)).heap.size := by simp
    obtain ⟨y0, y1, y2, y3, y4, y5, y6⟩ := LRule.cells0 HBX2.out
    obtain ⟨f0, f1, f2, f3, f4, f5, f6⟩ := LRule.cells0 (HBX.out.below LRule.rec hb13 hG)
    have HLS := Lib.hid (lacksSecond _ _ z l _ (HR.out.below LRule.rec hb13) (HQ.out.below LQuestion.rec hb13) HTI.out)
    rw [HLT.out] at HLS
    clear p0 p1 p2 p3 p4 p5 p6 x0 x1 x2 x3 x4 x5 x6
    by_cases h6 : n < 6
    · have HT6 := Lib.hid (show decide (n < 6) = true from decide_eq_true h6)
      have h6i : (n : Int) < 6 := by omega
      have h6d : decide ((n : Int) < 6) = true := decide_eq_true h6i
      by_cases hrk : R1.rank < r.rank
      · have hrd : decide (R1.rank < r.rank) = true := decide_eq_true hrk
        go_wp2_with fail
        refine HLS.out.mono ?_
        rintro e w3 ⟨rfl, hb4⟩
        go_wp2_with fail
        go_ret
        exact ⟨ret_bool (by rw [HT.out, HT6.out, HFR.out, hrd]; simp), hb3.trans (hb4.mono hb3.size)⟩
      · have hrd : decide (R1.rank < r.rank) = false := decide_eq_false hrk
        go_wp2_with fail
        go_ret
        exact ⟨ret_bool (by rw [HT.out, HFR.out, hrd]; simp), hb3⟩
    · have HT6 := Lib.hid (show decide (n < 6) = false from decide_eq_false h6)
      have h6d : decide ((n : Int) < 6) = false := decide_eq_false (by omega)
      go_wp2_with fail
      go_ret
      exact ⟨ret_bool (by rw [HT.out, HT6.out]; simp), hb3⟩
end Go.Proofs.Ytbaflfbidgolfaa.StL
