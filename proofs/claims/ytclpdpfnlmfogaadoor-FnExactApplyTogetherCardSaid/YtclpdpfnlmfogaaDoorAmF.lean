/- What fits a text: the tests of the model and of the program. No condition. -/
import Derived.Test.YtclpdpfnlmfogaaDoorAmE
import Derived.Test.YtclpdpfnlmfogaaDoorJ1
import Derived.Deep.DrawnRows
import Derived.Lib.QuietBelow
namespace Go.Proofs.YtclpdpfnlmfogaaDoor.AmF
open Go.RowKit Bs Word Am AmA AmG AmE
set_option linter.unusedVariables false
/-- the slice a.At to a.At+a.Count of a text, as the walk spells it -/
theorem cut_is {w : World} {ao t : Option Addr} {n c : Nat} {l : T} {r : M} (h : IsQ LString.rec w (.slice ao n c) l) (h0 : 0 ≤ r.pos) (hc : 0 ≤ r.count) (h1 : r.pos + r.count ≤ n) (ht : t = if c = r.pos.toNat then ao else ao.map (fun x => x.add r.pos.toNat)) : IsQ LString.rec w (.slice t ((r.pos + r.count).toNat - r.pos.toNat) (c - r.pos.toNat)) (cut l r) := by
  have := isq_sub h r.pos.toNat (r.pos + r.count).toNat (by omega) (by omega) (t := t) (by rw [ht]; show _ = if c = r.pos.toNat then ao else ao.map (fun x => x.add (r.pos.toNat * 1)); rw [Nat.mul_one]) _ _ rfl rfl
  rwa [show (r.pos + r.count).toNat - r.pos.toNat = r.count.toNat by omega] at this ⊢
attribute [local go_sem ↓] Go.wp_at_zero Go.wp_at_succ
set_option maxRecDepth 100000 in
set_option maxHeartbeats 1600000 in
theorem l9Fits (v v0 : Value) (l : T) (r : M) (w : World) (h : IsQ LString.rec w v l) (h0 : LAmendment.Is w v0 r) (hg : good r = true) (hl : l.length ≤ 1048576) :
    Calls Tryd.prog 81 #[v, v0] w fun e w' => e = .returned (.bool (fits l r)) ∧ Below w.heap.size w w' := by
  obtain ⟨a3, n3, c3, rfl, HN3, hb3, hm3, HIW0⟩ := open_is h0
  clear h0
  obtain ⟨ao, n, c, rfl⟩ := isq_slice h
  obtain ⟨hn, hnc, hcm⟩ := isq_len h
  unfold maxLen at hcm
  have HN := Lib.hid hn
  rw [hn] at hl
  clear hn
  obtain ⟨⟨p1, p2⟩, hw5, hk5, c1, c2⟩ := good_parts hg
  have hw := words_len hw5
  rw [HN3.out] at hw
  clear hw5 hg hk5
  obtain ⟨W, hW⟩ : ∃ W : World, W = w.alloc (Obj.cells #[.int .i64 r.kind, .int .i64 r.pos, .int .i64 r.count, .slice a3 n3 c3] 26) := ⟨_, rfl⟩
  have hb : Below w.heap.size w W := by rw [hW]; exact (Below.refl _ _).alloc (Nat.le_refl _) _
  have B0 := Lib.hid (show Bx W w.heap.size 26 #[.int .i64 r.kind, .int .i64 r.pos, .int .i64 r.count, .slice a3 n3 c3] by rw [hW]; exact Bx.new _ _ _)
  have q0 := B0.out.cell 0
  have q1 := B0.out.cell 1
  have q2 := B0.out.cell 2
  have q3 := B0.out.cell 3
  simp only [List.getElem?_toArray, List.getElem?_cons_zero, List.getElem?_cons_succ] at q0 q1 q2 q3
  by_cases g1 : n < r.pos + r.count
  · have HG := Lib.hid (fits1 (t := l) (a := r) (by have := HN.out; omega))
    have g1' : ¬ r.pos + r.count ≤ n := by omega
    go_enter Tryd.func81, Tryd.ntmps81
    go_wp2_with fail
    rw [← hW]
    clear hW
    go_ret
    exact ⟨ret_bool HG.out.symm, hb⟩
  by_cases g2 : 20 < (n : Int) - r.count + n3
  · have HG := Lib.hid (fits2 (t := l) (a := r) (by have := HN.out; have := HN3.out; omega))
    go_enter Tryd.func81, Tryd.ntmps81
    go_wp2_with fail
    rw [← hW]
    clear hW
    go_ret
    exact ⟨ret_bool HG.out.symm, hb⟩
  have HG := Lib.hid (fits3 (t := l) (a := r) (by have := HN.out; omega) (by have := HN.out; have := HN3.out; omega))
  obtain ⟨bb, hbb⟩ : ∃ x, decide (cut l r = r.words) = x := ⟨_, rfl⟩
  rw [hbb] at HG
  obtain ⟨t, ht⟩ : ∃ t, (if c = r.pos.toNat then ao else Option.map (fun x => x.add r.pos.toNat) ao) = t := ⟨_, rfl⟩
  have HC := Lib.hid (fun w2 (hb2 : Below w.heap.size w w2) => (AmE.l9Same _ _ (cut l r) r.words w2 (IsQ.is (cut_is (IsQ.below h hb2) p1 c1 (by omega) ht.symm)) (Bs.Is.below _ HIW0.out hb2)).mono fun e w' he => (show e = .returned (.bool bb) ∧ Below w2.heap.size w2 w' from ⟨by rw [← hbb]; exact he.1, he.2⟩))
  clear hbb
  clear h
  have s0 : IntKind.i64.wrap (r.pos + r.count) = r.pos + r.count := IntWalk.i64_in _ (by omega)
  have s1 : r.pos ≤ r.pos + r.count := by omega
  have s2 : r.pos + r.count ≤ (c : Int) := by omega
  go_enter Tryd.func81, Tryd.ntmps81
  go_wp2_with fail
  rw [← hW]
  clear hW
  clear q0 q1 q2 q3
  have q0 := fun d os => (B0.out.kept (below_regrown W d os)).cell 0
  have q1 := fun d os => (B0.out.kept (below_regrown W d os)).cell 1
  have q2 := fun d os => (B0.out.kept (below_regrown W d os)).cell 2
  have q3 := fun d os => (B0.out.kept (below_regrown W d os)).cell 3
  simp only [List.getElem?_toArray, List.getElem?_cons_zero, List.getElem?_cons_succ] at q0 q1 q2 q3
  refine wp_region_quiet_below (by kernel_rfl) (by kernel_rfl) ?_
  repeat (go_big_quiet_step ((go_at_call 105; exact Calls.regrown_of (HC.out _ (hb.trans ((below_regrown W _ _).mono hb.size))))))
  refine wpQuiet_nil ?_
  intro _ hw'
  obtain ⟨⟨dq, osq⟩, hw''⟩ := hw'
  subst hw''
  have hb2 : Below w.heap.size w (Sort.grow (redrawn W dq) osq) := hb.trans ((below_regrown W dq osq).mono hb.size)
  go_wp2_with fail
  go_ret
  exact ⟨ret_bool HG.out.symm, hb2⟩
set_option maxRecDepth 100000 in
set_option maxHeartbeats 1600000 in
theorem fitsText (v v0 : Value) (l : T) (r : M) (w : World) (h : IsQ LString.rec w v l) (h0 : LAmendment.Is w v0 r) (ft : ∀ x ∈ l, LString.Fine x) (f0 : LAmendment.Fine r) (hl : l.length ≤ 1048576) :
    Calls Tryd.prog 74 #[v, v0] w fun e w' => e = .returned (.tuple #[.bool (textB l && (good r && fits l r)), .bool (textB l && good r)]) ∧ Below w.heap.size w w' := by
  obtain ⟨ao, n, c, rfl⟩ := isq_slice h
  obtain ⟨hn, hnc, hcm⟩ := isq_len h
  unfold maxLen at hcm
  have HN := Lib.hid hn
  rw [hn] at hl
  clear hn
  have HTQ := Lib.hid h
  have HFT := Lib.hid ft
  have HFA := Lib.hid f0
  have HIA := Lib.hid h0
  clear h ft f0
  obtain ⟨a3, n3, c3, rfl, HN3, hb3, hm3, HIW0⟩ := open_is h0
  clear h0
  obtain ⟨W, hW⟩ : ∃ W : World, W = w.alloc (Obj.cells #[.int .i64 r.kind, .int .i64 r.pos, .int .i64 r.count, .slice a3 n3 c3] 26) := ⟨_, rfl⟩
  have hb : Below w.heap.size w W := by rw [hW]; exact (Below.refl _ _).alloc (Nat.le_refl _) _
  have B0 := Lib.hid (show Bx W w.heap.size 26 #[.int .i64 r.kind, .int .i64 r.pos, .int .i64 r.count, .slice a3 n3 c3] by rw [hW]; exact Bx.new _ _ _)
  have q0 := B0.out.cell 0
  have q1 := B0.out.cell 1
  have q2 := B0.out.cell 2
  have q3 := B0.out.cell 3
  simp only [List.getElem?_toArray, List.getElem?_cons_zero, List.getElem?_cons_succ] at q0 q1 q2 q3
  have HC1 := Lib.hid (AmA.isText _ l W (IsQ.is (IsQ.below HTQ.out hb)) HFT.out)
  have HC2 := Lib.hid (AmG.isValid _ r W (LAmendment.Is.below HIA.out hb) HFA.out)
  cases g1 : textB l with
  | false =>
    rw [g1] at HC1
    go_enter Tryd.func74, Tryd.ntmps74
    go_wp2_with fail
    rw [← hW]
    clear hW
    refine HC1.out.mono ?_
    rintro e _ ⟨rfl, rfl⟩
    go_wp2_with fail
    go_ret2
    exact ⟨rfl, hb⟩
  | true =>
  rw [g1] at HC1
  cases g2 : good r with
  | false =>
    rw [g2] at HC2
    clear g1 g2
    go_enter Tryd.func74, Tryd.ntmps74
    go_wp2_with fail
    rw [← hW]
    clear hW
    refine HC1.out.mono ?_
    rintro e _ ⟨rfl, rfl⟩
    go_wp2_with fail
    refine HC2.out.mono ?_
    rintro e w1 ⟨rfl, hb1⟩
    go_wp2_with fail
    go_ret2
    exact ⟨rfl, hb.trans (hb1.mono hb.size)⟩
  | true =>
  rw [g2] at HC2
  have HGD := Lib.hid g2
  clear g1 g2
  go_enter Tryd.func74, Tryd.ntmps74
  go_wp2_with fail
  rw [← hW]
  clear hW
  refine HC1.out.mono ?_
  rintro e _ ⟨rfl, rfl⟩
  go_wp2_with fail
  refine HC2.out.mono ?_
  rintro e w1 ⟨rfl, hb1⟩
  have B1 := B0.out.kept hb1
  clear q0 q1 q2 q3
  have q0 := B1.cell 0
  have q1 := B1.cell 1
  have q2 := B1.cell 2
  have q3 := B1.cell 3
  simp only [List.getElem?_toArray, List.getElem?_cons_zero, List.getElem?_cons_succ] at q0 q1 q2 q3
  have hb2 := hb.trans (hb1.mono hb.size)
  clear hb1
  obtain ⟨⟨p1, p2⟩, hw5, hk5, c1, c2⟩ := good_parts HGD.out
  have hw := words_len hw5
  rw [HN3.out] at hw
  clear hw5 hk5
  by_cases g1 : n < r.pos + r.count
  · have HG := Lib.hid (fits1 (t := l) (a := r) (by have := HN.out; omega))
    have g1' : ¬ r.pos + r.count ≤ n := by omega
    go_wp2_with fail
    go_ret2
    exact ⟨by rw [HG.out]; rfl, hb2⟩
  by_cases g2 : 20 < (n : Int) - r.count + n3
  · have HG := Lib.hid (fits2 (t := l) (a := r) (by have := HN.out; have := HN3.out; omega))
    go_wp2_with fail
    go_ret2
    exact ⟨by rw [HG.out]; rfl, hb2⟩
  have HG := Lib.hid (fits3 (t := l) (a := r) (by have := HN.out; omega) (by have := HN.out; have := HN3.out; omega))
  obtain ⟨bb, hbb⟩ : ∃ x, decide (cut l r = r.words) = x := ⟨_, rfl⟩
  rw [hbb] at HG
  obtain ⟨t, ht⟩ : ∃ t, (if c = r.pos.toNat then ao else Option.map (fun x => x.add r.pos.toNat) ao) = t := ⟨_, rfl⟩
  have HC := Lib.hid (fun w2 (hb2 : Below w.heap.size w w2) => (AmE.equal _ _ (cut l r) r.words w2 (IsQ.is (cut_is (IsQ.below HTQ.out hb2) p1 c1 (by omega) ht.symm)) (Bs.Is.below _ HIW0.out hb2)).mono fun e w' he => (show e = .returned (.bool bb) ∧ Below w2.heap.size w2 w' from ⟨by rw [← hbb]; exact he.1, he.2⟩))
  clear hbb
  have s0 : IntKind.i64.wrap (r.pos + r.count) = r.pos + r.count := IntWalk.i64_in _ (by omega)
  have s1 : r.pos ≤ r.pos + r.count := by omega
  have s2 : r.pos + r.count ≤ (c : Int) := by omega
  go_wp2_with fail
  clear q0 q1 q2 q3
  have q0 := fun d os => (B1.kept (below_regrown w1 d os)).cell 0
  have q1 := fun d os => (B1.kept (below_regrown w1 d os)).cell 1
  have q2 := fun d os => (B1.kept (below_regrown w1 d os)).cell 2
  have q3 := fun d os => (B1.kept (below_regrown w1 d os)).cell 3
  simp only [List.getElem?_toArray, List.getElem?_cons_zero, List.getElem?_cons_succ] at q0 q1 q2 q3
  refine wp_region_quiet_below (by kernel_rfl) (by kernel_rfl) ?_
  repeat (go_big_quiet_step ((go_at_call 103; exact Calls.regrown_of (HC.out _ (hb2.trans ((below_regrown w1 _ _).mono hb2.size))))))
  refine wpQuiet_nil ?_
  intro _ hw'
  obtain ⟨⟨dq, osq⟩, hw''⟩ := hw'
  subst hw''
  have hb3' : Below w.heap.size w (Sort.grow (redrawn w1 dq) osq) := hb2.trans ((below_regrown w1 dq osq).mono hb2.size)
  go_wp2_with fail
  go_ret2
  exact ⟨by rw [HG.out]; rfl, hb3'⟩
end Go.Proofs.YtclpdpfnlmfogaaDoor.AmF
