/- A rule found by its name: the model's and the program's function. No condition but that names are no longer than strings can be. -/
import Derived.Test.YtbaflfbidgolfaaGoodI
import Derived.Test.YtbaflfbidgolfaaHelpS
import Derived.Laws.StructEq
namespace Go.Proofs.Ytbaflfbidgolfaa.ByName
open Go.RowKit Rule
set_option linter.unusedVariables false
set_option maxRecDepth 100000

/-- the answer: the rule with the name, and whether there is one -/
inductive Ans (xs : List R) (nm : ByteArray) : R → Bool → Prop
  | bad (h : Gd.goodB xs = false) : Ans xs nm HelpS.R0 false
  | none (h : Gd.goodB xs = true) (hn : ∀ (i : Nat) r, xs[i]? = some r → r.name ≠ nm) : Ans xs nm HelpS.R0 false
  | hit (h : Gd.goodB xs = true) (i : Nat) (r : R) (hi : xs[i]? = some r) (hn : r.name = nm) : Ans xs nm r true
theorem Ans.same {xs : List R} {nm : ByteArray} {r r' : R} {b b' : Bool} (h : Ans xs nm r b) (h' : Ans xs nm r' b') : r = r' ∧ b = b' := by
  cases h with
  | bad h =>
    cases h' with
    | bad _ => exact ⟨rfl, rfl⟩
    | none g _ => rw [h] at g; cases g
    | hit g i r hi hn => rw [h] at g; cases g
  | none h hn =>
    cases h' with
    | bad g => rw [h] at g; cases g
    | none _ _ => exact ⟨rfl, rfl⟩
    | hit g i r hi hm => exact absurd hm (hn i _ hi)
  | hit h i r hi hn =>
    cases h' with
    | bad g => rw [h] at g; cases g
    | none g hm => exact absurd hn (hm i _ hi)
    | hit g j s hj hm =>
      refine ⟨?_, rfl⟩
      rcases Nat.lt_trichotomy i j with hij | hij | hij
      · have := Gd.no_name2 hj hi hij (hn.trans hm.symm)
        rw [g] at this; cases this
      · subst hij
        rw [hi] at hj
        exact Option.some.inj hj
      · have := Gd.no_name2 hi hj hij (hm.trans hn.symm)
        rw [g] at this; cases this
def Post (xs : List R) (nm : ByteArray) (w : World) (e : Ending) (w' : World) : Prop := ∃ r b, e = .returned (.tuple #[.agg #[.int .i64 r.id, .string r.name, .int .i64 r.rank, .bool r.sec, .bool r.deb, .bool r.am, .int .i64 r.need], .bool b]) ∧ Ans xs nm r b ∧ Below w.heap.size w w'
theorem post_zero {xs : List R} {nm : ByteArray} {w w' : World} (h : Ans xs nm HelpS.R0 false) (hb : Below w.heap.size w w') : Post xs nm w (.returned (.tuple #[.agg #[.int .i64 0, .string ⟨#[]⟩, .int .i64 0, .bool false, .bool false, .bool false, .int .i64 0], .bool false])) w' := ⟨HelpS.R0, false, rfl, h, hb⟩

def Got (xs : List R) (nm : ByteArray) (k : Nat) (F : R) : Prop := (F = HelpS.R0 ∧ ∀ q p, q < k → xs[q]? = some p → p.name ≠ nm) ∨ ∃ q, q < k ∧ xs[q]? = some F ∧ F.name = nm
theorem Got.zero (xs : List R) (nm : ByteArray) : Got xs nm 0 HelpS.R0 := .inl ⟨rfl, fun q p hq => by omega⟩
theorem Got.hit {xs : List R} {nm : ByteArray} {k : Nat} {X : R} (hx : xs[k]? = some X) (h : X.name = nm) : Got xs nm (k + 1) X := .inr ⟨k, by omega, hx, h⟩
theorem Got.pass {xs : List R} {nm : ByteArray} {k : Nat} {X F : R} (hx : xs[k]? = some X) (h : X.name ≠ nm) (g : Got xs nm k F) : Got xs nm (k + 1) F := by
  rcases g with ⟨h1, h2⟩ | ⟨q, h1, h2, h3⟩
  · refine .inl ⟨h1, fun q p hq hp => ?_⟩
    rcases Nat.lt_or_ge q k with h' | h'
    · exact h2 q p h' hp
    · obtain rfl : q = k := by omega
      rw [hx] at hp
      rw [← Option.some.inj hp]
      exact h
  · exact .inr ⟨q, by omega, h2, h3⟩
theorem Got.ans {xs : List R} {nm : ByteArray} {n : Nat} {F : R} (hn : xs.length = n) (hg : Gd.goodB xs = true) (g : Got xs nm n F) : (F = HelpS.R0 ∧ Ans xs nm F false) ∨ (1 ≤ F.id ∧ Ans xs nm F true) := by
  rcases g with ⟨h1, h2⟩ | ⟨q, h1, h2, h3⟩
  · exact .inl ⟨h1, by rw [h1]; exact .none hg (fun i r hi => h2 i r (by have := (List.getElem?_eq_some_iff.1 hi).1; omega) hi)⟩
  · refine .inr ⟨?_, .hit hg q F h2 h3⟩
    obtain ⟨r, hr, ho, _⟩ := (Gd.good_of hg).2 q (by omega)
    rw [h2] at hr
    rw [← Option.some.inj hr] at ho
    exact (of_decide_eq_true ho).1.1
theorem neq_zero (w : World) : (binOp .neq 63 (.agg #[.int .i64 0, .string ⟨#[]⟩, .int .i64 0, .bool false, .bool false, .bool false, .int .i64 0]) (.agg #[.int .i64 0, .string ⟨#[]⟩, .int .i64 0, .bool false, .bool false, .bool false, .int .i64 0])).run Try.prog w = .ok (.bool false) w := by kernel_rfl
theorem neq_full (F : R) (h : 1 ≤ F.id) (w : World) : (binOp .neq 63 (.agg #[.int .i64 F.id, .string F.name, .int .i64 F.rank, .bool F.sec, .bool F.deb, .bool F.am, .int .i64 F.need]) (.agg #[.int .i64 0, .string ⟨#[]⟩, .int .i64 0, .bool false, .bool false, .bool false, .int .i64 0])).run Try.prog w = .ok (.bool true) w := by
  have h0 : (F.id == 0) = false := by simp; omega
  rw [run_neq_struct, run_equalIn_agg]
  · simp [go_sem, h0]
  · kernel_rfl
  · kernel_rfl
theorem newZero (w : World) : HelpS.Box (w.alloc (Obj.cells #[.int .i64 0, .string ⟨#[]⟩, .int .i64 0, .bool false, .bool false, .bool false, .int .i64 0] 63)) w.heap.size HelpS.R0 := HelpS.Box.new w HelpS.R0 _

set_option maxHeartbeats 800000 in
theorem spec (a : Option Addr) (n cp : Nat) (xs : List R) (nm : ByteArray) (w : World) (hn : xs.length = n) (h : RulesAt w a cp xs) (hsz : ∀ x ∈ xs, x.name.size ≤ maxLen) :
    Calls Try.prog 75 #[.slice a n cp, .string nm] w (Post xs nm w) := by
  have hc := h.at_
  have HN := Lib.hid hn
  have HZ := Lib.hid hsz
  have HA := Lib.hid h
  have hnb : n ≤ cp := by have := h.1; omega
  have hle : n ≤ xs.length := by omega
  have h2 := h.2.1
  unfold maxLen at h2
  clear h hsz hn
  have hba := (Below.refl w.heap.size w).alloc (Nat.le_refl _) (Obj.cells #[.int .i64 0, .string ⟨#[]⟩, .int .i64 0, .bool false, .bool false, .bool false, .int .i64 0] 63)
  have HC := Lib.hid (Gd.l2Good a n cp xs _ HN.out (HA.out.below hba) HZ.out)
  cases hg : Gd.goodB xs with
  | false =>
    have HG := Lib.hid hg
    clear hg
    go_enter Try.func75, Try.ntmps75
    go_wp2_with fail
    refine HC.out.mono ?_
    rintro e w1 ⟨rfl, hb⟩
    rw [HG.out]
    have hb2 := hba.trans (hb.mono (by simp))
    have HB := Lib.hid ((newZero w).below hb)
    obtain ⟨q0, q1, q2, q3, q4, q5, q6⟩ := HB.out.2.1.head
    have hf := HB.out.2.2
    simp only [HelpS.R0] at q0 q1 q2 q3 q4 q5 q6
    clear hb
    go_wp2_with fail
    rw [← HelpS.put7_def]
    have hb3 := HelpS.put7_below hb2 (Nat.le_refl _) 0 ⟨#[]⟩ 0 false false false 0
    obtain ⟨p0, p1, p2, p3, p4, p5, p6⟩ := (HB.out.put 0 ⟨#[]⟩ 0 false false false 0).2.1.head
    generalize HelpS.put7 _ w.heap.size 0 ⟨#[]⟩ 0 false false false 0 = wf at *
    refine bodyPost_ret (v := .tuple #[.agg #[.int .i64 0, .string ⟨#[]⟩, .int .i64 0, .bool false, .bool false, .bool false, .int .i64 0], .bool false]) (by simp [results, Try.results75, go_sem, p0, p1, p2, p3, p4, p5, p6]) rfl ?_
    exact post_zero (.bad HG.out) hb3
  | true =>
    have HG := Lib.hid hg
    clear hg
    go_enter Try.func75, Try.ntmps75
    go_wp2_with fail
    refine HC.out.mono ?_
    rintro e w1 ⟨rfl, hb⟩
    rw [HG.out]
    have hb2 := hba.trans (hb.mono (by simp))
    have HB := Lib.hid ((newZero w).below hb)
    obtain ⟨q0, q1, q2, q3, q4, q5, q6⟩ := HB.out.2.1.head
    have hf := HB.out.2.2
    simp only [HelpS.R0] at q0 q1 q2 q3 q4 q5 q6
    clear hb hba HC
    go_wp2_with fail
    go_loop [6] (fun i => ∃ k : Nat, k ≤ n ∧ i = .int .i64 k ∧ Hid (∀ q p, q < k → xs[q]? = some p → p.name ≠ nm)) (fun i => n - (intOf i).toNat)
    case atStart => exact ⟨0, Nat.zero_le _, rfl, Lib.hid (fun q p hq => by omega)⟩
    case round =>
      obtain ⟨k, hk, rfl, HM⟩ := hrel
      by_cases hlt : k < n
      · have hx : k < xs.length := by omega
        obtain ⟨b, o, rfl, hbl, hcell0⟩ := hc.out k xs[k] (List.getElem?_eq_getElem hx)
        have HX := Lib.hid (List.getElem?_eq_getElem hx)
        obtain ⟨x0, x1, x2, x3, x4, x5, x6⟩ := hcell0.below hb2 hbl
        have k0 : 0 ≤ (k : Int) := by omega
        have k1 : (k : Int) < (n : Int) := by omega
        clear hcell0
        generalize xs[k] = X at *
        by_cases hname : X.name = nm
        · have HA2 := Lib.hid (Ans.hit HG.out k X HX.out hname)
          have hbe : (X.name.toList == nm.toList) = true := by rw [hname]; simp
          clear hname
          go_wp2_with fail
          rw [← HelpS.put7_def]
          have hb3 := HelpS.put7_below hb2 (Nat.le_refl _) X.id X.name X.rank X.sec X.deb X.am X.need
          obtain ⟨p0, p1, p2, p3, p4, p5, p6⟩ := (HB.out.put X.id X.name X.rank X.sec X.deb X.am X.need).2.1.head
          generalize HelpS.put7 _ w.heap.size X.id X.name X.rank X.sec X.deb X.am X.need = wf at *
          refine bodyPost_ret (v := .tuple #[.agg #[.int .i64 X.id, .string X.name, .int .i64 X.rank, .bool X.sec, .bool X.deb, .bool X.am, .int .i64 X.need], .bool true]) (by simp [results, Try.results75, go_sem, p0, p1, p2, p3, p4, p5, p6]) rfl ?_
          exact ⟨X, true, rfl, HA2.out, hb3⟩
        · have HM2 := Lib.hid (show ∀ q p, q < k + 1 → xs[q]? = some p → p.name ≠ nm from fun q p hq hp => by
            rcases Nat.lt_or_ge q k with h' | h'
            · exact HM.out q p h' hp
            · obtain rfl : q = k := by omega
              rw [HX.out] at hp
              rw [← Option.some.inj hp]
              exact hname)
          have hbe : (X.name.toList == nm.toList) = false := by
            rw [beq_eq_false_iff_ne]
            intro e
            rw [ByteArray.toList_eq, ByteArray.toList_eq] at e
            exact hname (ByteArray.ext (Array.ext' e))
          clear hname
          go_wp2_with fail
          go_round
          case rel => exact ⟨k + 1, by omega, by go_num, HM2⟩
          case measure => simp [intOf]; omega
      · have HA2 := Lib.hid (Ans.none HG.out (fun i r hi => HM.out i r (by have := (List.getElem?_eq_some_iff.1 hi).1; have := HN.out; omega) hi))
        go_wp2_with fail
        rw [← HelpS.put7_def]
        have hb3 := HelpS.put7_below hb2 (Nat.le_refl _) 0 ⟨#[]⟩ 0 false false false 0
        obtain ⟨p0, p1, p2, p3, p4, p5, p6⟩ := (HB.out.put 0 ⟨#[]⟩ 0 false false false 0).2.1.head
        generalize HelpS.put7 _ w.heap.size 0 ⟨#[]⟩ 0 false false false 0 = wf at *
        refine bodyPost_ret (v := .tuple #[.agg #[.int .i64 0, .string ⟨#[]⟩, .int .i64 0, .bool false, .bool false, .bool false, .int .i64 0], .bool false]) (by simp [results, Try.results75, go_sem, p0, p1, p2, p3, p4, p5, p6]) rfl ?_
        exact post_zero HA2.out hb3

set_option maxHeartbeats 800000 in
theorem impl (a : Option Addr) (n cp : Nat) (xs : List R) (nm : ByteArray) (w : World) (hn : xs.length = n) (h : RulesAt w a cp xs) (hsz : ∀ x ∈ xs, x.name.size ≤ maxLen) :
    Calls Try.prog 55 #[.slice a n cp, .string nm] w (Post xs nm w) := by
  have hc := h.at_
  have HN := Lib.hid hn
  have HZ := Lib.hid hsz
  have HA := Lib.hid h
  have hnb : n ≤ cp := by have := h.1; omega
  have hle : n ≤ xs.length := by omega
  have h2 := h.2.1
  unfold maxLen at h2
  clear h hsz hn
  have hba := (Below.refl w.heap.size w).alloc (Nat.le_refl _) (Obj.cells #[.int .i64 0, .string ⟨#[]⟩, .int .i64 0, .bool false, .bool false, .bool false, .int .i64 0] 63)
  have HC := Lib.hid (GoodI.isValidRules a n cp xs _ HN.out (HA.out.below hba) HZ.out)
  cases hg : Gd.goodB xs with
  | false =>
    have HG := Lib.hid hg
    clear hg
    go_enter Try.func55, Try.ntmps55
    go_wp2_with fail
    refine HC.out.mono ?_
    rintro e w1 ⟨rfl, hb⟩
    rw [HG.out]
    have hb2 := hba.trans (hb.mono (by simp))
    have HB := Lib.hid ((newZero w).below hb)
    obtain ⟨q0, q1, q2, q3, q4, q5, q6⟩ := HB.out.2.1.head
    have hf := HB.out.2.2
    simp only [HelpS.R0] at q0 q1 q2 q3 q4 q5 q6
    clear hb
    go_wp2_with fail
    rw [← HelpS.put7_def]
    have hb3 := HelpS.put7_below hb2 (Nat.le_refl _) 0 ⟨#[]⟩ 0 false false false 0
    obtain ⟨p0, p1, p2, p3, p4, p5, p6⟩ := (HB.out.put 0 ⟨#[]⟩ 0 false false false 0).2.1.head
    generalize HelpS.put7 _ w.heap.size 0 ⟨#[]⟩ 0 false false false 0 = wf at *
    refine bodyPost_ret (v := .tuple #[.agg #[.int .i64 0, .string ⟨#[]⟩, .int .i64 0, .bool false, .bool false, .bool false, .int .i64 0], .bool false]) (by simp [results, Try.results55, go_sem, p0, p1, p2, p3, p4, p5, p6]) rfl ?_
    exact post_zero (.bad HG.out) hb3
  | true =>
    have HG := Lib.hid hg
    clear hg
    go_enter Try.func55, Try.ntmps55
    go_wp2_with fail
    refine HC.out.mono ?_
    rintro e w1 ⟨rfl, hb⟩
    rw [HG.out]
    have hb2 := hba.trans (hb.mono (by simp))
    have HB := Lib.hid ((newZero w).below hb)
    have hgt : w.heap.size < w1.heap.size := HB.out.1
    have HW := Lib.hid ((HelpS.Box.new w1 HelpS.R0 63))
    have HB1 := Lib.hid (HB.out.alloc (Obj.cells #[.int .i64 0, .string ⟨#[]⟩, .int .i64 0, .bool false, .bool false, .bool false, .int .i64 0] 63))
    have hb3 := hb2.alloc hb2.size (Obj.cells #[.int .i64 0, .string ⟨#[]⟩, .int .i64 0, .bool false, .bool false, .bool false, .int .i64 0] 63)
    clear hb hba HC HB hb2
    go_wp2_with fail
    generalize w1.heap.size = G at *
    go_loopw [16] (fun i wr => ∃ (k : Nat) (F : R), k ≤ n ∧ i = .int .i64 k ∧ Below w.heap.size w wr ∧ Hid (HelpS.Box wr G F) ∧ Hid (HelpS.Box wr w.heap.size HelpS.R0) ∧ Hid (Got xs nm k F)) (fun i _ => n - (intOf i).toNat)
    case atStart => exact ⟨0, HelpS.R0, Nat.zero_le _, rfl, hb3, HW, HB1, Lib.hid (Got.zero xs nm)⟩
    case round =>
      clear hb3 HW HB1
      obtain ⟨k, F, hk, rfl, hb, HBG, HB0, HF⟩ := hrel
      by_cases hlt : k < n
      · have hx : k < xs.length := by omega
        obtain ⟨b, o, rfl, hbl, hcell0⟩ := hc.out k xs[k] (List.getElem?_eq_getElem hx)
        have HX := Lib.hid (List.getElem?_eq_getElem hx)
        obtain ⟨x0, x1, x2, x3, x4, x5, x6⟩ := hcell0.below hb hbl
        have k0 : 0 ≤ (k : Int) := by omega
        have k1 : (k : Int) < (n : Int) := by omega
        clear hcell0
        generalize xs[k] = X at *
        by_cases hname : X.name = nm
        · have HF2 := Lib.hid (Got.hit HX.out hname)
          have hbe : (X.name.toList == nm.toList) = true := by rw [hname]; simp
          have HBG2 := Lib.hid ((HBG.out.put X.id X.name X.rank X.sec X.deb X.am X.need).alloc (Obj.cells #[.int .i64 X.id, .string X.name, .int .i64 X.rank, .bool X.sec, .bool X.deb, .bool X.am, .int .i64 X.need] 63))
          have HB02 := Lib.hid ((HB0.out.apart (g := G) (by omega) X.id X.name X.rank X.sec X.deb X.am X.need).alloc (Obj.cells #[.int .i64 X.id, .string X.name, .int .i64 X.rank, .bool X.sec, .bool X.deb, .bool X.am, .int .i64 X.need] 63))
          have hb3 := HelpS.put7_below (g := G) hb (by omega) X.id X.name X.rank X.sec X.deb X.am X.need
          have hb4 := hb3.alloc hb3.size (Obj.cells #[.int .i64 X.id, .string X.name, .int .i64 X.rank, .bool X.sec, .bool X.deb, .bool X.am, .int .i64 X.need] 63)
          obtain ⟨q0, q1, q2, q3, q4, q5, q6⟩ := HBG.out.2.1.head
          have hf := HBG.out.2.2
          have hG := HBG.out.1
          clear hname
          go_wp2_with fail
          rw [← HelpS.put7_def]
          go_roundw
          case rel => exact ⟨k + 1, X, by omega, by go_num, hb4, HBG2, HB02, HF2⟩
          case measure => simp [intOf]; omega
        · have HF2 := Lib.hid (Got.pass HX.out hname HF.out)
          have hbe : (X.name.toList == nm.toList) = false := by
            rw [beq_eq_false_iff_ne]
            intro e
            rw [ByteArray.toList_eq, ByteArray.toList_eq] at e
            exact hname (ByteArray.ext (Array.ext' e))
          have HBG2 := Lib.hid (HBG.out.alloc (Obj.cells #[.int .i64 X.id, .string X.name, .int .i64 X.rank, .bool X.sec, .bool X.deb, .bool X.am, .int .i64 X.need] 63))
          have HB02 := Lib.hid (HB0.out.alloc (Obj.cells #[.int .i64 X.id, .string X.name, .int .i64 X.rank, .bool X.sec, .bool X.deb, .bool X.am, .int .i64 X.need] 63))
          have hb4 := hb.alloc hb.size (Obj.cells #[.int .i64 X.id, .string X.name, .int .i64 X.rank, .bool X.sec, .bool X.deb, .bool X.am, .int .i64 X.need] 63)
          clear hname
          go_wp2_with fail
          go_roundw
          case rel => exact ⟨k + 1, F, by omega, by go_num, hb4, HBG2, HB02, HF2⟩
          case measure => simp [intOf]; omega
      · obtain rfl : k = n := by omega
        obtain ⟨q0, q1, q2, q3, q4, q5, q6⟩ := HBG.out.2.1.head
        obtain ⟨z0, z1, z2, z3, z4, z5, z6⟩ := HB0.out.2.1.head
        have hf := HB0.out.2.2
        simp only [HelpS.R0] at z0 z1 z2 z3 z4 z5 z6
        rcases HF.out.ans HN.out HG.out with ⟨hz, hA⟩ | ⟨hz, hA⟩
        · subst hz
          have HA2 := Lib.hid hA
          have hnq := neq_zero
          simp only [HelpS.R0] at q0 q1 q2 q3 q4 q5 q6
          clear hA
          go_wp2_with fail
          go_region
          go_wp2_with fail
          rw [← HelpS.put7_def]
          have hb3 := HelpS.put7_below (g := w.heap.size) hb (Nat.le_refl _) 0 ⟨#[]⟩ 0 false false false 0
          obtain ⟨p0, p1, p2, p3, p4, p5, p6⟩ := (HB0.out.put 0 ⟨#[]⟩ 0 false false false 0).2.1.head
          generalize HelpS.put7 wr w.heap.size 0 ⟨#[]⟩ 0 false false false 0 = wf at *
          refine bodyPost_ret (v := .tuple #[.agg #[.int .i64 0, .string ⟨#[]⟩, .int .i64 0, .bool false, .bool false, .bool false, .int .i64 0], .bool false]) (by simp [results, Try.results55, go_sem, p0, p1, p2, p3, p4, p5, p6]) rfl ?_
          exact post_zero HA2.out hb3.drew
        · have HA2 := Lib.hid hA
          have hnq := neq_full F hz
          clear hz hA
          go_wp2_with fail
          go_region
          go_wp2_with fail
          rw [← HelpS.put7_def]
          have hb3 := HelpS.put7_below (g := w.heap.size) hb (Nat.le_refl _) F.id F.name F.rank F.sec F.deb F.am F.need
          obtain ⟨p0, p1, p2, p3, p4, p5, p6⟩ := (HB0.out.put F.id F.name F.rank F.sec F.deb F.am F.need).2.1.head
          generalize HelpS.put7 wr w.heap.size F.id F.name F.rank F.sec F.deb F.am F.need = wf at *
          refine bodyPost_ret (v := .tuple #[.agg #[.int .i64 F.id, .string F.name, .int .i64 F.rank, .bool F.sec, .bool F.deb, .bool F.am, .int .i64 F.need], .bool true]) (by simp [results, Try.results55, go_sem, p0, p1, p2, p3, p4, p5, p6]) rfl ?_
          exact ⟨F, true, rfl, HA2.out, hb3.drew⟩
end Go.Proofs.Ytbaflfbidgolfaa.ByName
