/- StrictestNeed: what it answers, on both sides. No condition. -/
import Derived.Test.YtankaffhapcnaaaTalG
import Derived.Test.YtankaffhapcnaaaTalI
import Derived.Test.YtankaffhapcnaaaLTallyZ
namespace Go.Proofs.Ytankaffhapcnaaa.StrictestNeedC
open Go.RowKit Bs Word Tal TalS TalG
set_option linter.unusedVariables false
open TalN TalI
def strictA (t : T) : Int × Bool := if good t = true then (strict t, true) else (0, false)
def Ans (a0 : T) (r0 : Int) (r1 : Bool) : Prop := strictA a0 = (r0, r1)
theorem same {a0 : T} {r0 s0 : Int} {r1 s1 : Bool} (h1 : Ans a0 r0 r1) (h2 : Ans a0 s0 s1) : r0 = s0 ∧ r1 = s1 := by
  have h := h1.symm.trans h2
  exact ⟨congrArg Prod.fst h, congrArg Prod.snd h⟩
def Post (a0 : T) (w : World) (e : Ending) (w' : World) : Prop := ∃ r0 r1, e = .returned (.tuple #[.int .i64 r0, .bool r1]) ∧ Ans a0 r0 r1 ∧ Below w.heap.size w w'
set_option maxRecDepth 100000 in
set_option maxHeartbeats 1600000 in
theorem spec (a0 : T) (w : World) (f0 : LTally.Fine a0) : Calls Try.prog 63 #[.agg #[.int .i64 a0.yes, .int .i64 a0.no, .int .i64 a0.abstain]] w (Post a0 w) := by
  obtain ⟨r, hr⟩ : ∃ r, r = a0 := ⟨_, rfl⟩
  subst hr
  obtain ⟨W, hW⟩ : ∃ W : World, W = w.alloc (Obj.cells #[.int .i64 r.yes, .int .i64 r.no, .int .i64 r.abstain] 71) := ⟨_, rfl⟩
  have hb : Below w.heap.size w W := by rw [hW]; exact (Below.refl _ _).alloc (Nat.le_refl _) _
  have B0 := Lib.hid (show Bx W w.heap.size 71 #[.int .i64 r.yes, .int .i64 r.no, .int .i64 r.abstain] by rw [hW]; exact Bx.new _ _ _)
  have q0 := B0.out.cell 0
  have q1 := B0.out.cell 1
  have q2 := B0.out.cell 2
  simp only [List.getElem?_toArray, List.getElem?_cons_zero, List.getElem?_cons_succ] at q0 q1 q2
  have HG := Lib.hid (fun b (hx : good r = b) W => l11Good r b hx W)
  cases h1 : good r with
  | false =>
    have HA := Lib.hid (show Ans r 0 false by unfold Ans strictA; rw [if_neg (by rw [h1]; simp)])
    replace HG := Lib.hid (HG.out _ h1)
    clear h1
    go_enter Try.func63, Try.ntmps63
    go_wp2_with fail
    rw [← hW]
    clear hW
    refine HG.out _ |>.mono ?_
    rintro e w' ⟨rfl, hb2⟩
    have hb3 := hb.trans (hb2.mono hb.size)
    go_wp2_with fail
    go_ret2
    exact ⟨_, _, rfl, HA.out, hb3⟩
  | true =>
  have HA := Lib.hid (show Ans r (strict r) true by unfold Ans strictA; rw [if_pos h1])
  replace HG := Lib.hid (HG.out _ h1)
  have HGR := Lib.hid h1
  clear h1
  go_enter Try.func63, Try.ntmps63
  go_wp2_with fail
  rw [← hW]
  clear hW
  refine HG.out _ |>.mono ?_
  rintro e w1 ⟨rfl, hb2⟩
  replace hb := hb.trans (hb2.mono hb.size)
  replace B0 := Lib.hid (B0.out.kept hb2)
  clear hb2 q0 q1 q2
  go_wp2_with fail
  go_loopw [4, 5] (fun o i wr => ∃ k : Nat, k ≤ 3 ∧ o = .int .i64 (strictTo r k) ∧ i = .int .i64 ((k : Int) + 1) ∧ Below w1.heap.size w1 wr) (fun _ i _ => 4 - (intOf i).toNat)
  case atStart => exact ⟨0, by omega, by rw [strict_zero], rfl, Below.refl _ _⟩
  case round =>
    obtain ⟨k, hk, rfl, rfl, hbr⟩ := hrel
    have B1 := Lib.hid (B0.out.kept hbr)
    have hbz := hb.trans (hbr.mono hb.size)
    have q0 := B1.out.cell 0
    have q1 := B1.out.cell 1
    have q2 := B1.out.cell 2
    simp only [List.getElem?_toArray, List.getElem?_cons_zero, List.getElem?_cons_succ] at q0 q1 q2
    have k2 : IntKind.i64.wrap ((k : Int) + 1 + 1) = (k : Int) + 1 + 1 := IntWalk.i64_in _ (by omega)
    by_cases hlt : k < 3
    · have k1 : (k : Int) + 1 ≤ 3 := by omega
      obtain ⟨v, hv⟩ : ∃ v, en ((k : Int) + 1) r.yes r.no = v := ⟨_, rfl⟩
      have HE := Lib.hid (fun W => l11Adopted ((k : Int) + 1) r v (inB_mk (by omega) (by omega)) HGR.out hv W)
      cases v with
      | true =>
        have HS := Lib.hid (strict_hit r k hlt hv)
        clear hv
        generalize strictTo r k = o at *
        go_wp2_with fail
        refine (HE.out _).mono ?_
        rintro e w3 ⟨rfl, hb4⟩
        have hbr2 := hbr.trans (hb4.mono hbr.size)
        clear hb4 q0 q1 q2
        go_wp2_with fail
        go_roundw
        case rel => exact ⟨k + 1, by omega, by rw [HS.out], by simp, hbr2⟩
        case measure => simp [intOf]; omega
      | false =>
        have HS := Lib.hid (strict_miss r k hlt hv)
        clear hv
        generalize strictTo r k = o at *
        go_wp2_with fail
        refine (HE.out _).mono ?_
        rintro e w3 ⟨rfl, hb4⟩
        have hbr2 := hbr.trans (hb4.mono hbr.size)
        clear hb4 q0 q1 q2
        go_wp2_with fail
        go_roundw
        case rel => exact ⟨k + 1, by omega, by rw [HS.out], by simp, hbr2⟩
        case measure => simp [intOf]; omega
    · have k1 : ¬ (k : Int) + 1 ≤ 3 := by omega
      obtain rfl : k = 3 := by omega
      rw [strict_all]
      generalize strict r = o at *
      go_wp2_with fail
      go_ret2
      exact ⟨_, _, rfl, HA.out, hbz⟩
set_option maxRecDepth 100000 in
set_option maxHeartbeats 1600000 in
theorem impl (a0 : T) (w : World) (f0 : LTally.Fine a0) : Calls Try.prog 62 #[.agg #[.int .i64 a0.yes, .int .i64 a0.no, .int .i64 a0.abstain]] w (Post a0 w) := by
  obtain ⟨r, hr⟩ : ∃ r, r = a0 := ⟨_, rfl⟩
  subst hr
  obtain ⟨W, hW⟩ : ∃ W : World, W = w.alloc (Obj.cells #[.int .i64 r.yes, .int .i64 r.no, .int .i64 r.abstain] 71) := ⟨_, rfl⟩
  have hb : Below w.heap.size w W := by rw [hW]; exact (Below.refl _ _).alloc (Nat.le_refl _) _
  have B0 := Lib.hid (show Bx W w.heap.size 71 #[.int .i64 r.yes, .int .i64 r.no, .int .i64 r.abstain] by rw [hW]; exact Bx.new _ _ _)
  have q0 := B0.out.cell 0
  have q1 := B0.out.cell 1
  have q2 := B0.out.cell 2
  simp only [List.getElem?_toArray, List.getElem?_cons_zero, List.getElem?_cons_succ] at q0 q1 q2
  have HG := Lib.hid (fun b (hx : good r = b) W => isValid r b hx W)
  cases h1 : good r with
  | false =>
    have HA := Lib.hid (show Ans r 0 false by unfold Ans strictA; rw [if_neg (by rw [h1]; simp)])
    replace HG := Lib.hid (HG.out _ h1)
    clear h1
    go_enter Try.func62, Try.ntmps62
    go_wp2_with fail
    rw [← hW]
    clear hW
    refine HG.out _ |>.mono ?_
    rintro e w' ⟨rfl, hb2⟩
    have hb3 := hb.trans (hb2.mono hb.size)
    go_wp2_with fail
    go_ret2
    exact ⟨_, _, rfl, HA.out, hb3⟩
  | true =>
  have HA := Lib.hid (show Ans r (strict r) true by unfold Ans strictA; rw [if_pos h1])
  replace HG := Lib.hid (HG.out _ h1)
  have HGR := Lib.hid h1
  clear h1
  go_enter Try.func62, Try.ntmps62
  go_wp2_with fail
  rw [← hW]
  clear hW
  refine HG.out _ |>.mono ?_
  rintro e w1 ⟨rfl, hb2⟩
  replace hb := hb.trans (hb2.mono hb.size)
  replace B0 := Lib.hid (B0.out.kept hb2)
  clear hb2 q0 q1 q2
  have HD := Lib.hid (fun W => numbers_down 3 1 (by omega) W)
  have HF := Lib.hid (fun r0 r1 (h : TalF.Found (fun x => car x r.yes r.no) (upto 3 (-1) 3) r0 r1) => TalM.strict_found HGR.out h)
  have hz := cell_lt (B0.out.cell 0)
  go_wp2_with fail
  refine (HD.out _).mono ?_
  rintro e w3 ⟨B1, B2, B3, rfl, g1, g2, g3, c1, c2, c3, hb3⟩
  have HFF := Lib.hid (TalF.firstS B1 B2 B3 w.heap.size 3 1 (-1) 3 (.inr rfl) (by omega) (by omega) (by omega) (fun x => car x r.yes r.no) w3 g1 g2 g3 c1 c2 c3 (Lib.hid (fun x X hX => testS w.heap.size r x X (((B0.out.kept hb3).kept hX).cell 0) (((B0.out.kept hb3).kept hX).cell 1))))
  replace hb := hb.trans (hb3.mono hb.size)
  clear c1 c2 c3 hb3
  go_wp2_with fail
  refine HFF.out.mono ?_
  rintro e w4 ⟨r0, r1, rfl, hF, hb2⟩
  have HA2 := Lib.hid (show Ans r r0 true by have := HA.out; rw [HF.out _ _ hF] at this; exact this)
  have hb3 := hb.trans (hb2.mono hb.size)
  clear hF HFF
  go_wp2_with fail
  go_ret2
  exact ⟨_, _, rfl, HA2.out, hb3⟩
end Go.Proofs.Ytankaffhapcnaaa.StrictestNeedC
