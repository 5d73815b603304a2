/- Floors: the model's test of the shares. No condition. -/
import Derived.Test.YtmbffcblhhippaaFlA
namespace Go.Proofs.Ytmbffcblhhippaa.FlS
open Go.RowKit Bs Word Sq IntF Fl FlA
set_option linter.unusedVariables false
set_option maxRecDepth 100000 in
set_option maxHeartbeats 1600000 in
theorem l8Shares (v0 : Value) (r : F) (w : World) (h0 : LFloor.Is w v0 r) :
    Calls Try.prog 59 #[v0] w fun e w' => e = .returned (.bool (shB r)) ∧ Below w.heap.size w w' := by
  obtain ⟨a3, n3, c3, a4, n4, c4, rfl, HN3, HN4, hb3, hb4, hm3, hm4, hc3, hc4, HI⟩ := open_is h0
  clear h0
  obtain ⟨W, hW⟩ : ∃ W : World, W = w.alloc (Obj.cells #[.int .i64 r.turns, .int .i64 r.seconds, .int .i64 r.speaking, .slice a3 n3 c3, .slice a4 n4 c4] 29) := ⟨_, rfl⟩
  have hb : Below w.heap.size w W := by rw [hW]; exact (Below.refl _ _).alloc (Nat.le_refl _) _
  have B0 := Lib.hid (show Bx W w.heap.size 29 #[.int .i64 r.turns, .int .i64 r.seconds, .int .i64 r.speaking, .slice a3 n3 c3, .slice a4 n4 c4] by rw [hW]; exact Bx.new _ _ _)
  have HIW := Lib.hid (LFloor.Is.below HI.out hb)
  go_enter Try.func59, Try.ntmps59
  go_wp2_with fail
  rw [← hW]
  clear hW
  go_loopw [3] (fun i wr => ∃ k : Nat, k ≤ n4 ∧ i = .int .i64 k ∧ Below W.heap.size W wr ∧ Hid (∀ i, i < k → ShOk r i)) (fun i _ => n4 - (intOf i).toNat)
  case atStart => exact ⟨0, Nat.zero_le _, rfl, Below.refl _ _, Lib.hid (fun i hi => by omega)⟩
  case round =>
    obtain ⟨k, hk, rfl, hbr, HS⟩ := hrel
    have B1 := B0.out.kept hbr
    have q0 := B1.cell 0
    have q1 := B1.cell 1
    have q4 := B1.cell 4
    simp only [List.getElem?_toArray, List.getElem?_cons_zero, List.getElem?_cons_succ] at q0 q1 q4
    by_cases hlt : k < n4
    · have hx : k < r.shares.length := by have := HN4.out; omega
      obtain ⟨b, o, rfl, hbl, hcell0⟩ := hc4.out k r.shares[k] (List.getElem?_eq_getElem hx)
      obtain ⟨y0, y1, y2⟩ := LShare.cells (hcell0.below LShare.rec (hb.trans (hbr.mono hb.size)) hbl)
      simp only [LShare.rec_n] at y0 y1 y2
      have HX := Lib.hid (List.getElem?_eq_getElem hx)
      clear hcell0
      generalize r.shares[k] = X at *
      obtain ⟨wa, hwa⟩ : ∃ wa : World, wa = wr.alloc (Obj.cells #[.int .i64 X.member, .int .i64 X.turns, .int .i64 X.seconds] 60) := ⟨_, rfl⟩
      have hba : Below wr.heap.size wr wa := by rw [hwa]; exact (Below.refl _ _).alloc (Nat.le_refl _) _
      have BX := Lib.hid (show Bx wa wr.heap.size 60 #[.int .i64 X.member, .int .i64 X.turns, .int .i64 X.seconds] by rw [hwa]; exact Bx.new _ _ _)
      go_upto_region 5 with fail
      rw [← hwa]
      clear hwa q0 q1 q4 y0 y1 y2
      replace B1 := B1.kept hba
      have q0 := B1.cell 0
      have q1 := B1.cell 1
      have q4 := B1.cell 4
      simp only [List.getElem?_toArray, List.getElem?_cons_zero, List.getElem?_cons_succ] at q0 q1 q4
      have x0 := BX.out.cell 0
      have x1 := BX.out.cell 1
      have x2 := BX.out.cell 2
      simp only [List.getElem?_toArray, List.getElem?_cons_zero, List.getElem?_cons_succ] at x0 x1 x2
      go_cut [52] (fun t wx => ∃ v : Bool, t = .bool v ∧ Hid (HeadS r k v) ∧ Below wr.heap.size wr wx)
      case first =>
        have k0 : 0 ≤ (k : Int) := by omega
        have k1 : (k : Int) < (n4 : Int) := by omega
        have H1 := Lib.hid (fun x W => Mbr.l7Member x _ rfl W)
        have H2 := Lib.hid (fun x a b W => in_as x a b _ rfl W)
        cases g1 : inB X.member 1 99 with
        | false =>
          have HG := Lib.hid (show okS r X = false by unfold okS; rw [g1]; rfl)
          have HV := Lib.hid (show HeadS r k true from headS_bad (fun h => by have := (h X HX.out).1; rw [HG.out] at this; cases this))
          go_quiet ((first | (go_at_call 32; exact quiet_eq (H1.out _ _)) | (go_at_call 47; exact quiet_eq (H2.out _ _ _ _)) | fail))
          go_wp2_with fail
          go_meet
          exact ⟨true, rfl, HV, hba.trans ((drawn_below _ _).mono hba.size)⟩
        | true =>
          cases g2 : inB X.turns 0 r.turns with
          | false =>
            have HG := Lib.hid (show okS r X = false by unfold okS; rw [g1, g2]; rfl)
            have HV := Lib.hid (show HeadS r k true from headS_bad (fun h => by have := (h X HX.out).1; rw [HG.out] at this; cases this))
            go_quiet ((first | (go_at_call 32; exact quiet_eq (H1.out _ _)) | (go_at_call 47; exact quiet_eq (H2.out _ _ _ _)) | fail))
            go_wp2_with fail
            go_meet
            exact ⟨true, rfl, HV, hba.trans ((drawn_below _ _).mono hba.size)⟩
          | true =>
            cases g3 : inB X.seconds 0 r.seconds with
            | false =>
              have HG := Lib.hid (show okS r X = false by unfold okS; rw [g1, g2, g3]; rfl)
              have HV := Lib.hid (show HeadS r k true from headS_bad (fun h => by have := (h X HX.out).1; rw [HG.out] at this; cases this))
              go_quiet ((first | (go_at_call 32; exact quiet_eq (H1.out _ _)) | (go_at_call 47; exact quiet_eq (H2.out _ _ _ _)) | fail))
              go_wp2_with fail
              go_meet
              exact ⟨true, rfl, HV, hba.trans ((drawn_below _ _).mono hba.size)⟩
            | true =>
              have HG := Lib.hid (show okS r X = true by unfold okS; rw [g1, g2, g3]; rfl)
              by_cases hz : k = 0
              · have hd : decide (0 < (k : Int)) = false := by simp; omega
                have hd2 : decide (0 < k) = false := by simp; omega
                have HZ := Lib.hid hz
                clear hz
                have HV := Lib.hid (show HeadS r k false from headS_fine (fun x hx => by rw [HX.out] at hx; rw [← Option.some.inj hx]; exact ⟨HG.out, fun p h0 => by have := HZ.out; omega⟩))
                go_quiet ((first | (go_at_call 32; exact quiet_eq (H1.out _ _)) | (go_at_call 47; exact quiet_eq (H2.out _ _ _ _)) | fail))
                go_wp2_with fail
                go_meet
                exact ⟨false, rfl, HV, hba.trans ((drawn_below _ _).mono hba.size)⟩
              · have h0 : 0 < k := by omega
                have hd : decide (0 < (k : Int)) = true := by simp; omega
                have hxp : k - 1 < r.shares.length := by omega
                obtain ⟨b', o', he, hbl', hcell0'⟩ := hc4.out (k - 1) r.shares[k - 1] (List.getElem?_eq_getElem hxp)
                simp only [Option.some.injEq, Addr.mk.injEq, and_true] at he
                obtain ⟨rfl, rfl⟩ := he
                have HY := Lib.hid (List.getElem?_eq_getElem hxp)
                obtain ⟨z0, z1, z2⟩ := LShare.cells (hcell0'.below LShare.rec ((hb.trans (hbr.mono hb.size)).trans (hba.mono (hb.trans (hbr.mono hb.size)).size)) hbl')
                simp only [LShare.rec_n] at z0 z1 z2
                clear hz hbl' hcell0'
                generalize r.shares[k - 1] = Y at *
                have s1 : IntKind.i64.wrap ((k : Int) - 1) = (k : Int) - 1 := IntWalk.i64_in _ (by omega)
                have s2 : ((k : Int) - 1).toNat = k - 1 := by omega
                have s3 : 0 ≤ (k : Int) - 1 := by omega
                have s4 : (k : Int) - 1 < (n4 : Int) := by omega
                have HV := Lib.hid (show HeadS r k (decide (X.member ≤ Y.member)) from ⟨fun hxy => (headS_bad (fun h => by have := (h X HX.out).2 Y h0 HY.out; have := of_decide_eq_true hxy; omega)).1 rfl, fun hxy x hx => by rw [HX.out] at hx; rw [← Option.some.inj hx]; exact ⟨HG.out, fun p _ hp => by have := of_decide_eq_false hxy; rw [HY.out] at hp; rw [← Option.some.inj hp]; omega⟩⟩)
                go_quiet ((first | (go_at_call 32; exact quiet_eq (H1.out _ _)) | (go_at_call 47; exact quiet_eq (H2.out _ _ _ _)) | fail))
                go_wp2_with fail
                go_meet
                exact ⟨decide (X.member ≤ Y.member), rfl, HV, hba.trans ((drawn_below _ _).mono hba.size)⟩
      case rest =>
        obtain ⟨v, rfl, HV, hbv⟩ := hcut
        have hb2 := hbr.trans (hbv.mono hbr.size)
        cases v with
        | true =>
          have HB := Lib.hid (show shB r = false from HV.out.1 rfl)
          go_wp2_with fail
          go_ret
          exact ⟨ret_bool HB.out.symm, hb.trans (hb2.mono hb.size)⟩
        | false =>
          have HN2 := Lib.hid (sh_next HS.out (HV.out.2 rfl))
          go_wp2_with fail
          go_roundw
          case rel => exact ⟨k + 1, by omega, by go_num, hb2, HN2⟩
          case measure => simp [intOf]; omega
    · have HB := Lib.hid (sh_all (by have := HN4.out; omega) HS.out)
      go_wp2_with fail
      go_ret
      exact ⟨ret_bool HB.out.symm, hb.trans (hbr.mono hb.size)⟩
end Go.Proofs.Ytmbffcblhhippaa.FlS
