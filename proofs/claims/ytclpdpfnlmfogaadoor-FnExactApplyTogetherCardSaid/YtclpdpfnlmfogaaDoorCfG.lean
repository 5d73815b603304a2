/- A list of proposals: the tests of the model and of the program. No condition. -/
import Derived.Test.YtclpdpfnlmfogaaDoorJ1
import Derived.Test.YtclpdpfnlmfogaaDoorAmF
import Derived.Test.YtclpdpfnlmfogaaDoorLProposalSZ
import Derived.Deep.DeepCutAuto
namespace Go.Proofs.YtclpdpfnlmfogaaDoor.CfG
open Go.RowKit Bs Word Am AmA AmG AmF Cf
set_option linter.unusedVariables false
theorem is_ch {w : World} {a : Option Addr} {l d : Nat} {r : P} (h : LProposal.Is w (.agg #[.int .i64 r.id, .int .i64 r.kind, .int .i64 r.pos, .int .i64 r.count, .slice a l d, .int .i64 r.weight]) r) : LAmendment.Is w (.agg #[.int .i64 r.kind, .int .i64 r.pos, .int .i64 r.count, .slice a l d]) (ch r) := by
  obtain ⟨s, e, h3⟩ := h
  simp only [Value.agg.injEq, Array.mk.injEq, List.cons.injEq, and_true, true_and] at e
  subst e
  exact ⟨_, rfl, h3⟩
theorem isq_ch {w : World} {a : Option Addr} {l d : Nat} {r : P} (h : LProposal.IsQ w (.agg #[.int .i64 r.id, .int .i64 r.kind, .int .i64 r.pos, .int .i64 r.count, .slice a l d, .int .i64 r.weight]) r) : LAmendment.IsQ w (.agg #[.int .i64 r.kind, .int .i64 r.pos, .int .i64 r.count, .slice a l d]) (ch r) := by
  obtain ⟨s, e, h3⟩ := h
  simp only [Value.agg.injEq, Array.mk.injEq, List.cons.injEq, and_true, true_and] at e
  subst e
  exact ⟨_, rfl, h3⟩
theorem good_as (v0 : Value) (r : M) (bv : Bool) (hv : good r = bv) (w : World) (h0 : LAmendment.Is w v0 r) (f0 : LAmendment.Fine r) :
    Calls Tryd.prog 55 #[v0] w fun e w' => e = .returned (.bool bv) ∧ Below w.heap.size w w' := by subst hv; exact AmG.l9Good v0 r w h0 f0
theorem fits_as (v v0 : Value) (l : T) (r : M) (bv : Bool) (hv : fits l r = bv) (w : World) (h : IsQ LString.rec w v l) (h0 : LAmendment.Is w v0 r) (hg : good r = true) (hl : l.length ≤ 1048576) :
    Calls Tryd.prog 81 #[v, v0] w fun e w' => e = .returned (.bool bv) ∧ Below w.heap.size w w' := by subst hv; exact AmF.l9Fits v v0 l r w h h0 hg hl
def Res (t : T) (l : List P) (k : Nat) (v : Bool) : Prop := (v = true → listB t 0 l = false) ∧ (v = false → LeftP t l (k + 1))
theorem res_bad {t : T} {l : List P} {k : Nat} {x : P} (hx : l[k]? = some x) (h : LeftP t l k) (h1 : okP t x = false) : Res t l k true := ⟨fun _ => left_bad h hx h1, fun e => by cases e⟩
theorem res_old {t : T} {l : List P} {k : Nat} {x : P} (hx : l[k]? = some x) (h : LeftP t l k) (h2 : ¬ prevId l k < x.id) : Res t l k true := ⟨fun _ => left_bad2 h hx h2, fun e => by cases e⟩
theorem res_ok {t : T} {l : List P} {k : Nat} {x : P} (hx : l[k]? = some x) (h : LeftP t l k) (h1 : okP t x = true) (h2 : prevId l k < x.id) : Res t l k false := ⟨(fun e => by cases e), fun _ => left_next h hx h1 h2⟩
theorem prev_at {l : List P} {k : Nat} {x : P} (hk : 0 < k) (h : l[k - 1]? = some x) : prevId l k = x.id := by
  obtain ⟨m, rfl⟩ : ∃ m, k = m + 1 := ⟨k - 1, by omega⟩
  exact prev_next h
set_option maxRecDepth 100000 in
set_option maxHeartbeats 1600000 in
theorem l10Good (v v1 : Value) (l : T) (z : List P) (w : World) (h : IsQ LString.rec w v l) (h1 : LProposalS.Is w v1 z) (ft : ∀ x ∈ l, LString.Fine x) (f1 : ∀ x ∈ z, LProposal.Fine x) (hl : l.length ≤ 1048576) :
    Calls Tryd.prog 61 #[v, v1] w fun e w' => e = .returned (.bool (propsB l z)) ∧ Below w.heap.size w w' := by
  obtain ⟨ao, nt, ct, rfl⟩ := isq_slice h
  have HTQ := Lib.hid h
  have HFT := Lib.hid ft
  have hTL := hl
  clear h ft hl
  have hc := LProposalS.get h1
  obtain ⟨a, cp, rfl, hnb, h2⟩ := h1.form
  unfold maxLen at h2
  obtain ⟨n, hn⟩ : ∃ n, n = z.length := ⟨_, rfl⟩
  have HN := Lib.hid hn.symm
  have HF := Lib.hid f1
  have HLI := Lib.hid h1
  rw [← hn] at hc hnb HLI ⊢
  have hle : n ≤ z.length := by omega
  clear hn h1 f1
  have HC1 := Lib.hid (AmA.l9Text _ l w (IsQ.is HTQ.out) HFT.out)
  cases g1 : textB l with
  | false =>
    have HG := Lib.hid (props1 (l := z) g1)
    rw [g1] at HC1
    go_enter Tryd.func61, Tryd.ntmps61
    go_wp2_with fail
    refine HC1.out.mono ?_
    rintro e _ ⟨rfl, rfl⟩
    go_wp2_with fail
    go_ret
    exact ⟨ret_bool HG.out.symm, Below.refl _ _⟩
  | true =>
  rw [g1] at HC1
  by_cases h8 : 8 < n
  · have HG := Lib.hid (props2 (t := l) (l := z) (by have := HN.out; omega))
    go_enter Tryd.func61, Tryd.ntmps61
    go_wp2_with fail
    refine HC1.out.mono ?_
    rintro e _ ⟨rfl, rfl⟩
    go_wp2_with fail
    go_ret
    exact ⟨ret_bool HG.out.symm, Below.refl _ _⟩
  have HG := Lib.hid (props_mk (l := z) g1 (by have := HN.out; omega))
  clear g1
  go_enter Tryd.func61, Tryd.ntmps61
  go_wp2_with fail
  refine HC1.out.mono ?_
  rintro e _ ⟨rfl, rfl⟩
  go_wp2_with fail
  go_loopw [5] (fun i wr => ∃ k : Nat, k ≤ n ∧ i = .int .i64 k ∧ Hid (LeftP l z k) ∧ Below w.heap.size w wr) (fun i _ => n - (intOf i).toNat)
  case atStart => exact ⟨0, Nat.zero_le _, rfl, Lib.hid (left_zero l z), Below.refl _ _⟩
  case round =>
    obtain ⟨k, hk, rfl, HL, hb⟩ := hrel
    by_cases hlt : k < n
    · have k0 : 0 ≤ (k : Int) := by omega
      have k1 : (k : Int) < (n : Int) := by omega
      have hx : k < z.length := by omega
      obtain ⟨b, o, c, x, y, s, he, hbl, hat, hI⟩ := hc.out k z[k] (List.getElem?_eq_getElem hx)
      simp only [Value.slice.injEq] at he
      obtain ⟨rfl, -, rfl⟩ := he
      obtain ⟨q0, q1, q2, q3, q4, q5⟩ := LProposalS.cells_hd (hat.below LProposalS.kit.row hb hbl)
      have HX := Lib.hid (List.getElem?_eq_getElem hx)
      have HFX := Lib.hid (HF.out _ (List.getElem_mem hx))
      have HIX := Lib.hid (is_ch (LProposal.Is.below hI hb))
      clear hat hI
      generalize z[k] = X at *
      obtain ⟨wa, hwa⟩ : ∃ wa : World, wa = wr.alloc (Obj.cells #[.int .i64 X.id, .int .i64 X.kind, .int .i64 X.pos, .int .i64 X.count, .slice x y s, .int .i64 X.weight] 42) := ⟨_, rfl⟩
      have hba : Below wr.heap.size wr wa := by rw [hwa]; exact (Below.refl _ _).alloc (Nat.le_refl _) _
      have BX := Lib.hid (show Bx wa wr.heap.size 42 #[.int .i64 X.id, .int .i64 X.kind, .int .i64 X.pos, .int .i64 X.count, .slice x y s, .int .i64 X.weight] by rw [hwa]; exact Bx.new _ _ _)
      have hb2 := hb.trans (hba.mono hb.size)
      go_upto_region 7 with fail
      rw [← hwa]
      clear hwa q0 q1 q2 q3 q4 q5
      go_cut [62] (fun t wx => ∃ v : Bool, t = .bool v ∧ Hid (Res l z k v) ∧ Below wa.heap.size wa wx)
      case first =>
        have HTA := Lib.hid (IsQ.below HTQ.out hb2)
        have HIA := Lib.hid (LAmendment.Is.below HIX.out hba)
        have q0 := fun d os => (BX.out.kept (below_regrown wa d os)).cell 0
        have q1 := fun d os => (BX.out.kept (below_regrown wa d os)).cell 1
        have q2 := fun d os => (BX.out.kept (below_regrown wa d os)).cell 2
        have q3 := fun d os => (BX.out.kept (below_regrown wa d os)).cell 3
        have q4 := fun d os => (BX.out.kept (below_regrown wa d os)).cell 4
        have q5 := fun d os => (BX.out.kept (below_regrown wa d os)).cell 5
        simp only [List.getElem?_toArray, List.getElem?_cons_zero, List.getElem?_cons_succ] at q0 q1 q2 q3 q4 q5
        cases g1 : inB X.id 1 99 with
        | false =>
          have HR := Lib.hid (res_bad HX.out HL.out (ok1 g1))
          refine wp_region_quiet_below (by kernel_rfl) (by kernel_rfl) ?_
          repeat (go_big_quiet_step ((first | (go_at_call 93; exact regrown_eq (in_as _ _ _ _ (by assumption) _)) | fail)))
          refine wpQuiet_nil ?_
          intro _ hw'
          obtain ⟨⟨dq, osq⟩, hw''⟩ := hw'
          subst hw''
          go_wp2_with fail
          go_meet
          exact ⟨_, rfl, HR, below_regrown wa dq osq⟩
        | true =>
        cases g2 : inB X.weight 1 100 with
        | false =>
          have HR := Lib.hid (res_bad HX.out HL.out (ok2 g2))
          refine wp_region_quiet_below (by kernel_rfl) (by kernel_rfl) ?_
          repeat (go_big_quiet_step ((first | (go_at_call 93; exact regrown_eq (in_as _ _ _ _ (by assumption) _)) | fail)))
          refine wpQuiet_nil ?_
          intro _ hw'
          obtain ⟨⟨dq, osq⟩, hw''⟩ := hw'
          subst hw''
          go_wp2_with fail
          go_meet
          exact ⟨_, rfl, HR, below_regrown wa dq osq⟩
        | true =>
        cases g3 : good (ch X) with
        | false =>
          have HR := Lib.hid (res_bad HX.out HL.out (ok3 g3))
          have HCG := Lib.hid (fun W (hW : Below wa.heap.size wa W) => good_as _ (ch X) false g3 W (LAmendment.Is.below HIA.out hW) HFX.out)
          clear g3
          refine wp_region_quiet_below (by kernel_rfl) (by kernel_rfl) ?_
          repeat (go_big_quiet_step ((first | (go_at_call 93; exact regrown_eq (in_as _ _ _ _ (by assumption) _)) | (go_at_call 55; exact Calls.regrown_of (HCG.out _ (below_regrown wa _ _))) | fail)))
          refine wpQuiet_nil ?_
          intro _ hw'
          obtain ⟨⟨dq, osq⟩, hw''⟩ := hw'
          subst hw''
          go_wp2_with fail
          go_meet
          exact ⟨_, rfl, HR, below_regrown wa dq osq⟩
        | true =>
        have HCG := Lib.hid (fun W (hW : Below wa.heap.size wa W) => good_as _ (ch X) true g3 W (LAmendment.Is.below HIA.out hW) HFX.out)
        cases g4 : fits l (ch X) with
        | false =>
          have HR := Lib.hid (res_bad HX.out HL.out (ok4 g4))
          have HCF := Lib.hid (fun W (hW : Below wa.heap.size wa W) => fits_as _ _ l (ch X) false g4 W (IsQ.below HTA.out hW) (LAmendment.Is.below HIA.out hW) g3 hTL)
          clear g3 g4
          refine wp_region_quiet_below (by kernel_rfl) (by kernel_rfl) ?_
          repeat (go_big_quiet_step ((first | (go_at_call 93; exact regrown_eq (in_as _ _ _ _ (by assumption) _)) | (go_at_call 55; exact Calls.regrown_of (HCG.out _ (below_regrown wa _ _))) | (go_at_call 81; exact Calls.regrown_of (HCF.out _ (below_regrown wa _ _))) | fail)))
          refine wpQuiet_nil ?_
          intro _ hw'
          obtain ⟨⟨dq, osq⟩, hw''⟩ := hw'
          subst hw''
          go_wp2_with fail
          go_meet
          exact ⟨_, rfl, HR, below_regrown wa dq osq⟩
        | true =>
        have HCF := Lib.hid (fun W (hW : Below wa.heap.size wa W) => fits_as _ _ l (ch X) true g4 W (IsQ.below HTA.out hW) (LAmendment.Is.below HIA.out hW) g3 hTL)
        have HOK := Lib.hid (ok5 g1 g2 g3 g4)
        have HID := Lib.hid (inB_yes g1).1
        clear g3 g4
        by_cases hz : k = 0
        · have HR := Lib.hid (res_ok HX.out HL.out HOK.out (by rw [hz]; exact HID.out))
          have kz : ¬ 0 < (k : Int) := by omega
          have kz2 : ¬ 0 < k := by omega
          have kz3 : decide (0 < (k : Int)) = false := decide_eq_false kz
          clear hz
          refine wp_region_quiet_below (by kernel_rfl) (by kernel_rfl) ?_
          repeat (go_big_quiet_step ((first | (go_at_call 93; exact regrown_eq (in_as _ _ _ _ (by assumption) _)) | (go_at_call 55; exact Calls.regrown_of (HCG.out _ (below_regrown wa _ _))) | (go_at_call 81; exact Calls.regrown_of (HCF.out _ (below_regrown wa _ _))) | fail)))
          refine wpQuiet_nil ?_
          intro _ hw'
          obtain ⟨⟨dq, osq⟩, hw''⟩ := hw'
          subst hw''
          go_wp2_with fail
          go_meet
          exact ⟨_, rfl, HR, below_regrown wa dq osq⟩
        · have kz : 0 < (k : Int) := by omega
          have kz2 : 0 < k := by omega
          have kz3 : decide (0 < (k : Int)) = true := decide_eq_true kz
          have hxp : k - 1 < z.length := by omega
          obtain ⟨b', o', c', x', y', s', he, hbl', hat', -⟩ := hc.out (k - 1) z[k - 1] (List.getElem?_eq_getElem hxp)
          simp only [Value.slice.injEq, Option.some.injEq, Addr.mk.injEq, and_true] at he
          obtain ⟨⟨rfl, rfl⟩, -⟩ := he
          have p0 := fun d os => (LProposalS.cells_hd (hat'.below LProposalS.kit.row (hb2.trans ((below_regrown wa d os).mono hb2.size)) hbl')).1
          have HXP := Lib.hid (List.getElem?_eq_getElem hxp)
          clear hat'
          generalize z[k - 1] = Y at *
          have HPV := Lib.hid (prev_at (by omega) HXP.out)
          have s1 : IntKind.i64.wrap ((k : Int) - 1) = (k : Int) - 1 := IntWalk.i64_in _ (by omega)
          have s2 : ((k : Int) - 1).toNat = k - 1 := by omega
          have s3 : 0 ≤ (k : Int) - 1 := by omega
          have s4 : (k : Int) - 1 < (n : Int) := by omega
          by_cases hle2 : X.id ≤ Y.id
          · have HR := Lib.hid (res_old HX.out HL.out (by rw [HPV.out]; omega))
            refine wp_region_quiet_below (by kernel_rfl) (by kernel_rfl) ?_
            repeat (go_big_quiet_step ((first | (go_at_call 93; exact regrown_eq (in_as _ _ _ _ (by assumption) _)) | (go_at_call 55; exact Calls.regrown_of (HCG.out _ (below_regrown wa _ _))) | (go_at_call 81; exact Calls.regrown_of (HCF.out _ (below_regrown wa _ _))) | fail)))
            refine wpQuiet_nil ?_
            intro _ hw'
            obtain ⟨⟨dq, osq⟩, hw''⟩ := hw'
            subst hw''
            go_wp2_with fail
            go_meet
            exact ⟨_, rfl, HR, below_regrown wa dq osq⟩
          · have HR := Lib.hid (res_ok HX.out HL.out HOK.out (by rw [HPV.out]; omega))
            refine wp_region_quiet_below (by kernel_rfl) (by kernel_rfl) ?_
            repeat (go_big_quiet_step ((first | (go_at_call 93; exact regrown_eq (in_as _ _ _ _ (by assumption) _)) | (go_at_call 55; exact Calls.regrown_of (HCG.out _ (below_regrown wa _ _))) | (go_at_call 81; exact Calls.regrown_of (HCF.out _ (below_regrown wa _ _))) | fail)))
            refine wpQuiet_nil ?_
            intro _ hw'
            obtain ⟨⟨dq, osq⟩, hw''⟩ := hw'
            subst hw''
            go_wp2_with fail
            go_meet
            exact ⟨_, rfl, HR, below_regrown wa dq osq⟩
      case rest =>
        obtain ⟨v, rfl, HR, hbv⟩ := hcut
        have hb3 := hb2.trans (hbv.mono hb2.size)
        cases v with
        | true =>
          have HB := Lib.hid (show propsB l z = false by rw [HG.out]; exact HR.out.1 rfl)
          go_wp2_with fail
          go_ret
          exact ⟨ret_bool HB.out.symm, hb3⟩
        | false =>
          have HL2 := Lib.hid (HR.out.2 rfl)
          go_wp2_with fail
          go_roundw
          case rel => exact ⟨k + 1, by omega, by go_num, HL2, hb3⟩
          case measure => simp [intOf]; omega
    · have HB := Lib.hid (show propsB l z = true by rw [HG.out]; exact left_end HL.out (by have := HN.out; omega))
      go_wp2_with fail
      go_ret
      exact ⟨ret_bool HB.out.symm, hb⟩
set_option maxRecDepth 100000 in
set_option maxHeartbeats 1600000 in
theorem areProposals (v v1 : Value) (l : T) (z : List P) (w : World) (h : IsQ LString.rec w v l) (h1 : LProposalS.Is w v1 z) (ft : ∀ x ∈ l, LString.Fine x) (f1 : ∀ x ∈ z, LProposal.Fine x) (hl : l.length ≤ 1048576) :
    Calls Tryd.prog 20 #[v, v1] w fun e w' => e = .returned (.bool (propsB l z)) ∧ Below w.heap.size w w' := by
  obtain ⟨ao, nt, ct, rfl⟩ := isq_slice h
  have HTQ := Lib.hid h
  have HFT := Lib.hid ft
  have hTL := hl
  clear h ft hl
  have hc := LProposalS.get h1
  obtain ⟨a, cp, rfl, hnb, h2⟩ := h1.form
  unfold maxLen at h2
  obtain ⟨n, hn⟩ : ∃ n, n = z.length := ⟨_, rfl⟩
  have HN := Lib.hid hn.symm
  have HF := Lib.hid f1
  have HLI := Lib.hid h1
  rw [← hn] at hc hnb HLI ⊢
  have hle : n ≤ z.length := by omega
  clear hn h1 f1
  have HC1 := Lib.hid (AmA.isText _ l w (IsQ.is HTQ.out) HFT.out)
  cases g1 : textB l with
  | false =>
    have HG := Lib.hid (props1 (l := z) g1)
    rw [g1] at HC1
    go_enter Tryd.func20, Tryd.ntmps20
    go_wp2_with fail
    refine HC1.out.mono ?_
    rintro e _ ⟨rfl, rfl⟩
    go_wp2_with fail
    go_ret
    exact ⟨ret_bool HG.out.symm, Below.refl _ _⟩
  | true =>
  rw [g1] at HC1
  by_cases h8 : 8 < n
  · have HG := Lib.hid (props2 (t := l) (l := z) (by have := HN.out; omega))
    go_enter Tryd.func20, Tryd.ntmps20
    go_wp2_with fail
    refine HC1.out.mono ?_
    rintro e _ ⟨rfl, rfl⟩
    go_wp2_with fail
    go_ret
    exact ⟨ret_bool HG.out.symm, Below.refl _ _⟩
  have HG := Lib.hid (props_mk (l := z) g1 (by have := HN.out; omega))
  have HTX := Lib.hid g1
  clear g1
  go_enter Tryd.func20, Tryd.ntmps20
  go_wp2_with fail
  refine HC1.out.mono ?_
  rintro e _ ⟨rfl, rfl⟩
  go_wp2_with fail
  go_loopw [5, 20] (fun p i wr => ∃ (k : Nat) (B : Int), k ≤ n ∧ p = .int .i64 B ∧ i = .int .i64 k ∧ Hid (LeftP l z k ∧ prevId z k = B ∧ 0 ≤ B) ∧ Below w.heap.size w wr) (fun _ i _ => n - (intOf i).toNat)
  case atStart => exact ⟨0, 0, Nat.zero_le _, rfl, rfl, Lib.hid ⟨left_zero l z, rfl, Int.le_refl _⟩, Below.refl _ _⟩
  case round =>
    obtain ⟨k, B, hk, rfl, rfl, HL, hb⟩ := hrel
    by_cases hlt : k < n
    · have k0 : 0 ≤ (k : Int) := by omega
      have k1 : (k : Int) < (n : Int) := by omega
      have hx : k < z.length := by omega
      obtain ⟨b, o, c, x, y, s, he, hbl, hat, hI⟩ := hc.out k z[k] (List.getElem?_eq_getElem hx)
      simp only [Value.slice.injEq] at he
      obtain ⟨rfl, -, rfl⟩ := he
      obtain ⟨q0, q1, q2, q3, q4, q5⟩ := LProposalS.cells_hd (hat.below LProposalS.kit.row hb hbl)
      have HX := Lib.hid (List.getElem?_eq_getElem hx)
      have HFX := Lib.hid (HF.out _ (List.getElem_mem hx))
      have HIX := Lib.hid (is_ch (LProposal.Is.below hI hb))
      clear hat hI
      generalize z[k] = X at *
      obtain ⟨wa, hwa⟩ : ∃ wa : World, wa = wr.alloc (Obj.cells #[.int .i64 X.id, .int .i64 X.kind, .int .i64 X.pos, .int .i64 X.count, .slice x y s, .int .i64 X.weight] 42) := ⟨_, rfl⟩
      have hba : Below wr.heap.size wr wa := by rw [hwa]; exact (Below.refl _ _).alloc (Nat.le_refl _) _
      have BX := Lib.hid (show Bx wa wr.heap.size 42 #[.int .i64 X.id, .int .i64 X.kind, .int .i64 X.pos, .int .i64 X.count, .slice x y s, .int .i64 X.weight] by rw [hwa]; exact Bx.new _ _ _)
      have hb2 := hb.trans (hba.mono hb.size)
      have HCF := Lib.hid (AmF.fitsText _ _ l (ch X) wa (IsQ.below HTQ.out hb2) (LAmendment.Is.below HIX.out hba) HFT.out HFX.out hTL)
      go_upto_region 7 with fail
      rw [← hwa]
      clear hwa q0 q1 q2 q3 q4 q5
      have q0 := BX.out.cell 0
      have q1 := BX.out.cell 1
      have q2 := BX.out.cell 2
      have q3 := BX.out.cell 3
      have q4 := BX.out.cell 4
      have q5 := BX.out.cell 5
      simp only [List.getElem?_toArray, List.getElem?_cons_zero, List.getElem?_cons_succ] at q0 q1 q2 q3 q4 q5
      by_cases i1 : X.id ≤ B
      · have HB := Lib.hid (show propsB l z = false by rw [HG.out]; exact left_bad2 HL.out.1 HX.out (by rw [HL.out.2.1]; omega))
        go_wp2_with fail
        go_ret
        exact ⟨ret_bool HB.out.symm, hb2⟩
      by_cases i2 : 99 < X.id
      · have HB := Lib.hid (show propsB l z = false by rw [HG.out]; exact left_bad HL.out.1 HX.out (ok1 (inB_not (by omega))))
        go_wp2_with fail
        go_ret
        exact ⟨ret_bool HB.out.symm, hb2⟩
      by_cases i3 : X.weight < 1
      · have HB := Lib.hid (show propsB l z = false by rw [HG.out]; exact left_bad HL.out.1 HX.out (ok2 (inB_not (by omega))))
        go_wp2_with fail
        go_ret
        exact ⟨ret_bool HB.out.symm, hb2⟩
      by_cases i4 : 100 < X.weight
      · have HB := Lib.hid (show propsB l z = false by rw [HG.out]; exact left_bad HL.out.1 HX.out (ok2 (inB_not (by omega))))
        go_wp2_with fail
        go_ret
        exact ⟨ret_bool HB.out.symm, hb2⟩
      have hB0 := HL.out.2.2
      have HID := Lib.hid (show inB X.id 1 99 = true ∧ inB X.weight 1 100 = true from ⟨inB_mk (by omega) (by omega), inB_mk (by omega) (by omega)⟩)
      have HAB := Lib.hid (show prevId z k < X.id by rw [HL.out.2.1]; omega)
      have HX0 := Lib.hid (show 0 ≤ X.id by omega)
      cases g : (good (ch X) && fits l (ch X)) with
      | false =>
        have HB := Lib.hid (show propsB l z = false by
          rw [HG.out]
          refine left_bad HL.out.1 HX.out ?_
          cases h3 : good (ch X) with
          | false => exact ok3 h3
          | true => exact ok4 (by rw [h3] at g; exact g))
        rw [HTX.out, g] at HCF
        clear g
        go_wp2_with fail
        refine HCF.out.mono ?_
        rintro e w1 ⟨rfl, hb1⟩
        have hb3 := hb2.trans (hb1.mono hb2.size)
        clear hb1 q0 q1 q2 q3 q4 q5
        go_wp2_with fail
        go_ret
        exact ⟨ret_bool HB.out.symm, hb3⟩
      | true =>
        have HL2 := Lib.hid (show LeftP l z (k + 1) ∧ prevId z (k + 1) = X.id ∧ 0 ≤ X.id by
          rw [Bool.and_eq_true] at g
          exact ⟨left_next HL.out.1 HX.out (ok5 HID.out.1 HID.out.2 g.1 g.2) HAB.out, prev_next HX.out, HX0.out⟩)
        rw [HTX.out, g] at HCF
        clear g
        go_wp2_with fail
        refine HCF.out.mono ?_
        rintro e w1 ⟨rfl, hb1⟩
        have hb3 := hb2.trans (hb1.mono hb2.size)
        have BX2 := BX.out.kept hb1
        clear hb1 q0 q1 q2 q3 q4 q5
        have q0 := BX2.cell 0
        have q1 := BX2.cell 1
        have q2 := BX2.cell 2
        have q3 := BX2.cell 3
        have q4 := BX2.cell 4
        have q5 := BX2.cell 5
        simp only [List.getElem?_toArray, List.getElem?_cons_zero, List.getElem?_cons_succ] at q0 q1 q2 q3 q4 q5
        go_wp2_with fail
        go_roundw
        case rel => exact ⟨k + 1, X.id, by omega, rfl, by go_num, HL2, hb3⟩
        case measure => simp [intOf]; omega
    · have HB := Lib.hid (show propsB l z = true by rw [HG.out]; exact left_end HL.out.1 (by have := HN.out; omega))
      go_wp2_with fail
      go_ret
      exact ⟨ret_bool HB.out.symm, hb⟩
end Go.Proofs.YtclpdpfnlmfogaaDoor.CfG
