/- FnExactApplyAmendment: the law's walk, for every slice, every struct. -/
import Derived.Test.YtfkppgnffhbfjaaApplyAmendmentC
import Derived.Test.YtfkppgnffhbfjaaBx
import Derived.Test.YtfkppgnffhbfjaaLAmendmentE
import Derived.Test.YtfkppgnffhbfjaaLAmendmentM
import Derived.Test.YtfkppgnffhbfjaaLAmendmentO
import Derived.Test.YtfkppgnffhbfjaaLAmendmentT
import Derived.Test.YtfkppgnffhbfjaaLAmendmentZ
import Derived.Test.YtfkppgnffhbfjaaLStringE
import Derived.Test.YtfkppgnffhbfjaaLStringM
import Derived.Test.YtfkppgnffhbfjaaLStringO
import Derived.Test.YtfkppgnffhbfjaaLStringT
import Derived.Test.YtfkppgnffhbfjaaLStringZ
import Derived.Test.YtfkppgnffhbfjaaLStringZs
import Derived.Deep.RegionHeld3
import Derived.Deep.DeepCutAuto
import Derived.Test.YtfkppgnffhbfjaaHeld
import Derived.Test.YtfkppgnffhbfjaaBx
namespace Go.Proofs.Ytfkppgnffhbfjaa.fnExactApplyAmendment
open Go.RowKit Bs
set_option linter.unusedVariables false
set_option maxRecDepth 100000 in
set_option maxHeartbeats 12800000 in
theorem walk (a0 : Option Addr) (len0 cap0 : Nat) (z0 : List ByteArray) (a1_3 : Option Addr) (len1_3 cap1_3 : Nat) (z1 : LAmendment.R) (w : World) (sh : w.ShapedOpen Try.prog) (w0 : LString.IsIn w a0 len0 cap0 z0) (w1 : LAmendment.IsIn w a1_3 len1_3 cap1_3 z1) :
    Calls Try.prog 6 #[.slice a0 len0 cap0, .agg #[.int .i64 z1.kind, .int .i64 z1.pos, .int .i64 z1.count, .slice a1_3 len1_3 cap1_3]] w fun e w' => e = .returned (.bool true) ∧ Below w.heap.size w w' := by
  have HA0 := Lib.hid (LString.IsIn.is w0).loc
  have HF0 := Lib.hid (show ∀ x ∈ z0, LString.Fine x from fun x hx => LString.fine_of (w0.2.2 x hx))
  have HL0 := Lib.hid w0.1
  have HA1 := Lib.hid (LAmendment.Is.loc (LAmendment.IsIn.is w1))
  have HF1 := Lib.hid (LAmendment.IsIn.fine w1)
  have HL1_3 := Lib.hid (LAmendment.IsIn.len3 w1)
  clear sh w0 w1
  go_enter Try.func6, Try.ntmps6
  replace HA0 := Lib.hid (HA0.out.alloc (.cells #[.int .i64 z1.kind, .int .i64 z1.pos, .int .i64 z1.count, .slice a1_3 len1_3 cap1_3] 28))
  replace HA1 := Lib.hid (HA1.out.alloc (.cells #[.int .i64 z1.kind, .int .i64 z1.pos, .int .i64 z1.count, .slice a1_3 len1_3 cap1_3] 28))
  have HX1 := Lib.hid (Bx.loc (Bx.new w 28 #[.int .i64 z1.kind, .int .i64 z1.pos, .int .i64 z1.count, .slice a1_3 len1_3 cap1_3]))
  have hb := (Below.refl w.heap.size w).alloc (Nat.le_refl _) (Obj.cells #[.int .i64 z1.kind, .int .i64 z1.pos, .int .i64 z1.count, .slice a1_3 len1_3 cap1_3] 28)
  have q1_0 := HX1.out.now.cell 0
  have q1_1 := HX1.out.now.cell 1
  have q1_2 := HX1.out.now.cell 2
  have q1_3 := HX1.out.now.cell 3
  simp only [List.getElem?_toArray, List.getElem?_cons_zero, List.getElem?_cons_succ] at q1_0 q1_1 q1_2 q1_3
  go_wp2_with fail
  refine (LString.szS _ z0 _ _ (by omega) (by omega) HA0.out.now HF0.out).mono ?_
  rintro e w1_ ⟨hb1, x, rfl, ⟨hx0, hxl⟩ | ⟨rfl, hxl⟩⟩
  · clear hxl
    go_wp2_with fail
    go_ret
    exact ⟨rfl, hb.trans (hb1.mono hb.size)⟩
  have hbud0 := hxl
  clear hxl
  replace HA0 := Lib.hid (HA0.out.kept hb1)
  replace HA1 := Lib.hid (HA1.out.kept hb1)
  replace HX1 := Lib.hid (HX1.out.kept hb1)
  clear q1_0 q1_1 q1_2 q1_3
  have q1_0 := HX1.out.now.cell 0
  have q1_1 := HX1.out.now.cell 1
  have q1_2 := HX1.out.now.cell 2
  have q1_3 := HX1.out.now.cell 3
  simp only [List.getElem?_toArray, List.getElem?_cons_zero, List.getElem?_cons_succ] at q1_0 q1_1 q1_2 q1_3
  have HZ1 := Lib.hid (show w.heap.size + 1 ≤ w1_.heap.size by have := hb1.size; simp at this; omega)
  replace hb := hb.trans (hb1.mono hb.size)
  clear hb1
  go_wp2_with fail
  refine (LAmendment.sz _ z1 _ _ (by omega) (by omega) HA1.out.now HF1.out).mono ?_
  rintro e w2_ ⟨hb1, x, rfl, ⟨hx0, hxl⟩ | ⟨rfl, hxl⟩⟩
  · clear hxl
    go_wp2_with fail
    go_ret
    exact ⟨rfl, hb.trans (hb1.mono hb.size)⟩
  have hbud1 := hxl
  clear hxl
  have hzl1_3 : z1.words.length ≤ 1048576 := by (have h0 : LAmendment.wt z1 = (z1.words.length + LString.tot z1.words) := rfl); omega
  replace HA0 := Lib.hid (HA0.out.kept hb1)
  replace HA1 := Lib.hid (HA1.out.kept hb1)
  replace HX1 := Lib.hid (HX1.out.kept hb1)
  clear q1_0 q1_1 q1_2 q1_3
  have q1_0 := HX1.out.now.cell 0
  have q1_1 := HX1.out.now.cell 1
  have q1_2 := HX1.out.now.cell 2
  have q1_3 := HX1.out.now.cell 3
  simp only [List.getElem?_toArray, List.getElem?_cons_zero, List.getElem?_cons_succ] at q1_0 q1_1 q1_2 q1_3
  have HZ2 := Lib.hid hb1.size
  replace hb := hb.trans (hb1.mono hb.size)
  clear hb1
  go_wp2_with fail
  go_cut [6, 7] (fun s6 s7 wx => ∃ (v0 : Value) (r0 : List ByteArray) (r1 : Bool), s6 = v0 ∧ s7 = .bool r1 ∧ ApplyAmendmentC.Ans z0 z1 r0 r1 ∧ Own LString.rec 9 wx w2_.heap.size v0 r0 ∧ Below w2_.heap.size w2_ wx)
  case first =>
    have HK := Lib.hid (show ∀ w' : World, Below w2_.heap.size w2_ w' → Below w2_.heap.size w2_ w' ∧ w'.cell? ⟨w.heap.size, 0, none⟩ = some (.int .i64 z1.kind) ∧ w'.cell? ⟨w.heap.size, 1, none⟩ = some (.int .i64 z1.pos) ∧ w'.cell? ⟨w.heap.size, 2, none⟩ = some (.int .i64 z1.count) ∧ w'.cell? ⟨w.heap.size, 3, none⟩ = some (.slice a1_3 len1_3 cap1_3) from fun w' hb => ⟨hb, by (have h := (HX1.out.kept hb).now.cell 0); simpa using h, by (have h := (HX1.out.kept hb).now.cell 1); simpa using h, by (have h := (HX1.out.kept hb).now.cell 2); simpa using h, by (have h := (HX1.out.kept hb).now.cell 3); simpa using h⟩)
    have hB : Below w2_.heap.size w2_ w2_.drew := (Below.refl _ _).drew
    refine wp_region_held_drew (S := fun w' => Below w2_.heap.size w2_ w' ∧ w'.cell? ⟨w.heap.size, 0, none⟩ = some (.int .i64 z1.kind) ∧ w'.cell? ⟨w.heap.size, 1, none⟩ = some (.int .i64 z1.pos) ∧ w'.cell? ⟨w.heap.size, 2, none⟩ = some (.int .i64 z1.count) ∧ w'.cell? ⟨w.heap.size, 3, none⟩ = some (.slice a1_3 len1_3 cap1_3)) (by kernel_rfl) (HK.out _ hB) (fun hHeld => ?_)
    generalize w2_.drew = x0 at *
    refine wpAnyH_take (i := 0) (v := ?v1) rfl (by kernel_rfl) (by kernel_rfl) (by kernel_rfl) (fun _ _ _ h => h) (Or.inl ⟨by rfl, ?hy1⟩) (by assumption) ?rest1
    case hy1 => (intro wq hSw; (try dsimp only at hSw); go_split_ands; go_simp; (try with_reducible rfl))
    case rest1 =>
    refine wpAnyH_take (i := 2) (v := ?v2) rfl (by kernel_rfl) (by kernel_rfl) (by kernel_rfl) (fun _ _ _ h => h) (Or.inl ⟨by rfl, ?hy2⟩) (by assumption) ?rest2
    case hy2 => (intro wq hSw; (try dsimp only at hSw); go_split_ands; go_simp; (try with_reducible rfl))
    case rest2 =>
    refine wpAnyH_ready (rs := [1]) (by kernel_rfl) (by simp) ?_
    refine AllReadyH.cons rfl (fun K hK => ?step3) ?more3
    case step3 =>
      go_simp
      go_at_call 13
      refine (LString.toS _ z0 _ (HA0.out.kept hB).now (by omega)).mono ?_
      rintro e x1 ⟨u0, rfl, hn0, ho0, hbc⟩
      replace hB := hB.trans (hbc.mono hB.size)
      clear hbc
      go_wp2_with fail
      refine hK.out _ _ (HK.out _ hB) (fun hHeld => ?_)
      clear hK K
      refine wpAnyH_ready (rs := [3]) (by kernel_rfl) (by simp) ?_
      refine AllReadyH.cons rfl (fun K hK => ?step4) ?more4
      case step4 =>
        go_simp
        go_at_call 18
        refine (LAmendment.to _ z1 _ (HA1.out.kept hB).now (by omega)).mono ?_
        rintro e x2 ⟨u1, rfl, hn1, ho1, hbc⟩
        replace ho0 := ho0.kept hbc
        replace hB := hB.trans (hbc.mono hB.size)
        clear hbc
        go_wp2_with fail
        refine hK.out _ _ (HK.out _ hB) (fun hHeld => ?_)
        clear hK K
        refine wpAnyH_ready (rs := [4]) (by kernel_rfl) (by simp) ?_
        refine AllReadyH.cons rfl (fun K hK => ?step5) ?more5
        case step5 =>
          go_simp
          go_at_call 23
          refine (ApplyAmendmentC.spec u0 z0 u1 z1 _ (ho0.isS hn0) HF0.out (by omega) ho1.isQ HF1.out (by omega)).mono ?_
          rintro e x3 ⟨v0_, r0_, r1_, rfl, hans, hoz0, hbc⟩
          replace ho0 := ho0.kept hbc
          replace ho1 := ho1.kept hbc
          replace hoz0 := hoz0.low hB.size
          replace hB := hB.trans (hbc.mono hB.size)
          clear hbc
          go_wp2_with fail
          refine hK.out _ _ (HK.out _ hB) (fun hHeld => ?_)
          clear hK K
          refine wpAnyH_take (i := 5) (v := ?v6) rfl (by kernel_rfl) (by kernel_rfl) (by kernel_rfl) (fun _ _ _ h => h) (Or.inl ⟨by rfl, ?hy6⟩) (by assumption) ?rest6
          case hy6 => (intro wq hSw; (try dsimp only at hSw); go_split_ands; go_simp; (try with_reducible rfl))
          case rest6 =>
          refine wpAnyH_take (i := 6) (v := ?v7) rfl (by kernel_rfl) (by kernel_rfl) (by kernel_rfl) (fun _ _ _ h => h) (Or.inl ⟨by rfl, ?hy7⟩) (by assumption) ?rest7
          case hy7 => (intro wq hSw; (try dsimp only at hSw); go_split_ands; go_simp; (try with_reducible rfl))
          case rest7 =>
          refine wpAnyH_take (i := 7) (v := ?v8) rfl (by kernel_rfl) (by kernel_rfl) (by kernel_rfl) (fun _ _ _ h => h) (Or.inl ⟨by rfl, ?hy8⟩) (by assumption) ?rest8
          case hy8 => (intro wq hSw; (try dsimp only at hSw); go_split_ands; go_simp; (try with_reducible rfl))
          case rest8 =>
          refine wpAnyH_take (i := 8) (v := ?v9) rfl (by kernel_rfl) (by kernel_rfl) (by kernel_rfl) (fun _ _ _ h => h) (Or.inl ⟨by rfl, ?hy9⟩) (by assumption) ?rest9
          case hy9 => (intro wq hSw; (try dsimp only at hSw); go_split_ands; go_simp; (try with_reducible rfl))
          case rest9 =>
          refine wpAnyH_take (i := 9) (v := ?v10) rfl (by kernel_rfl) (by kernel_rfl) (by kernel_rfl) (fun _ _ _ h => h) (Or.inl ⟨by rfl, ?hy10⟩) (by assumption) ?rest10
          case hy10 => (intro wq hSw; (try dsimp only at hSw); go_split_ands; go_simp; (try with_reducible rfl))
          case rest10 =>
          refine wpAnyH_done (by kernel_rfl) ?_ _
          go_wp2_with fail
          all_goals
            go_meet
            exact ⟨_, _, _, rfl, rfl, hans, hoz0, hB⟩
        case more5 => exact AllReadyH.nil
      case more4 => exact AllReadyH.nil
    case more3 => exact AllReadyH.nil
  case rest =>
  obtain ⟨v0_3, r0_3, r1_3, rfl, rfl, hans, ho0, hb1⟩ := hcut
  obtain ⟨w3_, hwc⟩ : ∃ x, x = wc := ⟨_, rfl⟩
  subst hwc
  have HS := Lib.hid hans
  have hlen0 := ApplyAmendmentC.len0 hans
  clear hans
  have HR0_3 := Lib.hid ho0.loc
  clear ho0
  replace HA0 := Lib.hid (HA0.out.kept hb1)
  replace HA1 := Lib.hid (HA1.out.kept hb1)
  replace HX1 := Lib.hid (HX1.out.kept hb1)
  clear q1_0 q1_1 q1_2 q1_3
  have q1_0 := HX1.out.now.cell 0
  have q1_1 := HX1.out.now.cell 1
  have q1_2 := HX1.out.now.cell 2
  have q1_3 := HX1.out.now.cell 3
  simp only [List.getElem?_toArray, List.getElem?_cons_zero, List.getElem?_cons_succ] at q1_0 q1_1 q1_2 q1_3
  have HZ3 := Lib.hid hb1.size
  replace hb := hb.trans (hb1.mono hb.size)
  clear hb1
  have hne1 : (r1_3 != r1_3) = false := by simp
  go_wp2_with fail
  refine (LString.toS _ z0 _ HA0.out.now (by omega)).mono ?_
  rintro e w4_ ⟨u4, rfl, hnn4, ho, hb1⟩
  replace hnn4 := Lib.hid hnn4
  have HC4 := Lib.hid ho.loc
  clear ho
  replace HA0 := Lib.hid (HA0.out.kept hb1)
  replace HA1 := Lib.hid (HA1.out.kept hb1)
  replace HX1 := Lib.hid (HX1.out.kept hb1)
  replace HR0_3 := Lib.hid (HR0_3.out.kept hb1)
  clear q1_0 q1_1 q1_2 q1_3
  have q1_0 := HX1.out.now.cell 0
  have q1_1 := HX1.out.now.cell 1
  have q1_2 := HX1.out.now.cell 2
  have q1_3 := HX1.out.now.cell 3
  simp only [List.getElem?_toArray, List.getElem?_cons_zero, List.getElem?_cons_succ] at q1_0 q1_1 q1_2 q1_3
  have HZ4 := Lib.hid hb1.size
  replace hb := hb.trans (hb1.mono hb.size)
  clear hb1
  go_wp2_with fail
  refine (LAmendment.to _ z1 _ HA1.out.now (by omega)).mono ?_
  rintro e w5_ ⟨u5, rfl, hnn5, ho, hb1⟩
  replace hnn5 := Lib.hid hnn5
  have HC5 := Lib.hid ho.loc
  clear ho
  replace HA0 := Lib.hid (HA0.out.kept hb1)
  replace HA1 := Lib.hid (HA1.out.kept hb1)
  replace HX1 := Lib.hid (HX1.out.kept hb1)
  replace HR0_3 := Lib.hid (HR0_3.out.kept hb1)
  replace HC4 := Lib.hid (HC4.out.kept hb1)
  clear q1_0 q1_1 q1_2 q1_3
  have q1_0 := HX1.out.now.cell 0
  have q1_1 := HX1.out.now.cell 1
  have q1_2 := HX1.out.now.cell 2
  have q1_3 := HX1.out.now.cell 3
  simp only [List.getElem?_toArray, List.getElem?_cons_zero, List.getElem?_cons_succ] at q1_0 q1_1 q1_2 q1_3
  have HZ5 := Lib.hid hb1.size
  replace hb := hb.trans (hb1.mono hb.size)
  clear hb1
  obtain ⟨fa5_3, fn5_3, fc5_3, rfl⟩ := HC5.out.now.1.form
  have o1_0 := q1_0
  have o1_1 := q1_1
  have o1_2 := q1_2
  have o1_3 := q1_3
  have ol1 := HX1.out.le
  have hbx := (Below.refl w5_.heap.size w5_).alloc (Nat.le_refl _) (Obj.cells #[.int .i64 z1.kind, .int .i64 z1.pos, .int .i64 z1.count, .slice fa5_3 fn5_3 fc5_3] 31)
  replace HA0 := Lib.hid (HA0.out.kept hbx)
  replace HA1 := Lib.hid (HA1.out.kept hbx)
  replace HX1 := Lib.hid (HX1.out.kept hbx)
  replace HR0_3 := Lib.hid (HR0_3.out.kept hbx)
  replace HC4 := Lib.hid (HC4.out.kept hbx)
  replace HC5 := Lib.hid (HC5.out.kept hbx)
  have HXx1 := Lib.hid (Bx.loc (Bx.new w5_ 31 #[.int .i64 z1.kind, .int .i64 z1.pos, .int .i64 z1.count, .slice fa5_3 fn5_3 fc5_3]))
  have HZ6 := Lib.hid (show w5_.heap.size + 1 ≤ (w5_.alloc (Obj.cells #[.int .i64 z1.kind, .int .i64 z1.pos, .int .i64 z1.count, .slice fa5_3 fn5_3 fc5_3] 31)).heap.size by simp)
  replace hb := hb.trans (hbx.mono hb.size)
  clear hbx
  clear q1_0 q1_1 q1_2 q1_3
  have q1_0 := HX1.out.now.cell 0
  have q1_1 := HX1.out.now.cell 1
  have q1_2 := HX1.out.now.cell 2
  have q1_3 := HX1.out.now.cell 3
  simp only [List.getElem?_toArray, List.getElem?_cons_zero, List.getElem?_cons_succ] at q1_0 q1_1 q1_2 q1_3
  have qx1_0 := HXx1.out.now.cell 0
  have qx1_1 := HXx1.out.now.cell 1
  have qx1_2 := HXx1.out.now.cell 2
  have qx1_3 := HXx1.out.now.cell 3
  simp only [List.getElem?_toArray, List.getElem?_cons_zero, List.getElem?_cons_succ] at qx1_0 qx1_1 qx1_2 qx1_3
  go_wp2_with fail
  clear o1_0 o1_1 o1_2 o1_3 ol1
  generalize w5_.alloc (Obj.cells #[.int .i64 z1.kind, .int .i64 z1.pos, .int .i64 z1.count, .slice fa5_3 fn5_3 fc5_3] 31) = w6_ at *
  refine (ApplyAmendmentC.impl _ z0 _ z1 _ (HC4.out.now.1.isS hnn4.out) HF0.out (by omega) (HC5.out.now.1.isQ) HF1.out (by omega)).mono ?_
  rintro e w7_ ⟨v0_7, r0_7, r1_7, rfl, hans, ho0, hb1⟩
  obtain ⟨rfl, rfl⟩ := ApplyAmendmentC.same HS.out hans
  clear hans
  have HR0_7 := Lib.hid ho0.loc
  clear ho0
  replace HA0 := Lib.hid (HA0.out.kept hb1)
  replace HA1 := Lib.hid (HA1.out.kept hb1)
  replace HX1 := Lib.hid (HX1.out.kept hb1)
  replace HR0_3 := Lib.hid (HR0_3.out.kept hb1)
  replace HC4 := Lib.hid (HC4.out.kept hb1)
  replace HC5 := Lib.hid (HC5.out.kept hb1)
  replace HXx1 := Lib.hid (HXx1.out.kept hb1)
  clear q1_0 q1_1 q1_2 q1_3
  have q1_0 := HX1.out.now.cell 0
  have q1_1 := HX1.out.now.cell 1
  have q1_2 := HX1.out.now.cell 2
  have q1_3 := HX1.out.now.cell 3
  simp only [List.getElem?_toArray, List.getElem?_cons_zero, List.getElem?_cons_succ] at q1_0 q1_1 q1_2 q1_3
  clear qx1_0 qx1_1 qx1_2 qx1_3
  have qx1_0 := HXx1.out.now.cell 0
  have qx1_1 := HXx1.out.now.cell 1
  have qx1_2 := HXx1.out.now.cell 2
  have qx1_3 := HXx1.out.now.cell 3
  simp only [List.getElem?_toArray, List.getElem?_cons_zero, List.getElem?_cons_succ] at qx1_0 qx1_1 qx1_2 qx1_3
  have HZ7 := Lib.hid hb1.size
  replace hb := hb.trans (hb1.mono hb.size)
  clear hb1
  go_wp2_with fail
  refine (LString.eqS _ _ r0_3 _ HR0_7.out.now.1.is HR0_3.out.now.1.is).mono ?_
  rintro e w8_ ⟨rfl, hb1⟩
  replace HA0 := Lib.hid (HA0.out.kept hb1)
  replace HA1 := Lib.hid (HA1.out.kept hb1)
  replace HX1 := Lib.hid (HX1.out.kept hb1)
  replace HR0_3 := Lib.hid (HR0_3.out.kept hb1)
  replace HC4 := Lib.hid (HC4.out.kept hb1)
  replace HC5 := Lib.hid (HC5.out.kept hb1)
  replace HXx1 := Lib.hid (HXx1.out.kept hb1)
  replace HR0_7 := Lib.hid (HR0_7.out.kept hb1)
  clear q1_0 q1_1 q1_2 q1_3
  have q1_0 := HX1.out.now.cell 0
  have q1_1 := HX1.out.now.cell 1
  have q1_2 := HX1.out.now.cell 2
  have q1_3 := HX1.out.now.cell 3
  simp only [List.getElem?_toArray, List.getElem?_cons_zero, List.getElem?_cons_succ] at q1_0 q1_1 q1_2 q1_3
  clear qx1_0 qx1_1 qx1_2 qx1_3
  have qx1_0 := HXx1.out.now.cell 0
  have qx1_1 := HXx1.out.now.cell 1
  have qx1_2 := HXx1.out.now.cell 2
  have qx1_3 := HXx1.out.now.cell 3
  simp only [List.getElem?_toArray, List.getElem?_cons_zero, List.getElem?_cons_succ] at qx1_0 qx1_1 qx1_2 qx1_3
  have HZ8 := Lib.hid hb1.size
  replace hb := hb.trans (hb1.mono hb.size)
  clear hb1
  go_wp2_with fail
  refine (LString.toS _ z0 _ HA0.out.now (by omega)).mono ?_
  rintro e w9_ ⟨u9, rfl, hnn9, ho, hb1⟩
  replace hnn9 := Lib.hid hnn9
  have HC9 := Lib.hid ho.loc
  clear ho
  replace HA0 := Lib.hid (HA0.out.kept hb1)
  replace HA1 := Lib.hid (HA1.out.kept hb1)
  replace HX1 := Lib.hid (HX1.out.kept hb1)
  replace HR0_3 := Lib.hid (HR0_3.out.kept hb1)
  replace HC4 := Lib.hid (HC4.out.kept hb1)
  replace HC5 := Lib.hid (HC5.out.kept hb1)
  replace HXx1 := Lib.hid (HXx1.out.kept hb1)
  replace HR0_7 := Lib.hid (HR0_7.out.kept hb1)
  clear q1_0 q1_1 q1_2 q1_3
  have q1_0 := HX1.out.now.cell 0
  have q1_1 := HX1.out.now.cell 1
  have q1_2 := HX1.out.now.cell 2
  have q1_3 := HX1.out.now.cell 3
  simp only [List.getElem?_toArray, List.getElem?_cons_zero, List.getElem?_cons_succ] at q1_0 q1_1 q1_2 q1_3
  clear qx1_0 qx1_1 qx1_2 qx1_3
  have qx1_0 := HXx1.out.now.cell 0
  have qx1_1 := HXx1.out.now.cell 1
  have qx1_2 := HXx1.out.now.cell 2
  have qx1_3 := HXx1.out.now.cell 3
  simp only [List.getElem?_toArray, List.getElem?_cons_zero, List.getElem?_cons_succ] at qx1_0 qx1_1 qx1_2 qx1_3
  have HZ9 := Lib.hid hb1.size
  replace hb := hb.trans (hb1.mono hb.size)
  clear hb1
  go_wp2_with fail
  refine (LString.eqS _ _ z0 _ HC4.out.now.1.is HC9.out.now.1.is).mono ?_
  rintro e w10_ ⟨rfl, hb1⟩
  replace HA0 := Lib.hid (HA0.out.kept hb1)
  replace HA1 := Lib.hid (HA1.out.kept hb1)
  replace HX1 := Lib.hid (HX1.out.kept hb1)
  replace HR0_3 := Lib.hid (HR0_3.out.kept hb1)
  replace HC4 := Lib.hid (HC4.out.kept hb1)
  replace HC5 := Lib.hid (HC5.out.kept hb1)
  replace HXx1 := Lib.hid (HXx1.out.kept hb1)
  replace HR0_7 := Lib.hid (HR0_7.out.kept hb1)
  replace HC9 := Lib.hid (HC9.out.kept hb1)
  clear q1_0 q1_1 q1_2 q1_3
  have q1_0 := HX1.out.now.cell 0
  have q1_1 := HX1.out.now.cell 1
  have q1_2 := HX1.out.now.cell 2
  have q1_3 := HX1.out.now.cell 3
  simp only [List.getElem?_toArray, List.getElem?_cons_zero, List.getElem?_cons_succ] at q1_0 q1_1 q1_2 q1_3
  clear qx1_0 qx1_1 qx1_2 qx1_3
  have qx1_0 := HXx1.out.now.cell 0
  have qx1_1 := HXx1.out.now.cell 1
  have qx1_2 := HXx1.out.now.cell 2
  have qx1_3 := HXx1.out.now.cell 3
  simp only [List.getElem?_toArray, List.getElem?_cons_zero, List.getElem?_cons_succ] at qx1_0 qx1_1 qx1_2 qx1_3
  have HZ10 := Lib.hid hb1.size
  replace hb := hb.trans (hb1.mono hb.size)
  clear hb1
  go_wp2_with fail
  clear HC9
  go_cut [63] (fun t wx => t = .bool false ∧ Below w10_.heap.size w10_ wx)
  case first =>
    have hlt1 : w.heap.size < w10_.heap.size := HX1.out.le
    have hltx1 : w5_.heap.size < w10_.heap.size := HXx1.out.le
    have HK := Lib.hid (show ∀ w' : World, Below w10_.heap.size w10_ w' → Below w10_.heap.size w10_ w' ∧ w'.cell? ⟨w.heap.size, 0, none⟩ = some (.int .i64 z1.kind) ∧ w'.cell? ⟨w.heap.size, 1, none⟩ = some (.int .i64 z1.pos) ∧ w'.cell? ⟨w.heap.size, 2, none⟩ = some (.int .i64 z1.count) ∧ w'.cell? ⟨w.heap.size, 3, none⟩ = some (.slice a1_3 len1_3 cap1_3) ∧ w'.cell? ⟨w5_.heap.size, 0, none⟩ = some (.int .i64 z1.kind) ∧ w'.cell? ⟨w5_.heap.size, 1, none⟩ = some (.int .i64 z1.pos) ∧ w'.cell? ⟨w5_.heap.size, 2, none⟩ = some (.int .i64 z1.count) ∧ w'.cell? ⟨w5_.heap.size, 3, none⟩ = some (.slice fa5_3 fn5_3 fc5_3) from fun w' hb => ⟨hb, by rw [hb.cell (by assumption)]; exact q1_0, by rw [hb.cell (by assumption)]; exact q1_1, by rw [hb.cell (by assumption)]; exact q1_2, by rw [hb.cell (by assumption)]; exact q1_3, by rw [hb.cell (by assumption)]; exact qx1_0, by rw [hb.cell (by assumption)]; exact qx1_1, by rw [hb.cell (by assumption)]; exact qx1_2, by rw [hb.cell (by assumption)]; exact qx1_3⟩)
    go_region_held3 (fun w' => Below w10_.heap.size w10_ w' ∧ w'.cell? ⟨w.heap.size, 0, none⟩ = some (.int .i64 z1.kind) ∧ w'.cell? ⟨w.heap.size, 1, none⟩ = some (.int .i64 z1.pos) ∧ w'.cell? ⟨w.heap.size, 2, none⟩ = some (.int .i64 z1.count) ∧ w'.cell? ⟨w.heap.size, 3, none⟩ = some (.slice a1_3 len1_3 cap1_3) ∧ w'.cell? ⟨w5_.heap.size, 0, none⟩ = some (.int .i64 z1.kind) ∧ w'.cell? ⟨w5_.heap.size, 1, none⟩ = some (.int .i64 z1.pos) ∧ w'.cell? ⟨w5_.heap.size, 2, none⟩ = some (.int .i64 z1.count) ∧ w'.cell? ⟨w5_.heap.size, 3, none⟩ = some (.slice fa5_3 fn5_3 fc5_3)) ((refine HK.out _ ?_; (repeat (first | assumption | exact Below.refl _ _ | refine Below.drew ?_ | refine Below.alloc ?_ (by first | (simp; done) | (simp; omega) | omega) _)))) (first | ((go_at_call 18; refine (LAmendment.to _ z1 _ (HA1.out.kept (by (repeat (first | assumption | exact Below.refl _ _ | refine Below.drew ?_ | refine Below.alloc ?_ (by first | (simp; done) | (simp; omega) | omega) _)))).now (by omega)).mono ?_; rintro e wt ⟨u, rfl, hn, ho, hbt⟩; have hB : Below w10_.heap.size w10_ wt := Below.trans (by (repeat (first | assumption | exact Below.refl _ _ | refine Below.drew ?_ | refine Below.alloc ?_ (by first | (simp; done) | (simp; omega) | omega) _))) (hbt.mono (by first | (simp; done) | (simp; omega) | omega)); have hz := hB.size)) | ((go_at_call 20; refine (LAmendment.eq _ _ z1 _ (HC5.out.kept (by first | assumption | (refine Below.drew ?_; assumption) | (repeat (first | assumption | exact Below.refl _ _ | refine Below.drew ?_ | refine Below.alloc ?_ (by first | (simp; done) | (simp; omega) | omega) _)))).now.1.is (by first | exact ho.is | exact (ho.kept (by first | assumption | exact (Below.refl _ _).drew)).is)).mono ?_; rintro e wz ⟨rfl, hbz⟩; have hBz : Below w10_.heap.size w10_ wz := Below.trans (by (repeat (first | assumption | exact Below.refl _ _ | refine Below.drew ?_ | refine Below.alloc ?_ (by first | (simp; done) | (simp; omega) | omega) _))) (hbz.mono (by first | (simp; done) | (simp; omega) | omega)); have hzz := hBz.size)) | fail)
    all_goals (go_wp2_with fail; go_meet; exact ⟨rfl, hBz⟩)
  case rest =>
  obtain ⟨rfl, hb1⟩ := hcut
  obtain ⟨w11_, hwc⟩ : ∃ x, x = wc := ⟨_, rfl⟩
  subst hwc
  replace HA0 := Lib.hid (HA0.out.kept hb1)
  replace HA1 := Lib.hid (HA1.out.kept hb1)
  replace HX1 := Lib.hid (HX1.out.kept hb1)
  replace HR0_3 := Lib.hid (HR0_3.out.kept hb1)
  replace HC4 := Lib.hid (HC4.out.kept hb1)
  replace HC5 := Lib.hid (HC5.out.kept hb1)
  replace HXx1 := Lib.hid (HXx1.out.kept hb1)
  replace HR0_7 := Lib.hid (HR0_7.out.kept hb1)
  clear q1_0 q1_1 q1_2 q1_3
  have q1_0 := HX1.out.now.cell 0
  have q1_1 := HX1.out.now.cell 1
  have q1_2 := HX1.out.now.cell 2
  have q1_3 := HX1.out.now.cell 3
  simp only [List.getElem?_toArray, List.getElem?_cons_zero, List.getElem?_cons_succ] at q1_0 q1_1 q1_2 q1_3
  clear qx1_0 qx1_1 qx1_2 qx1_3
  have qx1_0 := HXx1.out.now.cell 0
  have qx1_1 := HXx1.out.now.cell 1
  have qx1_2 := HXx1.out.now.cell 2
  have qx1_3 := HXx1.out.now.cell 3
  simp only [List.getElem?_toArray, List.getElem?_cons_zero, List.getElem?_cons_succ] at qx1_0 qx1_1 qx1_2 qx1_3
  have HZ11 := Lib.hid hb1.size
  replace hb := hb.trans (hb1.mono hb.size)
  clear hb1
  go_wp2_with fail
  refine (LString.markS _ _ 1 _ z0 _ (by omega) (by omega) HC4.out.now).mono ?_
  rintro e w12_ ⟨he, ho, hap⟩
  obtain ⟨Nk12, hNk⟩ : ∃ N : Nat, N = (1 + 1 * z0.length) := ⟨_, rfl⟩
  rw [← hNk] at he
  have HNk12 := Lib.hid hNk
  subst he
  clear hNk
  replace HA0 := Lib.hid (HA0.out.apart hap (by have := HZ1.out; have := HZ2.out; have := HZ3.out; have := HZ4.out; have := HZ5.out; have := HZ6.out; have := HZ7.out; have := HZ8.out; have := HZ9.out; have := HZ10.out; have := HZ11.out; omega))
  replace HA1 := Lib.hid (HA1.out.apart hap (by have := HZ1.out; have := HZ2.out; have := HZ3.out; have := HZ4.out; have := HZ5.out; have := HZ6.out; have := HZ7.out; have := HZ8.out; have := HZ9.out; have := HZ10.out; have := HZ11.out; omega))
  replace HX1 := Lib.hid (HX1.out.apart hap (by have := HZ1.out; have := HZ2.out; have := HZ3.out; have := HZ4.out; have := HZ5.out; have := HZ6.out; have := HZ7.out; have := HZ8.out; have := HZ9.out; have := HZ10.out; have := HZ11.out; omega))
  replace HR0_3 := Lib.hid (HR0_3.out.apart hap (by have := HZ1.out; have := HZ2.out; have := HZ3.out; have := HZ4.out; have := HZ5.out; have := HZ6.out; have := HZ7.out; have := HZ8.out; have := HZ9.out; have := HZ10.out; have := HZ11.out; omega))
  replace HC5 := Lib.hid (HC5.out.apart hap (by have := HZ1.out; have := HZ2.out; have := HZ3.out; have := HZ4.out; have := HZ5.out; have := HZ6.out; have := HZ7.out; have := HZ8.out; have := HZ9.out; have := HZ10.out; have := HZ11.out; omega))
  replace HXx1 := Lib.hid (HXx1.out.apart hap (by have := HZ1.out; have := HZ2.out; have := HZ3.out; have := HZ4.out; have := HZ5.out; have := HZ6.out; have := HZ7.out; have := HZ8.out; have := HZ9.out; have := HZ10.out; have := HZ11.out; omega))
  replace HR0_7 := Lib.hid (HR0_7.out.apart hap (by have := HZ1.out; have := HZ2.out; have := HZ3.out; have := HZ4.out; have := HZ5.out; have := HZ6.out; have := HZ7.out; have := HZ8.out; have := HZ9.out; have := HZ10.out; have := HZ11.out; omega))
  have hlow := hap.below (B' := w.heap.size) (by have := hb.size; have := HZ1.out; have := HZ2.out; have := HZ3.out; have := HZ4.out; have := HZ5.out; have := HZ6.out; have := HZ7.out; have := HZ8.out; have := HZ9.out; have := HZ10.out; have := HZ11.out; omega) hb.size
  replace HC4 := Lib.hid (ho.loc (by have := hap.size; have := HZ1.out; have := HZ2.out; have := HZ3.out; have := HZ4.out; have := HZ5.out; have := HZ6.out; have := HZ7.out; have := HZ8.out; have := HZ9.out; have := HZ10.out; have := HZ11.out; omega))
  have HZ12 := Lib.hid hap.size
  replace hb := hb.trans hlow
  clear ho hap hlow
  clear q1_0 q1_1 q1_2 q1_3
  have q1_0 := HX1.out.now.cell 0
  have q1_1 := HX1.out.now.cell 1
  have q1_2 := HX1.out.now.cell 2
  have q1_3 := HX1.out.now.cell 3
  simp only [List.getElem?_toArray, List.getElem?_cons_zero, List.getElem?_cons_succ] at q1_0 q1_1 q1_2 q1_3
  clear qx1_0 qx1_1 qx1_2 qx1_3
  have qx1_0 := HXx1.out.now.cell 0
  have qx1_1 := HXx1.out.now.cell 1
  have qx1_2 := HXx1.out.now.cell 2
  have qx1_3 := HXx1.out.now.cell 3
  simp only [List.getElem?_toArray, List.getElem?_cons_zero, List.getElem?_cons_succ] at qx1_0 qx1_1 qx1_2 qx1_3
  go_wp2_with fail
  refine (LAmendment.mark _ _ Nk12 _ z1 _ (by have := HNk12.out; omega) (by have := HNk12.out; omega) HC5.out.le HC5.out.now).mono ?_
  rintro e w13_ ⟨he, ho, hap⟩
  obtain ⟨Nk13, hNk⟩ : ∃ N : Nat, N = (Nk12 + 1 * z1.words.length) := ⟨_, rfl⟩
  rw [← hNk] at he
  have HNk13 := Lib.hid hNk
  subst he
  clear hNk
  replace HA0 := Lib.hid (HA0.out.apart hap (by have := HZ1.out; have := HZ2.out; have := HZ3.out; have := HZ4.out; have := HZ5.out; have := HZ6.out; have := HZ7.out; have := HZ8.out; have := HZ9.out; have := HZ10.out; have := HZ11.out; have := HZ12.out; omega))
  replace HA1 := Lib.hid (HA1.out.apart hap (by have := HZ1.out; have := HZ2.out; have := HZ3.out; have := HZ4.out; have := HZ5.out; have := HZ6.out; have := HZ7.out; have := HZ8.out; have := HZ9.out; have := HZ10.out; have := HZ11.out; have := HZ12.out; omega))
  replace HX1 := Lib.hid (HX1.out.apart hap (by have := HZ1.out; have := HZ2.out; have := HZ3.out; have := HZ4.out; have := HZ5.out; have := HZ6.out; have := HZ7.out; have := HZ8.out; have := HZ9.out; have := HZ10.out; have := HZ11.out; have := HZ12.out; omega))
  replace HR0_3 := Lib.hid (HR0_3.out.apart hap (by have := HZ1.out; have := HZ2.out; have := HZ3.out; have := HZ4.out; have := HZ5.out; have := HZ6.out; have := HZ7.out; have := HZ8.out; have := HZ9.out; have := HZ10.out; have := HZ11.out; have := HZ12.out; omega))
  replace HC4 := Lib.hid (HC4.out.apart hap (by have := HZ1.out; have := HZ2.out; have := HZ3.out; have := HZ4.out; have := HZ5.out; have := HZ6.out; have := HZ7.out; have := HZ8.out; have := HZ9.out; have := HZ10.out; have := HZ11.out; have := HZ12.out; omega))
  replace HXx1 := Lib.hid (HXx1.out.apart hap (by have := HZ1.out; have := HZ2.out; have := HZ3.out; have := HZ4.out; have := HZ5.out; have := HZ6.out; have := HZ7.out; have := HZ8.out; have := HZ9.out; have := HZ10.out; have := HZ11.out; have := HZ12.out; omega))
  replace HR0_7 := Lib.hid (HR0_7.out.apart hap (by have := HZ1.out; have := HZ2.out; have := HZ3.out; have := HZ4.out; have := HZ5.out; have := HZ6.out; have := HZ7.out; have := HZ8.out; have := HZ9.out; have := HZ10.out; have := HZ11.out; have := HZ12.out; omega))
  have hlow := hap.below (B' := w.heap.size) (by have := hb.size; have := HZ1.out; have := HZ2.out; have := HZ3.out; have := HZ4.out; have := HZ5.out; have := HZ6.out; have := HZ7.out; have := HZ8.out; have := HZ9.out; have := HZ10.out; have := HZ11.out; have := HZ12.out; omega) hb.size
  replace HC5 := Lib.hid (ho.loc (by have := hap.size; have := HZ1.out; have := HZ2.out; have := HZ3.out; have := HZ4.out; have := HZ5.out; have := HZ6.out; have := HZ7.out; have := HZ8.out; have := HZ9.out; have := HZ10.out; have := HZ11.out; have := HZ12.out; omega))
  have HZ13 := Lib.hid hap.size
  replace hb := hb.trans hlow
  clear ho hap hlow
  clear q1_0 q1_1 q1_2 q1_3
  have q1_0 := HX1.out.now.cell 0
  have q1_1 := HX1.out.now.cell 1
  have q1_2 := HX1.out.now.cell 2
  have q1_3 := HX1.out.now.cell 3
  simp only [List.getElem?_toArray, List.getElem?_cons_zero, List.getElem?_cons_succ] at q1_0 q1_1 q1_2 q1_3
  clear qx1_0 qx1_1 qx1_2 qx1_3
  have qx1_0 := HXx1.out.now.cell 0
  have qx1_1 := HXx1.out.now.cell 1
  have qx1_2 := HXx1.out.now.cell 2
  have qx1_3 := HXx1.out.now.cell 3
  simp only [List.getElem?_toArray, List.getElem?_cons_zero, List.getElem?_cons_succ] at qx1_0 qx1_1 qx1_2 qx1_3
  go_wp2_with fail
  refine (LString.eqS _ _ r0_3 _ HR0_7.out.now.1.is HR0_3.out.now.1.is).mono ?_
  rintro e w14_ ⟨rfl, hb1⟩
  replace HA0 := Lib.hid (HA0.out.kept hb1)
  replace HA1 := Lib.hid (HA1.out.kept hb1)
  replace HX1 := Lib.hid (HX1.out.kept hb1)
  replace HR0_3 := Lib.hid (HR0_3.out.kept hb1)
  replace HC4 := Lib.hid (HC4.out.kept hb1)
  replace HC5 := Lib.hid (HC5.out.kept hb1)
  replace HXx1 := Lib.hid (HXx1.out.kept hb1)
  replace HR0_7 := Lib.hid (HR0_7.out.kept hb1)
  clear q1_0 q1_1 q1_2 q1_3
  have q1_0 := HX1.out.now.cell 0
  have q1_1 := HX1.out.now.cell 1
  have q1_2 := HX1.out.now.cell 2
  have q1_3 := HX1.out.now.cell 3
  simp only [List.getElem?_toArray, List.getElem?_cons_zero, List.getElem?_cons_succ] at q1_0 q1_1 q1_2 q1_3
  clear qx1_0 qx1_1 qx1_2 qx1_3
  have qx1_0 := HXx1.out.now.cell 0
  have qx1_1 := HXx1.out.now.cell 1
  have qx1_2 := HXx1.out.now.cell 2
  have qx1_3 := HXx1.out.now.cell 3
  simp only [List.getElem?_toArray, List.getElem?_cons_zero, List.getElem?_cons_succ] at qx1_0 qx1_1 qx1_2 qx1_3
  have HZ14 := Lib.hid hb1.size
  replace hb := hb.trans (hb1.mono hb.size)
  clear hb1
  go_wp2_with fail
  refine (LString.markS _ _ 1 _ r0_3 _ (by have := HNk12.out; have := HNk13.out; omega) (by have := HNk12.out; have := HNk13.out; omega) HR0_7.out.now).mono ?_
  rintro e w15_ ⟨rfl, ho, hap⟩
  replace HA0 := Lib.hid (HA0.out.apart hap (by have := HZ1.out; have := HZ2.out; have := HZ3.out; have := HZ4.out; have := HZ5.out; have := HZ6.out; have := HZ7.out; have := HZ8.out; have := HZ9.out; have := HZ10.out; have := HZ11.out; have := HZ12.out; have := HZ13.out; have := HZ14.out; omega))
  replace HA1 := Lib.hid (HA1.out.apart hap (by have := HZ1.out; have := HZ2.out; have := HZ3.out; have := HZ4.out; have := HZ5.out; have := HZ6.out; have := HZ7.out; have := HZ8.out; have := HZ9.out; have := HZ10.out; have := HZ11.out; have := HZ12.out; have := HZ13.out; have := HZ14.out; omega))
  replace HX1 := Lib.hid (HX1.out.apart hap (by have := HZ1.out; have := HZ2.out; have := HZ3.out; have := HZ4.out; have := HZ5.out; have := HZ6.out; have := HZ7.out; have := HZ8.out; have := HZ9.out; have := HZ10.out; have := HZ11.out; have := HZ12.out; have := HZ13.out; have := HZ14.out; omega))
  replace HR0_3 := Lib.hid (HR0_3.out.apart hap (by have := HZ1.out; have := HZ2.out; have := HZ3.out; have := HZ4.out; have := HZ5.out; have := HZ6.out; have := HZ7.out; have := HZ8.out; have := HZ9.out; have := HZ10.out; have := HZ11.out; have := HZ12.out; have := HZ13.out; have := HZ14.out; omega))
  replace HC4 := Lib.hid (HC4.out.apart hap (by have := HZ1.out; have := HZ2.out; have := HZ3.out; have := HZ4.out; have := HZ5.out; have := HZ6.out; have := HZ7.out; have := HZ8.out; have := HZ9.out; have := HZ10.out; have := HZ11.out; have := HZ12.out; have := HZ13.out; have := HZ14.out; omega))
  replace HC5 := Lib.hid (HC5.out.apart hap (by have := HZ1.out; have := HZ2.out; have := HZ3.out; have := HZ4.out; have := HZ5.out; have := HZ6.out; have := HZ7.out; have := HZ8.out; have := HZ9.out; have := HZ10.out; have := HZ11.out; have := HZ12.out; have := HZ13.out; have := HZ14.out; omega))
  replace HXx1 := Lib.hid (HXx1.out.apart hap (by have := HZ1.out; have := HZ2.out; have := HZ3.out; have := HZ4.out; have := HZ5.out; have := HZ6.out; have := HZ7.out; have := HZ8.out; have := HZ9.out; have := HZ10.out; have := HZ11.out; have := HZ12.out; have := HZ13.out; have := HZ14.out; omega))
  have hlow := hap.below (B' := w.heap.size) (by have := hb.size; have := HZ1.out; have := HZ2.out; have := HZ3.out; have := HZ4.out; have := HZ5.out; have := HZ6.out; have := HZ7.out; have := HZ8.out; have := HZ9.out; have := HZ10.out; have := HZ11.out; have := HZ12.out; have := HZ13.out; have := HZ14.out; omega) hb.size
  replace HR0_7 := Lib.hid (ho.loc (by have := hap.size; have := HZ1.out; have := HZ2.out; have := HZ3.out; have := HZ4.out; have := HZ5.out; have := HZ6.out; have := HZ7.out; have := HZ8.out; have := HZ9.out; have := HZ10.out; have := HZ11.out; have := HZ12.out; have := HZ13.out; have := HZ14.out; omega))
  have HZ15 := Lib.hid hap.size
  replace hb := hb.trans hlow
  clear ho hap hlow
  clear q1_0 q1_1 q1_2 q1_3
  have q1_0 := HX1.out.now.cell 0
  have q1_1 := HX1.out.now.cell 1
  have q1_2 := HX1.out.now.cell 2
  have q1_3 := HX1.out.now.cell 3
  simp only [List.getElem?_toArray, List.getElem?_cons_zero, List.getElem?_cons_succ] at q1_0 q1_1 q1_2 q1_3
  clear qx1_0 qx1_1 qx1_2 qx1_3
  have qx1_0 := HXx1.out.now.cell 0
  have qx1_1 := HXx1.out.now.cell 1
  have qx1_2 := HXx1.out.now.cell 2
  have qx1_3 := HXx1.out.now.cell 3
  simp only [List.getElem?_toArray, List.getElem?_cons_zero, List.getElem?_cons_succ] at qx1_0 qx1_1 qx1_2 qx1_3
  go_wp2_with fail
  refine (LString.heldS _ 1 _ r0_3 _ (by omega) (by omega) HR0_7.out.now.1).mono ?_
  rintro e w16_ ⟨rfl, hb1⟩
  replace HA0 := Lib.hid (HA0.out.kept hb1)
  replace HA1 := Lib.hid (HA1.out.kept hb1)
  replace HX1 := Lib.hid (HX1.out.kept hb1)
  replace HR0_3 := Lib.hid (HR0_3.out.kept hb1)
  replace HC4 := Lib.hid (HC4.out.kept hb1)
  replace HC5 := Lib.hid (HC5.out.kept hb1)
  replace HXx1 := Lib.hid (HXx1.out.kept hb1)
  replace HR0_7 := Lib.hid (HR0_7.out.kept hb1)
  clear q1_0 q1_1 q1_2 q1_3
  have q1_0 := HX1.out.now.cell 0
  have q1_1 := HX1.out.now.cell 1
  have q1_2 := HX1.out.now.cell 2
  have q1_3 := HX1.out.now.cell 3
  simp only [List.getElem?_toArray, List.getElem?_cons_zero, List.getElem?_cons_succ] at q1_0 q1_1 q1_2 q1_3
  clear qx1_0 qx1_1 qx1_2 qx1_3
  have qx1_0 := HXx1.out.now.cell 0
  have qx1_1 := HXx1.out.now.cell 1
  have qx1_2 := HXx1.out.now.cell 2
  have qx1_3 := HXx1.out.now.cell 3
  simp only [List.getElem?_toArray, List.getElem?_cons_zero, List.getElem?_cons_succ] at qx1_0 qx1_1 qx1_2 qx1_3
  have HZ16 := Lib.hid hb1.size
  replace hb := hb.trans (hb1.mono hb.size)
  clear hb1
  go_wp2_with fail
  go_cut [15, 16] (fun s15 s16 wx => ∃ (v0 : Value) (r0 : List ByteArray) (r1 : Bool), s15 = v0 ∧ s16 = .bool r1 ∧ ApplyAmendmentC.Ans z0 z1 r0 r1 ∧ Own LString.rec 9 wx w16_.heap.size v0 r0 ∧ Below w16_.heap.size w16_ wx)
  case first =>
    have HK := Lib.hid (show ∀ w' : World, Below w16_.heap.size w16_ w' → Below w16_.heap.size w16_ w' ∧ w'.cell? ⟨w.heap.size, 0, none⟩ = some (.int .i64 z1.kind) ∧ w'.cell? ⟨w.heap.size, 1, none⟩ = some (.int .i64 z1.pos) ∧ w'.cell? ⟨w.heap.size, 2, none⟩ = some (.int .i64 z1.count) ∧ w'.cell? ⟨w.heap.size, 3, none⟩ = some (.slice a1_3 len1_3 cap1_3) ∧ w'.cell? ⟨w5_.heap.size, 0, none⟩ = some (.int .i64 z1.kind) ∧ w'.cell? ⟨w5_.heap.size, 1, none⟩ = some (.int .i64 z1.pos) ∧ w'.cell? ⟨w5_.heap.size, 2, none⟩ = some (.int .i64 z1.count) ∧ w'.cell? ⟨w5_.heap.size, 3, none⟩ = some (.slice fa5_3 fn5_3 fc5_3) from fun w' hb => ⟨hb, by (have h := (HX1.out.kept hb).now.cell 0); simpa using h, by (have h := (HX1.out.kept hb).now.cell 1); simpa using h, by (have h := (HX1.out.kept hb).now.cell 2); simpa using h, by (have h := (HX1.out.kept hb).now.cell 3); simpa using h, by (have h := (HXx1.out.kept hb).now.cell 0); simpa using h, by (have h := (HXx1.out.kept hb).now.cell 1); simpa using h, by (have h := (HXx1.out.kept hb).now.cell 2); simpa using h, by (have h := (HXx1.out.kept hb).now.cell 3); simpa using h⟩)
    have hB : Below w16_.heap.size w16_ w16_.drew := (Below.refl _ _).drew
    refine wp_region_held_drew (S := fun w' => Below w16_.heap.size w16_ w' ∧ w'.cell? ⟨w.heap.size, 0, none⟩ = some (.int .i64 z1.kind) ∧ w'.cell? ⟨w.heap.size, 1, none⟩ = some (.int .i64 z1.pos) ∧ w'.cell? ⟨w.heap.size, 2, none⟩ = some (.int .i64 z1.count) ∧ w'.cell? ⟨w.heap.size, 3, none⟩ = some (.slice a1_3 len1_3 cap1_3) ∧ w'.cell? ⟨w5_.heap.size, 0, none⟩ = some (.int .i64 z1.kind) ∧ w'.cell? ⟨w5_.heap.size, 1, none⟩ = some (.int .i64 z1.pos) ∧ w'.cell? ⟨w5_.heap.size, 2, none⟩ = some (.int .i64 z1.count) ∧ w'.cell? ⟨w5_.heap.size, 3, none⟩ = some (.slice fa5_3 fn5_3 fc5_3)) (by kernel_rfl) (HK.out _ hB) (fun hHeld => ?_)
    generalize w16_.drew = x0 at *
    refine wpAnyH_take (i := 0) (v := ?v11) rfl (by kernel_rfl) (by kernel_rfl) (by kernel_rfl) (fun _ _ _ h => h) (Or.inl ⟨by rfl, ?hy11⟩) (by assumption) ?rest11
    case hy11 => (intro wq hSw; (try dsimp only at hSw); go_split_ands; go_simp; (try with_reducible rfl))
    case rest11 =>
    refine wpAnyH_take (i := 2) (v := ?v12) rfl (by kernel_rfl) (by kernel_rfl) (by kernel_rfl) (fun _ _ _ h => h) (Or.inl ⟨by rfl, ?hy12⟩) (by assumption) ?rest12
    case hy12 => (intro wq hSw; (try dsimp only at hSw); go_split_ands; go_simp; (try with_reducible rfl))
    case rest12 =>
    refine wpAnyH_ready (rs := [1]) (by kernel_rfl) (by simp) ?_
    refine AllReadyH.cons rfl (fun K hK => ?step13) ?more13
    case step13 =>
      go_simp
      go_at_call 13
      refine (LString.toS _ z0 _ (HA0.out.kept hB).now (by omega)).mono ?_
      rintro e x1 ⟨u0, rfl, hn0, ho0, hbc⟩
      replace hB := hB.trans (hbc.mono hB.size)
      clear hbc
      go_wp2_with fail
      refine hK.out _ _ (HK.out _ hB) (fun hHeld => ?_)
      clear hK K
      refine wpAnyH_ready (rs := [3]) (by kernel_rfl) (by simp) ?_
      refine AllReadyH.cons rfl (fun K hK => ?step14) ?more14
      case step14 =>
        go_simp
        go_at_call 18
        refine (LAmendment.to _ z1 _ (HA1.out.kept hB).now (by omega)).mono ?_
        rintro e x2 ⟨u1, rfl, hn1, ho1, hbc⟩
        replace ho0 := ho0.kept hbc
        replace hB := hB.trans (hbc.mono hB.size)
        clear hbc
        go_wp2_with fail
        refine hK.out _ _ (HK.out _ hB) (fun hHeld => ?_)
        clear hK K
        refine wpAnyH_ready (rs := [4]) (by kernel_rfl) (by simp) ?_
        refine AllReadyH.cons rfl (fun K hK => ?step15) ?more15
        case step15 =>
          go_simp
          go_at_call 24
          refine (ApplyAmendmentC.impl u0 z0 u1 z1 _ (ho0.isS hn0) HF0.out (by omega) ho1.isQ HF1.out (by omega)).mono ?_
          rintro e x3 ⟨v0_, r0_, r1_, rfl, hans, hoz0, hbc⟩
          replace ho0 := ho0.kept hbc
          replace ho1 := ho1.kept hbc
          replace hoz0 := hoz0.low hB.size
          replace hB := hB.trans (hbc.mono hB.size)
          clear hbc
          go_wp2_with fail
          refine hK.out _ _ (HK.out _ hB) (fun hHeld => ?_)
          clear hK K
          refine wpAnyH_take (i := 5) (v := ?v16) rfl (by kernel_rfl) (by kernel_rfl) (by kernel_rfl) (fun _ _ _ h => h) (Or.inl ⟨by rfl, ?hy16⟩) (by assumption) ?rest16
          case hy16 => (intro wq hSw; (try dsimp only at hSw); go_split_ands; go_simp; (try with_reducible rfl))
          case rest16 =>
          refine wpAnyH_take (i := 6) (v := ?v17) rfl (by kernel_rfl) (by kernel_rfl) (by kernel_rfl) (fun _ _ _ h => h) (Or.inl ⟨by rfl, ?hy17⟩) (by assumption) ?rest17
          case hy17 => (intro wq hSw; (try dsimp only at hSw); go_split_ands; go_simp; (try with_reducible rfl))
          case rest17 =>
          refine wpAnyH_take (i := 7) (v := ?v18) rfl (by kernel_rfl) (by kernel_rfl) (by kernel_rfl) (fun _ _ _ h => h) (Or.inl ⟨by rfl, ?hy18⟩) (by assumption) ?rest18
          case hy18 => (intro wq hSw; (try dsimp only at hSw); go_split_ands; go_simp; (try with_reducible rfl))
          case rest18 =>
          refine wpAnyH_take (i := 8) (v := ?v19) rfl (by kernel_rfl) (by kernel_rfl) (by kernel_rfl) (fun _ _ _ h => h) (Or.inl ⟨by rfl, ?hy19⟩) (by assumption) ?rest19
          case hy19 => (intro wq hSw; (try dsimp only at hSw); go_split_ands; go_simp; (try with_reducible rfl))
          case rest19 =>
          refine wpAnyH_take (i := 9) (v := ?v20) rfl (by kernel_rfl) (by kernel_rfl) (by kernel_rfl) (fun _ _ _ h => h) (Or.inl ⟨by rfl, ?hy20⟩) (by assumption) ?rest20
          case hy20 => (intro wq hSw; (try dsimp only at hSw); go_split_ands; go_simp; (try with_reducible rfl))
          case rest20 =>
          refine wpAnyH_done (by kernel_rfl) ?_ _
          go_wp2_with fail
          all_goals
            go_meet
            exact ⟨_, _, _, rfl, rfl, hans, hoz0, hB⟩
        case more15 => exact AllReadyH.nil
      case more14 => exact AllReadyH.nil
    case more13 => exact AllReadyH.nil
  case rest =>
  obtain ⟨v0_17, r0_17, r1_17, rfl, rfl, hans, ho0, hb1⟩ := hcut
  obtain ⟨w17_, hwc⟩ : ∃ x, x = wc := ⟨_, rfl⟩
  subst hwc
  obtain ⟨rfl, rfl⟩ := ApplyAmendmentC.same HS.out hans
  clear hans
  have HR0_17 := Lib.hid ho0.loc
  clear ho0
  replace HA0 := Lib.hid (HA0.out.kept hb1)
  replace HA1 := Lib.hid (HA1.out.kept hb1)
  replace HX1 := Lib.hid (HX1.out.kept hb1)
  replace HR0_3 := Lib.hid (HR0_3.out.kept hb1)
  replace HC4 := Lib.hid (HC4.out.kept hb1)
  replace HC5 := Lib.hid (HC5.out.kept hb1)
  replace HXx1 := Lib.hid (HXx1.out.kept hb1)
  replace HR0_7 := Lib.hid (HR0_7.out.kept hb1)
  clear q1_0 q1_1 q1_2 q1_3
  have q1_0 := HX1.out.now.cell 0
  have q1_1 := HX1.out.now.cell 1
  have q1_2 := HX1.out.now.cell 2
  have q1_3 := HX1.out.now.cell 3
  simp only [List.getElem?_toArray, List.getElem?_cons_zero, List.getElem?_cons_succ] at q1_0 q1_1 q1_2 q1_3
  clear qx1_0 qx1_1 qx1_2 qx1_3
  have qx1_0 := HXx1.out.now.cell 0
  have qx1_1 := HXx1.out.now.cell 1
  have qx1_2 := HXx1.out.now.cell 2
  have qx1_3 := HXx1.out.now.cell 3
  simp only [List.getElem?_toArray, List.getElem?_cons_zero, List.getElem?_cons_succ] at qx1_0 qx1_1 qx1_2 qx1_3
  have HZ17 := Lib.hid hb1.size
  replace hb := hb.trans (hb1.mono hb.size)
  clear hb1
  go_wp2_with fail
  refine (LString.eqS _ _ r0_3 _ HR0_17.out.now.1.is HR0_3.out.now.1.is).mono ?_
  rintro e w18_ ⟨rfl, hb1⟩
  replace HA0 := Lib.hid (HA0.out.kept hb1)
  replace HA1 := Lib.hid (HA1.out.kept hb1)
  replace HX1 := Lib.hid (HX1.out.kept hb1)
  replace HR0_3 := Lib.hid (HR0_3.out.kept hb1)
  replace HC4 := Lib.hid (HC4.out.kept hb1)
  replace HC5 := Lib.hid (HC5.out.kept hb1)
  replace HXx1 := Lib.hid (HXx1.out.kept hb1)
  replace HR0_7 := Lib.hid (HR0_7.out.kept hb1)
  replace HR0_17 := Lib.hid (HR0_17.out.kept hb1)
  clear q1_0 q1_1 q1_2 q1_3
  have q1_0 := HX1.out.now.cell 0
  have q1_1 := HX1.out.now.cell 1
  have q1_2 := HX1.out.now.cell 2
  have q1_3 := HX1.out.now.cell 3
  simp only [List.getElem?_toArray, List.getElem?_cons_zero, List.getElem?_cons_succ] at q1_0 q1_1 q1_2 q1_3
  clear qx1_0 qx1_1 qx1_2 qx1_3
  have qx1_0 := HXx1.out.now.cell 0
  have qx1_1 := HXx1.out.now.cell 1
  have qx1_2 := HXx1.out.now.cell 2
  have qx1_3 := HXx1.out.now.cell 3
  simp only [List.getElem?_toArray, List.getElem?_cons_zero, List.getElem?_cons_succ] at qx1_0 qx1_1 qx1_2 qx1_3
  have HZ18 := Lib.hid hb1.size
  replace hb := hb.trans (hb1.mono hb.size)
  clear hb1
  go_wp2_with fail
  refine (LString.heldS _ 1 _ r0_3 _ (by omega) (by omega) HR0_7.out.now.1).mono ?_
  rintro e w19_ ⟨rfl, hb1⟩
  replace HA0 := Lib.hid (HA0.out.kept hb1)
  replace HA1 := Lib.hid (HA1.out.kept hb1)
  replace HX1 := Lib.hid (HX1.out.kept hb1)
  replace HR0_3 := Lib.hid (HR0_3.out.kept hb1)
  replace HC4 := Lib.hid (HC4.out.kept hb1)
  replace HC5 := Lib.hid (HC5.out.kept hb1)
  replace HXx1 := Lib.hid (HXx1.out.kept hb1)
  replace HR0_7 := Lib.hid (HR0_7.out.kept hb1)
  replace HR0_17 := Lib.hid (HR0_17.out.kept hb1)
  clear q1_0 q1_1 q1_2 q1_3
  have q1_0 := HX1.out.now.cell 0
  have q1_1 := HX1.out.now.cell 1
  have q1_2 := HX1.out.now.cell 2
  have q1_3 := HX1.out.now.cell 3
  simp only [List.getElem?_toArray, List.getElem?_cons_zero, List.getElem?_cons_succ] at q1_0 q1_1 q1_2 q1_3
  clear qx1_0 qx1_1 qx1_2 qx1_3
  have qx1_0 := HXx1.out.now.cell 0
  have qx1_1 := HXx1.out.now.cell 1
  have qx1_2 := HXx1.out.now.cell 2
  have qx1_3 := HXx1.out.now.cell 3
  simp only [List.getElem?_toArray, List.getElem?_cons_zero, List.getElem?_cons_succ] at qx1_0 qx1_1 qx1_2 qx1_3
  have HZ19 := Lib.hid hb1.size
  replace hb := hb.trans (hb1.mono hb.size)
  clear hb1
  go_wp2_with fail
  go_ret
  exact ⟨rfl, hb⟩
end Go.Proofs.Ytfkppgnffhbfjaa.fnExactApplyAmendment
