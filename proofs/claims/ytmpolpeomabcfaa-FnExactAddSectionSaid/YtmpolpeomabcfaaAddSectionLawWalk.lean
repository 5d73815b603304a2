/- FnExactAddSection: the law's walk, for every slice, every number, every record. -/
import Derived.Test.YtmpolpeomabcfaaAddSectionC
import Derived.Test.YtmpolpeomabcfaaLSectionE
import Derived.Test.YtmpolpeomabcfaaLSectionM
import Derived.Test.YtmpolpeomabcfaaLSectionO
import Derived.Test.YtmpolpeomabcfaaLSectionT
import Derived.Test.YtmpolpeomabcfaaLSectionZ
import Derived.Deep.RegionHeld3
import Derived.Deep.DeepCutAuto
namespace Go.Proofs.Ytmpolpeomabcfaa.fnExactAddSection
open Go.RowKit Bs
set_option linter.unusedVariables false
set_option maxRecDepth 100000 in
set_option maxHeartbeats 1600000 in
theorem walk (a0 : Option Addr) (len0 cap0 : Nat) (z0 : List LSection.R) (a1 : Int) (a2 : LSection.R) (w : World) (sh : w.ShapedOpen Try.prog) (w0 : LSection.IsIn w a0 len0 cap0 z0) (w1 : (Lit.int .i64 a1).wf = true) (w2 : LSection.Fit a2) :
    Calls Try.prog 8 #[.slice a0 len0 cap0, .int .i64 a1, .agg #[.int .i64 a2.depth, .string a2.title]] w fun e w' => e = .returned (.bool true) ∧ Below w.heap.size w w' := by
  have HA0 := Lib.hid (LSection.IsIn.is w0).loc
  have HF0 := Lib.hid (show ∀ x ∈ z0, LSection.Fine x from fun x hx => LSection.fine_of (w0.2.2 x hx))
  have HL0 := Lib.hid w0.1
  have HF2 := Lib.hid (LSection.fine_of w2)
  have HW1 := Lib.hid w1
  clear sh w0 w1 w2
  go_enter Try.func8, Try.ntmps8
  replace HA0 := Lib.hid (HA0.out.alloc (.cells #[.int .i64 a2.depth, .string a2.title] 47))
  have HX2 := Lib.hid (Bs.boxLoc LSection.rec (LSection.box w a2 47))
  have hb := (Below.refl w.heap.size w).alloc (Nat.le_refl _) (Obj.cells #[.int .i64 a2.depth, .string a2.title] 47)
  obtain ⟨q2_0, q2_1⟩ := LSection.cells0 HX2.out.now
  go_wp2_with fail
  refine (LSection.szS _ z0 _ _ (by omega) (by omega) HA0.out.now HF0.out).mono ?_
  rintro e w1_ ⟨hb1, x, rfl, ⟨hx0, hxl⟩ | ⟨rfl, hxl⟩⟩
  · clear hxl
    go_wp2_with fail
    go_ret
    exact ⟨rfl, hb.trans (hb1.mono hb.size)⟩
  have hbud0 := hxl
  clear hxl
  replace HA0 := Lib.hid (HA0.out.kept hb1)
  replace HX2 := Lib.hid (HX2.out.kept hb1)
  clear q2_0 q2_1
  obtain ⟨q2_0, q2_1⟩ := LSection.cells0 HX2.out.now
  have HZ1 := Lib.hid (show w.heap.size + 1 ≤ w1_.heap.size by have := hb1.size; simp at this; omega)
  replace hb := hb.trans (hb1.mono hb.size)
  clear hb1
  go_wp2_with fail
  refine (LSection.sz a2 _ _ (by omega) (by omega) HF2.out).mono ?_
  rintro e w2_ ⟨hb1, x, rfl, ⟨hx0, hxl⟩ | ⟨rfl, hxl⟩⟩
  · clear hxl
    go_wp2_with fail
    go_ret
    exact ⟨rfl, hb.trans (hb1.mono hb.size)⟩
  have hbud2 := hxl
  clear hxl
  replace HA0 := Lib.hid (HA0.out.kept hb1)
  replace HX2 := Lib.hid (HX2.out.kept hb1)
  clear q2_0 q2_1
  obtain ⟨q2_0, q2_1⟩ := LSection.cells0 HX2.out.now
  have HZ2 := Lib.hid hb1.size
  replace hb := hb.trans (hb1.mono hb.size)
  clear hb1
  go_wp2_with fail
  go_cut [8, 9] (fun s8 s9 wx => ∃ (v0 : Value) (r0 : List LSection.R) (r1 : Bool), s8 = v0 ∧ s9 = .bool r1 ∧ AddSectionC.Ans z0 a1 a2 r0 r1 ∧ Own LSection.rec 34 wx w2_.heap.size v0 r0 ∧ Below w2_.heap.size w2_ wx)
  case first =>
    have hlt2 : w.heap.size < w2_.heap.size := by have := HX2.out.le; omega
    have HK := Lib.hid (show ∀ w' : World, Below w2_.heap.size w2_ w' → Below w2_.heap.size w2_ w' ∧ w'.cell? ⟨w.heap.size, 0, none⟩ = some (.int .i64 a2.depth) ∧ w'.cell? ⟨w.heap.size, 1, none⟩ = some (.string a2.title) from fun w' hb => ⟨hb, by rw [hb.cell (by assumption)]; exact q2_0, by rw [hb.cell (by assumption)]; exact q2_1⟩)
    go_region_held3 (fun w' => Below w2_.heap.size w2_ w' ∧ w'.cell? ⟨w.heap.size, 0, none⟩ = some (.int .i64 a2.depth) ∧ w'.cell? ⟨w.heap.size, 1, none⟩ = some (.string a2.title)) ((refine HK.out _ ?_; (repeat (first | assumption | exact Below.refl _ _ | refine Below.drew ?_ | refine Below.alloc ?_ (by first | (simp; done) | (simp; omega) | omega) _)))) (first | ((go_at_call 29; refine (LSection.toS _ z0 _ (HA0.out.kept (by (repeat (first | assumption | exact Below.refl _ _ | refine Below.drew ?_ | refine Below.alloc ?_ (by first | (simp; done) | (simp; omega) | omega) _)))).now (by omega)).mono ?_; rintro e wt0 ⟨u0, rfl, hn0, ho0, hbt0⟩; have hB0 : Below w2_.heap.size w2_ wt0 := Below.trans (by (repeat (first | assumption | exact Below.refl _ _ | refine Below.drew ?_ | refine Below.alloc ?_ (by first | (simp; done) | (simp; omega) | omega) _))) (hbt0.mono (by first | (simp; done) | (simp; omega) | omega)); have hz0 := hB0.size)) | ((go_at_call 34; refine (LSection.to a2 _).mono ?_; rintro e wt1 ⟨rfl, hbt1⟩; have hB1 : Below w2_.heap.size w2_ wt1 := Below.trans (by (repeat (first | assumption | exact Below.refl _ _ | refine Below.drew ?_ | refine Below.alloc ?_ (by first | (simp; done) | (simp; omega) | omega) _))) (hbt1.mono (by first | (simp; done) | (simp; omega) | omega)); have hz1 := hB1.size)) | ((go_at_call 20; refine (AddSectionC.spec u0 z0 a1 a2 _ (by first | exact ho0.isS hn0 | exact (ho0.kept (by assumption)).isS hn0 | exact ((ho0.kept (by assumption)).kept (by assumption)).isS hn0) HF0.out (by omega) HF2.out).mono ?_; rintro e wz ⟨v0_, r0_, r1_, rfl, hans, hoz0, hbz⟩; have hBz : Below w2_.heap.size w2_ wz := Below.trans (by (repeat (first | assumption | exact Below.refl _ _ | refine Below.drew ?_ | refine Below.alloc ?_ (by first | (simp; done) | (simp; omega) | omega) _))) (hbz.mono (by first | (simp; done) | (simp; omega) | omega)); have hzz := hBz.size)) | fail)
    all_goals (go_wp2_with fail; go_meet; exact ⟨_, _, _, rfl, rfl, hans, hoz0.low (by first | assumption | omega), hBz⟩)
  case rest =>
  obtain ⟨v0_3, r0_3, r1_3, rfl, rfl, hans, ho0, hb1⟩ := hcut
  obtain ⟨w3_, hwc⟩ : ∃ x, x = wc := ⟨_, rfl⟩
  subst hwc
  have HS := Lib.hid hans
  have hlen0 := AddSectionC.len0 hans
  clear hans
  have HR0_3 := Lib.hid ho0.loc
  clear ho0
  replace HA0 := Lib.hid (HA0.out.kept hb1)
  replace HX2 := Lib.hid (HX2.out.kept hb1)
  clear q2_0 q2_1
  obtain ⟨q2_0, q2_1⟩ := LSection.cells0 HX2.out.now
  have HZ3 := Lib.hid hb1.size
  replace hb := hb.trans (hb1.mono hb.size)
  clear hb1
  have hne1 : (r1_3 != r1_3) = false := by simp
  go_wp2_with fail
  refine (LSection.toS _ z0 _ HA0.out.now (by omega)).mono ?_
  rintro e w4_ ⟨u4, rfl, hnn4, ho, hb1⟩
  replace hnn4 := Lib.hid hnn4
  have HC4 := Lib.hid ho.loc
  clear ho
  replace HA0 := Lib.hid (HA0.out.kept hb1)
  replace HX2 := Lib.hid (HX2.out.kept hb1)
  replace HR0_3 := Lib.hid (HR0_3.out.kept hb1)
  clear q2_0 q2_1
  obtain ⟨q2_0, q2_1⟩ := LSection.cells0 HX2.out.now
  have HZ4 := Lib.hid hb1.size
  replace hb := hb.trans (hb1.mono hb.size)
  clear hb1
  go_wp2_with fail
  refine (LSection.to a2 _).mono ?_
  rintro e w5_ ⟨rfl, hb1⟩
  replace HA0 := Lib.hid (HA0.out.kept hb1)
  replace HX2 := Lib.hid (HX2.out.kept hb1)
  replace HR0_3 := Lib.hid (HR0_3.out.kept hb1)
  replace HC4 := Lib.hid (HC4.out.kept hb1)
  clear q2_0 q2_1
  obtain ⟨q2_0, q2_1⟩ := LSection.cells0 HX2.out.now
  have HZ5 := Lib.hid hb1.size
  replace hb := hb.trans (hb1.mono hb.size)
  clear hb1
  go_wp2_with fail
  refine (AddSectionC.impl _ z0 a1 a2 _ (HC4.out.now.1.isS hnn4.out) HF0.out (by omega) HF2.out).mono ?_
  rintro e w6_ ⟨v0_6, r0_6, r1_6, rfl, hans, ho0, hb1⟩
  obtain ⟨rfl, rfl⟩ := AddSectionC.same HS.out hans
  clear hans
  have HR0_6 := Lib.hid ho0.loc
  clear ho0
  replace HA0 := Lib.hid (HA0.out.kept hb1)
  replace HX2 := Lib.hid (HX2.out.kept hb1)
  replace HR0_3 := Lib.hid (HR0_3.out.kept hb1)
  replace HC4 := Lib.hid (HC4.out.kept hb1)
  clear q2_0 q2_1
  obtain ⟨q2_0, q2_1⟩ := LSection.cells0 HX2.out.now
  have HZ6 := Lib.hid hb1.size
  replace hb := hb.trans (hb1.mono hb.size)
  clear hb1
  go_wp2_with fail
  refine (LSection.eqS _ _ r0_3 _ HR0_6.out.now.1.is HR0_3.out.now.1.is).mono ?_
  rintro e w7_ ⟨rfl, hb1⟩
  replace HA0 := Lib.hid (HA0.out.kept hb1)
  replace HX2 := Lib.hid (HX2.out.kept hb1)
  replace HR0_3 := Lib.hid (HR0_3.out.kept hb1)
  replace HC4 := Lib.hid (HC4.out.kept hb1)
  replace HR0_6 := Lib.hid (HR0_6.out.kept hb1)
  clear q2_0 q2_1
  obtain ⟨q2_0, q2_1⟩ := LSection.cells0 HX2.out.now
  have HZ7 := Lib.hid hb1.size
  replace hb := hb.trans (hb1.mono hb.size)
  clear hb1
  go_wp2_with fail
  refine (LSection.toS _ z0 _ HA0.out.now (by omega)).mono ?_
  rintro e w8_ ⟨u8, rfl, hnn8, ho, hb1⟩
  replace hnn8 := Lib.hid hnn8
  have HC8 := Lib.hid ho.loc
  clear ho
  replace HA0 := Lib.hid (HA0.out.kept hb1)
  replace HX2 := Lib.hid (HX2.out.kept hb1)
  replace HR0_3 := Lib.hid (HR0_3.out.kept hb1)
  replace HC4 := Lib.hid (HC4.out.kept hb1)
  replace HR0_6 := Lib.hid (HR0_6.out.kept hb1)
  clear q2_0 q2_1
  obtain ⟨q2_0, q2_1⟩ := LSection.cells0 HX2.out.now
  have HZ8 := Lib.hid hb1.size
  replace hb := hb.trans (hb1.mono hb.size)
  clear hb1
  go_wp2_with fail
  refine (LSection.eqS _ _ z0 _ HC4.out.now.1.is HC8.out.now.1.is).mono ?_
  rintro e w9_ ⟨rfl, hb1⟩
  replace HA0 := Lib.hid (HA0.out.kept hb1)
  replace HX2 := Lib.hid (HX2.out.kept hb1)
  replace HR0_3 := Lib.hid (HR0_3.out.kept hb1)
  replace HC4 := Lib.hid (HC4.out.kept hb1)
  replace HR0_6 := Lib.hid (HR0_6.out.kept hb1)
  replace HC8 := Lib.hid (HC8.out.kept hb1)
  clear q2_0 q2_1
  obtain ⟨q2_0, q2_1⟩ := LSection.cells0 HX2.out.now
  have HZ9 := Lib.hid hb1.size
  replace hb := hb.trans (hb1.mono hb.size)
  clear hb1
  go_wp2_with fail
  clear HC8
  refine (LSection.markS _ _ 1 _ z0 _ (by omega) (by omega) HC4.out.now).mono ?_
  rintro e w10_ ⟨rfl, ho, hap⟩
  replace HA0 := Lib.hid (HA0.out.apart hap (by have := HZ1.out; have := HZ2.out; have := HZ3.out; have := HZ4.out; have := HZ5.out; have := HZ6.out; have := HZ7.out; have := HZ8.out; have := HZ9.out; omega))
  replace HX2 := Lib.hid (HX2.out.apart hap (by have := HZ1.out; have := HZ2.out; have := HZ3.out; have := HZ4.out; have := HZ5.out; have := HZ6.out; have := HZ7.out; have := HZ8.out; have := HZ9.out; omega))
  replace HR0_3 := Lib.hid (HR0_3.out.apart hap (by have := HZ1.out; have := HZ2.out; have := HZ3.out; have := HZ4.out; have := HZ5.out; have := HZ6.out; have := HZ7.out; have := HZ8.out; have := HZ9.out; omega))
  replace HR0_6 := Lib.hid (HR0_6.out.apart hap (by have := HZ1.out; have := HZ2.out; have := HZ3.out; have := HZ4.out; have := HZ5.out; have := HZ6.out; have := HZ7.out; have := HZ8.out; have := HZ9.out; omega))
  have hlow := hap.below (B' := w.heap.size) (by have := hb.size; have := HZ1.out; have := HZ2.out; have := HZ3.out; have := HZ4.out; have := HZ5.out; have := HZ6.out; have := HZ7.out; have := HZ8.out; have := HZ9.out; omega) hb.size
  replace HC4 := Lib.hid (ho.loc (by have := hap.size; have := HZ1.out; have := HZ2.out; have := HZ3.out; have := HZ4.out; have := HZ5.out; have := HZ6.out; have := HZ7.out; have := HZ8.out; have := HZ9.out; omega))
  have HZ10 := Lib.hid hap.size
  replace hb := hb.trans hlow
  clear ho hap hlow
  clear q2_0 q2_1
  obtain ⟨q2_0, q2_1⟩ := LSection.cells0 HX2.out.now
  go_wp2_with fail
  refine (LSection.eqS _ _ r0_3 _ HR0_6.out.now.1.is HR0_3.out.now.1.is).mono ?_
  rintro e w11_ ⟨rfl, hb1⟩
  replace HA0 := Lib.hid (HA0.out.kept hb1)
  replace HX2 := Lib.hid (HX2.out.kept hb1)
  replace HR0_3 := Lib.hid (HR0_3.out.kept hb1)
  replace HC4 := Lib.hid (HC4.out.kept hb1)
  replace HR0_6 := Lib.hid (HR0_6.out.kept hb1)
  clear q2_0 q2_1
  obtain ⟨q2_0, q2_1⟩ := LSection.cells0 HX2.out.now
  have HZ11 := Lib.hid hb1.size
  replace hb := hb.trans (hb1.mono hb.size)
  clear hb1
  go_wp2_with fail
  refine (LSection.markS _ _ 1 _ r0_3 _ (by omega) (by omega) HR0_6.out.now).mono ?_
  rintro e w12_ ⟨rfl, ho, hap⟩
  replace HA0 := Lib.hid (HA0.out.apart hap (by have := HZ1.out; have := HZ2.out; have := HZ3.out; have := HZ4.out; have := HZ5.out; have := HZ6.out; have := HZ7.out; have := HZ8.out; have := HZ9.out; have := HZ10.out; have := HZ11.out; omega))
  replace HX2 := Lib.hid (HX2.out.apart hap (by have := HZ1.out; have := HZ2.out; have := HZ3.out; have := HZ4.out; have := HZ5.out; have := HZ6.out; have := HZ7.out; have := HZ8.out; have := HZ9.out; have := HZ10.out; have := HZ11.out; omega))
  replace HR0_3 := Lib.hid (HR0_3.out.apart hap (by have := HZ1.out; have := HZ2.out; have := HZ3.out; have := HZ4.out; have := HZ5.out; have := HZ6.out; have := HZ7.out; have := HZ8.out; have := HZ9.out; have := HZ10.out; have := HZ11.out; omega))
  replace HC4 := Lib.hid (HC4.out.apart hap (by have := HZ1.out; have := HZ2.out; have := HZ3.out; have := HZ4.out; have := HZ5.out; have := HZ6.out; have := HZ7.out; have := HZ8.out; have := HZ9.out; have := HZ10.out; have := HZ11.out; omega))
  have hlow := hap.below (B' := w.heap.size) (by have := hb.size; have := HZ1.out; have := HZ2.out; have := HZ3.out; have := HZ4.out; have := HZ5.out; have := HZ6.out; have := HZ7.out; have := HZ8.out; have := HZ9.out; have := HZ10.out; have := HZ11.out; omega) hb.size
  replace HR0_6 := Lib.hid (ho.loc (by have := hap.size; have := HZ1.out; have := HZ2.out; have := HZ3.out; have := HZ4.out; have := HZ5.out; have := HZ6.out; have := HZ7.out; have := HZ8.out; have := HZ9.out; have := HZ10.out; have := HZ11.out; omega))
  have HZ12 := Lib.hid hap.size
  replace hb := hb.trans hlow
  clear ho hap hlow
  clear q2_0 q2_1
  obtain ⟨q2_0, q2_1⟩ := LSection.cells0 HX2.out.now
  go_wp2_with fail
  refine (LSection.heldS _ 1 _ r0_3 _ (by omega) (by omega) HR0_6.out.now.1).mono ?_
  rintro e w13_ ⟨rfl, hb1⟩
  replace HA0 := Lib.hid (HA0.out.kept hb1)
  replace HX2 := Lib.hid (HX2.out.kept hb1)
  replace HR0_3 := Lib.hid (HR0_3.out.kept hb1)
  replace HC4 := Lib.hid (HC4.out.kept hb1)
  replace HR0_6 := Lib.hid (HR0_6.out.kept hb1)
  clear q2_0 q2_1
  obtain ⟨q2_0, q2_1⟩ := LSection.cells0 HX2.out.now
  have HZ13 := Lib.hid hb1.size
  replace hb := hb.trans (hb1.mono hb.size)
  clear hb1
  go_wp2_with fail
  go_cut [16, 17] (fun s16 s17 wx => ∃ (v0 : Value) (r0 : List LSection.R) (r1 : Bool), s16 = v0 ∧ s17 = .bool r1 ∧ AddSectionC.Ans z0 a1 a2 r0 r1 ∧ Own LSection.rec 34 wx w13_.heap.size v0 r0 ∧ Below w13_.heap.size w13_ wx)
  case first =>
    have hlt2 : w.heap.size < w13_.heap.size := by have := HX2.out.le; omega
    have HK := Lib.hid (show ∀ w' : World, Below w13_.heap.size w13_ w' → Below w13_.heap.size w13_ w' ∧ w'.cell? ⟨w.heap.size, 0, none⟩ = some (.int .i64 a2.depth) ∧ w'.cell? ⟨w.heap.size, 1, none⟩ = some (.string a2.title) from fun w' hb => ⟨hb, by rw [hb.cell (by assumption)]; exact q2_0, by rw [hb.cell (by assumption)]; exact q2_1⟩)
    go_region_held3 (fun w' => Below w13_.heap.size w13_ w' ∧ w'.cell? ⟨w.heap.size, 0, none⟩ = some (.int .i64 a2.depth) ∧ w'.cell? ⟨w.heap.size, 1, none⟩ = some (.string a2.title)) ((refine HK.out _ ?_; (repeat (first | assumption | exact Below.refl _ _ | refine Below.drew ?_ | refine Below.alloc ?_ (by first | (simp; done) | (simp; omega) | omega) _)))) (first | ((go_at_call 29; refine (LSection.toS _ z0 _ (HA0.out.kept (by (repeat (first | assumption | exact Below.refl _ _ | refine Below.drew ?_ | refine Below.alloc ?_ (by first | (simp; done) | (simp; omega) | omega) _)))).now (by omega)).mono ?_; rintro e wt0 ⟨u0, rfl, hn0, ho0, hbt0⟩; have hB0 : Below w13_.heap.size w13_ wt0 := Below.trans (by (repeat (first | assumption | exact Below.refl _ _ | refine Below.drew ?_ | refine Below.alloc ?_ (by first | (simp; done) | (simp; omega) | omega) _))) (hbt0.mono (by first | (simp; done) | (simp; omega) | omega)); have hz0 := hB0.size)) | ((go_at_call 34; refine (LSection.to a2 _).mono ?_; rintro e wt1 ⟨rfl, hbt1⟩; have hB1 : Below w13_.heap.size w13_ wt1 := Below.trans (by (repeat (first | assumption | exact Below.refl _ _ | refine Below.drew ?_ | refine Below.alloc ?_ (by first | (simp; done) | (simp; omega) | omega) _))) (hbt1.mono (by first | (simp; done) | (simp; omega) | omega)); have hz1 := hB1.size)) | ((go_at_call 19; refine (AddSectionC.impl u0 z0 a1 a2 _ (by first | exact ho0.isS hn0 | exact (ho0.kept (by assumption)).isS hn0 | exact ((ho0.kept (by assumption)).kept (by assumption)).isS hn0) HF0.out (by omega) HF2.out).mono ?_; rintro e wz ⟨v0_, r0_, r1_, rfl, hans, hoz0, hbz⟩; have hBz : Below w13_.heap.size w13_ wz := Below.trans (by (repeat (first | assumption | exact Below.refl _ _ | refine Below.drew ?_ | refine Below.alloc ?_ (by first | (simp; done) | (simp; omega) | omega) _))) (hbz.mono (by first | (simp; done) | (simp; omega) | omega)); have hzz := hBz.size)) | fail)
    all_goals (go_wp2_with fail; go_meet; exact ⟨_, _, _, rfl, rfl, hans, hoz0.low (by first | assumption | omega), hBz⟩)
  case rest =>
  obtain ⟨v0_14, r0_14, r1_14, rfl, rfl, hans, ho0, hb1⟩ := hcut
  obtain ⟨w14_, hwc⟩ : ∃ x, x = wc := ⟨_, rfl⟩
  subst hwc
  obtain ⟨rfl, rfl⟩ := AddSectionC.same HS.out hans
  clear hans
  have HR0_14 := Lib.hid ho0.loc
  clear ho0
  replace HA0 := Lib.hid (HA0.out.kept hb1)
  replace HX2 := Lib.hid (HX2.out.kept hb1)
  replace HR0_3 := Lib.hid (HR0_3.out.kept hb1)
  replace HC4 := Lib.hid (HC4.out.kept hb1)
  replace HR0_6 := Lib.hid (HR0_6.out.kept hb1)
  clear q2_0 q2_1
  obtain ⟨q2_0, q2_1⟩ := LSection.cells0 HX2.out.now
  have HZ14 := Lib.hid hb1.size
  replace hb := hb.trans (hb1.mono hb.size)
  clear hb1
  go_wp2_with fail
  refine (LSection.eqS _ _ r0_3 _ HR0_14.out.now.1.is HR0_3.out.now.1.is).mono ?_
  rintro e w15_ ⟨rfl, hb1⟩
  replace HA0 := Lib.hid (HA0.out.kept hb1)
  replace HX2 := Lib.hid (HX2.out.kept hb1)
  replace HR0_3 := Lib.hid (HR0_3.out.kept hb1)
  replace HC4 := Lib.hid (HC4.out.kept hb1)
  replace HR0_6 := Lib.hid (HR0_6.out.kept hb1)
  replace HR0_14 := Lib.hid (HR0_14.out.kept hb1)
  clear q2_0 q2_1
  obtain ⟨q2_0, q2_1⟩ := LSection.cells0 HX2.out.now
  have HZ15 := Lib.hid hb1.size
  replace hb := hb.trans (hb1.mono hb.size)
  clear hb1
  go_wp2_with fail
  refine (LSection.heldS _ 1 _ r0_3 _ (by omega) (by omega) HR0_6.out.now.1).mono ?_
  rintro e w16_ ⟨rfl, hb1⟩
  replace HA0 := Lib.hid (HA0.out.kept hb1)
  replace HX2 := Lib.hid (HX2.out.kept hb1)
  replace HR0_3 := Lib.hid (HR0_3.out.kept hb1)
  replace HC4 := Lib.hid (HC4.out.kept hb1)
  replace HR0_6 := Lib.hid (HR0_6.out.kept hb1)
  replace HR0_14 := Lib.hid (HR0_14.out.kept hb1)
  clear q2_0 q2_1
  obtain ⟨q2_0, q2_1⟩ := LSection.cells0 HX2.out.now
  have HZ16 := Lib.hid hb1.size
  replace hb := hb.trans (hb1.mono hb.size)
  clear hb1
  go_wp2_with fail
  go_ret
  exact ⟨rfl, hb⟩
end Go.Proofs.Ytmpolpeomabcfaa.fnExactAddSection
