/- FnExactGiveProxy: the law's walk, for every struct, every number, every number. -/
import Derived.Test.YtdjnaoaniokbgaaBx
import Derived.Test.YtdjnaoaniokbgaaGiveProxyC
import Derived.Test.YtdjnaoaniokbgaaLVotersE
import Derived.Test.YtdjnaoaniokbgaaLVotersM
import Derived.Test.YtdjnaoaniokbgaaLVotersO
import Derived.Test.YtdjnaoaniokbgaaLVotersT
import Derived.Test.YtdjnaoaniokbgaaLVotersZ
import Derived.Deep.RegionHeld3
import Derived.Deep.DeepCutAuto
namespace Go.Proofs.Ytdjnaoaniokbgaa.fnExactGiveProxy
open Go.RowKit Bs
set_option linter.unusedVariables false
set_option maxRecDepth 100000 in
set_option maxHeartbeats 12800000 in
theorem walk (a0_0 : Option Addr) (len0_0 cap0_0 : Nat) (a0_1 : Option Addr) (len0_1 cap0_1 : Nat) (z0 : LVoters.R) (a1 : Int) (a2 : Int) (w : World) (sh : w.ShapedOpen Try.prog) (w0 : LVoters.IsIn w a0_0 len0_0 cap0_0 a0_1 len0_1 cap0_1 z0) (w1 : (Lit.int .i64 a1).wf = true) (w2 : (Lit.int .i64 a2).wf = true) :
    Calls Try.prog 8 #[.agg #[.slice a0_0 len0_0 cap0_0, .slice a0_1 len0_1 cap0_1], .int .i64 a1, .int .i64 a2] w fun e w' => e = .returned (.bool true) ∧ Below w.heap.size w w' := by
  have HA0 := Lib.hid (LVoters.Is.loc (LVoters.IsIn.is w0))
  have HF0 := Lib.hid (LVoters.IsIn.fine w0)
  have HL0_0 := Lib.hid (LVoters.IsIn.len0 w0)
  have HL0_1 := Lib.hid (LVoters.IsIn.len1 w0)
  have HW1 := Lib.hid w1
  have HW2 := Lib.hid w2
  clear sh w0 w1 w2
  go_enter Try.func8, Try.ntmps8
  replace HA0 := Lib.hid (HA0.out.alloc (.cells #[.slice a0_0 len0_0 cap0_0, .slice a0_1 len0_1 cap0_1] 51))
  have HX0 := Lib.hid (Bx.loc (Bx.new w 51 #[.slice a0_0 len0_0 cap0_0, .slice a0_1 len0_1 cap0_1]))
  have hb := (Below.refl w.heap.size w).alloc (Nat.le_refl _) (Obj.cells #[.slice a0_0 len0_0 cap0_0, .slice a0_1 len0_1 cap0_1] 51)
  have q0_0 := HX0.out.now.cell 0
  have q0_1 := HX0.out.now.cell 1
  simp only [List.getElem?_toArray, List.getElem?_cons_zero, List.getElem?_cons_succ] at q0_0 q0_1
  go_wp2_with fail
  refine (LVoters.sz _ z0 _ _ (by omega) (by omega) HA0.out.now HF0.out).mono ?_
  rintro e w1_ ⟨hb1, x, rfl, ⟨hx0, hxl⟩ | ⟨rfl, hxl⟩⟩
  · clear hxl
    go_wp2_with fail
    go_ret
    exact ⟨rfl, hb.trans (hb1.mono hb.size)⟩
  have hbud0 := hxl
  clear hxl
  have hzl0_0 : z0.weights.length ≤ 1048576 := by (have h0 : LVoters.wt z0 = (z0.weights.length + LInt.tot z0.weights) + (z0.proxies.length + LProxy.tot z0.proxies) := rfl); omega
  have hzl0_1 : z0.proxies.length ≤ 1048576 := by (have h0 : LVoters.wt z0 = (z0.weights.length + LInt.tot z0.weights) + (z0.proxies.length + LProxy.tot z0.proxies) := rfl); omega
  replace HA0 := Lib.hid (HA0.out.kept hb1)
  replace HX0 := Lib.hid (HX0.out.kept hb1)
  clear q0_0 q0_1
  have q0_0 := HX0.out.now.cell 0
  have q0_1 := HX0.out.now.cell 1
  simp only [List.getElem?_toArray, List.getElem?_cons_zero, List.getElem?_cons_succ] at q0_0 q0_1
  have HZ1 := Lib.hid (show w.heap.size + 1 ≤ w1_.heap.size by have := hb1.size; simp at this; omega)
  replace hb := hb.trans (hb1.mono hb.size)
  clear hb1
  go_wp2_with fail
  refine (LVoters.to _ z0 _ HA0.out.now (by omega) (by omega)).mono ?_
  rintro e w2_ ⟨u2, rfl, hnn2, ho, hb1⟩
  replace hnn2 := Lib.hid hnn2
  have HC2 := Lib.hid ho.loc
  clear ho
  replace HA0 := Lib.hid (HA0.out.kept hb1)
  replace HX0 := Lib.hid (HX0.out.kept hb1)
  clear q0_0 q0_1
  have q0_0 := HX0.out.now.cell 0
  have q0_1 := HX0.out.now.cell 1
  simp only [List.getElem?_toArray, List.getElem?_cons_zero, List.getElem?_cons_succ] at q0_0 q0_1
  have HZ2 := Lib.hid hb1.size
  replace hb := hb.trans (hb1.mono hb.size)
  clear hb1
  go_wp2_with fail
  refine (GiveProxyC.spec _ z0 a1 a2 _ (HC2.out.now.1.isQ) HF0.out (by omega) (by omega)).mono ?_
  rintro e w3_ ⟨v0_3, r0_3, r1_3, rfl, hans, ho0, hb1⟩
  have HS := Lib.hid hans
  obtain ⟨hlen0_0, hlen0_1⟩ := GiveProxyC.len0 hans
  clear hans
  obtain ⟨fa0_3_0, fn0_3_0, fc0_3_0, fa0_3_1, fn0_3_1, fc0_3_1, rfl⟩ := ho0.form
  have HR0_3 := Lib.hid ho0.loc
  clear ho0
  replace HA0 := Lib.hid (HA0.out.kept hb1)
  replace HX0 := Lib.hid (HX0.out.kept hb1)
  replace HC2 := Lib.hid (HC2.out.kept hb1)
  clear q0_0 q0_1
  have q0_0 := HX0.out.now.cell 0
  have q0_1 := HX0.out.now.cell 1
  simp only [List.getElem?_toArray, List.getElem?_cons_zero, List.getElem?_cons_succ] at q0_0 q0_1
  have HZ3 := Lib.hid hb1.size
  replace hb := hb.trans (hb1.mono hb.size)
  clear hb1
  clear HC2
  have hne1 : (r1_3 != r1_3) = false := by simp
  have o0_0 := q0_0
  have o0_1 := q0_1
  have ol0 := HX0.out.le
  have hbx := (Below.refl w3_.heap.size w3_).alloc (Nat.le_refl _) (Obj.cells #[.slice fa0_3_0 fn0_3_0 fc0_3_0, .slice fa0_3_1 fn0_3_1 fc0_3_1] 27)
  replace HA0 := Lib.hid (HA0.out.kept hbx)
  replace HX0 := Lib.hid (HX0.out.kept hbx)
  replace HR0_3 := Lib.hid (HR0_3.out.kept hbx)
  have HXw0 := Lib.hid (Bx.loc (Bx.new w3_ 27 #[.slice fa0_3_0 fn0_3_0 fc0_3_0, .slice fa0_3_1 fn0_3_1 fc0_3_1]))
  have HZ4 := Lib.hid (show w3_.heap.size + 1 ≤ (w3_.alloc (Obj.cells #[.slice fa0_3_0 fn0_3_0 fc0_3_0, .slice fa0_3_1 fn0_3_1 fc0_3_1] 27)).heap.size by simp)
  replace hb := hb.trans (hbx.mono hb.size)
  clear hbx
  clear q0_0 q0_1
  have q0_0 := HX0.out.now.cell 0
  have q0_1 := HX0.out.now.cell 1
  simp only [List.getElem?_toArray, List.getElem?_cons_zero, List.getElem?_cons_succ] at q0_0 q0_1
  have qw0_0 := HXw0.out.now.cell 0
  have qw0_1 := HXw0.out.now.cell 1
  simp only [List.getElem?_toArray, List.getElem?_cons_zero, List.getElem?_cons_succ] at qw0_0 qw0_1
  go_wp2_with fail
  clear o0_0 o0_1 ol0
  generalize w3_.alloc (Obj.cells #[.slice fa0_3_0 fn0_3_0 fc0_3_0, .slice fa0_3_1 fn0_3_1 fc0_3_1] 27) = w4_ at *
  refine (LVoters.to _ z0 _ HA0.out.now (by omega) (by omega)).mono ?_
  rintro e w5_ ⟨u5, rfl, hnn5, ho, hb1⟩
  replace hnn5 := Lib.hid hnn5
  have HC5 := Lib.hid ho.loc
  clear ho
  replace HA0 := Lib.hid (HA0.out.kept hb1)
  replace HX0 := Lib.hid (HX0.out.kept hb1)
  replace HR0_3 := Lib.hid (HR0_3.out.kept hb1)
  replace HXw0 := Lib.hid (HXw0.out.kept hb1)
  clear q0_0 q0_1
  have q0_0 := HX0.out.now.cell 0
  have q0_1 := HX0.out.now.cell 1
  simp only [List.getElem?_toArray, List.getElem?_cons_zero, List.getElem?_cons_succ] at q0_0 q0_1
  clear qw0_0 qw0_1
  have qw0_0 := HXw0.out.now.cell 0
  have qw0_1 := HXw0.out.now.cell 1
  simp only [List.getElem?_toArray, List.getElem?_cons_zero, List.getElem?_cons_succ] at qw0_0 qw0_1
  have HZ5 := Lib.hid hb1.size
  replace hb := hb.trans (hb1.mono hb.size)
  clear hb1
  obtain ⟨fa5_0, fn5_0, fc5_0, fa5_1, fn5_1, fc5_1, rfl⟩ := HC5.out.now.1.form
  have o0_0 := q0_0
  have o0_1 := q0_1
  have ol0 := HX0.out.le
  have ow0_0 := qw0_0
  have ow0_1 := qw0_1
  have olw0 := HXw0.out.le
  have hbx := (Below.refl w5_.heap.size w5_).alloc (Nat.le_refl _) (Obj.cells #[.slice fa5_0 fn5_0 fc5_0, .slice fa5_1 fn5_1 fc5_1] 27)
  replace HA0 := Lib.hid (HA0.out.kept hbx)
  replace HX0 := Lib.hid (HX0.out.kept hbx)
  replace HR0_3 := Lib.hid (HR0_3.out.kept hbx)
  replace HXw0 := Lib.hid (HXw0.out.kept hbx)
  replace HC5 := Lib.hid (HC5.out.kept hbx)
  have HXx0 := Lib.hid (Bx.loc (Bx.new w5_ 27 #[.slice fa5_0 fn5_0 fc5_0, .slice fa5_1 fn5_1 fc5_1]))
  have HZ6 := Lib.hid (show w5_.heap.size + 1 ≤ (w5_.alloc (Obj.cells #[.slice fa5_0 fn5_0 fc5_0, .slice fa5_1 fn5_1 fc5_1] 27)).heap.size by simp)
  replace hb := hb.trans (hbx.mono hb.size)
  clear hbx
  clear q0_0 q0_1
  have q0_0 := HX0.out.now.cell 0
  have q0_1 := HX0.out.now.cell 1
  simp only [List.getElem?_toArray, List.getElem?_cons_zero, List.getElem?_cons_succ] at q0_0 q0_1
  clear qw0_0 qw0_1
  have qw0_0 := HXw0.out.now.cell 0
  have qw0_1 := HXw0.out.now.cell 1
  simp only [List.getElem?_toArray, List.getElem?_cons_zero, List.getElem?_cons_succ] at qw0_0 qw0_1
  have qx0_0 := HXx0.out.now.cell 0
  have qx0_1 := HXx0.out.now.cell 1
  simp only [List.getElem?_toArray, List.getElem?_cons_zero, List.getElem?_cons_succ] at qx0_0 qx0_1
  go_wp2_with fail
  clear o0_0 o0_1 ol0 ow0_0 ow0_1 olw0
  generalize w5_.alloc (Obj.cells #[.slice fa5_0 fn5_0 fc5_0, .slice fa5_1 fn5_1 fc5_1] 27) = w6_ at *
  refine (GiveProxyC.impl _ z0 a1 a2 _ (HC5.out.now.1.isQ) HF0.out (by omega) (by omega)).mono ?_
  rintro e w7_ ⟨v0_7, r0_7, r1_7, rfl, hans, ho0, hb1⟩
  obtain ⟨rfl, rfl⟩ := GiveProxyC.same HS.out hans
  clear hans
  obtain ⟨fa0_7_0, fn0_7_0, fc0_7_0, fa0_7_1, fn0_7_1, fc0_7_1, rfl⟩ := ho0.form
  have HR0_7 := Lib.hid ho0.loc
  clear ho0
  replace HA0 := Lib.hid (HA0.out.kept hb1)
  replace HX0 := Lib.hid (HX0.out.kept hb1)
  replace HR0_3 := Lib.hid (HR0_3.out.kept hb1)
  replace HXw0 := Lib.hid (HXw0.out.kept hb1)
  replace HC5 := Lib.hid (HC5.out.kept hb1)
  replace HXx0 := Lib.hid (HXx0.out.kept hb1)
  clear q0_0 q0_1
  have q0_0 := HX0.out.now.cell 0
  have q0_1 := HX0.out.now.cell 1
  simp only [List.getElem?_toArray, List.getElem?_cons_zero, List.getElem?_cons_succ] at q0_0 q0_1
  clear qw0_0 qw0_1
  have qw0_0 := HXw0.out.now.cell 0
  have qw0_1 := HXw0.out.now.cell 1
  simp only [List.getElem?_toArray, List.getElem?_cons_zero, List.getElem?_cons_succ] at qw0_0 qw0_1
  clear qx0_0 qx0_1
  have qx0_0 := HXx0.out.now.cell 0
  have qx0_1 := HXx0.out.now.cell 1
  simp only [List.getElem?_toArray, List.getElem?_cons_zero, List.getElem?_cons_succ] at qx0_0 qx0_1
  have HZ7 := Lib.hid hb1.size
  replace hb := hb.trans (hb1.mono hb.size)
  clear hb1
  have o0_0 := q0_0
  have o0_1 := q0_1
  have ol0 := HX0.out.le
  have ow0_0 := qw0_0
  have ow0_1 := qw0_1
  have olw0 := HXw0.out.le
  have ox0_0 := qx0_0
  have ox0_1 := qx0_1
  have olx0 := HXx0.out.le
  have hbx := (Below.refl w7_.heap.size w7_).alloc (Nat.le_refl _) (Obj.cells #[.slice fa0_7_0 fn0_7_0 fc0_7_0, .slice fa0_7_1 fn0_7_1 fc0_7_1] 27)
  replace HA0 := Lib.hid (HA0.out.kept hbx)
  replace HX0 := Lib.hid (HX0.out.kept hbx)
  replace HR0_3 := Lib.hid (HR0_3.out.kept hbx)
  replace HXw0 := Lib.hid (HXw0.out.kept hbx)
  replace HC5 := Lib.hid (HC5.out.kept hbx)
  replace HXx0 := Lib.hid (HXx0.out.kept hbx)
  replace HR0_7 := Lib.hid (HR0_7.out.kept hbx)
  have HXg0 := Lib.hid (Bx.loc (Bx.new w7_ 27 #[.slice fa0_7_0 fn0_7_0 fc0_7_0, .slice fa0_7_1 fn0_7_1 fc0_7_1]))
  have HZ8 := Lib.hid (show w7_.heap.size + 1 ≤ (w7_.alloc (Obj.cells #[.slice fa0_7_0 fn0_7_0 fc0_7_0, .slice fa0_7_1 fn0_7_1 fc0_7_1] 27)).heap.size by simp)
  replace hb := hb.trans (hbx.mono hb.size)
  clear hbx
  clear q0_0 q0_1
  have q0_0 := HX0.out.now.cell 0
  have q0_1 := HX0.out.now.cell 1
  simp only [List.getElem?_toArray, List.getElem?_cons_zero, List.getElem?_cons_succ] at q0_0 q0_1
  clear qw0_0 qw0_1
  have qw0_0 := HXw0.out.now.cell 0
  have qw0_1 := HXw0.out.now.cell 1
  simp only [List.getElem?_toArray, List.getElem?_cons_zero, List.getElem?_cons_succ] at qw0_0 qw0_1
  clear qx0_0 qx0_1
  have qx0_0 := HXx0.out.now.cell 0
  have qx0_1 := HXx0.out.now.cell 1
  simp only [List.getElem?_toArray, List.getElem?_cons_zero, List.getElem?_cons_succ] at qx0_0 qx0_1
  have qg0_0 := HXg0.out.now.cell 0
  have qg0_1 := HXg0.out.now.cell 1
  simp only [List.getElem?_toArray, List.getElem?_cons_zero, List.getElem?_cons_succ] at qg0_0 qg0_1
  go_wp2_with fail
  clear o0_0 o0_1 ol0 ow0_0 ow0_1 olw0 ox0_0 ox0_1 olx0
  generalize w7_.alloc (Obj.cells #[.slice fa0_7_0 fn0_7_0 fc0_7_0, .slice fa0_7_1 fn0_7_1 fc0_7_1] 27) = w8_ at *
  refine (LVoters.eq _ _ r0_3 _ HR0_7.out.now.1.is HR0_3.out.now.1.is).mono ?_
  rintro e w9_ ⟨rfl, hb1⟩
  replace HA0 := Lib.hid (HA0.out.kept hb1)
  replace HX0 := Lib.hid (HX0.out.kept hb1)
  replace HR0_3 := Lib.hid (HR0_3.out.kept hb1)
  replace HXw0 := Lib.hid (HXw0.out.kept hb1)
  replace HC5 := Lib.hid (HC5.out.kept hb1)
  replace HXx0 := Lib.hid (HXx0.out.kept hb1)
  replace HR0_7 := Lib.hid (HR0_7.out.kept hb1)
  replace HXg0 := Lib.hid (HXg0.out.kept hb1)
  clear q0_0 q0_1
  have q0_0 := HX0.out.now.cell 0
  have q0_1 := HX0.out.now.cell 1
  simp only [List.getElem?_toArray, List.getElem?_cons_zero, List.getElem?_cons_succ] at q0_0 q0_1
  clear qw0_0 qw0_1
  have qw0_0 := HXw0.out.now.cell 0
  have qw0_1 := HXw0.out.now.cell 1
  simp only [List.getElem?_toArray, List.getElem?_cons_zero, List.getElem?_cons_succ] at qw0_0 qw0_1
  clear qx0_0 qx0_1
  have qx0_0 := HXx0.out.now.cell 0
  have qx0_1 := HXx0.out.now.cell 1
  simp only [List.getElem?_toArray, List.getElem?_cons_zero, List.getElem?_cons_succ] at qx0_0 qx0_1
  clear qg0_0 qg0_1
  have qg0_0 := HXg0.out.now.cell 0
  have qg0_1 := HXg0.out.now.cell 1
  simp only [List.getElem?_toArray, List.getElem?_cons_zero, List.getElem?_cons_succ] at qg0_0 qg0_1
  have HZ9 := Lib.hid hb1.size
  replace hb := hb.trans (hb1.mono hb.size)
  clear hb1
  go_wp2_with fail
  go_cut [53] (fun t wx => t = .bool false ∧ Below w9_.heap.size w9_ wx)
  case first =>
    have hlt0 : w.heap.size < w9_.heap.size := HX0.out.le
    have hltx0 : w5_.heap.size < w9_.heap.size := HXx0.out.le
    have HK := Lib.hid (show ∀ w' : World, Below w9_.heap.size w9_ w' → Below w9_.heap.size w9_ w' ∧ w'.cell? ⟨w.heap.size, 0, none⟩ = some (.slice a0_0 len0_0 cap0_0) ∧ w'.cell? ⟨w.heap.size, 1, none⟩ = some (.slice a0_1 len0_1 cap0_1) ∧ w'.cell? ⟨w5_.heap.size, 0, none⟩ = some (.slice fa5_0 fn5_0 fc5_0) ∧ w'.cell? ⟨w5_.heap.size, 1, none⟩ = some (.slice fa5_1 fn5_1 fc5_1) from fun w' hb => ⟨hb, by rw [hb.cell (by assumption)]; exact q0_0, by rw [hb.cell (by assumption)]; exact q0_1, by rw [hb.cell (by assumption)]; exact qx0_0, by rw [hb.cell (by assumption)]; exact qx0_1⟩)
    go_region_held3 (fun w' => Below w9_.heap.size w9_ w' ∧ w'.cell? ⟨w.heap.size, 0, none⟩ = some (.slice a0_0 len0_0 cap0_0) ∧ w'.cell? ⟨w.heap.size, 1, none⟩ = some (.slice a0_1 len0_1 cap0_1) ∧ w'.cell? ⟨w5_.heap.size, 0, none⟩ = some (.slice fa5_0 fn5_0 fc5_0) ∧ w'.cell? ⟨w5_.heap.size, 1, none⟩ = some (.slice fa5_1 fn5_1 fc5_1)) ((refine HK.out _ ?_; (repeat (first | assumption | exact Below.refl _ _ | refine Below.drew ?_ | refine Below.alloc ?_ (by first | (simp; done) | (simp; omega) | omega) _)))) (first | ((go_at_call 45; refine (LVoters.to _ z0 _ (HA0.out.kept (by (repeat (first | assumption | exact Below.refl _ _ | refine Below.drew ?_ | refine Below.alloc ?_ (by first | (simp; done) | (simp; omega) | omega) _)))).now (by omega) (by omega)).mono ?_; rintro e wt ⟨u, rfl, hn, ho, hbt⟩; have hB : Below w9_.heap.size w9_ wt := Below.trans (by (repeat (first | assumption | exact Below.refl _ _ | refine Below.drew ?_ | refine Below.alloc ?_ (by first | (simp; done) | (simp; omega) | omega) _))) (hbt.mono (by first | (simp; done) | (simp; omega) | omega)); have hz := hB.size)) | ((go_at_call 46; refine (LVoters.eq _ _ z0 _ (HC5.out.kept (by first | assumption | (refine Below.drew ?_; assumption) | (repeat (first | assumption | exact Below.refl _ _ | refine Below.drew ?_ | refine Below.alloc ?_ (by first | (simp; done) | (simp; omega) | omega) _)))).now.1.is (by first | exact ho.is | exact (ho.kept (by first | assumption | exact (Below.refl _ _).drew)).is)).mono ?_; rintro e wz ⟨rfl, hbz⟩; have hBz : Below w9_.heap.size w9_ wz := Below.trans (by (repeat (first | assumption | exact Below.refl _ _ | refine Below.drew ?_ | refine Below.alloc ?_ (by first | (simp; done) | (simp; omega) | omega) _))) (hbz.mono (by first | (simp; done) | (simp; omega) | omega)); have hzz := hBz.size)) | fail)
    all_goals (go_wp2_with fail; go_meet; exact ⟨rfl, hBz⟩)
  case rest =>
  obtain ⟨rfl, hb1⟩ := hcut
  obtain ⟨w10_, hwc⟩ : ∃ x, x = wc := ⟨_, rfl⟩
  subst hwc
  replace HA0 := Lib.hid (HA0.out.kept hb1)
  replace HX0 := Lib.hid (HX0.out.kept hb1)
  replace HR0_3 := Lib.hid (HR0_3.out.kept hb1)
  replace HXw0 := Lib.hid (HXw0.out.kept hb1)
  replace HC5 := Lib.hid (HC5.out.kept hb1)
  replace HXx0 := Lib.hid (HXx0.out.kept hb1)
  replace HR0_7 := Lib.hid (HR0_7.out.kept hb1)
  replace HXg0 := Lib.hid (HXg0.out.kept hb1)
  clear q0_0 q0_1
  have q0_0 := HX0.out.now.cell 0
  have q0_1 := HX0.out.now.cell 1
  simp only [List.getElem?_toArray, List.getElem?_cons_zero, List.getElem?_cons_succ] at q0_0 q0_1
  clear qw0_0 qw0_1
  have qw0_0 := HXw0.out.now.cell 0
  have qw0_1 := HXw0.out.now.cell 1
  simp only [List.getElem?_toArray, List.getElem?_cons_zero, List.getElem?_cons_succ] at qw0_0 qw0_1
  clear qx0_0 qx0_1
  have qx0_0 := HXx0.out.now.cell 0
  have qx0_1 := HXx0.out.now.cell 1
  simp only [List.getElem?_toArray, List.getElem?_cons_zero, List.getElem?_cons_succ] at qx0_0 qx0_1
  clear qg0_0 qg0_1
  have qg0_0 := HXg0.out.now.cell 0
  have qg0_1 := HXg0.out.now.cell 1
  simp only [List.getElem?_toArray, List.getElem?_cons_zero, List.getElem?_cons_succ] at qg0_0 qg0_1
  have HZ10 := Lib.hid hb1.size
  replace hb := hb.trans (hb1.mono hb.size)
  clear hb1
  go_wp2_with fail
  refine (LVoters.mark _ _ 1 _ z0 _ (by omega) (by omega) HC5.out.le HC5.out.now).mono ?_
  rintro e w11_ ⟨he, ho, hap⟩
  obtain ⟨Nk11, hNk⟩ : ∃ N : Nat, N = (1 + 1 * z0.weights.length + 2 * z0.proxies.length) := ⟨_, rfl⟩
  rw [← hNk] at he
  have HNk11 := Lib.hid hNk
  subst he
  clear hNk
  replace HA0 := Lib.hid (HA0.out.apart hap (by have := HZ1.out; have := HZ2.out; have := HZ3.out; have := HZ4.out; have := HZ5.out; have := HZ6.out; have := HZ7.out; have := HZ8.out; have := HZ9.out; have := HZ10.out; omega))
  replace HX0 := Lib.hid (HX0.out.apart hap (by have := HZ1.out; have := HZ2.out; have := HZ3.out; have := HZ4.out; have := HZ5.out; have := HZ6.out; have := HZ7.out; have := HZ8.out; have := HZ9.out; have := HZ10.out; omega))
  replace HR0_3 := Lib.hid (HR0_3.out.apart hap (by have := HZ1.out; have := HZ2.out; have := HZ3.out; have := HZ4.out; have := HZ5.out; have := HZ6.out; have := HZ7.out; have := HZ8.out; have := HZ9.out; have := HZ10.out; omega))
  replace HXw0 := Lib.hid (HXw0.out.apart hap (by have := HZ1.out; have := HZ2.out; have := HZ3.out; have := HZ4.out; have := HZ5.out; have := HZ6.out; have := HZ7.out; have := HZ8.out; have := HZ9.out; have := HZ10.out; omega))
  replace HXx0 := Lib.hid (HXx0.out.apart hap (by have := HZ1.out; have := HZ2.out; have := HZ3.out; have := HZ4.out; have := HZ5.out; have := HZ6.out; have := HZ7.out; have := HZ8.out; have := HZ9.out; have := HZ10.out; omega))
  replace HR0_7 := Lib.hid (HR0_7.out.apart hap (by have := HZ1.out; have := HZ2.out; have := HZ3.out; have := HZ4.out; have := HZ5.out; have := HZ6.out; have := HZ7.out; have := HZ8.out; have := HZ9.out; have := HZ10.out; omega))
  replace HXg0 := Lib.hid (HXg0.out.apart hap (by have := HZ1.out; have := HZ2.out; have := HZ3.out; have := HZ4.out; have := HZ5.out; have := HZ6.out; have := HZ7.out; have := HZ8.out; have := HZ9.out; have := HZ10.out; omega))
  have hlow := hap.below (B' := w.heap.size) (by have := hb.size; have := HZ1.out; have := HZ2.out; have := HZ3.out; have := HZ4.out; have := HZ5.out; have := HZ6.out; have := HZ7.out; have := HZ8.out; have := HZ9.out; have := HZ10.out; omega) hb.size
  replace HC5 := Lib.hid (ho.loc (by have := hap.size; have := HZ1.out; have := HZ2.out; have := HZ3.out; have := HZ4.out; have := HZ5.out; have := HZ6.out; have := HZ7.out; have := HZ8.out; have := HZ9.out; have := HZ10.out; omega))
  have HZ11 := Lib.hid hap.size
  replace hb := hb.trans hlow
  clear ho hap hlow
  clear q0_0 q0_1
  have q0_0 := HX0.out.now.cell 0
  have q0_1 := HX0.out.now.cell 1
  simp only [List.getElem?_toArray, List.getElem?_cons_zero, List.getElem?_cons_succ] at q0_0 q0_1
  clear qw0_0 qw0_1
  have qw0_0 := HXw0.out.now.cell 0
  have qw0_1 := HXw0.out.now.cell 1
  simp only [List.getElem?_toArray, List.getElem?_cons_zero, List.getElem?_cons_succ] at qw0_0 qw0_1
  clear qx0_0 qx0_1
  have qx0_0 := HXx0.out.now.cell 0
  have qx0_1 := HXx0.out.now.cell 1
  simp only [List.getElem?_toArray, List.getElem?_cons_zero, List.getElem?_cons_succ] at qx0_0 qx0_1
  clear qg0_0 qg0_1
  have qg0_0 := HXg0.out.now.cell 0
  have qg0_1 := HXg0.out.now.cell 1
  simp only [List.getElem?_toArray, List.getElem?_cons_zero, List.getElem?_cons_succ] at qg0_0 qg0_1
  go_wp2_with fail
  refine (LVoters.eq _ _ r0_3 _ HR0_7.out.now.1.is HR0_3.out.now.1.is).mono ?_
  rintro e w12_ ⟨rfl, hb1⟩
  replace HA0 := Lib.hid (HA0.out.kept hb1)
  replace HX0 := Lib.hid (HX0.out.kept hb1)
  replace HR0_3 := Lib.hid (HR0_3.out.kept hb1)
  replace HXw0 := Lib.hid (HXw0.out.kept hb1)
  replace HC5 := Lib.hid (HC5.out.kept hb1)
  replace HXx0 := Lib.hid (HXx0.out.kept hb1)
  replace HR0_7 := Lib.hid (HR0_7.out.kept hb1)
  replace HXg0 := Lib.hid (HXg0.out.kept hb1)
  clear q0_0 q0_1
  have q0_0 := HX0.out.now.cell 0
  have q0_1 := HX0.out.now.cell 1
  simp only [List.getElem?_toArray, List.getElem?_cons_zero, List.getElem?_cons_succ] at q0_0 q0_1
  clear qw0_0 qw0_1
  have qw0_0 := HXw0.out.now.cell 0
  have qw0_1 := HXw0.out.now.cell 1
  simp only [List.getElem?_toArray, List.getElem?_cons_zero, List.getElem?_cons_succ] at qw0_0 qw0_1
  clear qx0_0 qx0_1
  have qx0_0 := HXx0.out.now.cell 0
  have qx0_1 := HXx0.out.now.cell 1
  simp only [List.getElem?_toArray, List.getElem?_cons_zero, List.getElem?_cons_succ] at qx0_0 qx0_1
  clear qg0_0 qg0_1
  have qg0_0 := HXg0.out.now.cell 0
  have qg0_1 := HXg0.out.now.cell 1
  simp only [List.getElem?_toArray, List.getElem?_cons_zero, List.getElem?_cons_succ] at qg0_0 qg0_1
  have HZ12 := Lib.hid hb1.size
  replace hb := hb.trans (hb1.mono hb.size)
  clear hb1
  go_wp2_with fail
  refine (LVoters.mark _ _ 1 _ r0_3 _ (by have := HNk11.out; omega) (by have := HNk11.out; omega) HR0_7.out.le HR0_7.out.now).mono ?_
  rintro e w13_ ⟨rfl, ho, hap⟩
  replace HA0 := Lib.hid (HA0.out.apart hap (by have := HZ1.out; have := HZ2.out; have := HZ3.out; have := HZ4.out; have := HZ5.out; have := HZ6.out; have := HZ7.out; have := HZ8.out; have := HZ9.out; have := HZ10.out; have := HZ11.out; have := HZ12.out; omega))
  replace HX0 := Lib.hid (HX0.out.apart hap (by have := HZ1.out; have := HZ2.out; have := HZ3.out; have := HZ4.out; have := HZ5.out; have := HZ6.out; have := HZ7.out; have := HZ8.out; have := HZ9.out; have := HZ10.out; have := HZ11.out; have := HZ12.out; omega))
  replace HR0_3 := Lib.hid (HR0_3.out.apart hap (by have := HZ1.out; have := HZ2.out; have := HZ3.out; have := HZ4.out; have := HZ5.out; have := HZ6.out; have := HZ7.out; have := HZ8.out; have := HZ9.out; have := HZ10.out; have := HZ11.out; have := HZ12.out; omega))
  replace HXw0 := Lib.hid (HXw0.out.apart hap (by have := HZ1.out; have := HZ2.out; have := HZ3.out; have := HZ4.out; have := HZ5.out; have := HZ6.out; have := HZ7.out; have := HZ8.out; have := HZ9.out; have := HZ10.out; have := HZ11.out; have := HZ12.out; omega))
  replace HC5 := Lib.hid (HC5.out.apart hap (by have := HZ1.out; have := HZ2.out; have := HZ3.out; have := HZ4.out; have := HZ5.out; have := HZ6.out; have := HZ7.out; have := HZ8.out; have := HZ9.out; have := HZ10.out; have := HZ11.out; have := HZ12.out; omega))
  replace HXx0 := Lib.hid (HXx0.out.apart hap (by have := HZ1.out; have := HZ2.out; have := HZ3.out; have := HZ4.out; have := HZ5.out; have := HZ6.out; have := HZ7.out; have := HZ8.out; have := HZ9.out; have := HZ10.out; have := HZ11.out; have := HZ12.out; omega))
  replace HXg0 := Lib.hid (HXg0.out.apart hap (by have := HZ1.out; have := HZ2.out; have := HZ3.out; have := HZ4.out; have := HZ5.out; have := HZ6.out; have := HZ7.out; have := HZ8.out; have := HZ9.out; have := HZ10.out; have := HZ11.out; have := HZ12.out; omega))
  have hlow := hap.below (B' := w.heap.size) (by have := hb.size; have := HZ1.out; have := HZ2.out; have := HZ3.out; have := HZ4.out; have := HZ5.out; have := HZ6.out; have := HZ7.out; have := HZ8.out; have := HZ9.out; have := HZ10.out; have := HZ11.out; have := HZ12.out; omega) hb.size
  replace HR0_7 := Lib.hid (ho.loc (by have := hap.size; have := HZ1.out; have := HZ2.out; have := HZ3.out; have := HZ4.out; have := HZ5.out; have := HZ6.out; have := HZ7.out; have := HZ8.out; have := HZ9.out; have := HZ10.out; have := HZ11.out; have := HZ12.out; omega))
  have HZ13 := Lib.hid hap.size
  replace hb := hb.trans hlow
  clear ho hap hlow
  clear q0_0 q0_1
  have q0_0 := HX0.out.now.cell 0
  have q0_1 := HX0.out.now.cell 1
  simp only [List.getElem?_toArray, List.getElem?_cons_zero, List.getElem?_cons_succ] at q0_0 q0_1
  clear qw0_0 qw0_1
  have qw0_0 := HXw0.out.now.cell 0
  have qw0_1 := HXw0.out.now.cell 1
  simp only [List.getElem?_toArray, List.getElem?_cons_zero, List.getElem?_cons_succ] at qw0_0 qw0_1
  clear qx0_0 qx0_1
  have qx0_0 := HXx0.out.now.cell 0
  have qx0_1 := HXx0.out.now.cell 1
  simp only [List.getElem?_toArray, List.getElem?_cons_zero, List.getElem?_cons_succ] at qx0_0 qx0_1
  clear qg0_0 qg0_1
  have qg0_0 := HXg0.out.now.cell 0
  have qg0_1 := HXg0.out.now.cell 1
  simp only [List.getElem?_toArray, List.getElem?_cons_zero, List.getElem?_cons_succ] at qg0_0 qg0_1
  go_wp2_with fail
  refine (LVoters.held _ 1 _ r0_3 _ (by omega) (by omega) HR0_7.out.now.1).mono ?_
  rintro e w14_ ⟨rfl, hb1⟩
  replace HA0 := Lib.hid (HA0.out.kept hb1)
  replace HX0 := Lib.hid (HX0.out.kept hb1)
  replace HR0_3 := Lib.hid (HR0_3.out.kept hb1)
  replace HXw0 := Lib.hid (HXw0.out.kept hb1)
  replace HC5 := Lib.hid (HC5.out.kept hb1)
  replace HXx0 := Lib.hid (HXx0.out.kept hb1)
  replace HR0_7 := Lib.hid (HR0_7.out.kept hb1)
  replace HXg0 := Lib.hid (HXg0.out.kept hb1)
  clear q0_0 q0_1
  have q0_0 := HX0.out.now.cell 0
  have q0_1 := HX0.out.now.cell 1
  simp only [List.getElem?_toArray, List.getElem?_cons_zero, List.getElem?_cons_succ] at q0_0 q0_1
  clear qw0_0 qw0_1
  have qw0_0 := HXw0.out.now.cell 0
  have qw0_1 := HXw0.out.now.cell 1
  simp only [List.getElem?_toArray, List.getElem?_cons_zero, List.getElem?_cons_succ] at qw0_0 qw0_1
  clear qx0_0 qx0_1
  have qx0_0 := HXx0.out.now.cell 0
  have qx0_1 := HXx0.out.now.cell 1
  simp only [List.getElem?_toArray, List.getElem?_cons_zero, List.getElem?_cons_succ] at qx0_0 qx0_1
  clear qg0_0 qg0_1
  have qg0_0 := HXg0.out.now.cell 0
  have qg0_1 := HXg0.out.now.cell 1
  simp only [List.getElem?_toArray, List.getElem?_cons_zero, List.getElem?_cons_succ] at qg0_0 qg0_1
  have HZ14 := Lib.hid hb1.size
  replace hb := hb.trans (hb1.mono hb.size)
  clear hb1
  go_wp2_with fail
  refine (LVoters.to _ z0 _ HA0.out.now (by omega) (by omega)).mono ?_
  rintro e w15_ ⟨u15, rfl, hnn15, ho, hb1⟩
  replace hnn15 := Lib.hid hnn15
  have HC15 := Lib.hid ho.loc
  clear ho
  replace HA0 := Lib.hid (HA0.out.kept hb1)
  replace HX0 := Lib.hid (HX0.out.kept hb1)
  replace HR0_3 := Lib.hid (HR0_3.out.kept hb1)
  replace HXw0 := Lib.hid (HXw0.out.kept hb1)
  replace HC5 := Lib.hid (HC5.out.kept hb1)
  replace HXx0 := Lib.hid (HXx0.out.kept hb1)
  replace HR0_7 := Lib.hid (HR0_7.out.kept hb1)
  replace HXg0 := Lib.hid (HXg0.out.kept hb1)
  clear q0_0 q0_1
  have q0_0 := HX0.out.now.cell 0
  have q0_1 := HX0.out.now.cell 1
  simp only [List.getElem?_toArray, List.getElem?_cons_zero, List.getElem?_cons_succ] at q0_0 q0_1
  clear qw0_0 qw0_1
  have qw0_0 := HXw0.out.now.cell 0
  have qw0_1 := HXw0.out.now.cell 1
  simp only [List.getElem?_toArray, List.getElem?_cons_zero, List.getElem?_cons_succ] at qw0_0 qw0_1
  clear qx0_0 qx0_1
  have qx0_0 := HXx0.out.now.cell 0
  have qx0_1 := HXx0.out.now.cell 1
  simp only [List.getElem?_toArray, List.getElem?_cons_zero, List.getElem?_cons_succ] at qx0_0 qx0_1
  clear qg0_0 qg0_1
  have qg0_0 := HXg0.out.now.cell 0
  have qg0_1 := HXg0.out.now.cell 1
  simp only [List.getElem?_toArray, List.getElem?_cons_zero, List.getElem?_cons_succ] at qg0_0 qg0_1
  have HZ15 := Lib.hid hb1.size
  replace hb := hb.trans (hb1.mono hb.size)
  clear hb1
  go_wp2_with fail
  refine (GiveProxyC.impl _ z0 a1 a2 _ (HC15.out.now.1.isQ) HF0.out (by omega) (by omega)).mono ?_
  rintro e w16_ ⟨v0_16, r0_16, r1_16, rfl, hans, ho0, hb1⟩
  obtain ⟨rfl, rfl⟩ := GiveProxyC.same HS.out hans
  clear hans
  obtain ⟨fa0_16_0, fn0_16_0, fc0_16_0, fa0_16_1, fn0_16_1, fc0_16_1, rfl⟩ := ho0.form
  have HR0_16 := Lib.hid ho0.loc
  clear ho0
  replace HA0 := Lib.hid (HA0.out.kept hb1)
  replace HX0 := Lib.hid (HX0.out.kept hb1)
  replace HR0_3 := Lib.hid (HR0_3.out.kept hb1)
  replace HXw0 := Lib.hid (HXw0.out.kept hb1)
  replace HC5 := Lib.hid (HC5.out.kept hb1)
  replace HXx0 := Lib.hid (HXx0.out.kept hb1)
  replace HR0_7 := Lib.hid (HR0_7.out.kept hb1)
  replace HXg0 := Lib.hid (HXg0.out.kept hb1)
  replace HC15 := Lib.hid (HC15.out.kept hb1)
  clear q0_0 q0_1
  have q0_0 := HX0.out.now.cell 0
  have q0_1 := HX0.out.now.cell 1
  simp only [List.getElem?_toArray, List.getElem?_cons_zero, List.getElem?_cons_succ] at q0_0 q0_1
  clear qw0_0 qw0_1
  have qw0_0 := HXw0.out.now.cell 0
  have qw0_1 := HXw0.out.now.cell 1
  simp only [List.getElem?_toArray, List.getElem?_cons_zero, List.getElem?_cons_succ] at qw0_0 qw0_1
  clear qx0_0 qx0_1
  have qx0_0 := HXx0.out.now.cell 0
  have qx0_1 := HXx0.out.now.cell 1
  simp only [List.getElem?_toArray, List.getElem?_cons_zero, List.getElem?_cons_succ] at qx0_0 qx0_1
  clear qg0_0 qg0_1
  have qg0_0 := HXg0.out.now.cell 0
  have qg0_1 := HXg0.out.now.cell 1
  simp only [List.getElem?_toArray, List.getElem?_cons_zero, List.getElem?_cons_succ] at qg0_0 qg0_1
  have HZ16 := Lib.hid hb1.size
  replace hb := hb.trans (hb1.mono hb.size)
  clear hb1
  clear HC15
  have o0_0 := q0_0
  have o0_1 := q0_1
  have ol0 := HX0.out.le
  have ow0_0 := qw0_0
  have ow0_1 := qw0_1
  have olw0 := HXw0.out.le
  have ox0_0 := qx0_0
  have ox0_1 := qx0_1
  have olx0 := HXx0.out.le
  have og0_0 := qg0_0
  have og0_1 := qg0_1
  have olg0 := HXg0.out.le
  have hbx := (Below.refl w16_.heap.size w16_).alloc (Nat.le_refl _) (Obj.cells #[.slice fa0_16_0 fn0_16_0 fc0_16_0, .slice fa0_16_1 fn0_16_1 fc0_16_1] 27)
  replace HA0 := Lib.hid (HA0.out.kept hbx)
  replace HX0 := Lib.hid (HX0.out.kept hbx)
  replace HR0_3 := Lib.hid (HR0_3.out.kept hbx)
  replace HXw0 := Lib.hid (HXw0.out.kept hbx)
  replace HC5 := Lib.hid (HC5.out.kept hbx)
  replace HXx0 := Lib.hid (HXx0.out.kept hbx)
  replace HR0_7 := Lib.hid (HR0_7.out.kept hbx)
  replace HXg0 := Lib.hid (HXg0.out.kept hbx)
  replace HR0_16 := Lib.hid (HR0_16.out.kept hbx)
  have HXh0 := Lib.hid (Bx.loc (Bx.new w16_ 27 #[.slice fa0_16_0 fn0_16_0 fc0_16_0, .slice fa0_16_1 fn0_16_1 fc0_16_1]))
  have HZ17 := Lib.hid (show w16_.heap.size + 1 ≤ (w16_.alloc (Obj.cells #[.slice fa0_16_0 fn0_16_0 fc0_16_0, .slice fa0_16_1 fn0_16_1 fc0_16_1] 27)).heap.size by simp)
  replace hb := hb.trans (hbx.mono hb.size)
  clear hbx
  clear q0_0 q0_1
  have q0_0 := HX0.out.now.cell 0
  have q0_1 := HX0.out.now.cell 1
  simp only [List.getElem?_toArray, List.getElem?_cons_zero, List.getElem?_cons_succ] at q0_0 q0_1
  clear qw0_0 qw0_1
  have qw0_0 := HXw0.out.now.cell 0
  have qw0_1 := HXw0.out.now.cell 1
  simp only [List.getElem?_toArray, List.getElem?_cons_zero, List.getElem?_cons_succ] at qw0_0 qw0_1
  clear qx0_0 qx0_1
  have qx0_0 := HXx0.out.now.cell 0
  have qx0_1 := HXx0.out.now.cell 1
  simp only [List.getElem?_toArray, List.getElem?_cons_zero, List.getElem?_cons_succ] at qx0_0 qx0_1
  clear qg0_0 qg0_1
  have qg0_0 := HXg0.out.now.cell 0
  have qg0_1 := HXg0.out.now.cell 1
  simp only [List.getElem?_toArray, List.getElem?_cons_zero, List.getElem?_cons_succ] at qg0_0 qg0_1
  have qh0_0 := HXh0.out.now.cell 0
  have qh0_1 := HXh0.out.now.cell 1
  simp only [List.getElem?_toArray, List.getElem?_cons_zero, List.getElem?_cons_succ] at qh0_0 qh0_1
  go_wp2_with fail
  clear o0_0 o0_1 ol0 ow0_0 ow0_1 olw0 ox0_0 ox0_1 olx0 og0_0 og0_1 olg0
  generalize w16_.alloc (Obj.cells #[.slice fa0_16_0 fn0_16_0 fc0_16_0, .slice fa0_16_1 fn0_16_1 fc0_16_1] 27) = w17_ at *
  refine (LVoters.eq _ _ r0_3 _ HR0_16.out.now.1.is HR0_3.out.now.1.is).mono ?_
  rintro e w18_ ⟨rfl, hb1⟩
  replace HA0 := Lib.hid (HA0.out.kept hb1)
  replace HX0 := Lib.hid (HX0.out.kept hb1)
  replace HR0_3 := Lib.hid (HR0_3.out.kept hb1)
  replace HXw0 := Lib.hid (HXw0.out.kept hb1)
  replace HC5 := Lib.hid (HC5.out.kept hb1)
  replace HXx0 := Lib.hid (HXx0.out.kept hb1)
  replace HR0_7 := Lib.hid (HR0_7.out.kept hb1)
  replace HXg0 := Lib.hid (HXg0.out.kept hb1)
  replace HR0_16 := Lib.hid (HR0_16.out.kept hb1)
  replace HXh0 := Lib.hid (HXh0.out.kept hb1)
  clear q0_0 q0_1
  have q0_0 := HX0.out.now.cell 0
  have q0_1 := HX0.out.now.cell 1
  simp only [List.getElem?_toArray, List.getElem?_cons_zero, List.getElem?_cons_succ] at q0_0 q0_1
  clear qw0_0 qw0_1
  have qw0_0 := HXw0.out.now.cell 0
  have qw0_1 := HXw0.out.now.cell 1
  simp only [List.getElem?_toArray, List.getElem?_cons_zero, List.getElem?_cons_succ] at qw0_0 qw0_1
  clear qx0_0 qx0_1
  have qx0_0 := HXx0.out.now.cell 0
  have qx0_1 := HXx0.out.now.cell 1
  simp only [List.getElem?_toArray, List.getElem?_cons_zero, List.getElem?_cons_succ] at qx0_0 qx0_1
  clear qg0_0 qg0_1
  have qg0_0 := HXg0.out.now.cell 0
  have qg0_1 := HXg0.out.now.cell 1
  simp only [List.getElem?_toArray, List.getElem?_cons_zero, List.getElem?_cons_succ] at qg0_0 qg0_1
  clear qh0_0 qh0_1
  have qh0_0 := HXh0.out.now.cell 0
  have qh0_1 := HXh0.out.now.cell 1
  simp only [List.getElem?_toArray, List.getElem?_cons_zero, List.getElem?_cons_succ] at qh0_0 qh0_1
  have HZ18 := Lib.hid hb1.size
  replace hb := hb.trans (hb1.mono hb.size)
  clear hb1
  go_wp2_with fail
  refine (LVoters.held _ 1 _ r0_3 _ (by omega) (by omega) HR0_7.out.now.1).mono ?_
  rintro e w19_ ⟨rfl, hb1⟩
  replace HA0 := Lib.hid (HA0.out.kept hb1)
  replace HX0 := Lib.hid (HX0.out.kept hb1)
  replace HR0_3 := Lib.hid (HR0_3.out.kept hb1)
  replace HXw0 := Lib.hid (HXw0.out.kept hb1)
  replace HC5 := Lib.hid (HC5.out.kept hb1)
  replace HXx0 := Lib.hid (HXx0.out.kept hb1)
  replace HR0_7 := Lib.hid (HR0_7.out.kept hb1)
  replace HXg0 := Lib.hid (HXg0.out.kept hb1)
  replace HR0_16 := Lib.hid (HR0_16.out.kept hb1)
  replace HXh0 := Lib.hid (HXh0.out.kept hb1)
  clear q0_0 q0_1
  have q0_0 := HX0.out.now.cell 0
  have q0_1 := HX0.out.now.cell 1
  simp only [List.getElem?_toArray, List.getElem?_cons_zero, List.getElem?_cons_succ] at q0_0 q0_1
  clear qw0_0 qw0_1
  have qw0_0 := HXw0.out.now.cell 0
  have qw0_1 := HXw0.out.now.cell 1
  simp only [List.getElem?_toArray, List.getElem?_cons_zero, List.getElem?_cons_succ] at qw0_0 qw0_1
  clear qx0_0 qx0_1
  have qx0_0 := HXx0.out.now.cell 0
  have qx0_1 := HXx0.out.now.cell 1
  simp only [List.getElem?_toArray, List.getElem?_cons_zero, List.getElem?_cons_succ] at qx0_0 qx0_1
  clear qg0_0 qg0_1
  have qg0_0 := HXg0.out.now.cell 0
  have qg0_1 := HXg0.out.now.cell 1
  simp only [List.getElem?_toArray, List.getElem?_cons_zero, List.getElem?_cons_succ] at qg0_0 qg0_1
  clear qh0_0 qh0_1
  have qh0_0 := HXh0.out.now.cell 0
  have qh0_1 := HXh0.out.now.cell 1
  simp only [List.getElem?_toArray, List.getElem?_cons_zero, List.getElem?_cons_succ] at qh0_0 qh0_1
  have HZ19 := Lib.hid hb1.size
  replace hb := hb.trans (hb1.mono hb.size)
  clear hb1
  go_wp2_with fail
  go_ret
  exact ⟨rfl, hb⟩
end Go.Proofs.Ytdjnaoaniokbgaa.fnExactGiveProxy
