/- FnExactDirectVotes: the law's walk, for every struct. -/
import Derived.Test.YtdjnaoaniokbgaaBx
import Derived.Test.YtdjnaoaniokbgaaDirectVotesC
import Derived.Test.YtdjnaoaniokbgaaLIntE
import Derived.Test.YtdjnaoaniokbgaaLIntM
import Derived.Test.YtdjnaoaniokbgaaLVotersE
import Derived.Test.YtdjnaoaniokbgaaLVotersM
import Derived.Test.YtdjnaoaniokbgaaLVotersO
import Derived.Test.YtdjnaoaniokbgaaLVotersT
import Derived.Test.YtdjnaoaniokbgaaLVotersZ
import Derived.Deep.RegionHeld3
import Derived.Deep.DeepCutAuto
namespace Go.Proofs.Ytdjnaoaniokbgaa.fnExactDirectVotes
open Go.RowKit Bs
set_option linter.unusedVariables false
set_option maxRecDepth 100000 in
set_option maxHeartbeats 12800000 in
theorem walk (a0_0 : Option Addr) (len0_0 cap0_0 : Nat) (a0_1 : Option Addr) (len0_1 cap0_1 : Nat) (z0 : LVoters.R) (w : World) (sh : w.ShapedOpen Try.prog) (w0 : LVoters.IsIn w a0_0 len0_0 cap0_0 a0_1 len0_1 cap0_1 z0) :
    Calls Try.prog 13 #[.agg #[.slice a0_0 len0_0 cap0_0, .slice a0_1 len0_1 cap0_1]] w fun e w' => e = .returned (.bool true) ∧ Below w.heap.size w w' := by
  have HA0 := Lib.hid (LVoters.Is.loc (LVoters.IsIn.is w0))
  have HF0 := Lib.hid (LVoters.IsIn.fine w0)
  have HL0_0 := Lib.hid (LVoters.IsIn.len0 w0)
  have HL0_1 := Lib.hid (LVoters.IsIn.len1 w0)
  clear sh w0
  go_enter Try.func13, Try.ntmps13
  replace HA0 := Lib.hid (HA0.out.alloc (.cells #[.slice a0_0 len0_0 cap0_0, .slice a0_1 len0_1 cap0_1] 51))
  have HX0 := Lib.hid (Bx.loc (Bx.new w 51 #[.slice a0_0 len0_0 cap0_0, .slice a0_1 len0_1 cap0_1]))
  have hb := (Below.refl w.heap.size w).alloc (Nat.le_refl _) (Obj.cells #[.slice a0_0 len0_0 cap0_0, .slice a0_1 len0_1 cap0_1] 51)
  have q0_0 := HX0.out.now.cell 0
  have q0_1 := HX0.out.now.cell 1
  simp only [List.getElem?_toArray, List.getElem?_cons_zero, List.getElem?_cons_succ] at q0_0 q0_1
  go_wp2_with fail
  refine (LVoters.sz _ z0 _ _ (by omega) (by omega) HA0.out.now HF0.out).mono ?_
  rintro e w1_ ⟨hb1, x, rfl, ⟨hx0, hxl⟩ | ⟨rfl, hxl⟩⟩
  · clear hxl
    go_wp2_with fail
    go_ret
    exact ⟨rfl, hb.trans (hb1.mono hb.size)⟩
  have hbud0 := hxl
  clear hxl
  have hzl0_0 : z0.weights.length ≤ 1048576 := by (have h0 : LVoters.wt z0 = (z0.weights.length + LInt.tot z0.weights) + (z0.proxies.length + LProxy.tot z0.proxies) := rfl); omega
  have hzl0_1 : z0.proxies.length ≤ 1048576 := by (have h0 : LVoters.wt z0 = (z0.weights.length + LInt.tot z0.weights) + (z0.proxies.length + LProxy.tot z0.proxies) := rfl); omega
  replace HA0 := Lib.hid (HA0.out.kept hb1)
  replace HX0 := Lib.hid (HX0.out.kept hb1)
  clear q0_0 q0_1
  have q0_0 := HX0.out.now.cell 0
  have q0_1 := HX0.out.now.cell 1
  simp only [List.getElem?_toArray, List.getElem?_cons_zero, List.getElem?_cons_succ] at q0_0 q0_1
  have HZ1 := Lib.hid (show w.heap.size + 1 ≤ w1_.heap.size by have := hb1.size; simp at this; omega)
  replace hb := hb.trans (hb1.mono hb.size)
  clear hb1
  go_wp2_with fail
  refine (LVoters.to _ z0 _ HA0.out.now (by omega) (by omega)).mono ?_
  rintro e w2_ ⟨u2, rfl, hnn2, ho, hb1⟩
  replace hnn2 := Lib.hid hnn2
  have HC2 := Lib.hid ho.loc
  clear ho
  replace HA0 := Lib.hid (HA0.out.kept hb1)
  replace HX0 := Lib.hid (HX0.out.kept hb1)
  clear q0_0 q0_1
  have q0_0 := HX0.out.now.cell 0
  have q0_1 := HX0.out.now.cell 1
  simp only [List.getElem?_toArray, List.getElem?_cons_zero, List.getElem?_cons_succ] at q0_0 q0_1
  have HZ2 := Lib.hid hb1.size
  replace hb := hb.trans (hb1.mono hb.size)
  clear hb1
  go_wp2_with fail
  refine (DirectVotesC.spec _ z0 _ (HC2.out.now.1.isQ) HF0.out (by omega) (by omega)).mono ?_
  rintro e w3_ ⟨v0_3, r0_3, r1_3, rfl, hans, ho0, hb1⟩
  have HS := Lib.hid hans
  have hlen0 := DirectVotesC.len0 hans
  clear hans
  have HR0_3 := Lib.hid ho0.loc
  clear ho0
  replace HA0 := Lib.hid (HA0.out.kept hb1)
  replace HX0 := Lib.hid (HX0.out.kept hb1)
  replace HC2 := Lib.hid (HC2.out.kept hb1)
  clear q0_0 q0_1
  have q0_0 := HX0.out.now.cell 0
  have q0_1 := HX0.out.now.cell 1
  simp only [List.getElem?_toArray, List.getElem?_cons_zero, List.getElem?_cons_succ] at q0_0 q0_1
  have HZ3 := Lib.hid hb1.size
  replace hb := hb.trans (hb1.mono hb.size)
  clear hb1
  clear HC2
  have hne1 : (r1_3 != r1_3) = false := by simp
  go_wp2_with fail
  refine (LVoters.to _ z0 _ HA0.out.now (by omega) (by omega)).mono ?_
  rintro e w4_ ⟨u4, rfl, hnn4, ho, hb1⟩
  replace hnn4 := Lib.hid hnn4
  have HC4 := Lib.hid ho.loc
  clear ho
  replace HA0 := Lib.hid (HA0.out.kept hb1)
  replace HX0 := Lib.hid (HX0.out.kept hb1)
  replace HR0_3 := Lib.hid (HR0_3.out.kept hb1)
  clear q0_0 q0_1
  have q0_0 := HX0.out.now.cell 0
  have q0_1 := HX0.out.now.cell 1
  simp only [List.getElem?_toArray, List.getElem?_cons_zero, List.getElem?_cons_succ] at q0_0 q0_1
  have HZ4 := Lib.hid hb1.size
  replace hb := hb.trans (hb1.mono hb.size)
  clear hb1
  obtain ⟨fa4_0, fn4_0, fc4_0, fa4_1, fn4_1, fc4_1, rfl⟩ := HC4.out.now.1.form
  have o0_0 := q0_0
  have o0_1 := q0_1
  have ol0 := HX0.out.le
  have hbx := (Below.refl w4_.heap.size w4_).alloc (Nat.le_refl _) (Obj.cells #[.slice fa4_0 fn4_0 fc4_0, .slice fa4_1 fn4_1 fc4_1] 27)
  replace HA0 := Lib.hid (HA0.out.kept hbx)
  replace HX0 := Lib.hid (HX0.out.kept hbx)
  replace HR0_3 := Lib.hid (HR0_3.out.kept hbx)
  replace HC4 := Lib.hid (HC4.out.kept hbx)
  have HXx0 := Lib.hid (Bx.loc (Bx.new w4_ 27 #[.slice fa4_0 fn4_0 fc4_0, .slice fa4_1 fn4_1 fc4_1]))
  have HZ5 := Lib.hid (show w4_.heap.size + 1 ≤ (w4_.alloc (Obj.cells #[.slice fa4_0 fn4_0 fc4_0, .slice fa4_1 fn4_1 fc4_1] 27)).heap.size by simp)
  replace hb := hb.trans (hbx.mono hb.size)
  clear hbx
  clear q0_0 q0_1
  have q0_0 := HX0.out.now.cell 0
  have q0_1 := HX0.out.now.cell 1
  simp only [List.getElem?_toArray, List.getElem?_cons_zero, List.getElem?_cons_succ] at q0_0 q0_1
  have qx0_0 := HXx0.out.now.cell 0
  have qx0_1 := HXx0.out.now.cell 1
  simp only [List.getElem?_toArray, List.getElem?_cons_zero, List.getElem?_cons_succ] at qx0_0 qx0_1
  go_wp2_with fail
  clear o0_0 o0_1 ol0
  generalize w4_.alloc (Obj.cells #[.slice fa4_0 fn4_0 fc4_0, .slice fa4_1 fn4_1 fc4_1] 27) = w5_ at *
  refine (DirectVotesC.impl _ z0 _ (HC4.out.now.1.isQ) HF0.out (by omega) (by omega)).mono ?_
  rintro e w6_ ⟨v0_6, r0_6, r1_6, rfl, hans, ho0, hb1⟩
  obtain ⟨rfl, rfl⟩ := DirectVotesC.same HS.out hans
  clear hans
  have HR0_6 := Lib.hid ho0.loc
  clear ho0
  replace HA0 := Lib.hid (HA0.out.kept hb1)
  replace HX0 := Lib.hid (HX0.out.kept hb1)
  replace HR0_3 := Lib.hid (HR0_3.out.kept hb1)
  replace HC4 := Lib.hid (HC4.out.kept hb1)
  replace HXx0 := Lib.hid (HXx0.out.kept hb1)
  clear q0_0 q0_1
  have q0_0 := HX0.out.now.cell 0
  have q0_1 := HX0.out.now.cell 1
  simp only [List.getElem?_toArray, List.getElem?_cons_zero, List.getElem?_cons_succ] at q0_0 q0_1
  clear qx0_0 qx0_1
  have qx0_0 := HXx0.out.now.cell 0
  have qx0_1 := HXx0.out.now.cell 1
  simp only [List.getElem?_toArray, List.getElem?_cons_zero, List.getElem?_cons_succ] at qx0_0 qx0_1
  have HZ6 := Lib.hid hb1.size
  replace hb := hb.trans (hb1.mono hb.size)
  clear hb1
  go_wp2_with fail
  refine (LInt.eqS _ _ r0_3 _ HR0_6.out.now.1.is HR0_3.out.now.1.is).mono ?_
  rintro e w7_ ⟨rfl, hb1⟩
  replace HA0 := Lib.hid (HA0.out.kept hb1)
  replace HX0 := Lib.hid (HX0.out.kept hb1)
  replace HR0_3 := Lib.hid (HR0_3.out.kept hb1)
  replace HC4 := Lib.hid (HC4.out.kept hb1)
  replace HXx0 := Lib.hid (HXx0.out.kept hb1)
  replace HR0_6 := Lib.hid (HR0_6.out.kept hb1)
  clear q0_0 q0_1
  have q0_0 := HX0.out.now.cell 0
  have q0_1 := HX0.out.now.cell 1
  simp only [List.getElem?_toArray, List.getElem?_cons_zero, List.getElem?_cons_succ] at q0_0 q0_1
  clear qx0_0 qx0_1
  have qx0_0 := HXx0.out.now.cell 0
  have qx0_1 := HXx0.out.now.cell 1
  simp only [List.getElem?_toArray, List.getElem?_cons_zero, List.getElem?_cons_succ] at qx0_0 qx0_1
  have HZ7 := Lib.hid hb1.size
  replace hb := hb.trans (hb1.mono hb.size)
  clear hb1
  go_wp2_with fail
  go_cut [45] (fun t wx => t = .bool false ∧ Below w7_.heap.size w7_ wx)
  case first =>
    have hlt0 : w.heap.size < w7_.heap.size := HX0.out.le
    have hltx0 : w4_.heap.size < w7_.heap.size := HXx0.out.le
    have HK := Lib.hid (show ∀ w' : World, Below w7_.heap.size w7_ w' → Below w7_.heap.size w7_ w' ∧ w'.cell? ⟨w.heap.size, 0, none⟩ = some (.slice a0_0 len0_0 cap0_0) ∧ w'.cell? ⟨w.heap.size, 1, none⟩ = some (.slice a0_1 len0_1 cap0_1) ∧ w'.cell? ⟨w4_.heap.size, 0, none⟩ = some (.slice fa4_0 fn4_0 fc4_0) ∧ w'.cell? ⟨w4_.heap.size, 1, none⟩ = some (.slice fa4_1 fn4_1 fc4_1) from fun w' hb => ⟨hb, by rw [hb.cell (by assumption)]; exact q0_0, by rw [hb.cell (by assumption)]; exact q0_1, by rw [hb.cell (by assumption)]; exact qx0_0, by rw [hb.cell (by assumption)]; exact qx0_1⟩)
    go_region_held3 (fun w' => Below w7_.heap.size w7_ w' ∧ w'.cell? ⟨w.heap.size, 0, none⟩ = some (.slice a0_0 len0_0 cap0_0) ∧ w'.cell? ⟨w.heap.size, 1, none⟩ = some (.slice a0_1 len0_1 cap0_1) ∧ w'.cell? ⟨w4_.heap.size, 0, none⟩ = some (.slice fa4_0 fn4_0 fc4_0) ∧ w'.cell? ⟨w4_.heap.size, 1, none⟩ = some (.slice fa4_1 fn4_1 fc4_1)) ((refine HK.out _ ?_; (repeat (first | assumption | exact Below.refl _ _ | refine Below.drew ?_ | refine Below.alloc ?_ (by first | (simp; done) | (simp; omega) | omega) _)))) (first | ((go_at_call 45; refine (LVoters.to _ z0 _ (HA0.out.kept (by (repeat (first | assumption | exact Below.refl _ _ | refine Below.drew ?_ | refine Below.alloc ?_ (by first | (simp; done) | (simp; omega) | omega) _)))).now (by omega) (by omega)).mono ?_; rintro e wt ⟨u, rfl, hn, ho, hbt⟩; have hB : Below w7_.heap.size w7_ wt := Below.trans (by (repeat (first | assumption | exact Below.refl _ _ | refine Below.drew ?_ | refine Below.alloc ?_ (by first | (simp; done) | (simp; omega) | omega) _))) (hbt.mono (by first | (simp; done) | (simp; omega) | omega)); have hz := hB.size)) | ((go_at_call 46; refine (LVoters.eq _ _ z0 _ (HC4.out.kept (by first | assumption | (refine Below.drew ?_; assumption) | (repeat (first | assumption | exact Below.refl _ _ | refine Below.drew ?_ | refine Below.alloc ?_ (by first | (simp; done) | (simp; omega) | omega) _)))).now.1.is (by first | exact ho.is | exact (ho.kept (by first | assumption | exact (Below.refl _ _).drew)).is)).mono ?_; rintro e wz ⟨rfl, hbz⟩; have hBz : Below w7_.heap.size w7_ wz := Below.trans (by (repeat (first | assumption | exact Below.refl _ _ | refine Below.drew ?_ | refine Below.alloc ?_ (by first | (simp; done) | (simp; omega) | omega) _))) (hbz.mono (by first | (simp; done) | (simp; omega) | omega)); have hzz := hBz.size)) | fail)
    all_goals (go_wp2_with fail; go_meet; exact ⟨rfl, hBz⟩)
  case rest =>
  obtain ⟨rfl, hb1⟩ := hcut
  obtain ⟨w8_, hwc⟩ : ∃ x, x = wc := ⟨_, rfl⟩
  subst hwc
  replace HA0 := Lib.hid (HA0.out.kept hb1)
  replace HX0 := Lib.hid (HX0.out.kept hb1)
  replace HR0_3 := Lib.hid (HR0_3.out.kept hb1)
  replace HC4 := Lib.hid (HC4.out.kept hb1)
  replace HXx0 := Lib.hid (HXx0.out.kept hb1)
  replace HR0_6 := Lib.hid (HR0_6.out.kept hb1)
  clear q0_0 q0_1
  have q0_0 := HX0.out.now.cell 0
  have q0_1 := HX0.out.now.cell 1
  simp only [List.getElem?_toArray, List.getElem?_cons_zero, List.getElem?_cons_succ] at q0_0 q0_1
  clear qx0_0 qx0_1
  have qx0_0 := HXx0.out.now.cell 0
  have qx0_1 := HXx0.out.now.cell 1
  simp only [List.getElem?_toArray, List.getElem?_cons_zero, List.getElem?_cons_succ] at qx0_0 qx0_1
  have HZ8 := Lib.hid hb1.size
  replace hb := hb.trans (hb1.mono hb.size)
  clear hb1
  go_wp2_with fail
  refine (LVoters.mark _ _ 1 _ z0 _ (by omega) (by omega) HC4.out.le HC4.out.now).mono ?_
  rintro e w9_ ⟨he, ho, hap⟩
  obtain ⟨Nk9, hNk⟩ : ∃ N : Nat, N = (1 + 1 * z0.weights.length + 2 * z0.proxies.length) := ⟨_, rfl⟩
  rw [← hNk] at he
  have HNk9 := Lib.hid hNk
  subst he
  clear hNk
  replace HA0 := Lib.hid (HA0.out.apart hap (by have := HZ1.out; have := HZ2.out; have := HZ3.out; have := HZ4.out; have := HZ5.out; have := HZ6.out; have := HZ7.out; have := HZ8.out; omega))
  replace HX0 := Lib.hid (HX0.out.apart hap (by have := HZ1.out; have := HZ2.out; have := HZ3.out; have := HZ4.out; have := HZ5.out; have := HZ6.out; have := HZ7.out; have := HZ8.out; omega))
  replace HR0_3 := Lib.hid (HR0_3.out.apart hap (by have := HZ1.out; have := HZ2.out; have := HZ3.out; have := HZ4.out; have := HZ5.out; have := HZ6.out; have := HZ7.out; have := HZ8.out; omega))
  replace HXx0 := Lib.hid (HXx0.out.apart hap (by have := HZ1.out; have := HZ2.out; have := HZ3.out; have := HZ4.out; have := HZ5.out; have := HZ6.out; have := HZ7.out; have := HZ8.out; omega))
  replace HR0_6 := Lib.hid (HR0_6.out.apart hap (by have := HZ1.out; have := HZ2.out; have := HZ3.out; have := HZ4.out; have := HZ5.out; have := HZ6.out; have := HZ7.out; have := HZ8.out; omega))
  have hlow := hap.below (B' := w.heap.size) (by have := hb.size; have := HZ1.out; have := HZ2.out; have := HZ3.out; have := HZ4.out; have := HZ5.out; have := HZ6.out; have := HZ7.out; have := HZ8.out; omega) hb.size
  replace HC4 := Lib.hid (ho.loc (by have := hap.size; have := HZ1.out; have := HZ2.out; have := HZ3.out; have := HZ4.out; have := HZ5.out; have := HZ6.out; have := HZ7.out; have := HZ8.out; omega))
  have HZ9 := Lib.hid hap.size
  replace hb := hb.trans hlow
  clear ho hap hlow
  clear q0_0 q0_1
  have q0_0 := HX0.out.now.cell 0
  have q0_1 := HX0.out.now.cell 1
  simp only [List.getElem?_toArray, List.getElem?_cons_zero, List.getElem?_cons_succ] at q0_0 q0_1
  clear qx0_0 qx0_1
  have qx0_0 := HXx0.out.now.cell 0
  have qx0_1 := HXx0.out.now.cell 1
  simp only [List.getElem?_toArray, List.getElem?_cons_zero, List.getElem?_cons_succ] at qx0_0 qx0_1
  go_wp2_with fail
  refine (LInt.eqS _ _ r0_3 _ HR0_6.out.now.1.is HR0_3.out.now.1.is).mono ?_
  rintro e w10_ ⟨rfl, hb1⟩
  replace HA0 := Lib.hid (HA0.out.kept hb1)
  replace HX0 := Lib.hid (HX0.out.kept hb1)
  replace HR0_3 := Lib.hid (HR0_3.out.kept hb1)
  replace HC4 := Lib.hid (HC4.out.kept hb1)
  replace HXx0 := Lib.hid (HXx0.out.kept hb1)
  replace HR0_6 := Lib.hid (HR0_6.out.kept hb1)
  clear q0_0 q0_1
  have q0_0 := HX0.out.now.cell 0
  have q0_1 := HX0.out.now.cell 1
  simp only [List.getElem?_toArray, List.getElem?_cons_zero, List.getElem?_cons_succ] at q0_0 q0_1
  clear qx0_0 qx0_1
  have qx0_0 := HXx0.out.now.cell 0
  have qx0_1 := HXx0.out.now.cell 1
  simp only [List.getElem?_toArray, List.getElem?_cons_zero, List.getElem?_cons_succ] at qx0_0 qx0_1
  have HZ10 := Lib.hid hb1.size
  replace hb := hb.trans (hb1.mono hb.size)
  clear hb1
  go_wp2_with fail
  refine (LInt.markS _ _ 1 _ r0_3 _ (by have := HNk9.out; omega) (by have := HNk9.out; omega) HR0_6.out.now).mono ?_
  rintro e w11_ ⟨rfl, ho, hap⟩
  replace HA0 := Lib.hid (HA0.out.apart hap (by have := HZ1.out; have := HZ2.out; have := HZ3.out; have := HZ4.out; have := HZ5.out; have := HZ6.out; have := HZ7.out; have := HZ8.out; have := HZ9.out; have := HZ10.out; omega))
  replace HX0 := Lib.hid (HX0.out.apart hap (by have := HZ1.out; have := HZ2.out; have := HZ3.out; have := HZ4.out; have := HZ5.out; have := HZ6.out; have := HZ7.out; have := HZ8.out; have := HZ9.out; have := HZ10.out; omega))
  replace HR0_3 := Lib.hid (HR0_3.out.apart hap (by have := HZ1.out; have := HZ2.out; have := HZ3.out; have := HZ4.out; have := HZ5.out; have := HZ6.out; have := HZ7.out; have := HZ8.out; have := HZ9.out; have := HZ10.out; omega))
  replace HC4 := Lib.hid (HC4.out.apart hap (by have := HZ1.out; have := HZ2.out; have := HZ3.out; have := HZ4.out; have := HZ5.out; have := HZ6.out; have := HZ7.out; have := HZ8.out; have := HZ9.out; have := HZ10.out; omega))
  replace HXx0 := Lib.hid (HXx0.out.apart hap (by have := HZ1.out; have := HZ2.out; have := HZ3.out; have := HZ4.out; have := HZ5.out; have := HZ6.out; have := HZ7.out; have := HZ8.out; have := HZ9.out; have := HZ10.out; omega))
  have hlow := hap.below (B' := w.heap.size) (by have := hb.size; have := HZ1.out; have := HZ2.out; have := HZ3.out; have := HZ4.out; have := HZ5.out; have := HZ6.out; have := HZ7.out; have := HZ8.out; have := HZ9.out; have := HZ10.out; omega) hb.size
  replace HR0_6 := Lib.hid (ho.loc (by have := hap.size; have := HZ1.out; have := HZ2.out; have := HZ3.out; have := HZ4.out; have := HZ5.out; have := HZ6.out; have := HZ7.out; have := HZ8.out; have := HZ9.out; have := HZ10.out; omega))
  have HZ11 := Lib.hid hap.size
  replace hb := hb.trans hlow
  clear ho hap hlow
  clear q0_0 q0_1
  have q0_0 := HX0.out.now.cell 0
  have q0_1 := HX0.out.now.cell 1
  simp only [List.getElem?_toArray, List.getElem?_cons_zero, List.getElem?_cons_succ] at q0_0 q0_1
  clear qx0_0 qx0_1
  have qx0_0 := HXx0.out.now.cell 0
  have qx0_1 := HXx0.out.now.cell 1
  simp only [List.getElem?_toArray, List.getElem?_cons_zero, List.getElem?_cons_succ] at qx0_0 qx0_1
  go_wp2_with fail
  refine (LInt.heldS _ 1 _ r0_3 _ (by omega) (by omega) HR0_6.out.now.1).mono ?_
  rintro e w12_ ⟨rfl, hb1⟩
  replace HA0 := Lib.hid (HA0.out.kept hb1)
  replace HX0 := Lib.hid (HX0.out.kept hb1)
  replace HR0_3 := Lib.hid (HR0_3.out.kept hb1)
  replace HC4 := Lib.hid (HC4.out.kept hb1)
  replace HXx0 := Lib.hid (HXx0.out.kept hb1)
  replace HR0_6 := Lib.hid (HR0_6.out.kept hb1)
  clear q0_0 q0_1
  have q0_0 := HX0.out.now.cell 0
  have q0_1 := HX0.out.now.cell 1
  simp only [List.getElem?_toArray, List.getElem?_cons_zero, List.getElem?_cons_succ] at q0_0 q0_1
  clear qx0_0 qx0_1
  have qx0_0 := HXx0.out.now.cell 0
  have qx0_1 := HXx0.out.now.cell 1
  simp only [List.getElem?_toArray, List.getElem?_cons_zero, List.getElem?_cons_succ] at qx0_0 qx0_1
  have HZ12 := Lib.hid hb1.size
  replace hb := hb.trans (hb1.mono hb.size)
  clear hb1
  go_wp2_with fail
  refine (LVoters.to _ z0 _ HA0.out.now (by omega) (by omega)).mono ?_
  rintro e w13_ ⟨u13, rfl, hnn13, ho, hb1⟩
  replace hnn13 := Lib.hid hnn13
  have HC13 := Lib.hid ho.loc
  clear ho
  replace HA0 := Lib.hid (HA0.out.kept hb1)
  replace HX0 := Lib.hid (HX0.out.kept hb1)
  replace HR0_3 := Lib.hid (HR0_3.out.kept hb1)
  replace HC4 := Lib.hid (HC4.out.kept hb1)
  replace HXx0 := Lib.hid (HXx0.out.kept hb1)
  replace HR0_6 := Lib.hid (HR0_6.out.kept hb1)
  clear q0_0 q0_1
  have q0_0 := HX0.out.now.cell 0
  have q0_1 := HX0.out.now.cell 1
  simp only [List.getElem?_toArray, List.getElem?_cons_zero, List.getElem?_cons_succ] at q0_0 q0_1
  clear qx0_0 qx0_1
  have qx0_0 := HXx0.out.now.cell 0
  have qx0_1 := HXx0.out.now.cell 1
  simp only [List.getElem?_toArray, List.getElem?_cons_zero, List.getElem?_cons_succ] at qx0_0 qx0_1
  have HZ13 := Lib.hid hb1.size
  replace hb := hb.trans (hb1.mono hb.size)
  clear hb1
  go_wp2_with fail
  refine (DirectVotesC.impl _ z0 _ (HC13.out.now.1.isQ) HF0.out (by omega) (by omega)).mono ?_
  rintro e w14_ ⟨v0_14, r0_14, r1_14, rfl, hans, ho0, hb1⟩
  obtain ⟨rfl, rfl⟩ := DirectVotesC.same HS.out hans
  clear hans
  have HR0_14 := Lib.hid ho0.loc
  clear ho0
  replace HA0 := Lib.hid (HA0.out.kept hb1)
  replace HX0 := Lib.hid (HX0.out.kept hb1)
  replace HR0_3 := Lib.hid (HR0_3.out.kept hb1)
  replace HC4 := Lib.hid (HC4.out.kept hb1)
  replace HXx0 := Lib.hid (HXx0.out.kept hb1)
  replace HR0_6 := Lib.hid (HR0_6.out.kept hb1)
  replace HC13 := Lib.hid (HC13.out.kept hb1)
  clear q0_0 q0_1
  have q0_0 := HX0.out.now.cell 0
  have q0_1 := HX0.out.now.cell 1
  simp only [List.getElem?_toArray, List.getElem?_cons_zero, List.getElem?_cons_succ] at q0_0 q0_1
  clear qx0_0 qx0_1
  have qx0_0 := HXx0.out.now.cell 0
  have qx0_1 := HXx0.out.now.cell 1
  simp only [List.getElem?_toArray, List.getElem?_cons_zero, List.getElem?_cons_succ] at qx0_0 qx0_1
  have HZ14 := Lib.hid hb1.size
  replace hb := hb.trans (hb1.mono hb.size)
  clear hb1
  clear HC13
  go_wp2_with fail
  refine (LInt.eqS _ _ r0_3 _ HR0_14.out.now.1.is HR0_3.out.now.1.is).mono ?_
  rintro e w15_ ⟨rfl, hb1⟩
  replace HA0 := Lib.hid (HA0.out.kept hb1)
  replace HX0 := Lib.hid (HX0.out.kept hb1)
  replace HR0_3 := Lib.hid (HR0_3.out.kept hb1)
  replace HC4 := Lib.hid (HC4.out.kept hb1)
  replace HXx0 := Lib.hid (HXx0.out.kept hb1)
  replace HR0_6 := Lib.hid (HR0_6.out.kept hb1)
  replace HR0_14 := Lib.hid (HR0_14.out.kept hb1)
  clear q0_0 q0_1
  have q0_0 := HX0.out.now.cell 0
  have q0_1 := HX0.out.now.cell 1
  simp only [List.getElem?_toArray, List.getElem?_cons_zero, List.getElem?_cons_succ] at q0_0 q0_1
  clear qx0_0 qx0_1
  have qx0_0 := HXx0.out.now.cell 0
  have qx0_1 := HXx0.out.now.cell 1
  simp only [List.getElem?_toArray, List.getElem?_cons_zero, List.getElem?_cons_succ] at qx0_0 qx0_1
  have HZ15 := Lib.hid hb1.size
  replace hb := hb.trans (hb1.mono hb.size)
  clear hb1
  go_wp2_with fail
  refine (LInt.heldS _ 1 _ r0_3 _ (by omega) (by omega) HR0_6.out.now.1).mono ?_
  rintro e w16_ ⟨rfl, hb1⟩
  replace HA0 := Lib.hid (HA0.out.kept hb1)
  replace HX0 := Lib.hid (HX0.out.kept hb1)
  replace HR0_3 := Lib.hid (HR0_3.out.kept hb1)
  replace HC4 := Lib.hid (HC4.out.kept hb1)
  replace HXx0 := Lib.hid (HXx0.out.kept hb1)
  replace HR0_6 := Lib.hid (HR0_6.out.kept hb1)
  replace HR0_14 := Lib.hid (HR0_14.out.kept hb1)
  clear q0_0 q0_1
  have q0_0 := HX0.out.now.cell 0
  have q0_1 := HX0.out.now.cell 1
  simp only [List.getElem?_toArray, List.getElem?_cons_zero, List.getElem?_cons_succ] at q0_0 q0_1
  clear qx0_0 qx0_1
  have qx0_0 := HXx0.out.now.cell 0
  have qx0_1 := HXx0.out.now.cell 1
  simp only [List.getElem?_toArray, List.getElem?_cons_zero, List.getElem?_cons_succ] at qx0_0 qx0_1
  have HZ16 := Lib.hid hb1.size
  replace hb := hb.trans (hb1.mono hb.size)
  clear hb1
  go_wp2_with fail
  go_ret
  exact ⟨rfl, hb⟩
end Go.Proofs.Ytdjnaoaniokbgaa.fnExactDirectVotes
