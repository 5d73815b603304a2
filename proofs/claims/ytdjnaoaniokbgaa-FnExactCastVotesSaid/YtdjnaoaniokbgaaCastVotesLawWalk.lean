/- FnExactCastVotes: the law's walk, for every struct, every slice. -/
import Derived.Test.YtdjnaoaniokbgaaBx
import Derived.Test.YtdjnaoaniokbgaaCastVotesC
import Derived.Test.YtdjnaoaniokbgaaLIntE
import Derived.Test.YtdjnaoaniokbgaaLIntM
import Derived.Test.YtdjnaoaniokbgaaLIntO
import Derived.Test.YtdjnaoaniokbgaaLIntT
import Derived.Test.YtdjnaoaniokbgaaLIntZ
import Derived.Test.YtdjnaoaniokbgaaLVotersE
import Derived.Test.YtdjnaoaniokbgaaLVotersM
import Derived.Test.YtdjnaoaniokbgaaLVotersO
import Derived.Test.YtdjnaoaniokbgaaLVotersT
import Derived.Test.YtdjnaoaniokbgaaLVotersZ
import Derived.Deep.RegionHeld3
import Derived.Deep.DeepCutAuto
namespace Go.Proofs.Ytdjnaoaniokbgaa.fnExactCastVotes
open Go.RowKit Bs
set_option linter.unusedVariables false
set_option maxRecDepth 100000 in
set_option maxHeartbeats 12800000 in
theorem walk (a0_0 : Option Addr) (len0_0 cap0_0 : Nat) (a0_1 : Option Addr) (len0_1 cap0_1 : Nat) (z0 : LVoters.R) (a1 : Option Addr) (len1 cap1 : Nat) (z1 : List Int) (w : World) (sh : w.ShapedOpen Try.prog) (w0 : LVoters.IsIn w a0_0 len0_0 cap0_0 a0_1 len0_1 cap0_1 z0) (w1 : LInt.IsIn w a1 len1 cap1 z1) :
    Calls Try.prog 12 #[.agg #[.slice a0_0 len0_0 cap0_0, .slice a0_1 len0_1 cap0_1], .slice a1 len1 cap1] w fun e w' => e = .returned (.bool true) ∧ Below w.heap.size w w' := by
  have HA1 := Lib.hid (LInt.IsIn.is w1).loc
  have HF1 := Lib.hid (show ∀ x ∈ z1, LInt.Fine x from fun x hx => LInt.fine_of (w1.2.2 x hx))
  have HL1 := Lib.hid w1.1
  have HA0 := Lib.hid (LVoters.Is.loc (LVoters.IsIn.is w0))
  have HF0 := Lib.hid (LVoters.IsIn.fine w0)
  have HL0_0 := Lib.hid (LVoters.IsIn.len0 w0)
  have HL0_1 := Lib.hid (LVoters.IsIn.len1 w0)
  clear sh w0 w1
  by_cases hbig1 : 1048576 < len1
  · go_enter Try.func12, Try.ntmps12
    go_wp2_with fail
    go_ret
    exact ⟨rfl, ((Below.refl _ _).alloc (Nat.le_refl _) _)⟩
  have hzl1 : z1.length ≤ 1048576 := by have := HL1.out; omega
  go_enter Try.func12, Try.ntmps12
  replace HA1 := Lib.hid (HA1.out.alloc (.cells #[.slice a0_0 len0_0 cap0_0, .slice a0_1 len0_1 cap0_1] 51))
  replace HA0 := Lib.hid (HA0.out.alloc (.cells #[.slice a0_0 len0_0 cap0_0, .slice a0_1 len0_1 cap0_1] 51))
  have HX0 := Lib.hid (Bx.loc (Bx.new w 51 #[.slice a0_0 len0_0 cap0_0, .slice a0_1 len0_1 cap0_1]))
  have hb := (Below.refl w.heap.size w).alloc (Nat.le_refl _) (Obj.cells #[.slice a0_0 len0_0 cap0_0, .slice a0_1 len0_1 cap0_1] 51)
  have q0_0 := HX0.out.now.cell 0
  have q0_1 := HX0.out.now.cell 1
  simp only [List.getElem?_toArray, List.getElem?_cons_zero, List.getElem?_cons_succ] at q0_0 q0_1
  go_wp2_with fail
  refine (LVoters.sz _ z0 _ _ (by omega) (by omega) HA0.out.now HF0.out).mono ?_
  rintro e w1_ ⟨hb1, x, rfl, ⟨hx0, hxl⟩ | ⟨rfl, hxl⟩⟩
  · clear hxl
    go_wp2_with fail
    go_ret
    exact ⟨rfl, hb.trans (hb1.mono hb.size)⟩
  have hbud0 := hxl
  clear hxl
  have hzl0_0 : z0.weights.length ≤ 1048576 := by (have h0 : LVoters.wt z0 = (z0.weights.length + LInt.tot z0.weights) + (z0.proxies.length + LProxy.tot z0.proxies) := rfl); omega
  have hzl0_1 : z0.proxies.length ≤ 1048576 := by (have h0 : LVoters.wt z0 = (z0.weights.length + LInt.tot z0.weights) + (z0.proxies.length + LProxy.tot z0.proxies) := rfl); omega
  replace HA1 := Lib.hid (HA1.out.kept hb1)
  replace HA0 := Lib.hid (HA0.out.kept hb1)
  replace HX0 := Lib.hid (HX0.out.kept hb1)
  clear q0_0 q0_1
  have q0_0 := HX0.out.now.cell 0
  have q0_1 := HX0.out.now.cell 1
  simp only [List.getElem?_toArray, List.getElem?_cons_zero, List.getElem?_cons_succ] at q0_0 q0_1
  have HZ1 := Lib.hid (show w.heap.size + 1 ≤ w1_.heap.size by have := hb1.size; simp at this; omega)
  replace hb := hb.trans (hb1.mono hb.size)
  clear hb1
  go_wp2_with fail
  refine (LVoters.to _ z0 _ HA0.out.now (by omega) (by omega)).mono ?_
  rintro e w2_ ⟨u2, rfl, hnn2, ho, hb1⟩
  replace hnn2 := Lib.hid hnn2
  have HC2 := Lib.hid ho.loc
  clear ho
  replace HA1 := Lib.hid (HA1.out.kept hb1)
  replace HA0 := Lib.hid (HA0.out.kept hb1)
  replace HX0 := Lib.hid (HX0.out.kept hb1)
  clear q0_0 q0_1
  have q0_0 := HX0.out.now.cell 0
  have q0_1 := HX0.out.now.cell 1
  simp only [List.getElem?_toArray, List.getElem?_cons_zero, List.getElem?_cons_succ] at q0_0 q0_1
  have HZ2 := Lib.hid hb1.size
  replace hb := hb.trans (hb1.mono hb.size)
  clear hb1
  go_wp2_with fail
  refine (LInt.toS _ z1 _ HA1.out.now (by omega)).mono ?_
  rintro e w3_ ⟨u3, rfl, hnn3, ho, hb1⟩
  replace hnn3 := Lib.hid hnn3
  have HC3 := Lib.hid ho.loc
  clear ho
  replace HA1 := Lib.hid (HA1.out.kept hb1)
  replace HA0 := Lib.hid (HA0.out.kept hb1)
  replace HX0 := Lib.hid (HX0.out.kept hb1)
  replace HC2 := Lib.hid (HC2.out.kept hb1)
  clear q0_0 q0_1
  have q0_0 := HX0.out.now.cell 0
  have q0_1 := HX0.out.now.cell 1
  simp only [List.getElem?_toArray, List.getElem?_cons_zero, List.getElem?_cons_succ] at q0_0 q0_1
  have HZ3 := Lib.hid hb1.size
  replace hb := hb.trans (hb1.mono hb.size)
  clear hb1
  go_wp2_with fail
  refine (CastVotesC.spec _ z0 _ z1 _ (HC2.out.now.1.isQ) HF0.out (by omega) (by omega) (HC3.out.now.1.isS hnn3.out) HF1.out (by omega)).mono ?_
  rintro e w4_ ⟨v0_4, r0_4, r1_4, rfl, hans, ho0, hb1⟩
  have HS := Lib.hid hans
  have hlen0 := CastVotesC.len0 hans
  clear hans
  have HR0_4 := Lib.hid ho0.loc
  clear ho0
  replace HA1 := Lib.hid (HA1.out.kept hb1)
  replace HA0 := Lib.hid (HA0.out.kept hb1)
  replace HX0 := Lib.hid (HX0.out.kept hb1)
  replace HC2 := Lib.hid (HC2.out.kept hb1)
  replace HC3 := Lib.hid (HC3.out.kept hb1)
  clear q0_0 q0_1
  have q0_0 := HX0.out.now.cell 0
  have q0_1 := HX0.out.now.cell 1
  simp only [List.getElem?_toArray, List.getElem?_cons_zero, List.getElem?_cons_succ] at q0_0 q0_1
  have HZ4 := Lib.hid hb1.size
  replace hb := hb.trans (hb1.mono hb.size)
  clear hb1
  clear HC2
  clear HC3
  have hne1 : (r1_4 != r1_4) = false := by simp
  go_wp2_with fail
  refine (LVoters.to _ z0 _ HA0.out.now (by omega) (by omega)).mono ?_
  rintro e w5_ ⟨u5, rfl, hnn5, ho, hb1⟩
  replace hnn5 := Lib.hid hnn5
  have HC5 := Lib.hid ho.loc
  clear ho
  replace HA1 := Lib.hid (HA1.out.kept hb1)
  replace HA0 := Lib.hid (HA0.out.kept hb1)
  replace HX0 := Lib.hid (HX0.out.kept hb1)
  replace HR0_4 := Lib.hid (HR0_4.out.kept hb1)
  clear q0_0 q0_1
  have q0_0 := HX0.out.now.cell 0
  have q0_1 := HX0.out.now.cell 1
  simp only [List.getElem?_toArray, List.getElem?_cons_zero, List.getElem?_cons_succ] at q0_0 q0_1
  have HZ5 := Lib.hid hb1.size
  replace hb := hb.trans (hb1.mono hb.size)
  clear hb1
  obtain ⟨fa5_0, fn5_0, fc5_0, fa5_1, fn5_1, fc5_1, rfl⟩ := HC5.out.now.1.form
  have o0_0 := q0_0
  have o0_1 := q0_1
  have ol0 := HX0.out.le
  have hbx := (Below.refl w5_.heap.size w5_).alloc (Nat.le_refl _) (Obj.cells #[.slice fa5_0 fn5_0 fc5_0, .slice fa5_1 fn5_1 fc5_1] 27)
  replace HA1 := Lib.hid (HA1.out.kept hbx)
  replace HA0 := Lib.hid (HA0.out.kept hbx)
  replace HX0 := Lib.hid (HX0.out.kept hbx)
  replace HR0_4 := Lib.hid (HR0_4.out.kept hbx)
  replace HC5 := Lib.hid (HC5.out.kept hbx)
  have HXx0 := Lib.hid (Bx.loc (Bx.new w5_ 27 #[.slice fa5_0 fn5_0 fc5_0, .slice fa5_1 fn5_1 fc5_1]))
  have HZ6 := Lib.hid (show w5_.heap.size + 1 ≤ (w5_.alloc (Obj.cells #[.slice fa5_0 fn5_0 fc5_0, .slice fa5_1 fn5_1 fc5_1] 27)).heap.size by simp)
  replace hb := hb.trans (hbx.mono hb.size)
  clear hbx
  clear q0_0 q0_1
  have q0_0 := HX0.out.now.cell 0
  have q0_1 := HX0.out.now.cell 1
  simp only [List.getElem?_toArray, List.getElem?_cons_zero, List.getElem?_cons_succ] at q0_0 q0_1
  have qx0_0 := HXx0.out.now.cell 0
  have qx0_1 := HXx0.out.now.cell 1
  simp only [List.getElem?_toArray, List.getElem?_cons_zero, List.getElem?_cons_succ] at qx0_0 qx0_1
  go_wp2_with fail
  clear o0_0 o0_1 ol0
  generalize w5_.alloc (Obj.cells #[.slice fa5_0 fn5_0 fc5_0, .slice fa5_1 fn5_1 fc5_1] 27) = w6_ at *
  refine (LInt.toS _ z1 _ HA1.out.now (by omega)).mono ?_
  rintro e w7_ ⟨u7, rfl, hnn7, ho, hb1⟩
  replace hnn7 := Lib.hid hnn7
  have HC7 := Lib.hid ho.loc
  clear ho
  replace HA1 := Lib.hid (HA1.out.kept hb1)
  replace HA0 := Lib.hid (HA0.out.kept hb1)
  replace HX0 := Lib.hid (HX0.out.kept hb1)
  replace HR0_4 := Lib.hid (HR0_4.out.kept hb1)
  replace HC5 := Lib.hid (HC5.out.kept hb1)
  replace HXx0 := Lib.hid (HXx0.out.kept hb1)
  clear q0_0 q0_1
  have q0_0 := HX0.out.now.cell 0
  have q0_1 := HX0.out.now.cell 1
  simp only [List.getElem?_toArray, List.getElem?_cons_zero, List.getElem?_cons_succ] at q0_0 q0_1
  clear qx0_0 qx0_1
  have qx0_0 := HXx0.out.now.cell 0
  have qx0_1 := HXx0.out.now.cell 1
  simp only [List.getElem?_toArray, List.getElem?_cons_zero, List.getElem?_cons_succ] at qx0_0 qx0_1
  have HZ7 := Lib.hid hb1.size
  replace hb := hb.trans (hb1.mono hb.size)
  clear hb1
  go_wp2_with fail
  refine (CastVotesC.impl _ z0 _ z1 _ (HC5.out.now.1.isQ) HF0.out (by omega) (by omega) (HC7.out.now.1.isS hnn7.out) HF1.out (by omega)).mono ?_
  rintro e w8_ ⟨v0_8, r0_8, r1_8, rfl, hans, ho0, hb1⟩
  obtain ⟨rfl, rfl⟩ := CastVotesC.same HS.out hans
  clear hans
  have HR0_8 := Lib.hid ho0.loc
  clear ho0
  replace HA1 := Lib.hid (HA1.out.kept hb1)
  replace HA0 := Lib.hid (HA0.out.kept hb1)
  replace HX0 := Lib.hid (HX0.out.kept hb1)
  replace HR0_4 := Lib.hid (HR0_4.out.kept hb1)
  replace HC5 := Lib.hid (HC5.out.kept hb1)
  replace HXx0 := Lib.hid (HXx0.out.kept hb1)
  replace HC7 := Lib.hid (HC7.out.kept hb1)
  clear q0_0 q0_1
  have q0_0 := HX0.out.now.cell 0
  have q0_1 := HX0.out.now.cell 1
  simp only [List.getElem?_toArray, List.getElem?_cons_zero, List.getElem?_cons_succ] at q0_0 q0_1
  clear qx0_0 qx0_1
  have qx0_0 := HXx0.out.now.cell 0
  have qx0_1 := HXx0.out.now.cell 1
  simp only [List.getElem?_toArray, List.getElem?_cons_zero, List.getElem?_cons_succ] at qx0_0 qx0_1
  have HZ8 := Lib.hid hb1.size
  replace hb := hb.trans (hb1.mono hb.size)
  clear hb1
  go_wp2_with fail
  refine (LInt.eqS _ _ r0_4 _ HR0_8.out.now.1.is HR0_4.out.now.1.is).mono ?_
  rintro e w9_ ⟨rfl, hb1⟩
  replace HA1 := Lib.hid (HA1.out.kept hb1)
  replace HA0 := Lib.hid (HA0.out.kept hb1)
  replace HX0 := Lib.hid (HX0.out.kept hb1)
  replace HR0_4 := Lib.hid (HR0_4.out.kept hb1)
  replace HC5 := Lib.hid (HC5.out.kept hb1)
  replace HXx0 := Lib.hid (HXx0.out.kept hb1)
  replace HC7 := Lib.hid (HC7.out.kept hb1)
  replace HR0_8 := Lib.hid (HR0_8.out.kept hb1)
  clear q0_0 q0_1
  have q0_0 := HX0.out.now.cell 0
  have q0_1 := HX0.out.now.cell 1
  simp only [List.getElem?_toArray, List.getElem?_cons_zero, List.getElem?_cons_succ] at q0_0 q0_1
  clear qx0_0 qx0_1
  have qx0_0 := HXx0.out.now.cell 0
  have qx0_1 := HXx0.out.now.cell 1
  simp only [List.getElem?_toArray, List.getElem?_cons_zero, List.getElem?_cons_succ] at qx0_0 qx0_1
  have HZ9 := Lib.hid hb1.size
  replace hb := hb.trans (hb1.mono hb.size)
  clear hb1
  go_wp2_with fail
  go_cut [56] (fun t wx => t = .bool false ∧ Below w9_.heap.size w9_ wx)
  case first =>
    have hlt0 : w.heap.size < w9_.heap.size := HX0.out.le
    have hltx0 : w5_.heap.size < w9_.heap.size := HXx0.out.le
    have HK := Lib.hid (show ∀ w' : World, Below w9_.heap.size w9_ w' → Below w9_.heap.size w9_ w' ∧ w'.cell? ⟨w.heap.size, 0, none⟩ = some (.slice a0_0 len0_0 cap0_0) ∧ w'.cell? ⟨w.heap.size, 1, none⟩ = some (.slice a0_1 len0_1 cap0_1) ∧ w'.cell? ⟨w5_.heap.size, 0, none⟩ = some (.slice fa5_0 fn5_0 fc5_0) ∧ w'.cell? ⟨w5_.heap.size, 1, none⟩ = some (.slice fa5_1 fn5_1 fc5_1) from fun w' hb => ⟨hb, by rw [hb.cell (by assumption)]; exact q0_0, by rw [hb.cell (by assumption)]; exact q0_1, by rw [hb.cell (by assumption)]; exact qx0_0, by rw [hb.cell (by assumption)]; exact qx0_1⟩)
    go_region_held3 (fun w' => Below w9_.heap.size w9_ w' ∧ w'.cell? ⟨w.heap.size, 0, none⟩ = some (.slice a0_0 len0_0 cap0_0) ∧ w'.cell? ⟨w.heap.size, 1, none⟩ = some (.slice a0_1 len0_1 cap0_1) ∧ w'.cell? ⟨w5_.heap.size, 0, none⟩ = some (.slice fa5_0 fn5_0 fc5_0) ∧ w'.cell? ⟨w5_.heap.size, 1, none⟩ = some (.slice fa5_1 fn5_1 fc5_1)) ((refine HK.out _ ?_; (repeat (first | assumption | exact Below.refl _ _ | refine Below.drew ?_ | refine Below.alloc ?_ (by first | (simp; done) | (simp; omega) | omega) _)))) (first | ((go_at_call 45; refine (LVoters.to _ z0 _ (HA0.out.kept (by (repeat (first | assumption | exact Below.refl _ _ | refine Below.drew ?_ | refine Below.alloc ?_ (by first | (simp; done) | (simp; omega) | omega) _)))).now (by omega) (by omega)).mono ?_; rintro e wt ⟨u, rfl, hn, ho, hbt⟩; have hB : Below w9_.heap.size w9_ wt := Below.trans (by (repeat (first | assumption | exact Below.refl _ _ | refine Below.drew ?_ | refine Below.alloc ?_ (by first | (simp; done) | (simp; omega) | omega) _))) (hbt.mono (by first | (simp; done) | (simp; omega) | omega)); have hz := hB.size)) | ((go_at_call 46; refine (LVoters.eq _ _ z0 _ (HC5.out.kept (by first | assumption | (refine Below.drew ?_; assumption) | (repeat (first | assumption | exact Below.refl _ _ | refine Below.drew ?_ | refine Below.alloc ?_ (by first | (simp; done) | (simp; omega) | omega) _)))).now.1.is (by first | exact ho.is | exact (ho.kept (by first | assumption | exact (Below.refl _ _).drew)).is)).mono ?_; rintro e wz ⟨rfl, hbz⟩; have hBz : Below w9_.heap.size w9_ wz := Below.trans (by (repeat (first | assumption | exact Below.refl _ _ | refine Below.drew ?_ | refine Below.alloc ?_ (by first | (simp; done) | (simp; omega) | omega) _))) (hbz.mono (by first | (simp; done) | (simp; omega) | omega)); have hzz := hBz.size)) | fail)
    all_goals (go_wp2_with fail; go_meet; exact ⟨rfl, hBz⟩)
  case rest =>
  obtain ⟨rfl, hb1⟩ := hcut
  obtain ⟨w10_, hwc⟩ : ∃ x, x = wc := ⟨_, rfl⟩
  subst hwc
  replace HA1 := Lib.hid (HA1.out.kept hb1)
  replace HA0 := Lib.hid (HA0.out.kept hb1)
  replace HX0 := Lib.hid (HX0.out.kept hb1)
  replace HR0_4 := Lib.hid (HR0_4.out.kept hb1)
  replace HC5 := Lib.hid (HC5.out.kept hb1)
  replace HXx0 := Lib.hid (HXx0.out.kept hb1)
  replace HC7 := Lib.hid (HC7.out.kept hb1)
  replace HR0_8 := Lib.hid (HR0_8.out.kept hb1)
  clear q0_0 q0_1
  have q0_0 := HX0.out.now.cell 0
  have q0_1 := HX0.out.now.cell 1
  simp only [List.getElem?_toArray, List.getElem?_cons_zero, List.getElem?_cons_succ] at q0_0 q0_1
  clear qx0_0 qx0_1
  have qx0_0 := HXx0.out.now.cell 0
  have qx0_1 := HXx0.out.now.cell 1
  simp only [List.getElem?_toArray, List.getElem?_cons_zero, List.getElem?_cons_succ] at qx0_0 qx0_1
  have HZ10 := Lib.hid hb1.size
  replace hb := hb.trans (hb1.mono hb.size)
  clear hb1
  go_wp2_with fail
  refine (LInt.toS _ z1 _ HA1.out.now (by omega)).mono ?_
  rintro e w11_ ⟨u11, rfl, hnn11, ho, hb1⟩
  replace hnn11 := Lib.hid hnn11
  have HC11 := Lib.hid ho.loc
  clear ho
  replace HA1 := Lib.hid (HA1.out.kept hb1)
  replace HA0 := Lib.hid (HA0.out.kept hb1)
  replace HX0 := Lib.hid (HX0.out.kept hb1)
  replace HR0_4 := Lib.hid (HR0_4.out.kept hb1)
  replace HC5 := Lib.hid (HC5.out.kept hb1)
  replace HXx0 := Lib.hid (HXx0.out.kept hb1)
  replace HC7 := Lib.hid (HC7.out.kept hb1)
  replace HR0_8 := Lib.hid (HR0_8.out.kept hb1)
  clear q0_0 q0_1
  have q0_0 := HX0.out.now.cell 0
  have q0_1 := HX0.out.now.cell 1
  simp only [List.getElem?_toArray, List.getElem?_cons_zero, List.getElem?_cons_succ] at q0_0 q0_1
  clear qx0_0 qx0_1
  have qx0_0 := HXx0.out.now.cell 0
  have qx0_1 := HXx0.out.now.cell 1
  simp only [List.getElem?_toArray, List.getElem?_cons_zero, List.getElem?_cons_succ] at qx0_0 qx0_1
  have HZ11 := Lib.hid hb1.size
  replace hb := hb.trans (hb1.mono hb.size)
  clear hb1
  go_wp2_with fail
  refine (LInt.eqS _ _ z1 _ HC7.out.now.1.is HC11.out.now.1.is).mono ?_
  rintro e w12_ ⟨rfl, hb1⟩
  replace HA1 := Lib.hid (HA1.out.kept hb1)
  replace HA0 := Lib.hid (HA0.out.kept hb1)
  replace HX0 := Lib.hid (HX0.out.kept hb1)
  replace HR0_4 := Lib.hid (HR0_4.out.kept hb1)
  replace HC5 := Lib.hid (HC5.out.kept hb1)
  replace HXx0 := Lib.hid (HXx0.out.kept hb1)
  replace HC7 := Lib.hid (HC7.out.kept hb1)
  replace HR0_8 := Lib.hid (HR0_8.out.kept hb1)
  replace HC11 := Lib.hid (HC11.out.kept hb1)
  clear q0_0 q0_1
  have q0_0 := HX0.out.now.cell 0
  have q0_1 := HX0.out.now.cell 1
  simp only [List.getElem?_toArray, List.getElem?_cons_zero, List.getElem?_cons_succ] at q0_0 q0_1
  clear qx0_0 qx0_1
  have qx0_0 := HXx0.out.now.cell 0
  have qx0_1 := HXx0.out.now.cell 1
  simp only [List.getElem?_toArray, List.getElem?_cons_zero, List.getElem?_cons_succ] at qx0_0 qx0_1
  have HZ12 := Lib.hid hb1.size
  replace hb := hb.trans (hb1.mono hb.size)
  clear hb1
  go_wp2_with fail
  clear HC11
  refine (LVoters.mark _ _ 1 _ z0 _ (by omega) (by omega) HC5.out.le HC5.out.now).mono ?_
  rintro e w13_ ⟨he, ho, hap⟩
  obtain ⟨Nk13, hNk⟩ : ∃ N : Nat, N = (1 + 1 * z0.weights.length + 2 * z0.proxies.length) := ⟨_, rfl⟩
  rw [← hNk] at he
  have HNk13 := Lib.hid hNk
  subst he
  clear hNk
  replace HA1 := Lib.hid (HA1.out.apart hap (by have := HZ1.out; have := HZ2.out; have := HZ3.out; have := HZ4.out; have := HZ5.out; have := HZ6.out; have := HZ7.out; have := HZ8.out; have := HZ9.out; have := HZ10.out; have := HZ11.out; have := HZ12.out; omega))
  replace HA0 := Lib.hid (HA0.out.apart hap (by have := HZ1.out; have := HZ2.out; have := HZ3.out; have := HZ4.out; have := HZ5.out; have := HZ6.out; have := HZ7.out; have := HZ8.out; have := HZ9.out; have := HZ10.out; have := HZ11.out; have := HZ12.out; omega))
  replace HX0 := Lib.hid (HX0.out.apart hap (by have := HZ1.out; have := HZ2.out; have := HZ3.out; have := HZ4.out; have := HZ5.out; have := HZ6.out; have := HZ7.out; have := HZ8.out; have := HZ9.out; have := HZ10.out; have := HZ11.out; have := HZ12.out; omega))
  replace HR0_4 := Lib.hid (HR0_4.out.apart hap (by have := HZ1.out; have := HZ2.out; have := HZ3.out; have := HZ4.out; have := HZ5.out; have := HZ6.out; have := HZ7.out; have := HZ8.out; have := HZ9.out; have := HZ10.out; have := HZ11.out; have := HZ12.out; omega))
  replace HXx0 := Lib.hid (HXx0.out.apart hap (by have := HZ1.out; have := HZ2.out; have := HZ3.out; have := HZ4.out; have := HZ5.out; have := HZ6.out; have := HZ7.out; have := HZ8.out; have := HZ9.out; have := HZ10.out; have := HZ11.out; have := HZ12.out; omega))
  replace HC7 := Lib.hid (HC7.out.apart hap (by have := HZ1.out; have := HZ2.out; have := HZ3.out; have := HZ4.out; have := HZ5.out; have := HZ6.out; have := HZ7.out; have := HZ8.out; have := HZ9.out; have := HZ10.out; have := HZ11.out; have := HZ12.out; omega))
  replace HR0_8 := Lib.hid (HR0_8.out.apart hap (by have := HZ1.out; have := HZ2.out; have := HZ3.out; have := HZ4.out; have := HZ5.out; have := HZ6.out; have := HZ7.out; have := HZ8.out; have := HZ9.out; have := HZ10.out; have := HZ11.out; have := HZ12.out; omega))
  have hlow := hap.below (B' := w.heap.size) (by have := hb.size; have := HZ1.out; have := HZ2.out; have := HZ3.out; have := HZ4.out; have := HZ5.out; have := HZ6.out; have := HZ7.out; have := HZ8.out; have := HZ9.out; have := HZ10.out; have := HZ11.out; have := HZ12.out; omega) hb.size
  replace HC5 := Lib.hid (ho.loc (by have := hap.size; have := HZ1.out; have := HZ2.out; have := HZ3.out; have := HZ4.out; have := HZ5.out; have := HZ6.out; have := HZ7.out; have := HZ8.out; have := HZ9.out; have := HZ10.out; have := HZ11.out; have := HZ12.out; omega))
  have HZ13 := Lib.hid hap.size
  replace hb := hb.trans hlow
  clear ho hap hlow
  clear q0_0 q0_1
  have q0_0 := HX0.out.now.cell 0
  have q0_1 := HX0.out.now.cell 1
  simp only [List.getElem?_toArray, List.getElem?_cons_zero, List.getElem?_cons_succ] at q0_0 q0_1
  clear qx0_0 qx0_1
  have qx0_0 := HXx0.out.now.cell 0
  have qx0_1 := HXx0.out.now.cell 1
  simp only [List.getElem?_toArray, List.getElem?_cons_zero, List.getElem?_cons_succ] at qx0_0 qx0_1
  go_wp2_with fail
  refine (LInt.markS _ _ Nk13 _ z1 _ (by have := HNk13.out; omega) (by have := HNk13.out; omega) HC7.out.now).mono ?_
  rintro e w14_ ⟨he, ho, hap⟩
  obtain ⟨Nk14, hNk⟩ : ∃ N : Nat, N = (Nk13 + 1 * z1.length) := ⟨_, rfl⟩
  rw [← hNk] at he
  have HNk14 := Lib.hid hNk
  subst he
  clear hNk
  replace HA1 := Lib.hid (HA1.out.apart hap (by have := HZ1.out; have := HZ2.out; have := HZ3.out; have := HZ4.out; have := HZ5.out; have := HZ6.out; have := HZ7.out; have := HZ8.out; have := HZ9.out; have := HZ10.out; have := HZ11.out; have := HZ12.out; have := HZ13.out; omega))
  replace HA0 := Lib.hid (HA0.out.apart hap (by have := HZ1.out; have := HZ2.out; have := HZ3.out; have := HZ4.out; have := HZ5.out; have := HZ6.out; have := HZ7.out; have := HZ8.out; have := HZ9.out; have := HZ10.out; have := HZ11.out; have := HZ12.out; have := HZ13.out; omega))
  replace HX0 := Lib.hid (HX0.out.apart hap (by have := HZ1.out; have := HZ2.out; have := HZ3.out; have := HZ4.out; have := HZ5.out; have := HZ6.out; have := HZ7.out; have := HZ8.out; have := HZ9.out; have := HZ10.out; have := HZ11.out; have := HZ12.out; have := HZ13.out; omega))
  replace HR0_4 := Lib.hid (HR0_4.out.apart hap (by have := HZ1.out; have := HZ2.out; have := HZ3.out; have := HZ4.out; have := HZ5.out; have := HZ6.out; have := HZ7.out; have := HZ8.out; have := HZ9.out; have := HZ10.out; have := HZ11.out; have := HZ12.out; have := HZ13.out; omega))
  replace HC5 := Lib.hid (HC5.out.apart hap (by have := HZ1.out; have := HZ2.out; have := HZ3.out; have := HZ4.out; have := HZ5.out; have := HZ6.out; have := HZ7.out; have := HZ8.out; have := HZ9.out; have := HZ10.out; have := HZ11.out; have := HZ12.out; have := HZ13.out; omega))
  replace HXx0 := Lib.hid (HXx0.out.apart hap (by have := HZ1.out; have := HZ2.out; have := HZ3.out; have := HZ4.out; have := HZ5.out; have := HZ6.out; have := HZ7.out; have := HZ8.out; have := HZ9.out; have := HZ10.out; have := HZ11.out; have := HZ12.out; have := HZ13.out; omega))
  replace HR0_8 := Lib.hid (HR0_8.out.apart hap (by have := HZ1.out; have := HZ2.out; have := HZ3.out; have := HZ4.out; have := HZ5.out; have := HZ6.out; have := HZ7.out; have := HZ8.out; have := HZ9.out; have := HZ10.out; have := HZ11.out; have := HZ12.out; have := HZ13.out; omega))
  have hlow := hap.below (B' := w.heap.size) (by have := hb.size; have := HZ1.out; have := HZ2.out; have := HZ3.out; have := HZ4.out; have := HZ5.out; have := HZ6.out; have := HZ7.out; have := HZ8.out; have := HZ9.out; have := HZ10.out; have := HZ11.out; have := HZ12.out; have := HZ13.out; omega) hb.size
  replace HC7 := Lib.hid (ho.loc (by have := hap.size; have := HZ1.out; have := HZ2.out; have := HZ3.out; have := HZ4.out; have := HZ5.out; have := HZ6.out; have := HZ7.out; have := HZ8.out; have := HZ9.out; have := HZ10.out; have := HZ11.out; have := HZ12.out; have := HZ13.out; omega))
  have HZ14 := Lib.hid hap.size
  replace hb := hb.trans hlow
  clear ho hap hlow
  clear q0_0 q0_1
  have q0_0 := HX0.out.now.cell 0
  have q0_1 := HX0.out.now.cell 1
  simp only [List.getElem?_toArray, List.getElem?_cons_zero, List.getElem?_cons_succ] at q0_0 q0_1
  clear qx0_0 qx0_1
  have qx0_0 := HXx0.out.now.cell 0
  have qx0_1 := HXx0.out.now.cell 1
  simp only [List.getElem?_toArray, List.getElem?_cons_zero, List.getElem?_cons_succ] at qx0_0 qx0_1
  go_wp2_with fail
  refine (LInt.eqS _ _ r0_4 _ HR0_8.out.now.1.is HR0_4.out.now.1.is).mono ?_
  rintro e w15_ ⟨rfl, hb1⟩
  replace HA1 := Lib.hid (HA1.out.kept hb1)
  replace HA0 := Lib.hid (HA0.out.kept hb1)
  replace HX0 := Lib.hid (HX0.out.kept hb1)
  replace HR0_4 := Lib.hid (HR0_4.out.kept hb1)
  replace HC5 := Lib.hid (HC5.out.kept hb1)
  replace HXx0 := Lib.hid (HXx0.out.kept hb1)
  replace HC7 := Lib.hid (HC7.out.kept hb1)
  replace HR0_8 := Lib.hid (HR0_8.out.kept hb1)
  clear q0_0 q0_1
  have q0_0 := HX0.out.now.cell 0
  have q0_1 := HX0.out.now.cell 1
  simp only [List.getElem?_toArray, List.getElem?_cons_zero, List.getElem?_cons_succ] at q0_0 q0_1
  clear qx0_0 qx0_1
  have qx0_0 := HXx0.out.now.cell 0
  have qx0_1 := HXx0.out.now.cell 1
  simp only [List.getElem?_toArray, List.getElem?_cons_zero, List.getElem?_cons_succ] at qx0_0 qx0_1
  have HZ15 := Lib.hid hb1.size
  replace hb := hb.trans (hb1.mono hb.size)
  clear hb1
  go_wp2_with fail
  refine (LInt.markS _ _ 1 _ r0_4 _ (by have := HNk13.out; have := HNk14.out; omega) (by have := HNk13.out; have := HNk14.out; omega) HR0_8.out.now).mono ?_
  rintro e w16_ ⟨rfl, ho, hap⟩
  replace HA1 := Lib.hid (HA1.out.apart hap (by have := HZ1.out; have := HZ2.out; have := HZ3.out; have := HZ4.out; have := HZ5.out; have := HZ6.out; have := HZ7.out; have := HZ8.out; have := HZ9.out; have := HZ10.out; have := HZ11.out; have := HZ12.out; have := HZ13.out; have := HZ14.out; have := HZ15.out; omega))
  replace HA0 := Lib.hid (HA0.out.apart hap (by have := HZ1.out; have := HZ2.out; have := HZ3.out; have := HZ4.out; have := HZ5.out; have := HZ6.out; have := HZ7.out; have := HZ8.out; have := HZ9.out; have := HZ10.out; have := HZ11.out; have := HZ12.out; have := HZ13.out; have := HZ14.out; have := HZ15.out; omega))
  replace HX0 := Lib.hid (HX0.out.apart hap (by have := HZ1.out; have := HZ2.out; have := HZ3.out; have := HZ4.out; have := HZ5.out; have := HZ6.out; have := HZ7.out; have := HZ8.out; have := HZ9.out; have := HZ10.out; have := HZ11.out; have := HZ12.out; have := HZ13.out; have := HZ14.out; have := HZ15.out; omega))
  replace HR0_4 := Lib.hid (HR0_4.out.apart hap (by have := HZ1.out; have := HZ2.out; have := HZ3.out; have := HZ4.out; have := HZ5.out; have := HZ6.out; have := HZ7.out; have := HZ8.out; have := HZ9.out; have := HZ10.out; have := HZ11.out; have := HZ12.out; have := HZ13.out; have := HZ14.out; have := HZ15.out; omega))
  replace HC5 := Lib.hid (HC5.out.apart hap (by have := HZ1.out; have := HZ2.out; have := HZ3.out; have := HZ4.out; have := HZ5.out; have := HZ6.out; have := HZ7.out; have := HZ8.out; have := HZ9.out; have := HZ10.out; have := HZ11.out; have := HZ12.out; have := HZ13.out; have := HZ14.out; have := HZ15.out; omega))
  replace HXx0 := Lib.hid (HXx0.out.apart hap (by have := HZ1.out; have := HZ2.out; have := HZ3.out; have := HZ4.out; have := HZ5.out; have := HZ6.out; have := HZ7.out; have := HZ8.out; have := HZ9.out; have := HZ10.out; have := HZ11.out; have := HZ12.out; have := HZ13.out; have := HZ14.out; have := HZ15.out; omega))
  replace HC7 := Lib.hid (HC7.out.apart hap (by have := HZ1.out; have := HZ2.out; have := HZ3.out; have := HZ4.out; have := HZ5.out; have := HZ6.out; have := HZ7.out; have := HZ8.out; have := HZ9.out; have := HZ10.out; have := HZ11.out; have := HZ12.out; have := HZ13.out; have := HZ14.out; have := HZ15.out; omega))
  have hlow := hap.below (B' := w.heap.size) (by have := hb.size; have := HZ1.out; have := HZ2.out; have := HZ3.out; have := HZ4.out; have := HZ5.out; have := HZ6.out; have := HZ7.out; have := HZ8.out; have := HZ9.out; have := HZ10.out; have := HZ11.out; have := HZ12.out; have := HZ13.out; have := HZ14.out; have := HZ15.out; omega) hb.size
  replace HR0_8 := Lib.hid (ho.loc (by have := hap.size; have := HZ1.out; have := HZ2.out; have := HZ3.out; have := HZ4.out; have := HZ5.out; have := HZ6.out; have := HZ7.out; have := HZ8.out; have := HZ9.out; have := HZ10.out; have := HZ11.out; have := HZ12.out; have := HZ13.out; have := HZ14.out; have := HZ15.out; omega))
  have HZ16 := Lib.hid hap.size
  replace hb := hb.trans hlow
  clear ho hap hlow
  clear q0_0 q0_1
  have q0_0 := HX0.out.now.cell 0
  have q0_1 := HX0.out.now.cell 1
  simp only [List.getElem?_toArray, List.getElem?_cons_zero, List.getElem?_cons_succ] at q0_0 q0_1
  clear qx0_0 qx0_1
  have qx0_0 := HXx0.out.now.cell 0
  have qx0_1 := HXx0.out.now.cell 1
  simp only [List.getElem?_toArray, List.getElem?_cons_zero, List.getElem?_cons_succ] at qx0_0 qx0_1
  go_wp2_with fail
  refine (LInt.heldS _ 1 _ r0_4 _ (by omega) (by omega) HR0_8.out.now.1).mono ?_
  rintro e w17_ ⟨rfl, hb1⟩
  replace HA1 := Lib.hid (HA1.out.kept hb1)
  replace HA0 := Lib.hid (HA0.out.kept hb1)
  replace HX0 := Lib.hid (HX0.out.kept hb1)
  replace HR0_4 := Lib.hid (HR0_4.out.kept hb1)
  replace HC5 := Lib.hid (HC5.out.kept hb1)
  replace HXx0 := Lib.hid (HXx0.out.kept hb1)
  replace HC7 := Lib.hid (HC7.out.kept hb1)
  replace HR0_8 := Lib.hid (HR0_8.out.kept hb1)
  clear q0_0 q0_1
  have q0_0 := HX0.out.now.cell 0
  have q0_1 := HX0.out.now.cell 1
  simp only [List.getElem?_toArray, List.getElem?_cons_zero, List.getElem?_cons_succ] at q0_0 q0_1
  clear qx0_0 qx0_1
  have qx0_0 := HXx0.out.now.cell 0
  have qx0_1 := HXx0.out.now.cell 1
  simp only [List.getElem?_toArray, List.getElem?_cons_zero, List.getElem?_cons_succ] at qx0_0 qx0_1
  have HZ17 := Lib.hid hb1.size
  replace hb := hb.trans (hb1.mono hb.size)
  clear hb1
  go_wp2_with fail
  refine (LVoters.to _ z0 _ HA0.out.now (by omega) (by omega)).mono ?_
  rintro e w18_ ⟨u18, rfl, hnn18, ho, hb1⟩
  replace hnn18 := Lib.hid hnn18
  have HC18 := Lib.hid ho.loc
  clear ho
  replace HA1 := Lib.hid (HA1.out.kept hb1)
  replace HA0 := Lib.hid (HA0.out.kept hb1)
  replace HX0 := Lib.hid (HX0.out.kept hb1)
  replace HR0_4 := Lib.hid (HR0_4.out.kept hb1)
  replace HC5 := Lib.hid (HC5.out.kept hb1)
  replace HXx0 := Lib.hid (HXx0.out.kept hb1)
  replace HC7 := Lib.hid (HC7.out.kept hb1)
  replace HR0_8 := Lib.hid (HR0_8.out.kept hb1)
  clear q0_0 q0_1
  have q0_0 := HX0.out.now.cell 0
  have q0_1 := HX0.out.now.cell 1
  simp only [List.getElem?_toArray, List.getElem?_cons_zero, List.getElem?_cons_succ] at q0_0 q0_1
  clear qx0_0 qx0_1
  have qx0_0 := HXx0.out.now.cell 0
  have qx0_1 := HXx0.out.now.cell 1
  simp only [List.getElem?_toArray, List.getElem?_cons_zero, List.getElem?_cons_succ] at qx0_0 qx0_1
  have HZ18 := Lib.hid hb1.size
  replace hb := hb.trans (hb1.mono hb.size)
  clear hb1
  go_wp2_with fail
  refine (LInt.toS _ z1 _ HA1.out.now (by omega)).mono ?_
  rintro e w19_ ⟨u19, rfl, hnn19, ho, hb1⟩
  replace hnn19 := Lib.hid hnn19
  have HC19 := Lib.hid ho.loc
  clear ho
  replace HA1 := Lib.hid (HA1.out.kept hb1)
  replace HA0 := Lib.hid (HA0.out.kept hb1)
  replace HX0 := Lib.hid (HX0.out.kept hb1)
  replace HR0_4 := Lib.hid (HR0_4.out.kept hb1)
  replace HC5 := Lib.hid (HC5.out.kept hb1)
  replace HXx0 := Lib.hid (HXx0.out.kept hb1)
  replace HC7 := Lib.hid (HC7.out.kept hb1)
  replace HR0_8 := Lib.hid (HR0_8.out.kept hb1)
  replace HC18 := Lib.hid (HC18.out.kept hb1)
  clear q0_0 q0_1
  have q0_0 := HX0.out.now.cell 0
  have q0_1 := HX0.out.now.cell 1
  simp only [List.getElem?_toArray, List.getElem?_cons_zero, List.getElem?_cons_succ] at q0_0 q0_1
  clear qx0_0 qx0_1
  have qx0_0 := HXx0.out.now.cell 0
  have qx0_1 := HXx0.out.now.cell 1
  simp only [List.getElem?_toArray, List.getElem?_cons_zero, List.getElem?_cons_succ] at qx0_0 qx0_1
  have HZ19 := Lib.hid hb1.size
  replace hb := hb.trans (hb1.mono hb.size)
  clear hb1
  go_wp2_with fail
  refine (CastVotesC.impl _ z0 _ z1 _ (HC18.out.now.1.isQ) HF0.out (by omega) (by omega) (HC19.out.now.1.isS hnn19.out) HF1.out (by omega)).mono ?_
  rintro e w20_ ⟨v0_20, r0_20, r1_20, rfl, hans, ho0, hb1⟩
  obtain ⟨rfl, rfl⟩ := CastVotesC.same HS.out hans
  clear hans
  have HR0_20 := Lib.hid ho0.loc
  clear ho0
  replace HA1 := Lib.hid (HA1.out.kept hb1)
  replace HA0 := Lib.hid (HA0.out.kept hb1)
  replace HX0 := Lib.hid (HX0.out.kept hb1)
  replace HR0_4 := Lib.hid (HR0_4.out.kept hb1)
  replace HC5 := Lib.hid (HC5.out.kept hb1)
  replace HXx0 := Lib.hid (HXx0.out.kept hb1)
  replace HC7 := Lib.hid (HC7.out.kept hb1)
  replace HR0_8 := Lib.hid (HR0_8.out.kept hb1)
  replace HC18 := Lib.hid (HC18.out.kept hb1)
  replace HC19 := Lib.hid (HC19.out.kept hb1)
  clear q0_0 q0_1
  have q0_0 := HX0.out.now.cell 0
  have q0_1 := HX0.out.now.cell 1
  simp only [List.getElem?_toArray, List.getElem?_cons_zero, List.getElem?_cons_succ] at q0_0 q0_1
  clear qx0_0 qx0_1
  have qx0_0 := HXx0.out.now.cell 0
  have qx0_1 := HXx0.out.now.cell 1
  simp only [List.getElem?_toArray, List.getElem?_cons_zero, List.getElem?_cons_succ] at qx0_0 qx0_1
  have HZ20 := Lib.hid hb1.size
  replace hb := hb.trans (hb1.mono hb.size)
  clear hb1
  clear HC18
  clear HC19
  go_wp2_with fail
  refine (LInt.eqS _ _ r0_4 _ HR0_20.out.now.1.is HR0_4.out.now.1.is).mono ?_
  rintro e w21_ ⟨rfl, hb1⟩
  replace HA1 := Lib.hid (HA1.out.kept hb1)
  replace HA0 := Lib.hid (HA0.out.kept hb1)
  replace HX0 := Lib.hid (HX0.out.kept hb1)
  replace HR0_4 := Lib.hid (HR0_4.out.kept hb1)
  replace HC5 := Lib.hid (HC5.out.kept hb1)
  replace HXx0 := Lib.hid (HXx0.out.kept hb1)
  replace HC7 := Lib.hid (HC7.out.kept hb1)
  replace HR0_8 := Lib.hid (HR0_8.out.kept hb1)
  replace HR0_20 := Lib.hid (HR0_20.out.kept hb1)
  clear q0_0 q0_1
  have q0_0 := HX0.out.now.cell 0
  have q0_1 := HX0.out.now.cell 1
  simp only [List.getElem?_toArray, List.getElem?_cons_zero, List.getElem?_cons_succ] at q0_0 q0_1
  clear qx0_0 qx0_1
  have qx0_0 := HXx0.out.now.cell 0
  have qx0_1 := HXx0.out.now.cell 1
  simp only [List.getElem?_toArray, List.getElem?_cons_zero, List.getElem?_cons_succ] at qx0_0 qx0_1
  have HZ21 := Lib.hid hb1.size
  replace hb := hb.trans (hb1.mono hb.size)
  clear hb1
  go_wp2_with fail
  refine (LInt.heldS _ 1 _ r0_4 _ (by omega) (by omega) HR0_8.out.now.1).mono ?_
  rintro e w22_ ⟨rfl, hb1⟩
  replace HA1 := Lib.hid (HA1.out.kept hb1)
  replace HA0 := Lib.hid (HA0.out.kept hb1)
  replace HX0 := Lib.hid (HX0.out.kept hb1)
  replace HR0_4 := Lib.hid (HR0_4.out.kept hb1)
  replace HC5 := Lib.hid (HC5.out.kept hb1)
  replace HXx0 := Lib.hid (HXx0.out.kept hb1)
  replace HC7 := Lib.hid (HC7.out.kept hb1)
  replace HR0_8 := Lib.hid (HR0_8.out.kept hb1)
  replace HR0_20 := Lib.hid (HR0_20.out.kept hb1)
  clear q0_0 q0_1
  have q0_0 := HX0.out.now.cell 0
  have q0_1 := HX0.out.now.cell 1
  simp only [List.getElem?_toArray, List.getElem?_cons_zero, List.getElem?_cons_succ] at q0_0 q0_1
  clear qx0_0 qx0_1
  have qx0_0 := HXx0.out.now.cell 0
  have qx0_1 := HXx0.out.now.cell 1
  simp only [List.getElem?_toArray, List.getElem?_cons_zero, List.getElem?_cons_succ] at qx0_0 qx0_1
  have HZ22 := Lib.hid hb1.size
  replace hb := hb.trans (hb1.mono hb.size)
  clear hb1
  go_wp2_with fail
  go_ret
  exact ⟨rfl, hb⟩
end Go.Proofs.Ytdjnaoaniokbgaa.fnExactCastVotes
