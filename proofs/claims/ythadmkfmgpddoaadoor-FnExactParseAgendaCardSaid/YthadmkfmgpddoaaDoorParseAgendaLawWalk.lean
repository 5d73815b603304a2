/- FnExactParseAgenda: the law's walk, for every string. -/
import Derived.Test.YthadmkfmgpddoaaDoorLAgendaItemE
import Derived.Test.YthadmkfmgpddoaaDoorLAgendaItemM
import Derived.Test.YthadmkfmgpddoaaDoorLaid
import Derived.Test.YthadmkfmgpddoaaDoorPCutH
import Derived.Test.YthadmkfmgpddoaaDoorParseAgendaC
namespace Go.Proofs.YthadmkfmgpddoaaDoor.fnExactParseAgenda
open Go.RowKit Bs
set_option linter.unusedVariables false
set_option maxRecDepth 100000 in
set_option maxHeartbeats 12800000 in
theorem walk (a0 : ByteArray) (w : World) (sh : w.ShapedOpen Tryd.prog) (vp : Laid.Pow w) (vr : Laid.Err "strconv.ErrRange" w) (vs : Laid.Err "strconv.ErrSyntax" w) (w0 : a0.size ≤ maxLen) :
    Calls Tryd.prog 3 #[.string a0] w fun e w' => e = .returned (.bool true) ∧ Below w.heap.size w w' := by
  unfold maxLen at w0
  have HVP := Lib.hid vp
  have HVR := Lib.hid vr
  have HVS := Lib.hid vs
  have HVM := Lib.hid (PCutH.Mx.of sh)
  clear sh vp vr vs
  by_cases hbig0 : 1048576 < a0.size
  · go_enter Tryd.func3, Tryd.ntmps3
    go_wp2_with fail
    go_ret
    exact ⟨rfl, (Below.refl _ _)⟩
  have hs0 : a0.size ≤ 1048576 := by omega
  clear w0
  go_enter Tryd.func3, Tryd.ntmps3
  go_wp2_with fail
  refine (ParseAgendaC.spec a0 _ hs0).mono ?_
  rintro e w1_ ⟨v0_1, r0_1, r1_1, rfl, hans, ho0, hb1⟩
  have HS := Lib.hid hans
  have hlen0 := ParseAgendaC.len0 hans
  clear hans
  have HR0_1 := Lib.hid ho0.loc
  clear ho0
  have HZ1 := Lib.hid hb1.size
  have hb := hb1
  clear hb1
  have hne1 : (r1_1 != r1_1) = false := by simp
  go_wp2_with fail
  refine (ParseAgendaC.impl a0 _ hs0 (Laid.Pow.below HVP.out hb) (Laid.Err.below HVR.out hb) (Laid.Err.below HVS.out hb) (PCutH.Mx.below HVM.out hb)).mono ?_
  rintro e w2_ ⟨v0_2, r0_2, r1_2, rfl, hans, ho0, hb1⟩
  obtain ⟨rfl, rfl⟩ := ParseAgendaC.same HS.out hans
  clear hans
  have HR0_2 := Lib.hid ho0.loc
  clear ho0
  replace HR0_1 := Lib.hid (HR0_1.out.kept hb1)
  have HZ2 := Lib.hid hb1.size
  replace hb := hb.trans (hb1.mono hb.size)
  clear hb1
  go_wp2_with fail
  refine (LAgendaItem.eqS _ _ r0_1 _ HR0_2.out.now.1.is HR0_1.out.now.1.is).mono ?_
  rintro e w3_ ⟨rfl, hb1⟩
  replace HR0_1 := Lib.hid (HR0_1.out.kept hb1)
  replace HR0_2 := Lib.hid (HR0_2.out.kept hb1)
  have HZ3 := Lib.hid hb1.size
  replace hb := hb.trans (hb1.mono hb.size)
  clear hb1
  go_wp2_with fail
  refine (LAgendaItem.markS _ _ 1 _ r0_1 _ (by omega) (by omega) HR0_2.out.now).mono ?_
  rintro e w4_ ⟨rfl, ho, hap⟩
  replace HR0_1 := Lib.hid (HR0_1.out.apart hap (by have := HZ1.out; have := HZ2.out; have := HZ3.out; omega))
  have hlow := hap.below (B' := w.heap.size) (by have := hb.size; have := HZ1.out; have := HZ2.out; have := HZ3.out; omega) hb.size
  replace HR0_2 := Lib.hid (ho.loc (by have := hap.size; have := HZ1.out; have := HZ2.out; have := HZ3.out; omega))
  have HZ4 := Lib.hid hap.size
  replace hb := hb.trans hlow
  clear ho hap hlow
  go_wp2_with fail
  refine (LAgendaItem.heldS _ 1 _ r0_1 _ (by omega) (by omega) HR0_2.out.now.1).mono ?_
  rintro e w5_ ⟨rfl, hb1⟩
  replace HR0_1 := Lib.hid (HR0_1.out.kept hb1)
  replace HR0_2 := Lib.hid (HR0_2.out.kept hb1)
  have HZ5 := Lib.hid hb1.size
  replace hb := hb.trans (hb1.mono hb.size)
  clear hb1
  go_wp2_with fail
  refine (ParseAgendaC.impl a0 _ hs0 (Laid.Pow.below HVP.out hb) (Laid.Err.below HVR.out hb) (Laid.Err.below HVS.out hb) (PCutH.Mx.below HVM.out hb)).mono ?_
  rintro e w6_ ⟨v0_6, r0_6, r1_6, rfl, hans, ho0, hb1⟩
  obtain ⟨rfl, rfl⟩ := ParseAgendaC.same HS.out hans
  clear hans
  have HR0_6 := Lib.hid ho0.loc
  clear ho0
  replace HR0_1 := Lib.hid (HR0_1.out.kept hb1)
  replace HR0_2 := Lib.hid (HR0_2.out.kept hb1)
  have HZ6 := Lib.hid hb1.size
  replace hb := hb.trans (hb1.mono hb.size)
  clear hb1
  go_wp2_with fail
  refine (LAgendaItem.eqS _ _ r0_1 _ HR0_6.out.now.1.is HR0_1.out.now.1.is).mono ?_
  rintro e w7_ ⟨rfl, hb1⟩
  replace HR0_1 := Lib.hid (HR0_1.out.kept hb1)
  replace HR0_2 := Lib.hid (HR0_2.out.kept hb1)
  replace HR0_6 := Lib.hid (HR0_6.out.kept hb1)
  have HZ7 := Lib.hid hb1.size
  replace hb := hb.trans (hb1.mono hb.size)
  clear hb1
  go_wp2_with fail
  refine (LAgendaItem.heldS _ 1 _ r0_1 _ (by omega) (by omega) HR0_2.out.now.1).mono ?_
  rintro e w8_ ⟨rfl, hb1⟩
  replace HR0_1 := Lib.hid (HR0_1.out.kept hb1)
  replace HR0_2 := Lib.hid (HR0_2.out.kept hb1)
  replace HR0_6 := Lib.hid (HR0_6.out.kept hb1)
  have HZ8 := Lib.hid hb1.size
  replace hb := hb.trans (hb1.mono hb.size)
  clear hb1
  go_wp2_with fail
  go_ret
  exact ⟨rfl, hb⟩
end Go.Proofs.YthadmkfmgpddoaaDoor.fnExactParseAgenda
