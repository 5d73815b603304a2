/- SpeakingOrder: what it answers, on both sides. No condition. -/
import Derived.Test.YtmbffcblhhippaaSpeakingOrderA
import Derived.Test.YtmbffcblhhippaaFlDo
import Derived.Test.YtmbffcblhhippaaFlV
namespace Go.Proofs.Ytmbffcblhhippaa.SpeakingOrderC
open Go.RowKit Bs Word Sq IntF Fl FlA FlG FlO FlX FlW
set_option linter.unusedVariables false
theorem lt_eq (key : Int → Int) : LIntSortTurns.lt key = Fl.lt key := by
  funext a b
  unfold LIntSortTurns.lt Fl.lt
  rw [Bool.eq_iff_iff, decide_eq_true_eq, decide_eq_true_eq, CmpI.cmp_neg]
set_option maxRecDepth 100000 in
set_option maxHeartbeats 1600000 in
theorem impl (v0 : Value) (z0 : F) (w : World) (h0 : LFloor.IsQ w v0 z0) (f0 : LFloor.Fine z0) (l3 : z0.waiting.length ≤ 1048576) (l4 : z0.shares.length ≤ 1048576) : Calls Try.prog 25 #[v0] w (Post z0 w) := by
  obtain ⟨r, hr⟩ : ∃ r, r = z0 := ⟨_, rfl⟩
  subst hr
  obtain ⟨a3, n3, c3, a4, n4, c4, rfl, HN3, HN4, hb3, hb4, hm3, hm4, HQ3, HQ4, HIQ⟩ := open_isq h0
  clear h0
  have HI := Lib.hid (LFloor.IsQ.is HIQ.out)
  have HL := Lib.hid (And.intro l3 l4)
  clear l3 l4
  obtain ⟨i3, hi, hz0, hz1, hz2⟩ := info_parts LInt.infoK
  have HI3 := Lib.hid hi
  have HZ3 := Lib.hid (And.intro hz0 (And.intro hz1 hz2))
  clear hi hz0 hz1 hz2
  obtain ⟨W, hW⟩ : ∃ W : World, W = w.alloc (Obj.cells #[.int .i64 r.turns, .int .i64 r.seconds, .int .i64 r.speaking, .slice a3 n3 c3, .slice a4 n4 c4] 29) := ⟨_, rfl⟩
  have hb : Below w.heap.size w W := by rw [hW]; exact (Below.refl _ _).alloc (Nat.le_refl _) _
  have B0 := Lib.hid (show Bx W w.heap.size 29 #[.int .i64 r.turns, .int .i64 r.seconds, .int .i64 r.speaking, .slice a3 n3 c3, .slice a4 n4 c4] by rw [hW]; exact Bx.new _ _ _)
  have HIW := Lib.hid (LFloor.Is.below HI.out hb)
  have hbT := hb
  have HZ := Lib.hid (show w.heap.size < W.heap.size from B0.out.lt)
  have HC := Lib.hid (FlV.isValid _ r W HIW.out)
  clear hb
  have q0 := B0.out.cell 0
  have q1 := B0.out.cell 1
  have q2 := B0.out.cell 2
  have q3 := B0.out.cell 3
  have q4 := B0.out.cell 4
  simp only [List.getElem?_toArray, List.getElem?_cons_zero, List.getElem?_cons_succ] at q0 q1 q2 q3 q4
  go_enter Try.func25, Try.ntmps25
  go_wp2_with fail
  rw [← hW]
  clear hW
  refine HC.out.mono ?_
  rintro e w1 ⟨rfl, hb1⟩
  replace B0 := Lib.hid (B0.out.kept hb1)
  have HZ1 := Lib.hid (show w.heap.size < w1.heap.size from B0.out.lt)
  replace hbT := hbT.trans (hb1.mono hbT.size)
  clear hb1 q0 q1 q2 q3 q4 HC
  have q0 := B0.out.cell 0
  have q1 := B0.out.cell 1
  have q2 := B0.out.cell 2
  have q3 := B0.out.cell 3
  have q4 := B0.out.cell 4
  simp only [List.getElem?_toArray, List.getElem?_cons_zero, List.getElem?_cons_succ] at q0 q1 q2 q3 q4
  cases hg : good r with
  | false =>
    have HA := Lib.hid (show Ans r [] false by unfold Ans answer; rw [hg]; rfl)
    clear hg
    have HOb := Lib.hid (own_start (T := LInt.rec) (E := 3) (A := w.heap.size) (w := w1) hbT.size)
    have hbz := hbT.alloc hbT.size (Obj.cells #[] 3)
    go_wp2_with fail
    go_ret2
    exact ⟨_, [], false, rfl, HA.out, HOb.out, hbz⟩
  | true =>
  have HA := Lib.hid (show Ans r (Srt.srt (lt (key r)) r.waiting) true by unfold Ans answer; rw [hg]; rfl)
  have HSP := Lib.hid (good_sh hg)
  have h10 : n3 ≤ 10 := by have h1 := (good_lens hg).1; have := HN3.out; omega
  clear hg
  go_wp2_with (at_make; refine wpList_make_full _ rfl (.tmp 11) (.tmp 11) 22 rfl w1.heap.size 3 i3 (.int .i64 0) 1 Try.underlying22 HI3.out HZ3.out.1 HZ3.out.2.1 .i64 .i64 _ _ n3 rfl rfl rfl rfl ?m31 ?m32 ?m33 ?m34)
  case m31 => rw [HZ3.out.2.2]; omega
  case m32 => unfold maxLen; omega
  case m33 => exact Nat.le_refl _
  case m34 =>
  intro w2 hown hgrow
  have hb1 : Below w1.heap.size w1 w2 := (Below.refl _ _).grown hgrow (Nat.le_refl _) (fun k hk => by cases hk)
  obtain ⟨g3, hg3⟩ : ∃ g, g = w1.heap.size := ⟨_, rfl⟩
  have o3 : Bs.Own LInt.rec 3 w2 w1.heap.size (.slice (some ⟨g3, 0, none⟩) n3 n3) (List.replicate n3 LInt.zero) := by
    unfold Bs.Own; rw [List.length_replicate, ← LInt.made_zero n3, hg3]; exact hown
  rw [← hg3]
  replace B0 := Lib.hid (B0.out.kept hb1)
  have HG := Lib.hid (show g3 = w1.heap.size from hg3)
  replace hbT := hbT.trans (hb1.mono hbT.size)
  clear hown hgrow hb1 q0 q1 q2 q3 q4
  have q3 := B0.out.cell 3
  simp only [List.getElem?_toArray, List.getElem?_cons_zero, List.getElem?_cons_succ] at q3
  have HCP := Lib.hid (show ∃ wx, (Builtin.copy_ #[22, 22] 3 #[.slice (some ⟨g3, 0, none⟩) n3 n3, .slice a3 n3 c3]).run Try.prog w2 = .ok (goInt (n3 : Int)) wx ∧ Bs.Own LInt.rec 3 wx w1.heap.size (.slice (some ⟨g3, 0, none⟩) n3 n3) r.waiting ∧ Apart g3 (g3 + 1) w2 wx from
      copy_full w2 22 22 3 Try.underlying22 (by kernel_rfl) o3 HN3.out ((HQ3.out _ hbT).src).1)
  clear o3
  go_upto_region 4 with fail
  (try rw [← hg3])
  clear hg3
  obtain ⟨wb, hrun, o3, hap⟩ := HCP.out
  clear HCP
  go_upto_region 5 with (at_builtin; refine wpList_copy_runI _ rfl (.tmp 13) (.tmp 15) 22 22 rfl _ _ rfl rfl hrun ?_)
  have hg1 := HG.out
  have hw1 := HZ1.out
  replace B0 := Lib.hid (box_apart B0.out hap (.inl (by omega)))
  replace hbT := hbT.trans (hap.below (by omega) hbT.size)
  have HCL := Lib.hid (show ∀ (X Y : Int) (W : World), Below w1.heap.size wb W → Calls Try.prog 57 #[.int .i64 X, .int .i64 Y, .pointer (some ⟨w.heap.size, 0, none⟩)] W fun e w' => e = .returned (.int .i64 (CmpI.cmpI (key r X) (key r Y))) ∧ Below W.heap.size W w' from
    fun X Y W hW => FlD.orderBy r w.heap.size a3 n3 c3 a4 n4 c4 X Y W (LFloor.Is.below HI.out (hbT.trans (hW.mono (by omega)))) HSP.out (B0.out.under hW hw1))
  have HSO := Lib.hid (LIntSortTurns.sorted (A := w1.heap.size) (.slice (some ⟨g3, 0, none⟩) n3 n3) r.waiting wb (key r) w.heap.size HCL.out o3 (by have := HN3.out; omega))
  rw [lt_eq] at HSO
  clear q3 hap hrun o3 hg1
  go_wp2_with fail
  refine HSO.out.mono ?_
  rintro e w5 ⟨rfl, hO, hb1⟩
  have HOO := Lib.hid hO
  replace hbT := hbT.trans (hb1.mono (by omega))
  clear hO hb1
  go_wp2_with fail
  go_ret2
  exact ⟨_, _, true, rfl, HA.out, HOO.out.low (by omega), hbT⟩
end Go.Proofs.Ytmbffcblhhippaa.SpeakingOrderC
