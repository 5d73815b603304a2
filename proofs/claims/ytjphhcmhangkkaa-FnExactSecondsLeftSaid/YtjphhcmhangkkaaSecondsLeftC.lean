/- SecondsLeft: what it answers, on both sides. No condition. -/
import Derived.Test.YtjphhcmhangkkaaFlX
import Derived.Test.YtjphhcmhangkkaaFlV
import Derived.Test.YtjphhcmhangkkaaFlO
namespace Go.Proofs.Ytjphhcmhangkkaa.SecondsLeftC
open Go.RowKit Bs Word Sq IntF Fl FlA FlG FlO FlX
set_option linter.unusedVariables false
noncomputable def answer (z0 : F) (a1 : Int) : Int × Bool := if (good z0 && inB a1 1 99) = true then (z0.seconds - (share z0.shares a1).seconds, true) else (0, false)
def Ans (z0 : F) (a1 : Int) (r0 : Int) (r1 : Bool) : Prop := (r0, r1) = answer z0 a1
theorem same {z0 : F} {a1 : Int} {r0 s0 : Int} {r1 s1 : Bool} (h1 : Ans z0 a1 r0 r1) (h2 : Ans z0 a1 s0 s1) : r0 = s0 ∧ r1 = s1 := by
  have h := h1.trans h2.symm
  exact ⟨congrArg Prod.fst h, congrArg Prod.snd h⟩
def Post (z0 : F) (a1 : Int) (w : World) (e : Ending) (w' : World) : Prop := ∃ r0 r1, e = .returned (.tuple #[.int .i64 r0, .bool r1]) ∧ Ans z0 a1 r0 r1 ∧ Below w.heap.size w w'
set_option maxRecDepth 100000 in
set_option maxHeartbeats 1600000 in
theorem spec (v0 : Value) (z0 : F) (a1 : Int) (w : World) (h0 : LFloor.IsQ w v0 z0) (f0 : LFloor.Fine z0) (l3 : z0.waiting.length ≤ 1048576) (l4 : z0.shares.length ≤ 1048576) : Calls Try.prog 31 #[v0, .int .i64 a1] w (Post z0 a1 w) := by
  obtain ⟨r, hr⟩ : ∃ r, r = z0 := ⟨_, rfl⟩
  subst hr
  obtain ⟨a3, n3, c3, a4, n4, c4, rfl, HN3, HN4, hb3, hb4, hm3, hm4, HQ3, HQ4, HIQ⟩ := open_isq h0
  clear h0
  have HI := Lib.hid (LFloor.IsQ.is HIQ.out)
  obtain ⟨W, hW⟩ : ∃ W : World, W = w.alloc (Obj.cells #[.int .i64 r.turns, .int .i64 r.seconds, .int .i64 r.speaking, .slice a3 n3 c3, .slice a4 n4 c4] 25) := ⟨_, rfl⟩
  have hb : Below w.heap.size w W := by rw [hW]; exact (Below.refl _ _).alloc (Nat.le_refl _) _
  have B0 := Lib.hid (show Bx W w.heap.size 25 #[.int .i64 r.turns, .int .i64 r.seconds, .int .i64 r.speaking, .slice a3 n3 c3, .slice a4 n4 c4] by rw [hW]; exact Bx.new _ _ _)
  have HIW := Lib.hid (LFloor.Is.below HI.out hb)
  have hbT := hb
  have HC := Lib.hid (FlG.l8Good _ r W HIW.out)
  clear l3 l4 hb
  have q0 := B0.out.cell 0
  have q1 := B0.out.cell 1
  have q2 := B0.out.cell 2
  have q3 := B0.out.cell 3
  have q4 := B0.out.cell 4
  simp only [List.getElem?_toArray, List.getElem?_cons_zero, List.getElem?_cons_succ] at q0 q1 q2 q3 q4
  go_enter Try.func31, Try.ntmps31
  go_wp2_with fail
  rw [← hW]
  clear hW
  refine HC.out.mono ?_
  rintro e w1 ⟨rfl, hb1⟩
  replace B0 := Lib.hid (B0.out.kept hb1)
  replace hbT := hbT.trans (hb1.mono hbT.size)
  clear hb1 q0 q1 q2 q3 q4
  have q0 := B0.out.cell 0
  have q1 := B0.out.cell 1
  have q2 := B0.out.cell 2
  have q3 := B0.out.cell 3
  have q4 := B0.out.cell 4
  simp only [List.getElem?_toArray, List.getElem?_cons_zero, List.getElem?_cons_succ] at q0 q1 q2 q3 q4
  cases hg : good r with
  | false =>
    have HA := Lib.hid (show Ans r a1 0 false by unfold Ans answer; rw [hg]; rfl)
    clear hg
    go_wp2_with fail
    go_ret2
    exact ⟨0, false, rfl, HA.out, hbT⟩
  | true =>
  cases hm : inB a1 1 99 with
  | false =>
    have HA := Lib.hid (show Ans r a1 0 false by unfold Ans answer; rw [hg, hm]; rfl)
    have HM := Lib.hid (fun W => Mbr.l7Member a1 false hm W)
    clear hg hm
    go_wp2_with fail
    refine (HM.out _).mono ?_
    rintro e _ ⟨rfl, rfl⟩
    go_wp2_with fail
    go_ret2
    exact ⟨0, false, rfl, HA.out, hbT⟩
  | true =>
  obtain ⟨X, hX⟩ : ∃ X, X = share r.shares a1 := ⟨_, rfl⟩
  have HGI := Lib.hid (good_in hg a1)
  have HA := Lib.hid (show Ans r a1 (r.seconds - X.seconds) true by unfold Ans answer; rw [hg, hm, hX]; rfl)
  have HM := Lib.hid (fun W => Mbr.l7Member a1 true hm W)
  have HSO := Lib.hid (show ∀ w' : World, Below w1.heap.size w1 w' → _ from fun w' hB => l8Share _ r a1 w' (LFloor.Is.below HI.out (hbT.trans (hB.mono hbT.size))))
  rw [← hX] at HSO
  have hsx : 0 ≤ X.seconds ∧ X.seconds ≤ r.seconds ∧ 1 ≤ r.seconds ∧ r.seconds ≤ 3600 := by rw [hX]; have := HGI.out; omega
  have s1 : IntKind.i64.wrap (r.seconds - X.seconds) = r.seconds - X.seconds := IntWalk.i64_in _ (by omega)
  have hfs := fun W => field_seconds X W
  clear hX hg hm
  go_wp2_with fail
  refine (HM.out _).mono ?_
  rintro e _ ⟨rfl, rfl⟩
  have HK := Lib.hid (show ∀ w' : World, Below w1.heap.size w1 w' → Below w.heap.size w w' ∧ w'.cell? ⟨w.heap.size, 0, none⟩ = some (.int .i64 r.turns) ∧ w'.cell? ⟨w.heap.size, 1, none⟩ = some (.int .i64 r.seconds) ∧ w'.cell? ⟨w.heap.size, 2, none⟩ = some (.int .i64 r.speaking) ∧ w'.cell? ⟨w.heap.size, 3, none⟩ = some (.slice a3 n3 c3) ∧ w'.cell? ⟨w.heap.size, 4, none⟩ = some (.slice a4 n4 c4) from fun w' hb => ⟨hbT.trans (hb.mono hbT.size), by rw [(B0.out.kept hb).cell 0, (B0.out.kept hb).cell 1, (B0.out.kept hb).cell 2, (B0.out.kept hb).cell 3, (B0.out.kept hb).cell 4]; exact ⟨rfl, rfl, rfl, rfl, rfl⟩⟩)
  go_upto_region 3 with fail
  clear q0 q1 q2 q3 q4
  have hB : Below w1.heap.size w1 w1.drew := (Below.refl _ _).drew
  refine wp_region_held_drew (S := fun w' => Below w.heap.size w w' ∧ w'.cell? ⟨w.heap.size, 0, none⟩ = some (.int .i64 r.turns) ∧ w'.cell? ⟨w.heap.size, 1, none⟩ = some (.int .i64 r.seconds) ∧ w'.cell? ⟨w.heap.size, 2, none⟩ = some (.int .i64 r.speaking) ∧ w'.cell? ⟨w.heap.size, 3, none⟩ = some (.slice a3 n3 c3) ∧ w'.cell? ⟨w.heap.size, 4, none⟩ = some (.slice a4 n4 c4)) (by kernel_rfl) (HK.out _ hB) (fun hHeld => ?_)
  generalize w1.drew = x0 at *
  refine wpAnyH_take (i := 0) (v := ?v1) rfl (by kernel_rfl) (by kernel_rfl) (by kernel_rfl) (fun _ _ _ h => h) (Or.inl ⟨by rfl, ?hy1⟩) (by assumption) ?rest1
  case hy1 => (intro wq hSw; (try dsimp only at hSw); go_split_ands; go_simp; (try with_reducible rfl))
  case rest1 =>
  refine wpAnyH_take (i := 1) (v := ?v2) rfl (by kernel_rfl) (by kernel_rfl) (by kernel_rfl) (fun _ _ _ h => h) (Or.inl ⟨by rfl, ?hy2⟩) (by assumption) ?rest2
  case hy2 => (intro wq hSw; (try dsimp only at hSw); go_split_ands; go_simp; (try with_reducible rfl))
  case rest2 =>
  refine wpAnyH_take (i := 2) (v := ?v3) rfl (by kernel_rfl) (by kernel_rfl) (by kernel_rfl) (fun _ _ _ h => h) (Or.inl ⟨by rfl, ?hy3⟩) (by assumption) ?rest3
  case hy3 => (intro wq hSw; (try dsimp only at hSw); go_split_ands; go_simp; (try with_reducible rfl))
  case rest3 =>
  refine wpAnyH_take (i := 3) (v := ?v4) rfl (by kernel_rfl) (by kernel_rfl) (by kernel_rfl) (fun _ _ _ h => h) (Or.inl ⟨by rfl, ?hy4⟩) (by assumption) ?rest4
  case hy4 => (intro wq hSw; (try dsimp only at hSw); go_split_ands; go_simp; (try with_reducible rfl))
  case rest4 =>
  refine wpAnyH_ready (rs := [4]) (by kernel_rfl) (by simp) ?_
  refine AllReadyH.cons rfl (fun K hK => ?step5) ?more5
  case step5 =>
    go_simp
    go_at_call 58
    refine (HSO.out _ hB).mono ?_
    rintro e x1 ⟨rfl, hbc⟩
    replace hB := hB.trans (hbc.mono hB.size)
    clear hbc
    go_wp2_with fail
    refine hK.out _ _ (HK.out _ hB) (fun hHeld => ?_)
    clear hK K
    refine wpAnyH_take (i := 5) (v := ?v6) rfl (by kernel_rfl) (by kernel_rfl) (by kernel_rfl) (fun _ _ _ h => h) (Or.inl ⟨by rfl, ?hy6⟩) (by assumption) ?rest6
    case hy6 => (intro wq hSw; (try dsimp only at hSw); go_split_ands; go_simp; (try with_reducible rfl))
    case rest6 =>
    refine wpAnyH_take (i := 6) (v := ?v7) rfl (by kernel_rfl) (by kernel_rfl) (by kernel_rfl) (fun _ _ _ h => h) (Or.inl ⟨by rfl, ?hy7⟩) (by assumption) ?rest7
    case hy7 => (intro wq hSw; (try dsimp only at hSw); go_split_ands; go_simp; (try with_reducible rfl))
    case rest7 =>
    refine wpAnyH_take (i := 7) (v := ?v8) rfl (by kernel_rfl) (by kernel_rfl) (by kernel_rfl) (fun _ _ _ h => h) (Or.inl ⟨by rfl, ?hy8⟩) (by assumption) ?rest8
    case hy8 => (intro wq hSw; (try dsimp only at hSw); go_split_ands; go_simp; (try with_reducible rfl))
    case rest8 =>
    refine wpAnyH_take (i := 8) (v := ?v9) rfl (by kernel_rfl) (by kernel_rfl) (by kernel_rfl) (fun _ _ _ h => h) (Or.inl ⟨by rfl, ?hy9⟩) (by assumption) ?rest9
    case hy9 => (intro wq hSw; (try dsimp only at hSw); go_split_ands; go_simp; (try with_reducible rfl))
    case rest9 =>
    refine wpAnyH_done (by kernel_rfl) ?_ _
    go_wp2_with fail
    all_goals
      go_ret2
      exact ⟨_, true, by go_simp, HA.out, hbT.trans (hB.mono hbT.size)⟩
  case more5 => exact AllReadyH.nil
set_option maxRecDepth 100000 in
set_option maxHeartbeats 1600000 in
theorem impl (v0 : Value) (z0 : F) (a1 : Int) (w : World) (h0 : LFloor.IsQ w v0 z0) (f0 : LFloor.Fine z0) (l3 : z0.waiting.length ≤ 1048576) (l4 : z0.shares.length ≤ 1048576) : Calls Try.prog 32 #[v0, .int .i64 a1] w (Post z0 a1 w) := by
  obtain ⟨r, hr⟩ : ∃ r, r = z0 := ⟨_, rfl⟩
  subst hr
  obtain ⟨a3, n3, c3, a4, n4, c4, rfl, HN3, HN4, hb3, hb4, hm3, hm4, HQ3, HQ4, HIQ⟩ := open_isq h0
  clear h0
  have HI := Lib.hid (LFloor.IsQ.is HIQ.out)
  obtain ⟨W, hW⟩ : ∃ W : World, W = w.alloc (Obj.cells #[.int .i64 r.turns, .int .i64 r.seconds, .int .i64 r.speaking, .slice a3 n3 c3, .slice a4 n4 c4] 25) := ⟨_, rfl⟩
  have hb : Below w.heap.size w W := by rw [hW]; exact (Below.refl _ _).alloc (Nat.le_refl _) _
  have B0 := Lib.hid (show Bx W w.heap.size 25 #[.int .i64 r.turns, .int .i64 r.seconds, .int .i64 r.speaking, .slice a3 n3 c3, .slice a4 n4 c4] by rw [hW]; exact Bx.new _ _ _)
  have HIW := Lib.hid (LFloor.Is.below HI.out hb)
  have hbT := hb
  have HC := Lib.hid (FlV.isValid _ r W HIW.out)
  clear l3 l4 hb
  have q0 := B0.out.cell 0
  have q1 := B0.out.cell 1
  have q2 := B0.out.cell 2
  have q3 := B0.out.cell 3
  have q4 := B0.out.cell 4
  simp only [List.getElem?_toArray, List.getElem?_cons_zero, List.getElem?_cons_succ] at q0 q1 q2 q3 q4
  go_enter Try.func32, Try.ntmps32
  go_wp2_with fail
  rw [← hW]
  clear hW
  refine HC.out.mono ?_
  rintro e w1 ⟨rfl, hb1⟩
  replace B0 := Lib.hid (B0.out.kept hb1)
  replace hbT := hbT.trans (hb1.mono hbT.size)
  clear hb1 q0 q1 q2 q3 q4
  have q0 := B0.out.cell 0
  have q1 := B0.out.cell 1
  have q2 := B0.out.cell 2
  have q3 := B0.out.cell 3
  have q4 := B0.out.cell 4
  simp only [List.getElem?_toArray, List.getElem?_cons_zero, List.getElem?_cons_succ] at q0 q1 q2 q3 q4
  cases hg : good r with
  | false =>
    have HA := Lib.hid (show Ans r a1 0 false by unfold Ans answer; rw [hg]; rfl)
    clear hg
    go_wp2_with fail
    go_ret2
    exact ⟨0, false, rfl, HA.out, hbT⟩
  | true =>
  cases hm : inB a1 1 99 with
  | false =>
    have HA := Lib.hid (show Ans r a1 0 false by unfold Ans answer; rw [hg, hm]; rfl)
    have HM := Lib.hid (fun W => Mbr.member a1 false hm W)
    clear hg hm
    go_wp2_with fail
    refine (HM.out _).mono ?_
    rintro e _ ⟨rfl, rfl⟩
    go_wp2_with fail
    go_ret2
    exact ⟨0, false, rfl, HA.out, hbT⟩
  | true =>
  obtain ⟨X, hX⟩ : ∃ X, X = share r.shares a1 := ⟨_, rfl⟩
  have HGI := Lib.hid (good_in hg a1)
  have HA := Lib.hid (show Ans r a1 (r.seconds - X.seconds) true by unfold Ans answer; rw [hg, hm, hX]; rfl)
  have HM := Lib.hid (fun W => Mbr.member a1 true hm W)
  have HSO := Lib.hid (show ∀ w' : World, Below w1.heap.size w1 w' → _ from fun w' hB => FlB.shareOf _ r a1 w' (LFloor.Is.below HI.out (hbT.trans (hB.mono hbT.size))) HGI.out.1)
  rw [← hX] at HSO
  have hsx : 0 ≤ X.seconds ∧ X.seconds ≤ r.seconds ∧ 1 ≤ r.seconds ∧ r.seconds ≤ 3600 := by rw [hX]; have := HGI.out; omega
  have s1 : IntKind.i64.wrap (r.seconds - X.seconds) = r.seconds - X.seconds := IntWalk.i64_in _ (by omega)
  have hfs := fun W => field_seconds X W
  clear hX hg hm
  go_wp2_with fail
  refine (HM.out _).mono ?_
  rintro e _ ⟨rfl, rfl⟩
  have HK := Lib.hid (show ∀ w' : World, Below w1.heap.size w1 w' → Below w.heap.size w w' ∧ w'.cell? ⟨w.heap.size, 0, none⟩ = some (.int .i64 r.turns) ∧ w'.cell? ⟨w.heap.size, 1, none⟩ = some (.int .i64 r.seconds) ∧ w'.cell? ⟨w.heap.size, 2, none⟩ = some (.int .i64 r.speaking) ∧ w'.cell? ⟨w.heap.size, 3, none⟩ = some (.slice a3 n3 c3) ∧ w'.cell? ⟨w.heap.size, 4, none⟩ = some (.slice a4 n4 c4) from fun w' hb => ⟨hbT.trans (hb.mono hbT.size), by rw [(B0.out.kept hb).cell 0, (B0.out.kept hb).cell 1, (B0.out.kept hb).cell 2, (B0.out.kept hb).cell 3, (B0.out.kept hb).cell 4]; exact ⟨rfl, rfl, rfl, rfl, rfl⟩⟩)
  go_upto_region 3 with fail
  clear q0 q1 q2 q3 q4
  have hB : Below w1.heap.size w1 w1.drew := (Below.refl _ _).drew
  refine wp_region_held_drew (S := fun w' => Below w.heap.size w w' ∧ w'.cell? ⟨w.heap.size, 0, none⟩ = some (.int .i64 r.turns) ∧ w'.cell? ⟨w.heap.size, 1, none⟩ = some (.int .i64 r.seconds) ∧ w'.cell? ⟨w.heap.size, 2, none⟩ = some (.int .i64 r.speaking) ∧ w'.cell? ⟨w.heap.size, 3, none⟩ = some (.slice a3 n3 c3) ∧ w'.cell? ⟨w.heap.size, 4, none⟩ = some (.slice a4 n4 c4)) (by kernel_rfl) (HK.out _ hB) (fun hHeld => ?_)
  generalize w1.drew = x0 at *
  refine wpAnyH_take (i := 0) (v := ?v1) rfl (by kernel_rfl) (by kernel_rfl) (by kernel_rfl) (fun _ _ _ h => h) (Or.inl ⟨by rfl, ?hy1⟩) (by assumption) ?rest1
  case hy1 => (intro wq hSw; (try dsimp only at hSw); go_split_ands; go_simp; (try with_reducible rfl))
  case rest1 =>
  refine wpAnyH_take (i := 1) (v := ?v2) rfl (by kernel_rfl) (by kernel_rfl) (by kernel_rfl) (fun _ _ _ h => h) (Or.inl ⟨by rfl, ?hy2⟩) (by assumption) ?rest2
  case hy2 => (intro wq hSw; (try dsimp only at hSw); go_split_ands; go_simp; (try with_reducible rfl))
  case rest2 =>
  refine wpAnyH_take (i := 2) (v := ?v3) rfl (by kernel_rfl) (by kernel_rfl) (by kernel_rfl) (fun _ _ _ h => h) (Or.inl ⟨by rfl, ?hy3⟩) (by assumption) ?rest3
  case hy3 => (intro wq hSw; (try dsimp only at hSw); go_split_ands; go_simp; (try with_reducible rfl))
  case rest3 =>
  refine wpAnyH_take (i := 3) (v := ?v4) rfl (by kernel_rfl) (by kernel_rfl) (by kernel_rfl) (fun _ _ _ h => h) (Or.inl ⟨by rfl, ?hy4⟩) (by assumption) ?rest4
  case hy4 => (intro wq hSw; (try dsimp only at hSw); go_split_ands; go_simp; (try with_reducible rfl))
  case rest4 =>
  refine wpAnyH_ready (rs := [4]) (by kernel_rfl) (by simp) ?_
  refine AllReadyH.cons rfl (fun K hK => ?step5) ?more5
  case step5 =>
    go_simp
    go_at_call 62
    refine (HSO.out _ hB).mono ?_
    rintro e x1 ⟨rfl, hbc⟩
    replace hB := hB.trans (hbc.mono hB.size)
    clear hbc
    go_wp2_with fail
    refine hK.out _ _ (HK.out _ hB) (fun hHeld => ?_)
    clear hK K
    refine wpAnyH_take (i := 5) (v := ?v6) rfl (by kernel_rfl) (by kernel_rfl) (by kernel_rfl) (fun _ _ _ h => h) (Or.inl ⟨by rfl, ?hy6⟩) (by assumption) ?rest6
    case hy6 => (intro wq hSw; (try dsimp only at hSw); go_split_ands; go_simp; (try with_reducible rfl))
    case rest6 =>
    refine wpAnyH_take (i := 6) (v := ?v7) rfl (by kernel_rfl) (by kernel_rfl) (by kernel_rfl) (fun _ _ _ h => h) (Or.inl ⟨by rfl, ?hy7⟩) (by assumption) ?rest7
    case hy7 => (intro wq hSw; (try dsimp only at hSw); go_split_ands; go_simp; (try with_reducible rfl))
    case rest7 =>
    refine wpAnyH_take (i := 7) (v := ?v8) rfl (by kernel_rfl) (by kernel_rfl) (by kernel_rfl) (fun _ _ _ h => h) (Or.inl ⟨by rfl, ?hy8⟩) (by assumption) ?rest8
    case hy8 => (intro wq hSw; (try dsimp only at hSw); go_split_ands; go_simp; (try with_reducible rfl))
    case rest8 =>
    refine wpAnyH_take (i := 8) (v := ?v9) rfl (by kernel_rfl) (by kernel_rfl) (by kernel_rfl) (fun _ _ _ h => h) (Or.inl ⟨by rfl, ?hy9⟩) (by assumption) ?rest9
    case hy9 => (intro wq hSw; (try dsimp only at hSw); go_split_ands; go_simp; (try with_reducible rfl))
    case rest9 =>
    refine wpAnyH_done (by kernel_rfl) ?_ _
    go_wp2_with fail
    all_goals
      go_ret2
      exact ⟨_, true, by go_simp, HA.out, hbT.trans (hB.mono hbT.size)⟩
  case more5 => exact AllReadyH.nil
end Go.Proofs.Ytjphhcmhangkkaa.SecondsLeftC
