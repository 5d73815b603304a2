/- Floors: those that wait, in the model: one left out; who is next. No condition. -/
import Derived.Test.YtmbffcblhhippaaFlO
namespace Go.Proofs.Ytmbffcblhhippaa.FlW
open Go.RowKit Bs Word Sq IntF Fl FlA FlG FlO
set_option linter.unusedVariables false
set_option maxRecDepth 100000 in
set_option maxHeartbeats 1600000 in
theorem l8Without (b o n c : Nat) (z : List Int) (k : Nat) (w : World) (h0 : IsS LInt.rec w (.slice (some ⟨b, o, none⟩) n c) z) (hk : k < n) (hl : n ≤ 1048577) :
    Calls Try.prog 45 #[.slice (some ⟨b, o, none⟩) n c, .int .i64 k] w fun e w' => ∃ v, e = .returned v ∧ Own LInt.rec 3 w' w.heap.size v (without z k) ∧ Below w.heap.size w w' := by
  obtain ⟨hn, hnc, hcm⟩ := isq_len (T := LInt.rec) (.inr h0)
  unfold maxLen at hcm
  have HN := Lib.hid hn
  have HF1 := Lib.hid (show ∀ w' : World, Below w.heap.size w w' → Feeds w' (some ⟨b, o, none⟩) k c (flat LInt.rec (z.take k)) from fun w' hb => (IsQ.src (T := LInt.rec) (.inr ((h0.below LInt.rec hb).take LInt.rec (k := k) (by omega)))).1)
  obtain ⟨oD, hoD⟩ : ∃ oD, (if c = k + 1 then some (⟨b, o, none⟩ : Addr) else some ⟨b, o + (k + 1), none⟩) = some ⟨b, oD, none⟩ := by
    by_cases h : c = k + 1
    · exact ⟨_, if_pos h⟩
    · exact ⟨_, if_neg h⟩
  have HF2 := Lib.hid (show ∀ w' : World, Below w.heap.size w w' → Feeds w' (some ⟨b, oD, none⟩) (n - (k + 1)) (c - (k + 1)) (flat LInt.rec (z.drop (k + 1))) from fun w' hb =>
    (IsQ.src (T := LInt.rec) (.inr ((h0.below LInt.rec hb).drop LInt.rec (k := k + 1) (some ⟨b, oD, none⟩) (by rw [show LInt.rec.n = 1 from rfl, Nat.mul_one]; exact hoD.symm) (by omega) _ _ rfl rfl))).1)
  obtain ⟨i1, hi, hz0, hz1, hz2⟩ := info_parts LInt.infoK
  have HI1 := Lib.hid hi
  have HZ1 := Lib.hid (And.intro hz0 (And.intro hz1 hz2))
  clear hi hz0 hz1 hz2
  have k0 : 0 ≤ (k : Int) := by omega
  have k1 : (k : Int) ≤ (c : Int) := by omega
  have s1 : IntKind.i64.wrap ((k : Int) + 1) = (k : Int) + 1 := IntWalk.i64_in _ (by omega)
  have s5 : (k : Int) + 1 ≤ (n : Int) := by omega
  have s6 : (k : Int) + 1 ≤ (c : Int) := by omega
  have s7 : ((k : Int) + 1).toNat = k + 1 := by omega
  have s8 : (0 : Int) ≤ (k : Int) + 1 := by omega
  have HK := Lib.hid (show ∀ w' : World, Below w.heap.size w w' → Below w.heap.size w w' from fun w' hb => hb)
  clear h0 hn
  go_enter Try.func45, Try.ntmps45
  go_upto_region 1 with fail
  have hB : Below w.heap.size w w.drew := (Below.refl _ _).drew
  refine wp_region_held_drew (S := fun w' => Below w.heap.size w w') (by kernel_rfl) (HK.out _ hB) (fun hHeld => ?_)
  generalize w.drew = x0 at *
  refine wpAnyH_take (i := 1) (v := ?v1) rfl (by kernel_rfl) (by kernel_rfl) (by kernel_rfl) (fun _ _ _ h => h) (Or.inl ⟨by rfl, ?hy1⟩) (by assumption) ?rest1
  case hy1 => (intro wq hSw; (try dsimp only at hSw); go_split_ands; go_simp; (try with_reducible rfl))
  case rest1 =>
  refine wpAnyH_take (i := 2) (v := ?v2) rfl (by kernel_rfl) (by kernel_rfl) (by kernel_rfl) (fun _ _ _ h => h) (Or.inl ⟨by rfl, ?hy2⟩) (by assumption) ?rest2
  case hy2 => (intro wq hSw; (try dsimp only at hSw); go_split_ands; go_simp; (try with_reducible rfl))
  case rest2 =>
  refine wpAnyH_take (i := 3) (v := ?v3) rfl (by kernel_rfl) (by kernel_rfl) (by kernel_rfl) (fun _ _ _ h => h) (Or.inl ⟨by rfl, ?hy3⟩) (by assumption) ?rest3
  case hy3 => (intro wq hSw; (try dsimp only at hSw); go_split_ands; go_simp; (try with_reducible rfl))
  case rest3 =>
  refine wpAnyH_take (i := 5) (v := ?v4) rfl (by kernel_rfl) (by kernel_rfl) (by kernel_rfl) (fun _ _ _ h => h) (Or.inl ⟨by rfl, ?hy4⟩) (by assumption) ?rest4
  case hy4 => (intro wq hSw; (try dsimp only at hSw); go_split_ands; go_simp; (try with_reducible rfl))
  case rest4 =>
  refine wpAnyH_take (i := 6) (v := ?v5) rfl (by kernel_rfl) (by kernel_rfl) (by kernel_rfl) (fun _ _ _ h => h) (Or.inl ⟨by rfl, ?hy5⟩) (by assumption) ?rest5
  case hy5 => (intro wq hSw; (try dsimp only at hSw); go_split_ands; go_simp; (try with_reducible rfl))
  case rest5 =>
  refine wpAnyH_take (i := 7) (v := ?v6) rfl (by kernel_rfl) (by kernel_rfl) (by kernel_rfl) (fun _ _ _ h => h) (Or.inl ⟨by rfl, ?hy6⟩) (by assumption) ?rest6
  case hy6 => (intro wq hSw; (try dsimp only at hSw); go_split_ands; go_simp; (try with_reducible rfl))
  case rest6 =>
  refine wpAnyH_take (i := 8) (v := ?v7) rfl (by kernel_rfl) (by kernel_rfl) (by kernel_rfl) (fun _ _ _ h => h) (Or.inl ⟨by rfl, ?hy7⟩) (by assumption) ?rest7
  case hy7 => (intro wq hSw; (try dsimp only at hSw); go_split_ands; go_simp; (try with_reducible rfl))
  case rest7 =>
  refine wpAnyH_ready (rs := [0]) (by kernel_rfl) (by simp) ?_
  refine AllReadyH.cons rfl (fun K hK => ?step8) ?more8
  case step8 =>
    go_simp
    refine hK.out _ _ (HK.out _ (hB.alloc hB.size _)) (fun hHeld => ?_)
    clear hK K
    have hO1 : Own LInt.rec 3 (x0.alloc (Obj.cells #[] 3)) w.heap.size (.slice (some ⟨x0.heap.size, 0, none⟩) 0 0) [] := own_start hB.size
    replace hB := hB.alloc hB.size (Obj.cells #[] 3)
    generalize x0.alloc (Obj.cells #[] 3) = x1 at *
    generalize x0.heap.size = g1x1 at *
    refine wpAnyH_ready (rs := [4]) (by kernel_rfl) (by simp) ?_
    refine AllReadyH.cons rfl (fun K hK => ?step9) ?more9
    case step9 =>
      refine step_append_o (T := LInt.rec) (by rfl) (.tmp 5) (.tmp 8) 22 (by rfl) w.heap.size 3 i1 (.int .i64 0) 8 Try.underlying22 HI1.out HZ1.out.1 HZ1.out.2.1 HZ1.out.2.2 (by decide) _ _ (by rfl) hO1 (some ⟨b, o, none⟩) (k) (c) (z.take k) (by rfl) (by rw [List.length_take]; have := HN.out; omega) (HF1.out _ hB) (by simp; unfold maxLen; omega) (by simp; omega) hB.size ?_
      intro vx2 x2 hown hgrow hnn hat
      have hB2 := below_grown hB hgrow hB.size (fun k hk => (hO1.lt k hk).1)
      refine hK.out _ _ (HK.out _ hB2) (fun hHeld => ?_)
      clear hK K
      clear hO1 hB hgrow hat hnn
      have hO1 := hown
      have hB := hB2
      clear hown hB2
      refine wpAnyH_ready (rs := [9]) (by kernel_rfl) (by simp) ?_
      refine AllReadyH.cons rfl (fun K hK => ?step10) ?more10
      case step10 =>
        refine step_append_o (T := LInt.rec) (by rfl) (.tmp 9) (.tmp 13) 22 (by rfl) w.heap.size 3 i1 (.int .i64 0) 8 Try.underlying22 HI1.out HZ1.out.1 HZ1.out.2.1 HZ1.out.2.2 (by decide) _ _ (by rfl) hO1 (some ⟨b, oD, none⟩) (n - (k + 1)) (c - (k + 1)) (z.drop (k + 1)) (by rfl) (by rw [List.length_drop]; have := HN.out; omega) (HF2.out _ hB) (by simp; unfold maxLen; omega) (by simp; omega) hB.size ?_
        intro vx3 x3 hown hgrow hnn hat
        have hB2 := below_grown hB hgrow hB.size (fun k hk => (hO1.lt k hk).1)
        refine hK.out _ _ (HK.out _ hB2) (fun hHeld => ?_)
        clear hK K
        clear hO1 hB hgrow hat hnn
        have hO1 := hown
        have hB := hB2
        clear hown hB2
        refine wpAnyH_take (i := 10) (v := ?v11) rfl (by kernel_rfl) (by kernel_rfl) (by kernel_rfl) (fun _ _ _ h => h) (Or.inl ⟨by rfl, ?hy11⟩) (by assumption) ?rest11
        case hy11 => (intro wq hSw; (try dsimp only at hSw); go_split_ands; go_simp; (try with_reducible rfl))
        case rest11 =>
        refine wpAnyH_done (by kernel_rfl) ?_ _
        go_wp2_with fail
        all_goals
          go_ret
          exact ⟨vx3, by go_simp, by unfold without; simpa using hO1, hB⟩
      case more10 => exact AllReadyH.nil
    case more9 => exact AllReadyH.nil
  case more8 => exact AllReadyH.nil
/-- how many turns a member has finished -/
def key (r : F) (m : Int) : Int := (share r.shares m).turns
set_option maxRecDepth 100000 in
set_option maxHeartbeats 1600000 in
theorem l8Next (v0 : Value) (r : F) (w : World) (h0 : LFloor.Is w v0 r) (hn0 : 0 < r.waiting.length) :
    Calls Try.prog 44 #[v0] w fun e w' => ∃ b : Nat, e = .returned (.int .i64 b) ∧ Best (key r) r.waiting r.waiting.length b ∧ Below w.heap.size w w' := by
  obtain ⟨a3, n3, c3, a4, n4, c4, rfl, HN3, HN4, hb3, hb4, hm3, hm4, hc3, hc4, HI⟩ := open_is h0
  clear h0
  obtain ⟨W, hW⟩ : ∃ W : World, W = w.alloc (Obj.cells #[.int .i64 r.turns, .int .i64 r.seconds, .int .i64 r.speaking, .slice a3 n3 c3, .slice a4 n4 c4] 29) := ⟨_, rfl⟩
  have hb : Below w.heap.size w W := by rw [hW]; exact (Below.refl _ _).alloc (Nat.le_refl _) _
  have B0 := Lib.hid (show Bx W w.heap.size 29 #[.int .i64 r.turns, .int .i64 r.seconds, .int .i64 r.speaking, .slice a3 n3 c3, .slice a4 n4 c4] by rw [hW]; exact Bx.new _ _ _)
  have HIW := Lib.hid (LFloor.Is.below HI.out hb)
  have hn3 : 0 < n3 := by have := HN3.out; omega
  have HB1 := Lib.hid (best_one (key := key r) hn0)
  clear hn0
  go_enter Try.func44, Try.ntmps44
  go_wp2_with fail
  rw [← hW]
  clear hW
  go_loopw [3, 4] (fun s3 s4 wr => ∃ bb i : Nat, s3 = .int .i64 bb ∧ s4 = .int .i64 i ∧ 1 ≤ i ∧ i ≤ n3 ∧ Below W.heap.size W wr ∧ Hid (Best (key r) r.waiting i bb)) (fun _ s4 _ => n3 - (intOf s4).toNat)
  case atStart => exact ⟨0, 1, rfl, rfl, Nat.le_refl _, hn3, Below.refl _ _, HB1⟩
  case round =>
    clear HB1
    obtain ⟨bb, i, rfl, rfl, hi1, hin, hbr, HB⟩ := hrel
    have B1 := Lib.hid (B0.out.kept hbr)
    have hb3' := hb.trans (hbr.mono hb.size)
    have q0 := B1.out.cell 0
    have q1 := B1.out.cell 1
    have q2 := B1.out.cell 2
    have q3 := B1.out.cell 3
    have q4 := B1.out.cell 4
    simp only [List.getElem?_toArray, List.getElem?_cons_zero, List.getElem?_cons_succ] at q0 q1 q2 q3 q4
    by_cases hlt : i < n3
    · have hx : i < r.waiting.length := by have := HN3.out; omega
      have hy : bb < r.waiting.length := best_lt HB.out
      have hbi : bb < i := HB.out.choose_spec.2.1
      obtain ⟨b, o, rfl, hbl, hcell0⟩ := hc3.out i r.waiting[i] (List.getElem?_eq_getElem hx)
      obtain ⟨b', o', he, hbl', hcell1⟩ := hc3.out bb r.waiting[bb] (List.getElem?_eq_getElem hy)
      simp only [Option.some.injEq, Addr.mk.injEq, and_true] at he
      obtain ⟨rfl, rfl⟩ := he
      have x0' := LInt.cells (hcell0.below LInt.rec hb3' hbl)
      have y0' := LInt.cells (hcell1.below LInt.rec hb3' hbl)
      simp only [LInt.rec_n, Nat.mul_one] at x0' y0'
      have HX := Lib.hid (List.getElem?_eq_getElem hx)
      have HY := Lib.hid (List.getElem?_eq_getElem hy)
      clear hcell0 hcell1 hbl'
      have hbw : b < wr.heap.size := Nat.lt_of_lt_of_le hbl hb3'.size
      generalize r.waiting[i] = x at *
      generalize r.waiting[bb] = y at *
      have HSH := Lib.hid (show ∀ (m : Int) (w' : World), Below wr.heap.size wr w' → _ from fun m w' hB => l8Share _ r m w' (LFloor.Is.below HI.out (hb3'.trans (hB.mono hb3'.size))))
      have hfd := fun m W => field_turns (share r.shares m) W
      have i0 : 0 ≤ (i : Int) := by omega
      have i1 : (i : Int) < (n3 : Int) := by omega
      have j0 : 0 ≤ (bb : Int) := by omega
      have j1 : (bb : Int) < (n3 : Int) := by omega
      have hPl := B1.out.lt
      have HK := Lib.hid (show ∀ w' : World, Below wr.heap.size wr w' → Below wr.heap.size wr w' ∧ w'.cell? ⟨w.heap.size, 0, none⟩ = some (.int .i64 r.turns) ∧ w'.cell? ⟨w.heap.size, 1, none⟩ = some (.int .i64 r.seconds) ∧ w'.cell? ⟨w.heap.size, 2, none⟩ = some (.int .i64 r.speaking) ∧ w'.cell? ⟨w.heap.size, 3, none⟩ = some (.slice (some ⟨b, o, none⟩) n3 c3) ∧ w'.cell? ⟨w.heap.size, 4, none⟩ = some (.slice a4 n4 c4) ∧ w'.cell? ⟨b, o + i, none⟩ = some (.int .i64 x) ∧ w'.cell? ⟨b, o + bb, none⟩ = some (.int .i64 y) from fun w' hb => ⟨hb, by rw [hb.cell (by assumption)]; exact q0, by rw [hb.cell (by assumption)]; exact q1, by rw [hb.cell (by assumption)]; exact q2, by rw [hb.cell (by assumption)]; exact q3, by rw [hb.cell (by assumption)]; exact q4, by rw [hb.cell (by assumption)]; exact x0', by rw [hb.cell (by assumption)]; exact y0'⟩)
      go_upto_region 5 with fail
      go_cut [28] (fun t wx => t = .bool (decide (key r x < key r y)) ∧ Below wr.heap.size wr wx)
      case first =>
        have hB : Below wr.heap.size wr wr.drew := (Below.refl _ _).drew
        refine wp_region_held_drew (S := fun w' => Below wr.heap.size wr w' ∧ w'.cell? ⟨w.heap.size, 0, none⟩ = some (.int .i64 r.turns) ∧ w'.cell? ⟨w.heap.size, 1, none⟩ = some (.int .i64 r.seconds) ∧ w'.cell? ⟨w.heap.size, 2, none⟩ = some (.int .i64 r.speaking) ∧ w'.cell? ⟨w.heap.size, 3, none⟩ = some (.slice (some ⟨b, o, none⟩) n3 c3) ∧ w'.cell? ⟨w.heap.size, 4, none⟩ = some (.slice a4 n4 c4) ∧ w'.cell? ⟨b, o + i, none⟩ = some (.int .i64 x) ∧ w'.cell? ⟨b, o + bb, none⟩ = some (.int .i64 y)) (by kernel_rfl) (HK.out _ hB) (fun hHeld => ?_)
        generalize wr.drew = x0 at *
        refine wpAnyH_take (i := 0) (v := ?v1) rfl (by kernel_rfl) (by kernel_rfl) (by kernel_rfl) (fun _ _ _ h => h) (Or.inl ⟨by rfl, ?hy1⟩) (by assumption) ?rest1
        case hy1 => (intro wq hSw; (try dsimp only at hSw); go_split_ands; go_simp; (try with_reducible rfl))
        case rest1 =>
        refine wpAnyH_take (i := 1) (v := ?v2) rfl (by kernel_rfl) (by kernel_rfl) (by kernel_rfl) (fun _ _ _ h => h) (Or.inl ⟨by rfl, ?hy2⟩) (by assumption) ?rest2
        case hy2 => (intro wq hSw; (try dsimp only at hSw); go_split_ands; go_simp; (try with_reducible rfl))
        case rest2 =>
        refine wpAnyH_take (i := 2) (v := ?v3) rfl (by kernel_rfl) (by kernel_rfl) (by kernel_rfl) (fun _ _ _ h => h) (Or.inl ⟨by rfl, ?hy3⟩) (by assumption) ?rest3
        case hy3 => (intro wq hSw; (try dsimp only at hSw); go_split_ands; go_simp; (try with_reducible rfl))
        case rest3 =>
        refine wpAnyH_take (i := 3) (v := ?v4) rfl (by kernel_rfl) (by kernel_rfl) (by kernel_rfl) (fun _ _ _ h => h) (Or.inl ⟨by rfl, ?hy4⟩) (by assumption) ?rest4
        case hy4 => (intro wq hSw; (try dsimp only at hSw); go_split_ands; go_simp; (try with_reducible rfl))
        case rest4 =>
        refine wpAnyH_take (i := 4) (v := ?v5) rfl (by kernel_rfl) (by kernel_rfl) (by kernel_rfl) (fun _ _ _ h => h) (Or.inl ⟨by rfl, ?hy5⟩) (by assumption) ?rest5
        case hy5 => (intro wq hSw; (try dsimp only at hSw); go_split_ands; go_simp; (try with_reducible rfl))
        case rest5 =>
        refine wpAnyH_take (i := 5) (v := ?v6) rfl (by kernel_rfl) (by kernel_rfl) (by kernel_rfl) (fun _ _ _ h => h) (Or.inl ⟨by rfl, ?hy6⟩) (by assumption) ?rest6
        case hy6 => (intro wq hSw; (try dsimp only at hSw); go_split_ands; go_simp; (try with_reducible rfl))
        case rest6 =>
        refine wpAnyH_take (i := 8) (v := ?v7) rfl (by kernel_rfl) (by kernel_rfl) (by kernel_rfl) (fun _ _ _ h => h) (Or.inl ⟨by rfl, ?hy7⟩) (by assumption) ?rest7
        case hy7 => (intro wq hSw; (try dsimp only at hSw); go_split_ands; go_simp; (try with_reducible rfl))
        case rest7 =>
        refine wpAnyH_take (i := 9) (v := ?v8) rfl (by kernel_rfl) (by kernel_rfl) (by kernel_rfl) (fun _ _ _ h => h) (Or.inl ⟨by rfl, ?hy8⟩) (by assumption) ?rest8
        case hy8 => (intro wq hSw; (try dsimp only at hSw); go_split_ands; go_simp; (try with_reducible rfl))
        case rest8 =>
        refine wpAnyH_take (i := 10) (v := ?v9) rfl (by kernel_rfl) (by kernel_rfl) (by kernel_rfl) (fun _ _ _ h => h) (Or.inl ⟨by rfl, ?hy9⟩) (by assumption) ?rest9
        case hy9 => (intro wq hSw; (try dsimp only at hSw); go_split_ands; go_simp; (try with_reducible rfl))
        case rest9 =>
        refine wpAnyH_take (i := 11) (v := ?v10) rfl (by kernel_rfl) (by kernel_rfl) (by kernel_rfl) (fun _ _ _ h => h) (Or.inl ⟨by rfl, ?hy10⟩) (by assumption) ?rest10
        case hy10 => (intro wq hSw; (try dsimp only at hSw); go_split_ands; go_simp; (try with_reducible rfl))
        case rest10 =>
        refine wpAnyH_take (i := 12) (v := ?v11) rfl (by kernel_rfl) (by kernel_rfl) (by kernel_rfl) (fun _ _ _ h => h) (Or.inl ⟨by rfl, ?hy11⟩) (by assumption) ?rest11
        case hy11 => (intro wq hSw; (try dsimp only at hSw); go_split_ands; go_simp; (try with_reducible rfl))
        case rest11 =>
        refine wpAnyH_take (i := 13) (v := ?v12) rfl (by kernel_rfl) (by kernel_rfl) (by kernel_rfl) (fun _ _ _ h => h) (Or.inl ⟨by rfl, ?hy12⟩) (by assumption) ?rest12
        case hy12 => (intro wq hSw; (try dsimp only at hSw); go_split_ands; go_simp; (try with_reducible rfl))
        case rest12 =>
        refine wpAnyH_ready (rs := [6]) (by kernel_rfl) (by simp) ?_
        refine AllReadyH.cons rfl (fun K hK => ?step13) ?more13
        case step13 =>
          go_simp
          go_at_call 48
          refine (HSH.out x _ hB).mono ?_
          rintro e x1 ⟨rfl, hbc⟩
          replace hB := hB.trans (hbc.mono hB.size)
          clear hbc
          go_wp2_with fail
          refine hK.out _ _ (HK.out _ hB) (fun hHeld => ?_)
          clear hK K
          refine wpAnyH_take (i := 7) (v := ?v14) rfl (by kernel_rfl) (by kernel_rfl) (by kernel_rfl) (fun _ _ _ h => h) (Or.inl ⟨by rfl, ?hy14⟩) (by assumption) ?rest14
          case hy14 => (intro wq hSw; (try dsimp only at hSw); go_split_ands; go_simp; (try with_reducible rfl))
          case rest14 =>
          refine wpAnyH_ready (rs := [14]) (by kernel_rfl) (by simp) ?_
          refine AllReadyH.cons rfl (fun K hK => ?step15) ?more15
          case step15 =>
            go_simp
            go_at_call 48
            refine (HSH.out y _ hB).mono ?_
            rintro e x2 ⟨rfl, hbc⟩
            replace hB := hB.trans (hbc.mono hB.size)
            clear hbc
            go_wp2_with fail
            refine hK.out _ _ (HK.out _ hB) (fun hHeld => ?_)
            clear hK K
            refine wpAnyH_take (i := 15) (v := ?v16) rfl (by kernel_rfl) (by kernel_rfl) (by kernel_rfl) (fun _ _ _ h => h) (Or.inl ⟨by rfl, ?hy16⟩) (by assumption) ?rest16
            case hy16 => (intro wq hSw; (try dsimp only at hSw); go_split_ands; go_simp; (try with_reducible rfl))
            case rest16 =>
            refine wpAnyH_take (i := 16) (v := ?v17) rfl (by kernel_rfl) (by kernel_rfl) (by kernel_rfl) (fun _ _ _ h => h) (Or.inl ⟨by rfl, ?hy17⟩) (by assumption) ?rest17
            case hy17 => (intro wq hSw; (try dsimp only at hSw); go_split_ands; go_simp; (try with_reducible rfl))
            case rest17 =>
            refine wpAnyH_done (by kernel_rfl) ?_ _
            go_wp2_with fail
            all_goals
              go_meet
              exact ⟨rfl, hB⟩
          case more15 => exact AllReadyH.nil
        case more13 => exact AllReadyH.nil
      case rest =>
        obtain ⟨rfl, hbv⟩ := hcut
        have hb2 := hbr.trans (hbv.mono hbr.size)
        by_cases hl : key r x < key r y
        · have HN := Lib.hid (best_new HB.out HX.out HY.out hl)
          go_wp2_with fail
          go_roundw
          case rel => exact ⟨i, i + 1, rfl, by go_num, by omega, by omega, hb2, HN⟩
          case measure => simp [intOf]; omega
        · have HN := Lib.hid (best_old HB.out HX.out HY.out hl)
          go_wp2_with fail
          go_roundw
          case rel => exact ⟨bb, i + 1, rfl, by go_num, by omega, by omega, hb2, HN⟩
          case measure => simp [intOf]; omega
    · obtain rfl : i = n3 := by omega
      have HE := Lib.hid (show Best (key r) r.waiting r.waiting.length bb by rw [HN3.out]; exact HB.out)
      go_wp2_with fail
      go_ret
      exact ⟨bb, rfl, HE.out, hb3'⟩
end Go.Proofs.Ytmbffcblhhippaa.FlW
