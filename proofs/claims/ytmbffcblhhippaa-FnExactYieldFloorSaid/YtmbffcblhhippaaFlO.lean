/- Floors: copies made by the model. No condition. -/
import Derived.Test.YtmbffcblhhippaaFlG
import Derived.Test.YtmbffcblhhippaaAppO
import Derived.Test.YtmbffcblhhippaaJ1
import Derived.Test.YtmbffcblhhippaaLShareK
namespace Go.Proofs.Ytmbffcblhhippaa.FlO
open Go.RowKit Bs Word Sq IntF Fl FlA FlG
set_option linter.unusedVariables false
theorem open_isq {w : World} {v : Value} {r : F} (h : LFloor.IsQ w v r) : ∃ (a3 : Option Addr) (n3 c3 : Nat) (a4 : Option Addr) (n4 c4 : Nat), v = .agg #[.int .i64 r.turns, .int .i64 r.seconds, .int .i64 r.speaking, .slice a3 n3 c3, .slice a4 n4 c4] ∧ Hid (r.waiting.length = n3) ∧ Hid (r.shares.length = n4) ∧ n3 ≤ c3 ∧ n4 ≤ c4 ∧ c3 ≤ 9223372036854775807 ∧ c4 ≤ 9223372036854775807 ∧
    Hid (∀ w' : World, Below w.heap.size w w' → IsQ LInt.rec w' (.slice a3 n3 c3) r.waiting) ∧ Hid (∀ w' : World, Below w.heap.size w w' → IsQ LShare.rec w' (.slice a4 n4 c4) r.shares) ∧
    Hid (LFloor.IsQ w (.agg #[.int .i64 r.turns, .int .i64 r.seconds, .int .i64 r.speaking, .slice a3 n3 c3, .slice a4 n4 c4]) r) := by
  have h0 := h
  obtain ⟨s3, s4, rfl, h3, h4⟩ := h
  obtain ⟨a3, n3, c3, rfl⟩ := isq_slice h3
  obtain ⟨a4, n4, c4, rfl⟩ := isq_slice h4
  have m3 := isq_len h3
  have m4 := isq_len h4
  unfold maxLen at m3 m4
  exact ⟨a3, n3, c3, a4, n4, c4, rfl, Lib.hid m3.1, Lib.hid m4.1, m3.2.1, m4.2.1, by omega, by omega, Lib.hid (fun w' hb => h3.below hb), Lib.hid (fun w' hb => h4.below hb), Lib.hid h0⟩
set_option maxRecDepth 100000 in
set_option maxHeartbeats 1600000 in
theorem l1Own (v0 : Value) (z0 : List Int) (w : World) (h0 : IsQ LInt.rec w v0 z0) (hl : z0.length ≤ 1048577) :
    Calls Try.prog 60 #[v0] w fun e w' => ∃ v, e = .returned v ∧ Own LInt.rec 3 w' w.heap.size v z0 ∧ Below w.heap.size w w' := by
  obtain ⟨ao, n, c, rfl⟩ := isq_slice h0
  have hn := (isq_len h0).1
  have HN := Lib.hid hn
  have hnl : n ≤ 1048577 := by omega
  have HS := Lib.hid (show ∀ w' : World, Below w.heap.size w w' → Feeds w' ao n c (flat LInt.rec z0) from fun w' hb => (h0.below hb).src.1)
  clear h0 hn hl
  obtain ⟨i0, hi, hz0, hz1, hz2⟩ := info_parts LInt.infoK
  have HI0 := Lib.hid hi
  have HZ0 := Lib.hid (And.intro hz0 (And.intro hz1 hz2))
  clear hi hz0 hz1 hz2
  go_enter Try.func60, Try.ntmps60
  go_wp2_with (at_builtin; refine wpList_append_o (T := LInt.rec) _ rfl (.tmp 3) (.tmp 4) 22 rfl w.heap.size 3 i0 (.int .i64 0) 8 Try.underlying22 HI0.out HZ0.out.1 HZ0.out.2.1 HZ0.out.2.2 rfl _ _ rfl (own_start (Nat.le_refl _)) ao n c z0 rfl HN.out (HS.out _ ((Below.refl _ _).alloc (Nat.le_refl _) _)) (by simp; unfold maxLen; omega) (by simp; omega) (by simp) ?_; intro v' w1 hown hgrow hnn hat)
  have hb : Below w.heap.size w w1 := below_grown ((Below.refl _ _).alloc (Nat.le_refl _) _) hgrow (by simp) (fun k hk => by cases hk; exact Nat.le_refl _)
  rw [List.nil_append] at hown
  have HO := Lib.hid hown
  clear hown hgrow hnn hat
  go_wp2_with fail
  go_ret
  exact ⟨_, rfl, HO.out, hb⟩
set_option maxRecDepth 100000 in
set_option maxHeartbeats 1600000 in
theorem l8Own (v0 : Value) (r : F) (w : World) (h0 : LFloor.IsQ w v0 r) (hl3 : r.waiting.length ≤ 1048577) (hl4 : r.shares.length ≤ 1048577) :
    Calls Try.prog 35 #[v0] w fun e w' => ∃ v, e = .returned v ∧ LFloor.Own w' w.heap.size v r ∧ Below w.heap.size w w' := by
  obtain ⟨a3, n3, c3, a4, n4, c4, rfl, HN3, HN4, hb3, hb4, hm3, hm4, HQ3, HQ4, HIQ⟩ := open_isq h0
  clear h0
  have HI := Lib.hid (LFloor.IsQ.is HIQ.out)
  have hl3' : n3 ≤ 1048577 := by have := HN3.out; omega
  have hl4' : n4 ≤ 1048577 := by have := HN4.out; omega
  clear hl3 hl4
  obtain ⟨i4, hi, hz0, hz1, hz2⟩ := info_parts LShare.infoK
  have HI4 := Lib.hid hi
  have HZ4 := Lib.hid (And.intro hz0 (And.intro hz1 hz2))
  clear hi hz0 hz1 hz2
  obtain ⟨W, hW⟩ : ∃ W : World, W = (w.alloc (Obj.cells #[.int .i64 r.turns, .int .i64 r.seconds, .int .i64 r.speaking, .slice a3 n3 c3, .slice a4 n4 c4] 29)).alloc (.cells #[.int .i64 0, .int .i64 0, .int .i64 0, .slice none 0 0, .slice none 0 0] 29) := ⟨_, rfl⟩
  have hbW : Below w.heap.size w W := by rw [hW]; exact ((Below.refl _ _).alloc (Nat.le_refl _) _).alloc (by simp) _
  have HZ := Lib.hid (show w.heap.size + 1 < W.heap.size by rw [hW]; simp)
  have B0 := Lib.hid (show Bx W w.heap.size 29 #[.int .i64 r.turns, .int .i64 r.seconds, .int .i64 r.speaking, .slice a3 n3 c3, .slice a4 n4 c4] by rw [hW]; exact (Bx.new _ _ _).alloc _)
  have BR := Lib.hid (show Bx W (w.heap.size + 1) 29 #[.int .i64 0, .int .i64 0, .int .i64 0, .slice none 0 0, .slice none 0 0] by rw [hW]; have := Bx.new (w.alloc (Obj.cells #[.int .i64 r.turns, .int .i64 r.seconds, .int .i64 r.speaking, .slice a3 n3 c3, .slice a4 n4 c4] 29)) 29 #[.int .i64 0, .int .i64 0, .int .i64 0, .slice none 0 0, .slice none 0 0]; simpa using this)
  have HK := Lib.hid (show ∀ w' : World, Below W.heap.size W w' → Below w.heap.size w w' ∧ w'.cell? ⟨w.heap.size, 0, none⟩ = some (.int .i64 r.turns) ∧ w'.cell? ⟨w.heap.size, 1, none⟩ = some (.int .i64 r.seconds) ∧ w'.cell? ⟨w.heap.size, 2, none⟩ = some (.int .i64 r.speaking) ∧ w'.cell? ⟨w.heap.size, 3, none⟩ = some (.slice a3 n3 c3) ∧ w'.cell? ⟨w.heap.size, 4, none⟩ = some (.slice a4 n4 c4) from fun w' hb => ⟨hbW.trans (hb.mono hbW.size), by rw [(B0.out.kept hb).cell 0, (B0.out.kept hb).cell 1, (B0.out.kept hb).cell 2, (B0.out.kept hb).cell 3, (B0.out.kept hb).cell 4]; exact ⟨rfl, rfl, rfl, rfl, rfl⟩⟩)
  go_enter Try.func35, Try.ntmps35
  go_upto_region 1 with fail
  rw [← hW]
  clear hW
  have hB : Below W.heap.size W W.drew := (Below.refl _ _).drew
  refine wp_region_held_drew (S := fun w' => Below w.heap.size w w' ∧ w'.cell? ⟨w.heap.size, 0, none⟩ = some (.int .i64 r.turns) ∧ w'.cell? ⟨w.heap.size, 1, none⟩ = some (.int .i64 r.seconds) ∧ w'.cell? ⟨w.heap.size, 2, none⟩ = some (.int .i64 r.speaking) ∧ w'.cell? ⟨w.heap.size, 3, none⟩ = some (.slice a3 n3 c3) ∧ w'.cell? ⟨w.heap.size, 4, none⟩ = some (.slice a4 n4 c4)) (by kernel_rfl) (HK.out _ hB) (fun hHeld => ?_)
  generalize W.drew = x0 at *
  refine wpAnyH_take (i := 0) (v := ?v1) rfl (by kernel_rfl) (by kernel_rfl) (by kernel_rfl) (fun _ _ _ h => h) (Or.inl ⟨by rfl, ?hy1⟩) (by assumption) ?rest1
  case hy1 => (intro wq hSw; (try dsimp only at hSw); go_split_ands; go_simp; (try with_reducible rfl))
  case rest1 =>
  refine wpAnyH_take (i := 1) (v := ?v2) rfl (by kernel_rfl) (by kernel_rfl) (by kernel_rfl) (fun _ _ _ h => h) (Or.inl ⟨by rfl, ?hy2⟩) (by assumption) ?rest2
  case hy2 => (intro wq hSw; (try dsimp only at hSw); go_split_ands; go_simp; (try with_reducible rfl))
  case rest2 =>
  refine wpAnyH_take (i := 2) (v := ?v3) rfl (by kernel_rfl) (by kernel_rfl) (by kernel_rfl) (fun _ _ _ h => h) (Or.inl ⟨by rfl, ?hy3⟩) (by assumption) ?rest3
  case hy3 => (intro wq hSw; (try dsimp only at hSw); go_split_ands; go_simp; (try with_reducible rfl))
  case rest3 =>
  refine wpAnyH_take (i := 3) (v := ?v4) rfl (by kernel_rfl) (by kernel_rfl) (by kernel_rfl) (fun _ _ _ h => h) (Or.inl ⟨by rfl, ?hy4⟩) (by assumption) ?rest4
  case hy4 => (intro wq hSw; (try dsimp only at hSw); go_split_ands; go_simp; (try with_reducible rfl))
  case rest4 =>
  refine wpAnyH_take (i := 4) (v := ?v5) rfl (by kernel_rfl) (by kernel_rfl) (by kernel_rfl) (fun _ _ _ h => h) (Or.inl ⟨by rfl, ?hy5⟩) (by assumption) ?rest5
  case hy5 => (intro wq hSw; (try dsimp only at hSw); go_split_ands; go_simp; (try with_reducible rfl))
  case rest5 =>
  refine wpAnyH_take (i := 5) (v := ?v6) rfl (by kernel_rfl) (by kernel_rfl) (by kernel_rfl) (fun _ _ _ h => h) (Or.inl ⟨by rfl, ?hy6⟩) (by assumption) ?rest6
  case hy6 => (intro wq hSw; (try dsimp only at hSw); go_split_ands; go_simp; (try with_reducible rfl))
  case rest6 =>
  refine wpAnyH_take (i := 6) (v := ?v7) rfl (by kernel_rfl) (by kernel_rfl) (by kernel_rfl) (fun _ _ _ h => h) (Or.inl ⟨by rfl, ?hy7⟩) (by assumption) ?rest7
  case hy7 => (intro wq hSw; (try dsimp only at hSw); go_split_ands; go_simp; (try with_reducible rfl))
  case rest7 =>
  refine wpAnyH_take (i := 7) (v := ?v8) rfl (by kernel_rfl) (by kernel_rfl) (by kernel_rfl) (fun _ _ _ h => h) (Or.inl ⟨by rfl, ?hy8⟩) (by assumption) ?rest8
  case hy8 => (intro wq hSw; (try dsimp only at hSw); go_split_ands; go_simp; (try with_reducible rfl))
  case rest8 =>
  refine wpAnyH_take (i := 10) (v := ?v9) rfl (by kernel_rfl) (by kernel_rfl) (by kernel_rfl) (fun _ _ _ h => h) (Or.inl ⟨by rfl, ?hy9⟩) (by assumption) ?rest9
  case hy9 => (intro wq hSw; (try dsimp only at hSw); go_split_ands; go_simp; (try with_reducible rfl))
  case rest9 =>
  refine wpAnyH_take (i := 11) (v := ?v10) rfl (by kernel_rfl) (by kernel_rfl) (by kernel_rfl) (fun _ _ _ h => h) (Or.inl ⟨by rfl, ?hy10⟩) (by assumption) ?rest10
  case hy10 => (intro wq hSw; (try dsimp only at hSw); go_split_ands; go_simp; (try with_reducible rfl))
  case rest10 =>
  refine wpAnyH_ready (rs := [8, 9]) (by kernel_rfl) (by simp) ?_
  refine AllReadyH.cons rfl (fun K hK => ?step11) ?more11
  case step11 =>
    go_simp
    go_at_call 60
    refine (l1Own _ r.waiting x0 (HQ3.out _ (hbW.trans (hB.mono hbW.size))) (by have := HN3.out; omega)).mono ?_
    rintro e x1 ⟨v3, rfl, ho, hbc⟩
    obtain ⟨b3, m3, d3, rfl⟩ := own_slice ho
    have hO3 := ho.low hB.size
    clear ho
    replace hB := hB.trans (hbc.mono hB.size)
    clear hbc
    go_wp2_with fail
    refine hK.out _ _ (HK.out _ hB) (fun hHeld => ?_)
    clear hK K
    refine wpAnyH_ready (rs := [9]) (by kernel_rfl) (by simp) ?_
    refine AllReadyH.cons rfl (fun K hK => ?step12) ?more12
    case step12 =>
      go_simp
      refine hK.out _ _ (HK.out _ (hB.alloc hB.size _)) (fun hHeld => ?_)
      clear hK K
      have hO4 : Own LShare.rec 60 (x1.alloc (Obj.cells #[] 60)) W.heap.size (.slice (some ⟨x1.heap.size, 0, none⟩) 0 0) [] := own_start hB.size
      have hD3_4 := dist_alloc hO3 0 0
      replace hO3 := hO3.alloc (Obj.cells #[] 60)
      replace hB := hB.alloc hB.size (Obj.cells #[] 60)
      generalize x1.alloc (Obj.cells #[] 60) = x2 at *
      generalize x1.heap.size = g4x2 at *
      refine wpAnyH_ready (rs := [12]) (by kernel_rfl) (by simp) ?_
      refine AllReadyH.cons rfl (fun K hK => ?step13) ?more13
      case step13 =>
        refine step_append_o (T := LShare.rec) (by rfl) (.tmp 12) (.tmp 14) 27 (by rfl) W.heap.size 60 i4 (.agg #[.int .i64 0, .int .i64 0, .int .i64 0]) 24 Try.underlying27 HI4.out HZ4.out.1 HZ4.out.2.1 HZ4.out.2.2 (by decide) _ _ (by rfl) hO4 (a4) (n4) (c4) (r.shares) (by rfl) (by exact HN4.out) (((HQ4.out _ (hbW.trans (hB.mono hbW.size))).src).1) (by simp; unfold maxLen; omega) (by simp; omega) hB.size ?_
        intro vx3 x3 hown hgrow hnn hat
        obtain ⟨b4, m4, d4, hvv⟩ := own_slice hown
        subst hvv
        have hB2 := below_grown hB hgrow hB.size (fun k hk => (hO4.lt k hk).1)
        refine hK.out _ _ (HK.out _ hB2) (fun hHeld => ?_)
        clear hK K
        have hE := own_besides hO3 hgrow hD3_4
        have hF := dist_grow hO3 hD3_4 hat
        clear hO3 hD3_4
        have hO3 := hE
        have hD3_4 := hF
        clear hE hF
        clear hO4 hB hgrow hat hnn
        have hO4 := hown
        have hB := hB2
        clear hown hB2
        refine wpAnyH_take (i := 13) (v := ?v14) rfl (by kernel_rfl) (by kernel_rfl) (by kernel_rfl) (fun _ _ _ h => h) (Or.inl ⟨by rfl, ?hy14⟩) (by assumption) ?rest14
        case hy14 => (intro wq hSw; (try dsimp only at hSw); go_split_ands; go_simp; (try with_reducible rfl))
        case rest14 =>
        refine wpAnyH_ready (rs := [14]) (by kernel_rfl) (by simp) ?_
        refine AllReadyH.cons rfl (fun K hK => ?step15) ?more15
        case step15 =>
          have BRX := BR.out.kept hB
          have hPW : w.heap.size + 1 < W.heap.size := HZ.out
          have z0 := BRX.frozen 0
          have z1 := BRX.frozen 1
          have z2 := BRX.frozen 2
          have z3 := BRX.frozen 3
          have z4 := BRX.frozen 4
          have u0 := BRX.cell 0
          have u1 := BRX.cell 1
          have u2 := BRX.cell 2
          have u3 := BRX.cell 3
          have u4 := BRX.cell 4
          simp only [List.getElem?_toArray, List.getElem?_cons_zero, List.getElem?_cons_succ] at u0 u1 u2 u3 u4
          have hOF : LFloor.Own _ w.heap.size (.agg #[.int .i64 r.turns, .int .i64 r.seconds, .int .i64 r.speaking, .slice b3 m3 d3, .slice b4 m4 d4]) r := ⟨_, _, rfl, ((own_set (own_set (own_set (own_set (own_set hO3 (p := ⟨w.heap.size + 1, 0, none⟩) (fun k hk => by have h2 := (hO3.lt k hk).1; show k ≠ w.heap.size + 1; omega) (.int .i64 r.turns)) (p := ⟨w.heap.size + 1, 1, none⟩) (fun k hk => by have h2 := (hO3.lt k hk).1; show k ≠ w.heap.size + 1; omega) (.int .i64 r.seconds)) (p := ⟨w.heap.size + 1, 2, none⟩) (fun k hk => by have h2 := (hO3.lt k hk).1; show k ≠ w.heap.size + 1; omega) (.int .i64 r.speaking)) (p := ⟨w.heap.size + 1, 3, none⟩) (fun k hk => by have h2 := (hO3.lt k hk).1; show k ≠ w.heap.size + 1; omega) (.slice b3 m3 d3)) (p := ⟨w.heap.size + 1, 4, none⟩) (fun k hk => by have h2 := (hO3.lt k hk).1; show k ≠ w.heap.size + 1; omega) (.slice b4 m4 d4))).low hbW.size, ((own_set (own_set (own_set (own_set (own_set hO4 (p := ⟨w.heap.size + 1, 0, none⟩) (fun k hk => by have h2 := (hO4.lt k hk).1; show k ≠ w.heap.size + 1; omega) (.int .i64 r.turns)) (p := ⟨w.heap.size + 1, 1, none⟩) (fun k hk => by have h2 := (hO4.lt k hk).1; show k ≠ w.heap.size + 1; omega) (.int .i64 r.seconds)) (p := ⟨w.heap.size + 1, 2, none⟩) (fun k hk => by have h2 := (hO4.lt k hk).1; show k ≠ w.heap.size + 1; omega) (.int .i64 r.speaking)) (p := ⟨w.heap.size + 1, 3, none⟩) (fun k hk => by have h2 := (hO4.lt k hk).1; show k ≠ w.heap.size + 1; omega) (.slice b3 m3 d3)) (p := ⟨w.heap.size + 1, 4, none⟩) (fun k hk => by have h2 := (hO4.lt k hk).1; show k ≠ w.heap.size + 1; omega) (.slice b4 m4 d4))).low hbW.size, hD3_4⟩
          have hBF := (Below.setCell (Below.setCell (Below.setCell (Below.setCell (Below.setCell (hbW.trans (hB.mono hbW.size)) (p := ⟨w.heap.size + 1, 0, none⟩) (by show w.heap.size ≤ w.heap.size + 1; omega) (.int .i64 r.turns)) (p := ⟨w.heap.size + 1, 1, none⟩) (by show w.heap.size ≤ w.heap.size + 1; omega) (.int .i64 r.seconds)) (p := ⟨w.heap.size + 1, 2, none⟩) (by show w.heap.size ≤ w.heap.size + 1; omega) (.int .i64 r.speaking)) (p := ⟨w.heap.size + 1, 3, none⟩) (by show w.heap.size ≤ w.heap.size + 1; omega) (.slice b3 m3 d3)) (p := ⟨w.heap.size + 1, 4, none⟩) (by show w.heap.size ≤ w.heap.size + 1; omega) (.slice b4 m4 d4))
          have hRF := (((((BRX.set_ 0 (.int .i64 r.turns)).set_ 1 (.int .i64 r.seconds)).set_ 2 (.int .i64 r.speaking)).set_ 3 (.slice b3 m3 d3)).set_ 4 (.slice b4 m4 d4))
          skip
          go_simp
          refine hK.out _ _ ⟨hBF, ?_⟩ (fun hHeld => ?_)
          · rw [Bx.cell (G := w.heap.size) (((Bx.far (Bx.far (Bx.far (Bx.far (Bx.far (B0.out.kept hB) (p := ⟨w.heap.size + 1, 0, none⟩) (show w.heap.size ≠ w.heap.size + 1 by omega) (.int .i64 r.turns)) (p := ⟨w.heap.size + 1, 1, none⟩) (show w.heap.size ≠ w.heap.size + 1 by omega) (.int .i64 r.seconds)) (p := ⟨w.heap.size + 1, 2, none⟩) (show w.heap.size ≠ w.heap.size + 1 by omega) (.int .i64 r.speaking)) (p := ⟨w.heap.size + 1, 3, none⟩) (show w.heap.size ≠ w.heap.size + 1 by omega) (.slice b3 m3 d3)) (p := ⟨w.heap.size + 1, 4, none⟩) (show w.heap.size ≠ w.heap.size + 1 by omega) (.slice b4 m4 d4)))) 0, Bx.cell (((Bx.far (Bx.far (Bx.far (Bx.far (Bx.far (B0.out.kept hB) (p := ⟨w.heap.size + 1, 0, none⟩) (show w.heap.size ≠ w.heap.size + 1 by omega) (.int .i64 r.turns)) (p := ⟨w.heap.size + 1, 1, none⟩) (show w.heap.size ≠ w.heap.size + 1 by omega) (.int .i64 r.seconds)) (p := ⟨w.heap.size + 1, 2, none⟩) (show w.heap.size ≠ w.heap.size + 1 by omega) (.int .i64 r.speaking)) (p := ⟨w.heap.size + 1, 3, none⟩) (show w.heap.size ≠ w.heap.size + 1 by omega) (.slice b3 m3 d3)) (p := ⟨w.heap.size + 1, 4, none⟩) (show w.heap.size ≠ w.heap.size + 1 by omega) (.slice b4 m4 d4)))) 1, Bx.cell (((Bx.far (Bx.far (Bx.far (Bx.far (Bx.far (B0.out.kept hB) (p := ⟨w.heap.size + 1, 0, none⟩) (show w.heap.size ≠ w.heap.size + 1 by omega) (.int .i64 r.turns)) (p := ⟨w.heap.size + 1, 1, none⟩) (show w.heap.size ≠ w.heap.size + 1 by omega) (.int .i64 r.seconds)) (p := ⟨w.heap.size + 1, 2, none⟩) (show w.heap.size ≠ w.heap.size + 1 by omega) (.int .i64 r.speaking)) (p := ⟨w.heap.size + 1, 3, none⟩) (show w.heap.size ≠ w.heap.size + 1 by omega) (.slice b3 m3 d3)) (p := ⟨w.heap.size + 1, 4, none⟩) (show w.heap.size ≠ w.heap.size + 1 by omega) (.slice b4 m4 d4)))) 2, Bx.cell (((Bx.far (Bx.far (Bx.far (Bx.far (Bx.far (B0.out.kept hB) (p := ⟨w.heap.size + 1, 0, none⟩) (show w.heap.size ≠ w.heap.size + 1 by omega) (.int .i64 r.turns)) (p := ⟨w.heap.size + 1, 1, none⟩) (show w.heap.size ≠ w.heap.size + 1 by omega) (.int .i64 r.seconds)) (p := ⟨w.heap.size + 1, 2, none⟩) (show w.heap.size ≠ w.heap.size + 1 by omega) (.int .i64 r.speaking)) (p := ⟨w.heap.size + 1, 3, none⟩) (show w.heap.size ≠ w.heap.size + 1 by omega) (.slice b3 m3 d3)) (p := ⟨w.heap.size + 1, 4, none⟩) (show w.heap.size ≠ w.heap.size + 1 by omega) (.slice b4 m4 d4)))) 3, Bx.cell (((Bx.far (Bx.far (Bx.far (Bx.far (Bx.far (B0.out.kept hB) (p := ⟨w.heap.size + 1, 0, none⟩) (show w.heap.size ≠ w.heap.size + 1 by omega) (.int .i64 r.turns)) (p := ⟨w.heap.size + 1, 1, none⟩) (show w.heap.size ≠ w.heap.size + 1 by omega) (.int .i64 r.seconds)) (p := ⟨w.heap.size + 1, 2, none⟩) (show w.heap.size ≠ w.heap.size + 1 by omega) (.int .i64 r.speaking)) (p := ⟨w.heap.size + 1, 3, none⟩) (show w.heap.size ≠ w.heap.size + 1 by omega) (.slice b3 m3 d3)) (p := ⟨w.heap.size + 1, 4, none⟩) (show w.heap.size ≠ w.heap.size + 1 by omega) (.slice b4 m4 d4)))) 4]; exact ⟨rfl, rfl, rfl, rfl, rfl⟩
          clear hK K
          refine wpAnyH_done (by kernel_rfl) ?_ _
          have y0 := hRF.cell 0
          have y1 := hRF.cell 1
          have y2 := hRF.cell 2
          have y3 := hRF.cell 3
          have y4 := hRF.cell 4
          simp at y0 y1 y2 y3 y4
          go_wp2_with fail
          refine bodyPost_ret (v := .agg #[.int .i64 r.turns, .int .i64 r.seconds, .int .i64 r.speaking, .slice b3 m3 d3, .slice b4 m4 d4]) (by simp [results, Try.results35, go_sem, y0, y1, y2, y3, y4]) rfl ?_
          exact ⟨_, rfl, hOF, hBF⟩
        case more15 => exact AllReadyH.nil
      case more13 => exact AllReadyH.nil
    case more12 => exact AllReadyH.nil
  case more11 =>
    refine AllReadyH.cons rfl (fun K hK => ?step16) ?more16
    case step16 =>
      go_simp
      refine hK.out _ _ (HK.out _ (hB.alloc hB.size _)) (fun hHeld => ?_)
      clear hK K
      have hO4 : Own LShare.rec 60 (x0.alloc (Obj.cells #[] 60)) W.heap.size (.slice (some ⟨x0.heap.size, 0, none⟩) 0 0) [] := own_start hB.size
      replace hB := hB.alloc hB.size (Obj.cells #[] 60)
      generalize x0.alloc (Obj.cells #[] 60) = x4 at *
      generalize x0.heap.size = g4x4 at *
      refine wpAnyH_ready (rs := [8]) (by kernel_rfl) (by simp) ?_
      refine AllReadyH.cons rfl (fun K hK => ?step17) ?more17
      case step17 =>
        go_simp
        go_at_call 60
        refine (l1Own _ r.waiting x4 (HQ3.out _ (hbW.trans (hB.mono hbW.size))) (by have := HN3.out; omega)).mono ?_
        rintro e x5 ⟨v3, rfl, ho, hbc⟩
        obtain ⟨b3, m3, d3, rfl⟩ := own_slice ho
        have hD3_4 := (dist_call hO4 ho).symm
        replace hO4 := hO4.kept hbc
        have hO3 := ho.low hB.size
        clear ho
        replace hB := hB.trans (hbc.mono hB.size)
        clear hbc
        go_wp2_with fail
        refine hK.out _ _ (HK.out _ hB) (fun hHeld => ?_)
        clear hK K
        refine wpAnyH_ready (rs := [12]) (by kernel_rfl) (by simp) ?_
        refine AllReadyH.cons rfl (fun K hK => ?step18) ?more18
        case step18 =>
          refine step_append_o (T := LShare.rec) (by rfl) (.tmp 12) (.tmp 14) 27 (by rfl) W.heap.size 60 i4 (.agg #[.int .i64 0, .int .i64 0, .int .i64 0]) 24 Try.underlying27 HI4.out HZ4.out.1 HZ4.out.2.1 HZ4.out.2.2 (by decide) _ _ (by rfl) hO4 (a4) (n4) (c4) (r.shares) (by rfl) (by exact HN4.out) (((HQ4.out _ (hbW.trans (hB.mono hbW.size))).src).1) (by simp; unfold maxLen; omega) (by simp; omega) hB.size ?_
          intro vx6 x6 hown hgrow hnn hat
          obtain ⟨b4, m4, d4, hvv⟩ := own_slice hown
          subst hvv
          have hB2 := below_grown hB hgrow hB.size (fun k hk => (hO4.lt k hk).1)
          refine hK.out _ _ (HK.out _ hB2) (fun hHeld => ?_)
          clear hK K
          have hE := own_besides hO3 hgrow hD3_4
          have hF := dist_grow hO3 hD3_4 hat
          clear hO3 hD3_4
          have hO3 := hE
          have hD3_4 := hF
          clear hE hF
          clear hO4 hB hgrow hat hnn
          have hO4 := hown
          have hB := hB2
          clear hown hB2
          refine wpAnyH_take (i := 13) (v := ?v19) rfl (by kernel_rfl) (by kernel_rfl) (by kernel_rfl) (fun _ _ _ h => h) (Or.inl ⟨by rfl, ?hy19⟩) (by assumption) ?rest19
          case hy19 => (intro wq hSw; (try dsimp only at hSw); go_split_ands; go_simp; (try with_reducible rfl))
          case rest19 =>
          refine wpAnyH_ready (rs := [14]) (by kernel_rfl) (by simp) ?_
          refine AllReadyH.cons rfl (fun K hK => ?step20) ?more20
          case step20 =>
            have BRX := BR.out.kept hB
            have hPW : w.heap.size + 1 < W.heap.size := HZ.out
            have z0 := BRX.frozen 0
            have z1 := BRX.frozen 1
            have z2 := BRX.frozen 2
            have z3 := BRX.frozen 3
            have z4 := BRX.frozen 4
            have u0 := BRX.cell 0
            have u1 := BRX.cell 1
            have u2 := BRX.cell 2
            have u3 := BRX.cell 3
            have u4 := BRX.cell 4
            simp only [List.getElem?_toArray, List.getElem?_cons_zero, List.getElem?_cons_succ] at u0 u1 u2 u3 u4
            have hOF : LFloor.Own _ w.heap.size (.agg #[.int .i64 r.turns, .int .i64 r.seconds, .int .i64 r.speaking, .slice b3 m3 d3, .slice b4 m4 d4]) r := ⟨_, _, rfl, ((own_set (own_set (own_set (own_set (own_set hO3 (p := ⟨w.heap.size + 1, 0, none⟩) (fun k hk => by have h2 := (hO3.lt k hk).1; show k ≠ w.heap.size + 1; omega) (.int .i64 r.turns)) (p := ⟨w.heap.size + 1, 1, none⟩) (fun k hk => by have h2 := (hO3.lt k hk).1; show k ≠ w.heap.size + 1; omega) (.int .i64 r.seconds)) (p := ⟨w.heap.size + 1, 2, none⟩) (fun k hk => by have h2 := (hO3.lt k hk).1; show k ≠ w.heap.size + 1; omega) (.int .i64 r.speaking)) (p := ⟨w.heap.size + 1, 3, none⟩) (fun k hk => by have h2 := (hO3.lt k hk).1; show k ≠ w.heap.size + 1; omega) (.slice b3 m3 d3)) (p := ⟨w.heap.size + 1, 4, none⟩) (fun k hk => by have h2 := (hO3.lt k hk).1; show k ≠ w.heap.size + 1; omega) (.slice b4 m4 d4))).low hbW.size, ((own_set (own_set (own_set (own_set (own_set hO4 (p := ⟨w.heap.size + 1, 0, none⟩) (fun k hk => by have h2 := (hO4.lt k hk).1; show k ≠ w.heap.size + 1; omega) (.int .i64 r.turns)) (p := ⟨w.heap.size + 1, 1, none⟩) (fun k hk => by have h2 := (hO4.lt k hk).1; show k ≠ w.heap.size + 1; omega) (.int .i64 r.seconds)) (p := ⟨w.heap.size + 1, 2, none⟩) (fun k hk => by have h2 := (hO4.lt k hk).1; show k ≠ w.heap.size + 1; omega) (.int .i64 r.speaking)) (p := ⟨w.heap.size + 1, 3, none⟩) (fun k hk => by have h2 := (hO4.lt k hk).1; show k ≠ w.heap.size + 1; omega) (.slice b3 m3 d3)) (p := ⟨w.heap.size + 1, 4, none⟩) (fun k hk => by have h2 := (hO4.lt k hk).1; show k ≠ w.heap.size + 1; omega) (.slice b4 m4 d4))).low hbW.size, hD3_4⟩
            have hBF := (Below.setCell (Below.setCell (Below.setCell (Below.setCell (Below.setCell (hbW.trans (hB.mono hbW.size)) (p := ⟨w.heap.size + 1, 0, none⟩) (by show w.heap.size ≤ w.heap.size + 1; omega) (.int .i64 r.turns)) (p := ⟨w.heap.size + 1, 1, none⟩) (by show w.heap.size ≤ w.heap.size + 1; omega) (.int .i64 r.seconds)) (p := ⟨w.heap.size + 1, 2, none⟩) (by show w.heap.size ≤ w.heap.size + 1; omega) (.int .i64 r.speaking)) (p := ⟨w.heap.size + 1, 3, none⟩) (by show w.heap.size ≤ w.heap.size + 1; omega) (.slice b3 m3 d3)) (p := ⟨w.heap.size + 1, 4, none⟩) (by show w.heap.size ≤ w.heap.size + 1; omega) (.slice b4 m4 d4))
            have hRF := (((((BRX.set_ 0 (.int .i64 r.turns)).set_ 1 (.int .i64 r.seconds)).set_ 2 (.int .i64 r.speaking)).set_ 3 (.slice b3 m3 d3)).set_ 4 (.slice b4 m4 d4))
            skip
            go_simp
            refine hK.out _ _ ⟨hBF, ?_⟩ (fun hHeld => ?_)
            · rw [Bx.cell (G := w.heap.size) (((Bx.far (Bx.far (Bx.far (Bx.far (Bx.far (B0.out.kept hB) (p := ⟨w.heap.size + 1, 0, none⟩) (show w.heap.size ≠ w.heap.size + 1 by omega) (.int .i64 r.turns)) (p := ⟨w.heap.size + 1, 1, none⟩) (show w.heap.size ≠ w.heap.size + 1 by omega) (.int .i64 r.seconds)) (p := ⟨w.heap.size + 1, 2, none⟩) (show w.heap.size ≠ w.heap.size + 1 by omega) (.int .i64 r.speaking)) (p := ⟨w.heap.size + 1, 3, none⟩) (show w.heap.size ≠ w.heap.size + 1 by omega) (.slice b3 m3 d3)) (p := ⟨w.heap.size + 1, 4, none⟩) (show w.heap.size ≠ w.heap.size + 1 by omega) (.slice b4 m4 d4)))) 0, Bx.cell (((Bx.far (Bx.far (Bx.far (Bx.far (Bx.far (B0.out.kept hB) (p := ⟨w.heap.size + 1, 0, none⟩) (show w.heap.size ≠ w.heap.size + 1 by omega) (.int .i64 r.turns)) (p := ⟨w.heap.size + 1, 1, none⟩) (show w.heap.size ≠ w.heap.size + 1 by omega) (.int .i64 r.seconds)) (p := ⟨w.heap.size + 1, 2, none⟩) (show w.heap.size ≠ w.heap.size + 1 by omega) (.int .i64 r.speaking)) (p := ⟨w.heap.size + 1, 3, none⟩) (show w.heap.size ≠ w.heap.size + 1 by omega) (.slice b3 m3 d3)) (p := ⟨w.heap.size + 1, 4, none⟩) (show w.heap.size ≠ w.heap.size + 1 by omega) (.slice b4 m4 d4)))) 1, Bx.cell (((Bx.far (Bx.far (Bx.far (Bx.far (Bx.far (B0.out.kept hB) (p := ⟨w.heap.size + 1, 0, none⟩) (show w.heap.size ≠ w.heap.size + 1 by omega) (.int .i64 r.turns)) (p := ⟨w.heap.size + 1, 1, none⟩) (show w.heap.size ≠ w.heap.size + 1 by omega) (.int .i64 r.seconds)) (p := ⟨w.heap.size + 1, 2, none⟩) (show w.heap.size ≠ w.heap.size + 1 by omega) (.int .i64 r.speaking)) (p := ⟨w.heap.size + 1, 3, none⟩) (show w.heap.size ≠ w.heap.size + 1 by omega) (.slice b3 m3 d3)) (p := ⟨w.heap.size + 1, 4, none⟩) (show w.heap.size ≠ w.heap.size + 1 by omega) (.slice b4 m4 d4)))) 2, Bx.cell (((Bx.far (Bx.far (Bx.far (Bx.far (Bx.far (B0.out.kept hB) (p := ⟨w.heap.size + 1, 0, none⟩) (show w.heap.size ≠ w.heap.size + 1 by omega) (.int .i64 r.turns)) (p := ⟨w.heap.size + 1, 1, none⟩) (show w.heap.size ≠ w.heap.size + 1 by omega) (.int .i64 r.seconds)) (p := ⟨w.heap.size + 1, 2, none⟩) (show w.heap.size ≠ w.heap.size + 1 by omega) (.int .i64 r.speaking)) (p := ⟨w.heap.size + 1, 3, none⟩) (show w.heap.size ≠ w.heap.size + 1 by omega) (.slice b3 m3 d3)) (p := ⟨w.heap.size + 1, 4, none⟩) (show w.heap.size ≠ w.heap.size + 1 by omega) (.slice b4 m4 d4)))) 3, Bx.cell (((Bx.far (Bx.far (Bx.far (Bx.far (Bx.far (B0.out.kept hB) (p := ⟨w.heap.size + 1, 0, none⟩) (show w.heap.size ≠ w.heap.size + 1 by omega) (.int .i64 r.turns)) (p := ⟨w.heap.size + 1, 1, none⟩) (show w.heap.size ≠ w.heap.size + 1 by omega) (.int .i64 r.seconds)) (p := ⟨w.heap.size + 1, 2, none⟩) (show w.heap.size ≠ w.heap.size + 1 by omega) (.int .i64 r.speaking)) (p := ⟨w.heap.size + 1, 3, none⟩) (show w.heap.size ≠ w.heap.size + 1 by omega) (.slice b3 m3 d3)) (p := ⟨w.heap.size + 1, 4, none⟩) (show w.heap.size ≠ w.heap.size + 1 by omega) (.slice b4 m4 d4)))) 4]; exact ⟨rfl, rfl, rfl, rfl, rfl⟩
            clear hK K
            refine wpAnyH_done (by kernel_rfl) ?_ _
            have y0 := hRF.cell 0
            have y1 := hRF.cell 1
            have y2 := hRF.cell 2
            have y3 := hRF.cell 3
            have y4 := hRF.cell 4
            simp at y0 y1 y2 y3 y4
            go_wp2_with fail
            refine bodyPost_ret (v := .agg #[.int .i64 r.turns, .int .i64 r.seconds, .int .i64 r.speaking, .slice b3 m3 d3, .slice b4 m4 d4]) (by simp [results, Try.results35, go_sem, y0, y1, y2, y3, y4]) rfl ?_
            exact ⟨_, rfl, hOF, hBF⟩
          case more20 => exact AllReadyH.nil
        case more18 => exact AllReadyH.nil
      case more17 => exact AllReadyH.nil
    case more16 => exact AllReadyH.nil
end Go.Proofs.Ytmbffcblhhippaa.FlO
