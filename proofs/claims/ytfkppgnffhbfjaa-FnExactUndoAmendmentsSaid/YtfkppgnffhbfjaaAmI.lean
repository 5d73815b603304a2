/- An amendment turned back: the model and the program. No condition. -/
import Derived.Test.YtfkppgnffhbfjaaAmF
import Derived.Test.YtfkppgnffhbfjaaAmK
import Derived.Test.YtfkppgnffhbfjaaHeld
import Derived.Deep.DeepCutAuto
namespace Go.Proofs.Ytfkppgnffhbfjaa.AmI
open Go.RowKit Bs Word Am AmA AmG AmE AmF AmK
set_option linter.unusedVariables false
def Ans (z0 : T) (z1 : M) (r0 : M) (r1 : Bool) : Prop := (r0, r1) = if (textB z0 && (good z1 && fits z0 z1)) = true then (inverse z0 z1, true) else (zeroM, false)
theorem yes {z0 : T} {z1 : M} (h : (textB z0 && (good z1 && fits z0 z1)) = true) : Ans z0 z1 (inverse z0 z1) true := by unfold Ans; rw [if_pos h]
theorem no {z0 : T} {z1 : M} (h : (textB z0 && (good z1 && fits z0 z1)) = false) : Ans z0 z1 zeroM false := by unfold Ans; rw [h]; rfl
theorem parts {z0 : T} {z1 : M} (h : (textB z0 && (good z1 && fits z0 z1)) = true) : textB z0 = true ∧ good z1 = true ∧ fits z0 z1 = true := by
  rw [Bool.and_eq_true, Bool.and_eq_true] at h; exact h
def Post (z0 : T) (z1 : M) (w : World) (e : Ending) (w' : World) : Prop := ∃ v0 r0 r1, e = .returned (.tuple #[v0, .bool r1]) ∧ Ans z0 z1 r0 r1 ∧ LAmendment.Own w' w.heap.size v0 r0 ∧ Below w.heap.size w w'
set_option maxRecDepth 100000 in
set_option maxHeartbeats 1600000 in
theorem l9Inverse (v v0 : Value) (l : T) (r : M) (w : World) (h : IsQ LString.rec w v l) (h0 : LAmendment.IsQ w v0 r) (hg : good r = true) (hl : l.length ≤ 20) (hf : r.pos + r.count ≤ l.length) :
    Calls Try.prog 51 #[v, v0] w fun e w' => ∃ v', e = .returned v' ∧ LAmendment.Own w' w.heap.size v' (inverse l r) ∧ Below w.heap.size w w' := by
  obtain ⟨s3, rfl, hq⟩ := h0
  obtain ⟨a3, n3, c3, rfl⟩ := isq_slice hq
  obtain ⟨hn3, hb3, hm3⟩ := isq_len hq
  unfold maxLen at hm3
  have HN3 := Lib.hid hn3
  have HIA := Lib.hid (show LAmendment.IsQ w (.agg #[.int .i64 r.kind, .int .i64 r.pos, .int .i64 r.count, .slice a3 n3 c3]) r from ⟨_, rfl, hq⟩)
  have HTQ := Lib.hid h
  have HQ := Lib.hid hq
  clear hn3 hq
  obtain ⟨ao, n, c, rfl⟩ := isq_slice h
  obtain ⟨hn, hnc, hcm⟩ := isq_len h
  unfold maxLen at hcm
  have HN := Lib.hid hn
  clear hn h
  rw [HN.out] at hl hf
  obtain ⟨⟨p1, p2⟩, hw5, hk5, c1, c2⟩ := good_parts hg
  have hw := words_len hw5
  rw [HN3.out] at hw
  clear hw5 hg hk5
  obtain ⟨W, hW⟩ : ∃ W : World, W = (w.alloc (Obj.cells #[.int .i64 r.kind, .int .i64 r.pos, .int .i64 r.count, .slice a3 n3 c3] 31)).alloc (Obj.cells #[.int .i64 0, .int .i64 0, .int .i64 0, .slice none 0 0] 31) := ⟨_, rfl⟩
  have hb : Below w.heap.size w W := by rw [hW]; exact ((Below.refl _ _).alloc (Nat.le_refl _) _).alloc (by simp) _
  have HZ := Lib.hid (show W.heap.size = w.heap.size + 2 by rw [hW]; simp)
  have B0 := Lib.hid (show Bx W w.heap.size 31 #[.int .i64 r.kind, .int .i64 r.pos, .int .i64 r.count, .slice a3 n3 c3] by rw [hW]; exact (Bx.new _ _ _).alloc _)
  have BR := Lib.hid (show Bx W (w.heap.size + 1) 31 #[.int .i64 0, .int .i64 0, .int .i64 0, .slice none 0 0] by rw [hW]; have := Bx.new (w.alloc (Obj.cells #[.int .i64 r.kind, .int .i64 r.pos, .int .i64 r.count, .slice a3 n3 c3] 31)) 31 #[.int .i64 0, .int .i64 0, .int .i64 0, .slice none 0 0]; simpa using this)
  have q0 := B0.out.cell 0
  have q1 := B0.out.cell 1
  have q2 := B0.out.cell 2
  have q3 := B0.out.cell 3
  simp only [List.getElem?_toArray, List.getElem?_cons_zero, List.getElem?_cons_succ] at q0 q1 q2 q3
  have s0 : IntKind.i64.wrap (r.pos + r.count) = r.pos + r.count := IntWalk.i64_in _ (by omega)
  have s1 : r.pos ≤ r.pos + r.count := by omega
  have s2 : r.pos + r.count ≤ (c : Int) := by omega
  obtain ⟨t, ht⟩ : ∃ t, (if c = r.pos.toNat then ao else Option.map (fun x => x.add r.pos.toNat) ao) = t := ⟨_, rfl⟩
  have HC := Lib.hid (fun w2 (hB : Below W.heap.size W w2) => l9Kind r.pos (n3 : Int) (.slice t ((r.pos + r.count).toNat - r.pos.toNat) (c - r.pos.toNat)) (cut l r) w2 (cut_is (IsQ.below HTQ.out (hb.trans (hB.mono hb.size))) p1 c1 (by omega) ht.symm) (by unfold cut; rw [List.length_take]; omega))
  rw [show mkKind r.pos (n3 : Int) (cut l r) = inverse l r by unfold inverse; rw [HN3.out]] at HC
  go_enter Try.func51, Try.ntmps51
  go_upto_region 1 with fail
  rw [← hW]
  clear hW
  have HK := Lib.hid (show ∀ w' : World, Below W.heap.size W w' → w'.cell? ⟨w.heap.size, 0, none⟩ = some (.int .i64 r.kind) ∧ w'.cell? ⟨w.heap.size, 1, none⟩ = some (.int .i64 r.pos) ∧ w'.cell? ⟨w.heap.size, 2, none⟩ = some (.int .i64 r.count) ∧ w'.cell? ⟨w.heap.size, 3, none⟩ = some (.slice a3 n3 c3) from fun w' hB => ⟨by have h := (B0.out.kept hB).cell 0; simpa using h, by have h := (B0.out.kept hB).cell 1; simpa using h, by have h := (B0.out.kept hB).cell 2; simpa using h, by have h := (B0.out.kept hB).cell 3; simpa using h⟩)
  have hB : Below W.heap.size W W.drew := (Below.refl _ _).drew
  have hXR := BR.out.kept hB
  have hXP := B0.out.kept hB
  refine wp_region_held_drew (S := fun w' => w'.cell? ⟨w.heap.size, 0, none⟩ = some (.int .i64 r.kind) ∧ w'.cell? ⟨w.heap.size, 1, none⟩ = some (.int .i64 r.pos) ∧ w'.cell? ⟨w.heap.size, 2, none⟩ = some (.int .i64 r.count) ∧ w'.cell? ⟨w.heap.size, 3, none⟩ = some (.slice a3 n3 c3)) (by kernel_rfl) (HK.out _ hB) (fun hHeld => ?_)
  generalize W.drew = x0 at *
  refine wpAnyH_take (i := 0) (v := ?v1) rfl (by kernel_rfl) (by kernel_rfl) (by kernel_rfl) (fun _ _ _ h => h) (Or.inl ⟨by rfl, ?hy1⟩) (by assumption) ?rest1
  case hy1 => (intro wq hSw; (try dsimp only at hSw); go_split_ands; go_simp; (try with_reducible rfl))
  case rest1 =>
  refine wpAnyH_take (i := 1) (v := ?v2) rfl (by kernel_rfl) (by kernel_rfl) (by kernel_rfl) (fun _ _ _ h => h) (Or.inl ⟨by rfl, ?hy2⟩) (by assumption) ?rest2
  case hy2 => (intro wq hSw; (try dsimp only at hSw); go_split_ands; go_simp; (try with_reducible rfl))
  case rest2 =>
  refine wpAnyH_take (i := 2) (v := ?v3) rfl (by kernel_rfl) (by kernel_rfl) (by kernel_rfl) (fun _ _ _ h => h) (Or.inl ⟨by rfl, ?hy3⟩) (by assumption) ?rest3
  case hy3 => (intro wq hSw; (try dsimp only at hSw); go_split_ands; go_simp; (try with_reducible rfl))
  case rest3 =>
  refine wpAnyH_take (i := 3) (v := ?v4) rfl (by kernel_rfl) (by kernel_rfl) (by kernel_rfl) (fun _ _ _ h => h) (Or.inl ⟨by rfl, ?hy4⟩) (by assumption) ?rest4
  case hy4 => (intro wq hSw; (try dsimp only at hSw); go_split_ands; go_simp; (try with_reducible rfl))
  case rest4 =>
  refine wpAnyH_take (i := 4) (v := ?v5) rfl (by kernel_rfl) (by kernel_rfl) (by kernel_rfl) (fun _ _ _ h => h) (Or.inl ⟨by rfl, ?hy5⟩) (by assumption) ?rest5
  case hy5 => (intro wq hSw; (try dsimp only at hSw); go_split_ands; go_simp; (try with_reducible rfl))
  case rest5 =>
  refine wpAnyH_take (i := 5) (v := ?v6) rfl (by kernel_rfl) (by kernel_rfl) (by kernel_rfl) (fun _ _ _ h => h) (Or.inl ⟨by rfl, ?hy6⟩) (by assumption) ?rest6
  case hy6 => (intro wq hSw; (try dsimp only at hSw); go_split_ands; go_simp; (try with_reducible rfl))
  case rest6 =>
  refine wpAnyH_take (i := 6) (v := ?v7) rfl (by kernel_rfl) (by kernel_rfl) (by kernel_rfl) (fun _ _ _ h => h) (Or.inl ⟨by rfl, ?hy7⟩) (by assumption) ?rest7
  case hy7 => (intro wq hSw; (try dsimp only at hSw); go_split_ands; go_simp; (try with_reducible rfl))
  case rest7 =>
  refine wpAnyH_take (i := 7) (v := ?v8) rfl (by kernel_rfl) (by kernel_rfl) (by kernel_rfl) (fun _ _ _ h => h) (Or.inl ⟨by rfl, ?hy8⟩) (by assumption) ?rest8
  case hy8 => (intro wq hSw; (try dsimp only at hSw); go_split_ands; go_simp; (try with_reducible rfl))
  case rest8 =>
  refine wpAnyH_take (i := 8) (v := ?v9) rfl (by kernel_rfl) (by kernel_rfl) (by kernel_rfl) (fun _ _ _ h => h) (Or.inl ⟨by rfl, ?hy9⟩) (by assumption) ?rest9
  case hy9 => (intro wq hSw; (try dsimp only at hSw); go_split_ands; go_simp; (try with_reducible rfl))
  case rest9 =>
  refine wpAnyH_take (i := 9) (v := ?v10) rfl (by kernel_rfl) (by kernel_rfl) (by kernel_rfl) (fun _ _ _ h => h) (Or.inl ⟨by rfl, ?hy10⟩) (by assumption) ?rest10
  case hy10 => (intro wq hSw; (try dsimp only at hSw); go_split_ands; go_simp; (try with_reducible rfl))
  case rest10 =>
  refine wpAnyH_take (i := 10) (v := ?v11) rfl (by kernel_rfl) (by kernel_rfl) (by kernel_rfl) (fun _ _ _ h => h) (Or.inl ⟨by rfl, ?hy11⟩) (by assumption) ?rest11
  case hy11 => (intro wq hSw; (try dsimp only at hSw); go_split_ands; go_simp; (try with_reducible rfl))
  case rest11 =>
  refine wpAnyH_take (i := 11) (v := ?v12) rfl (by kernel_rfl) (by kernel_rfl) (by kernel_rfl) (fun _ _ _ h => h) (Or.inl ⟨by rfl, ?hy12⟩) (by assumption) ?rest12
  case hy12 => (intro wq hSw; (try dsimp only at hSw); go_split_ands; go_simp; (try with_reducible rfl))
  case rest12 =>
  refine wpAnyH_take (i := 12) (v := ?v13) rfl (by kernel_rfl) (by kernel_rfl) (by kernel_rfl) (fun _ _ _ h => h) (Or.inl ⟨by rfl, ?hy13⟩) (by assumption) ?rest13
  case hy13 => (intro wq hSw; (try dsimp only at hSw); go_split_ands; go_simp; (try with_reducible rfl))
  case rest13 =>
  refine wpAnyH_take (i := 13) (v := ?v14) rfl (by kernel_rfl) (by kernel_rfl) (by kernel_rfl) (fun _ _ _ h => h) (Or.inl ⟨by rfl, ?hy14⟩) (by assumption) ?rest14
  case hy14 => (intro wq hSw; (try dsimp only at hSw); go_split_ands; go_simp; (try with_reducible rfl))
  case rest14 =>
  refine wpAnyH_ready (rs := [14]) (by kernel_rfl) (by simp) ?_
  refine AllReadyH.cons rfl (fun K hK => ?step15) ?more15
  case step15 =>
    go_simp
    go_at_call 58
    refine (HC.out _ hB).mono ?_
    rintro e x1 ⟨v1, rfl, ho, hbc⟩
    obtain ⟨s3, rfl, ho3⟩ := ho
    obtain ⟨fa, fn, fc, rfl⟩ := own_slice ho3
    have hNZ : ∀ k, (Value.slice fa fn fc).ownBlock = some k → k ≠ w.heap.size + 1 := fun k hk => by have h1 := (ho3.lt k hk).1; have h2 := hB.size; have h3 := HZ.out; omega
    replace ho3 := ho3.low (show w.heap.size ≤ _ by have h2 := hB.size; have h3 := HZ.out; omega)
    replace hXR := hXR.kept hbc
    replace hXP := hXP.kept hbc
    replace hB := hB.trans (hbc.mono hB.size)
    have hBw := hb.trans (hB.mono hb.size)
    clear hbc
    go_wp2_with fail
    refine hK.out _ _ (HK.out _ hB) (fun hHeld => ?_)
    clear hK K
    refine wpAnyH_ready (rs := [15]) (by kernel_rfl) (by simp) ?_
    refine AllReadyH.cons rfl (fun K hK => ?step16) ?more16
    case step16 =>
      have c0 := hXR.cell 0
      have f0 := hXR.frozen 0
      have c1 := hXR.cell 1
      have f1 := hXR.frozen 1
      have c2 := hXR.cell 2
      have f2 := hXR.frozen 2
      have c3 := hXR.cell 3
      have f3 := hXR.frozen 3
      simp only [List.getElem?_toArray, List.getElem?_cons_zero, List.getElem?_cons_succ] at c0 c1 c2 c3
      have hXs := (Bx.set_ (Bx.set_ (Bx.set_ (Bx.set_ hXR 0 (.int .i64 (inverse l r).kind)) 1 (.int .i64 (inverse l r).pos)) 2 (.int .i64 (inverse l r).count)) 3 (.slice fa fn fc))
      have hPs := (Bx.far (p := ⟨w.heap.size + 1, 3, none⟩) (Bx.far (p := ⟨w.heap.size + 1, 2, none⟩) (Bx.far (p := ⟨w.heap.size + 1, 1, none⟩) (Bx.far (p := ⟨w.heap.size + 1, 0, none⟩) hXP (show w.heap.size ≠ w.heap.size + 1 by omega) (.int .i64 (inverse l r).kind)) (show w.heap.size ≠ w.heap.size + 1 by omega) (.int .i64 (inverse l r).pos)) (show w.heap.size ≠ w.heap.size + 1 by omega) (.int .i64 (inverse l r).count)) (show w.heap.size ≠ w.heap.size + 1 by omega) (.slice fa fn fc))
      have hos := (own_set (own_set (own_set (own_set ho3 (p := ⟨w.heap.size + 1, 0, none⟩) hNZ (.int .i64 (inverse l r).kind)) (p := ⟨w.heap.size + 1, 1, none⟩) hNZ (.int .i64 (inverse l r).pos)) (p := ⟨w.heap.size + 1, 2, none⟩) hNZ (.int .i64 (inverse l r).count)) (p := ⟨w.heap.size + 1, 3, none⟩) hNZ (.slice fa fn fc))
      have hBs := (Below.setCell (Below.setCell (Below.setCell (Below.setCell hBw (p := ⟨w.heap.size + 1, 0, none⟩) (by show w.heap.size ≤ w.heap.size + 1; omega) (.int .i64 (inverse l r).kind)) (p := ⟨w.heap.size + 1, 1, none⟩) (by show w.heap.size ≤ w.heap.size + 1; omega) (.int .i64 (inverse l r).pos)) (p := ⟨w.heap.size + 1, 2, none⟩) (by show w.heap.size ≤ w.heap.size + 1; omega) (.int .i64 (inverse l r).count)) (p := ⟨w.heap.size + 1, 3, none⟩) (by show w.heap.size ≤ w.heap.size + 1; omega) (.slice fa fn fc))
      go_simp
      refine hK.out _ _ ⟨by have h := hPs.cell 0; simpa using h, by have h := hPs.cell 1; simpa using h, by have h := hPs.cell 2; simpa using h, by have h := hPs.cell 3; simpa using h⟩ (fun hHeld => ?_)
      clear hK K
      clear hXR hXP ho3 hB hBw c0 f0 c1 f1 c2 f2 c3 f3
      simp at hXs
      refine wpAnyH_done (by kernel_rfl) ?_ _
      have hRF := hXs
      have c0 := hRF.cell 0
      have c1 := hRF.cell 1
      have c2 := hRF.cell 2
      have c3 := hRF.cell 3
      simp at c0 c1 c2 c3
      clear hRF
      go_wp2_with fail
      refine bodyPost_ret (v := .agg #[.int .i64 (inverse l r).kind, .int .i64 (inverse l r).pos, .int .i64 (inverse l r).count, .slice fa fn fc]) (by simp [results, Try.results51, go_sem, c0, c1, c2, c3]) rfl ?_
      exact ⟨_, rfl, ⟨_, rfl, hos⟩, hBs⟩
    case more16 => exact AllReadyH.nil
  case more15 => exact AllReadyH.nil

set_option maxRecDepth 100000 in
set_option maxHeartbeats 1600000 in
theorem inverseI (v v0 : Value) (l : T) (r : M) (w : World) (h : IsQ LString.rec w v l) (h0 : LAmendment.IsQ w v0 r) (ft : ∀ x ∈ l, LString.Fine x) (f0 : LAmendment.Fine r) (hl : l.length ≤ 1048576) :
    Calls Try.prog 29 #[v, v0] w (Post l r w) := by
  obtain ⟨s3, rfl, hq⟩ := h0
  obtain ⟨a3, n3, c3, rfl⟩ := isq_slice hq
  obtain ⟨hn3, hb3, hm3⟩ := isq_len hq
  unfold maxLen at hm3
  have HN3 := Lib.hid hn3
  have HIA := Lib.hid (show LAmendment.IsQ w (.agg #[.int .i64 r.kind, .int .i64 r.pos, .int .i64 r.count, .slice a3 n3 c3]) r from ⟨_, rfl, hq⟩)
  have HTQ := Lib.hid h
  have HQ := Lib.hid hq
  clear hn3 hq
  obtain ⟨ao, n, c, rfl⟩ := isq_slice h
  obtain ⟨hn, hnc, hcm⟩ := isq_len h
  unfold maxLen at hcm
  have HN := Lib.hid hn
  clear hn h
  obtain ⟨W, hW⟩ : ∃ W : World, W = (w.alloc (Obj.cells #[.int .i64 r.kind, .int .i64 r.pos, .int .i64 r.count, .slice a3 n3 c3] 31)).alloc (Obj.cells #[.int .i64 0, .int .i64 0, .int .i64 0, .slice none 0 0] 31) := ⟨_, rfl⟩
  have hb : Below w.heap.size w W := by rw [hW]; exact ((Below.refl _ _).alloc (Nat.le_refl _) _).alloc (by simp) _
  have HZ := Lib.hid (show W.heap.size = w.heap.size + 2 by rw [hW]; simp)
  have B0 := Lib.hid (show Bx W w.heap.size 31 #[.int .i64 r.kind, .int .i64 r.pos, .int .i64 r.count, .slice a3 n3 c3] by rw [hW]; exact (Bx.new _ _ _).alloc _)
  have BR := Lib.hid (show Bx W (w.heap.size + 1) 31 #[.int .i64 0, .int .i64 0, .int .i64 0, .slice none 0 0] by rw [hW]; have := Bx.new (w.alloc (Obj.cells #[.int .i64 r.kind, .int .i64 r.pos, .int .i64 r.count, .slice a3 n3 c3] 31)) 31 #[.int .i64 0, .int .i64 0, .int .i64 0, .slice none 0 0]; simpa using this)
  have q0 := B0.out.cell 0
  have q1 := B0.out.cell 1
  have q2 := B0.out.cell 2
  have q3 := B0.out.cell 3
  simp only [List.getElem?_toArray, List.getElem?_cons_zero, List.getElem?_cons_succ] at q0 q1 q2 q3
  have HFT := Lib.hid ft
  have HFA := Lib.hid f0
  clear ft f0
  have HCF := Lib.hid (fitsText _ _ l r W (IsQ.below HTQ.out hb) (LAmendment.IsQ.is (LAmendment.IsQ.below HIA.out hb)) HFT.out HFA.out (by have := HN.out; omega))
  cases gg : (textB l && (good r && fits l r)) with
  | false =>
    have HA := Lib.hid (no gg)
    rw [gg] at HCF
    clear gg
    go_enter Try.func29, Try.ntmps29
    go_wp2_with fail
    rw [← hW]
    clear hW
    refine HCF.out.mono ?_
    rintro e w1 ⟨rfl, hb1⟩
    have hb2 := hb.trans (hb1.mono hb.size)
    replace BR := Lib.hid (BR.out.kept hb1)
    clear hb1
    have BR5 := BR.out
    have r0 := BR5.cell 0
    have r1 := BR5.cell 1
    have r2 := BR5.cell 2
    have r3 := BR5.cell 3
    simp only [List.getElem?_toArray, List.getElem?_cons_zero, List.getElem?_cons_succ] at r0 r1 r2 r3
    have z0 := BR5.frozen 0
    have z1 := BR5.frozen 1
    have z2 := BR5.frozen 2
    have z3 := BR5.frozen 3
    have hRF := (Bx.set_ (Bx.set_ (Bx.set_ (Bx.set_ BR5 0 (.int .i64 0)) 1 (.int .i64 0)) 2 (.int .i64 0)) 3 (.slice none 0 0))
    have c0 := hRF.cell 0
    have c1 := hRF.cell 1
    have c2 := hRF.cell 2
    have c3 := hRF.cell 3
    simp at c0 c1 c2 c3
    clear hRF
    go_wp2_with fail
    refine bodyPost_ret (v := .tuple #[.agg #[.int .i64 0, .int .i64 0, .int .i64 0, .slice none 0 0], .bool false]) (by simp [results, Try.results29, go_sem, c0, c1, c2, c3]) rfl ?_
    exact ⟨_, zeroM, false, rfl, HA.out, LAmendment.Own.zero, (Below.setCell (Below.setCell (Below.setCell (Below.setCell hb2 (p := ⟨w.heap.size + 1, 0, none⟩) (by show w.heap.size ≤ w.heap.size + 1; omega) (.int .i64 0)) (p := ⟨w.heap.size + 1, 1, none⟩) (by show w.heap.size ≤ w.heap.size + 1; omega) (.int .i64 0)) (p := ⟨w.heap.size + 1, 2, none⟩) (by show w.heap.size ≤ w.heap.size + 1; omega) (.int .i64 0)) (p := ⟨w.heap.size + 1, 3, none⟩) (by show w.heap.size ≤ w.heap.size + 1; omega) (.slice none 0 0))⟩
  | true =>
  have HA := Lib.hid (yes gg)
  obtain ⟨g1, g2, g3⟩ := parts gg
  rw [gg] at HCF
  obtain ⟨⟨p1, p2⟩, hw5, hk5, c1, c2⟩ := good_parts g2
  obtain ⟨f1, f2, _⟩ := fits_parts g3
  have hw := words_len hw5
  have hl20 := words_len g1
  rw [HN.out] at f1 hl20
  rw [HN3.out] at hw
  clear gg g1 g2 g3 hw5 hk5 f2
  go_enter Try.func29, Try.ntmps29
  go_wp2_with fail
  rw [← hW]
  clear hW
  refine HCF.out.mono ?_
  rintro e w1 ⟨rfl, hb1⟩
  replace B0 := Lib.hid (B0.out.kept hb1)
  replace BR := Lib.hid (BR.out.kept hb1)
  replace HZ := Lib.hid (show w.heap.size + 2 ≤ w1.heap.size by have := HZ.out; have := hb1.size; omega)
  replace hb := hb.trans (hb1.mono hb.size)
  clear hb1 q0 q1 q2 q3
  have q0 := B0.out.cell 0
  have q1 := B0.out.cell 1
  have q2 := B0.out.cell 2
  have q3 := B0.out.cell 3
  simp only [List.getElem?_toArray, List.getElem?_cons_zero, List.getElem?_cons_succ] at q0 q1 q2 q3
  have s0 : IntKind.i64.wrap (r.pos + r.count) = r.pos + r.count := IntWalk.i64_in _ (by omega)
  have s1 : r.pos ≤ r.pos + r.count := by omega
  have s2 : r.pos + r.count ≤ (c : Int) := by omega
  obtain ⟨t, ht⟩ : ∃ t, (if c = r.pos.toNat then ao else Option.map (fun x => x.add r.pos.toNat) ao) = t := ⟨_, rfl⟩
  have HC := Lib.hid (fun w2 (hB : Below w1.heap.size w1 w2) => changeOf r.pos (.slice a3 n3 c3) (.slice t ((r.pos + r.count).toNat - r.pos.toNat) (c - r.pos.toNat)) r.words (cut l r) w2 (IsQ.is (IsQ.below HQ.out (hb.trans (hB.mono hb.size)))) (IsQ.is (cut_is (IsQ.below HTQ.out (hb.trans (hB.mono hb.size))) p1 c1 (by omega) ht.symm)) (by unfold cut; rw [List.length_take]; omega))
  rw [show mkKind r.pos (r.words.length : Int) (cut l r) = inverse l r from rfl] at HC
  go_upto_region 4 with fail
  have HK := Lib.hid (show ∀ w' : World, Below w1.heap.size w1 w' → w'.cell? ⟨w.heap.size, 0, none⟩ = some (.int .i64 r.kind) ∧ w'.cell? ⟨w.heap.size, 1, none⟩ = some (.int .i64 r.pos) ∧ w'.cell? ⟨w.heap.size, 2, none⟩ = some (.int .i64 r.count) ∧ w'.cell? ⟨w.heap.size, 3, none⟩ = some (.slice a3 n3 c3) from fun w' hB => ⟨by have h := (B0.out.kept hB).cell 0; simpa using h, by have h := (B0.out.kept hB).cell 1; simpa using h, by have h := (B0.out.kept hB).cell 2; simpa using h, by have h := (B0.out.kept hB).cell 3; simpa using h⟩)
  have hB : Below w1.heap.size w1 w1.drew := (Below.refl _ _).drew
  have hXR := BR.out.kept hB
  have hXP := B0.out.kept hB
  refine wp_region_held_drew (S := fun w' => w'.cell? ⟨w.heap.size, 0, none⟩ = some (.int .i64 r.kind) ∧ w'.cell? ⟨w.heap.size, 1, none⟩ = some (.int .i64 r.pos) ∧ w'.cell? ⟨w.heap.size, 2, none⟩ = some (.int .i64 r.count) ∧ w'.cell? ⟨w.heap.size, 3, none⟩ = some (.slice a3 n3 c3)) (by kernel_rfl) (HK.out _ hB) (fun hHeld => ?_)
  generalize w1.drew = x0 at *
  refine wpAnyH_take (i := 0) (v := ?v1) rfl (by kernel_rfl) (by kernel_rfl) (by kernel_rfl) (fun _ _ _ h => h) (Or.inl ⟨by rfl, ?hy1⟩) (by assumption) ?rest1
  case hy1 => (intro wq hSw; (try dsimp only at hSw); go_split_ands; go_simp; (try with_reducible rfl))
  case rest1 =>
  refine wpAnyH_take (i := 1) (v := ?v2) rfl (by kernel_rfl) (by kernel_rfl) (by kernel_rfl) (fun _ _ _ h => h) (Or.inl ⟨by rfl, ?hy2⟩) (by assumption) ?rest2
  case hy2 => (intro wq hSw; (try dsimp only at hSw); go_split_ands; go_simp; (try with_reducible rfl))
  case rest2 =>
  refine wpAnyH_take (i := 2) (v := ?v3) rfl (by kernel_rfl) (by kernel_rfl) (by kernel_rfl) (fun _ _ _ h => h) (Or.inl ⟨by rfl, ?hy3⟩) (by assumption) ?rest3
  case hy3 => (intro wq hSw; (try dsimp only at hSw); go_split_ands; go_simp; (try with_reducible rfl))
  case rest3 =>
  refine wpAnyH_take (i := 3) (v := ?v4) rfl (by kernel_rfl) (by kernel_rfl) (by kernel_rfl) (fun _ _ _ h => h) (Or.inl ⟨by rfl, ?hy4⟩) (by assumption) ?rest4
  case hy4 => (intro wq hSw; (try dsimp only at hSw); go_split_ands; go_simp; (try with_reducible rfl))
  case rest4 =>
  refine wpAnyH_take (i := 4) (v := ?v5) rfl (by kernel_rfl) (by kernel_rfl) (by kernel_rfl) (fun _ _ _ h => h) (Or.inl ⟨by rfl, ?hy5⟩) (by assumption) ?rest5
  case hy5 => (intro wq hSw; (try dsimp only at hSw); go_split_ands; go_simp; (try with_reducible rfl))
  case rest5 =>
  refine wpAnyH_take (i := 5) (v := ?v6) rfl (by kernel_rfl) (by kernel_rfl) (by kernel_rfl) (fun _ _ _ h => h) (Or.inl ⟨by rfl, ?hy6⟩) (by assumption) ?rest6
  case hy6 => (intro wq hSw; (try dsimp only at hSw); go_split_ands; go_simp; (try with_reducible rfl))
  case rest6 =>
  refine wpAnyH_take (i := 6) (v := ?v7) rfl (by kernel_rfl) (by kernel_rfl) (by kernel_rfl) (fun _ _ _ h => h) (Or.inl ⟨by rfl, ?hy7⟩) (by assumption) ?rest7
  case hy7 => (intro wq hSw; (try dsimp only at hSw); go_split_ands; go_simp; (try with_reducible rfl))
  case rest7 =>
  refine wpAnyH_take (i := 7) (v := ?v8) rfl (by kernel_rfl) (by kernel_rfl) (by kernel_rfl) (fun _ _ _ h => h) (Or.inl ⟨by rfl, ?hy8⟩) (by assumption) ?rest8
  case hy8 => (intro wq hSw; (try dsimp only at hSw); go_split_ands; go_simp; (try with_reducible rfl))
  case rest8 =>
  refine wpAnyH_take (i := 8) (v := ?v9) rfl (by kernel_rfl) (by kernel_rfl) (by kernel_rfl) (fun _ _ _ h => h) (Or.inl ⟨by rfl, ?hy9⟩) (by assumption) ?rest9
  case hy9 => (intro wq hSw; (try dsimp only at hSw); go_split_ands; go_simp; (try with_reducible rfl))
  case rest9 =>
  refine wpAnyH_take (i := 9) (v := ?v10) rfl (by kernel_rfl) (by kernel_rfl) (by kernel_rfl) (fun _ _ _ h => h) (Or.inl ⟨by rfl, ?hy10⟩) (by assumption) ?rest10
  case hy10 => (intro wq hSw; (try dsimp only at hSw); go_split_ands; go_simp; (try with_reducible rfl))
  case rest10 =>
  refine wpAnyH_take (i := 10) (v := ?v11) rfl (by kernel_rfl) (by kernel_rfl) (by kernel_rfl) (fun _ _ _ h => h) (Or.inl ⟨by rfl, ?hy11⟩) (by assumption) ?rest11
  case hy11 => (intro wq hSw; (try dsimp only at hSw); go_split_ands; go_simp; (try with_reducible rfl))
  case rest11 =>
  refine wpAnyH_take (i := 11) (v := ?v12) rfl (by kernel_rfl) (by kernel_rfl) (by kernel_rfl) (fun _ _ _ h => h) (Or.inl ⟨by rfl, ?hy12⟩) (by assumption) ?rest12
  case hy12 => (intro wq hSw; (try dsimp only at hSw); go_split_ands; go_simp; (try with_reducible rfl))
  case rest12 =>
  refine wpAnyH_take (i := 12) (v := ?v13) rfl (by kernel_rfl) (by kernel_rfl) (by kernel_rfl) (fun _ _ _ h => h) (Or.inl ⟨by rfl, ?hy13⟩) (by assumption) ?rest13
  case hy13 => (intro wq hSw; (try dsimp only at hSw); go_split_ands; go_simp; (try with_reducible rfl))
  case rest13 =>
  refine wpAnyH_ready (rs := [13]) (by kernel_rfl) (by simp) ?_
  refine AllReadyH.cons rfl (fun K hK => ?step14) ?more14
  case step14 =>
    go_simp
    go_at_call 52
    refine (HC.out _ hB).mono ?_
    rintro e x1 ⟨v1, rfl, ho, hbc⟩
    obtain ⟨s3, rfl, ho3⟩ := ho
    obtain ⟨fa, fn, fc, rfl⟩ := own_slice ho3
    have hNZ : ∀ k, (Value.slice fa fn fc).ownBlock = some k → k ≠ w.heap.size + 1 := fun k hk => by have h1 := (ho3.lt k hk).1; have h2 := hB.size; have h3 := HZ.out; omega
    replace ho3 := ho3.low (show w.heap.size ≤ _ by have h2 := hB.size; have h3 := HZ.out; omega)
    replace hXR := hXR.kept hbc
    replace hXP := hXP.kept hbc
    replace hB := hB.trans (hbc.mono hB.size)
    have hBw := hb.trans (hB.mono hb.size)
    clear hbc
    go_wp2_with fail
    refine hK.out _ _ (HK.out _ hB) (fun hHeld => ?_)
    clear hK K
    refine wpAnyH_ready (rs := [14]) (by kernel_rfl) (by simp) ?_
    refine AllReadyH.cons rfl (fun K hK => ?step15) ?more15
    case step15 =>
      have c0 := hXR.cell 0
      have f0 := hXR.frozen 0
      have c1 := hXR.cell 1
      have f1 := hXR.frozen 1
      have c2 := hXR.cell 2
      have f2 := hXR.frozen 2
      have c3 := hXR.cell 3
      have f3 := hXR.frozen 3
      simp only [List.getElem?_toArray, List.getElem?_cons_zero, List.getElem?_cons_succ] at c0 c1 c2 c3
      have hXs := (Bx.set_ (Bx.set_ (Bx.set_ (Bx.set_ hXR 0 (.int .i64 (inverse l r).kind)) 1 (.int .i64 (inverse l r).pos)) 2 (.int .i64 (inverse l r).count)) 3 (.slice fa fn fc))
      have hPs := (Bx.far (p := ⟨w.heap.size + 1, 3, none⟩) (Bx.far (p := ⟨w.heap.size + 1, 2, none⟩) (Bx.far (p := ⟨w.heap.size + 1, 1, none⟩) (Bx.far (p := ⟨w.heap.size + 1, 0, none⟩) hXP (show w.heap.size ≠ w.heap.size + 1 by omega) (.int .i64 (inverse l r).kind)) (show w.heap.size ≠ w.heap.size + 1 by omega) (.int .i64 (inverse l r).pos)) (show w.heap.size ≠ w.heap.size + 1 by omega) (.int .i64 (inverse l r).count)) (show w.heap.size ≠ w.heap.size + 1 by omega) (.slice fa fn fc))
      have hos := (own_set (own_set (own_set (own_set ho3 (p := ⟨w.heap.size + 1, 0, none⟩) hNZ (.int .i64 (inverse l r).kind)) (p := ⟨w.heap.size + 1, 1, none⟩) hNZ (.int .i64 (inverse l r).pos)) (p := ⟨w.heap.size + 1, 2, none⟩) hNZ (.int .i64 (inverse l r).count)) (p := ⟨w.heap.size + 1, 3, none⟩) hNZ (.slice fa fn fc))
      have hBs := (Below.setCell (Below.setCell (Below.setCell (Below.setCell hBw (p := ⟨w.heap.size + 1, 0, none⟩) (by show w.heap.size ≤ w.heap.size + 1; omega) (.int .i64 (inverse l r).kind)) (p := ⟨w.heap.size + 1, 1, none⟩) (by show w.heap.size ≤ w.heap.size + 1; omega) (.int .i64 (inverse l r).pos)) (p := ⟨w.heap.size + 1, 2, none⟩) (by show w.heap.size ≤ w.heap.size + 1; omega) (.int .i64 (inverse l r).count)) (p := ⟨w.heap.size + 1, 3, none⟩) (by show w.heap.size ≤ w.heap.size + 1; omega) (.slice fa fn fc))
      go_simp
      refine hK.out _ _ ⟨by have h := hPs.cell 0; simpa using h, by have h := hPs.cell 1; simpa using h, by have h := hPs.cell 2; simpa using h, by have h := hPs.cell 3; simpa using h⟩ (fun hHeld => ?_)
      clear hK K
      clear hXR hXP ho3 hB hBw c0 f0 c1 f1 c2 f2 c3 f3
      simp at hXs
      refine wpAnyH_take (i := 15) (v := ?v16) rfl (by kernel_rfl) (by kernel_rfl) (by kernel_rfl) (fun _ _ _ h => h) (Or.inl ⟨by rfl, ?hy16⟩) (by assumption) ?rest16
      case hy16 => (intro wq hSw; (try dsimp only at hSw); go_split_ands; go_simp; (try with_reducible rfl))
      case rest16 =>
      refine wpAnyH_done (by kernel_rfl) ?_ _
      have hRF := hXs
      have c0 := hRF.cell 0
      have c1 := hRF.cell 1
      have c2 := hRF.cell 2
      have c3 := hRF.cell 3
      simp at c0 c1 c2 c3
      clear hRF
      go_wp2_with fail
      refine bodyPost_ret (v := .tuple #[.agg #[.int .i64 (inverse l r).kind, .int .i64 (inverse l r).pos, .int .i64 (inverse l r).count, .slice fa fn fc], .bool true]) (by simp [results, Try.results29, go_sem, c0, c1, c2, c3]) rfl ?_
      exact ⟨_, _, true, rfl, HA.out, ⟨_, rfl, hos⟩, hBs⟩
    case more15 => exact AllReadyH.nil
  case more14 => exact AllReadyH.nil

end Go.Proofs.Ytfkppgnffhbfjaa.AmI
