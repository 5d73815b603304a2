/- A text amended: the model and the program. No condition. -/
import Derived.Test.YtclpdpfnlmfogaaDoorAmF
import Derived.Test.YtclpdpfnlmfogaaDoorAmK
import Derived.Test.YtclpdpfnlmfogaaDoorLStringKconcat
import Derived.Test.YtclpdpfnlmfogaaDoorAppO
import Derived.Deep.DeepCutAuto
namespace Go.Proofs.YtclpdpfnlmfogaaDoor.AmP
open Go.RowKit Bs Word Am AmA AmG AmE AmF
set_option linter.unusedVariables false
theorem isq_from {α : Type} {R : Rec α} {w : World} {ao t : Option Addr} {n c : Nat} {xs : List α} (h : IsQ R w (.slice ao n c) xs) (l : Nat) (hl : l ≤ n) (ht : t = if c = l then ao else ao.map (fun x => x.add (l * R.n))) (k d : Nat) (hk : k = n - l) (hd : d = c - l) : IsQ R w (.slice t k d) (xs.drop l) := by
  have hn := (isq_len h).1
  have := isq_sub h l n hl (Nat.le_refl _) ht k d hk hd
  rwa [List.take_of_length_le (by rw [List.length_drop]; omega)] at this
theorem isq_upto {α : Type} {R : Rec α} {w : World} {ao t : Option Addr} {n c : Nat} {xs : List α} (h : IsQ R w (.slice ao n c) xs) (m : Nat) (hm : m ≤ n) (ht : t = ao) : IsQ R w (.slice t m c) (xs.take m) := by
  subst ht
  have := isq_sub h 0 m (Nat.zero_le _) hm (t := t) (by
    cases t with
    | none => simp
    | some a => obtain ⟨b, o, s⟩ := a; simp [Addr.add]) m c (by omega) (by omega)
  simpa using this
set_option maxRecDepth 100000 in
set_option maxHeartbeats 1600000 in
theorem l9Apply (v v0 : Value) (l : T) (r : M) (w : World) (h : IsQ LString.rec w v l) (h0 : LAmendment.IsQ w v0 r) (hg : good r = true) (hl : l.length ≤ 20) (hf : r.pos + r.count ≤ l.length) :
    Calls Tryd.prog 82 #[v, v0] w fun e w' => ∃ v', e = .returned v' ∧ Own LString.rec 9 w' w.heap.size v' (apply l r) ∧ Below w.heap.size w w' := by
  obtain ⟨s3, rfl, hq⟩ := h0
  obtain ⟨a3, n3, c3, rfl⟩ := isq_slice hq
  obtain ⟨hn3, hb3, hm3⟩ := isq_len hq
  unfold maxLen at hm3
  have HN3 := Lib.hid hn3
  clear hn3
  obtain ⟨ao, n, c, rfl⟩ := isq_slice h
  obtain ⟨hn, hnc, hcm⟩ := isq_len h
  unfold maxLen at hcm
  have HN := Lib.hid hn
  rw [hn] at hl hf
  clear hn
  obtain ⟨⟨p1, p2⟩, hw5, hk5, c1, c2⟩ := good_parts hg
  have hw := words_len hw5
  rw [HN3.out] at hw
  clear hw5 hg hk5
  obtain ⟨i0, hi, hz0, hz1, hz2⟩ := info_parts LString.infoK
  have HI0 := Lib.hid hi
  have HZ0 := Lib.hid (And.intro hz0 (And.intro hz1 hz2))
  clear hi hz0 hz1 hz2
  obtain ⟨W, hW⟩ : ∃ W : World, W = w.alloc (Obj.cells #[.int .i64 r.kind, .int .i64 r.pos, .int .i64 r.count, .slice a3 n3 c3] 26) := ⟨_, rfl⟩
  have hb : Below w.heap.size w W := by rw [hW]; exact (Below.refl _ _).alloc (Nat.le_refl _) _
  have B0 := Lib.hid (show Bx W w.heap.size 26 #[.int .i64 r.kind, .int .i64 r.pos, .int .i64 r.count, .slice a3 n3 c3] by rw [hW]; exact Bx.new _ _ _)
  have q0 := B0.out.cell 0
  have q1 := B0.out.cell 1
  have q2 := B0.out.cell 2
  have q3 := B0.out.cell 3
  simp only [List.getElem?_toArray, List.getElem?_cons_zero, List.getElem?_cons_succ] at q0 q1 q2 q3
  have HK := Lib.hid (show ∀ w' : World, Below W.heap.size W w' → Below W.heap.size W w' ∧ w'.cell? ⟨w.heap.size, 0, none⟩ = some (.int .i64 r.kind) ∧ w'.cell? ⟨w.heap.size, 1, none⟩ = some (.int .i64 r.pos) ∧ w'.cell? ⟨w.heap.size, 2, none⟩ = some (.int .i64 r.count) ∧ w'.cell? ⟨w.heap.size, 3, none⟩ = some (.slice a3 n3 c3) from fun w' hB => ⟨hB, by have h := (B0.out.kept hB).cell 0; simpa using h, by have h := (B0.out.kept hB).cell 1; simpa using h, by have h := (B0.out.kept hB).cell 2; simpa using h, by have h := (B0.out.kept hB).cell 3; simpa using h⟩)
  obtain ⟨t2, ht2⟩ : ∃ t, (if c = (r.pos + r.count).toNat then ao else Option.map (fun x => x.add (r.pos + r.count).toNat) ao) = t := ⟨_, rfl⟩
  have HF1 := Lib.hid (show ∀ w' : World, Below W.heap.size W w' → Feeds w' ao r.pos.toNat c (flat LString.rec (l.take r.pos.toNat)) from fun w' hB => (IsQ.src (isq_upto (IsQ.below h (hb.trans (hB.mono hb.size))) r.pos.toNat (by omega) rfl)).1)
  have HF2 := Lib.hid (show ∀ w' : World, Below W.heap.size W w' → Feeds w' a3 n3 c3 (flat LString.rec r.words) from fun w' hB => (IsQ.src (IsQ.below hq (hb.trans (hB.mono hb.size)))).1)
  have HF3 := Lib.hid (show ∀ w' : World, Below W.heap.size W w' → Feeds w' t2 (n - (r.pos + r.count).toNat) (c - (r.pos + r.count).toNat) (flat LString.rec (l.drop (r.pos + r.count).toNat)) from fun w' hB => (IsQ.src (isq_from (IsQ.below h (hb.trans (hB.mono hb.size))) (r.pos + r.count).toNat (by omega) (by rw [← ht2]; show _ = if c = (r.pos + r.count).toNat then ao else ao.map (fun x => x.add ((r.pos + r.count).toNat * 1)); rw [Nat.mul_one]) _ _ rfl rfl)).1)
  have s0 : IntKind.i64.wrap (r.pos + r.count) = r.pos + r.count := IntWalk.i64_in _ (by omega)
  have s1 : 0 ≤ r.pos + r.count := by omega
  have HAP := Lib.hid (show apply l r = l.take r.pos.toNat ++ (r.words ++ l.drop (r.pos + r.count).toNat) by unfold apply; rw [List.append_assoc, show r.pos.toNat + r.count.toNat = (r.pos + r.count).toNat by omega])
  have s2 : r.pos ≤ (c : Int) := by omega
  have s3 : r.pos + r.count ≤ (n : Int) := by omega
  clear h hq
  go_enter Tryd.func82, Tryd.ntmps82
  go_upto_region 1 with fail
  rw [← hW]
  clear hW
  have hB : Below W.heap.size W W.drew := (Below.refl _ _).drew
  refine wp_region_held_drew (S := fun w' => Below W.heap.size W w' ∧ w'.cell? ⟨w.heap.size, 0, none⟩ = some (.int .i64 r.kind) ∧ w'.cell? ⟨w.heap.size, 1, none⟩ = some (.int .i64 r.pos) ∧ w'.cell? ⟨w.heap.size, 2, none⟩ = some (.int .i64 r.count) ∧ w'.cell? ⟨w.heap.size, 3, none⟩ = some (.slice a3 n3 c3)) (by kernel_rfl) (HK.out _ hB) (fun hHeld => ?_)
  generalize W.drew = x0 at *
  refine wpAnyH_take (i := 1) (v := ?v1) rfl (by kernel_rfl) (by kernel_rfl) (by kernel_rfl) (fun _ _ _ h => h) (Or.inl ⟨by rfl, ?hy1⟩) (by assumption) ?rest1
  case hy1 => (intro wq hSw; (try dsimp only at hSw); go_split_ands; go_simp; (try with_reducible rfl))
  case rest1 =>
  refine wpAnyH_take (i := 2) (v := ?v2) rfl (by kernel_rfl) (by kernel_rfl) (by kernel_rfl) (fun _ _ _ h => h) (Or.inl ⟨by rfl, ?hy2⟩) (by assumption) ?rest2
  case hy2 => (intro wq hSw; (try dsimp only at hSw); go_split_ands; go_simp; (try with_reducible rfl))
  case rest2 =>
  refine wpAnyH_take (i := 3) (v := ?v3) rfl (by kernel_rfl) (by kernel_rfl) (by kernel_rfl) (fun _ _ _ h => h) (Or.inl ⟨by rfl, ?hy3⟩) (by assumption) ?rest3
  case hy3 => (intro wq hSw; (try dsimp only at hSw); go_split_ands; go_simp; (try with_reducible rfl))
  case rest3 =>
  refine wpAnyH_take (i := 4) (v := ?v4) rfl (by kernel_rfl) (by kernel_rfl) (by kernel_rfl) (fun _ _ _ h => h) (Or.inl ⟨by rfl, ?hy4⟩) (by assumption) ?rest4
  case hy4 => (intro wq hSw; (try dsimp only at hSw); go_split_ands; go_simp; (try with_reducible rfl))
  case rest4 =>
  refine wpAnyH_take (i := 6) (v := ?v5) rfl (by kernel_rfl) (by kernel_rfl) (by kernel_rfl) (fun _ _ _ h => h) (Or.inl ⟨by rfl, ?hy5⟩) (by assumption) ?rest5
  case hy5 => (intro wq hSw; (try dsimp only at hSw); go_split_ands; go_simp; (try with_reducible rfl))
  case rest5 =>
  refine wpAnyH_take (i := 7) (v := ?v6) rfl (by kernel_rfl) (by kernel_rfl) (by kernel_rfl) (fun _ _ _ h => h) (Or.inl ⟨by rfl, ?hy6⟩) (by assumption) ?rest6
  case hy6 => (intro wq hSw; (try dsimp only at hSw); go_split_ands; go_simp; (try with_reducible rfl))
  case rest6 =>
  refine wpAnyH_take (i := 9) (v := ?v7) rfl (by kernel_rfl) (by kernel_rfl) (by kernel_rfl) (fun _ _ _ h => h) (Or.inl ⟨by rfl, ?hy7⟩) (by assumption) ?rest7
  case hy7 => (intro wq hSw; (try dsimp only at hSw); go_split_ands; go_simp; (try with_reducible rfl))
  case rest7 =>
  refine wpAnyH_take (i := 10) (v := ?v8) rfl (by kernel_rfl) (by kernel_rfl) (by kernel_rfl) (fun _ _ _ h => h) (Or.inl ⟨by rfl, ?hy8⟩) (by assumption) ?rest8
  case hy8 => (intro wq hSw; (try dsimp only at hSw); go_split_ands; go_simp; (try with_reducible rfl))
  case rest8 =>
  refine wpAnyH_take (i := 11) (v := ?v9) rfl (by kernel_rfl) (by kernel_rfl) (by kernel_rfl) (fun _ _ _ h => h) (Or.inl ⟨by rfl, ?hy9⟩) (by assumption) ?rest9
  case hy9 => (intro wq hSw; (try dsimp only at hSw); go_split_ands; go_simp; (try with_reducible rfl))
  case rest9 =>
  refine wpAnyH_take (i := 12) (v := ?v10) rfl (by kernel_rfl) (by kernel_rfl) (by kernel_rfl) (fun _ _ _ h => h) (Or.inl ⟨by rfl, ?hy10⟩) (by assumption) ?rest10
  case hy10 => (intro wq hSw; (try dsimp only at hSw); go_split_ands; go_simp; (try with_reducible rfl))
  case rest10 =>
  refine wpAnyH_take (i := 13) (v := ?v11) rfl (by kernel_rfl) (by kernel_rfl) (by kernel_rfl) (fun _ _ _ h => h) (Or.inl ⟨by rfl, ?hy11⟩) (by assumption) ?rest11
  case hy11 => (intro wq hSw; (try dsimp only at hSw); go_split_ands; go_simp; (try with_reducible rfl))
  case rest11 =>
  refine wpAnyH_take (i := 14) (v := ?v12) rfl (by kernel_rfl) (by kernel_rfl) (by kernel_rfl) (fun _ _ _ h => h) (Or.inl ⟨by rfl, ?hy12⟩) (by assumption) ?rest12
  case hy12 => (intro wq hSw; (try dsimp only at hSw); go_split_ands; go_simp; (try with_reducible rfl))
  case rest12 =>
  refine wpAnyH_take (i := 15) (v := ?v13) rfl (by kernel_rfl) (by kernel_rfl) (by kernel_rfl) (fun _ _ _ h => h) (Or.inl ⟨by rfl, ?hy13⟩) (by assumption) ?rest13
  case hy13 => (intro wq hSw; (try dsimp only at hSw); go_split_ands; go_simp; (try with_reducible rfl))
  case rest13 =>
  refine wpAnyH_ready (rs := [0]) (by kernel_rfl) (by simp) ?_
  refine AllReadyH.cons rfl (fun K hK => ?step14) ?more14
  case step14 =>
    go_simp
    refine hK.out _ _ (HK.out _ (hB.alloc hB.size _)) (fun hHeld => ?_)
    clear hK K
    have hO1 : Own LString.rec 9 (x0.alloc (Obj.cells #[] 9)) W.heap.size (.slice (some ⟨x0.heap.size, 0, none⟩) 0 0) [] := own_start hB.size
    replace hB := hB.alloc hB.size (Obj.cells #[] 9)
    generalize x0.alloc (Obj.cells #[] 9) = x1 at *
    generalize x0.heap.size = g1x1 at *
    refine wpAnyH_ready (rs := [5]) (by kernel_rfl) (by simp) ?_
    refine AllReadyH.cons rfl (fun K hK => ?step15) ?more15
    case step15 =>
      refine step_append_o (T := LString.rec) (by rfl) (.tmp 5) (.tmp 9) 24 (by rfl) W.heap.size 9 i0 (.string ⟨#[]⟩) 16 Tryd.underlying24 HI0.out HZ0.out.1 HZ0.out.2.1 HZ0.out.2.2 (by decide) _ _ (by rfl) hO1 (ao) (r.pos.toNat) (c) (l.take r.pos.toNat) (by rfl) (by rw [List.length_take]; have := HN.out; omega) (HF1.out _ hB) (by have := HN3.out; simp; unfold maxLen; omega) (by have := HN3.out; simp; omega) hB.size ?_
      intro vx2 x2 hown hgrow hnn hat
      have hB2 := below_grown hB hgrow hB.size (fun k hk => (hO1.lt k hk).1)
      refine hK.out _ _ (HK.out _ hB2) (fun hHeld => ?_)
      clear hK K
      clear hO1 hB hgrow hat hnn
      have hO1 := hown
      have hB := hB2
      clear hown hB2
      refine wpAnyH_ready (rs := [8]) (by kernel_rfl) (by simp) ?_
      refine AllReadyH.cons rfl (fun K hK => ?step16) ?more16
      case step16 =>
        refine step_append_o (T := LString.rec) (by rfl) (.tmp 10) (.tmp 12) 24 (by rfl) W.heap.size 9 i0 (.string ⟨#[]⟩) 16 Tryd.underlying24 HI0.out HZ0.out.1 HZ0.out.2.1 HZ0.out.2.2 (by decide) _ _ (by rfl) hO1 (a3) (n3) (c3) (r.words) (by rfl) (by exact HN3.out) (HF2.out _ hB) (by have := HN3.out; simp; unfold maxLen; omega) (by have := HN3.out; simp; omega) hB.size ?_
        intro vx3 x3 hown hgrow hnn hat
        have hB2 := below_grown hB hgrow hB.size (fun k hk => (hO1.lt k hk).1)
        refine hK.out _ _ (HK.out _ hB2) (fun hHeld => ?_)
        clear hK K
        clear hO1 hB hgrow hat hnn
        have hO1 := hown
        have hB := hB2
        clear hown hB2
        refine wpAnyH_ready (rs := [16]) (by kernel_rfl) (by simp) ?_
        refine AllReadyH.cons rfl (fun K hK => ?step17) ?more17
        case step17 =>
          refine step_append_o (T := LString.rec) (by rfl) (.tmp 13) (.tmp 20) 24 (by rfl) W.heap.size 9 i0 (.string ⟨#[]⟩) 16 Tryd.underlying24 HI0.out HZ0.out.1 HZ0.out.2.1 HZ0.out.2.2 (by decide) _ _ (by rfl) hO1 (t2) (n - (r.pos + r.count).toNat) (c - (r.pos + r.count).toNat) (l.drop (r.pos + r.count).toNat) (by rfl) (by rw [List.length_drop]; have := HN.out; omega) (HF3.out _ hB) (by have := HN3.out; simp; unfold maxLen; omega) (by have := HN3.out; simp; omega) hB.size ?_
          intro vx4 x4 hown hgrow hnn hat
          have hB2 := below_grown hB hgrow hB.size (fun k hk => (hO1.lt k hk).1)
          refine hK.out _ _ (HK.out _ hB2) (fun hHeld => ?_)
          clear hK K
          clear hO1 hB hgrow hat hnn
          have hO1 := hown
          have hB := hB2
          clear hown hB2
          refine wpAnyH_take (i := 17) (v := ?v18) rfl (by kernel_rfl) (by kernel_rfl) (by kernel_rfl) (fun _ _ _ h => h) (Or.inl ⟨by rfl, ?hy18⟩) (by assumption) ?rest18
          case hy18 => (intro wq hSw; (try dsimp only at hSw); go_split_ands; go_simp; (try with_reducible rfl))
          case rest18 =>
          refine wpAnyH_done (by kernel_rfl) ?_ _
          go_wp2_with fail
          all_goals
            go_ret
            exact ⟨vx4, by go_simp, by rw [HAP.out]; simpa using Own.low hO1 hb.size, hb.trans (hB.mono hb.size)⟩
        case more17 => exact AllReadyH.nil
      case more16 => exact AllReadyH.nil
    case more15 => exact AllReadyH.nil
  case more14 => exact AllReadyH.nil

set_option maxRecDepth 100000 in
set_option maxHeartbeats 1600000 in
theorem spliced (ao a3 : Option Addr) (n c n3 c3 : Nat) (l ws : T) (p k : Int) (w : World) (h : IsQ LString.rec w (.slice ao n c) l) (hq : IsQ LString.rec w (.slice a3 n3 c3) ws) (hp : 0 ≤ p) (hk : 0 ≤ k) (hf : p + k ≤ n) (hl : n ≤ 1000) (hw : n3 ≤ 1000) :
    Calls Tryd.prog 69 #[.slice ao n c, .int .i64 p, .int .i64 k, .slice a3 n3 c3] w fun e w' => ∃ v', e = .returned v' ∧ Own LString.rec 9 w' w.heap.size v' (l.take p.toNat ++ ws ++ l.drop (p + k).toNat) ∧ Below w.heap.size w w' := by
  obtain ⟨hn, hnc, hcm⟩ := isq_len h
  obtain ⟨hn3, hb3, hm3⟩ := isq_len hq
  unfold maxLen at hcm hm3
  have HN := Lib.hid hn
  have HN3 := Lib.hid hn3
  have HSUM := Lib.hid (show (l.take p.toNat ++ ws ++ l.drop (p + k).toNat).length ≤ 3000 by simp; omega)
  clear hn hn3
  obtain ⟨W, hW⟩ : ∃ W : World, W = w := ⟨_, rfl⟩
  subst hW
  have HK := Lib.hid (show ∀ w' : World, Below W.heap.size W w' → Below W.heap.size W w' from fun w' hB => hB)
  obtain ⟨t2, ht2⟩ : ∃ t, (if c = (p + k).toNat then ao else Option.map (fun x => x.add (p + k).toNat) ao) = t := ⟨_, rfl⟩
  have HF1 := Lib.hid (show ∀ w' : World, Below W.heap.size W w' → IsQ LString.rec w' (.slice ao p.toNat c) (l.take p.toNat) from fun w' hB => isq_upto (IsQ.below h hB) p.toNat (by omega) rfl)
  have HF2 := Lib.hid (show ∀ w' : World, Below W.heap.size W w' → IsQ LString.rec w' (.slice a3 n3 c3) ws from fun w' hB => IsQ.below hq hB)
  have HF3 := Lib.hid (show ∀ w' : World, Below W.heap.size W w' → IsQ LString.rec w' (.slice t2 (n - (p + k).toNat) (c - (p + k).toNat)) (l.drop (p + k).toNat) from fun w' hB => isq_from (IsQ.below h hB) (p + k).toNat (by omega) (by rw [← ht2]; show _ = if c = (p + k).toNat then ao else ao.map (fun x => x.add ((p + k).toNat * 1)); rw [Nat.mul_one]) _ _ rfl rfl)
  have s0 : IntKind.i64.wrap (p + k) = p + k := IntWalk.i64_in _ (by omega)
  have s1 : 0 ≤ p + k := by omega
  have s2 : p ≤ (c : Int) := by omega
  have s3 : p + k ≤ (n : Int) := by omega
  clear h hq
  go_enter Tryd.func69, Tryd.ntmps69
  go_upto_region 1 with fail
  have hB : Below W.heap.size W W.drew := (Below.refl _ _).drew
  refine wp_region_held_drew (S := fun w' => Below W.heap.size W w') (by kernel_rfl) (HK.out _ hB) (fun hHeld => ?_)
  generalize W.drew = x0 at *
  refine wpAnyH_take (i := 0) (v := ?v1) rfl (by kernel_rfl) (by kernel_rfl) (by kernel_rfl) (fun _ _ _ h => h) (Or.inl ⟨by rfl, ?hy1⟩) (by assumption) ?rest1
  case hy1 => (intro wq hSw; (try dsimp only at hSw); go_split_ands; go_simp; (try with_reducible rfl))
  case rest1 =>
  refine wpAnyH_take (i := 1) (v := ?v2) rfl (by kernel_rfl) (by kernel_rfl) (by kernel_rfl) (fun _ _ _ h => h) (Or.inl ⟨by rfl, ?hy2⟩) (by assumption) ?rest2
  case hy2 => (intro wq hSw; (try dsimp only at hSw); go_split_ands; go_simp; (try with_reducible rfl))
  case rest2 =>
  refine wpAnyH_take (i := 2) (v := ?v3) rfl (by kernel_rfl) (by kernel_rfl) (by kernel_rfl) (fun _ _ _ h => h) (Or.inl ⟨by rfl, ?hy3⟩) (by assumption) ?rest3
  case hy3 => (intro wq hSw; (try dsimp only at hSw); go_split_ands; go_simp; (try with_reducible rfl))
  case rest3 =>
  refine wpAnyH_take (i := 3) (v := ?v4) rfl (by kernel_rfl) (by kernel_rfl) (by kernel_rfl) (fun _ _ _ h => h) (Or.inl ⟨by rfl, ?hy4⟩) (by assumption) ?rest4
  case hy4 => (intro wq hSw; (try dsimp only at hSw); go_split_ands; go_simp; (try with_reducible rfl))
  case rest4 =>
  refine wpAnyH_take (i := 4) (v := ?v5) rfl (by kernel_rfl) (by kernel_rfl) (by kernel_rfl) (fun _ _ _ h => h) (Or.inl ⟨by rfl, ?hy5⟩) (by assumption) ?rest5
  case hy5 => (intro wq hSw; (try dsimp only at hSw); go_split_ands; go_simp; (try with_reducible rfl))
  case rest5 =>
  refine wpAnyH_take (i := 5) (v := ?v6) rfl (by kernel_rfl) (by kernel_rfl) (by kernel_rfl) (fun _ _ _ h => h) (Or.inl ⟨by rfl, ?hy6⟩) (by assumption) ?rest6
  case hy6 => (intro wq hSw; (try dsimp only at hSw); go_split_ands; go_simp; (try with_reducible rfl))
  case rest6 =>
  refine wpAnyH_take (i := 6) (v := ?v7) rfl (by kernel_rfl) (by kernel_rfl) (by kernel_rfl) (fun _ _ _ h => h) (Or.inl ⟨by rfl, ?hy7⟩) (by assumption) ?rest7
  case hy7 => (intro wq hSw; (try dsimp only at hSw); go_split_ands; go_simp; (try with_reducible rfl))
  case rest7 =>
  refine wpAnyH_take (i := 7) (v := ?v8) rfl (by kernel_rfl) (by kernel_rfl) (by kernel_rfl) (fun _ _ _ h => h) (Or.inl ⟨by rfl, ?hy8⟩) (by assumption) ?rest8
  case hy8 => (intro wq hSw; (try dsimp only at hSw); go_split_ands; go_simp; (try with_reducible rfl))
  case rest8 =>
  refine wpAnyH_take (i := 8) (v := ?v9) rfl (by kernel_rfl) (by kernel_rfl) (by kernel_rfl) (fun _ _ _ h => h) (Or.inl ⟨by rfl, ?hy9⟩) (by assumption) ?rest9
  case hy9 => (intro wq hSw; (try dsimp only at hSw); go_split_ands; go_simp; (try with_reducible rfl))
  case rest9 =>
  refine wpAnyH_ready (rs := [9]) (by kernel_rfl) (by simp) ?_
  refine AllReadyH.cons rfl (fun K hK => ?step10) ?more10
  case step10 =>
    go_simp
    refine hK.out _ _ (HK.out _ (hB.alloc hB.size _)) (fun hHeld => ?_)
    clear hK K
    have hXL := Bx.new x0 24 #[.slice ao p.toNat c, .slice a3 n3 c3, .slice t2 (n - (p + k).toNat) (c - (p + k).toNat)]
    have hXAL : W.heap.size ≤ x0.heap.size := hB.size
    replace hB := hB.alloc hB.size (Obj.cells #[.slice ao p.toNat c, .slice a3 n3 c3, .slice t2 (n - (p + k).toNat) (c - (p + k).toNat)] 24)
    generalize x0.alloc (Obj.cells #[.slice ao p.toNat c, .slice a3 n3 c3, .slice t2 (n - (p + k).toNat) (c - (p + k).toNat)] 24) = x1 at *
    generalize x0.heap.size = gLx1 at *
    refine wpAnyH_ready (rs := [10]) (by kernel_rfl) (by simp) ?_
    refine AllReadyH.cons rfl (fun K hK => ?step11) ?more11
    case step11 =>
      go_simp
      go_at_call 101
      refine (LString.concat3 _ _ _ _ _ (l.take p.toNat) ws (l.drop (p + k).toNat) (HF1.out _ hB) (HF2.out _ hB) (HF3.out _ hB) hXL (by have := HSUM.out; omega)).mono ?_
      rintro e x2 ⟨v1, rfl, ho, hbc⟩
      have hNL_1 : (v1).ownBlock ≠ some gLx1 := fun e => by have h1 := hXL.lt; have h2 := (ho.lt _ e).1; omega
      replace hXL := hXL.kept hbc
      have hO1 := ho.low hB.size
      clear ho
      replace hB := hB.trans (hbc.mono hB.size)
      clear hbc
      go_wp2_with fail
      refine hK.out _ _ (HK.out _ hB) (fun hHeld => ?_)
      clear hK K
      refine wpAnyH_take (i := 11) (v := ?v12) rfl (by kernel_rfl) (by kernel_rfl) (by kernel_rfl) (fun _ _ _ h => h) (Or.inl ⟨by rfl, ?hy12⟩) (by assumption) ?rest12
      case hy12 => (intro wq hSw; (try dsimp only at hSw); go_split_ands; go_simp; (try with_reducible rfl))
      case rest12 =>
      refine wpAnyH_done (by kernel_rfl) ?_ _
      go_wp2_with fail
      all_goals
        go_ret
        exact ⟨v1, by go_simp, hO1, hB⟩
    case more11 => exact AllReadyH.nil
  case more10 => exact AllReadyH.nil

end Go.Proofs.YtclpdpfnlmfogaaDoor.AmP
