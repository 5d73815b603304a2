/- slices.Reverse at slices of Amendment: the rows turned round. No condition but the length. -/
import Derived.Test.YtfkppgnffhbfjaaLAmendmentSP
import Derived.Test.YtfkppgnffhbfjaaHeld
import Derived.Deep.DeepCutAuto
namespace Go.Proofs.Ytfkppgnffhbfjaa.LAmendmentS
open Go Go.RowKit Bs
set_option linter.unusedVariables false
theorem cells_of {w : World} {g p : Nat} {u : Hd 4} {b0 b1 b2 b3 : Value} (h : At kit.row w g p u) (e : u.1 = [b0, b1, b2, b3]) : w.cell? ⟨g, p, none⟩ = some b0 ∧ w.cell? ⟨g, p + 1, none⟩ = some b1 ∧ w.cell? ⟨g, p + 2, none⟩ = some b2 ∧ w.cell? ⟨g, p + 3, none⟩ = some b3 := by
  have hv : ∀ j v, ([b0, b1, b2, b3] : List Value)[j]? = some v → w.cell? ⟨g, p + j, none⟩ = some v := fun j v hj => h j v (by show u.1[j]? = some v; rw [e]; exact hj)
  exact ⟨hv 0 _ rfl, hv 1 _ rfl, hv 2 _ rfl, hv 3 _ rfl⟩
theorem putHd {w : World} {A g m cap : Nat} {ys : List (Hd 4)} (hn : ys.length = m) (h : Bs.Own kit.row 31 w A (.slice (some ⟨g, 0, none⟩) m cap) ys) (k : Nat) (r0 r : Hd 4) (b0 b1 b2 b3 : Value) (hr : ys[k]? = some r0) (e : r.1 = [b0, b1, b2, b3]) :
    Bs.Own kit.row 31 ((((w.setCell ⟨g, k * 4, none⟩ b0).setCell ⟨g, k * 4 + 1, none⟩ b1).setCell ⟨g, k * 4 + 2, none⟩ b2).setCell ⟨g, k * 4 + 3, none⟩ b3) A (.slice (some ⟨g, 0, none⟩) m cap) (ys.set k r) := by
  have hk : k < ys.length := (List.getElem?_eq_some_iff.1 hr).1
  have hl : ∀ x : Hd 4, (ys.set k x).length = m := fun x => by rw [List.length_set]; exact hn
  have at_ : ∀ x : Hd 4, (ys.set k x)[k]? = some x := fun x => by simp [hk]
  have ho : ∀ u ∈ [b0, b1, b2, b3], u.oneCell' = true := by rw [← e]; exact r.2.2
  have h0 := put1 hn h k 0 _ hr b0 (ho _ (by simp)) (by decide)
  have h1 := put1 (hl _) h0 k 1 _ (at_ _) b1 (ho _ (by simp)) (by decide)
  rw [List.set_set] at h1
  have h2 := put1 (hl _) h1 k 2 _ (at_ _) b2 (ho _ (by simp)) (by decide)
  rw [List.set_set] at h2
  have h3 := put1 (hl _) h2 k 3 _ (at_ _) b3 (ho _ (by simp)) (by decide)
  rw [List.set_set] at h3
  have e2 : hput (hput (hput (hput (r0) 0 b0 (ho _ (by simp))) 1 b1 (ho _ (by simp))) 2 b2 (ho _ (by simp))) 3 b3 (ho _ (by simp)) = r := by
    obtain ⟨r1, e1, e3⟩ := r0
    apply Subtype.ext
    rw [e]
    match r1, e1 with
    | [x0, x1, x2, x3], _ => rfl
  rw [e2] at h3
  exact h3
theorem grown_sets {w : World} {g k : Nat} {b0 b1 b2 b3 : Value} : w.grownBy ((((w.setCell ⟨g, k * 4, none⟩ b0).setCell ⟨g, k * 4 + 1, none⟩ b1).setCell ⟨g, k * 4 + 2, none⟩ b2).setCell ⟨g, k * 4 + 3, none⟩ b3) (some g) := ⟨rfl, rfl, rfl, by simp, fun j _ hj => sets_same j fun e => hj (by rw [e])⟩
theorem grown_trans {a b c : World} {g : Nat} (h1 : a.grownBy b (some g)) (h2 : b.grownBy c (some g)) : a.grownBy c (some g) :=
  ⟨h2.os.trans h1.os, h2.tape.trans h1.tape, h2.output.trans h1.output, Nat.le_trans h1.size h2.size, fun j hj hn => (h2.block j (Nat.lt_of_lt_of_le hj h1.size) hn).trans (h1.block j hj hn)⟩
theorem grown_drew {a b : World} {g : Nat} (h : a.grownBy b (some g)) : a.grownBy b.drew (some g) := ⟨h.os, h.tape, h.output, h.size, h.block⟩
/-- turned round as far as i -/
def Rev (hs ys : List (Hd 4)) (i : Nat) : Prop := ys.length = hs.length ∧ ∀ p, p < hs.length → ys[p]? = if p < i ∨ hs.length ≤ p + i then hs[hs.length - 1 - p]? else hs[p]?
theorem rev_zero (hs : List (Hd 4)) : Rev hs hs 0 := ⟨rfl, fun p hp => by rw [if_neg (by omega)]⟩
theorem rev_next {hs ys : List (Hd 4)} {i j : Nat} {ui uj : Hd 4} (h : Rev hs ys i) (hij : i < j) (hj : i + j + 1 = hs.length) (hi : ys[i]? = some ui) (hjj : ys[j]? = some uj) : Rev hs ((ys.set i uj).set j ui) (i + 1) := by
  have h1 := h.2 i (by omega)
  have h2 := h.2 j (by omega)
  rw [if_neg (by omega), hi] at h1
  rw [if_neg (by omega), hjj] at h2
  refine ⟨by simp [h.1], fun p hp => ?_⟩
  by_cases e1 : j = p
  · subst e1
    rw [List.getElem?_set_self (by rw [List.length_set, h.1]; exact hp), if_pos (by omega), h1]
    congr 1; omega
  · rw [List.getElem?_set_ne e1]
    by_cases e2 : i = p
    · subst e2
      rw [List.getElem?_set_self (by rw [h.1]; exact hp), if_pos (by omega), h2]
      congr 1; omega
    · rw [List.getElem?_set_ne e2, h.2 p hp]
      by_cases e3 : p < i ∨ hs.length ≤ p + i
      · rw [if_pos e3, if_pos (by omega)]
      · rw [if_neg e3, if_neg (by omega)]
theorem rev_all {hs ys : List (Hd 4)} {i : Nat} (h : Rev hs ys i) (hi : hs.length ≤ 2 * i + 1) : ys = hs.reverse := by
  apply List.ext_getElem?
  intro p
  by_cases hp : p < hs.length
  · rw [h.2 p hp, List.getElem?_reverse hp]
    by_cases e : p < i ∨ hs.length ≤ p + i
    · rw [if_pos e]
    · rw [if_neg e]; congr 1; omega
  · rw [List.getElem?_eq_none (by rw [h.1]; omega), List.getElem?_eq_none (by simp; omega)]
set_option maxRecDepth 100000 in
set_option maxHeartbeats 3200000 in
theorem reverse {A : Nat} (v : Value) (hs : List (Hd 4)) (w : World) (h : Bs.Own kit.row 31 w A v hs) (hl : hs.length ≤ 1048576) (hform : ∀ u ∈ hs, ∃ (r : R) (a : Option Addr) (l c : Nat), u = hd r a l c) :
    Calls Try.prog 56 #[v] w fun e w' => e = .returned (.tuple #[]) ∧ Bs.Own kit.row 31 w' A v hs.reverse ∧ w.grownBy w' v.ownBlock := by
  rcases h.shape with ⟨rfl, rfl⟩ | ⟨g, cap, rfl, hg1, hg2, hcap, hcm⟩
  · have HO := Lib.hid h
    go_enter Try.func56, Try.ntmps56
    go_wp2_with fail
    go_loop [2, 3] (fun i j => i = .int .i64 0 ∧ j = .int .i64 (-1)) (fun _ _ => 0)
    case atStart => exact ⟨rfl, rfl⟩
    case round =>
      obtain ⟨rfl, rfl⟩ := hrel
      go_wp2_with fail
      go_end0
      exact ⟨rfl, HO.out, ⟨rfl, rfl, rfl, Nat.le_refl _, fun _ _ _ => rfl⟩⟩
  obtain ⟨n, hn⟩ : ∃ n, n = hs.length := ⟨_, rfl⟩
  have HN := Lib.hid hn.symm
  have HForm := Lib.hid hform
  clear hform
  unfold maxLen at hcm
  rw [← hn] at h hl hcap ⊢
  have HR0 := Lib.hid (show ∃ ys, Rev hs ys 0 ∧ Bs.Own kit.row 31 w A (.slice (some ⟨g, 0, none⟩) n cap) ys from ⟨hs, rev_zero hs, h⟩)
  have HG0 := Lib.hid (show w.grownBy w (some g) from ⟨rfl, rfl, rfl, Nat.le_refl _, fun _ _ _ => rfl⟩)
  clear h hn
  go_enter Try.func56, Try.ntmps56
  go_wp2_with fail
  go_loopw [2, 3] (fun s2 s3 wr => ∃ i : Nat, i ≤ n ∧ (n = 0 ∨ i ≤ n - 1) ∧ s2 = .int .i64 i ∧ s3 = .int .i64 ((n : Int) - 1 - i) ∧ Hid (∃ ys, Rev hs ys i ∧ Bs.Own kit.row 31 wr A (.slice (some ⟨g, 0, none⟩) n cap) ys) ∧ Hid (w.grownBy wr (some g))) (fun s2 _ _ => n - (intOf s2).toNat)
  case atStart => exact ⟨0, Nat.zero_le _, by omega, rfl, by simp, HR0, HG0⟩
  case round =>
    clear HR0 HG0
    obtain ⟨i, hin, hi1, rfl, rfl, HRO, HGr⟩ := hrel
    by_cases hlt : (i : Int) < (n : Int) - 1 - i
    · obtain ⟨j, hj⟩ : ∃ j : Nat, (j : Int) = (n : Int) - 1 - i := ⟨n - 1 - i, by omega⟩
      obtain ⟨ys, hrev, hrow⟩ := HRO.out
      have hyl : ys.length = n := by rw [hrev.1]; exact HN.out
      have hii : i < ys.length := by omega
      have hjj : j < ys.length := by omega
      have hij : i < j := by omega
      rw [← hj] at hlt ⊢
      have HJ := Lib.hid hj
      have HUI := Lib.hid (List.getElem?_eq_getElem hii)
      have HUJ := Lib.hid (List.getElem?_eq_getElem hjj)
      have HSTEP := Lib.hid (fun (W2 : World) (hR2 : Bs.Own kit.row 31 W2 A (.slice (some ⟨g, 0, none⟩) n cap) ((ys.set i ys[j]).set j ys[i])) => (show Hid (∃ ys, Rev hs ys (i + 1) ∧ Bs.Own kit.row 31 W2 A (.slice (some ⟨g, 0, none⟩) n cap) ys) from Lib.hid ⟨_, rev_next hrev hij (by rw [HN.out]; omega) HUI.out HUJ.out, hR2⟩))
      have HYL := Lib.hid hyl
      have HQi := Lib.hid (show ys[i]? = hs[i]? by have h9 := hrev.2 i (by rw [HN.out]; omega); rwa [if_neg (by rw [HN.out]; omega)] at h9)
      have HQj := Lib.hid (show ys[j]? = hs[j]? by have h9 := hrev.2 j (by rw [HN.out]; omega); rwa [if_neg (by rw [HN.out]; omega)] at h9)
      have hjn : (j : Int) < (n : Int) := by omega
      have hin2 : (i : Int) < (n : Int) := by omega
      have hi0 : 0 ≤ (i : Int) := by omega
      have hj0 : 0 ≤ (j : Int) := by omega
      generalize ys[i] = ui at *
      generalize ys[j] = uj at *
      obtain ⟨rj, aj, lj, cj, hBj⟩ := HForm.out uj (List.mem_of_getElem? (HQj.out.symm.trans HUJ.out))
      obtain ⟨ri, ai, li, ci, hBi⟩ := HForm.out ui (List.mem_of_getElem? (HQi.out.symm.trans HUI.out))
      subst hBj hBi
      have hBj : (hd rj aj lj cj).1 = _ := rfl
      have hBi : (hd ri ai li ci).1 = _ := rfl
      have HBj := Lib.hid hBj
      have HBi := Lib.hid hBi
      have hrow1 : Bs.Own kit.row 31 wr.drew A (.slice (some ⟨g, 0, none⟩) n cap) ys := hrow.kept ⟨rfl, rfl, rfl, Nat.le_refl _, fun _ _ => rfl⟩
      have HR := Lib.hid hrow1
      have hati : At kit.row wr.drew g (i * 4) (hd ri ai li ci) := Own.at_ hrow1 i _ HUI.out
      have hatj0 : At kit.row wr.drew g (j * 4) (hd rj aj lj cj) := Own.at_ hrow1 j _ HUJ.out
      obtain ⟨p0, p1, p2, p3⟩ := cells_of hati hBi
      obtain ⟨q0, q1, q2, q3⟩ := cells_of hatj0 hBj
      have hf : ∀ o, wr.drew.frozen? ⟨g, o, none⟩ = false := Own.frozen hyl hrow1
      clear hrow hrow1 hati hatj0 hrev hyl hii hjj hBj hBi hj
      go_upto_region 3 with fail
      refine wp_region_held_drew (S := fun w' => True) (by kernel_rfl) trivial (fun hHeld => ?_)
      have HGd := Lib.hid (show w.grownBy wr.drew (some g) from grown_drew HGr.out)
      generalize wr.drew = x0 at *
      refine wpAnyH_take (i := 0) (v := ?v1) rfl (by kernel_rfl) (by kernel_rfl) (by kernel_rfl) (fun _ _ _ h => h) (Or.inl ⟨by rfl, ?hy1⟩) (by assumption) ?rest1
      case hy1 => (intro wq hSw; (try dsimp only at hSw); go_split_ands; go_simp; (try with_reducible rfl))
      case rest1 =>
      refine wpAnyH_take (i := 1) (v := ?v2) rfl (by kernel_rfl) (by kernel_rfl) (by kernel_rfl) (fun _ _ _ h => h) (Or.inl ⟨by rfl, ?hy2⟩) (by assumption) ?rest2
      case hy2 => (intro wq hSw; (try dsimp only at hSw); go_split_ands; go_simp; (try with_reducible rfl))
      case rest2 =>
      refine wpAnyH_take (i := 2) (v := ?v3) rfl (by kernel_rfl) (by kernel_rfl) (by kernel_rfl) (fun _ _ _ h => h) (Or.inl ⟨by rfl, ?hy3⟩) (by assumption) ?rest3
      case hy3 => (intro wq hSw; (try dsimp only at hSw); go_split_ands; go_simp; (try with_reducible rfl))
      case rest3 =>
      refine wpAnyH_take (i := 3) (v := ?v4) rfl (by kernel_rfl) (by kernel_rfl) (by kernel_rfl) (fun _ _ _ h => h) (Or.inl ⟨by rfl, ?hy4⟩) (by assumption) ?rest4
      case hy4 => (intro wq hSw; (try dsimp only at hSw); go_split_ands; go_simp; (try with_reducible rfl))
      case rest4 =>
      refine wpAnyH_take (i := 4) (v := ?v5) rfl (by kernel_rfl) (by kernel_rfl) (by kernel_rfl) (fun _ _ _ h => h) (Or.inl ⟨by rfl, ?hy5⟩) (by assumption) ?rest5
      case hy5 => (intro wq hSw; (try dsimp only at hSw); go_split_ands; go_simp; (try with_reducible rfl))
      case rest5 =>
      refine wpAnyH_take (i := 5) (v := ?v6) rfl (by kernel_rfl) (by kernel_rfl) (by kernel_rfl) (fun _ _ _ h => h) (Or.inl ⟨by rfl, ?hy6⟩) (by assumption) ?rest6
      case hy6 => (intro wq hSw; (try dsimp only at hSw); go_split_ands; go_simp; (try with_reducible rfl))
      case rest6 =>
      refine wpAnyH_take (i := 6) (v := ?v7) rfl (by kernel_rfl) (by kernel_rfl) (by kernel_rfl) (fun _ _ _ h => h) (Or.inl ⟨by rfl, ?hy7⟩) (by assumption) ?rest7
      case hy7 => (intro wq hSw; (try dsimp only at hSw); go_split_ands; go_simp; (try with_reducible rfl))
      case rest7 =>
      refine wpAnyH_take (i := 8) (v := ?v8) rfl (by kernel_rfl) (by kernel_rfl) (by kernel_rfl) (fun _ _ _ h => h) (Or.inl ⟨by rfl, ?hy8⟩) (by assumption) ?rest8
      case hy8 => (intro wq hSw; (try dsimp only at hSw); go_split_ands; go_simp; (try with_reducible rfl))
      case rest8 =>
      refine wpAnyH_take (i := 9) (v := ?v9) rfl (by kernel_rfl) (by kernel_rfl) (by kernel_rfl) (fun _ _ _ h => h) (Or.inl ⟨by rfl, ?hy9⟩) (by assumption) ?rest9
      case hy9 => (intro wq hSw; (try dsimp only at hSw); go_split_ands; go_simp; (try with_reducible rfl))
      case rest9 =>
      refine wpAnyH_take (i := 10) (v := ?v10) rfl (by kernel_rfl) (by kernel_rfl) (by kernel_rfl) (fun _ _ _ h => h) (Or.inl ⟨by rfl, ?hy10⟩) (by assumption) ?rest10
      case hy10 => (intro wq hSw; (try dsimp only at hSw); go_split_ands; go_simp; (try with_reducible rfl))
      case rest10 =>
      refine wpAnyH_ready (rs := [7, 11]) (by kernel_rfl) (by simp) ?_
      refine AllReadyH.cons rfl (fun K hK => ?step11) ?more11
      case step11 =>
        go_simp
        refine hK.out _ _ trivial (fun hHeld => ?_)
        clear hK K
        refine wpAnyH_ready (rs := [11]) (by kernel_rfl) (by simp) ?_
        refine AllReadyH.cons rfl (fun K hK => ?step12) ?more12
        case step12 =>
          go_simp
          refine hK.out _ _ trivial (fun hHeld => ?_)
          clear hK K
          refine wpAnyH_take (i := 12) (v := ?v13) rfl (by kernel_rfl) (by kernel_rfl) (by kernel_rfl) (fun _ _ _ h => h) (Or.inl ⟨by rfl, ?hy13⟩) (by assumption) ?rest13
          case hy13 => (intro wq hSw; (try dsimp only at hSw); go_split_ands; go_simp; (try with_reducible rfl))
          case rest13 =>
          refine wpAnyH_ready (rs := [13]) (by kernel_rfl) (by simp) ?_
          refine AllReadyH.cons rfl (fun K hK => ?step14) ?more14
          case step14 =>
            go_simp
            refine hK.out _ _ trivial (fun hHeld => ?_)
            clear hK K
            obtain ⟨Y1, hY1⟩ : ∃ Y : World, Y = ((((x0.setCell ⟨g, i * 4, none⟩ (.int .i64 rj.kind)).setCell ⟨g, i * 4 + 1, none⟩ (.int .i64 rj.pos)).setCell ⟨g, i * 4 + 2, none⟩ (.int .i64 rj.count)).setCell ⟨g, i * 4 + 3, none⟩ (.slice aj lj cj)) := ⟨_, rfl⟩
            rw [← hY1]
            have hR1 : Bs.Own kit.row 31 Y1 A (.slice (some ⟨g, 0, none⟩) n cap) (ys.set i (hd rj aj lj cj)) := by rw [hY1]; exact putHd HYL.out HR.out i (hd ri ai li ci) (hd rj aj lj cj) (.int .i64 rj.kind) (.int .i64 rj.pos) (.int .i64 rj.count) (.slice aj lj cj) HUI.out HBj.out
            have hsz1 : Y1.heap.size = x0.heap.size := by rw [hY1]; simp
            have hG1 : x0.grownBy Y1 (some g) := by rw [hY1]; exact grown_sets
            clear hY1
            have hatj : At kit.row Y1 g (j * 4) (hd rj aj lj cj) := Own.at_ hR1 j _ (by rw [List.getElem?_set_ne (by omega)]; exact HUJ.out)
            obtain ⟨z0, z1, z2, z3⟩ := cells_of hatj HBj.out
            have hf1 : ∀ o, Y1.frozen? ⟨g, o, none⟩ = false := Own.frozen (by rw [List.length_set]; exact HYL.out) hR1
            refine wpAnyH_take (i := 14) (v := ?v15) rfl (by kernel_rfl) (by kernel_rfl) (by kernel_rfl) (fun _ _ _ h => h) (Or.inl ⟨by rfl, ?hy15⟩) (by assumption) ?rest15
            case hy15 => (intro wq hSw; (try dsimp only at hSw); go_split_ands; go_simp; (try with_reducible rfl))
            case rest15 =>
            refine wpAnyH_ready (rs := [15]) (by kernel_rfl) (by simp) ?_
            refine AllReadyH.cons rfl (fun K hK => ?step16) ?more16
            case step16 =>
              go_simp
              refine hK.out _ _ trivial (fun hHeld => ?_)
              clear hK K
              obtain ⟨Y2, hY2⟩ : ∃ Y : World, Y = ((((Y1.setCell ⟨g, j * 4, none⟩ (.int .i64 ri.kind)).setCell ⟨g, j * 4 + 1, none⟩ (.int .i64 ri.pos)).setCell ⟨g, j * 4 + 2, none⟩ (.int .i64 ri.count)).setCell ⟨g, j * 4 + 3, none⟩ (.slice ai li ci)) := ⟨_, rfl⟩
              rw [← hY2]
              have HR2 := Lib.hid (show Bs.Own kit.row 31 Y2 A (.slice (some ⟨g, 0, none⟩) n cap) ((ys.set i (hd rj aj lj cj)).set j (hd ri ai li ci)) by rw [hY2]; exact putHd (by rw [List.length_set]; exact HYL.out) hR1 j (hd rj aj lj cj) (hd ri ai li ci) (.int .i64 ri.kind) (.int .i64 ri.pos) (.int .i64 ri.count) (.slice ai li ci) (by rw [List.getElem?_set_ne (by omega)]; exact HUJ.out) HBi.out)
              have HG2 := Lib.hid (show x0.grownBy Y2 (some g) by rw [hY2]; exact grown_trans hG1 grown_sets)
              clear hY2 hR1 hG1 hatj hf1 z0 z1 z2 z3
              refine wpAnyH_done (by kernel_rfl) ?_ _
              go_wp2_with fail
              go_roundw
              case rel => exact ⟨i + 1, by omega, by omega, by go_num, by have := HJ.out; simp; omega, HSTEP.out _ HR2.out, Lib.hid (grown_trans HGd.out HG2.out)⟩
              case measure => simp [intOf]; omega
            case more16 => exact AllReadyH.nil
          case more14 => exact AllReadyH.nil
        case more12 => exact AllReadyH.nil
      case more11 =>
        refine AllReadyH.cons rfl (fun K hK => ?step17) ?more17
        case step17 =>
          go_simp
          refine hK.out _ _ trivial (fun hHeld => ?_)
          clear hK K
          refine wpAnyH_ready (rs := [7]) (by kernel_rfl) (by simp) ?_
          refine AllReadyH.cons rfl (fun K hK => ?step18) ?more18
          case step18 =>
            go_simp
            refine hK.out _ _ trivial (fun hHeld => ?_)
            clear hK K
            refine wpAnyH_take (i := 12) (v := ?v19) rfl (by kernel_rfl) (by kernel_rfl) (by kernel_rfl) (fun _ _ _ h => h) (Or.inl ⟨by rfl, ?hy19⟩) (by assumption) ?rest19
            case hy19 => (intro wq hSw; (try dsimp only at hSw); go_split_ands; go_simp; (try with_reducible rfl))
            case rest19 =>
            refine wpAnyH_ready (rs := [13]) (by kernel_rfl) (by simp) ?_
            refine AllReadyH.cons rfl (fun K hK => ?step20) ?more20
            case step20 =>
              go_simp
              refine hK.out _ _ trivial (fun hHeld => ?_)
              clear hK K
              obtain ⟨Y1, hY1⟩ : ∃ Y : World, Y = ((((x0.setCell ⟨g, i * 4, none⟩ (.int .i64 rj.kind)).setCell ⟨g, i * 4 + 1, none⟩ (.int .i64 rj.pos)).setCell ⟨g, i * 4 + 2, none⟩ (.int .i64 rj.count)).setCell ⟨g, i * 4 + 3, none⟩ (.slice aj lj cj)) := ⟨_, rfl⟩
              rw [← hY1]
              have hR1 : Bs.Own kit.row 31 Y1 A (.slice (some ⟨g, 0, none⟩) n cap) (ys.set i (hd rj aj lj cj)) := by rw [hY1]; exact putHd HYL.out HR.out i (hd ri ai li ci) (hd rj aj lj cj) (.int .i64 rj.kind) (.int .i64 rj.pos) (.int .i64 rj.count) (.slice aj lj cj) HUI.out HBj.out
              have hsz1 : Y1.heap.size = x0.heap.size := by rw [hY1]; simp
              have hG1 : x0.grownBy Y1 (some g) := by rw [hY1]; exact grown_sets
              clear hY1
              have hatj : At kit.row Y1 g (j * 4) (hd rj aj lj cj) := Own.at_ hR1 j _ (by rw [List.getElem?_set_ne (by omega)]; exact HUJ.out)
              obtain ⟨z0, z1, z2, z3⟩ := cells_of hatj HBj.out
              have hf1 : ∀ o, Y1.frozen? ⟨g, o, none⟩ = false := Own.frozen (by rw [List.length_set]; exact HYL.out) hR1
              refine wpAnyH_take (i := 14) (v := ?v21) rfl (by kernel_rfl) (by kernel_rfl) (by kernel_rfl) (fun _ _ _ h => h) (Or.inl ⟨by rfl, ?hy21⟩) (by assumption) ?rest21
              case hy21 => (intro wq hSw; (try dsimp only at hSw); go_split_ands; go_simp; (try with_reducible rfl))
              case rest21 =>
              refine wpAnyH_ready (rs := [15]) (by kernel_rfl) (by simp) ?_
              refine AllReadyH.cons rfl (fun K hK => ?step22) ?more22
              case step22 =>
                go_simp
                refine hK.out _ _ trivial (fun hHeld => ?_)
                clear hK K
                obtain ⟨Y2, hY2⟩ : ∃ Y : World, Y = ((((Y1.setCell ⟨g, j * 4, none⟩ (.int .i64 ri.kind)).setCell ⟨g, j * 4 + 1, none⟩ (.int .i64 ri.pos)).setCell ⟨g, j * 4 + 2, none⟩ (.int .i64 ri.count)).setCell ⟨g, j * 4 + 3, none⟩ (.slice ai li ci)) := ⟨_, rfl⟩
                rw [← hY2]
                have HR2 := Lib.hid (show Bs.Own kit.row 31 Y2 A (.slice (some ⟨g, 0, none⟩) n cap) ((ys.set i (hd rj aj lj cj)).set j (hd ri ai li ci)) by rw [hY2]; exact putHd (by rw [List.length_set]; exact HYL.out) hR1 j (hd rj aj lj cj) (hd ri ai li ci) (.int .i64 ri.kind) (.int .i64 ri.pos) (.int .i64 ri.count) (.slice ai li ci) (by rw [List.getElem?_set_ne (by omega)]; exact HUJ.out) HBi.out)
                have HG2 := Lib.hid (show x0.grownBy Y2 (some g) by rw [hY2]; exact grown_trans hG1 grown_sets)
                clear hY2 hR1 hG1 hatj hf1 z0 z1 z2 z3
                refine wpAnyH_done (by kernel_rfl) ?_ _
                go_wp2_with fail
                go_roundw
                case rel => exact ⟨i + 1, by omega, by omega, by go_num, by have := HJ.out; simp; omega, HSTEP.out _ HR2.out, Lib.hid (grown_trans HGd.out HG2.out)⟩
                case measure => simp [intOf]; omega
              case more22 => exact AllReadyH.nil
            case more20 => exact AllReadyH.nil
          case more18 => exact AllReadyH.nil
        case more17 => exact AllReadyH.nil
    · have HE := Lib.hid (show ∃ ys, ys = hs.reverse ∧ Bs.Own kit.row 31 wr A (.slice (some ⟨g, 0, none⟩) n cap) ys from by
        obtain ⟨ys, hrev, hrow⟩ := HRO.out
        exact ⟨ys, rev_all hrev (by rw [HN.out]; omega), hrow⟩)
      go_wp2_with fail
      go_end0
      refine ⟨rfl, ?_, HGr.out⟩
      obtain ⟨ys, e, hrow⟩ := HE.out
      rw [← e]; exact hrow
end Go.Proofs.Ytfkppgnffhbfjaa.LAmendmentS
