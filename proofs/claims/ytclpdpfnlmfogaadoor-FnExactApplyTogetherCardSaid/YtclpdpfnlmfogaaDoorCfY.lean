/- Proposals applied together: the model. No condition. -/
import Derived.Test.YtclpdpfnlmfogaaDoorCfT
import Derived.Test.YtclpdpfnlmfogaaDoorCfX2
import Derived.Test.YtclpdpfnlmfogaaDoorCfD
import Derived.Test.YtclpdpfnlmfogaaDoorJ1
import Derived.Test.YtclpdpfnlmfogaaDoorAppO
import Derived.Maps.AppendAt
import Derived.Deep.DrawnRows
import Derived.Deep.DeepCutAuto
import Derived.BigQuiet
namespace Go.Proofs.YtclpdpfnlmfogaaDoor.CfY
open Go.RowKit Bs Word Am AmA AmG Cf CfD CfM CfH CfT CfX2
set_option linter.unusedVariables false
def ist (t : T) (z : List P) (k i : Nat) : St := (z.take i).foldl (stepM k) (gst t z k)
theorem ist_zero (t : T) (z : List P) (k : Nat) : ist t z k 0 = gst t z k := rfl
theorem ist_next {t : T} {z : List P} {k i : Nat} {x : P} (h : z[i]? = some x) : ist t z k (i + 1) = stepM k (ist t z k i) x := by
  obtain ⟨hk, rfl⟩ := List.getElem?_eq_some_iff.1 h
  unfold ist
  rw [List.take_succ_eq_append_getElem hk, List.foldl_append]
  rfl
theorem ist_all {t : T} {z : List P} {k i : Nat} (h : z.length ≤ i) : gst t z (k + 1) = elt t k (ist t z k i) := by
  unfold ist
  rw [List.take_of_length_le h]
  rfl
theorem step_bound {t : T} {x : P} {c : Int} {s : St} {m : Nat} (hx : 0 ≤ x.pos ∧ 0 ≤ x.count ∧ x.pos + x.count ≤ t.length ∧ x.words.length ≤ 5) (h1 : 0 ≤ s.2) (h2 : s.2 ≤ t.length) (h3 : s.1.length ≤ m) : 0 ≤ (stepM c s x).2 ∧ (stepM c s x).2 ≤ t.length ∧ (stepM c s x).1.length ≤ m + 5 := by
  by_cases e : x.pos = c
  · rw [step_yes e]
    refine ⟨?_, ?_, by rw [List.length_append]; omega⟩
    · show 0 ≤ mostI s.2 (c + x.count); unfold mostI; split <;> omega
    · show mostI s.2 (c + x.count) ≤ _; unfold mostI; split <;> omega
  · rw [step_no e]; exact ⟨h1, h2, by omega⟩
theorem fold_bound {t : T} {c : Int} : ∀ (z : List P) (s : St) (m : Nat), (∀ x ∈ z, 0 ≤ x.pos ∧ 0 ≤ x.count ∧ x.pos + x.count ≤ t.length ∧ x.words.length ≤ 5) → 0 ≤ s.2 → s.2 ≤ t.length → s.1.length ≤ m → 0 ≤ (z.foldl (stepM c) s).2 ∧ (z.foldl (stepM c) s).2 ≤ t.length ∧ (z.foldl (stepM c) s).1.length ≤ m + z.length * 5
  | [], s, m, _, h1, h2, h3 => ⟨h1, h2, by simpa using h3⟩
  | x :: z, s, m, hf, h1, h2, h3 => by
    rw [List.foldl_cons]
    obtain ⟨a1, a2, a3⟩ := step_bound (c := c) (hf x List.mem_cons_self) h1 h2 h3
    have := fold_bound (t := t) (c := c) z _ (m + 5) (fun y hy => hf y (List.mem_cons_of_mem _ hy)) a1 a2 a3
    refine ⟨this.1, this.2.1, ?_⟩
    have := this.2.2
    rw [List.length_cons]
    omega
theorem gst_bound {t : T} {z : List P} (hf : ∀ x ∈ z, 0 ≤ x.pos ∧ 0 ≤ x.count ∧ x.pos + x.count ≤ t.length ∧ x.words.length ≤ 5) (hz : z.length ≤ 8) : ∀ k, 0 ≤ (gst t z k).2 ∧ (gst t z k).2 ≤ t.length ∧ (gst t z k).1.length ≤ k * 41
  | 0 => ⟨Int.le_refl _, Int.natCast_nonneg _, Nat.zero_le _⟩
  | k + 1 => by
    obtain ⟨a1, a2, a3⟩ := gst_bound hf hz k
    obtain ⟨b1, b2, b3⟩ := fold_bound (c := k) z _ (k * 41) hf a1 a2 a3
    show 0 ≤ (elt t k _).2 ∧ (elt t k _).2 ≤ _ ∧ (elt t k _).1.length ≤ _
    rw [elt_two]
    refine ⟨b1, b2, ?_⟩
    have h8 : z.length * 5 ≤ 40 := by omega
    unfold elt
    split
    · rename_i h
      rw [List.length_append, List.getElem?_eq_getElem h.1]
      simp only [Option.toList_some, List.length_singleton]
      omega
    · omega
theorem ist_bound {t : T} {z : List P} (hf : ∀ x ∈ z, 0 ≤ x.pos ∧ 0 ≤ x.count ∧ x.pos + x.count ≤ t.length ∧ x.words.length ≤ 5) (hz : z.length ≤ 8) (ht : t.length ≤ 20) {k i : Nat} {zs : T} {sk : Int} (hk : k ≤ 21) (h : ist t z k i = (zs, sk)) : 0 ≤ sk ∧ sk ≤ 20 ∧ zs.length ≤ 1000 := by
  obtain ⟨a1, a2, a3⟩ := gst_bound hf hz k
  have := fold_bound (t := t) (c := k) (z.take i) _ (k * 41) (fun x hx => hf x (List.mem_of_mem_take hx)) a1 a2 a3
  have e : (z.take i).foldl (stepM k) (gst t z k) = (zs, sk) := h
  rw [e] at this
  have hl : (z.take i).length ≤ z.length := by rw [List.length_take]; omega
  obtain ⟨b1, b2, b3⟩ := this
  simp only at b1 b2 b3
  omega
theorem ist_yes {t : T} {z : List P} {k i : Nat} {x : P} {zs : T} {sk : Int} (h : ist t z k i = (zs, sk)) (hx : z[i]? = some x) (e : x.pos = k) : ist t z k (i + 1) = (zs ++ x.words, mostI sk (k + x.count)) := by
  rw [ist_next hx, h, step_yes e]
theorem ist_no {t : T} {z : List P} {k i : Nat} {x : P} {zs : T} {sk : Int} (h : ist t z k i = (zs, sk)) (hx : z[i]? = some x) (e : ¬ x.pos = k) : ist t z k (i + 1) = (zs, sk) := by
  rw [ist_next hx, h, step_no e]
theorem gst_yes {t : T} {z : List P} {k i : Nat} {y : ByteArray} {zs : T} {sk : Int} (h : ist t z k i = (zs, sk)) (hi : z.length ≤ i) (hy : t[k]? = some y) (hs : sk ≤ k) : gst t z (k + 1) = (zs ++ [y], sk) := by
  rw [ist_all hi, h]
  unfold elt
  rw [if_pos ⟨(List.getElem?_eq_some_iff.1 hy).1, hs⟩, hy]
  rfl
theorem gst_no {t : T} {z : List P} {k i : Nat} {zs : T} {sk : Int} (h : ist t z k i = (zs, sk)) (hi : z.length ≤ i) (hs : ¬ (k < t.length ∧ sk ≤ k)) : gst t z (k + 1) = (zs, sk) := by
  rw [ist_all hi, h]
  unfold elt
  rw [if_neg hs]
theorem p_words {w : World} {a3 : Option Addr} {n3 c3 : Nat} {i k p c g : Value} {r : P} (h : LProposal.IsQ w (.agg #[i, k, p, c, .slice a3 n3 c3, g]) r) : Bs.IsQ LString.rec w (.slice a3 n3 c3) r.words := by
  obtain ⟨s, e, h3⟩ := h
  simp only [Value.agg.injEq, Array.mk.injEq, List.cons.injEq, and_true] at e
  obtain ⟨_, _, _, _, rfl, _⟩ := e
  exact h3
set_option maxRecDepth 100000 in
set_option maxHeartbeats 3200000 in
theorem l10Together (v0 v1 : Value) (t : T) (z : List P) (W : World) (h0 : IsS LString.rec W v0 t) (h1 : LProposalS.IsQ W v1 z) (ht : t.length ≤ 20) (hz8 : z.length ≤ 8) (hf : ∀ x ∈ z, 0 ≤ x.pos ∧ 0 ≤ x.count ∧ x.pos + x.count ≤ t.length ∧ x.words.length ≤ 5) :
    Calls Tryd.prog 72 #[v0, v1] W fun e w' => ∃ v', e = .returned v' ∧ Own LString.rec 9 w' W.heap.size v' (together t z) ∧ Below W.heap.size W w' := by
  obtain ⟨i0, hi, hz0, hz1, hz2⟩ := info_parts LString.infoK
  have HI0 := Lib.hid hi
  have HZ0 := Lib.hid (And.intro hz0 (And.intro hz1 hz2))
  clear hi hz0 hz1 hz2
  have HGB := Lib.hid (fun (k i : Nat) (zs : T) (sk : Int) => ist_bound (k := k) (i := i) (zs := zs) (sk := sk) hf hz8 ht)
  have HGA := Lib.hid hf
  have hc := LProposalS.getQ h1
  obtain ⟨a, cp, rfl, hnb, h2⟩ := (NIsQ.is h1).form
  unfold maxLen at h2
  obtain ⟨n, hn⟩ : ∃ n, n = z.length := ⟨_, rfl⟩
  have HN := Lib.hid hn.symm
  have hn8 : n ≤ 8 := by omega
  obtain ⟨b0, o0, c0, rfl, hbl0, hlc0, hcm0, hat0⟩ := h0
  unfold maxLen at hcm0
  obtain ⟨tn, htn⟩ : ∃ tn, tn = t.length := ⟨_, rfl⟩
  have HTN := Lib.hid htn.symm
  have HT0 := Lib.hid hat0
  have HFIN := Lib.hid (show ∀ zs sk, gst t z (tn + 1) = (zs, sk) → together t z = zs from fun zs sk h => by unfold together; rw [← htn, h])
  rw [← hn] at hc hnb ⊢
  rw [← htn] at ht hlc0 ⊢
  clear hn h1 hf htn hat0 hz8
  obtain ⟨wa, hwa⟩ : ∃ wa : World, wa = W.alloc (Obj.cells #[] 9) := ⟨_, rfl⟩
  have HO0 := Lib.hid (show Own LString.rec 9 wa W.heap.size (.slice (some ⟨W.heap.size, 0, none⟩) 0 0) [] by rw [hwa]; exact Own.start (Nat.le_refl _))
  have hba : Below W.heap.size W wa := by rw [hwa]; exact (Below.refl _ _).alloc (Nat.le_refl _) _
  go_enter Tryd.func72, Tryd.ntmps72
  go_upto_region 2 with fail
  rw [← hwa]
  clear hwa
  go_wp2_with fail
  go_loopw [5, 6, 7] (fun so ss sa wr => ∃ (k : Nat) (o : Value) (zs : T) (sk : Int), o = so ∧ ss = .int .i64 sk ∧ sa = .int .i64 k ∧ k ≤ tn + 1 ∧ Hid (gst t z k = (zs, sk)) ∧ Hid (Own LString.rec 9 wr W.heap.size o zs) ∧ Below W.heap.size W wr) (fun _ _ sa _ => tn + 1 - (intOf sa).toNat)
  case atStart => exact ⟨0, _, [], 0, rfl, rfl, rfl, Nat.zero_le _, Lib.hid rfl, HO0, hba⟩
  case round =>
    clear HO0 hba
    obtain ⟨k, ov, zs, sk, rfl, rfl, rfl, hk, HS, HO, hb⟩ := hrel
    by_cases hlt : k < tn + 1
    · have k0 : 0 ≤ (k : Int) := by omega
      have k1 : (k : Int) ≤ (tn : Int) := by omega
      go_wp2_with fail
      go_loopw [5, 6, 8] (fun so ss si wr => ∃ (i : Nat) (o : Value) (zs : T) (sk : Int), o = so ∧ ss = .int .i64 sk ∧ si = .int .i64 i ∧ i ≤ n ∧ Hid (ist t z k i = (zs, sk)) ∧ Hid (Own LString.rec 9 wr W.heap.size o zs) ∧ Below W.heap.size W wr) (fun _ _ si _ => n - (intOf si).toNat)
      case atStart => exact ⟨0, _, zs, sk, rfl, rfl, rfl, Nat.zero_le _, HS, HO, hb⟩
      case round =>
        clear HS HO hb
        obtain ⟨i, ov, zs, sk, rfl, rfl, rfl, hin, HS, HO, hb⟩ := hrel
        obtain ⟨s0, s1, zl⟩ := HGB.out k i zs sk (by omega) HS.out
        by_cases hlm : i < n
        · have m0 : 0 ≤ (i : Int) := by omega
          have m1 : (i : Int) < (n : Int) := by omega
          have hx : i < z.length := by have := HN.out; omega
          obtain ⟨b, o, c, x, y, s, he, hbl, hat, hI⟩ := hc.out i z[i] (List.getElem?_eq_getElem hx)
          simp only [Value.slice.injEq] at he
          obtain ⟨rfl, -, rfl⟩ := he
          have HAT := Lib.hid hat
          have HX := Lib.hid (List.getElem?_eq_getElem hx)
          have HFX := Lib.hid (HGA.out _ (List.getElem_mem hx))
          have HQX := Lib.hid hI
          clear hat hI
          generalize z[i] = X at *
          obtain ⟨hX0, hX1, hX2, hX3⟩ := HFX.out
          have HWX := Lib.hid (p_words (HQX.out.below hb))
          have hWL := (isq_len HWX.out).1
          have ht2 := HTN.out
          have q2 := (isAt (HAT.out.below LProposalS.kit.row hb hbl)).2.1
          have q3 := (isAt (HAT.out.below LProposalS.kit.row hb hbl)).2.2.1
          have q4 := (isAt (HAT.out.below LProposalS.kit.row hb hbl)).2.2.2
          by_cases e : X.pos = (k : Int)
          · have HS2 := Lib.hid (ist_yes HS.out HX.out e)
            have e1 : (X.pos == (k : Int)) = true := by simp [e]
            have hcount : X.count ≤ 20 := by omega
            go_wp2_with (at_builtin; refine wpList_append_o (T := LString.rec) _ rfl (.tmp 30) (.tmp 36) 24 rfl W.heap.size 9 i0 (.string ⟨#[]⟩) 16 Tryd.underlying24 HI0.out HZ0.out.1 HZ0.out.2.1 HZ0.out.2.2 rfl _ _ rfl HO.out x y s X.words rfl hWL (IsQ.src HWX.out).1 (by unfold maxLen; omega) (by omega) hb.size ?_)
            intro v6 w6 hown hgrow hnn hat
            have hb6 := below_grown hb hgrow hb.size (fun j hj => (HO.out.lt j hj).1)
            have HO6 := Lib.hid hown
            clear hown hgrow hnn hat q2 q3 q4
            have q2 := (isAt (HAT.out.below LProposalS.kit.row hb6 hbl)).2.1
            have q3 := (isAt (HAT.out.below LProposalS.kit.row hb6 hbl)).2.2.1
            have q4 := (isAt (HAT.out.below LProposalS.kit.row hb6 hbl)).2.2.2
            clear HO hb
            go_wp2_with fail
            refine (most _ _ _).mono ?_
            rintro e _ ⟨rfl, rfl⟩
            go_wp2_with fail
            go_roundw
            case rel => exact ⟨i + 1, _, _, _, rfl, rfl, by go_num, by omega, HS2, HO6, hb6⟩
            case measure => first | (simp [intOf]; done) | (simp [intOf]; omega)
          · have HS2 := Lib.hid (ist_no HS.out HX.out e)
            have e1 : (X.pos == (k : Int)) = false := by simp [e]
            go_wp2_with fail
            go_roundw
            case rel => exact ⟨i + 1, _, _, _, rfl, rfl, by go_num, by omega, HS2, HO, hb⟩
            case measure => first | (simp [intOf]; done) | (simp [intOf]; omega)
        · have hzi : z.length ≤ i := by have := HN.out; omega
          have j1 : ¬ (i : Int) < (n : Int) := by omega
          by_cases hkt : k < tn
          · have k2 : (k : Int) < (tn : Int) := by omega
            have hx : k < t.length := by have := HTN.out; omega
            have HX := Lib.hid (List.getElem?_eq_getElem hx)
            have ca := (HT0.out k t[k] HX.out).below LString.rec hb hbl0
            generalize t[k] = X at *
            by_cases hsk : sk ≤ (k : Int)
            · have HS2 := Lib.hid (gst_yes HS.out hzi HX.out hsk)
              have q0 := LString.cells ca
              simp only [LString.rec_n, Nat.mul_one] at q0
              clear ca
              have hbc : Below wr.heap.size wr (wr.alloc (Obj.cells #[.string X] 9)) := (Below.refl _ _).alloc (Nat.le_refl _) _
              have HOc := Lib.hid (HO.out.kept hbc)
              have hbC := hb.trans (hbc.mono hb.size)
              clear hbc
              go_wp2_with (at_builtin; refine wpList_append_o (T := LString.rec) _ rfl (.tmp 57) (.tmp 62) 24 rfl W.heap.size 9 i0 (.string ⟨#[]⟩) 16 Tryd.underlying24 HI0.out HZ0.out.1 HZ0.out.2.1 HZ0.out.2.2 rfl _ _ rfl HOc.out (some ⟨wr.heap.size, 0, none⟩) 1 1 [X] rfl rfl (src_one (T := LString.rec) (heap_alloc_new wr _)) (by skip; unfold maxLen; omega) (by skip; omega) hbC.size ?_)
              intro v6 w6 hown hgrow hnn hat
              have hgr : (wr.alloc (Obj.cells #[.string X] 9)).grownBy w6 (ov).ownBlock := hgrow
              have hat2 : v6.ownBlock = (ov).ownBlock ∨ v6.ownBlock = some (wr.alloc (Obj.cells #[.string X] 9)).heap.size := by
                rcases hat with h9 | h9
                · exact .inl h9
                · exact .inr (by first | (rw [h9]; done) | (rw [h9]; simp))
              have hb6 := below_grown hbC hgr hbC.size (fun j hj => (HOc.out.lt j hj).1)
              have HO6 := Lib.hid hown
              have HNN6 := Lib.hid hnn
              have HATT6 := Lib.hid hat2
              clear hown hgrow hnn hat hat2 hgr hbC HOc
              go_wp2_with fail
              go_roundw
              case rel => exact ⟨k + 1, _, _, _, rfl, rfl, by go_num, by omega, HS2, HO6, hb6⟩
              case measure => first | (simp [intOf]; done) | (simp [intOf]; omega)
            · have HS2 := Lib.hid (gst_no HS.out hzi (fun h => hsk h.2))
              clear ca
              go_wp2_with fail
              go_roundw
              case rel => exact ⟨k + 1, _, _, _, rfl, rfl, by go_num, by omega, HS2, HO, hb⟩
              case measure => first | (simp [intOf]; done) | (simp [intOf]; omega)
          · have k2 : ¬ (k : Int) < (tn : Int) := by omega
            have HS2 := Lib.hid (gst_no HS.out hzi (fun h => hkt (by have := HTN.out; omega)))
            go_wp2_with fail
            go_roundw
            case rel => exact ⟨k + 1, _, _, _, rfl, rfl, by go_num, by omega, HS2, HO, hb⟩
            case measure => first | (simp [intOf]; done) | (simp [intOf]; omega)
    · obtain rfl : k = tn + 1 := by omega
      have HE := Lib.hid (HFIN.out _ _ HS.out)
      have k1 : ¬ (((tn + 1 : Nat) : Int) ≤ (tn : Int)) := by omega
      go_wp2_with fail
      go_ret
      exact ⟨_, rfl, by rw [HE.out]; exact HO.out, hb⟩
end Go.Proofs.YtclpdpfnlmfogaaDoor.CfY
