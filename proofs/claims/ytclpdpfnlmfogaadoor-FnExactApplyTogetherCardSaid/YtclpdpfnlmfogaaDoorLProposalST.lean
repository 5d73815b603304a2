/- The laws' helper toProposalS: a copy of what came in. No condition. -/
import Derived.Test.YtclpdpfnlmfogaaDoorLProposalSP
import Derived.Test.YtclpdpfnlmfogaaDoorLProposalSZ
import Derived.Test.YtclpdpfnlmfogaaDoorLProposalT
namespace Go.Proofs.YtclpdpfnlmfogaaDoor.LProposalS
open Go Go.RowKit Bs
set_option linter.unusedVariables false
set_option maxRecDepth 100000 in
set_option maxHeartbeats 1600000 in
theorem toS (v : Value) (xs : List R) (w : World) (h : Is w v xs) (hsm : xs.length ≤ 1048576) (hns : ∀ x ∈ xs, x.words.length ≤ 1048576) :
    Calls Tryd.prog 40 #[v] w fun e w' => ∃ u, e = .returned u ∧ (∃ g, u.ownBlock = some g) ∧ Own w' w.heap.size u xs ∧ Below w.heap.size w w' := by
  obtain ⟨i0, hi, hz0, hz1⟩ : ∃ i, Tryd.prog.info? 42 = some i ∧ i.zero = some (.agg #[.int .i64 0, .int .i64 0, .int .i64 0, .int .i64 0, .slice none 0 0, .int .i64 0]) ∧ i.size = 6 := by
    have := info
    cases h' : Tryd.prog.info? 42 with
    | none => rw [h'] at this; cases this
    | some i => rw [h'] at this; simp only [Option.map_some, Option.some.injEq, Prod.mk.injEq] at this; exact ⟨i, rfl, this⟩
  have hz2 : i0.bytes ≤ 1000 := by
    have e : (Tryd.prog.info? 42).map (fun i => decide (i.bytes ≤ 1000)) = some true := by kernel_rfl
    rw [hi] at e
    simpa using e
  have HI := Lib.hid hi
  have HZ := Lib.hid (And.intro hz0 (And.intro hz1 hz2))
  have HNS := Lib.hid hns
  have hc := get h
  obtain ⟨a, cp, rfl, hnb, h2⟩ := h.form
  unfold maxLen at h2
  obtain ⟨n, hn⟩ : ∃ n, n = xs.length := ⟨_, rfl⟩
  have HN := Lib.hid hn.symm
  rw [← hn] at hc hnb hsm ⊢
  have hle : n ≤ xs.length := by omega
  clear hi hz0 hz1 hz2 hn h hns
  go_enter Tryd.func40, Tryd.ntmps40
  go_wp2_with (at_make; refine wpList_make_full _ rfl (.tmp 6) (.tmp 6) 34 rfl w.heap.size 42 i0 _ 6 Tryd.underlying34 HI.out HZ.out.1 HZ.out.2.1 .i64 .i64 _ _ n rfl rfl rfl rfl ?c1 ?c2 ?c3 ?c4)
  case c1 => exact Nat.le_trans (Nat.mul_le_mul HZ.out.2.2 hsm) (show 1000 * 1048576 ≤ 281474976710656 by decide)
  case c2 => unfold maxLen; omega
  case c4 =>
    intro w1 hown hgrow
    have hb : Below w.heap.size w w1 := (Below.refl _ _).grown hgrow (Nat.le_refl _) (fun k hk => by cases hk)
    have HO : Hid (∃ hs, hs.length = 0 ∧ Bs.Own kit.row 42 w1 w.heap.size (.slice (some ⟨w.heap.size, 0, none⟩) n n) (hs ++ List.replicate (n - 0) zero) ∧ Els kit (kit.Own w1 w.heap.size) hs (xs.take 0) ∧ Sep kit (.slice (some ⟨w.heap.size, 0, none⟩) n n) hs) := by
      refine ⟨[], rfl, ?_, Els.nil, Sep.nil⟩
      rw [made_zero] at hown
      show Bs.Own _ _ _ _ _ _
      unfold Bs.Own
      rw [List.nil_append, Nat.sub_zero, List.length_replicate]
      exact hown
    clear hown hgrow
    go_wp2_with fail
    go_loopw [4] (fun i wr => ∃ k : Nat, k ≤ n ∧ i = .int .i64 k ∧ Below w.heap.size w wr ∧ w.heap.size < wr.heap.size ∧ Hid (∃ hs, hs.length = k ∧ Bs.Own kit.row 42 wr w.heap.size (.slice (some ⟨w.heap.size, 0, none⟩) n n) (hs ++ List.replicate (n - k) zero) ∧ Els kit (kit.Own wr w.heap.size) hs (xs.take k) ∧ Sep kit (.slice (some ⟨w.heap.size, 0, none⟩) n n) hs)) (fun i _ => n - (intOf i).toNat)
    case atStart => exact ⟨0, Nat.zero_le _, rfl, hb, (HO.out.choose_spec.2.1.lt w.heap.size rfl).2, HO⟩
    case round =>
      clear hb HO
      obtain ⟨k, hk, rfl, hb, hA, HO⟩ := hrel
      by_cases hlt : k < n
      · have hx : k < xs.length := by omega
        obtain ⟨b, o, c, x, y, z, he, hbl, hat, hI⟩ := hc.out k xs[k] (List.getElem?_eq_getElem hx)
        simp only [Value.slice.injEq] at he
        obtain ⟨rfl, -, rfl⟩ := he
        obtain ⟨q0, q1, q2, q3, q4, q5⟩ := cells_hd (hat.below kit.row hb hbl)
        have HX := Lib.hid (List.take_succ_eq_append_getElem hx)
        have HXS := Lib.hid (HNS.out xs[k] (List.getElem_mem hx))
        have HIX := Lib.hid (LProposal.Is.below hI hb)
        clear hat hI
        generalize xs[k] = X at *
        go_wp2_with fail
        refine (LProposal.to _ X _ HIX.out HXS.out).mono ?_
        rintro e w2 ⟨u, rfl, hnn, ho, hb1⟩
        obtain ⟨s3, rfl, ho3⟩ := ho
        obtain ⟨ua, un, uc, rfl⟩ := own_slice ho3
        have HO3 := Lib.hid ho3
        clear ho3 hnn
        obtain ⟨hs, hl, hr, hE, hS⟩ := HO.out
        have hlen : (hs ++ List.replicate (n - k) zero).length = n := by rw [List.length_append, List.length_replicate]; omega
        have hz : (hs ++ List.replicate (n - k) zero)[k]? = some zero := by
          rw [List.getElem?_append_right (by omega), hl, Nat.sub_self, List.getElem?_replicate, if_pos (by omega)]
        have hr1 := Own.kept hr hb1
        have hat1 : At kit.row w2 w.heap.size (k * 6) zero := Own.at_ hr1 k zero hz
        obtain ⟨p0, p1, p2, p3, p4, p5⟩ := cells_hd hat1
        have f0 : ∀ o, w2.frozen? ⟨w.heap.size, o, none⟩ = false := Own.frozen hlen hr1
        have hb2 := hb.trans (hb1.mono hb.size)
        have HP := Lib.hid (putAll hlen hr1 k zero X ua un uc hz)
        have HSE := Lib.hid (show (hs ++ List.replicate (n - k) zero).set k (hd X ua un uc) = (hs ++ [hd X ua un uc]) ++ List.replicate (n - (k + 1)) zero by
          rw [List.set_append_right _ _ (by omega), hl, Nat.sub_self, show n - k = (n - (k + 1)) + 1 by omega, List.replicate_succ, List.set_cons_zero, List.append_assoc]
          rfl)
        have hE1 : Els kit (kit.Own w2 w.heap.size) hs (xs.take k) := hE.same fun i u j hu hj => hb1.block j (hE.lt i u j hu hj).2
        have HEb := Lib.hid (fun (i : Nat) (u : Hd 6) (j : Nat) (hu : hs[i]? = some u) (hj : Holds u j) => hE.lt i u j hu hj)
        have HE1 := Lib.hid hE1
        have HS1 := Lib.hid hS
        have HL := Lib.hid hl
        clear hr hE hS hl hlen hr1 hE1 q0 q1 q2 q3 q4 q5
        clear hat1
        go_wp2_with fail
        go_roundw
        case rel =>
          refine ⟨k + 1, by omega, by go_num, ((((((hb2.setCell (Nat.le_refl _) _).setCell (Nat.le_refl _) _).setCell (Nat.le_refl _) _).setCell (Nat.le_refl _) _).setCell (Nat.le_refl _) _).setCell (Nat.le_refl _) _), by simpa using Nat.lt_of_lt_of_le hA hb1.size, Lib.hid ⟨hs ++ [hd X ua un uc], by simp [HL.out], by rw [← HSE.out]; exact HP.out, ?_, ?_⟩⟩
          · rw [HX.out]
            refine Els.snoc (HE1.out.same fun i u j hu hj => sets_same j fun e => HS1.out.1 i u j hu hj (by rw [e]; rfl)) ?_
            refine own_hd (Own.low (HO3.out.same fun j hj => sets_same j fun e => ?_) hb.size)
            have := (HO3.out.lt j hj).1
            omega
          · refine HS1.out.snoc (fun j hj e => ?_) (fun i u' j hu hj hj2 => ?_)
            · have h1 := (HO3.out.lt j (holds_hd hj)).1
              have h2 := Option.some.inj e
              simp only at h2
              omega
            · have h1 := (HO3.out.lt j (holds_hd hj2)).1
              have h2 := (HEb.out i u' j hu hj).2
              omega
        case measure => simp [intOf]; omega
      · have hkn : k = n := by omega
        have HF := Lib.hid (show Own wr w.heap.size (.slice (some ⟨w.heap.size, 0, none⟩) n n) xs by
          obtain ⟨hs, hl, hr, hE, hS⟩ := HO.out
          rw [hkn, Nat.sub_self, List.replicate_zero, List.append_nil] at hr
          rw [List.take_of_length_le (by have := HN.out; omega)] at hE
          exact ⟨hs, hr, hE, hS⟩)
        clear hkn
        go_wp2_with fail
        go_ret
        exact ⟨_, rfl, ⟨_, rfl⟩, HF.out, hb⟩
end Go.Proofs.YtclpdpfnlmfogaaDoor.LProposalS
