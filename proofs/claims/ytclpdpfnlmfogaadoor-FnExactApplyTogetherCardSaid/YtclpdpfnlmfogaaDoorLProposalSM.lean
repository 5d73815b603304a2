/- The laws' helpers markProposalS, heldProposalS: rows and their slices written over, and read again. No condition. -/
import Derived.Test.YtclpdpfnlmfogaaDoorLProposalSP
import Derived.Test.YtclpdpfnlmfogaaDoorLProposalSZ
import Derived.Test.YtclpdpfnlmfogaaDoorLStringM
import Derived.Test.YtclpdpfnlmfogaaDoorAppO
import Derived.Deep.DeepCutAuto
namespace Go.Proofs.YtclpdpfnlmfogaaDoor.LProposalS
open Go Go.RowKit Bs
set_option linter.unusedVariables false
def mk1 (c : Nat) (r : R) : R := ⟨(c : Int), (c : Int) + 1, (c : Int) + 1 + 1, (c : Int) + 1 + 1 + 1, LString.marks (c + 4) r.words r.words.length, ((c + 4 + r.words.length : Nat) : Int)⟩
def mkP (c : Nat) (r : R) : R := { r with id := (c : Int), kind := (c : Int) + 1, pos := (c : Int) + 1 + 1, count := (c : Int) + 1 + 1 + 1 }
def marks (m : Nat) : List R → List R
  | [] => []
  | x :: xs => mk1 m x :: marks (m + (5 + x.words.length)) xs
theorem marks_len : ∀ (m : Nat) (ys : List R), (marks m ys).length = ys.length
  | _, [] => rfl
  | m, x :: xs => by simp [marks, marks_len _ xs]
theorem marks_get : ∀ (m : Nat) (ys : List R) (k : Nat) (Y : R), ys[k]? = some Y → (marks m ys)[k]? = some (mk1 (m + cnt (ys.take k)) Y)
  | _, [], k, Y, h => by simp at h
  | m, x :: xs, 0, Y, h => by
    simp only [List.getElem?_cons_zero, Option.some.injEq] at h
    subst h
    simp [marks, cnt]
  | m, x :: xs, k + 1, Y, h => by
    rw [List.getElem?_cons_succ] at h
    unfold marks
    rw [List.getElem?_cons_succ, marks_get _ xs k Y h]
    congr 2
    simp [cnt]
    omega
def part (m : Nat) (ys : List R) (k : Nat) : List R := (marks m ys).take k ++ ys.drop k
theorem part_zero (m : Nat) (ys : List R) : part m ys 0 = ys := by simp [part]
theorem part_all (m : Nat) (ys : List R) (k : Nat) (h : ys.length = k) : part m ys k = marks m ys := by
  unfold part
  rw [List.take_of_length_le (by rw [marks_len]; omega), List.drop_of_length_le (by omega), List.append_nil]
theorem part_at (m : Nat) (ys : List R) (k : Nat) (h : k < ys.length) : (part m ys k)[k]? = some ys[k] := by
  unfold part
  have hl : ((marks m ys).take k).length = k := by rw [List.length_take, marks_len]; omega
  rw [List.getElem?_append_right (by omega), hl, Nat.sub_self, List.getElem?_drop, Nat.add_zero, List.getElem?_eq_getElem h]
theorem part_set (m : Nat) (ys : List R) (k : Nat) (h : k < ys.length) : (part m ys k).set k (mk1 (m + cnt (ys.take k)) ys[k]) = part m ys (k + 1) := by
  unfold part
  have hl : ((marks m ys).take k).length = k := by rw [List.length_take, marks_len]; omega
  have hm : k < (marks m ys).length := by rw [marks_len]; exact h
  have hg := marks_get m ys k ys[k] (List.getElem?_eq_getElem h)
  rw [List.getElem?_eq_getElem hm] at hg
  rw [List.set_append_right _ _ (by omega), hl, Nat.sub_self, List.drop_eq_getElem_cons h, List.set_cons_zero, List.take_succ_eq_append_getElem hm, List.append_assoc, Option.some.inj hg]
  rfl
theorem els_put {P Q : Value → R → Prop} {hs : List (Hd 6)} {xs : List R} {k : Nat} {u' : Hd 6} {x' : R} (h : Els kit P hs xs) (hi : ∀ (i : Nat) (u : Hd 6) (x : R), i ≠ k → hs[i]? = some u → xs[i]? = some x → P (kit.val u) x → Q (kit.val u) x) (hx : Q (kit.val u') x') : Els kit Q (hs.set k u') (xs.set k x') := by
  refine ⟨by rw [List.length_set, List.length_set]; exact h.1, fun i a b ha hb => ?_⟩
  by_cases e : k = i
  · subst e
    have h1 : k < hs.length := by have := (List.getElem?_eq_some_iff.1 ha).1; simpa using this
    have h2 : k < xs.length := by have := (List.getElem?_eq_some_iff.1 hb).1; simpa using this
    rw [List.getElem?_set_self h1] at ha
    rw [List.getElem?_set_self h2] at hb
    rw [← Option.some.inj ha, ← Option.some.inj hb]
    exact hx
  · rw [List.getElem?_set_ne e] at ha hb
    exact hi i a b (fun h => e h.symm) ha hb (h.2 i a b ha hb)
def Marked (w : World) (A B m : Nat) (v : Value) (ys : List R) (e : Ending) (w' : World) : Prop :=
  e = .returned (.int .i64 (m + cnt ys : Nat)) ∧ OwnB A B v (marks m ys) w' ∧ Apart A B w w'
theorem mark0 (A B m : Nat) (w : World) (h : OwnB A B (.slice none 0 0) [] w) :
    Calls Tryd.prog 45 #[.slice none 0 0, .int .i64 m] w (Marked w A B m (.slice none 0 0) []) := by
  have HO := Lib.hid h
  clear h
  go_enter Tryd.func45, Tryd.ntmps45
  go_wp2_with fail
  go_loop [1, 5] (fun q i => q = .int .i64 m ∧ i = .int .i64 0) (fun _ i => 0)
  case atStart => exact ⟨rfl, rfl⟩
  case round =>
    obtain ⟨rfl, rfl⟩ := hrel
    go_wp2_with fail
    go_ret
    exact ⟨rfl, HO.out, Apart.refl _ _ _⟩
set_option maxRecDepth 100000 in
set_option maxHeartbeats 3200000 in
theorem markS (A B m : Nat) (v : Value) (ys : List R) (w : World) (hm0 : 0 < m) (hm : m + cnt ys ≤ 8000000) (hB : B ≤ w.heap.size) (h : OwnB A B v ys w) :
    Calls Tryd.prog 45 #[v, .int .i64 m] w (Marked w A B m v ys) := by
  obtain ⟨hs0, h10, h20, h30, h40⟩ := id h
  rcases h10.1.shape with ⟨rfl, rfl⟩ | ⟨g, cap, rfl, hg1, hg2, hcap, hcm⟩
  · obtain rfl : ys = [] := List.eq_nil_of_length_eq_zero (by rw [← h20.1]; rfl)
    exact mark0 A B m w h
  have hgB : g < B := h10.2 g rfl
  unfold maxLen at hcm
  obtain ⟨n, hn⟩ : ∃ n, n = ys.length := ⟨_, rfl⟩
  have HN := Lib.hid hn.symm
  have hhn : hs0.length = n := by rw [h20.1]; exact hn.symm
  rw [hhn] at h hcap ⊢
  have HO0 := Lib.hid (show OwnB A B (.slice (some ⟨g, 0, none⟩) n cap) (part m ys 0) w by rw [part_zero]; exact h)
  have hln : n ≤ ys.length := by omega
  clear h hn h10 h20 h30 h40 hhn
  go_enter Tryd.func45, Tryd.ntmps45
  go_wp2_with fail
  go_loopw [1, 5] (fun q i wr => ∃ k : Nat, k ≤ n ∧ i = .int .i64 k ∧ q = .int .i64 (m + cnt (ys.take k) : Nat) ∧ Hid (OwnB A B (.slice (some ⟨g, 0, none⟩) n cap) (part m ys k) wr) ∧ Hid (Apart A B w wr)) (fun _ i _ => n - (intOf i).toNat)
  case atStart => exact ⟨0, Nat.zero_le _, rfl, by simp [cnt], HO0, Lib.hid (Apart.refl A B w)⟩
  case round =>
    clear HO0
    obtain ⟨k, hk, rfl, rfl, HR, HTu⟩ := hrel
    by_cases hlt : k < n
    · have hx : k < ys.length := by omega
      have HY := part_at m ys k hx
      have HSet := Lib.hid (part_set m ys k hx)
      have HCN := Lib.hid (cnt_next ys k hx)
      have hcl := cnt_take_le ys (k + 1)
      rw [HCN.out] at hcl
      obtain ⟨C, hC⟩ : ∃ C : Nat, C = m + cnt (ys.take k) := ⟨_, rfl⟩
      obtain ⟨LL, hLL⟩ : ∃ l : Nat, l = (ys[k]).words.length := ⟨_, rfl⟩
      have hC2 : C + 5 + LL ≤ 8000000 := by omega
      have hC0 : 0 < C := by omega
      have HCN2 := Lib.hid (show m + cnt (ys.take (k + 1)) = C + 5 + LL by rw [HCN.out]; omega)
      rw [← hC] at HSet ⊢
      obtain ⟨hs, h1, h2, h3, h4⟩ := HR.out
      have hlen : hs.length = n := by
        have := h2.1
        rw [this]
        unfold part
        rw [List.length_append, List.length_take, List.length_drop, marks_len]
        have := HN.out
        omega
      obtain ⟨u, hu, hou⟩ := h2.at_ HY
      obtain ⟨sa, sn, sc, rfl, ho⟩ := own_form hou
      clear hC hcl HCN HY
      generalize ys[k] = Y at *
      have hat : At kit.row wr g (k * 6) (hd Y sa sn sc) := Own.at_ h1.1 k _ hu
      obtain ⟨q0, q1, q2, q3, q4, q5⟩ := cells_hd hat
      have hf : ∀ o, wr.frozen? ⟨g, o, none⟩ = false := Own.frozen hlen h1.1
      obtain ⟨W3, hW3⟩ : ∃ W3 : World, W3 = ((((wr.setCell ⟨g, k * 6, none⟩ (.int .i64 ((C : Int)))).setCell ⟨g, k * 6 + 1, none⟩ (.int .i64 ((C : Int) + 1))).setCell ⟨g, k * 6 + 2, none⟩ (.int .i64 ((C : Int) + 1 + 1))).setCell ⟨g, k * 6 + 3, none⟩ (.int .i64 ((C : Int) + 1 + 1 + 1))) := ⟨_, rfl⟩
      have hP : Bs.Own kit.row 42 W3 A (.slice (some ⟨g, 0, none⟩) n cap) (hs.set k (hd (mkP C Y) sa sn sc)) := by
        rw [hW3]; exact putPre hlen h1.1 k Y (mkP C Y) sa sn sc hu
      have hsz : W3.heap.size = wr.heap.size := by rw [hW3]; simp
      have hsame : ∀ j, j ≠ g → W3.heap[j]? = wr.heap[j]? := fun j hj => by
        rw [hW3]
        rw [Below.heap_setCell _ _ _ j hj]
        rw [Below.heap_setCell _ _ _ j hj]
        rw [Below.heap_setCell _ _ _ j hj]
        rw [Below.heap_setCell _ _ _ j hj]
      have hat3 : At kit.row W3 g (k * 6) (hd (mkP C Y) sa sn sc) := Own.at_ hP k _ (by rw [List.getElem?_set_self (by omega)])
      have x3 := (cells_hd hat3).2.2.2.2.1
      have hneg : ∀ j, (Value.slice sa sn sc).ownBlock = some j → j ≠ g := fun j hj e => h3.1 k _ j hu (holds_of hj) (by rw [e]; rfl)
      have hoB : Bs.OwnB LString.rec 9 A B (.slice sa sn sc) Y.words W3 := ⟨ho.same fun j hj => hsame j (hneg j hj), fun j hj => h4 k _ j hu (holds_of hj)⟩
      have hBW : B ≤ W3.heap.size := by have := HTu.out.size; omega
      obtain ⟨A3, B3, hn3, hA3, hB3, ht3, hs3⟩ := own_tight hBW hoB
      have HM := Lib.hid (LString.markS A3 B3 (C + 4) _ Y.words W3 (by omega) (by rw [← hLL]; omega) ht3)
      rw [show ((C + 4 : Nat) : Int) = (C : Int) + 1 + 1 + 1 + 1 by omega] at HM
      obtain ⟨NN, hNN⟩ : ∃ N : Nat, N = C + 4 + 1 * Y.words.length := ⟨_, rfl⟩
      have HMN := Lib.hid (show Calls Tryd.prog 44 #[.slice sa sn sc, .int .i64 ((C : Int) + 1 + 1 + 1 + 1)] W3 (fun e w' => e = .returned (.int .i64 (NN : Nat)) ∧ Bs.OwnB LString.rec 9 A3 B3 (.slice sa sn sc) (LString.marks (C + 4) Y.words Y.words.length) w' ∧ Apart A3 B3 W3 w') by rw [hNN]; exact HM.out)
      have HNN := Lib.hid (show NN = C + 4 + LL by rw [hNN, hLL]; omega)
      have hN8 : NN ≤ 8000000 := by rw [hNN, ← hLL]; omega
      clear HM hNN
      have HAp3 := Lib.hid (show Apart A B w W3 by rw [hW3]; exact ((((HTu.out.set (p := ⟨g, k * 6, none⟩) hg1 hgB (.int .i64 ((C : Int)))).set (p := ⟨g, k * 6 + 1, none⟩) hg1 hgB (.int .i64 ((C : Int) + 1))).set (p := ⟨g, k * 6 + 2, none⟩) hg1 hgB (.int .i64 ((C : Int) + 1 + 1))).set (p := ⟨g, k * 6 + 3, none⟩) hg1 hgB (.int .i64 ((C : Int) + 1 + 1 + 1))))
      have HX := Lib.hid (And.intro h1 (And.intro h2 (And.intro h3 h4)))
      have HU := Lib.hid hu
      have HP := Lib.hid hP
      have HSa := Lib.hid hsame
      have HSz := Lib.hid hsz
      have HNg := Lib.hid hneg
      have HT3 := Lib.hid (And.intro hn3 (And.intro hA3 (And.intro hB3 hs3)))
      have HLn := Lib.hid hlen
      have HLL := Lib.hid hLL
      clear h1 h2 h3 h4 hou ho hat hP hsz hsame hat3 hneg hoB hBW ht3 hs3 hA3 hB3 hn3 hu hlen hLL
      go_upto_region 12 with fail
      rw [← hW3]
      clear hW3 q0 q1 q2 q3 q4 q5 hf
      go_wp2_with fail
      refine HMN.out.mono ?_
      rintro e w4 ⟨rfl, hom, hap⟩
      have hout : ∀ j, (Value.slice sa sn sc).ownBlock ≠ some j → j < A3 ∨ B3 ≤ j := fun j hj => by
        rcases HT3.out.2.2.2 with ⟨k', e1, e2, e3⟩ | ⟨_, e2⟩
        · have : j ≠ k' := fun e => hj (by rw [e1, e])
          omega
        · omega
      have hP4 : Bs.Own kit.row 42 w4 A (.slice (some ⟨g, 0, none⟩) n cap) (hs.set k (hd (mkP C Y) sa sn sc)) := own_apart HP.out hap fun j hj => hout j fun e => HNg.out j e (by have := Option.some.inj hj; simpa using this.symm)
      have hl4 : ∀ x : Hd 6, (hs.set k x).length = n := fun x => by rw [List.length_set]; exact HLn.out
      have hg4 : ∀ x : Hd 6, (hs.set k x)[k]? = some x := fun x => by rw [List.getElem?_set_self (by have := (List.getElem?_eq_some_iff.1 HU.out).1; exact this)]
      have f4 : ∀ o, w4.frozen? ⟨g, o, none⟩ = false := Own.frozen (hl4 _) hP4
      have hat4 : At kit.row w4 g (k * 6) (hd (mkP C Y) sa sn sc) := Own.at_ hP4 k _ (hg4 _)
      have y5 := (cells_hd hat4).2.2.2.2.2
      simp only [mkP] at y5
      obtain ⟨W5, hW5⟩ : ∃ W5 : World, W5 = (w4.setCell ⟨g, k * 6 + 5, none⟩ (.int .i64 ((NN : Int)))) := ⟨_, rfl⟩
      have hP5_5 := putPost5 (hl4 _) hP4 k (mkP C Y) (NN : Int) sa sn sc (hg4 _)
      rw [List.set_set] at hP5_5
      have hP5 : Bs.Own kit.row 42 W5 A (.slice (some ⟨g, 0, none⟩) n cap) (hs.set k (hd (mk1 C Y) sa sn sc)) := by
        rw [hW5, show hd (mk1 C Y) sa sn sc = hd { mkP C Y with weight := (NN : Int) } sa sn sc by rw [show (NN : Int) = ((C + 4 + Y.words.length : Nat) : Int) by rw [HNN.out, HLL.out]]; rfl]
        exact hP5_5
      have hS5 : ∀ j, j ≠ g → W5.heap[j]? = w4.heap[j]? := fun j hj => by
        rw [hW5]
        rw [Below.heap_setCell _ _ _ j hj]
      have hz5 : W5.heap.size = w4.heap.size := by rw [hW5]; simp
      have HAp5 := Lib.hid (show Apart A B w W5 by rw [hW5]; exact ((HAp3.out.trans (apart_wide hap HT3.out.2.1 HT3.out.1 HT3.out.2.2.1)).set (p := ⟨g, k * 6 + 5, none⟩) hg1 hgB (.int .i64 ((NN : Int)))))
      have HFin := Lib.hid (show OwnB A B (.slice (some ⟨g, 0, none⟩) n cap) (part m ys (k + 1)) W5 by
        obtain ⟨h1, h2, h3, h4⟩ := HX.out
        have hA3 := HT3.out.2.1
        rw [← HSet.out]
        refine ⟨hs.set k (hd (mk1 C Y) sa sn sc), ⟨hP5, h1.2⟩, els_put h2 (fun i u x hik hu hx hP => kit.own_same hP fun j hj => ?_) (own_hd (own_wide (show Bs.OwnB LString.rec 9 A3 B3 (.slice sa sn sc) (LString.marks (C + 4) Y.words Y.words.length) W5 from ⟨hom.1.same fun j hj => hS5 j (HNg.out j hj), hom.2⟩) hA3)), h3.set (fun j hj => h3.1 k _ j HU.out (holds_of (holds_hd hj))) (fun i u' j hik hu hj hj2 => h3.2 i k _ _ j hik hu HU.out hj (holds_of (holds_hd hj2))), fun i u j hu hj => ?_⟩
        · have hj1 : j ≠ g := fun e => h3.1 i u j hu hj (by rw [e]; rfl)
          have hj2 : (Value.slice sa sn sc).ownBlock ≠ some j := fun e => h3.2 i k _ _ j hik hu HU.out hj (holds_of e)
          have hj3 := (h2.lt i u j hu hj).2
          rw [hS5 j hj1, hap.block j (by have := HSz.out; omega) (hout j hj2), HSa.out j hj1]
        · by_cases e : k = i
          · subst e
            rw [List.getElem?_set_self (by have := (List.getElem?_eq_some_iff.1 HU.out).1; exact this)] at hu
            rw [← Option.some.inj hu] at hj
            exact h4 k _ j HU.out (holds_of (holds_hd hj))
          · rw [List.getElem?_set_ne e] at hu
            exact h4 i u j hu hj)
      clear hom hap hP5 hS5 hz5 hP4 hat4 hout
      go_upto_region 14 with fail
      rw [← hW5]
      clear hW5 f4 y5
      go_wp2_with fail
      go_roundw
      case rel =>
        refine ⟨k + 1, by omega, by go_num, ?_, HFin, HAp5⟩
        rw [HCN2.out]
        have := HNN.out
        congr 1
        omega
      case measure => simp [intOf]; omega
    · obtain rfl : k = n := by omega
      have HE := Lib.hid (show ys.take k = ys from List.take_of_length_le (by have := HN.out; omega))
      have HPA := Lib.hid (part_all m ys k HN.out)
      go_wp2_with fail
      go_ret
      refine ⟨by rw [HE.out]; rfl, ?_, HTu.out⟩
      rw [← HPA.out]
      exact HR.out
end Go.Proofs.YtclpdpfnlmfogaaDoor.LProposalS
