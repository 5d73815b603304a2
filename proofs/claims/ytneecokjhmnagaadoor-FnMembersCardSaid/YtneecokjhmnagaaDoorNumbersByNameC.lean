/- NumbersByName, model and program: what both answer. -/
import Derived.Test.YtneecokjhmnagaaDoorMemI
import Derived.Test.YtneecokjhmnagaaDoorJ1
import Derived.Test.YtneecokjhmnagaaDoorLMemberKinsert
import Derived.BigQuiet
import Derived.Deep.DeepCutAuto
namespace Go.Proofs.YtneecokjhmnagaaDoor.NumbersByNameC
open Go.RowKit Bs Word Mem Srt Nam
set_option linter.unusedVariables false
noncomputable def nA (z : List M) : List Int × Bool := if goodB z = true then (nums z, true) else ([], false)
theorem n_no {z : List M} (h : goodB z = false) : nA z = ([], false) := by unfold nA; rw [h]; rfl
theorem n_yes {z : List M} (h : goodB z = true) : nA z = (nums z, true) := by unfold nA; rw [if_pos h]
def Ans (z0 : List LMember.R) (r0 : List Int) (r1 : Bool) : Prop := nA z0 = (r0, r1)
theorem same {z0 : List LMember.R} {r0 s0 : List Int} {r1 s1 : Bool} (h : Ans z0 r0 r1) (h' : Ans z0 s0 s1) : r0 = s0 ∧ r1 = s1 := by
  have := h.symm.trans h'; simp only [Prod.mk.injEq] at this; exact this
theorem nums_len (z : List M) : (nums z).length = z.length := by unfold nums; rw [List.length_map, srt_len]
theorem names_len (z : List M) : (names z).length = z.length := by unfold names; rw [List.length_map, srt_len]
theorem good_len {z : List M} (h : goodB z = true) : z.length ≤ 12 := (good_of h).1
theorem len0 {z0 : List LMember.R} {r0 : List Int} {r1 : Bool} (h : Ans z0 r0 r1) : r0.length ≤ 1048576 := by
  unfold Ans nA at h
  split at h
  · rename_i hg
    have h10 := good_len hg
    simp only [Prod.mk.injEq] at h; rw [← h.1, nums_len]; omega
  · simp only [Prod.mk.injEq] at h; rw [← h.1]; simp
theorem map_ins {α β : Type} (f : α → β) (P : List α) (x : α) (j : Nat) : (P.take j ++ x :: P.drop j).map f = (P.map f).take j ++ f x :: (P.map f).drop j := by
  rw [List.map_append, List.map_cons, List.map_take, List.map_drop]
def Post (z0 : List LMember.R) (w : World) (e : Ending) (w' : World) : Prop :=
  ∃ v0 r0 r1, e = .returned (.tuple #[v0, .bool r1]) ∧ Ans z0 r0 r1 ∧ Own LInt.rec 3 w' w.heap.size v0 r0 ∧ Below w.heap.size w w'
set_option maxRecDepth 100000 in
set_option maxHeartbeats 4000000 in
theorem spec (v0 : Value) (z0 : List LMember.R) (w : World) (h0 : IsS LMember.rec w v0 z0) (f0 : ∀ x ∈ z0, LMember.Fine x) (l0 : z0.length ≤ 1048576) :
    Calls Tryd.prog 22 #[v0] w (Post z0 w) := by
  have h := IsS.is LMember.rec h0
  have hb0 := (Below.refl w.heap.size w).alloc (Nat.le_refl _) (Obj.cells #[] 3)
  have HO0 := Lib.hid (Own.start (T := LInt.rec) (E := 3) (w := w) (Nat.le_refl _))
  have HG := Lib.hid (MemG.l3Good v0 z0 _ (h.below LMember.rec hb0) f0)
  obtain ⟨a, cp, rfl, h⟩ := h
  have hc := h.at_ LMember.rec
  obtain ⟨n, hn⟩ : ∃ n, n = z0.length := ⟨_, rfl⟩
  have hnb : n ≤ cp := by have := h.1; omega
  have hn2 := h.2.1
  unfold maxLen at hn2
  have HN := Lib.hid hn.symm
  rw [← hn] at HG ⊢
  have hnle : n ≤ z0.length := by omega
  clear hn h h0
  have go1 : ∀ g, goodB z0 = g → MemG.Post z0 (w.alloc (Obj.cells #[] 3)) = fun e w' => e = .returned (.bool g) ∧ Below (w.alloc (Obj.cells #[] 3)).heap.size (w.alloc (Obj.cells #[] 3)) w' := fun g hg => by unfold MemG.Post; rw [hg]
  clear f0
  obtain ⟨i8, hi, hz0, hz1, hz2⟩ := info_parts LInt.infoK
  have HI8 := Lib.hid hi
  have HZ8 := Lib.hid (And.intro hz0 (And.intro hz1 hz2))
  clear hi hz0 hz1 hz2
  obtain ⟨i9, hi, hz0, hz1, hz2⟩ := info_parts LString.infoK
  have HI9 := Lib.hid hi
  have HZ9 := Lib.hid (And.intro hz0 (And.intro hz1 hz2))
  clear hi hz0 hz1 hz2
  cases hg : goodB z0 with
  | false =>
    have HA := Lib.hid (n_no hg)
    rw [go1 _ hg] at HG
    clear hg go1
    go_enter Tryd.func22, Tryd.ntmps22
    go_wp2_with fail
    refine HG.out.mono ?_
    rintro e w1 ⟨rfl, hb1⟩
    have HO := Lib.hid (HO0.out.kept hb1)
    have hb2 := hb0.trans (hb1.mono hb0.size)
    go_wp2_with fail
    go_ret2
    exact ⟨_, [], false, rfl, HA.out, HO.out, hb2⟩
  | true =>
    have HA := Lib.hid (n_yes hg)
    rw [go1 _ hg] at HG
    have h10 : n ≤ 12 := by have := good_len hg; have := HN.out; omega
    clear hg go1
    go_enter Tryd.func22, Tryd.ntmps22
    go_wp2_with fail
    refine HG.out.mono ?_
    rintro e w1 ⟨rfl, hb1⟩
    have hb2 := hb0.trans (hb1.mono hb0.size)
    have hb3 := hb2.alloc hb2.size (Obj.cells #[] 9)
    have HO1 := Lib.hid (((HO0.out.kept hb1).alloc (Obj.cells #[] 9)))
    have HS1 := Lib.hid (Own.start (T := LString.rec) (E := 9) (w := w1) hb2.size)
    clear hb1 HO0 hb0 hb2
    go_wp2_with fail
    go_loopw [4, 5, 6] (fun s4 s5 s6 wr => ∃ (k : Nat) (vo vn : Value), vo = s4 ∧ vn = s5 ∧ k ≤ n ∧ s6 = .int .i64 k ∧ Hid (Own LInt.rec 3 wr w.heap.size vo (nums (z0.take k))) ∧ Hid (vo ≠ .slice none 0 0) ∧ Hid (Own LString.rec 9 wr w.heap.size vn (names (z0.take k))) ∧ Hid (vn ≠ .slice none 0 0) ∧ Below w.heap.size w wr) (fun _ _ i _ => n - (intOf i).toNat)
    case atStart => exact ⟨0, _, _, rfl, rfl, Nat.zero_le _, rfl, HO1, Lib.hid (by simp), HS1, Lib.hid (by simp), hb3⟩
    case round =>
      clear HO1 HS1 hb3
      obtain ⟨k, vo, vn, rfl, rfl, hk, rfl, HO, HNN, HS, HNS, hb⟩ := hrel
      by_cases hlt : k < n
      · have hx : k < z0.length := by omega
        obtain ⟨b, o, rfl, hbl, hcell0⟩ := hc.out k z0[k] (List.getElem?_eq_getElem hx)
        have HX := Lib.hid (List.getElem?_eq_getElem hx)
        have HXC := Lib.hid hcell0
        clear hcell0
        generalize z0[k] = X at *
        obtain ⟨g1, c1, rfl, _, _, hc1, hc1m⟩ := HO.out.some_shape HNN.out
        obtain ⟨g2, c2, rfl, _, _, hc2, hc2m⟩ := HS.out.some_shape HNS.out
        have hnl : (nums (z0.take k)).length = k := by rw [nums_len, List.length_take]; omega
        have hsl : (names (z0.take k)).length = k := by rw [names_len, List.length_take]; omega
        rw [hnl] at HO hc1 ⊢
        rw [hsl] at HS hc2 ⊢
        obtain ⟨P, hP⟩ : ∃ P, P = srt nlt (z0.take k) := ⟨_, rfl⟩
        have HP := Lib.hid hP
        have HPL := Lib.hid (show P.length = k by rw [hP, srt_len, List.length_take]; omega)
        obtain ⟨NU, hNU⟩ : ∃ NU, NU = nums (z0.take k) := ⟨_, rfl⟩
        obtain ⟨NA, hNA⟩ : ∃ NA, NA = names (z0.take k) := ⟨_, rfl⟩
        have NUL := Lib.hid (show NU.length = k by rw [hNU]; exact hnl)
        have NAL := Lib.hid (show NA.length = k by rw [hNA]; exact hsl)
        have HNU := Lib.hid (show NU = P.map (fun m => m.num) by rw [hNU, hP]; rfl)
        have HNA := Lib.hid (show NA = P.map (fun m => m.name) by rw [hNA, hP]; rfl)
        rw [← hNU] at HO
        rw [← hNA] at HS
        have hc1b := hc1m
        have hc2b := hc2m
        unfold maxLen at hc1b hc2b
        clear hP hsl hnl HNN HNS hNU hNA
        have k0 : 0 ≤ (k : Int) := by omega
        have k1 : (k : Int) < (n : Int) := by omega
        go_wp2_with fail
        go_loopw [7] (fun s6 ws => ∃ j : Nat, s6 = .int .i64 j ∧ j ≤ k ∧ Hid (pos nlt P X k = pos nlt P X j) ∧ Hid (Own LInt.rec 3 ws w.heap.size (.slice (some ⟨g1, 0, none⟩) k c1) NU) ∧ Hid (Own LString.rec 9 ws w.heap.size (.slice (some ⟨g2, 0, none⟩) k c2) NA) ∧ Below w.heap.size w ws) (fun s6 _ => (intOf s6).toNat)
        case atStart => exact ⟨k, rfl, Nat.le_refl _, Lib.hid rfl, HO, HS, hb⟩
        case round =>
          clear HO HS hb
          obtain ⟨j, rfl, hjk, HJ, HO, HS, hb⟩ := hrel
          obtain ⟨q0, q1, q2⟩ := LMember.cells (HXC.out.below LMember.rec hb hbl)
          simp only [LMember.rec_n] at q0 q1 q2
          go_wp2_with fail
          go_cut [36] (fun t wx => ∃ v : Bool, t = .bool v ∧ Hid ((v = true → ∃ jp, j = jp + 1 ∧ pos nlt P X k = pos nlt P X jp) ∧ (v = false → pos nlt P X k = j)) ∧ Below wr.heap.size wr wx)
          case first =>
            rcases j with _ | jp
            · go_quiet (fail)
              go_wp2_with fail
              go_meet
              exact ⟨false, rfl, Lib.hid ⟨(fun e => by cases e), fun _ => HJ.out⟩, drawn_below _ _⟩
            · have hpj : jp < P.length := by have := HPL.out; omega
              have HY := Lib.hid (List.getElem?_eq_getElem hpj)
              generalize P[jp] = Y at HY
              have y0 := LString.cells (HS.out.at_ jp Y.name (by rw [HNA.out, List.getElem?_map, HY.out]; rfl))
              simp only [LString.rec_n, Nat.mul_one] at y0
              have t2 : IntKind.i64.wrap ((jp : Int) + 1 - 1) = (jp : Int) := by rw [show (jp : Int) + 1 - 1 = (jp : Int) by omega]; exact IntWalk.i64_in _ (by omega)
              have t3 : IntKind.i64.wrap ((jp : Int)) = (jp : Int) := IntWalk.i64_in _ (by omega)
              have t6 : (0 : Int) ≤ (jp : Int) := by omega
              have t7 : (jp : Int) < (k : Int) := by omega
              have t8 : (0 : Int) < (jp : Int) + 1 := by omega
              have HV := Lib.hid (show (nlt X Y = true → ∃ jp', jp + 1 = jp' + 1 ∧ pos nlt P X k = pos nlt P X jp') ∧ (nlt X Y = false → pos nlt P X k = jp + 1) from
                ⟨fun e => ⟨jp, rfl, by rw [HJ.out]; exact pos_go HY.out e⟩, fun e => by rw [HJ.out]; exact pos_stop HY.out e⟩)
              go_quiet (fail)
              go_wp2_with fail
              go_meet
              exact ⟨_, rfl, HV, drawn_below _ _⟩
          case rest =>
            obtain ⟨v, rfl, HV, hbv⟩ := hcut
            have hb3 := hb.trans (hbv.mono hb.size)
            have HO3 := Lib.hid (HO.out.kept hbv)
            have HS3 := Lib.hid (HS.out.kept hbv)
            clear HO HS hb hbv q0 q1 q2
            cases v with
            | true =>
              obtain ⟨jp, rfl, hj2⟩ := HV.out.1 rfl
              have HJ2 := Lib.hid hj2
              have t2 : IntKind.i64.wrap ((jp : Int) + 1 - 1) = (jp : Int) := by rw [show (jp : Int) + 1 - 1 = (jp : Int) by omega]; exact IntWalk.i64_in _ (by omega)
              have t3 : IntKind.i64.wrap ((jp : Int)) = (jp : Int) := IntWalk.i64_in _ (by omega)
              clear hj2 HV
              go_wp2_with fail
              go_roundw
              case rel => exact ⟨jp, by go_num, by omega, HJ2, HO3, HS3, hb3⟩
              case measure => first | (simp [intOf]; done) | (simp [intOf]; omega)
            | false =>
              have hins : srt nlt (z0.take (k + 1)) = P.take j ++ X :: P.drop j := by rw [srt_next HX.out, ← HP.out]; exact ins_at HPL.out (HV.out.2 rfl)
              have HNU2 := Lib.hid (show nums (z0.take (k + 1)) = NU.take j ++ X.num :: NU.drop j by unfold nums; rw [hins, map_ins, ← HNU.out])
              have HNA2 := Lib.hid (show names (z0.take (k + 1)) = NA.take j ++ X.name :: NA.drop j by unfold names; rw [hins, map_ins, ← HNA.out])
              clear HV HJ hins
              go_wp2_with fail
              generalize wc = V at *
              have hbV := hb3
              have u1 : (j : Int) ≤ (k : Int) := by omega
              have u2 : (j : Int) ≤ (c1 : Int) := by omega
              have u3 : 0 ≤ (j : Int) := by omega
              have u4 : (k : Int) ≤ (c1 : Int) := by omega
              have u5 : (j : Int) ≤ (c2 : Int) := by omega
              have u6 : (k : Int) ≤ (c2 : Int) := by omega
              have HLL := Lib.hid (show NU.length = k from NUL.out)
              have HIR := Lib.hid (show ∀ w' : World, Below V.heap.size V w' → IsS LInt.rec w' (.slice (some ⟨g1, 0, none⟩) k c1) NU from fun w' hb => (HO3.out.isS ⟨g1, rfl⟩).below LInt.rec hb)
              have HT1 := Lib.hid (show ∀ w' : World, Below V.heap.size V w' → ∀ i u, (flat LInt.rec (NU.take j))[i]? = some u → w'.cell? (Addr.add ⟨g1, 0, none⟩ i) = some u from fun w' hb =>
                ((HIR.out w' hb).take LInt.rec (k := j) (by omega)).flatCells LInt.rec)
              obtain ⟨oE, hoE⟩ : ∃ oE, (if c1 = j then some (⟨g1, 0, none⟩ : Addr) else some ⟨g1, j, none⟩) = some ⟨g1, oE, none⟩ := by
                split
                · exact ⟨_, rfl⟩
                · exact ⟨_, rfl⟩
              have HT2 := Lib.hid (show ∀ w' : World, Below V.heap.size V w' → ∀ i u, (flat LInt.rec (NU.drop j))[i]? = some u → w'.cell? (Addr.add ⟨g1, oE, none⟩ i) = some u from fun w' hb =>
                ((HIR.out w' hb).drop LInt.rec (k := j) (some ⟨g1, oE, none⟩) (by rw [Nat.zero_add, show j * LInt.rec.n = j from Nat.mul_one j]; exact hoE.symm) (by omega) _ _ rfl rfl).flatCells LInt.rec)
              have HK := Lib.hid (show ∀ w' : World, Below V.heap.size V w' → Below V.heap.size V w' ∧ w'.cell? ⟨b, o + k * 3, none⟩ = some (.int .i64 X.num) from fun w' hb => by
                obtain ⟨q0, q1, q2⟩ := LMember.cells (HXC.out.below LMember.rec (hbV.trans (hb.mono hbV.size)) hbl)
                exact ⟨hb, q0⟩)
              go_cut [4] (fun s4 wx => ∃ v', s4 = v' ∧ Hid (Own LInt.rec 3 wx w.heap.size v' (nums (z0.take (k + 1)))) ∧ Hid (v' ≠ .slice none 0 0) ∧ Below V.heap.size V wx)
              case first =>
                go_region_held3 (fun w' => Below V.heap.size V w' ∧ w'.cell? ⟨b, o + k * 3, none⟩ = some (.int .i64 X.num)) ((refine HK.out _ ?_; (repeat (first | assumption | exact Below.refl _ _ | refine Below.drew ?_ | refine Below.alloc ?_ (by first | (simp; done) | (simp; omega) | omega) _)))) (first | (refine step_append_nn (by rfl) (.tmp 39) (.tmp 42) 40 (by rfl) V.heap.size 3 i8 (.int .i64 0) 1 8 Tryd.underlying40 HI8.out HZ8.out.1 HZ8.out.2.1 HZ8.out.2.2 rfl (by decide) _ (0) ([]) (by rfl) (by first | exact LInt.startB (heap_alloc_new _ _) (by first | (simp; done) | (simp; omega) | omega) | exact LInt.startB (alloc_old _ _ _) (by first | (simp; done) | (simp; omega) | omega) | exact LInt.startB (alloc_two _ _ _) (by first | (simp; done) | (simp; omega) | omega)) (⟨g1, 0, none⟩) (j) (c1) (flat LInt.rec (NU.take j)) (by rfl) (by rw [flat_len, LInt.rec_n]; rw [List.length_take]; have := HLL.out; omega) (fun j u hu => HT1.out _ (by (repeat (first | assumption | exact Below.refl _ _ | refine Below.drew ?_ | refine Below.alloc ?_ (by first | (simp; done) | (simp; omega) | omega) _))) j u hu) (flat_one _ _) (by unfold maxLen; omega) (by omega) (by first | (simp; done) | (simp; omega) | omega) (by show Value.slice (some ⟨_, _, _⟩) 0 0 ≠ Value.slice none 0 0; simp) ?_; intro v1 w1 hown1 hgrow1 hnn1; replace hown1 := own_in hown1; have hB1 : Below V.heap.size V w1 := Below.grown (by (repeat (first | assumption | exact Below.refl _ _ | refine Below.drew ?_ | refine Below.alloc ?_ (by first | (simp; done) | (simp; omega) | omega) _))) hgrow1 (by first | (simp; done) | (simp; omega) | omega) (fun j hj => own_ge hj (by simp)); have hz1 := hB1.size; (first | have hr1 : w1.heap[V.heap.size]? = some (Obj.cells #[.int .i64 X.num] 3) := (hgrow1.block _ (by simp; omega) (show some V.heap.size ≠ some (V.heap.size + 1) from fun e => absurd (Option.some.inj e) (by omega))).trans (alloc_old _ _ _) | have hr1 : w1.heap[V.heap.size + 1]? = some (Obj.cells #[.int .i64 X.num] 3) := (hgrow1.block _ (by simp) (show some (V.heap.size + 1) ≠ some V.heap.size from fun e => absurd (Option.some.inj e) (by omega))).trans (alloc_two _ _ _) | skip); clear hgrow1) | (refine step_append_nn (by rfl) (.tmp 43) (.tmp 49) 40 (by rfl) V.heap.size 3 i8 (.int .i64 0) 1 8 Tryd.underlying40 HI8.out HZ8.out.1 HZ8.out.2.1 HZ8.out.2.2 rfl (by decide) v1 (j) ((flat LInt.rec (NU.take j))) (by rfl) (by first | exact hown1 | exact hown1.alloc _) _ 1 1 [.int .i64 X.num] (by rfl) (by rfl) (by first | exact World.news_of_block (heap_alloc_new _ _) | exact World.news_of_block hr1) (by intro u hu; simp at hu; subst hu; rfl) (by unfold maxLen; omega) (by omega) (by first | (simp; done) | (simp; omega) | omega) hnn1 ?_; intro v2 w2 hown2 hgrow2 hnn2; have hB2 : Below V.heap.size V w2 := Below.grown (by (repeat (first | assumption | exact Below.refl _ _ | refine Below.drew ?_ | refine Below.alloc ?_ (by first | (simp; done) | (simp; omega) | omega) _))) hgrow2 (by first | (simp; done) | (simp; omega) | omega) (fun j hj => (hown1.lt j hj).1); have hz2 := hB2.size; clear hgrow2) | (refine step_append_nn (by rfl) (.tmp 50) (.tmp 53) 40 (by rfl) V.heap.size 3 i8 (.int .i64 0) 1 8 Tryd.underlying40 HI8.out HZ8.out.1 HZ8.out.2.1 HZ8.out.2.2 rfl (by decide) v2 (j + 1) ((flat LInt.rec (NU.take j)) ++ [.int .i64 X.num]) (by rfl) (by first | exact hown2 | exact hown2.alloc _) (⟨g1, oE, none⟩) (k - j) (c1 - j) (flat LInt.rec (NU.drop j)) (by rfl) (by rw [flat_len, LInt.rec_n]; rw [List.length_drop]; have := HLL.out; omega) (fun j u hu => HT2.out _ (by (repeat (first | assumption | exact Below.refl _ _ | refine Below.drew ?_ | refine Below.alloc ?_ (by first | (simp; done) | (simp; omega) | omega) _))) j u hu) (flat_one _ _) (by unfold maxLen; omega) (by omega) (by first | (simp; done) | (simp; omega) | omega) hnn2 ?_; intro v3 w3 hown3 hgrow3 hnn3; have hB3 : Below V.heap.size V w3 := Below.grown (by (repeat (first | assumption | exact Below.refl _ _ | refine Below.drew ?_ | refine Below.alloc ?_ (by first | (simp; done) | (simp; omega) | omega) _))) hgrow3 (by first | (simp; done) | (simp; omega) | omega) (fun j hj => (hown2.lt j hj).1); have hz3 := hB3.size; clear hgrow3) | fail)
                all_goals
                  have HO4 := Lib.hid (Own.low (own_of LInt.rec (xs := nums (z0.take (k + 1))) hown3 (by rw [nums_len, List.length_take]; have := HN.out; omega) (by rw [HNU2.out, flat_ins]; rfl)) hb3.size)
                  have HN4 := Lib.hid hnn3
                  have hb6 := hB3
                  clear hown1 hown2 hown3 hB1 hB2 hB3 hz1 hz2 hz3 HK HT1 HT2 hnn1 hnn2 hnn3
                  go_wp2_with fail
                  all_goals
                    go_meet
                    exact ⟨_, rfl, HO4, HN4, hb6⟩
              case rest =>
                obtain ⟨v', rfl, HO4, HN4, hb6⟩ := hcut
                have HS4 := Lib.hid (HS3.out.kept hb6)
                have hb7 := hb3.trans (hb6.mono hb3.size)
                clear HK HT1 HT2 hoE HIR HLL hbV hb3 HO3 HS3 hb6
                go_wp2_with fail
                generalize wc = V at *
                have hbV := hb7
                have HLL := Lib.hid (show NA.length = k from NAL.out)
                have HIR := Lib.hid (show ∀ w' : World, Below V.heap.size V w' → IsS LString.rec w' (.slice (some ⟨g2, 0, none⟩) k c2) NA from fun w' hb => (HS4.out.isS ⟨g2, rfl⟩).below LString.rec hb)
                have HT1 := Lib.hid (show ∀ w' : World, Below V.heap.size V w' → ∀ i u, (flat LString.rec (NA.take j))[i]? = some u → w'.cell? (Addr.add ⟨g2, 0, none⟩ i) = some u from fun w' hb =>
                  ((HIR.out w' hb).take LString.rec (k := j) (by omega)).flatCells LString.rec)
                obtain ⟨oE, hoE⟩ : ∃ oE, (if c2 = j then some (⟨g2, 0, none⟩ : Addr) else some ⟨g2, j, none⟩) = some ⟨g2, oE, none⟩ := by
                  split
                  · exact ⟨_, rfl⟩
                  · exact ⟨_, rfl⟩
                have HT2 := Lib.hid (show ∀ w' : World, Below V.heap.size V w' → ∀ i u, (flat LString.rec (NA.drop j))[i]? = some u → w'.cell? (Addr.add ⟨g2, oE, none⟩ i) = some u from fun w' hb =>
                  ((HIR.out w' hb).drop LString.rec (k := j) (some ⟨g2, oE, none⟩) (by rw [Nat.zero_add, show j * LString.rec.n = j from Nat.mul_one j]; exact hoE.symm) (by omega) _ _ rfl rfl).flatCells LString.rec)
                have HK := Lib.hid (show ∀ w' : World, Below V.heap.size V w' → Below V.heap.size V w' ∧ w'.cell? ⟨b, o + k * 3 + 1, none⟩ = some (.string X.name) from fun w' hb => by
                  obtain ⟨q0, q1, q2⟩ := LMember.cells (HXC.out.below LMember.rec (hbV.trans (hb.mono hbV.size)) hbl)
                  exact ⟨hb, q1⟩)
                go_region_held3 (fun w' => Below V.heap.size V w' ∧ w'.cell? ⟨b, o + k * 3 + 1, none⟩ = some (.string X.name)) ((refine HK.out _ ?_; (repeat (first | assumption | exact Below.refl _ _ | refine Below.drew ?_ | refine Below.alloc ?_ (by first | (simp; done) | (simp; omega) | omega) _)))) (first | (refine step_append_nn (by rfl) (.tmp 55) (.tmp 58) 57 (by rfl) V.heap.size 9 i9 (.string ⟨#[]⟩) 1 16 Tryd.underlying57 HI9.out HZ9.out.1 HZ9.out.2.1 HZ9.out.2.2 rfl (by decide) _ (0) ([]) (by rfl) (by first | exact LString.startB (heap_alloc_new _ _) (by first | (simp; done) | (simp; omega) | omega) | exact LString.startB (alloc_old _ _ _) (by first | (simp; done) | (simp; omega) | omega) | exact LString.startB (alloc_two _ _ _) (by first | (simp; done) | (simp; omega) | omega)) (⟨g2, 0, none⟩) (j) (c2) (flat LString.rec (NA.take j)) (by rfl) (by rw [flat_len, LString.rec_n]; rw [List.length_take]; have := HLL.out; omega) (fun j u hu => HT1.out _ (by (repeat (first | assumption | exact Below.refl _ _ | refine Below.drew ?_ | refine Below.alloc ?_ (by first | (simp; done) | (simp; omega) | omega) _))) j u hu) (flat_one _ _) (by unfold maxLen; omega) (by omega) (by first | (simp; done) | (simp; omega) | omega) (by show Value.slice (some ⟨_, _, _⟩) 0 0 ≠ Value.slice none 0 0; simp) ?_; intro v1 w1 hown1 hgrow1 hnn1; replace hown1 := own_in hown1; have hB1 : Below V.heap.size V w1 := Below.grown (by (repeat (first | assumption | exact Below.refl _ _ | refine Below.drew ?_ | refine Below.alloc ?_ (by first | (simp; done) | (simp; omega) | omega) _))) hgrow1 (by first | (simp; done) | (simp; omega) | omega) (fun j hj => own_ge hj (by simp)); have hz1 := hB1.size; (first | have hr1 : w1.heap[V.heap.size]? = some (Obj.cells #[.string X.name] 9) := (hgrow1.block _ (by simp; omega) (show some V.heap.size ≠ some (V.heap.size + 1) from fun e => absurd (Option.some.inj e) (by omega))).trans (alloc_old _ _ _) | have hr1 : w1.heap[V.heap.size + 1]? = some (Obj.cells #[.string X.name] 9) := (hgrow1.block _ (by simp) (show some (V.heap.size + 1) ≠ some V.heap.size from fun e => absurd (Option.some.inj e) (by omega))).trans (alloc_two _ _ _) | skip); clear hgrow1) | (refine step_append_nn (by rfl) (.tmp 59) (.tmp 65) 57 (by rfl) V.heap.size 9 i9 (.string ⟨#[]⟩) 1 16 Tryd.underlying57 HI9.out HZ9.out.1 HZ9.out.2.1 HZ9.out.2.2 rfl (by decide) v1 (j) ((flat LString.rec (NA.take j))) (by rfl) (by first | exact hown1 | exact hown1.alloc _) _ 1 1 [.string X.name] (by rfl) (by rfl) (by first | exact World.news_of_block (heap_alloc_new _ _) | exact World.news_of_block hr1) (by intro u hu; simp at hu; subst hu; rfl) (by unfold maxLen; omega) (by omega) (by first | (simp; done) | (simp; omega) | omega) hnn1 ?_; intro v2 w2 hown2 hgrow2 hnn2; have hB2 : Below V.heap.size V w2 := Below.grown (by (repeat (first | assumption | exact Below.refl _ _ | refine Below.drew ?_ | refine Below.alloc ?_ (by first | (simp; done) | (simp; omega) | omega) _))) hgrow2 (by first | (simp; done) | (simp; omega) | omega) (fun j hj => (hown1.lt j hj).1); have hz2 := hB2.size; clear hgrow2) | (refine step_append_nn (by rfl) (.tmp 66) (.tmp 69) 57 (by rfl) V.heap.size 9 i9 (.string ⟨#[]⟩) 1 16 Tryd.underlying57 HI9.out HZ9.out.1 HZ9.out.2.1 HZ9.out.2.2 rfl (by decide) v2 (j + 1) ((flat LString.rec (NA.take j)) ++ [.string X.name]) (by rfl) (by first | exact hown2 | exact hown2.alloc _) (⟨g2, oE, none⟩) (k - j) (c2 - j) (flat LString.rec (NA.drop j)) (by rfl) (by rw [flat_len, LString.rec_n]; rw [List.length_drop]; have := HLL.out; omega) (fun j u hu => HT2.out _ (by (repeat (first | assumption | exact Below.refl _ _ | refine Below.drew ?_ | refine Below.alloc ?_ (by first | (simp; done) | (simp; omega) | omega) _))) j u hu) (flat_one _ _) (by unfold maxLen; omega) (by omega) (by first | (simp; done) | (simp; omega) | omega) hnn2 ?_; intro v3 w3 hown3 hgrow3 hnn3; have hB3 : Below V.heap.size V w3 := Below.grown (by (repeat (first | assumption | exact Below.refl _ _ | refine Below.drew ?_ | refine Below.alloc ?_ (by first | (simp; done) | (simp; omega) | omega) _))) hgrow3 (by first | (simp; done) | (simp; omega) | omega) (fun j hj => (hown2.lt j hj).1); have hz3 := hB3.size; clear hgrow3) | fail)
                all_goals
                  have HO5 := Lib.hid (HO4.out.kept hB3)
                  have HS5 := Lib.hid (Own.low (own_of LString.rec (xs := names (z0.take (k + 1))) hown3 (by rw [names_len, List.length_take]; have := HN.out; omega) (by rw [HNA2.out, flat_ins]; rfl)) hb7.size)
                  have HN5 := Lib.hid hnn3
                  have hb8 := hb7.trans (hB3.mono hb7.size)
                  clear hown1 hown2 hown3 hB1 hB2 hB3 hz1 hz2 hz3 HK HT1 HT2 hnn1 hnn2 hnn3
                  go_wp2_with fail
                  all_goals
                    go_roundw
                    case rel => exact ⟨k + 1, _, _, rfl, rfl, by omega, by go_num, HO5, HN4, HS5, HN5, hb8⟩
                    case measure => simp [intOf]; omega
      · obtain rfl : k = n := by omega
        have HE := Lib.hid (show Own LInt.rec 3 wr w.heap.size vo (nums z0) by have h := HO.out; rw [List.take_of_length_le (by have := HN.out; omega)] at h; exact h)
        go_wp2_with fail
        go_ret2
        exact ⟨_, _, true, rfl, HA.out, HE.out, hb⟩
theorem lessString (a b : ByteArray) (w : World) : Calls Tryd.prog 49 #[.string a, .string b] w fun e w' => e = .returned (.bool (Op.bytesLess a.toList b.toList)) ∧ w = w' := by
  go_enter Tryd.func49, Tryd.ntmps49
  go_wp2_with fail
  go_ret
  exact ⟨rfl, rfl⟩
set_option maxRecDepth 100000 in
set_option maxHeartbeats 4000000 in
theorem impl (v0 : Value) (z0 : List LMember.R) (w : World) (h0 : IsS LMember.rec w v0 z0) (f0 : ∀ x ∈ z0, LMember.Fine x) (l0 : z0.length ≤ 1048576) :
    Calls Tryd.prog 21 #[v0] w (Post z0 w) := by
  have h := IsS.is LMember.rec h0
  have HV := Lib.hid (MemI.isValidMembers v0 z0 w h f0)
  obtain ⟨a, cp, rfl, h⟩ := h
  have hc := h.at_ LMember.rec
  obtain ⟨n, hn⟩ : ∃ n, n = z0.length := ⟨_, rfl⟩
  have hnb : n ≤ cp := by have := h.1; omega
  have hn2 := h.2.1
  unfold maxLen at hn2
  have HN := Lib.hid hn.symm
  rw [← hn] at HV ⊢
  have hnle : n ≤ z0.length := by omega
  clear hn h h0
  have go1 : ∀ g, goodB z0 = g → MemG.Post z0 w = fun e w' => e = .returned (.bool g) ∧ Below w.heap.size w w' := fun g hg => by unfold MemG.Post; rw [hg]
  clear f0
  obtain ⟨i8, hi, hz0, hz1, hz2⟩ := info_parts LInt.infoK
  have HI8 := Lib.hid hi
  have HZ8 := Lib.hid (And.intro hz0 (And.intro hz1 hz2))
  clear hi hz0 hz1 hz2
  cases hg : goodB z0 with
  | false =>
    have HA := Lib.hid (n_no hg)
    rw [go1 _ hg] at HV
    clear hg go1
    go_enter Tryd.func21, Tryd.ntmps21
    go_wp2_with fail
    refine HV.out.mono ?_
    rintro e w1 ⟨rfl, hb1⟩
    have hb2 := hb1.alloc hb1.size (Obj.cells #[] 3)
    have HO := Lib.hid (Own.start (T := LInt.rec) (E := 3) (w := w1) hb1.size)
    go_wp2_with fail
    go_ret2
    exact ⟨_, [], false, rfl, HA.out, HO.out, hb2⟩
  | true =>
    have HA := Lib.hid (n_yes hg)
    rw [go1 _ hg] at HV
    have h10 : n ≤ 12 := by have := good_len hg; have := HN.out; omega
    have HGd := Lib.hid hg
    clear hg go1
    go_enter Tryd.func21, Tryd.ntmps21
    go_wp2_with fail
    refine HV.out.mono ?_
    rintro e w1 ⟨rfl, hb1⟩
    have hb2 := hb1.alloc hb1.size (Obj.cells #[] 60)
    have HO1 := Lib.hid (Own.start (T := LMember.rec) (E := 60) (w := w1) hb1.size)
    clear hb1
    go_wp2_with fail
    go_loopw [4, 18] (fun s4 s18 wr => ∃ (k : Nat) (v : Value), v = s4 ∧ k ≤ n ∧ s18 = .int .i64 k ∧ Hid (Own LMember.rec 60 wr w.heap.size v (srt nlt (z0.take k))) ∧ Hid (v ≠ .slice none 0 0) ∧ Below w.heap.size w wr) (fun _ i _ => n - (intOf i).toNat)
    case atStart => exact ⟨0, _, rfl, Nat.zero_le _, rfl, HO1, Lib.hid (by simp), hb2⟩
    case round =>
      clear HO1 hb2
      obtain ⟨k, v, rfl, hk, rfl, HO, HNN, hb⟩ := hrel
      by_cases hlt : k < n
      · have hx : k < z0.length := by omega
        obtain ⟨b, o, rfl, hbl, hcell0⟩ := hc.out k z0[k] (List.getElem?_eq_getElem hx)
        obtain ⟨q0, q1, q2⟩ := LMember.cells (hcell0.below LMember.rec hb hbl)
        simp only [LMember.rec_n] at q0 q1 q2
        have HX := Lib.hid (List.getElem?_eq_getElem hx)
        clear hcell0
        generalize z0[k] = X at *
        obtain ⟨g2, c2, rfl, hg2, hg2l, hc2, hc2m⟩ := HO.out.some_shape HNN.out
        have hsl : (srt nlt (z0.take k)).length = k := by rw [srt_len, List.length_take]; omega
        rw [hsl] at HO hc2 ⊢
        obtain ⟨P, hP⟩ : ∃ P, P = srt nlt (z0.take k) := ⟨_, rfl⟩
        have HPL := Lib.hid (show P.length = k by rw [hP]; exact hsl)
        have HAs := Lib.hid (show Asc P by rw [hP]; exact good_asc HGd.out k (by omega))
        have HNe := Lib.hid (show New P X by rw [hP]; exact good_new HGd.out HX.out)
        have HP := Lib.hid hP
        rw [← hP] at HO
        have hc2b := hc2m
        unfold maxLen at hc2b
        clear hP hsl HNN
        have k0 : 0 ≤ (k : Int) := by omega
        have k1 : (k : Int) < (n : Int) := by omega
        go_upto_region 7 with fail
        have HBX := Lib.hid (LMember.box wr X 60)
        have hba := hb.alloc hb.size (Obj.cells #[.int .i64 X.num, .string X.name, .int .i64 X.off] 60)
        have hGq : wr.heap.size < (wr.alloc (Obj.cells #[.int .i64 X.num, .string X.name, .int .i64 X.off] 60)).heap.size := by simp
        have HO1 := Lib.hid (HO.out.alloc (Obj.cells #[.int .i64 X.num, .string X.name, .int .i64 X.off] 60))
        have hGl : w.heap.size ≤ wr.heap.size := hb.size
        clear q0 q1 q2 HO hb hg2l
        generalize wr.alloc (Obj.cells #[.int .i64 X.num, .string X.name, .int .i64 X.off] 60) = wq at *
        generalize wr.heap.size = G at *
        go_wp2_with fail
        go_loopw [7] (fun s7 ws => ∃ j : Nat, s7 = .int .i64 j ∧ j ≤ k ∧ Hid (∀ (i : Nat) (a : M), i < j → P[i]? = some a → nlt a X = true) ∧ Hid (At LMember.rec ws G 0 X) ∧ G < ws.heap.size ∧ Hid (Own LMember.rec 60 ws w.heap.size (.slice (some ⟨g2, 0, none⟩) k c2) P) ∧ Below w.heap.size w ws) (fun s7 _ => k - (intOf s7).toNat)
        case atStart => exact ⟨0, rfl, Nat.zero_le _, Lib.hid (fun i a hi => by omega), HBX, hGq, HO1, hba⟩
        case round =>
          clear HBX hGq HO1 hba
          obtain ⟨j, rfl, hjk, HJ, HBX, hGs, HO, hb⟩ := hrel
          obtain ⟨x0, x1, x2⟩ := LMember.cells0 HBX.out
          have HLS := Lib.hid (fun (a b : ByteArray) (W : World) => lessString a b W)
          go_wp2_with fail
          go_cut [35] (fun t wx => ∃ v : Bool, t = .bool v ∧ Hid ((v = true → j < k ∧ ∀ a, P[j]? = some a → nlt a X = true) ∧ (v = false → ∀ a, P[j]? = some a → nlt a X = false)) ∧ Below wr.heap.size wr wx)
          case first =>
            by_cases hjl : j < k
            · have hpj : j < P.length := by have := HPL.out; omega
              have HY := Lib.hid (List.getElem?_eq_getElem hpj)
              generalize P[j] = Y at HY
              obtain ⟨y0, y1, y2⟩ := LMember.cells (HO.out.at_ j Y HY.out)
              simp only [LMember.rec_n] at y0 y1 y2
              have t0 : (0 : Int) ≤ (j : Int) := by omega
              have t1 : (j : Int) < (k : Int) := by omega
              have HVV := Lib.hid (show (nlt Y X = true → j < k ∧ ∀ a, P[j]? = some a → nlt a X = true) ∧ (nlt Y X = false → ∀ a, P[j]? = some a → nlt a X = false) from
                ⟨fun e => ⟨hjl, fun a ha => by rw [HY.out] at ha; rw [← Option.some.inj ha]; exact e⟩, fun e a ha => by rw [HY.out] at ha; rw [← Option.some.inj ha]; exact e⟩)
              go_quiet ((first | (go_at_call 49; exact quiet_eq (HLS.out _ _ _))))
              go_wp2_with fail
              go_meet
              exact ⟨_, rfl, HVV, drawn_below _ _⟩
            · have t1 : ¬ (j : Int) < (k : Int) := by omega
              have HVV := Lib.hid (show ∀ a, P[j]? = some a → nlt a X = false from fun a ha => by have := (List.getElem?_eq_some_iff.1 ha).1; have := HPL.out; omega)
              go_quiet (fail)
              go_wp2_with fail
              go_meet
              exact ⟨false, rfl, Lib.hid ⟨(fun e => by cases e), fun _ => HVV.out⟩, drawn_below _ _⟩
          case rest =>
            obtain ⟨v, rfl, HV, hbv⟩ := hcut
            have hb3 := hb.trans (hbv.mono hb.size)
            have HO3 := Lib.hid (HO.out.kept hbv)
            have HBX3 := Lib.hid (HBX.out.below LMember.rec hbv hGs)
            have hGt : G < wc.heap.size := Nat.lt_of_lt_of_le hGs hbv.size
            clear HO hb hbv x0 x1 x2 HBX hGs HLS
            cases v with
            | true =>
              obtain ⟨hjl, hj2⟩ := HV.out.1 rfl
              have HJ2 := Lib.hid (show ∀ (i : Nat) (a : M), i < j + 1 → P[i]? = some a → nlt a X = true from fun i a hi ha => by
                rcases Nat.lt_or_ge i j with h | h
                · exact HJ.out i a h ha
                · obtain rfl : i = j := by omega
                  exact hj2 a ha)
              clear hj2 HV
              go_wp2_with fail
              go_roundw
              case rel => exact ⟨j + 1, by go_num, by omega, HJ2, HBX3, hGt, HO3, hb3⟩
              case measure => simp [intOf]; omega
            | false =>
              have hpos : pos nlt P X k = j := by
                have := front_eq HAs.out HNe.out (by have := HPL.out; omega) HJ.out (HV.out.2 rfl)
                rw [HPL.out] at this; exact this
              have HSN := Lib.hid (show srt nlt (z0.take (k + 1)) = P.take j ++ X :: P.drop j by rw [srt_next HX.out, ← HP.out]; exact ins_at HPL.out hpos)
              clear HV HJ hpos
              obtain ⟨x0, x1, x2⟩ := LMember.cells0 HBX3.out
              have hb6 := hb3.alloc hb3.size (Obj.cells #[.int .i64 X.num, .string X.name, .int .i64 X.off] 60)
              have HINS := Lib.hid (LMember.insert1 (.slice (some ⟨g2, 0, none⟩) k c2) P X j wc.heap.size (wc.alloc (Obj.cells #[.int .i64 X.num, .string X.name, .int .i64 X.off] 60)) (HO3.out.alloc _) (by have := hb3.size; simp; omega) (by have := HPL.out; omega) (by have := HPL.out; omega) (heap_alloc_new _ _) (fun g hg => by have := (HO3.out.lt g hg).2; omega))
              go_wp2_with fail
              refine HINS.out.mono ?_
              rintro e w4 ⟨v4, rfl, hO4, hs4, hb7⟩
              have hb8 := hb6.trans hb7
              have HO4 := Lib.hid (show Own LMember.rec 60 w4 w.heap.size v4 (srt nlt (z0.take (k + 1))) by rw [HSN.out]; exact hO4)
              have HN4 := Lib.hid (show v4 ≠ .slice none 0 0 from fun e => by obtain ⟨g, hg⟩ := hs4; rw [e] at hg; cases hg)
              clear hO4 hb7 hs4 x0 x1 x2
              go_wp2_with fail
              go_roundw
              case rel => exact ⟨k + 1, _, rfl, by omega, by go_num, HO4, HN4, hb8⟩
              case measure => simp [intOf]; omega
      · obtain rfl : k = n := by omega
        have hO := HO.out
        rw [List.take_of_length_le (by have := HN.out; omega)] at hO
        obtain ⟨g2, c2, rfl, hg2, hg2l, hc2, hc2m⟩ := hO.some_shape HNN.out
        have hsl : (srt nlt z0).length = k := by rw [srt_len, HN.out]
        rw [hsl] at hO hc2 ⊢
        have HOS := Lib.hid hO
        obtain ⟨S, hS⟩ : ∃ S, S = srt nlt z0 := ⟨_, rfl⟩
        have HSE := Lib.hid hS
        rw [← hS] at HOS
        have HSL := Lib.hid (show S.length = k by rw [hS]; exact hsl)
        have hc2b := hc2m
        unfold maxLen at hc2b
        have hbA := (Below.refl wr.heap.size wr).alloc (Nat.le_refl _) (Obj.cells #[] 3)
        have HO0 := Lib.hid (Own.start (T := LInt.rec) (E := 3) (w := wr) (Nat.le_refl _))
        clear hO hS hsl HO HNN
        go_wp2_with fail
        generalize wr = wA at *
        go_loopw [8, 47] (fun so i wr => ∃ (j : Nat) (o : Value) (zs : List Int), o = so ∧ j ≤ k ∧ i = .int .i64 j ∧ Hid (zs = (S.take j).map (fun m => m.num)) ∧ zs.length ≤ j ∧ Hid (Own LInt.rec 3 wr wA.heap.size o zs) ∧ Below wA.heap.size wA wr) (fun _ i _ => k - (intOf i).toNat)
        case atStart => exact ⟨0, _, [], rfl, Nat.zero_le _, rfl, Lib.hid rfl, Nat.le_refl _, HO0, hbA⟩
        case round =>
          clear HO0 hbA
          obtain ⟨j, o, zs, rfl, hj, rfl, HZ, hzl, HO, hbr⟩ := hrel
          by_cases hlt2 : j < k
          · have hpj : j < S.length := by have := HSL.out; omega
            have HY := Lib.hid (List.getElem?_eq_getElem hpj)
            generalize S[j] = Y at HY
            obtain ⟨y0, y1, y2⟩ := LMember.cells ((HOS.out.at_ j Y HY.out).below LMember.rec hbr hg2l)
            simp only [LMember.rec_n] at y0 y1 y2
            have HZ2 := Lib.hid (show zs ++ [Y.num] = (S.take (j + 1)).map (fun m => m.num) by
              obtain ⟨hk2, hy2⟩ := List.getElem?_eq_some_iff.1 HY.out
              rw [List.take_succ_eq_append_getElem hk2, List.map_append, ← HZ.out, hy2]; rfl)
            have t0 : (0 : Int) ≤ (j : Int) := by omega
            have t1 : (j : Int) < (k : Int) := by omega
            have hsz := hbr.size
            go_wp2_with (at_builtin; refine wpList_append_own _ rfl (.tmp 51) (.tmp 54) 40 rfl wA.heap.size 3 i8 (.int .i64 0) 1 8 Tryd.underlying40 HI8.out HZ8.out.1 HZ8.out.2.1 HZ8.out.2.2 rfl (by decide) _ _ _ rfl (Own.kept HO.out (by (repeat (first | assumption | exact Below.refl _ _ | refine Below.drew ?_ | refine Below.setCell ?_ (by first | (simp; done) | (simp; omega) | omega) _ | refine Below.alloc ?_ (by first | (simp; done) | (simp; omega) | omega) _)))) ⟨_, 0, none⟩ 1 1 [.int .i64 Y.num] rfl rfl ?c1 ?c2 ?c3 ?c4 ?c5 ?c6)
            try (case c1 => first | exact World.news_of_block (heap_alloc_new _ _) | exact World.news_of_block (alloc_two _ _ _))
            case c2 => first | rfl | (intro u hu; simp only [List.mem_cons, List.not_mem_nil, or_false] at hu; subst hu; rfl)
            case c3 => unfold maxLen; omega
            case c4 => omega
            case c5 => first | (simp; done) | (simp; omega) | omega
            case c6 =>
              intro v' w4 hown' hgrow _
              have hb3 : Below wA.heap.size wA w4 := Below.grown (by (repeat (first | assumption | exact Below.refl _ _ | refine Below.drew ?_ | refine Below.setCell ?_ (by first | (simp; done) | (simp; omega) | omega) _ | refine Below.alloc ?_ (by first | (simp; done) | (simp; omega) | omega) _))) hgrow (by first | (simp; done) | (simp; omega) | omega) (fun j hj => (HO.out.lt j hj).1)
              have HO2 := Lib.hid (show Own LInt.rec 3 w4 wA.heap.size v' (zs ++ [Y.num]) from own_of LInt.rec hown' (by simp) (by rw [flat_append]; rfl))
              clear hown' hgrow
              go_wp2_with fail
              go_roundw
              case rel => exact ⟨j + 1, _, _, rfl, by omega, by go_num, HZ2, by simp; omega, HO2, hb3⟩
              case measure => simp [intOf]; omega
          · obtain rfl : j = k := by omega
            have HE := Lib.hid (show Own LInt.rec 3 wr w.heap.size o (nums z0) by
              have h := HO.out.low hb.size
              rw [HZ.out, List.take_of_length_le (by have := HSL.out; omega), HSE.out] at h; exact h)
            have hbz := hb.trans (hbr.mono hb.size)
            go_wp2_with fail
            go_ret2
            exact ⟨_, _, true, rfl, HA.out, HE.out, hbz⟩
end Go.Proofs.YtneecokjhmnagaaDoor.NumbersByNameC
