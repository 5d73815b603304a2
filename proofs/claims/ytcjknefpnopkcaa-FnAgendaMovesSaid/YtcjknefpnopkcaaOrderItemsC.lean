/- OrderItems, model and program: what both answer. -/
import Derived.Test.YtcjknefpnopkcaaAgI
import Derived.Test.YtcjknefpnopkcaaAppN
import Derived.Test.YtcjknefpnopkcaaLAgendaItemKclone
import Derived.Test.YtcjknefpnopkcaaLAgendaItemSortOrder
import Derived.BigQuiet
namespace Go.Proofs.Ytcjknefpnopkcaa.OrderItemsC
open Go.RowKit Bs Word Ag Srt LAgendaItemCmpOrder LAgendaItemSortOrder
set_option linter.unusedVariables false
theorem lt_eq (X Y : M) : lt X Y = decide (X.time < Y.time) := by
  unfold lt cf cmpI
  by_cases h1 : X.time < Y.time
  · simp [h1]
  · by_cases h2 : Y.time < X.time
    · simp [h1, h2]
    · simp [h1, h2]
noncomputable def oA (z : List M) : List M × Bool := if goodB z = true then (srt lt z, true) else ([], false)
theorem o_no {z : List M} (h : goodB z = false) : oA z = ([], false) := by unfold oA; rw [h]; rfl
theorem o_yes {z : List M} (h : goodB z = true) : oA z = (srt lt z, true) := by unfold oA; rw [if_pos h]
def Ans (z0 : List LAgendaItem.R) (r0 : List LAgendaItem.R) (r1 : Bool) : Prop := oA z0 = (r0, r1)
theorem same {z0 : List LAgendaItem.R} {r0 s0 : List LAgendaItem.R} {r1 s1 : Bool} (h : Ans z0 r0 r1) (h' : Ans z0 s0 s1) : r0 = s0 ∧ r1 = s1 := by
  have := h.symm.trans h'; simp only [Prod.mk.injEq] at this; exact this
theorem len0 {z0 : List LAgendaItem.R} {r0 : List LAgendaItem.R} {r1 : Bool} (h : Ans z0 r0 r1) : r0.length ≤ 1048576 := by
  unfold Ans oA at h
  split at h
  · rename_i hg
    have h10 := good_len hg
    simp only [Prod.mk.injEq] at h; rw [← h.1, srt_len]; omega
  · simp only [Prod.mk.injEq] at h; rw [← h.1]; simp
def Post (z0 : List LAgendaItem.R) (w : World) (e : Ending) (w' : World) : Prop :=
  ∃ v0 r0 r1, e = .returned (.tuple #[v0, .bool r1]) ∧ Ans z0 r0 r1 ∧ Own LAgendaItem.rec 61 w' w.heap.size v0 r0 ∧ Below w.heap.size w w'
set_option maxRecDepth 100000 in
set_option maxHeartbeats 3200000 in
theorem spec (v0 : Value) (z0 : List LAgendaItem.R) (w : World) (h0 : IsS LAgendaItem.rec w v0 z0) (f0 : ∀ x ∈ z0, LAgendaItem.Fine x) (l0 : z0.length ≤ 1048576) :
    Calls Try.prog 46 #[v0] w (Post z0 w) := by
  have h := IsS.is LAgendaItem.rec h0
  have hb0 := (Below.refl w.heap.size w).alloc (Nat.le_refl _) (Obj.cells #[] 61)
  have HO0 := Lib.hid (Own.start (T := LAgendaItem.rec) (E := 61) (w := w) (Nat.le_refl _))
  have HG := Lib.hid (AgG.l5Good v0 z0 _ (h.below LAgendaItem.rec hb0) f0)
  obtain ⟨a, cp, rfl, h⟩ := h
  have hc := h.at_ LAgendaItem.rec
  obtain ⟨n, hn⟩ : ∃ n, n = z0.length := ⟨_, rfl⟩
  have hnb : n ≤ cp := by have := h.1; omega
  have hn2 := h.2.1
  unfold maxLen at hn2
  have HN := Lib.hid hn.symm
  rw [← hn] at HG ⊢
  have hnle : n ≤ z0.length := by omega
  clear hn h h0
  have go1 : ∀ g, goodB z0 = g → AgG.Post z0 (w.alloc (Obj.cells #[] 61)) = fun e w' => e = .returned (.bool g) ∧ Below (w.alloc (Obj.cells #[] 61)).heap.size (w.alloc (Obj.cells #[] 61)) w' := fun g hg => by unfold AgG.Post; rw [hg]
  clear f0
  obtain ⟨i0, hi, hz0, hz1, hz2⟩ := info_parts LAgendaItem.infoK
  have HI0 := Lib.hid hi
  have HZ0 := Lib.hid (And.intro hz0 (And.intro hz1 hz2))
  clear hi hz0 hz1 hz2
  cases hg : goodB z0 with
  | false =>
    have HA := Lib.hid (o_no hg)
    rw [go1 _ hg] at HG
    clear hg go1
    go_enter Try.func46, Try.ntmps46
    go_wp2_with fail
    refine HG.out.mono ?_
    rintro e w1 ⟨rfl, hb1⟩
    have HO := Lib.hid (HO0.out.kept hb1)
    have hb2 := hb0.trans (hb1.mono hb0.size)
    go_wp2_with fail
    go_ret2
    exact ⟨_, [], false, rfl, HA.out, HO.out, hb2⟩
  | true =>
    have HA := Lib.hid (o_yes hg)
    rw [go1 _ hg] at HG
    have h10 : n ≤ 10 := by have := good_len hg; have := HN.out; omega
    clear hg go1
    go_enter Try.func46, Try.ntmps46
    go_wp2_with fail
    refine HG.out.mono ?_
    rintro e w1 ⟨rfl, hb1⟩
    have HO1 := Lib.hid (HO0.out.kept hb1)
    have hb2 := hb0.trans (hb1.mono hb0.size)
    clear hb1 HO0 hb0
    go_wp2_with fail
    go_loopw [4, 5] (fun s4 s5 wr => ∃ (k : Nat) (v : Value), v = s4 ∧ k ≤ n ∧ s5 = .int .i64 k ∧ Hid (Own LAgendaItem.rec 61 wr w.heap.size v (srt lt (z0.take k))) ∧ Hid (v ≠ .slice none 0 0) ∧ Below w.heap.size w wr) (fun _ i _ => n - (intOf i).toNat)
    case atStart => exact ⟨0, _, rfl, Nat.zero_le _, rfl, HO1, Lib.hid (by simp), hb2⟩
    case round =>
      clear HO1 hb2
      obtain ⟨k, v, rfl, hk, rfl, HO, HNN, hb⟩ := hrel
      by_cases hlt : k < n
      · have hx : k < z0.length := by omega
        obtain ⟨b, o, rfl, hbl, hcell0⟩ := hc.out k z0[k] (List.getElem?_eq_getElem hx)
        have HX := Lib.hid (List.getElem?_eq_getElem hx)
        have HXC := Lib.hid hcell0
        clear hcell0
        generalize z0[k] = X at *
        obtain ⟨g2, c2, rfl, hg2, hg2l, hc2, hc2m⟩ := HO.out.some_shape HNN.out
        have hsl : (srt lt (z0.take k)).length = k := by rw [srt_len, List.length_take]; omega
        rw [hsl] at HO hc2 ⊢
        obtain ⟨P, hP⟩ : ∃ P, P = srt lt (z0.take k) := ⟨_, rfl⟩
        have HPL := Lib.hid (show P.length = k by rw [hP]; exact hsl)
        have HP := Lib.hid hP
        rw [← hP] at HO
        have hc2b := hc2m
        unfold maxLen at hc2b
        clear hP hsl HNN
        have k0 : 0 ≤ (k : Int) := by omega
        have k1 : (k : Int) < (n : Int) := by omega
        go_wp2_with fail
        go_loopw [6] (fun s6 ws => ∃ j : Nat, s6 = .int .i64 j ∧ j ≤ k ∧ Hid (pos lt P X k = pos lt P X j) ∧ Hid (Own LAgendaItem.rec 61 ws w.heap.size (.slice (some ⟨g2, 0, none⟩) k c2) P) ∧ Below w.heap.size w ws) (fun s6 _ => (intOf s6).toNat)
        case atStart => exact ⟨k, rfl, Nat.le_refl _, Lib.hid rfl, HO, hb⟩
        case round =>
          clear HO hb hg2l
          obtain ⟨j, rfl, hjk, HJ, HO, hb⟩ := hrel
          obtain ⟨q0, q1, q2, q3⟩ := LAgendaItem.cells (HXC.out.below LAgendaItem.rec hb hbl)
          simp only [LAgendaItem.rec_n] at q0 q1 q2 q3
          go_wp2_with fail
          go_cut [35] (fun t wx => ∃ v : Bool, t = .bool v ∧ Hid ((v = true → ∃ jp, j = jp + 1 ∧ pos lt P X k = pos lt P X jp) ∧ (v = false → pos lt P X k = j)) ∧ Below wr.heap.size wr wx)
          case first =>
            rcases j with _ | jp
            · go_quiet (fail)
              go_wp2_with fail
              go_meet
              exact ⟨false, rfl, Lib.hid ⟨(fun e => by cases e), fun _ => HJ.out⟩, drawn_below _ _⟩
            · have hpj : jp < P.length := by have := HPL.out; omega
              have HY := Lib.hid (List.getElem?_eq_getElem hpj)
              generalize P[jp] = Y at HY
              obtain ⟨y0, y1, y2, y3⟩ := LAgendaItem.cells (HO.out.at_ jp Y HY.out)
              simp only [LAgendaItem.rec_n] at y0 y1 y2 y3
              have t2 : IntKind.i64.wrap ((jp : Int) + 1 - 1) = (jp : Int) := by rw [show (jp : Int) + 1 - 1 = (jp : Int) by omega]; exact IntWalk.i64_in _ (by omega)
              have t3 : IntKind.i64.wrap ((jp : Int)) = (jp : Int) := IntWalk.i64_in _ (by omega)
              have t6 : (0 : Int) ≤ (jp : Int) := by omega
              have t7 : (jp : Int) < (k : Int) := by omega
              have t8 : (0 : Int) < (jp : Int) + 1 := by omega
              have HV := Lib.hid (show (decide (X.time < Y.time) = true → ∃ jp', jp + 1 = jp' + 1 ∧ pos lt P X k = pos lt P X jp') ∧ (decide (X.time < Y.time) = false → pos lt P X k = jp + 1) from
                ⟨fun e => ⟨jp, rfl, by rw [HJ.out]; exact pos_go HY.out (by rw [lt_eq]; exact e)⟩, fun e => by rw [HJ.out]; exact pos_stop HY.out (by rw [lt_eq]; exact e)⟩)
              go_quiet (fail)
              go_wp2_with fail
              go_meet
              exact ⟨_, rfl, HV, drawn_below _ _⟩
          case rest =>
            obtain ⟨v, rfl, HV, hbv⟩ := hcut
            have hb3 := hb.trans (hbv.mono hb.size)
            have HO3 := Lib.hid (HO.out.kept hbv)
            clear HO hb hbv q0 q1 q2 q3
            cases v with
            | true =>
              obtain ⟨jp, rfl, hj2⟩ := HV.out.1 rfl
              have HJ2 := Lib.hid hj2
              have t2 : IntKind.i64.wrap ((jp : Int) + 1 - 1) = (jp : Int) := by rw [show (jp : Int) + 1 - 1 = (jp : Int) by omega]; exact IntWalk.i64_in _ (by omega)
              have t3 : IntKind.i64.wrap ((jp : Int)) = (jp : Int) := IntWalk.i64_in _ (by omega)
              clear hj2 HV
              go_wp2_with fail
              go_roundw
              case rel => exact ⟨jp, by go_num, by omega, HJ2, HO3, hb3⟩
              case measure => first | (simp [intOf]; done) | (simp [intOf]; omega)
            | false =>
              have HSN := Lib.hid (show srt lt (z0.take (k + 1)) = P.take j ++ X :: P.drop j by rw [srt_next HX.out, ← HP.out]; exact ins_at HPL.out (HV.out.2 rfl))
              clear HV HJ
              go_wp2_with fail
              generalize wc = V at *
              have u1 : (j : Int) ≤ (k : Int) := by omega
              have u2 : (j : Int) ≤ (c2 : Int) := by omega
              have u3 : 0 ≤ (j : Int) := by omega
              have u4 : (k : Int) ≤ (c2 : Int) := by omega
              have HIR := Lib.hid (show ∀ w' : World, Below V.heap.size V w' → IsS LAgendaItem.rec w' (.slice (some ⟨g2, 0, none⟩) k c2) P from fun w' hb => (HO3.out.isS ⟨g2, rfl⟩).below LAgendaItem.rec hb)
              have HT1 := Lib.hid (show ∀ w' : World, Below V.heap.size V w' → ∀ i u, (flat LAgendaItem.rec (P.take j))[i]? = some u → w'.cell? (Addr.add ⟨g2, 0, none⟩ i) = some u from fun w' hb =>
                ((HIR.out w' hb).take LAgendaItem.rec (k := j) (by omega)).flatCells LAgendaItem.rec)
              obtain ⟨oE, hoE⟩ : ∃ oE, (if c2 = j then some (⟨g2, 0, none⟩ : Addr) else some ⟨g2, j * 4, none⟩) = some ⟨g2, oE, none⟩ := by
                split
                · exact ⟨_, rfl⟩
                · exact ⟨_, rfl⟩
              have HT2 := Lib.hid (show ∀ w' : World, Below V.heap.size V w' → ∀ i u, (flat LAgendaItem.rec (P.drop j))[i]? = some u → w'.cell? (Addr.add ⟨g2, oE, none⟩ i) = some u from fun w' hb =>
                ((HIR.out w' hb).drop LAgendaItem.rec (k := j) (some ⟨g2, oE, none⟩) (by rw [Nat.zero_add]; exact hoE.symm) (by omega) _ _ rfl rfl).flatCells LAgendaItem.rec)
              have HK := Lib.hid (show ∀ w' : World, Below V.heap.size V w' → Below V.heap.size V w' ∧ w'.cell? ⟨b, o + k * 4, none⟩ = some (.int .i64 X.id) ∧ w'.cell? ⟨b, o + k * 4 + 1, none⟩ = some (.string X.title) ∧ w'.cell? ⟨b, o + k * 4 + 2, none⟩ = some (.int .i64 X.mins) ∧ w'.cell? ⟨b, o + k * 4 + 3, none⟩ = some (.int .i64 X.time) from fun w' hb => by
                obtain ⟨q0, q1, q2, q3⟩ := LAgendaItem.cells (HXC.out.below LAgendaItem.rec (hb3.trans (hb.mono hb3.size)) hbl)
                exact ⟨hb, q0, q1, q2, q3⟩)
              go_region_held3 (fun w' => Below V.heap.size V w' ∧ w'.cell? ⟨b, o + k * 4, none⟩ = some (.int .i64 X.id) ∧ w'.cell? ⟨b, o + k * 4 + 1, none⟩ = some (.string X.title) ∧ w'.cell? ⟨b, o + k * 4 + 2, none⟩ = some (.int .i64 X.mins) ∧ w'.cell? ⟨b, o + k * 4 + 3, none⟩ = some (.int .i64 X.time)) ((refine HK.out _ ?_; (repeat (first | assumption | exact Below.refl _ _ | refine Below.drew ?_ | refine Below.alloc ?_ (by first | (simp; done) | (simp; omega) | omega) _)))) (first | (refine step_append_nn (by rfl) (.tmp 38) (.tmp 41) 54 (by rfl) V.heap.size 61 i0 (.agg #[.int .i64 0, .string ⟨#[]⟩, .int .i64 0, .int .i64 0]) 4 40 Try.underlying54 HI0.out HZ0.out.1 HZ0.out.2.1 HZ0.out.2.2 rfl (by decide) _ (0) ([]) (by rfl) (by first | exact LAgendaItem.startB (heap_alloc_new _ _) (by first | (simp; done) | (simp; omega) | omega) | exact LAgendaItem.startB (alloc_old _ _ _) (by first | (simp; done) | (simp; omega) | omega) | exact LAgendaItem.startB (alloc_two _ _ _) (by first | (simp; done) | (simp; omega) | omega)) (⟨g2, 0, none⟩) (j) (c2) (flat LAgendaItem.rec (P.take j)) (by rfl) (by rw [flat_len, LAgendaItem.rec_n]; rw [List.length_take]; have := HPL.out; omega) (fun j u hu => HT1.out _ (by (repeat (first | assumption | exact Below.refl _ _ | refine Below.drew ?_ | refine Below.alloc ?_ (by first | (simp; done) | (simp; omega) | omega) _))) j u hu) (flat_one _ _) (by unfold maxLen; omega) (by omega) (by first | (simp; done) | (simp; omega) | omega) (by show Value.slice (some ⟨_, _, _⟩) 0 0 ≠ Value.slice none 0 0; simp) ?_; intro v1 w1 hown1 hgrow1 hnn1; replace hown1 := own_in hown1; have hB1 : Below V.heap.size V w1 := Below.grown (by (repeat (first | assumption | exact Below.refl _ _ | refine Below.drew ?_ | refine Below.alloc ?_ (by first | (simp; done) | (simp; omega) | omega) _))) hgrow1 (by first | (simp; done) | (simp; omega) | omega) (fun j hj => own_ge hj (by simp)); have hz1 := hB1.size; (first | have hr1 : w1.heap[V.heap.size]? = some (Obj.cells #[.int .i64 X.id, .string X.title, .int .i64 X.mins, .int .i64 X.time] 61) := (hgrow1.block _ (by simp; omega) (show some V.heap.size ≠ some (V.heap.size + 1) from fun e => absurd (Option.some.inj e) (by omega))).trans (alloc_old _ _ _) | have hr1 : w1.heap[V.heap.size + 1]? = some (Obj.cells #[.int .i64 X.id, .string X.title, .int .i64 X.mins, .int .i64 X.time] 61) := (hgrow1.block _ (by simp) (show some (V.heap.size + 1) ≠ some V.heap.size from fun e => absurd (Option.some.inj e) (by omega))).trans (alloc_two _ _ _) | skip); clear hgrow1) | (refine step_append_nn (by rfl) (.tmp 42) (.tmp 47) 54 (by rfl) V.heap.size 61 i0 (.agg #[.int .i64 0, .string ⟨#[]⟩, .int .i64 0, .int .i64 0]) 4 40 Try.underlying54 HI0.out HZ0.out.1 HZ0.out.2.1 HZ0.out.2.2 rfl (by decide) v1 (j) ((flat LAgendaItem.rec (P.take j))) (by rfl) (by first | exact hown1 | exact hown1.alloc _) _ 1 1 [.int .i64 X.id, .string X.title, .int .i64 X.mins, .int .i64 X.time] (by rfl) (by rfl) (by first | exact World.news_of_block (heap_alloc_new _ _) | exact World.news_of_block hr1) (by intro u hu; simp at hu; rcases hu with rfl | rfl | rfl | rfl <;> rfl) (by unfold maxLen; omega) (by omega) (by first | (simp; done) | (simp; omega) | omega) hnn1 ?_; intro v2 w2 hown2 hgrow2 hnn2; have hB2 : Below V.heap.size V w2 := Below.grown (by (repeat (first | assumption | exact Below.refl _ _ | refine Below.drew ?_ | refine Below.alloc ?_ (by first | (simp; done) | (simp; omega) | omega) _))) hgrow2 (by first | (simp; done) | (simp; omega) | omega) (fun j hj => (hown1.lt j hj).1); have hz2 := hB2.size; clear hgrow2) | (refine step_append_nn (by rfl) (.tmp 48) (.tmp 51) 54 (by rfl) V.heap.size 61 i0 (.agg #[.int .i64 0, .string ⟨#[]⟩, .int .i64 0, .int .i64 0]) 4 40 Try.underlying54 HI0.out HZ0.out.1 HZ0.out.2.1 HZ0.out.2.2 rfl (by decide) v2 (j + 1) ((flat LAgendaItem.rec (P.take j)) ++ [.int .i64 X.id, .string X.title, .int .i64 X.mins, .int .i64 X.time]) (by rfl) (by first | exact hown2 | exact hown2.alloc _) (⟨g2, oE, none⟩) (k - j) (c2 - j) (flat LAgendaItem.rec (P.drop j)) (by rfl) (by rw [flat_len, LAgendaItem.rec_n]; rw [List.length_drop]; have := HPL.out; omega) (fun j u hu => HT2.out _ (by (repeat (first | assumption | exact Below.refl _ _ | refine Below.drew ?_ | refine Below.alloc ?_ (by first | (simp; done) | (simp; omega) | omega) _))) j u hu) (flat_one _ _) (by unfold maxLen; omega) (by omega) (by first | (simp; done) | (simp; omega) | omega) hnn2 ?_; intro v3 w3 hown3 hgrow3 hnn3; have hB3 : Below V.heap.size V w3 := Below.grown (by (repeat (first | assumption | exact Below.refl _ _ | refine Below.drew ?_ | refine Below.alloc ?_ (by first | (simp; done) | (simp; omega) | omega) _))) hgrow3 (by first | (simp; done) | (simp; omega) | omega) (fun j hj => (hown2.lt j hj).1); have hz3 := hB3.size; clear hgrow3) | fail)
              all_goals
                have HO4 := Lib.hid (Own.low (own_of LAgendaItem.rec (xs := srt lt (z0.take (k + 1))) hown3 (by rw [srt_len, List.length_take]; have := HN.out; omega) (by rw [HSN.out, flat_ins]; rfl)) hb3.size)
                have hb6 := hb3.trans (hB3.mono hb3.size)
                have HN4 := Lib.hid hnn3
                clear hown1 hown2 hown3 hB1 hB2 hB3 hz1 hz2 hz3 HK HT1 HT2 hnn1 hnn2 hnn3
                go_wp2_with fail
                all_goals
                  go_roundw
                  case rel => exact ⟨k + 1, _, rfl, by omega, by go_num, HO4, HN4, hb6⟩
                  case measure => simp [intOf]; omega
      · obtain rfl : k = n := by omega
        have HE := Lib.hid (show Own LAgendaItem.rec 61 wr w.heap.size v (srt lt z0) by have h := HO.out; rw [List.take_of_length_le (by have := HN.out; omega)] at h; exact h)
        go_wp2_with fail
        go_ret2
        exact ⟨_, _, true, rfl, HA.out, HE.out, hb⟩
set_option maxRecDepth 100000 in
set_option maxHeartbeats 1600000 in
theorem impl (v0 : Value) (z0 : List LAgendaItem.R) (w : World) (h0 : IsS LAgendaItem.rec w v0 z0) (f0 : ∀ x ∈ z0, LAgendaItem.Fine x) (l0 : z0.length ≤ 1048576) :
    Calls Try.prog 45 #[v0] w (Post z0 w) := by
  have h := IsS.is LAgendaItem.rec h0
  have HI := Lib.hid h
  have HV := Lib.hid (AgI.isValidAgenda v0 z0 w h f0)
  obtain ⟨a, cp, rfl, h⟩ := h
  have hc := h.at_ LAgendaItem.rec
  obtain ⟨n, hn⟩ : ∃ n, n = z0.length := ⟨_, rfl⟩
  have hnb : n ≤ cp := by have := h.1; omega
  have hn2 := h.2.1
  unfold maxLen at hn2
  have HN := Lib.hid hn.symm
  rw [← hn] at HV HI ⊢
  have hnle : n ≤ z0.length := by omega
  clear hn h h0
  have go1 : ∀ g, goodB z0 = g → AgG.Post z0 w = fun e w' => e = .returned (.bool g) ∧ Below w.heap.size w w' := fun g hg => by unfold AgG.Post; rw [hg]
  clear f0
  cases hg : goodB z0 with
  | false =>
    have HA := Lib.hid (o_no hg)
    rw [go1 _ hg] at HV
    clear hg go1
    go_enter Try.func45, Try.ntmps45
    go_wp2_with fail
    refine HV.out.mono ?_
    rintro e w1 ⟨rfl, hb1⟩
    have hb2 := hb1.alloc hb1.size (Obj.cells #[] 61)
    have HO := Lib.hid (Own.start (T := LAgendaItem.rec) (E := 61) (w := w1) hb1.size)
    go_wp2_with fail
    go_ret2
    exact ⟨_, [], false, rfl, HA.out, HO.out, hb2⟩
  | true =>
    have HA := Lib.hid (o_yes hg)
    rw [go1 _ hg] at HV
    have h10 : n ≤ 10 := by have := good_len hg; have := HN.out; omega
    clear hg go1
    go_enter Try.func45, Try.ntmps45
    go_wp2_with fail
    refine HV.out.mono ?_
    rintro e w1 ⟨rfl, hb1⟩
    have HI1 := Lib.hid (HI.out.below LAgendaItem.rec hb1)
    go_wp2_with fail
    refine (LAgendaItem.clone _ z0 _ HI1.out (by have := HN.out; omega)).mono ?_
    rintro e w2 ⟨v, rfl, hO, hb2⟩
    have HO := Lib.hid hO
    clear hO
    go_wp2_with fail
    refine (sorted v z0 _ HO.out (by have := HN.out; omega)).mono ?_
    rintro e w3 ⟨rfl, hO3, hb3⟩
    have HO3 := Lib.hid (hO3.low hb1.size)
    have hb4 := hb1.trans ((hb2.trans hb3).mono hb1.size)
    clear hO3 hb2 hb3
    go_wp2_with fail
    go_ret2
    exact ⟨_, _, true, rfl, HA.out, HO3.out, hb4⟩
end Go.Proofs.Ytcjknefpnopkcaa.OrderItemsC
