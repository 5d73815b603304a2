/- ParseDocument, model and program: what both answer. No condition but that a string is no longer than a string can be. -/
import Derived.Test.YtmpolpeomabcfaaDoorDocRI
import Derived.Test.YtmpolpeomabcfaaDoorAppA
import Derived.Test.YtmpolpeomabcfaaDoorSplA
import Derived.Deep.RegionHeld3
import Derived.Deep.AppendLies
import Derived.Deep.DrawnRows
namespace Go.Proofs.YtmpolpeomabcfaaDoor.ParseDocumentC
open Go.RowKit Bs Word Doc DocP SplitMath SplitL
set_option linter.unusedVariables false
abbrev Ans := DocP.Ans
abbrev txt_ (z : List M) : ByteArray := DocumentTextC.txt z z.length
theorem same {s : ByteArray} {r0 s0 : List LSection.R} {r1 s1 : Bool} (h : Ans s r0 r1) (h' : Ans s s0 s1) : r0 = s0 ∧ r1 = s1 := DocP.same h h'
theorem len0 {s : ByteArray} {r0 : List LSection.R} {r1 : Bool} (h : Ans s r0 r1) : r0.length ≤ 1048576 := DocP.len0 h
def APost (a0 : ByteArray) (w : World) (e : Ending) (w' : World) : Prop :=
  ∃ v0 r0 r1, e = .returned (.tuple #[v0, .bool r1]) ∧ Ans a0 r0 r1 ∧ Bs.Own LSection.rec 33 w' w.heap.size v0 r0 ∧ Below w.heap.size w w'
theorem fine_rd {l : List UInt8} {r : M} (hl : l.length ≤ 4000) (h : RdI l r) : LSection.Fine r := by
  obtain ⟨a, b, rfl, _, rfl⟩ := h
  show (⟨b.toArray⟩ : ByteArray).size ≤ maxLen
  have : (⟨b.toArray⟩ : ByteArray).size = b.length := by show b.toArray.size = _; simp
  rw [this]
  rw [List.length_append, List.length_cons] at hl
  unfold maxLen; omega
theorem fine_rdS {l : List UInt8} {r : M} (hl : l.length ≤ 4000) (h : RdS l r) : LSection.Fine r := by
  obtain ⟨a, b, e, rfl⟩ := h
  have e2 := split_two e
  show (⟨b.toArray⟩ : ByteArray).size ≤ maxLen
  have : (⟨b.toArray⟩ : ByteArray).size = b.length := by show b.toArray.size = _; simp
  rw [this]
  rw [e2, List.length_append, List.length_cons] at hl
  unfold maxLen; omega
theorem eq_no {a b : ByteArray} (h : (a.toList == b.toList) = false) : a ≠ b := fun e => by rw [e] at h; simp at h
theorem eq_yes {a b : ByteArray} (h : (a.toList == b.toList) = true) : a = b := by
  have h1 : a.toList = b.toList := by simpa using h
  rw [ByteArray.toList_eq, ByteArray.toList_eq] at h1
  apply ByteArray.ext
  exact Array.toList_inj.1 h1
set_option maxRecDepth 100000 in
set_option maxHeartbeats 3200000 in
theorem spec (a0 : ByteArray) (w : World) (hs0 : a0.size ≤ 1048576) :
    Calls Tryd.prog 23 #[.string a0] w (APost a0 w) := by
  obtain ⟨i0, hi, hz0, hz1, hz2⟩ := info_parts LSection.infoK
  have HI0 := Lib.hid hi
  have HZ0 := Lib.hid (And.intro hz0 (And.intro hz1 hz2))
  clear hi hz0 hz1 hz2
  obtain ⟨ls, z, hlz⟩ : ∃ ls z, splitOf a0.data.toList 10 = ls ++ [z] := EndL.snoc_ex (by simp [splitOf])
  obtain ⟨n, hn⟩ : ∃ n, n = ls.length := ⟨_, rfl⟩
  have HSp := Lib.hid (fun W => SplA.split a0 10 10 rfl (ls ++ [z]) (n + 1) hlz (by rw [List.length_append, hn]; rfl) W hs0)
  have HL := Lib.hid hlz
  have HN := Lib.hid hn.symm
  have hle := splitOf_length a0.data.toList 10
  rw [hlz, List.length_append] at hle
  have hn2 : n ≤ 1048576 := by have h2 : a0.data.toList.length ≤ 1048576 := (by rw [Array.length_toList]; exact hs0); have h3 : [z].length = 1 := rfl; omega
  clear hlz hn hle
  have HO0 := Lib.hid (Bs.Own.start (T := LSection.rec) (E := 33) (w := w) (Nat.le_refl _))
  have hb0 := (Below.refl w.heap.size w).alloc (Nat.le_refl _) (Obj.cells #[] 33)
  by_cases h3 : 300 < a0.size
  · have HA := Lib.hid (show Ans a0 [] false from ans_none fun q hg ht => by have := (found hg ht).1; omega)
    unfold SplA.SP at HSp
    go_enter Tryd.func23, Tryd.ntmps23
    go_wp2_with fail
    refine (HSp.out _).mono ?_
    rintro e w1 ⟨g0, c0, rfl, _, _, hg0, hg1, hcell, hb1⟩
    have HO1 := Lib.hid (HO0.out.kept hb1)
    have hb2 := hb0.trans (hb1.mono hb0.size)
    clear hcell
    go_wp2_with fail
    go_ret2
    exact ⟨_, [], false, rfl, HA.out, HO1.out, hb2⟩
  · obtain ⟨Z, hZ⟩ : ∃ Z : ByteArray, Z = ⟨z.toArray⟩ := ⟨_, rfl⟩
    have HZl := Lib.hid (show Z.data.toList = z by rw [hZ])
    unfold SplA.SP at HSp
    have h300 : a0.size ≤ 300 := by omega
    go_enter Tryd.func23, Tryd.ntmps23
    go_wp2_with fail
    refine (HSp.out _).mono ?_
    rintro e w1 ⟨g0, c0, rfl, hc0, hc1, hg0, hg1, hcell, hb1⟩
    have q0 := hcell n z (by rw [List.getElem?_append_right (by rw [HN.out]; exact Nat.le_refl _), HN.out, Nat.sub_self]; rfl)
    rw [← hZ] at q0
    have HCell := Lib.hid hcell
    have HO1 := Lib.hid (HO0.out.kept hb1)
    have hb2 := hb0.trans (hb1.mono hb0.size)
    unfold maxLen at hc1
    have s1 : IntKind.i64.wrap (((n + 1 : Nat) : Int) - 1) = (n : Int) := by rw [IntWalk.i64_in _ (by omega)]; omega
    have s2 : IntKind.i64.wrap ((n : Int) + 1 - 1) = (n : Int) := by rw [IntWalk.i64_in _ (by omega)]; omega
    have s3 : (n : Int) + 1 - 1 = (n : Int) := by omega
    have s4 : (n : Int) < (n : Int) + 1 := by omega
    have s6 : 0 ≤ (n : Int) := by omega
    have hgg : w.heap.size ≠ g0 := by simp at hg0; omega
    clear hcell hZ HO0 hb0
    by_cases hzn : z = []
    · have hX1 : Z.toList = [] := by rw [EndL.to_data, HZl.out]; exact hzn
      have HSL := Lib.hid (show splitOf a0.data.toList 10 = ls ++ [[]] by rw [HL.out, hzn])
      clear hzn
      go_wp2_with fail
      go_loopw [4, 6] (fun v i wr => ∃ (k : Nat) (ys : List M) (g c : Nat), k ≤ n ∧ i = .int .i64 k ∧ v = .slice (some ⟨g, 0, none⟩) k c ∧ Hid (Bs.Own LSection.rec 33 wr w.heap.size (.slice (some ⟨g, 0, none⟩) k c) ys) ∧ Hid (Reads RdS (ls.take k) ys) ∧ g ≠ g0 ∧ Hid (wr.heap[g0]? = w1.heap[g0]?) ∧ w1.heap.size ≤ wr.heap.size ∧ Below w.heap.size w wr) (fun _ i _ => n - (intOf i).toNat)
      case atStart => exact ⟨0, [], _, _, Nat.zero_le _, rfl, rfl, HO1, Lib.hid reads_nil, hgg, Lib.hid rfl, Nat.le_refl _, hb2⟩
      case round =>
        clear HO1 hb2 q0 hX1 hgg
        obtain ⟨k, ys, g, c, hk, rfl, rfl, HO, HR, hgg, HBl, hws, hb⟩ := hrel
        have HYL := Lib.hid (show ys.length = k by have := HR.out.1; rw [List.length_take] at this; have := HN.out; omega)
        by_cases hlt : k < n
        · have hx : k < ls.length := by have := HN.out; omega
          obtain ⟨L, hL⟩ : ∃ L, L = ls[k] := ⟨_, rfl⟩
          have HLk := Lib.hid (show ls[k]? = some L by rw [hL]; exact List.getElem?_eq_getElem hx)
          have HTk := Lib.hid (show ls.take (k + 1) = ls.take k ++ [L] by rw [hL]; exact List.take_succ_eq_append_getElem hx)
          obtain ⟨X, hX⟩ : ∃ X : ByteArray, X = ⟨L.toArray⟩ := ⟨_, rfl⟩
          have HXL := Lib.hid (show X.data.toList = L by rw [hX])
          have q0 : wr.cell? ⟨g0, k, none⟩ = some (.string X) := by
            rw [World.cell?_of_block (a := ⟨g0, k, none⟩) HBl.out, hX]
            exact HCell.out k L (by rw [List.getElem?_append_left hx]; exact HLk.out)
          have hXs : X.size ≤ 1048576 := by
            have h1 : L.length ≤ 1048576 := by
              have := (PLSection.ls_small (s := a0) (by omega) HSL.out).2 L (by rw [hL]; exact List.getElem_mem hx)
              omega
            have : X.size = X.data.toList.length := (Array.length_toList (xs := X.data)).symm
            rw [this, HXL.out]; exact h1
          obtain ⟨ws, hws2⟩ : ∃ ws, ws = splitOf L 32 := ⟨_, rfl⟩
          obtain ⟨m, hm⟩ : ∃ m, m = ws.length := ⟨_, rfl⟩
          have HSx := Lib.hid (SplA.split X 32 32 rfl ws m (by rw [HXL.out]; exact hws2.symm) hm.symm wr hXs)
          have HWs := Lib.hid hws2.symm
          have HM := Lib.hid hm.symm
          unfold SplA.SP at HSx
          have k0 : 0 ≤ (k : Int) := by omega
          have k1 : (k : Int) < (n : Int) := by omega
          have hmm : m ≤ 1048577 := by
            have := splitOf_length L 32
            have h2 : X.size = X.data.toList.length := (Array.length_toList (xs := X.data)).symm
            rw [HXL.out] at h2
            rw [hm, hws2]; omega
          clear hL hX hws2 hm hx
          go_wp2_with fail
          refine HSx.out.mono ?_
          rintro e w2 ⟨g2, c2, rfl, hc2, hc3, hg2, hg3, hcw, hb3⟩
          have hbw := hb.trans (hb3.mono hb.size)
          have HO2 := Lib.hid (HO.out.kept hb3)
          have HBl2 := Lib.hid ((hb3.block g0 (by omega)).trans HBl.out)
          have hws3 : w1.heap.size ≤ w2.heap.size := Nat.le_trans hws hb3.size
          have hgw : g < wr.heap.size := (HO.out.lt g rfl).2
          unfold maxLen at hc3
          clear hb hb3 HO HBl q0 HSx hws
          by_cases hm2 : m = 2
          · subst hm2
            obtain ⟨a, b, hab⟩ : ∃ a b, ws = [a, b] := by
              have := HM.out
              match ws, this with
              | [a, b], _ => exact ⟨a, b, rfl⟩
            obtain ⟨A, hA⟩ : ∃ A : ByteArray, A = ⟨a.toArray⟩ := ⟨_, rfl⟩
            obtain ⟨B, hB⟩ : ∃ B : ByteArray, B = ⟨b.toArray⟩ := ⟨_, rfl⟩
            have p0 := hcw 0 a (by rw [hab]; rfl)
            have p1 := hcw 1 b (by rw [hab]; rfl)
            rw [← hA] at p0
            rw [← hB] at p1
            obtain ⟨q, hq⟩ : ∃ q, q = (splitOf a 46).length := ⟨_, rfl⟩
            have HRN := Lib.hid (show Reads RdS (ls.take (k + 1)) (ys ++ [⟨(q : Nat), B⟩]) by
              rw [HTk.out]
              exact reads_snoc HR.out ⟨a, b, by rw [HWs.out, hab], by rw [hq, hB]⟩)
            have hAs : A.size ≤ 1048576 := by
              have h1 := split_two (show splitOf L 32 = [a, b] by rw [HWs.out, hab])
              have h2 : X.size = X.data.toList.length := (Array.length_toList (xs := X.data)).symm
              rw [HXL.out, h1, List.length_append] at h2
              have h3 : A.size = a.length := by rw [hA]; show a.toArray.size = _; simp
              omega
            have HSQ := Lib.hid (fun W (_ : Below w2.heap.size w2 W) => SplA.split A 46 46 rfl (splitOf a 46) q (by rw [hA]) hq.symm W hAs)
            unfold SplA.SP at HSQ
            have hqs : q ≤ 1048577 := by
              have h1 := splitOf_length a 46
              have h3 : A.size = a.length := by rw [hA]; show a.toArray.size = _; simp
              omega
            have hyn : ys.length ≤ 1048576 := by have := HYL.out; omega
            have hzw := hbw.size
            have hgA : w.heap.size ≤ g := (HO2.out.lt g rfl).1
            have hgg2 : g ≠ g2 := by omega
            have HO := HO2
            clear HO2
            clear hab hA hB hq hcw HR HTk HLk HXL HWs HM
            go_wp2_with fail
            generalize w2 = W at *
            have HK := Lib.hid (show ∀ w' : World, Below W.heap.size W w' → Below w.heap.size w w' ∧ w'.cell? ⟨g2, 0, none⟩ = some (.string A) ∧ w'.cell? ⟨g2, 1, none⟩ = some (.string B) from fun w' hb => ⟨hbw.trans (hb.mono hbw.size), by rw [hb.cell hg3]; exact p0, by rw [hb.cell hg3]; exact p1⟩)
            go_region_held3 (fun w' => Below w.heap.size w w' ∧ w'.cell? ⟨g2, 0, none⟩ = some (.string A) ∧ w'.cell? ⟨g2, 1, none⟩ = some (.string B)) (first | (exact ⟨hK6.1, hc0, hc1⟩) | (refine HK.out _ ?_; (repeat (first | assumption | exact Below.refl _ _ | refine Below.drew ?_ | refine Below.alloc ?_ (by first | (simp; done) | (simp; omega) | omega) _)))) (first | (go_at_call 45; refine (HSQ.out _ (by (repeat (first | assumption | exact Below.refl _ _ | refine Below.drew ?_ | refine Below.alloc ?_ (by first | (simp; done) | (simp; omega) | omega) _)))).mono ?_; rintro e w5 ⟨g5, c5, rfl, _, _, _, _, _, hb8⟩; have hB5 : Below W.heap.size W w5 := Below.trans (by (repeat (first | assumption | exact Below.refl _ _ | refine Below.drew ?_ | refine Below.alloc ?_ (by first | (simp; done) | (simp; omega) | omega) _))) (hb8.mono (by first | (simp; done) | (simp; omega) | omega)); have hz5 := hB5.size; clear hb8) | (refine step_append_at (by rfl) (.tmp 40) (.tmp 50) 24 (by rfl) w.heap.size 33 i0 (.agg #[.int .i64 0, .string ⟨#[]⟩]) 2 24 Tryd.underlying24 HI0.out HZ0.out.1 HZ0.out.2.1 HZ0.out.2.2 rfl (by decide) _ (ys.length) (flat LSection.rec ys) (by rfl) (by exact Bs.Own.kept HO.out (by (repeat (first | assumption | exact Below.refl _ _ | refine Below.drew ?_ | refine Below.alloc ?_ (by first | (simp; done) | (simp; omega) | omega) _)))) _ 1 1 [.int .i64 (q : Nat), .string B] (by rfl) (by rfl) (by exact World.news_of_block (heap_alloc_new _ _)) (by intro u hu; simp at hu; rcases hu with rfl | rfl <;> rfl) (by unfold maxLen; omega) (by omega) (by first | (simp; done) | (simp; omega) | omega) ?_; intro v6 w6 hown6 hgrow6 hat6; have hK6 := app_keep hgrow6 (by (repeat (first | assumption | exact Below.refl _ _ | refine Below.drew ?_ | refine Below.alloc ?_ (by first | (simp; done) | (simp; omega) | omega) _))) hbw hgA; have hc0 : w6.cell? ⟨g2, 0, none⟩ = some (.string A) := (World.cell?_of_block (a := ⟨g2, 0, none⟩) (hK6.2.2 g2 hg3 hgg2)).trans p0; have hc1 : w6.cell? ⟨g2, 1, none⟩ = some (.string B) := (World.cell?_of_block (a := ⟨g2, 1, none⟩) (hK6.2.2 g2 hg3 hgg2)).trans p1; clear hgrow6) | fail)
            all_goals
              have HBl6 := Lib.hid (show w6.heap[g0]? = w1.heap[g0]? from (hK6.2.2 g0 (by omega) hgg).trans HBl2.out)
              have hws6 : w1.heap.size ≤ w6.heap.size := Nat.le_trans hws3 hK6.2.1
              have hO6 : Bs.Own LSection.rec 33 w6 w.heap.size v6 (ys ++ [⟨(q : Nat), B⟩]) := own_of LSection.rec hown6 (by simp) (by rw [flat_append]; rfl)
              obtain ⟨g6, c6, rfl, _⟩ := PLSection.some_block hO6 (by simp)
              have hne6 : g6 ≠ g0 := by
                rcases hat6 with h | h
                · have h2 := Option.some.inj (show some g6 = some g from h)
                  rw [h2]; exact hgg
                · have h2 : g6 = _ := Option.some.inj h
                  rw [h2]; have := hB5.size; simp; omega
              have hb6 := hK6.1
              rw [show (ys ++ [(⟨(q : Nat), B⟩ : M)]).length = k + 1 by rw [List.length_append, HYL.out]; rfl] at hO6 ⊢
              have HO6 := Lib.hid hO6
              clear hK6 hc0 hc1 hown6 hat6 hO6 hB5 hz5 HK p0 p1
              go_wp2_with fail
              go_roundw
              case rel => exact ⟨k + 1, _, g6, c6, by omega, by go_num, rfl, HO6, HRN, hne6, HBl6, hws6, hb6⟩
              case measure => simp [intOf]; omega
          · have hm3 : ((m : Int) != 2) = true := by simp; omega
            have HA := Lib.hid (show Ans a0 [] false from ans_none fun p hg ht => by
              have h2 := (found hg ht).2
              rw [HSL.out] at h2
              have e := (List.append_inj' h2 rfl).1
              have hr := reads_S hg
              rw [← e] at hr
              obtain ⟨r, _, a, b, hab, _⟩ := reads_at hr HLk.out
              rw [HWs.out] at hab
              have := HM.out
              rw [hab] at this
              exact hm2 this.symm)
            clear hm2
            generalize w2 = w3 at *
            have hb3 := hbw
            have HO := Lib.hid (Bs.Own.start (T := LSection.rec) (E := 33) (w := w3) hb3.size)
            have hbz := hb3.alloc hb3.size (Obj.cells #[] 33)
            go_wp2_with fail
            go_ret2
            exact ⟨_, [], false, rfl, HA.out, HO.out, hbz⟩
        · have hkn : ls.take k = ls := List.take_of_length_le (by have := HN.out; omega)
          rw [hkn] at HR
          have hfine : ∀ x ∈ ys, LSection.Fine x := PLSection.fine_all (fun l r hl h => fine_rdS hl h) (PLSection.ls_small (s := a0) (by omega) HSL.out).2 HR.out
          have HGd := Lib.hid (DocG.l6Good (.slice (some ⟨g, 0, none⟩) k c) ys wr HO.out.is hfine)
          have HTx := Lib.hid (fun hg W hW => DocumentTextC.l6Text (.slice (some ⟨g, 0, none⟩) k c) ys W (HO.out.is.below LSection.rec hW) hg)
          have HNo := Lib.hid (fun (hn : ¬ (goodB ys = true ∧ txt_ ys = a0)) => show Ans a0 [] false from only (P := RdS) (fun _ _ _ a b => rdS_uniq a b) (fun q h => reads_S h) HSL.out HR.out hn)
          unfold DocG.Post at HGd
          clear hkn hfine HBl
          cases hg : goodB ys with
          | false =>
            have HA := Lib.hid (HNo.out (fun h => by rw [hg] at h; cases h.1))
            rw [hg] at HGd
            clear hg HTx
            go_wp2_with fail
            refine HGd.out.mono ?_
            rintro e w3 ⟨rfl, hb2⟩
            have hb3 := hb.trans (hb2.mono hb.size)
            have HO := Lib.hid (Bs.Own.start (T := LSection.rec) (E := 33) (w := w3) hb3.size)
            have hbz := hb3.alloc hb3.size (Obj.cells #[] 33)
            go_wp2_with fail
            go_ret2
            exact ⟨_, [], false, rfl, HA.out, HO.out, hbz⟩
          | true =>
            have HTy := Lib.hid (HTx.out hg)
            have HYes := Lib.hid (fun (ht : txt_ ys = a0) => show Ans a0 ys true from ans_yes hg ht)
            have HNo2 := Lib.hid (fun (hn : txt_ ys ≠ a0) => HNo.out (fun h => hn h.2))
            rw [hg] at HGd
            clear hg HTx HNo
            unfold txt_ at HYes HNo2
            generalize DocumentTextC.txt ys ys.length = TX at *
            go_wp2_with fail
            refine HGd.out.mono ?_
            rintro e w3 ⟨rfl, hb2⟩
            have hb3 := hb.trans (hb2.mono hb.size)
            have HO3 := Lib.hid (HO.out.kept hb2)
            go_wp2_with fail
            refine (HTy.out _ hb2).mono ?_
            rintro e w4 ⟨rfl, hb4⟩
            have hb5 := hb3.trans (hb4.mono hb3.size)
            have HO4 := Lib.hid (HO3.out.kept hb4)
            cases he : (TX.toList == a0.toList) with
            | true =>
              have HA := Lib.hid (HYes.out (eq_yes he))
              clear HYes HNo2
              go_wp2_with fail
              go_ret2
              exact ⟨_, _, true, rfl, HA.out, HO4.out, hb5⟩
            | false =>
              have HA := Lib.hid (HNo2.out (eq_no he))
              clear HYes HNo2
              have HO := Lib.hid (Bs.Own.start (T := LSection.rec) (E := 33) (w := w4) hb5.size)
              have hbz := hb5.alloc hb5.size (Obj.cells #[] 33)
              go_wp2_with fail
              go_ret2
              exact ⟨_, [], false, rfl, HA.out, HO.out, hbz⟩
    · have hX0 : Z.toList ≠ [] := by rw [EndL.to_data, HZl.out]; exact hzn
      have hX1 : (Z.toList == []) = false := by rw [beq_eq_false_iff_ne]; exact hX0
      have hX2 : Z.toList.isEmpty = false := by simpa using hX0
      have hX3 : (!Z.toList.isEmpty) = true := by rw [hX2]; rfl
      have HA := Lib.hid (show Ans a0 [] false from ans_none fun q hg ht => by
        have h2 := (found hg ht).2
        rw [HL.out] at h2
        exact hzn (List.cons.inj (List.append_inj' h2 rfl).2).1)
      clear hzn hX0
      go_wp2_with fail
      go_ret2
      exact ⟨_, [], false, rfl, HA.out, HO1.out, hb2⟩
set_option maxRecDepth 100000 in
theorem impl (a0 : ByteArray) (w : World) (hs0 : a0.size ≤ 1048576) :
    Calls Tryd.prog 20 #[.string a0] w (APost a0 w) := by
  have HP := Lib.hid (PLSection.parseLines RdI goodB a0 w (by unfold maxLen; omega) (fun l W _ hl => DocRI.parseSection l W hl) (fun v xs W _ h hf => DocG.isDocument v xs W h hf) (fun l r hl h => fine_rd hl h) (fun l r r' h h' => rdI_uniq h h'))
  unfold PLSection.PLPost at HP
  go_enter Tryd.func20, Tryd.ntmps20
  go_wp2_with fail
  refine HP.out.mono ?_
  rintro e w1 ⟨v, r0, r1, rfl, hpl, ho, ⟨g, hgb⟩, hb1⟩
  rcases hpl with ⟨rfl, h4, ls, hsp, hrd, hg⟩ | ⟨⟨rfl, rfl⟩, hn⟩
  · have HO := Lib.hid ho
    have HDT := Lib.hid (DocumentTextC.impl v r0 w1 (ho.isS ⟨g, hgb⟩) (by
        have hlen := PLSection.ls_small h4 hsp
        exact PLSection.fine_all (fun l r hl h => fine_rd hl h) hlen.2 hrd) (by have := good_len hg; omega))
    unfold DocumentTextC.APost at HDT
    have HNo := Lib.hid (fun (hn : txt_ r0 ≠ a0) => show Ans a0 [] false from only (P := RdI) (fun _ _ _ a b => rdI_uniq a b) (fun q h => reads_I h) hsp hrd (fun h => hn h.2))
    have HYes := Lib.hid (fun (ht : txt_ r0 = a0) => show Ans a0 r0 true from ans_yes hg ht)
    have HG := Lib.hid hg
    clear ho h4 hsp hrd hg HP hgb
    go_wp2_with fail
    refine HDT.out.mono ?_
    rintro e w2 ⟨tx, okt, rfl, hans, hb2⟩
    have hb3 := hb1.trans (hb2.mono hb1.size)
    have HO2 := Lib.hid (HO.out.kept hb2)
    have htx : tx = txt_ r0 := by
      rcases hans with ⟨_, h, _⟩ | ⟨h, _, _⟩
      · exact h
      · rw [HG.out] at h; cases h
    rw [← htx] at HNo HYes
    clear hans htx HDT HO
    cases he : (tx.toList == a0.toList) with
    | true =>
      have HA := Lib.hid (HYes.out (eq_yes he))
      clear HYes HNo
      go_wp2_with fail
      go_ret2
      exact ⟨_, _, true, rfl, HA.out, HO2.out, hb3⟩
    | false =>
      have HA := Lib.hid (HNo.out (eq_no he))
      clear HYes HNo
      have HO := Lib.hid (Bs.Own.start (T := LSection.rec) (E := 33) (w := w2) hb3.size)
      have hbz := hb3.alloc hb3.size (Obj.cells #[] 33)
      go_wp2_with fail
      go_ret2
      exact ⟨_, [], false, rfl, HA.out, HO.out, hbz⟩
  · have HA := Lib.hid (show Ans a0 [] false from ans_none fun q hg ht => by
      have hf := found hg ht
      have := hn _ q (by omega) hf.2 (reads_I hg)
      rw [hg] at this; cases this)
    clear hn ho HP hgb
    have HO := Lib.hid (Bs.Own.start (T := LSection.rec) (E := 33) (w := w1) hb1.size)
    have hbz := hb1.alloc hb1.size (Obj.cells #[] 33)
    go_wp2_with fail
    go_ret2
    exact ⟨_, [], false, rfl, HA.out, HO.out, hbz⟩
end Go.Proofs.YtmpolpeomabcfaaDoor.ParseDocumentC
