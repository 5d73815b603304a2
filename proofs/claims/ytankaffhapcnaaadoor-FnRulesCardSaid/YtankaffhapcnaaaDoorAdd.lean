/- AddRule: the model's function. -/
import Derived.Test.YtankaffhapcnaaaDoorIns
import Derived.Test.YtankaffhapcnaaaDoorHelpS
import Derived.Deep.RegionHeld3
import Derived.Deep.AppendLies
import Derived.Deep.DrawnRows
namespace Go.Proofs.YtankaffhapcnaaaDoor.Add
open Go.RowKit Bs Ins
set_option linter.unusedVariables false
set_option maxRecDepth 100000
theorem startB {w : World} {A g : Nat} (h : w.heap[g]? = some (.cells #[] 25 (0, 0))) (hA : A ≤ g) : w.ownsRow A 25 7 (.slice (some ⟨g, 0, none⟩) 0 0) 0 [] :=
  ⟨rfl, .inr ⟨g, 0, #[], rfl, hA, h, Nat.le_refl _, Nat.zero_le _, rfl, rfl⟩⟩
theorem alloc_two (W : World) (o1 o2 : Obj) : ((W.alloc o1).alloc o2).heap[W.heap.size + 1]? = some o2 := by simpa using heap_alloc_new (W.alloc o1) o2
theorem alloc_old (W : World) (o1 o2 : Obj) : ((W.alloc o1).alloc o2).heap[W.heap.size]? = some o1 := (Below.heap_alloc _ _ _ (by simp)).trans (heap_alloc_new _ _)
theorem ite_slice (c : Prop) [Decidable c] (x y : Addr) (n m : Nat) : Value.slice (if c then some x else some y) n m = .slice (some (if c then x else y)) n m := by split <;> rfl
theorem own_in {w : World} {A : Nat} {e : TypeId} {size n : Nat} {v : Value} {xs : List Value} (h : w.ownsRow A e size v (0 + n) ([] ++ xs)) : w.ownsRow A e size v n xs := by
  rwa [Nat.zero_add, List.nil_append] at h
theorem own_ge {B g n c k : Nat} (hj : (Value.slice (some ⟨g, 0, none⟩) n c).ownBlock = some k) (h : B ≤ g) : B ≤ k := by
  simp only [Value.ownBlock, Option.some.injEq] at hj
  omega
set_option maxHeartbeats 1600000 in
theorem spec (v0 : Value) (z0 : List LRule.R) (a1 : LRule.R) (w : World) (h0 : IsS LRule.rec w v0 z0) (f0 : ∀ x ∈ z0, LRule.Fine x) (l0 : z0.length ≤ 1048576) (f1 : LRule.Fine a1) :
    Calls Tryd.prog 54 #[v0, .agg #[.int .i64 a1.id, .string a1.name, .int .i64 a1.rank, .bool a1.sec, .bool a1.deb, .bool a1.am, .int .i64 a1.need]] w (Post z0 a1 w) := by
  obtain ⟨b, o, cp, rfl, hbl, hxc, hcm, hcell⟩ := h0
  have hbox := (Below.refl w.heap.size w).alloc (Nat.le_refl _) (Obj.cells #[.int .i64 a1.id, .string a1.name, .int .i64 a1.rank, .bool a1.sec, .bool a1.deb, .bool a1.am, .int .i64 a1.need] 25)
  have HX := Lib.hid (LRule.box w a1 25)
  have HC := Lib.hid hcell
  have HR1 := Lib.hid (show RowsAt LRule.rec (w.alloc (Obj.cells #[.int .i64 a1.id, .string a1.name, .int .i64 a1.rank, .bool a1.sec, .bool a1.deb, .bool a1.am, .int .i64 a1.need] 25)) (some ⟨b, o, none⟩) cp z0 from RowsAt.below LRule.rec ⟨hxc, hcm, .inr ⟨b, o, rfl, hbl, hcell⟩⟩ hbox)
  have HF := Lib.hid f0
  have HF1 := Lib.hid f1
  obtain ⟨n, hn⟩ : ∃ n, n = z0.length := ⟨_, rfl⟩
  have hnb : n ≤ cp := by omega
  unfold maxLen at hcm
  have HN := Lib.hid hn.symm
  rw [← hn] at l0 ⊢
  have hle : n ≤ z0.length := by omega
  clear hn hcell f0 f1 hxc
  obtain ⟨i0, hi, hz0, hz1, hz2⟩ := info_parts HelpS.infoRule
  have HI0 := Lib.hid hi
  have HZ0 := Lib.hid (And.intro hz0 (And.intro hz1 hz2))
  clear hi hz0 hz1 hz2
  go_enter Tryd.func54, Tryd.ntmps54
  go_wp2_with fail
  refine (Gd.l2Good _ n cp z0 _ HN.out (RuleC.rules HR1.out) HF.out).mono ?_
  rintro e w1 ⟨rfl, hb1⟩
  have hb2 := hbox.trans (hb1.mono hbox.size)
  have HX1 := Lib.hid (HX.out.below LRule.rec hb1 (by simp))
  have HRw := Lib.hid (HR1.out.below LRule.rec hb1)
  have hX1 : w.heap.size < w1.heap.size := by have := hb1.size; simp at this; omega
  clear hb1 hbox HX HR1
  cases hg : Gd.goodB z0 with
  | false =>
    have HA := Lib.hid (show Ans z0 a1 [] false from .inr ⟨.inl hg, rfl, rfl⟩)
    have hb := hb2.alloc hb2.size (Obj.cells #[] 25)
    have HO := Lib.hid (Own.start (T := LRule.rec) (E := 25) (w := w1) hb2.size)
    clear hg
    go_wp2_with fail
    go_ret2
    exact ⟨_, [], false, rfl, HA.out, HO.out, hb⟩
  | true =>
    have HG := Lib.hid hg
    have hn8 : n ≤ 8 := by have := (Gd.good_of hg).1; have := HN.out; omega
    clear hg
    go_wp2_with fail
    go_loopw [6] (fun i wr => ∃ k : Nat, k ≤ n ∧ i = .int .i64 k ∧ Hid (Less z0 a1.id k) ∧ Below w1.heap.size w1 wr) (fun i _ => n - (intOf i).toNat)
    case atStart => exact ⟨0, Nat.zero_le _, rfl, Lib.hid (fun j p hj => by omega), Below.refl _ _⟩
    case round =>
      obtain ⟨k, hk, rfl, HL, hbw⟩ := hrel
      have HXr := Lib.hid (HX1.out.below LRule.rec hbw hX1)
      have hb3 := hb2.trans (hbw.mono hb2.size)
      obtain ⟨x0, x1, x2, x3, x4, x5, x6⟩ := LRule.cells0 HXr.out
      have k0 : 0 ≤ (k : Int) := by omega
      by_cases hlt : k < n
      · have hx : k < z0.length := by omega
        have HZ := Lib.hid (List.getElem?_eq_getElem hx)
        obtain ⟨q0, q1, q2, q3, q4, q5, q6⟩ := LRule.cells (((HC.out k _ HZ.out).below LRule.rec hb3 hbl))
        simp only [LRule.rec_n] at q0 q1 q2 q3 q4 q5 q6
        have k1 : (k : Int) < (n : Int) := by omega
        have hd : decide ((k : Int) < (n : Int)) = true := by simp; omega
        generalize z0[k] = X at *
        by_cases hid : X.id < a1.id
        · have HL2 := Lib.hid (less_next HL.out HZ.out hid)
          go_wp2_with fail
          go_quiet (fail)
          have hb4 : Below w1.heap.size w1 (wr.drewN nq) := hbw.trans ⟨rfl, rfl, rfl, Nat.le_refl _, fun _ _ => rfl⟩
          go_wp2_with fail
          go_roundw
          case rel => exact ⟨k + 1, by omega, by go_num, HL2, hb4⟩
          case measure => simp [intOf]; omega
        · have HI := Lib.hid (ins_at z0 a1 k (by omega) HL.out (fun p hp => by rw [HZ.out] at hp; rw [← Option.some.inj hp]; exact hid))
          have hid2 : decide (X.id < a1.id) = false := by simpa using hid
          clear hid
          go_wp2_with fail
          go_quiet (fail)
          clear q0 q1 q2 q3 q4 q5 q6 hid2 hd HZ hx
          have hb4 : Below w.heap.size w (wr.drewN nq) := hb3.trans ⟨rfl, rfl, rfl, Nat.le_refl _, fun _ _ => rfl⟩
          have HX4 := Lib.hid (show At LRule.rec (wr.drewN nq) w.heap.size 0 a1 from HXr.out)
          have hX4 : w.heap.size < (wr.drewN nq).heap.size := Nat.lt_of_lt_of_le hX1 hbw.size
          clear x0 x1 x2 x3 x4 x5 x6 hlt hbw hb3 HL HXr
          generalize wr.drewN nq = W at *
          obtain ⟨x0, x1, x2, x3, x4, x5, x6⟩ := LRule.cells0 HX4.out
          have s1 : (k : Int) ≤ (n : Int) := by omega
          have s2 : (n : Int) ≤ (cp : Int) := by omega
          have s3 : (k : Int) ≤ (cp : Int) := by omega
          have HS1 := Lib.hid (show ∀ w' : World, Below W.heap.size W w' → ∀ j u, (flat LRule.rec (z0.take k))[j]? = some u → w'.cell? (Addr.add ⟨b, o, none⟩ j) = some u from fun w' hb j u hu => by
            rw [Go.WideShapes.add_plain]
            exact flat_cells LRule.rec (fun i r hr => ((HC.out i r (by rw [List.getElem?_take] at hr; split at hr; exact hr; cases hr)).below LRule.rec (hb4.trans (hb.mono hb4.size)) hbl)) j u hu)
          have HS2 := Lib.hid (show ∀ w' : World, Below W.heap.size W w' → ∀ j u, (flat LRule.rec (z0.drop k))[j]? = some u → w'.cell? (Addr.add (if cp = k then ⟨b, o, none⟩ else ⟨b, o + k * 7, none⟩) j) = some u from fun w' hb j u hu => by
            by_cases hck : cp = k
            · rw [show z0.drop k = [] from List.drop_eq_nil_of_le (by have := HN.out; omega)] at hu
              simp [flat] at hu
            · rw [if_neg hck, Go.WideShapes.add_plain]
              exact flat_cells LRule.rec (fun i r hr => by
                have h := (HC.out (k + i) r (by rw [List.getElem?_drop] at hr; exact hr)).below LRule.rec (hb4.trans (hb.mono hb4.size)) hbl
                rwa [LRule.rec_n, show o + (k + i) * 7 = o + k * 7 + i * 7 by omega] at h) j u hu)
          have HK := Lib.hid (show ∀ w' : World, Below W.heap.size W w' → Below W.heap.size W w' ∧ w'.cell? ⟨w.heap.size, 0, none⟩ = some (.int .i64 a1.id) ∧ w'.cell? ⟨w.heap.size, 1, none⟩ = some (.string a1.name) ∧ w'.cell? ⟨w.heap.size, 2, none⟩ = some (.int .i64 a1.rank) ∧ w'.cell? ⟨w.heap.size, 3, none⟩ = some (.bool a1.sec) ∧ w'.cell? ⟨w.heap.size, 4, none⟩ = some (.bool a1.deb) ∧ w'.cell? ⟨w.heap.size, 5, none⟩ = some (.bool a1.am) ∧ w'.cell? ⟨w.heap.size, 6, none⟩ = some (.int .i64 a1.need) from fun w' hb => ⟨hb, by rw [hb.cell hX4]; exact x0, by rw [hb.cell hX4]; exact x1, by rw [hb.cell hX4]; exact x2, by rw [hb.cell hX4]; exact x3, by rw [hb.cell hX4]; exact x4, by rw [hb.cell hX4]; exact x5, by rw [hb.cell hX4]; exact x6⟩)
          go_wp2_with fail
          go_region_held3 (fun w' => Below W.heap.size W w' ∧ w'.cell? ⟨w.heap.size, 0, none⟩ = some (.int .i64 a1.id) ∧ w'.cell? ⟨w.heap.size, 1, none⟩ = some (.string a1.name) ∧ w'.cell? ⟨w.heap.size, 2, none⟩ = some (.int .i64 a1.rank) ∧ w'.cell? ⟨w.heap.size, 3, none⟩ = some (.bool a1.sec) ∧ w'.cell? ⟨w.heap.size, 4, none⟩ = some (.bool a1.deb) ∧ w'.cell? ⟨w.heap.size, 5, none⟩ = some (.bool a1.am) ∧ w'.cell? ⟨w.heap.size, 6, none⟩ = some (.int .i64 a1.need)) ((refine HK.out _ ?_; (repeat (first | assumption | exact Below.refl _ _ | refine Below.drew ?_ | refine Below.alloc ?_ (by first | (simp; done) | (simp; omega) | omega) _)))) (first | (refine step_append (by rfl) (.tmp 28) (.tmp 31) 33 (by rfl) W.heap.size 25 i0 (.agg #[.int .i64 0, .string ⟨#[]⟩, .int .i64 0, .bool false, .bool false, .bool false, .int .i64 0]) 7 48 Tryd.underlying33 HI0.out HZ0.out.1 HZ0.out.2.1 HZ0.out.2.2 rfl (by decide) _ 0 [] (by rfl) (by first | exact startB (heap_alloc_new _ _) (by first | (simp; done) | (simp; omega) | omega) | exact startB (alloc_old _ _ _) (by first | (simp; done) | (simp; omega) | omega) | exact startB (alloc_two _ _ _) (by first | (simp; done) | (simp; omega) | omega)) ⟨b, o, none⟩ k cp (flat LRule.rec (z0.take k)) (by rfl) (by rw [flat_len, List.length_take, LRule.rec_n]; omega) (fun j u hu => HS1.out _ (by (repeat (first | assumption | exact Below.refl _ _ | refine Below.drew ?_ | refine Below.alloc ?_ (by first | (simp; done) | (simp; omega) | omega) _))) j u hu) (flat_one _ _) (by unfold maxLen; omega) (by omega) (by first | (simp; done) | (simp; omega) | omega) ?_; intro v1 w1 hown1 hgrow1; replace hown1 := own_in hown1; have hB1 : Below W.heap.size W w1 := Below.grown (by (repeat (first | assumption | exact Below.refl _ _ | refine Below.drew ?_ | refine Below.alloc ?_ (by first | (simp; done) | (simp; omega) | omega) _))) hgrow1 (by first | (simp; done) | (simp; omega) | omega) (fun j hj => own_ge hj (by simp)); have hz1 := hB1.size; (first | have hr1 : w1.heap[W.heap.size]? = some (Obj.cells #[.int .i64 a1.id, .string a1.name, .int .i64 a1.rank, .bool a1.sec, .bool a1.deb, .bool a1.am, .int .i64 a1.need] 25) := (hgrow1.block _ (by simp; omega) (show some W.heap.size ≠ some (W.heap.size + 1) from fun e => absurd (Option.some.inj e) (by omega))).trans (alloc_old _ _ _) | have hr1 : w1.heap[W.heap.size + 1]? = some (Obj.cells #[.int .i64 a1.id, .string a1.name, .int .i64 a1.rank, .bool a1.sec, .bool a1.deb, .bool a1.am, .int .i64 a1.need] 25) := (hgrow1.block _ (by simp) (show some (W.heap.size + 1) ≠ some W.heap.size from fun e => absurd (Option.some.inj e) (by omega))).trans (alloc_two _ _ _) | skip); clear hgrow1) | (refine step_append (by rfl) (.tmp 32) (.tmp 34) 33 (by rfl) W.heap.size 25 i0 (.agg #[.int .i64 0, .string ⟨#[]⟩, .int .i64 0, .bool false, .bool false, .bool false, .int .i64 0]) 7 48 Tryd.underlying33 HI0.out HZ0.out.1 HZ0.out.2.1 HZ0.out.2.2 rfl (by decide) v1 k (flat LRule.rec (z0.take k)) (by rfl) (by first | exact hown1 | exact hown1.alloc _) _ 1 1 [.int .i64 a1.id, .string a1.name, .int .i64 a1.rank, .bool a1.sec, .bool a1.deb, .bool a1.am, .int .i64 a1.need] (by rfl) (by rfl) (by first | exact World.news_of_block (heap_alloc_new _ _) | exact World.news_of_block hr1) (by intro u hu; simp at hu; rcases hu with rfl | rfl | rfl | rfl | rfl | rfl | rfl <;> rfl) (by unfold maxLen; omega) (by omega) (by first | (simp; done) | (simp; omega) | omega) ?_; intro v2 w2 hown2 hgrow2; have hB2 : Below W.heap.size W w2 := Below.grown (by (repeat (first | assumption | exact Below.refl _ _ | refine Below.drew ?_ | refine Below.alloc ?_ (by first | (simp; done) | (simp; omega) | omega) _))) hgrow2 (by first | (simp; done) | (simp; omega) | omega) (fun j hj => (hown1.lt j hj).1); have hz2 := hB2.size; clear hgrow2) | (refine step_append (by rfl) (.tmp 35) (.tmp 38) 33 (by rfl) W.heap.size 25 i0 (.agg #[.int .i64 0, .string ⟨#[]⟩, .int .i64 0, .bool false, .bool false, .bool false, .int .i64 0]) 7 48 Tryd.underlying33 HI0.out HZ0.out.1 HZ0.out.2.1 HZ0.out.2.2 rfl (by decide) v2 (k + 1) (flat LRule.rec (z0.take k) ++ [.int .i64 a1.id, .string a1.name, .int .i64 a1.rank, .bool a1.sec, .bool a1.deb, .bool a1.am, .int .i64 a1.need]) (by rfl) (by first | exact hown2 | exact hown2.alloc _) (if cp = k then ⟨b, o, none⟩ else ⟨b, o + k * 7, none⟩) (n - k) (cp - k) (flat LRule.rec (z0.drop k)) (by exact ite_slice _ _ _ _ _) (by rw [flat_len, List.length_drop, LRule.rec_n]; have := HN.out; omega) (fun j u hu => HS2.out _ (by (repeat (first | assumption | exact Below.refl _ _ | refine Below.drew ?_ | refine Below.alloc ?_ (by first | (simp; done) | (simp; omega) | omega) _))) j u hu) (flat_one _ _) (by unfold maxLen; omega) (by omega) (by first | (simp; done) | (simp; omega) | omega) ?_; intro v3 w3 hown3 hgrow3; have hB3 : Below W.heap.size W w3 := Below.grown (by (repeat (first | assumption | exact Below.refl _ _ | refine Below.drew ?_ | refine Below.alloc ?_ (by first | (simp; done) | (simp; omega) | omega) _))) hgrow3 (by first | (simp; done) | (simp; omega) | omega) (fun j hj => (hown2.lt j hj).1); have hz3 := hB3.size; clear hgrow3) | fail)
          all_goals
            have HO := Lib.hid (Own.low (own_ins HN.out hk hown3 HI.out) hb4.size)
            have hb5 := hb4.trans (hB3.mono hb4.size)
            have HFI := Lib.hid (ins_fine HF.out HF1.out)
            clear hown1 hown2 hown3 hB1 hB2 hB3 hz1 hz2 hz3 HK HS1 HS2 x0 x1 x2 x3 x4 x5 x6
            go_wp2_with fail
            refine (good v3 _ _ HO.out.is HFI.out).mono ?_
            rintro e w4 ⟨rfl, hb6⟩
            have HO4 := Lib.hid (HO.out.kept hb6)
            have hb7 := hb5.trans (hb6.mono hb5.size)
            clear hb6
            cases hg : Gd.goodB (ins z0 a1) with
            | false =>
              have HA := Lib.hid (show Ans z0 a1 [] false from .inr ⟨.inr hg, rfl, rfl⟩)
              have hb8 := hb7.alloc hb7.size (Obj.cells #[] 25)
              have HS := Lib.hid (Own.start (T := LRule.rec) (E := 25) (w := w4) hb7.size)
              clear hg
              go_wp2_with fail
              go_ret2
              exact ⟨_, [], false, rfl, HA.out, HS.out, hb8⟩
            | true =>
              have HA := Lib.hid (show Ans z0 a1 (ins z0 a1) true from .inl ⟨HG.out, hg, rfl, rfl⟩)
              clear hg
              go_wp2_with fail
              go_ret2
              exact ⟨_, _, true, rfl, HA.out, HO4.out, hb7⟩
      · have hd : decide ((k : Int) < (n : Int)) = false := by simp; omega
        have hd2 : decide (k < n) = false := by simp; omega
        have HI := Lib.hid (ins_at z0 a1 k (by omega) HL.out (fun p hp => by have := (List.getElem?_eq_some_iff.1 hp).1; have := HN.out; omega))
        go_wp2_with fail
        go_quiet (fail)
        clear hd hd2
        have hb4 : Below w.heap.size w (wr.drewN nq) := hb3.trans ⟨rfl, rfl, rfl, Nat.le_refl _, fun _ _ => rfl⟩
        have HX4 := Lib.hid (show At LRule.rec (wr.drewN nq) w.heap.size 0 a1 from HXr.out)
        have hX4 : w.heap.size < (wr.drewN nq).heap.size := Nat.lt_of_lt_of_le hX1 hbw.size
        clear x0 x1 x2 x3 x4 x5 x6 hlt hbw hb3 HL HXr
        generalize wr.drewN nq = W at *
        obtain ⟨x0, x1, x2, x3, x4, x5, x6⟩ := LRule.cells0 HX4.out
        have s1 : (k : Int) ≤ (n : Int) := by omega
        have s2 : (n : Int) ≤ (cp : Int) := by omega
        have s3 : (k : Int) ≤ (cp : Int) := by omega
        have HS1 := Lib.hid (show ∀ w' : World, Below W.heap.size W w' → ∀ j u, (flat LRule.rec (z0.take k))[j]? = some u → w'.cell? (Addr.add ⟨b, o, none⟩ j) = some u from fun w' hb j u hu => by
          rw [Go.WideShapes.add_plain]
          exact flat_cells LRule.rec (fun i r hr => ((HC.out i r (by rw [List.getElem?_take] at hr; split at hr; exact hr; cases hr)).below LRule.rec (hb4.trans (hb.mono hb4.size)) hbl)) j u hu)
        have HS2 := Lib.hid (show ∀ w' : World, Below W.heap.size W w' → ∀ j u, (flat LRule.rec (z0.drop k))[j]? = some u → w'.cell? (Addr.add (if cp = k then ⟨b, o, none⟩ else ⟨b, o + k * 7, none⟩) j) = some u from fun w' hb j u hu => by
          by_cases hck : cp = k
          · rw [show z0.drop k = [] from List.drop_eq_nil_of_le (by have := HN.out; omega)] at hu
            simp [flat] at hu
          · rw [if_neg hck, Go.WideShapes.add_plain]
            exact flat_cells LRule.rec (fun i r hr => by
              have h := (HC.out (k + i) r (by rw [List.getElem?_drop] at hr; exact hr)).below LRule.rec (hb4.trans (hb.mono hb4.size)) hbl
              rwa [LRule.rec_n, show o + (k + i) * 7 = o + k * 7 + i * 7 by omega] at h) j u hu)
        have HK := Lib.hid (show ∀ w' : World, Below W.heap.size W w' → Below W.heap.size W w' ∧ w'.cell? ⟨w.heap.size, 0, none⟩ = some (.int .i64 a1.id) ∧ w'.cell? ⟨w.heap.size, 1, none⟩ = some (.string a1.name) ∧ w'.cell? ⟨w.heap.size, 2, none⟩ = some (.int .i64 a1.rank) ∧ w'.cell? ⟨w.heap.size, 3, none⟩ = some (.bool a1.sec) ∧ w'.cell? ⟨w.heap.size, 4, none⟩ = some (.bool a1.deb) ∧ w'.cell? ⟨w.heap.size, 5, none⟩ = some (.bool a1.am) ∧ w'.cell? ⟨w.heap.size, 6, none⟩ = some (.int .i64 a1.need) from fun w' hb => ⟨hb, by rw [hb.cell hX4]; exact x0, by rw [hb.cell hX4]; exact x1, by rw [hb.cell hX4]; exact x2, by rw [hb.cell hX4]; exact x3, by rw [hb.cell hX4]; exact x4, by rw [hb.cell hX4]; exact x5, by rw [hb.cell hX4]; exact x6⟩)
        go_wp2_with fail
        go_region_held3 (fun w' => Below W.heap.size W w' ∧ w'.cell? ⟨w.heap.size, 0, none⟩ = some (.int .i64 a1.id) ∧ w'.cell? ⟨w.heap.size, 1, none⟩ = some (.string a1.name) ∧ w'.cell? ⟨w.heap.size, 2, none⟩ = some (.int .i64 a1.rank) ∧ w'.cell? ⟨w.heap.size, 3, none⟩ = some (.bool a1.sec) ∧ w'.cell? ⟨w.heap.size, 4, none⟩ = some (.bool a1.deb) ∧ w'.cell? ⟨w.heap.size, 5, none⟩ = some (.bool a1.am) ∧ w'.cell? ⟨w.heap.size, 6, none⟩ = some (.int .i64 a1.need)) ((refine HK.out _ ?_; (repeat (first | assumption | exact Below.refl _ _ | refine Below.drew ?_ | refine Below.alloc ?_ (by first | (simp; done) | (simp; omega) | omega) _)))) (first | (refine step_append (by rfl) (.tmp 28) (.tmp 31) 33 (by rfl) W.heap.size 25 i0 (.agg #[.int .i64 0, .string ⟨#[]⟩, .int .i64 0, .bool false, .bool false, .bool false, .int .i64 0]) 7 48 Tryd.underlying33 HI0.out HZ0.out.1 HZ0.out.2.1 HZ0.out.2.2 rfl (by decide) _ 0 [] (by rfl) (by first | exact startB (heap_alloc_new _ _) (by first | (simp; done) | (simp; omega) | omega) | exact startB (alloc_old _ _ _) (by first | (simp; done) | (simp; omega) | omega) | exact startB (alloc_two _ _ _) (by first | (simp; done) | (simp; omega) | omega)) ⟨b, o, none⟩ k cp (flat LRule.rec (z0.take k)) (by rfl) (by rw [flat_len, List.length_take, LRule.rec_n]; omega) (fun j u hu => HS1.out _ (by (repeat (first | assumption | exact Below.refl _ _ | refine Below.drew ?_ | refine Below.alloc ?_ (by first | (simp; done) | (simp; omega) | omega) _))) j u hu) (flat_one _ _) (by unfold maxLen; omega) (by omega) (by first | (simp; done) | (simp; omega) | omega) ?_; intro v1 w1 hown1 hgrow1; replace hown1 := own_in hown1; have hB1 : Below W.heap.size W w1 := Below.grown (by (repeat (first | assumption | exact Below.refl _ _ | refine Below.drew ?_ | refine Below.alloc ?_ (by first | (simp; done) | (simp; omega) | omega) _))) hgrow1 (by first | (simp; done) | (simp; omega) | omega) (fun j hj => own_ge hj (by simp)); have hz1 := hB1.size; (first | have hr1 : w1.heap[W.heap.size]? = some (Obj.cells #[.int .i64 a1.id, .string a1.name, .int .i64 a1.rank, .bool a1.sec, .bool a1.deb, .bool a1.am, .int .i64 a1.need] 25) := (hgrow1.block _ (by simp; omega) (show some W.heap.size ≠ some (W.heap.size + 1) from fun e => absurd (Option.some.inj e) (by omega))).trans (alloc_old _ _ _) | have hr1 : w1.heap[W.heap.size + 1]? = some (Obj.cells #[.int .i64 a1.id, .string a1.name, .int .i64 a1.rank, .bool a1.sec, .bool a1.deb, .bool a1.am, .int .i64 a1.need] 25) := (hgrow1.block _ (by simp) (show some (W.heap.size + 1) ≠ some W.heap.size from fun e => absurd (Option.some.inj e) (by omega))).trans (alloc_two _ _ _) | skip); clear hgrow1) | (refine step_append (by rfl) (.tmp 32) (.tmp 34) 33 (by rfl) W.heap.size 25 i0 (.agg #[.int .i64 0, .string ⟨#[]⟩, .int .i64 0, .bool false, .bool false, .bool false, .int .i64 0]) 7 48 Tryd.underlying33 HI0.out HZ0.out.1 HZ0.out.2.1 HZ0.out.2.2 rfl (by decide) v1 k (flat LRule.rec (z0.take k)) (by rfl) (by first | exact hown1 | exact hown1.alloc _) _ 1 1 [.int .i64 a1.id, .string a1.name, .int .i64 a1.rank, .bool a1.sec, .bool a1.deb, .bool a1.am, .int .i64 a1.need] (by rfl) (by rfl) (by first | exact World.news_of_block (heap_alloc_new _ _) | exact World.news_of_block hr1) (by intro u hu; simp at hu; rcases hu with rfl | rfl | rfl | rfl | rfl | rfl | rfl <;> rfl) (by unfold maxLen; omega) (by omega) (by first | (simp; done) | (simp; omega) | omega) ?_; intro v2 w2 hown2 hgrow2; have hB2 : Below W.heap.size W w2 := Below.grown (by (repeat (first | assumption | exact Below.refl _ _ | refine Below.drew ?_ | refine Below.alloc ?_ (by first | (simp; done) | (simp; omega) | omega) _))) hgrow2 (by first | (simp; done) | (simp; omega) | omega) (fun j hj => (hown1.lt j hj).1); have hz2 := hB2.size; clear hgrow2) | (refine step_append (by rfl) (.tmp 35) (.tmp 38) 33 (by rfl) W.heap.size 25 i0 (.agg #[.int .i64 0, .string ⟨#[]⟩, .int .i64 0, .bool false, .bool false, .bool false, .int .i64 0]) 7 48 Tryd.underlying33 HI0.out HZ0.out.1 HZ0.out.2.1 HZ0.out.2.2 rfl (by decide) v2 (k + 1) (flat LRule.rec (z0.take k) ++ [.int .i64 a1.id, .string a1.name, .int .i64 a1.rank, .bool a1.sec, .bool a1.deb, .bool a1.am, .int .i64 a1.need]) (by rfl) (by first | exact hown2 | exact hown2.alloc _) (if cp = k then ⟨b, o, none⟩ else ⟨b, o + k * 7, none⟩) (n - k) (cp - k) (flat LRule.rec (z0.drop k)) (by exact ite_slice _ _ _ _ _) (by rw [flat_len, List.length_drop, LRule.rec_n]; have := HN.out; omega) (fun j u hu => HS2.out _ (by (repeat (first | assumption | exact Below.refl _ _ | refine Below.drew ?_ | refine Below.alloc ?_ (by first | (simp; done) | (simp; omega) | omega) _))) j u hu) (flat_one _ _) (by unfold maxLen; omega) (by omega) (by first | (simp; done) | (simp; omega) | omega) ?_; intro v3 w3 hown3 hgrow3; have hB3 : Below W.heap.size W w3 := Below.grown (by (repeat (first | assumption | exact Below.refl _ _ | refine Below.drew ?_ | refine Below.alloc ?_ (by first | (simp; done) | (simp; omega) | omega) _))) hgrow3 (by first | (simp; done) | (simp; omega) | omega) (fun j hj => (hown2.lt j hj).1); have hz3 := hB3.size; clear hgrow3) | fail)
        all_goals
          have HO := Lib.hid (Own.low (own_ins HN.out hk hown3 HI.out) hb4.size)
          have hb5 := hb4.trans (hB3.mono hb4.size)
          have HFI := Lib.hid (ins_fine HF.out HF1.out)
          clear hown1 hown2 hown3 hB1 hB2 hB3 hz1 hz2 hz3 HK HS1 HS2 x0 x1 x2 x3 x4 x5 x6
          go_wp2_with fail
          all_goals
            refine (good v3 _ _ HO.out.is HFI.out).mono ?_
            rintro e w4 ⟨rfl, hb6⟩
            have HO4 := Lib.hid (HO.out.kept hb6)
            have hb7 := hb5.trans (hb6.mono hb5.size)
            clear hb6
            cases hg : Gd.goodB (ins z0 a1) with
            | false =>
              have HA := Lib.hid (show Ans z0 a1 [] false from .inr ⟨.inr hg, rfl, rfl⟩)
              have hb8 := hb7.alloc hb7.size (Obj.cells #[] 25)
              have HS := Lib.hid (Own.start (T := LRule.rec) (E := 25) (w := w4) hb7.size)
              clear hg
              go_wp2_with fail
              go_ret2
              exact ⟨_, [], false, rfl, HA.out, HS.out, hb8⟩
            | true =>
              have HA := Lib.hid (show Ans z0 a1 (ins z0 a1) true from .inl ⟨HG.out, hg, rfl, rfl⟩)
              clear hg
              go_wp2_with fail
              go_ret2
              exact ⟨_, _, true, rfl, HA.out, HO4.out, hb7⟩
end Go.Proofs.YtankaffhapcnaaaDoor.Add
