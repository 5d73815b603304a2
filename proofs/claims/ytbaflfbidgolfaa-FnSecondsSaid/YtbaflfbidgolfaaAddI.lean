/- AddRule: the program's function. -/
import Derived.Test.YtbaflfbidgolfaaAdd
import Derived.Test.YtbaflfbidgolfaaConcat
import Derived.Test.YtbaflfbidgolfaaData
namespace Go.Proofs.Ytbaflfbidgolfaa.AddI
open Go.RowKit Bs Ins
set_option linter.unusedVariables false
set_option maxRecDepth 100000
theorem good (v : Value) (xs : List LRule.R) (w : World) (h : Is LRule.rec w v xs) (f : ∀ x ∈ xs, LRule.Fine x) : Calls Try.prog 80 #[v] w (Gd.GoodPost xs w) := by
  obtain ⟨a, c, rfl, h1⟩ := h
  exact GoodI.isValidRules a _ c xs w rfl (RuleC.rules h1) f
/-- the three slices at hand, as slices.Concat wants them -/
theorem ready (w W X : World) (b o n cp k : Nat) (z0 : List LRule.R) (a1 : LRule.R) (m3 c3 : Nat) (hm3 : m3 = n - k) (hc3 : c3 = cp - k) (t : Option Addr) (ht : t = if cp = k then some ⟨b, o, none⟩ else some ⟨b, o + k * 7, none⟩) (hn : z0.length = n) (hk : k ≤ n) (hn8 : n ≤ 8) (hcp : n ≤ cp) (hcm : cp ≤ maxLen) (hbl : b < w.heap.size) (hb : Below w.heap.size w W)
    (hat : ∀ j r, z0[j]? = some r → At LRule.rec w b (o + j * LRule.rec.n) r) (hX : Below W.heap.size W X) (h1 : X.heap[W.heap.size]? = some (Obj.cells #[.int .i64 a1.id, .string a1.name, .int .i64 a1.rank, .bool a1.sec, .bool a1.deb, .bool a1.am, .int .i64 a1.need] 63)) (h2 : X.heap[W.heap.size + 1]? = some (.cells #[.slice (some ⟨b, o, none⟩) k cp, .slice (some ⟨W.heap.size, 0, none⟩) 1 1, .slice t m3 c3] 27)) :
    Calls Try.prog 107 #[.slice (some ⟨W.heap.size + 1, 0, none⟩) 3 3] X fun e w' => ∃ v, e = .returned v ∧ Own LRule.rec 63 w' X.heap.size v (z0.take k ++ [a1] ++ z0.drop k) ∧ Below X.heap.size X w' := by
  subst hm3 hc3
  have hs : W.heap.size + 1 < X.heap.size := (Array.getElem?_eq_some_iff.1 h2).1
  have hbX : b < X.heap.size := Nat.lt_of_lt_of_le (Nat.lt_of_lt_of_le hbl hb.size) hX.size
  have hbW : b < W.heap.size := Nat.lt_of_lt_of_le hbl hb.size
  have hatX : ∀ j r, z0[j]? = some r → At LRule.rec X b (o + j * LRule.rec.n) r := fun j r hr => ((hat j r hr).below LRule.rec hb hbl).below LRule.rec hX hbW
  have hl : [z0.take k, [a1], z0.drop k].flatten = z0.take k ++ [a1] ++ z0.drop k := by simp
  have hlen : (z0.take k ++ [a1] ++ z0.drop k).length = n + 1 := by simp; omega
  rw [← hl]
  refine Concat.concat (W.heap.size + 1) 3 3 [.slice (some ⟨b, o, none⟩) k cp, .slice (some ⟨W.heap.size, 0, none⟩) 1 1, .slice t (n - k) (cp - k)] [z0.take k, [a1], z0.drop k] X hs (Nat.le_refl _) (by unfold maxLen; omega) rfl rfl ?_ ?_ (by rw [hl, hlen]; omega) (by rw [hl, hlen]; omega)
  · intro j v hv
    rw [cell_of_row X (W.heap.size + 1) j _ _ (0, 0) h2]
    simpa using hv
  · intro j v xs hv hx
    match j, hv, hx with
    | 0, hv, hx =>
      simp only [List.getElem?_cons_zero, Option.some.injEq] at hv hx
      subst hv hx
      refine ⟨b, o, cp, by rw [List.length_take, Nat.min_eq_left (by omega)], hbX, by simp; omega, hcm, fun i r hr => hatX i r ?_⟩
      rw [List.getElem?_take] at hr
      split at hr
      · exact hr
      · cases hr
    | 1, hv, hx =>
      simp only [List.getElem?_cons_zero, List.getElem?_cons_succ, Option.some.injEq] at hv hx
      subst hv hx
      refine ⟨W.heap.size, 0, 1, rfl, by omega, Nat.le_refl _, by unfold maxLen; omega, fun i r hr => ?_⟩
      match i, hr with
      | 0, hr =>
        simp only [List.getElem?_cons_zero, Option.some.injEq] at hr
        subst hr
        intro q u hu
        rw [show 0 + 0 * LRule.rec.n + q = q by omega, cell_of_row X W.heap.size q _ _ (0, 0) h1, ← Array.getElem?_toList]
        exact hu
      | i + 1, hr => simp at hr
    | 2, hv, hx =>
      simp only [List.getElem?_cons_zero, List.getElem?_cons_succ, Option.some.injEq] at hv hx
      subst hv hx
      by_cases hck : cp = k
      · rw [if_pos hck] at ht
        subst ht
        refine ⟨b, o, cp - k, by rw [List.length_drop, hn], hbX, by simp; omega, by unfold maxLen at hcm ⊢; omega, fun i r hr => ?_⟩
        rw [List.drop_eq_nil_of_le (by omega)] at hr
        simp at hr
      · rw [if_neg hck] at ht
        subst ht
        refine ⟨b, o + k * 7, cp - k, by rw [List.length_drop, hn], hbX, by simp; omega, by unfold maxLen at hcm ⊢; omega, fun i r hr => ?_⟩
        have h := hatX (k + i) r (by rw [List.getElem?_drop] at hr; exact hr)
        rwa [LRule.rec_n, show o + (k + i) * 7 = o + k * 7 + i * 7 by omega] at h
    | j + 3, hv, hx => simp at hv
set_option maxHeartbeats 1600000 in
theorem impl (v0 : Value) (z0 : List LRule.R) (a1 : LRule.R) (w : World) (h0 : IsS LRule.rec w v0 z0) (f0 : ∀ x ∈ z0, LRule.Fine x) (l0 : z0.length ≤ 1048576) (f1 : LRule.Fine a1) :
    Calls Try.prog 67 #[v0, .agg #[.int .i64 a1.id, .string a1.name, .int .i64 a1.rank, .bool a1.sec, .bool a1.deb, .bool a1.am, .int .i64 a1.need]] w (Post z0 a1 w) := by
  obtain ⟨b, o, cp, rfl, hbl, hxc, hcm, hcell⟩ := h0
  have hbox := (Below.refl w.heap.size w).alloc (Nat.le_refl _) (Obj.cells #[.int .i64 a1.id, .string a1.name, .int .i64 a1.rank, .bool a1.sec, .bool a1.deb, .bool a1.am, .int .i64 a1.need] 63)
  have HX := Lib.hid (LRule.box w a1 63)
  have HC := Lib.hid hcell
  have HR1 := Lib.hid (show RowsAt LRule.rec (w.alloc (Obj.cells #[.int .i64 a1.id, .string a1.name, .int .i64 a1.rank, .bool a1.sec, .bool a1.deb, .bool a1.am, .int .i64 a1.need] 63)) (some ⟨b, o, none⟩) cp z0 from RowsAt.below LRule.rec ⟨hxc, hcm, .inr ⟨b, o, rfl, hbl, hcell⟩⟩ hbox)
  have HF := Lib.hid f0
  have HF1 := Lib.hid f1
  obtain ⟨n, hn⟩ : ∃ n, n = z0.length := ⟨_, rfl⟩
  have hnb : n ≤ cp := by omega
  unfold maxLen at hcm
  have HN := Lib.hid hn.symm
  rw [← hn] at l0 ⊢
  have hle : n ≤ z0.length := by omega
  clear hn hcell f0 f1 hxc
  obtain ⟨i0, hi, hz0, hz1, hz2⟩ := info_parts HelpS.infoRule
  have HI0 := Lib.hid hi
  have HZ0 := Lib.hid (And.intro hz0 (And.intro hz1 hz2))
  clear hi hz0 hz1 hz2
  go_enter Try.func67, Try.ntmps67
  go_wp2_with fail
  refine (GoodI.isValidRules _ n cp z0 _ HN.out (RuleC.rules HR1.out) HF.out).mono ?_
  rintro e w1 ⟨rfl, hb1⟩
  have hb2 := hbox.trans (hb1.mono hbox.size)
  have HX1 := Lib.hid (HX.out.below LRule.rec hb1 (by simp))
  have HRw := Lib.hid (HR1.out.below LRule.rec hb1)
  have hX1 : w.heap.size < w1.heap.size := by have := hb1.size; simp at this; omega
  clear hb1 hbox HX HR1
  cases hg : Gd.goodB z0 with
  | false =>
    have HA := Lib.hid (show Ans z0 a1 [] false from .inr ⟨.inl hg, rfl, rfl⟩)
    have hb := hb2.alloc hb2.size (Obj.cells #[] 63)
    have HO := Lib.hid (Own.start (T := LRule.rec) (E := 63) (w := w1) hb2.size)
    clear hg
    go_wp2_with fail
    go_ret2
    exact ⟨_, [], false, rfl, HA.out, HO.out, hb⟩
  | true =>
    have HG := Lib.hid hg
    have hn8 : n ≤ 8 := by have := (Gd.good_of hg).1; have := HN.out; omega
    clear hg
    go_wp2_with fail
    go_loopw [6] (fun i wr => ∃ k : Nat, k ≤ n ∧ i = .int .i64 k ∧ Hid (Less z0 a1.id k) ∧ Below w1.heap.size w1 wr) (fun i _ => n - (intOf i).toNat)
    case atStart => exact ⟨0, Nat.zero_le _, rfl, Lib.hid (fun j p hj => by omega), Below.refl _ _⟩
    case round =>
      obtain ⟨k, hk, rfl, HL, hbw⟩ := hrel
      have HXr := Lib.hid (HX1.out.below LRule.rec hbw hX1)
      have hb3 := hb2.trans (hbw.mono hb2.size)
      obtain ⟨x0, x1, x2, x3, x4, x5, x6⟩ := LRule.cells0 HXr.out
      have k0 : 0 ≤ (k : Int) := by omega
      by_cases hlt : k < n
      · have hx : k < z0.length := by omega
        have HZ := Lib.hid (List.getElem?_eq_getElem hx)
        obtain ⟨q0, q1, q2, q3, q4, q5, q6⟩ := LRule.cells (((HC.out k _ HZ.out).below LRule.rec hb3 hbl))
        simp only [LRule.rec_n] at q0 q1 q2 q3 q4 q5 q6
        have k1 : (k : Int) < (n : Int) := by omega
        have hd : decide ((k : Int) < (n : Int)) = true := by simp; omega
        generalize z0[k] = X at *
        by_cases hid : X.id < a1.id
        · have HL2 := Lib.hid (less_next HL.out HZ.out hid)
          go_wp2_with fail
          go_quiet (fail)
          have hb4 : Below w1.heap.size w1 (wr.drewN nq) := hbw.trans ⟨rfl, rfl, rfl, Nat.le_refl _, fun _ _ => rfl⟩
          go_wp2_with fail
          go_roundw
          case rel => exact ⟨k + 1, by omega, by go_num, HL2, hb4⟩
          case measure => simp [intOf]; omega
        · have HI := Lib.hid (ins_at z0 a1 k (by omega) HL.out (fun p hp => by rw [HZ.out] at hp; rw [← Option.some.inj hp]; exact hid))
          have hid2 : decide (X.id < a1.id) = false := by simpa using hid
          clear hid
          go_wp2_with fail
          go_quiet (fail)
          clear q0 q1 q2 q3 q4 q5 q6 hid2 hd HZ hx
          have hb4 : Below w.heap.size w (wr.drewN nq) := hb3.trans ⟨rfl, rfl, rfl, Nat.le_refl _, fun _ _ => rfl⟩
          have HX4 := Lib.hid (show At LRule.rec (wr.drewN nq) w.heap.size 0 a1 from HXr.out)
          have hX4 : w.heap.size < (wr.drewN nq).heap.size := Nat.lt_of_lt_of_le hX1 hbw.size
          clear x0 x1 x2 x3 x4 x5 x6 hlt hbw hb3 HL HXr
          generalize wr.drewN nq = W at *
          obtain ⟨x0, x1, x2, x3, x4, x5, x6⟩ := LRule.cells0 HX4.out
          have s1 : (k : Int) ≤ (n : Int) := by omega
          have s2 : (n : Int) ≤ (cp : Int) := by omega
          have s3 : (k : Int) ≤ (cp : Int) := by omega
          have HCall := Lib.hid (fun X => ready w W X b o n cp k z0 a1 _ _ rfl rfl _ rfl HN.out hk hn8 hnb (by unfold maxLen; omega) hbl hb4 HC.out)
          have HK := Lib.hid (show ∀ w' : World, Below W.heap.size W w' → Below W.heap.size W w' ∧ w'.cell? ⟨w.heap.size, 0, none⟩ = some (.int .i64 a1.id) ∧ w'.cell? ⟨w.heap.size, 1, none⟩ = some (.string a1.name) ∧ w'.cell? ⟨w.heap.size, 2, none⟩ = some (.int .i64 a1.rank) ∧ w'.cell? ⟨w.heap.size, 3, none⟩ = some (.bool a1.sec) ∧ w'.cell? ⟨w.heap.size, 4, none⟩ = some (.bool a1.deb) ∧ w'.cell? ⟨w.heap.size, 5, none⟩ = some (.bool a1.am) ∧ w'.cell? ⟨w.heap.size, 6, none⟩ = some (.int .i64 a1.need) from fun w' hb => ⟨hb, by rw [hb.cell hX4]; exact x0, by rw [hb.cell hX4]; exact x1, by rw [hb.cell hX4]; exact x2, by rw [hb.cell hX4]; exact x3, by rw [hb.cell hX4]; exact x4, by rw [hb.cell hX4]; exact x5, by rw [hb.cell hX4]; exact x6⟩)
          go_wp2_with fail
          go_region_held3 (fun w' => Below W.heap.size W w' ∧ w'.cell? ⟨w.heap.size, 0, none⟩ = some (.int .i64 a1.id) ∧ w'.cell? ⟨w.heap.size, 1, none⟩ = some (.string a1.name) ∧ w'.cell? ⟨w.heap.size, 2, none⟩ = some (.int .i64 a1.rank) ∧ w'.cell? ⟨w.heap.size, 3, none⟩ = some (.bool a1.sec) ∧ w'.cell? ⟨w.heap.size, 4, none⟩ = some (.bool a1.deb) ∧ w'.cell? ⟨w.heap.size, 5, none⟩ = some (.bool a1.am) ∧ w'.cell? ⟨w.heap.size, 6, none⟩ = some (.int .i64 a1.need)) ((refine HK.out _ ?_; (repeat (first | assumption | exact Below.refl _ _ | refine Below.drew ?_ | refine Below.alloc ?_ (by first | (simp; done) | (simp; omega) | omega) _)))) (first | (go_at_call 107; refine (HCall.out _ (by (repeat (first | assumption | exact Below.refl _ _ | refine Below.drew ?_ | refine Below.alloc ?_ (by first | (simp; done) | (simp; omega) | omega) _))) (by exact Add.alloc_old _ _ _) (by exact Add.alloc_two _ _ _)).mono ?_; rintro e w3 ⟨v3, rfl, hO, hb9⟩; have hB3 : Below W.heap.size W w3 := Below.trans (by (repeat (first | assumption | exact Below.refl _ _ | refine Below.drew ?_ | refine Below.alloc ?_ (by first | (simp; done) | (simp; omega) | omega) _))) (hb9.mono (by first | (simp; done) | (simp; omega) | omega))) | fail)
          all_goals
            have HO := Lib.hid (show Own LRule.rec 63 w3 w.heap.size v3 (ins z0 a1) by rw [HI.out]; exact hO.low (by have := hb4.size; first | (simp; omega) | omega))
            have hb5 := hb4.trans (hB3.mono hb4.size)
            have HFI := Lib.hid (ins_fine HF.out HF1.out)
            clear hO hB3 hb9 HK HCall x0 x1 x2 x3 x4 x5 x6
            go_wp2_with fail
            refine (good v3 _ _ HO.out.is HFI.out).mono ?_
            rintro e w4 ⟨rfl, hb6⟩
            have HO4 := Lib.hid (HO.out.kept hb6)
            have hb7 := hb5.trans (hb6.mono hb5.size)
            clear hb6
            cases hg : Gd.goodB (ins z0 a1) with
            | false =>
              have HA := Lib.hid (show Ans z0 a1 [] false from .inr ⟨.inr hg, rfl, rfl⟩)
              have hb8 := hb7.alloc hb7.size (Obj.cells #[] 63)
              have HS := Lib.hid (Own.start (T := LRule.rec) (E := 63) (w := w4) hb7.size)
              clear hg
              go_wp2_with fail
              go_ret2
              exact ⟨_, [], false, rfl, HA.out, HS.out, hb8⟩
            | true =>
              have HA := Lib.hid (show Ans z0 a1 (ins z0 a1) true from .inl ⟨HG.out, hg, rfl, rfl⟩)
              clear hg
              go_wp2_with fail
              go_ret2
              exact ⟨_, _, true, rfl, HA.out, HO4.out, hb7⟩
      · have hd : decide ((k : Int) < (n : Int)) = false := by simp; omega
        have hd2 : decide (k < n) = false := by simp; omega
        have HI := Lib.hid (ins_at z0 a1 k (by omega) HL.out (fun p hp => by have := (List.getElem?_eq_some_iff.1 hp).1; have := HN.out; omega))
        go_wp2_with fail
        go_quiet (fail)
        clear hd hd2
        have hb4 : Below w.heap.size w (wr.drewN nq) := hb3.trans ⟨rfl, rfl, rfl, Nat.le_refl _, fun _ _ => rfl⟩
        have HX4 := Lib.hid (show At LRule.rec (wr.drewN nq) w.heap.size 0 a1 from HXr.out)
        have hX4 : w.heap.size < (wr.drewN nq).heap.size := Nat.lt_of_lt_of_le hX1 hbw.size
        clear x0 x1 x2 x3 x4 x5 x6 hlt hbw hb3 HL HXr
        generalize wr.drewN nq = W at *
        obtain ⟨x0, x1, x2, x3, x4, x5, x6⟩ := LRule.cells0 HX4.out
        have s1 : (k : Int) ≤ (n : Int) := by omega
        have s2 : (n : Int) ≤ (cp : Int) := by omega
        have s3 : (k : Int) ≤ (cp : Int) := by omega
        have HK := Lib.hid (show ∀ w' : World, Below W.heap.size W w' → Below W.heap.size W w' ∧ w'.cell? ⟨w.heap.size, 0, none⟩ = some (.int .i64 a1.id) ∧ w'.cell? ⟨w.heap.size, 1, none⟩ = some (.string a1.name) ∧ w'.cell? ⟨w.heap.size, 2, none⟩ = some (.int .i64 a1.rank) ∧ w'.cell? ⟨w.heap.size, 3, none⟩ = some (.bool a1.sec) ∧ w'.cell? ⟨w.heap.size, 4, none⟩ = some (.bool a1.deb) ∧ w'.cell? ⟨w.heap.size, 5, none⟩ = some (.bool a1.am) ∧ w'.cell? ⟨w.heap.size, 6, none⟩ = some (.int .i64 a1.need) from fun w' hb => ⟨hb, by rw [hb.cell hX4]; exact x0, by rw [hb.cell hX4]; exact x1, by rw [hb.cell hX4]; exact x2, by rw [hb.cell hX4]; exact x3, by rw [hb.cell hX4]; exact x4, by rw [hb.cell hX4]; exact x5, by rw [hb.cell hX4]; exact x6⟩)
        by_cases hck : cp = k
        · have HCall := Lib.hid (fun X => ready w W X b o n cp k z0 a1 0 0 (by omega) (by omega) (some ⟨b, o, none⟩) (by rw [if_pos hck]) HN.out hk hn8 hnb (by unfold maxLen; omega) hbl hb4 HC.out)
          subst hck
          go_wp2_with fail
          go_region_held3 (fun w' => Below W.heap.size W w' ∧ w'.cell? ⟨w.heap.size, 0, none⟩ = some (.int .i64 a1.id) ∧ w'.cell? ⟨w.heap.size, 1, none⟩ = some (.string a1.name) ∧ w'.cell? ⟨w.heap.size, 2, none⟩ = some (.int .i64 a1.rank) ∧ w'.cell? ⟨w.heap.size, 3, none⟩ = some (.bool a1.sec) ∧ w'.cell? ⟨w.heap.size, 4, none⟩ = some (.bool a1.deb) ∧ w'.cell? ⟨w.heap.size, 5, none⟩ = some (.bool a1.am) ∧ w'.cell? ⟨w.heap.size, 6, none⟩ = some (.int .i64 a1.need)) ((refine HK.out _ ?_; (repeat (first | assumption | exact Below.refl _ _ | refine Below.drew ?_ | refine Below.alloc ?_ (by first | (simp; done) | (simp; omega) | omega) _)))) (first | (go_at_call 107; refine (HCall.out _ (by (repeat (first | assumption | exact Below.refl _ _ | refine Below.drew ?_ | refine Below.alloc ?_ (by first | (simp; done) | (simp; omega) | omega) _))) (by exact Add.alloc_old _ _ _) (by exact Add.alloc_two _ _ _)).mono ?_; rintro e w3 ⟨v3, rfl, hO, hb9⟩; have hB3 : Below W.heap.size W w3 := Below.trans (by (repeat (first | assumption | exact Below.refl _ _ | refine Below.drew ?_ | refine Below.alloc ?_ (by first | (simp; done) | (simp; omega) | omega) _))) (hb9.mono (by first | (simp; done) | (simp; omega) | omega))) | fail)
          all_goals
            have HO := Lib.hid (show Own LRule.rec 63 w3 w.heap.size v3 (ins z0 a1) by rw [HI.out]; exact hO.low (by have := hb4.size; first | (simp; omega) | omega))
            have hb5 := hb4.trans (hB3.mono hb4.size)
            have HFI := Lib.hid (ins_fine HF.out HF1.out)
            clear hO hB3 hb9 HK HCall x0 x1 x2 x3 x4 x5 x6
            go_wp2_with fail
            all_goals
              refine (good v3 _ _ HO.out.is HFI.out).mono ?_
              rintro e w4 ⟨rfl, hb6⟩
              have HO4 := Lib.hid (HO.out.kept hb6)
              have hb7 := hb5.trans (hb6.mono hb5.size)
              clear hb6
              cases hg : Gd.goodB (ins z0 a1) with
              | false =>
                have HA := Lib.hid (show Ans z0 a1 [] false from .inr ⟨.inr hg, rfl, rfl⟩)
                have hb8 := hb7.alloc hb7.size (Obj.cells #[] 63)
                have HS := Lib.hid (Own.start (T := LRule.rec) (E := 63) (w := w4) hb7.size)
                clear hg
                go_wp2_with fail
                go_ret2
                exact ⟨_, [], false, rfl, HA.out, HS.out, hb8⟩
              | true =>
                have HA := Lib.hid (show Ans z0 a1 (ins z0 a1) true from .inl ⟨HG.out, hg, rfl, rfl⟩)
                clear hg
                go_wp2_with fail
                go_ret2
                exact ⟨_, _, true, rfl, HA.out, HO4.out, hb7⟩
        · have HCall := Lib.hid (fun X => ready w W X b o n cp k z0 a1 _ _ rfl rfl (some ⟨b, o + k * 7, none⟩) (by rw [if_neg hck]) HN.out hk hn8 hnb (by unfold maxLen; omega) hbl hb4 HC.out)
          go_wp2_with fail
          go_region_held3 (fun w' => Below W.heap.size W w' ∧ w'.cell? ⟨w.heap.size, 0, none⟩ = some (.int .i64 a1.id) ∧ w'.cell? ⟨w.heap.size, 1, none⟩ = some (.string a1.name) ∧ w'.cell? ⟨w.heap.size, 2, none⟩ = some (.int .i64 a1.rank) ∧ w'.cell? ⟨w.heap.size, 3, none⟩ = some (.bool a1.sec) ∧ w'.cell? ⟨w.heap.size, 4, none⟩ = some (.bool a1.deb) ∧ w'.cell? ⟨w.heap.size, 5, none⟩ = some (.bool a1.am) ∧ w'.cell? ⟨w.heap.size, 6, none⟩ = some (.int .i64 a1.need)) ((refine HK.out _ ?_; (repeat (first | assumption | exact Below.refl _ _ | refine Below.drew ?_ | refine Below.alloc ?_ (by first | (simp; done) | (simp; omega) | omega) _)))) (first | (go_at_call 107; refine (HCall.out _ (by (repeat (first | assumption | exact Below.refl _ _ | refine Below.drew ?_ | refine Below.alloc ?_ (by first | (simp; done) | (simp; omega) | omega) _))) (by exact Add.alloc_old _ _ _) (by exact Add.alloc_two _ _ _)).mono ?_; rintro e w3 ⟨v3, rfl, hO, hb9⟩; have hB3 : Below W.heap.size W w3 := Below.trans (by (repeat (first | assumption | exact Below.refl _ _ | refine Below.drew ?_ | refine Below.alloc ?_ (by first | (simp; done) | (simp; omega) | omega) _))) (hb9.mono (by first | (simp; done) | (simp; omega) | omega))) | fail)
          all_goals
            have HO := Lib.hid (show Own LRule.rec 63 w3 w.heap.size v3 (ins z0 a1) by rw [HI.out]; exact hO.low (by have := hb4.size; first | (simp; omega) | omega))
            have hb5 := hb4.trans (hB3.mono hb4.size)
            have HFI := Lib.hid (ins_fine HF.out HF1.out)
            clear hO hB3 hb9 HK HCall x0 x1 x2 x3 x4 x5 x6
            go_wp2_with fail
            all_goals
              refine (good v3 _ _ HO.out.is HFI.out).mono ?_
              rintro e w4 ⟨rfl, hb6⟩
              have HO4 := Lib.hid (HO.out.kept hb6)
              have hb7 := hb5.trans (hb6.mono hb5.size)
              clear hb6
              cases hg : Gd.goodB (ins z0 a1) with
              | false =>
                have HA := Lib.hid (show Ans z0 a1 [] false from .inr ⟨.inr hg, rfl, rfl⟩)
                have hb8 := hb7.alloc hb7.size (Obj.cells #[] 63)
                have HS := Lib.hid (Own.start (T := LRule.rec) (E := 63) (w := w4) hb7.size)
                clear hg
                go_wp2_with fail
                go_ret2
                exact ⟨_, [], false, rfl, HA.out, HS.out, hb8⟩
              | true =>
                have HA := Lib.hid (show Ans z0 a1 (ins z0 a1) true from .inl ⟨HG.out, hg, rfl, rfl⟩)
                clear hg
                go_wp2_with fail
                go_ret2
                exact ⟨_, _, true, rfl, HA.out, HO4.out, hb7⟩
end Go.Proofs.Ytbaflfbidgolfaa.AddI
