/- The draws of members, of rules with many ranks and of pending questions. No condition. -/
import Derived.Test.YtbaflfbidgolfaaDrawRs
import Derived.Test.YtbaflfbidgolfaaDrawRf
import Derived.Test.YtbaflfbidgolfaaLive
import Derived.Test.YtbaflfbidgolfaaMoveQuestionC
import Derived.Test.YtbaflfbidgolfaaSecondQuestionC
import Derived.Deep.DeepCutAuto
import Derived.Deep.DrawnRows
import Derived.Deep.CutBlock
namespace Go.Proofs.Ytbaflfbidgolfaa.Draw
open Go.RowKit Cur Bs St StA StG StL
set_option linter.unusedVariables false
theorem least7 (a b : Int) (w : World) : Calls Try.prog 117 #[.int .i64 a, .int .i64 b] w fun e w' => e = .returned (.int .i64 (if a < b then a else b)) ∧ w = w' := by
  by_cases h : a < b
  · have HM := Lib.hid (show (if a < b then a else b) = a from if_pos h)
    go_enter Try.func117, Try.ntmps117
    go_wp2_with fail
    go_ret
    exact ⟨rfl, rfl⟩
  · have HM := Lib.hid (show (if a < b then a else b) = b from if_neg h)
    go_enter Try.func117, Try.ntmps117
    go_wp2_with fail
    go_ret
    exact ⟨rfl, rfl⟩
theorem member (B m : Nat) (w : World) (h : Cur w B m) (hm : m < 700000) : Calls Try.prog 101 #[.pointer (some ⟨B, 0, none⟩)] w (RNumOf w B (m + 2)) := by
  have HX := Lib.hid (among_lit B m [1, 2, 3, 4, 5, 99, 1, 2, 3, 0, 100] w h (by omega) (by decide) (by decide))
  clear h
  go_enter Try.func101, Try.ntmps101
  go_wp2_with fail
  refine HX.out.mono ?_
  rintro e w1 ⟨x, _, rfl, hc, hg⟩
  go_wp2_with fail
  go_ret
  exact ⟨x, rfl, hc, hg⟩
theorem rshort_set {z : List LRule.R} {r : LRule.R} {k : Nat} (h : RShort z) (hr : r.name.size ≤ 11) : RShort (z.set k r) := fun x hx => by
  rcases List.mem_or_eq_of_mem_set hx with hx | hx
  · exact h x hx
  · rw [hx]; exact hr
set_option maxRecDepth 100000 in
set_option maxHeartbeats 3200000 in
theorem ladder (B m : Nat) (w : World) (h : Cur w B m) (hm : m < 600000) : Calls Try.prog 96 #[.pointer (some ⟨B, 0, none⟩)] w (RsOf w B (m + 350)) := by
  have hB := h.lt
  have HC := Lib.hid h
  clear h
  go_enter Try.func96, Try.ntmps96
  go_wp2_with fail
  refine (rules B m _ HC.out (by omega)).mono ?_
  rintro e w1 ⟨v, z, rfl, hv, ⟨g0, hgv⟩, hsh, hzl, hc1, hg1⟩
  have HL1 := Lib.hid (show Live B (m + 300 + 2 * 0) w w1 from ⟨hc1, hg1, hB⟩)
  rcases hv.shape with ⟨rfl, _⟩ | ⟨g, c, rfl, hA, hgl, hcl, hcm⟩
  · cases hgv
  obtain ⟨n, hn⟩ : ∃ n, n = z.length := ⟨_, rfl⟩
  have HN := Lib.hid hn.symm
  rw [← hn] at hv hzl hcl ⊢
  have HO1 := Lib.hid hv
  have HS1 := Lib.hid hsh
  have hc63 : c ≤ 9223372036854775807 := by unfold maxLen at hcm; omega
  clear hn hv hsh hc1 hg1 hgv HC
  go_wp2_with fail
  go_loopw [4] (fun i wr => ∃ (k : Nat) (z' : List LRule.R), i = .int .i64 k ∧ k ≤ n ∧ Hid (Own LRule.rec 63 wr w.heap.size (.slice (some ⟨g, 0, none⟩) n c) z') ∧ Hid (z'.length = n) ∧ Hid (RShort z') ∧ Hid (Live B (m + 300 + 2 * k) w wr)) (fun i _ => n - (intOf i).toNat)
  case atStart => exact ⟨0, z, rfl, Nat.zero_le _, HO1, HN, HS1, HL1⟩
  case round =>
    clear HO1 HN HS1 HL1 hgl
    obtain ⟨k, z', rfl, hk, HO, HN, HSh, HL⟩ := hrel
    by_cases hlt : k < n
    · have k0 : 0 ≤ (k : Int) := by omega
      have k1 : (k : Int) < (n : Int) := by omega
      have hd : decide ((k : Int) < (n : Int)) = true := decide_eq_true k1
      go_wp2_with fail
      refine (one B _ 2 _ HL.out.cur (by omega) (by omega) (by omega)).mono ?_
      rintro e w2 ⟨b, rfl, hc2, hg2⟩
      have HO2 := Lib.hid (own_grown HO.out hg2 HL.out.low)
      have HL2 := Lib.hid (HL.out.draw hc2 hg2)
      clear hc2 hg2 HO HL
      cases b with
      | false =>
        go_wp2_with fail
        go_ret
        exact ⟨_, z', rfl, HO2.out, ⟨g, rfl⟩, HSh.out, by have := HN.out; omega, HL2.out.cur.mono (by omega), HL2.out.grown⟩
      | true =>
        have hx : k < z'.length := by have := HN.out; omega
        have HX := Lib.hid (List.getElem?_eq_getElem hx)
        have hXs := HSh.out z'[k] (List.getElem_mem hx)
        obtain ⟨q0, q1, q2, q3, q4, q5, q6⟩ := LRule.cells (HO2.out.at_ k _ HX.out)
        simp only [LRule.rec_n] at q0 q1 q2 q3 q4 q5 q6
        generalize z'[k] = X at *
        obtain ⟨T, hT⟩ : ∃ T : Int, (if (9 : Int) < (k : Int) then (9 : Int) else (k : Int)) = T := ⟨_, rfl⟩
        have HT := Lib.hid (fun W => least7 9 (k : Int) W)
        rw [hT] at HT
        clear hT
        go_wp2_with fail
        refine (HT.out _).mono ?_
        rintro e _ ⟨rfl, rfl⟩
        have hfz := Own.frozen HN.out HO2.out
        have HP := Lib.hid (LRule.putAll HN.out HO2.out k X { X with rank := T } HX.out)
        have hgA := (HO2.out.lt g rfl).1
        have hgl := (HO2.out.lt g rfl).2
        have HLp := Lib.hid ((((((((HL2.out.set (p := ⟨g, k * 7, none⟩) hgA (.int .i64 X.id)).set (p := ⟨g, k * 7 + 1, none⟩) hgA (.string X.name)).set (p := ⟨g, k * 7 + 2, none⟩) hgA (.int .i64 T)).set (p := ⟨g, k * 7 + 3, none⟩) hgA (.bool X.sec)).set (p := ⟨g, k * 7 + 4, none⟩) hgA (.bool X.deb)).set (p := ⟨g, k * 7 + 5, none⟩) hgA (.bool X.am)).set (p := ⟨g, k * 7 + 6, none⟩) hgA (.int .i64 X.need)))
        have HSP := Lib.hid (rshort_set (k := k) (r := { X with rank := T }) HSh.out hXs)
        have HNP := Lib.hid (show (z'.set k { X with rank := T }).length = n by rw [List.length_set]; exact HN.out)
        clear HSh HL2 HO2
        go_wp2_with fail
        try simp only at HP
        generalize (((((((w2.setCell ⟨g, k * 7, none⟩ (.int .i64 X.id)).setCell ⟨g, k * 7 + 1, none⟩ (.string X.name)).setCell ⟨g, k * 7 + 2, none⟩ (.int .i64 T)).setCell ⟨g, k * 7 + 3, none⟩ (.bool X.sec)).setCell ⟨g, k * 7 + 4, none⟩ (.bool X.deb)).setCell ⟨g, k * 7 + 5, none⟩ (.bool X.am)).setCell ⟨g, k * 7 + 6, none⟩ (.int .i64 X.need)) = wp at *
        have hbx := (Below.refl wp.heap.size wp).alloc (Nat.le_refl _) (Obj.cells #[.int .i64 X.id, .string X.name, .int .i64 T, .bool X.sec, .bool X.deb, .bool X.am, .int .i64 X.need] 63)
        have HP2 := Lib.hid (HP.out.kept hbx)
        have HL3 := Lib.hid ((HLp.out.kept hbx).mono (m' := m + 300 + 2 * (k + 1)) (by omega))
        clear q0 q1 q2 q3 q4 q5 q6 hfz HP HLp hbx
        go_roundw
        case rel => exact ⟨k + 1, _, by go_num, by omega, HP2, HNP, HSP, HL3⟩
        case measure => simp [intOf]; omega
    · have k1 : ¬ (k : Int) < (n : Int) := by omega
      have hd : decide ((k : Int) < (n : Int)) = false := decide_eq_false k1
      go_wp2_with fail
      go_ret
      exact ⟨_, z', rfl, HO.out, ⟨g, rfl⟩, HSh.out, by have := HN.out; omega, HL.out.cur.mono (by omega), HL.out.grown⟩
/-- a list of questions of the call's own -/
def PqOf (w : World) (B m : Nat) (e : Ending) (w' : World) : Prop := ∃ (v : Value) (l : List Q), e = .returned v ∧ Own LQuestion.rec 47 w' w.heap.size v l ∧ (∃ g, v.ownBlock = some g) ∧ l.length ≤ 7 ∧ Cur w' B m ∧ w.grownBy w' (some B)
theorem qown_some {w : World} {A : Nat} {v : Value} {l : List Q} (h : Own LQuestion.rec 47 w A v l) (hz : 1 ≤ l.length) : ∃ g, v.ownBlock = some g := by
  rcases h.shape with ⟨_, h0⟩ | ⟨g, cap, rfl, _⟩
  · rw [h0] at hz; simp at hz
  · exact ⟨g, rfl⟩
theorem qfine (l : List Q) : ∀ x ∈ l, LQuestion.Fine x := fun x _ => trivial
theorem move_ok {z : List R} {l r0 : List Q} {id m : Int} {r1 : Bool} (hg : goodQ z l = true) (hid : id ∈ may z l) (h1 : 1 ≤ m) (h2 : m ≤ 99) (h : MoveQuestionC.Ans z l id m r0 r1) : r0.length = l.length + 1 ∧ goodQ z r0 = true := by
  have hk : goodQ z (l ++ [⟨id, m, false⟩]) = true := by rw [move_iff, hg, Word.inB_mk h1 h2, IntF.has_iff.2 hid]; rfl
  unfold MoveQuestionC.Ans at h
  rw [mvA_yes hk] at h
  simp only [Prod.mk.injEq] at h
  rw [← h.1]
  exact ⟨by simp, hk⟩
theorem second_ok {z : List R} {l s0 : List Q} {m : Int} (h : SecondQuestionC.Ans z l m s0 true) : s0.length = l.length := by
  unfold SecondQuestionC.Ans scA at h
  split at h
  · simp only [Prod.mk.injEq] at h; rw [← h.1, sec1_len]
  · simp at h
theorem mcells {w : World} {A g n c : Nat} {zs : List Int} (h : Own LInt.rec 3 w A (.slice (some ⟨g, 0, none⟩) n c) zs) (hn : zs.length = n) : ∀ j, j < n → w.cell? ⟨g, j, none⟩ = some (.int .i64 (zs.getD j 0)) := fun j hj => by
  have hx : zs[j]? = some (zs.getD j 0) := by rw [List.getD_eq_getElem?_getD, List.getElem?_eq_getElem (by omega)]; rfl
  have q0 := LInt.cells (h.at_ j _ hx)
  simp only [LInt.rec_n, Nat.mul_one] at q0
  exact q0
theorem mget {zs : List Int} {n : Nat} (hn : zs.length = n) : ∀ j, j < n → zs.getD j 0 ∈ zs := fun j hj => by
  rw [List.getD_eq_getElem?_getD, List.getElem?_eq_getElem (by omega)]
  exact List.getElem_mem _
theorem iown_some {w : World} {A : Nat} {v : Value} {l : List Int} (h : Own LInt.rec 3 w A v l) (hl : 0 < l.length) : ∃ g c, v = .slice (some ⟨g, 0, none⟩) l.length c ∧ l.length ≤ c ∧ c ≤ maxLen := by
  rcases h.shape with ⟨_, h0⟩ | ⟨g, c, e, _, _, h1, h2⟩
  · rw [h0] at hl; simp at hl
  · exact ⟨g, c, e, h1, h2⟩
def Round (B m : Nat) (w : World) (A : Nat) (v : Value) (z : List LRule.R) (o : Value) (l : List Q) (W : World) : Prop :=
  Own LQuestion.rec 47 W w.heap.size o l ∧ (∃ g, o.ownBlock = some g) ∧ Own LRule.rec 63 W A v z ∧ Live B m w W
attribute [local go_sem ↓] Go.wp_at_zero Go.wp_at_succ in
set_option maxRecDepth 100000 in
set_option maxHeartbeats 6400000 in
theorem pending (B m A : Nat) (v : Value) (z : List LRule.R) (w : World) (h : Cur w B m) (hm : m < 600000) (hv : Own LRule.rec 63 w A v z) (hvn : ∃ g, v.ownBlock = some g) (hA : B < A) (hsh : RShort z) (hzl : z.length ≤ 16) :
    Calls Try.prog 97 #[.pointer (some ⟨B, 0, none⟩), v] w (PqOf w B (m + 100)) := by
  obtain ⟨i0, hi, hz0, hz1, hz2⟩ := info_parts LQuestion.infoK
  have HI0 := Lib.hid hi
  have HZ0 := Lib.hid (And.intro hz0 (And.intro hz1 hz2))
  clear hi hz0 hz1 hz2
  have HVN := Lib.hid hvn
  have HF := Lib.hid (rshort_fine hsh)
  have HL0 := Lib.hid ((Live.start h).alloc (.cells #[] 47))
  have HO0 := Lib.hid (Own.start (T := LQuestion.rec) (E := 47) (w := w) (Nat.le_refl _))
  have HR0 := Lib.hid (hv.alloc (.cells #[] 47))
  obtain ⟨av, nv, cv, rfl⟩ : ∃ a n c, v = .slice a n c := by
    rcases hv.shape with ⟨rfl, _⟩ | ⟨g, cap, rfl, _⟩ <;> exact ⟨_, _, _, rfl⟩
  generalize hvv : Value.slice av nv cv = vv at *
  clear h hv hvn hsh
  go_enter Try.func97, Try.ntmps97
  go_wp2_with fail
  generalize w.alloc (.cells #[] 47) = W0 at *
  refine (pick B _ 6 _ HL0.out.cur (by omega) (by omega) (by omega)).mono ?_
  rintro e w1 ⟨q, rfl, q0, q1, hc1, hg1⟩
  obtain ⟨q, rfl⟩ := Int.eq_ofNat_of_zero_le q0
  have HRD := Lib.hid (show Round B (m + 40 - 6 * q) w A vv z (.slice (some ⟨w.heap.size, 0, none⟩) 0 0) [] w1 from ⟨own_grown HO0.out hg1 HL0.out.low, ⟨_, rfl⟩, own_grown HR0.out hg1 hA, (HL0.out.draw hc1 hg1).mono (by omega)⟩)
  clear hc1 hg1 HO0 HR0 HL0 W0
  go_upto_block 0 with fail
  go_cut [5] (fun u wx => ∃ (o : Value) (l : List Q), o = u ∧ l.length ≤ 6 ∧ Hid (Round B (m + 42) w A vv z o l wx))
  case first =>
    go_wp2_with fail
    go_loopw [5, 6] (fun u n wr => ∃ (q : Nat) (o : Value) (l : List Q), o = u ∧ n = .int .i64 q ∧ q ≤ 5 ∧ l.length ≤ 6 ∧ Hid (Round B (m + 40 - 6 * q) w A vv z o l wr)) (fun _ n _ => (intOf n).toNat)
    case atStart => exact ⟨q, _, [], rfl, rfl, by omega, by simp, HRD⟩
    case round =>
      clear HRD q0 q1
      obtain ⟨q, o, l, rfl, rfl, hq, hll, HRD⟩ := hrel
      by_cases hpos : 0 < q
      · obtain ⟨q, rfl⟩ : ∃ p, q = p + 1 := ⟨q - 1, by omega⟩
        have qi : (0 : Int) < ((q + 1 : Nat) : Int) := by omega
        have qi2 : (0 : Int) < (q : Int) + 1 := by omega
        obtain ⟨hO, hon, hR, hL⟩ := HRD.out
        have HON := Lib.hid hon
        have HO := Lib.hid hO
        have HRu := Lib.hid hR
        have HLi := Lib.hid hL
        clear HRD hO hon hR hL
        cases hg : goodQ z l with
        | false =>
          have HG := Lib.hid (good_asS false HRu.out.is HO.out.is HF.out hg)
          clear hg
          go_wp2_with fail
          refine HG.out.mono ?_
          rintro e w2 ⟨rfl, hb2⟩
          have HRx := Lib.hid (show Round B (m + 42) w A vv z o l w2 from ⟨HO.out.kept hb2, HON.out, HRu.out.kept hb2, (HLi.out.kept hb2).mono (by omega)⟩)
          go_wp2_with fail
          go_meet
          exact ⟨o, l, rfl, hll, HRx⟩
        | true =>
          have HG := Lib.hid (good_asS true HRu.out.is HO.out.is HF.out hg)
          have HGD := Lib.hid hg
          have HT := Lib.hid (topIn_good hg)
          have HL8 := Lib.hid (good_rules hg)
          clear hg
          go_wp2_with fail
          refine HG.out.mono ?_
          rintro e w2 ⟨rfl, hb2⟩
          have HO2 := Lib.hid (HO.out.kept hb2)
          have HR2 := Lib.hid (HRu.out.kept hb2)
          have HL2 := Lib.hid (HLi.out.kept hb2)
          clear hb2 HG HO HRu HLi
          go_wp2_with fail
          refine (MayBeMovedC.l7May _ _ z l _ HR2.out.is HO2.out.is HT.out HL8.out).mono ?_
          rintro e w3 ⟨vm, rfl, hmo, hb3⟩
          have HO3 := Lib.hid (HO2.out.kept hb3)
          have HR3 := Lib.hid (HR2.out.kept hb3)
          have HL3 := Lib.hid (HL2.out.kept hb3)
          have HM3 := Lib.hid (hmo.low HL2.out.size)
          clear hmo hb3 HO2 HR2 HL2
          by_cases hz0 : (may z l).length = 0
          · have hem := List.eq_nil_of_length_eq_zero hz0
            have hvm : ∃ a c, vm = .slice a 0 c := by
              rcases HM3.out.shape with ⟨rfl, _⟩ | ⟨g, c, rfl, _⟩
              · exact ⟨_, _, rfl⟩
              · rw [hz0]; exact ⟨_, _, rfl⟩
            obtain ⟨am, cm, rfl⟩ := hvm
            have HRx := Lib.hid (show Round B (m + 42) w A vv z o l w3 from ⟨HO3.out, HON.out, HR3.out, HL3.out.mono (by omega)⟩)
            clear hem hz0 HM3 HO3 HR3 HL3
            go_wp2_with fail
            go_meet
            exact ⟨o, l, rfl, hll, HRx⟩
          · obtain ⟨gm, cm, rfl, hmc, hmm⟩ := iown_some HM3.out (by omega)
            have HME := Lib.hid (fun j (hj : j < (may z l).length) => mget (zs := may z l) rfl j hj)
            have hml : (may z l).length ≤ 8 := Nat.le_trans may_len HL8.out
            have HMM := Lib.hid (show ∀ x, x ∈ may z l → x ∈ may z l from fun x h => h)
            obtain ⟨zs, hzs⟩ : ∃ zs, zs = may z l := ⟨_, rfl⟩
            obtain ⟨lm, hlm⟩ : ∃ n, n = zs.length := ⟨_, rfl⟩
            have HZL := Lib.hid hlm.symm
            have HZS := Lib.hid hzs
            rw [← hzs] at HME hml hz0 hmc HM3 ⊢
            rw [← hlm] at HME hml hz0 hmc HM3 ⊢
            have HMA := Lib.hid (show ∀ j, j < lm → zs.getD j 0 ∈ may z l from fun j hj => by rw [← HZS.out]; exact HME.out j hj)
            unfold maxLen at hmm
            have l1 : ((lm : Int) == 0) = false := by rw [beq_eq_false_iff_ne]; omega
            have l2 : decide (lm = 0) = false := by simpa using hz0
            have l3 : 1 ≤ (lm : Int) := by omega
            have hlm1 : 1 ≤ lm := by omega
            clear hlm hzs hz0 HME HMM
            go_wp2_with fail
            go_upto_region 7 with fail
            go_cut [5] (fun u wx => ∃ (o3 : Value) (l3 : List Q), o3 = u ∧ l3.length = l.length + 1 ∧ Hid (goodQ z l3 = true) ∧ Hid (Round B (m + 40 - 6 * (q + 1) + 4) w A vv z o3 l3 wx))
            case first =>
              have hbd := (Below.refl w3.heap.size w3).drew
              have hO := HO3.out.kept hbd
              have hM := HM3.out.kept hbd
              have hR := HR3.out.kept hbd
              have hL := HL3.out.kept hbd
              have hcl := mcells hM HZL.out
              clear hbd HO3 HM3 HR3 HL3
              go_region_with (first | (go_at_call 100; refine (pick B _ _ _ hL.cur (by omega) (by omega) (by omega)).mono ?_; rintro e wN ⟨r, rfl, r0, r1, hc2, hg2⟩; obtain ⟨kk, rfl⟩ := Int.eq_ofNat_of_zero_le r0; replace hO := own_grown hO hg2 hL.low; replace hM := own_grown hM hg2 hL.low; replace hR := own_grown hR hg2 hA; replace hcl := mcells hM HZL.out; replace hL := hL.draw hc2 hg2; clear hc2 hg2; (try have hk : kk < lm := by omega); (try have hk1 : (kk : Int) < (lm : Int) := by omega); have hw5 : IntKind.i64.wrap (1 + (kk : Int)) = 1 + (kk : Int) := IntWalk.i64_in _ (by omega)) | (go_at_call 31; refine (MoveQuestionC.spec _ z _ l _ _ _ (hR.isS HVN.out) HF.out (by omega) (hO.isS HON.out) (qfine l) (by omega)).mono ?_; rintro e wM ⟨v3, r0, r1, rfl, hans, hown, hbm⟩; have hok := move_ok HGD.out (HMA.out _ (by assumption)) (by omega) (by omega) hans; replace hown := hown.low hL.size; replace hR := hR.kept hbm; replace hL := hL.kept hbm; clear hans hbm))
              all_goals
                have HRx := Lib.hid (show Round B (m + 40 - 6 * (q + 1) + 4) w A vv z v3 r0 wM from ⟨hown, qown_some hown (by omega), hR, hL.mono (by omega)⟩)
                have HGx := Lib.hid hok.2
                have hlx := hok.1
                clear hok hown hR hL hcl hM hO
                go_wp2_with fail
                all_goals
                  go_meet
                  exact ⟨v3, r0, rfl, hlx, HGx, HRx⟩
            case rest =>
              obtain ⟨o3, l3, rfl, hl3, HG3, HRD3⟩ := hcut
              obtain ⟨hO, hon, hR, hL⟩ := HRD3.out
              have hl6 := good_len HG3.out
              have HON3 := Lib.hid hon
              have HO4 := Lib.hid hO
              have HR4 := Lib.hid hR
              have HL4 := Lib.hid hL
              clear HRD3 hO hon hR hL HO3 HM3 HR3 HL3
              go_wp2_with fail
              refine (SecondQuestionC.spec vv z o3 l3 6 _ (HR4.out.isS HVN.out) HF.out (by omega) (HO4.out.isS HON3.out) (qfine l3) (by omega)).mono ?_
              rintro e w5 ⟨v4, s0, s1, rfl, hans, hown, hb5⟩
              have HO5 := Lib.hid (HO4.out.kept hb5)
              have HS5 := Lib.hid (hown.low HL4.out.size)
              have HR5 := Lib.hid (HR4.out.kept hb5)
              have HL5 := Lib.hid (HL4.out.kept hb5)
              have HAn := Lib.hid hans
              clear hans hown hb5 HO4 HR4 HL4
              cases s1 with
              | false =>
                go_wp2_with fail
                go_roundw
                case rel => exact ⟨q, o3, l3, rfl, by go_num, by omega, by omega, Lib.hid ⟨HO5.out, HON3.out, HR5.out, HL5.out.mono (by omega)⟩⟩
                case measure => simp [intOf]
              | true =>
                have hs0 := second_ok HAn.out
                have HNS := Lib.hid (qown_some HS5.out (by omega))
                go_wp2_with fail
                refine (one B _ 4 _ HL5.out.cur (by omega) (by omega) (by omega)).mono ?_
                rintro e w6 ⟨b, rfl, hc6, hg6⟩
                have HO6 := Lib.hid (own_grown HO5.out hg6 HL5.out.low)
                have HS6 := Lib.hid (own_grown HS5.out hg6 HL5.out.low)
                have HR6 := Lib.hid (own_grown HR5.out hg6 hA)
                have HL6 := Lib.hid (HL5.out.draw hc6 hg6)
                clear hc6 hg6 HO5 HS5 HR5 HL5
                cases b with
                | true =>
                  go_wp2_with fail
                  go_roundw
                  case rel => exact ⟨q, o3, l3, rfl, by go_num, by omega, by omega, Lib.hid ⟨HO6.out, HON3.out, HR6.out, HL6.out.mono (by omega)⟩⟩
                  case measure => simp [intOf]
                | false =>
                  go_wp2_with fail
                  go_roundw
                  case rel => exact ⟨q, v4, s0, rfl, by go_num, by omega, by omega, Lib.hid ⟨HS6.out, HNS.out, HR6.out, HL6.out.mono (by omega)⟩⟩
                  case measure => simp [intOf]
      · obtain rfl : q = 0 := by omega
        have HRx := Lib.hid (show Round B (m + 42) w A vv z o l wr from ⟨HRD.out.1, HRD.out.2.1, HRD.out.2.2.1, HRD.out.2.2.2.mono (by omega)⟩)
        go_wp2_with fail
        go_meet
        exact ⟨o, l, rfl, hll, HRx⟩
  case rest =>
    obtain ⟨o, l, rfl, hll, HRD1⟩ := hcut
    obtain ⟨hO, hon, hR, hL⟩ := HRD1.out
    have HON := Lib.hid hon
    have HO := Lib.hid hO
    have HRu := Lib.hid hR
    have HLi := Lib.hid hL
    clear HRD1 HRD hO hon hR hL q0 q1
    go_wp2_with fail
    refine (pick B _ 24 _ HLi.out.cur (by omega) (by omega) (by omega)).mono ?_
    rintro e w2 ⟨s, rfl, s0, s1, hc2, hg2⟩
    have HO2 := Lib.hid (own_grown HO.out hg2 HLi.out.low)
    have HR2 := Lib.hid (own_grown HRu.out hg2 hA)
    have HL2 := Lib.hid (HLi.out.draw hc2 hg2)
    clear hc2 hg2 HO HRu HLi s0 s1
    cases e1 : (s == 0) with
    | true =>
      go_wp2_with fail
      refine (ruleOf B _ A vv z _ HL2.out.cur (by omega) HR2.out hA hzl).mono ?_
      rintro e w3 ⟨x1, rfl, hc3, hg3⟩
      have HO3 := Lib.hid (own_grown HO2.out hg3 HL2.out.low)
      have HL3 := Lib.hid (HL2.out.draw hc3 hg3)
      clear hc3 hg3 HO2 HL2 HR2
      go_wp2_with fail
      refine (member B _ _ HL3.out.cur (by omega)).mono ?_
      rintro e w4 ⟨x2, rfl, hc4, hg4⟩
      have HO4 := Lib.hid (own_grown HO3.out hg4 HL3.out.low)
      have HL4 := Lib.hid (HL3.out.draw hc4 hg4)
      clear hc4 hg4 HO3 HL3
      go_wp2_with fail
      refine (one B _ 2 _ HL4.out.cur (by omega) (by omega) (by omega)).mono ?_
      rintro e w5 ⟨x3, rfl, hc5, hg5⟩
      have HO5 := Lib.hid (own_grown HO4.out hg5 HL4.out.low)
      have HL5 := Lib.hid (HL4.out.draw hc5 hg5)
      have hz5 := HL5.out.size
      clear hc5 hg5 HO4 HL4
      go_wp2_with (at_builtin; refine wpList_append_own _ rfl (.tmp 61) (.tmp 70) 29 rfl w.heap.size 47 i0 (.agg #[.int .i64 0, .int .i64 0, .bool false]) 3 24 Try.underlying29 HI0.out HZ0.out.1 HZ0.out.2.1 HZ0.out.2.2 rfl (by decide) _ _ _ rfl (HO5.out.alloc _) ⟨_, 0, none⟩ 1 1 [.int .i64 x1, .int .i64 x2, .bool x3] rfl rfl ?c1 ?c2 ?c3 ?c4 ?c5 ?c6)
      case c1 => first | exact World.news_of_block (heap_alloc_new _ _) | exact World.news_of_block (alloc_two _ _ _)
      case c2 => intro u hu; simp only [List.mem_cons, List.not_mem_nil, or_false] at hu; rcases hu with rfl | rfl | rfl <;> rfl
      case c3 => unfold maxLen; omega
      case c4 => omega
      case c5 => first | (simp; done) | (simp; omega) | omega
      case c6 =>
        intro v' w6 hown' hgrow _
        have HO6 := Lib.hid (show Own LQuestion.rec 47 w6 w.heap.size v' (l ++ [⟨x1, x2, x3⟩]) from own_of LQuestion.rec hown' (by simp) (by rw [flat_append]; rfl))
        have HL6 := Lib.hid ((HL5.out.alloc (Obj.cells #[.int .i64 x1, .int .i64 x2, .bool x3] 47)).own hgrow (fun k hk => (HO5.out.lt k hk).1))
        clear hown' hgrow
        go_wp2_with fail
        go_ret
        exact ⟨v', l ++ [⟨x1, x2, x3⟩], rfl, HO6.out, qown_some HO6.out (by simp), by simp; omega, HL6.out.cur.mono (by omega), HL6.out.grown⟩
    | false =>
      cases e2 : (s == 1) with
      | true =>
        have HO5 := HO2
        have HL5 := HL2
        have hz5 := HL5.out.size
        clear HO2 HL2 HR2
        generalize w2 = w5 at *
        go_wp2_with (at_builtin; refine wpList_append_own _ rfl (.tmp 74) (.tmp 76) 29 rfl w.heap.size 47 i0 (.agg #[.int .i64 0, .int .i64 0, .bool false]) 3 24 Try.underlying29 HI0.out HZ0.out.1 HZ0.out.2.1 HZ0.out.2.2 rfl (by decide) _ _ _ rfl (HO5.out.alloc _) ⟨_, 0, none⟩ 1 1 [.int .i64 20, .int .i64 1, .bool false] rfl rfl ?c1 ?c2 ?c3 ?c4 ?c5 ?c6)
        case c1 => first | exact World.news_of_block (heap_alloc_new _ _) | exact World.news_of_block (alloc_two _ _ _)
        case c2 => intro u hu; simp only [List.mem_cons, List.not_mem_nil, or_false] at hu; rcases hu with rfl | rfl | rfl <;> rfl
        case c3 => unfold maxLen; omega
        case c4 => omega
        case c5 => first | (simp; done) | (simp; omega) | omega
        case c6 =>
          intro v' w6 hown' hgrow _
          have HO6 := Lib.hid (show Own LQuestion.rec 47 w6 w.heap.size v' (l ++ [⟨20, 1, false⟩]) from own_of LQuestion.rec hown' (by simp) (by rw [flat_append]; rfl))
          have HL6 := Lib.hid ((HL5.out.alloc (Obj.cells #[.int .i64 20, .int .i64 1, .bool false] 47)).own hgrow (fun k hk => (HO5.out.lt k hk).1))
          clear hown' hgrow
          go_wp2_with fail
          go_ret
          exact ⟨v', l ++ [⟨20, 1, false⟩], rfl, HO6.out, qown_some HO6.out (by simp), by simp; omega, HL6.out.cur.mono (by omega), HL6.out.grown⟩
      | false =>
        go_wp2_with fail
        go_ret
        exact ⟨_, l, rfl, HO2.out, HON.out, by omega, HL2.out.cur.mono (by omega), HL2.out.grown⟩
end Go.Proofs.Ytbaflfbidgolfaa.Draw
