/- ApplyTogether: what it answers, on both sides. No condition. -/
import Derived.Test.YtclpdpfnlmfogaaDoorConflictPairsC
import Derived.Test.YtclpdpfnlmfogaaDoorCfY
import Derived.Test.YtclpdpfnlmfogaaDoorCfZ
import Derived.Test.YtclpdpfnlmfogaaDoorCfW
import Derived.Test.YtclpdpfnlmfogaaDoorAmP
import Derived.Test.YtclpdpfnlmfogaaDoorLStringKclone
import Derived.Test.YtclpdpfnlmfogaaDoorJ1
namespace Go.Proofs.YtclpdpfnlmfogaaDoor.ApplyTogetherC
open Go.RowKit Bs Word Am AmA AmG AmF Cf CfG CfD CfM CfH CfT CfQ CfY CfZ CfX2 CfW Srt
set_option linter.unusedVariables false
def okB (z0 : T) (z1 : List P) : Bool := propsB z0 z1 && (freeL z1 && textB (together z0 z1))
def Ans (z0 : T) (z1 : List P) (r0 : T) (r1 : Bool) : Prop := (r0, r1) = if okB z0 z1 = true then (together z0 z1, true) else ([], false)
theorem same {z0 : T} {z1 : List P} {r0 s0 : T} {r1 s1 : Bool} (h1 : Ans z0 z1 r0 r1) (h2 : Ans z0 z1 s0 s1) : r0 = s0 ∧ r1 = s1 := by
  have h := (show (r0, r1) = _ from h1).trans (show (s0, s1) = _ from h2).symm
  exact ⟨congrArg Prod.fst h, congrArg Prod.snd h⟩
theorem yes {z0 : T} {z1 : List P} (h1 : propsB z0 z1 = true) (h2 : freeL z1 = true) (h3 : textB (together z0 z1) = true) : Ans z0 z1 (together z0 z1) true := by unfold Ans okB; rw [h1, h2, h3]; rfl
theorem no1 {z0 : T} {z1 : List P} (h : propsB z0 z1 = false) : Ans z0 z1 [] false := by unfold Ans okB; rw [h]; rfl
theorem no2 {z0 : T} {z1 : List P} (h : freeL z1 = false) : Ans z0 z1 [] false := by unfold Ans okB; rw [h, Bool.false_and, Bool.and_false]; rfl
theorem no3 {z0 : T} {z1 : List P} (h : textB (together z0 z1) = false) : Ans z0 z1 [] false := by unfold Ans okB; rw [h, Bool.and_false, Bool.and_false]; rfl
theorem len0 {z0 : T} {z1 : List P} {r0 : T} {r1 : Bool} (h : Ans z0 z1 r0 r1) : r0.length ≤ 1048576 := by
  replace h := (show (r0, r1) = _ from h)
  split at h
  · rename_i hc
    have := congrArg Prod.fst h
    simp only at this
    subst this
    unfold okB at hc
    rw [Bool.and_eq_true, Bool.and_eq_true] at hc
    have := words_len hc.2.2
    omega
  · have := congrArg Prod.fst h; simp only at this; subst this; simp
def Post (z0 : T) (z1 : List P) (w : World) (e : Ending) (w' : World) : Prop := ∃ v0 r0 r1, e = .returned (.tuple #[v0, .bool r1]) ∧ Ans z0 z1 r0 r1 ∧ Own LString.rec 9 w' w.heap.size v0 r0 ∧ Below w.heap.size w w'
theorem cp_no {z0 : T} {z1 : List P} {r0 : List LIntA2.R} {r1 : Bool} (h : ConflictPairsC.Ans z0 z1 r0 r1) (hp : propsB z0 z1 = false) : r0 = [] ∧ r1 = false := ConflictPairsC.same h (ConflictPairsC.no hp)
theorem cp_yes {z0 : T} {z1 : List P} {r0 : List LIntA2.R} {r1 : Bool} (h : ConflictPairsC.Ans z0 z1 r0 r1) (hp : propsB z0 z1 = true) : r0 = pairs z1 ∧ r1 = true := ConflictPairsC.same h (ConflictPairsC.yes hp)
set_option maxRecDepth 100000 in
set_option maxHeartbeats 3200000 in
theorem spec (v0 : Value) (z0 : T) (v1 : Value) (z1 : List P) (W : World) (h0 : IsS LString.rec W v0 z0) (f0 : ∀ x ∈ z0, LString.Fine x) (l0 : z0.length ≤ 1048576) (h1 : LProposalS.IsS W v1 z1) (f1 : ∀ x ∈ z1, LProposalS.Fine x) (l1 : z1.length ≤ 1048576) :
    Calls Tryd.prog 18 #[v0, v1] W (Post z0 z1 W) := by
  have HQ := Lib.hid (Bs.NIsS.isQ h1)
  have HC1 := Lib.hid (CfG.l10Good v0 v1 z0 z1 W (.inr h0) (Bs.NIsS.is h1) f0 f1 l0)
  have HC2 := Lib.hid (fun W' (hW : Below W.heap.size W W') (hp : propsB z0 z1 = true) => CfW.l10Free v1 z1 W' (Bs.NIs.below (Bs.NIsS.is h1) hW) (props_good hp) (by have := (props_parts hp).2.1; omega))
  have HC3 := Lib.hid (fun W' (hW : Below W.heap.size W W') (hp : propsB z0 z1 = true) => CfY.l10Together v0 v1 z0 z1 W' (IsS.below _ h0 hW) (Bs.NIsQ.below HQ.out hW) (words_len (props_parts hp).1) (props_parts hp).2.1 (facts hp))
  have HFF := Lib.hid (fun (hp : propsB z0 z1 = true) (hf : freeL z1 = true) => show ∀ x ∈ together z0 z1, LString.Fine x from by rw [← (srt_facts hp hf).2.2]; exact fin_fine (fun x hx => srt_mem hx) f0 f1)
  clear h0 f0 l0 h1 f1 l1
  cases gp : propsB z0 z1 with
  | false =>
    rw [gp] at HC1
    have HA := Lib.hid (no1 gp)
    clear gp
    go_enter Tryd.func18, Tryd.ntmps18
    go_wp2_with fail
    refine HC1.out.mono ?_
    rintro e w1 ⟨rfl, hb1⟩
    go_wp2_with fail
    go_ret2
    exact ⟨_, [], false, rfl, HA.out, own_start hb1.size, hb1.alloc hb1.size _⟩
  | true =>
    rw [gp] at HC1
    have HGP := Lib.hid gp
    clear gp
    cases gf : freeL z1 with
    | false =>
      have HA := Lib.hid (no2 (z0 := z0) gf)
      have HGF := Lib.hid gf
      clear gf
      go_enter Tryd.func18, Tryd.ntmps18
      go_wp2_with fail
      refine HC1.out.mono ?_
      rintro e w1 ⟨rfl, hb1⟩
      go_wp2_with fail
      refine (HC2.out _ hb1 HGP.out).mono ?_
      rw [HGF.out]
      rintro e w2 ⟨rfl, hb2⟩
      have hb3 := hb1.trans (hb2.mono hb1.size)
      clear hb1 hb2
      go_wp2_with fail
      go_ret2
      exact ⟨_, [], false, rfl, HA.out, own_start hb3.size, hb3.alloc hb3.size _⟩
    | true =>
      have HGF := Lib.hid gf
      clear gf
      go_enter Tryd.func18, Tryd.ntmps18
      go_wp2_with fail
      refine HC1.out.mono ?_
      rintro e w1 ⟨rfl, hb1⟩
      go_wp2_with fail
      refine (HC2.out _ hb1 HGP.out).mono ?_
      rw [HGF.out]
      rintro e w2 ⟨rfl, hb2⟩
      have hb3 := hb1.trans (hb2.mono hb1.size)
      clear hb1 hb2
      go_wp2_with fail
      refine (HC3.out _ hb3 HGP.out).mono ?_
      rintro e w4 ⟨v4, rfl, ho4, hb4⟩
      have HO4 := Lib.hid (ho4.low hb3.size)
      have hb5 := hb3.trans (hb4.mono hb3.size)
      clear ho4 hb4 hb3
      have HT := Lib.hid (AmA.l9Text v4 _ w4 HO4.out.is (HFF.out HGP.out HGF.out))
      cases gt : textB (together z0 z1) with
      | false =>
        rw [gt] at HT
        have HA := Lib.hid (no3 gt)
        clear gt
        go_wp2_with fail
        refine HT.out.mono ?_
        rintro e _ ⟨rfl, rfl⟩
        go_wp2_with fail
        go_ret2
        exact ⟨_, [], false, rfl, HA.out, own_start hb5.size, hb5.alloc hb5.size _⟩
      | true =>
        rw [gt] at HT
        have HA := Lib.hid (yes HGP.out HGF.out gt)
        clear gt
        go_wp2_with fail
        refine HT.out.mono ?_
        rintro e _ ⟨rfl, rfl⟩
        go_wp2_with fail
        go_ret2
        exact ⟨_, _, true, rfl, HA.out, HO4.out, hb5⟩
set_option maxRecDepth 100000 in
set_option maxHeartbeats 3200000 in
theorem impl (v0 : Value) (z0 : T) (v1 : Value) (z1 : List P) (W : World) (h0 : IsS LString.rec W v0 z0) (f0 : ∀ x ∈ z0, LString.Fine x) (l0 : z0.length ≤ 1048576) (h1 : LProposalS.IsS W v1 z1) (f1 : ∀ x ∈ z1, LProposalS.Fine x) (l1 : z1.length ≤ 1048576) (hT : Laid.T64 W) :
    Calls Tryd.prog 17 #[v0, v1] W (Post z0 z1 W) := by
  have HC := Lib.hid (ConflictPairsC.impl v0 z0 v1 z1 W h0 f0 l0 h1 f1 l1 hT)
  obtain ⟨pr, hpr, hS, hW⟩ := heads h1
  have HPR := Lib.hid hpr
  have HWQ := Lib.hid hW
  have HH := Lib.hid hS
  have HTX := Lib.hid h0
  have HFI := Lib.hid (fun (S : List P) (h : ∀ x ∈ S, x ∈ z1) => fin_fine (t := z0) h f0 f1)
  have HL0 := Lib.hid l0
  obtain ⟨b0, o0, c0, rfl, -, hlc0, hcm0, -⟩ := h0
  obtain ⟨b1, o1, c1, rfl, -, hlc1, hcm1, -⟩ := hS
  unfold maxLen at hcm0 hcm1
  obtain ⟨tn, htn⟩ : ∃ tn, tn = z0.length := ⟨_, rfl⟩
  have HTN := Lib.hid htn.symm
  rw [← htn] at hlc0 HC HTX ⊢
  obtain ⟨n, hn⟩ : ∃ n, n = (pr.map mk).length := ⟨_, rfl⟩
  have HN := Lib.hid (show pr.length = n by rw [hn, List.length_map])
  rw [← hn] at hlc1 HC HH ⊢
  clear hpr hW hn htn h1 f0 f1 l0 l1 hT
  cases gp : propsB z0 z1 with
  | false =>
    have HA := Lib.hid (no1 gp)
    have HGP := Lib.hid gp
    clear gp
    go_enter Tryd.func17, Tryd.ntmps17
    go_wp2_with fail
    refine HC.out.mono ?_
    rintro e w1 ⟨pv, r0, r1, rfl, hans, hop, hb1⟩
    obtain ⟨rfl, rfl⟩ := cp_no hans HGP.out
    clear hop hans
    go_wp2_with fail
    go_ret2
    exact ⟨_, [], false, rfl, HA.out, own_start hb1.size, hb1.alloc hb1.size _⟩
  | true =>
    have HGP := Lib.hid gp
    have HFP := Lib.hid (free_pairs gp)
    have hn8 : n ≤ 8 := by have h1 := (props_parts gp).2.1; rw [HPR.out, List.length_map] at h1; have := HN.out; omega
    have ht20 : tn ≤ 20 := by have h1 := words_len (props_parts gp).1; have := HTN.out; omega
    clear gp
    cases gf : freeL z1 with
    | false =>
      have HA := Lib.hid (no2 (z0 := z0) gf)
      have HGF := Lib.hid gf
      clear gf
      go_enter Tryd.func17, Tryd.ntmps17
      go_wp2_with fail
      refine HC.out.mono ?_
      rintro e w1 ⟨pv, r0, r1, rfl, hans, hop, hb1⟩
      obtain ⟨rfl, rfl⟩ := cp_yes hans HGP.out
      obtain ⟨pa, pn, pc, rfl⟩ := own_slice hop
      have hpl := (isq_len hop.isQ).1
      have k1 : (0 : Int) < (pn : Int) := by
        rcases Nat.eq_zero_or_pos pn with h | h
        · have := HFP.out.1 (hpl.trans h); rw [HGF.out] at this; cases this
        · omega
      clear hop hans hpl
      go_wp2_with fail
      go_ret2
      exact ⟨_, [], false, rfl, HA.out, own_start hb1.size, hb1.alloc hb1.size _⟩
    | true =>
      have HGF := Lib.hid gf
      obtain ⟨hch, hfa, hfin⟩ := srt_facts HGP.out gf
      obtain ⟨sp, hsp⟩ : ∃ sp, sp = srt ltQ pr := ⟨_, rfl⟩
      have hSe : srt ltP z1 = sp.map Prod.fst := by rw [HPR.out, srt_fst, hsp]
      have HFIN := Lib.hid (show fin z0 (sp.map Prod.fst) = together z0 z1 by rw [← hSe]; exact hfin)
      have HFM := Lib.hid (show ∀ x ∈ fin z0 (sp.map Prod.fst), LString.Fine x by rw [← hSe]; exact HFI.out _ (fun x hx => srt_mem hx))
      have HSQ := Lib.hid (show ∀ q ∈ sp, Bs.IsQ LString.rec W (.slice q.2.a q.2.l q.2.c) q.1.words from fun q hq => HWQ.out q (srt_mem (by rw [hsp] at hq; exact hq)))
      have HSL := Lib.hid (show sp.length = n by rw [hsp, srt_len]; exact HN.out)
      have HSM := Lib.hid (show srt LPropHSortTog.lt (pr.map mk) = sp.map mk by rw [srt_mk, hsp])
      rw [hSe] at hch hfa
      have HFT := Lib.hid (fit_next hch hfa)
      have HFA := Lib.hid hfa
      clear gf hch hfa hfin hSe hsp
      go_enter Tryd.func17, Tryd.ntmps17
      go_wp2_with fail
      refine HC.out.mono ?_
      rintro e w1 ⟨pv, r0, r1, rfl, hans, hop, hb1⟩
      obtain ⟨rfl, rfl⟩ := cp_yes hans HGP.out
      obtain ⟨pa, pn, pc, rfl⟩ := own_slice hop
      have hpl := (isq_len hop.isQ).1
      obtain rfl : pn = 0 := hpl.symm.trans (HFP.out.2 HGF.out)
      clear hop hans hpl
      have HC2 := Lib.hid (CfZ.cloneS b1 o1 n c1 (pr.map mk) w1 (IsS.below _ HH.out hb1) hn8)
      go_wp2_with fail
      refine HC2.out.mono ?_
      rintro e w2 ⟨g, cap, rfl, ho2, hb2⟩
      have HO2 := Lib.hid (ho2.low hb1.size)
      have hb3 := hb1.trans (hb2.mono hb1.size)
      clear ho2 hb2 hb1 HC2
      have HC3 := Lib.hid (LPropHSortTog.sorted g cap n (pr.map mk) w2 HO2.out hn8)
      rw [HSM.out] at HC3
      go_wp2_with fail
      refine HC3.out.mono ?_
      rintro e w3 ⟨rfl, ho3, hbx⟩
      have HO3 := Lib.hid ho3
      have hb4 := hb3.trans hbx
      clear ho3 hbx hb3 HO2 HC3
      have HC4 := Lib.hid (LString.clone _ z0 w3 (IsQ.is (.inr (IsS.below _ HTX.out hb4))) HL0.out)
      go_wp2_with fail
      refine HC4.out.mono ?_
      rintro e w4 ⟨v4, rfl, ho4, hb5⟩
      have HO4 := Lib.hid (ho4.low hb4.size)
      have HO5 := Lib.hid (HO3.out.kept hb5)
      have hb6 := hb4.trans (hb5.mono hb4.size)
      clear ho4 hb5 hb4 HO3 HC4
      go_wp2_with fail
      go_loopw [9, 34] (fun so sj wr => ∃ (k : Nat) (o : Value) (zs : T), o = so ∧ sj = .int .i64 k ∧ k ≤ n ∧ Hid (zs = fin z0 ((sp.map Prod.fst).take k)) ∧ Hid (Own LString.rec 9 wr W.heap.size o zs) ∧ Hid (Own LPropH.rec 42 wr W.heap.size (.slice (some ⟨g, 0, none⟩) n cap) (sp.map mk)) ∧ Below W.heap.size W wr) (fun _ sj _ => n - (intOf sj).toNat)
      case atStart => exact ⟨0, _, z0, rfl, rfl, Nat.zero_le _, Lib.hid rfl, HO4, HO5, hb6⟩
      case round =>
        clear HO4 HO5 hb6
        obtain ⟨k, ov, zs, rfl, rfl, hk, HZ, HO, HS, hb⟩ := hrel
        by_cases hlt : k < n
        · have k0 : 0 ≤ (k : Int) := by omega
          have k1 : (k : Int) < (n : Int) := by omega
          have hx : k < sp.length := by have := HSL.out; omega
          have HX := Lib.hid (List.getElem?_eq_getElem hx)
          have HQ := Lib.hid (HSQ.out _ (List.getElem_mem hx))
          generalize sp[k] = q at HX HQ
          obtain ⟨X, x, y, s⟩ := q
          have HXF := Lib.hid (show (sp.map Prod.fst)[k]? = some X by rw [List.getElem?_map, HX.out]; rfl)
          have hcl := LPropH.cells (HS.out.at_ k (mk (X, ⟨x, y, s⟩)) (by rw [List.getElem?_map, HX.out]; rfl))
          simp only [LPropH.rec_n, mk] at hcl
          obtain ⟨q0, q1, q2, q3, q4, q5⟩ := hcl
          obtain ⟨hX0, hX1, hX2, hX3⟩ := HFA.out X (List.mem_of_getElem? HXF.out)
          obtain ⟨wa, hwa⟩ : ∃ wa : World, wa = wr.alloc (Obj.cells #[.int .i64 X.id, .int .i64 X.kind, .int .i64 X.pos, .int .i64 X.count, .slice x y s, .int .i64 X.weight] 42) := ⟨_, rfl⟩
          have hba : Below wr.heap.size wr wa := by rw [hwa]; exact (Below.refl _ _).alloc (Nat.le_refl _) _
          have BX := Lib.hid (show Bx wa wr.heap.size 42 #[.int .i64 X.id, .int .i64 X.kind, .int .i64 X.pos, .int .i64 X.count, .slice x y s, .int .i64 X.weight] by rw [hwa]; exact Bx.new _ _ _)
          have hb2 := hb.trans (hba.mono hb.size)
          obtain ⟨fa, fn, fc, rfl⟩ := own_slice HO.out
          have hfl := (isq_len HO.out.isQ).1
          have hF := HFT.out k
          rw [← HZ.out, hfl] at hF
          have hF1 := hF.1 X HXF.out
          have hF2 := hF.2 (by rw [List.length_map]; omega)
          have hT2 := HTN.out
          have HWL : X.words.length = y := (isq_len HQ.out).1
          have HOk := Lib.hid (HO.out.kept hba)
          have HSk := Lib.hid (HS.out.kept hba)
          have HSP := Lib.hid (AmP.spliced fa x fn fc y s zs X.words X.pos X.count wa HOk.out.isQ (IsQ.below HQ.out hb2) hX0 hX1 hF1 (by omega) (by omega))
          have HZ2 := Lib.hid (show zs.take X.pos.toNat ++ X.words ++ zs.drop (X.pos + X.count).toNat = fin z0 ((sp.map Prod.fst).take (k + 1)) by rw [fin_next HXF.out, ← HZ.out]; rfl)
          clear hF hF1 hF2 hX0 hX1 hX2 hX3 hfl HWL HO HS hb
          go_upto_region 10 with fail
          rw [← hwa]
          clear hwa q0 q1 q2 q3 q4 q5
          have q0 := BX.out.cell 0
          have q1 := BX.out.cell 1
          have q2 := BX.out.cell 2
          have q3 := BX.out.cell 3
          have q4 := BX.out.cell 4
          have q5 := BX.out.cell 5
          simp only [List.getElem?_toArray, List.getElem?_cons_zero, List.getElem?_cons_succ] at q0 q1 q2 q3 q4 q5
          go_wp2_with fail
          refine HSP.out.mono ?_
          rintro e w7 ⟨v7, rfl, ho7, hb7⟩
          have HO7 := Lib.hid (ho7.low hb2.size)
          have HS7 := Lib.hid (HSk.out.kept hb7)
          have hb8 := hb2.trans (hb7.mono hb2.size)
          clear ho7 hb7 hb2 hba q0 q1 q2 q3 q4 q5
          go_wp2_with fail
          go_roundw
          case rel => exact ⟨k + 1, _, _, rfl, by go_num, by omega, HZ2, HO7, HS7, hb8⟩
          case measure => first | (simp [intOf]; done) | (simp [intOf]; omega)
        · obtain rfl : k = n := by omega
          have HZE := Lib.hid (show zs = together z0 z1 by rw [HZ.out, fin_all (by rw [List.length_map]; have := HSL.out; omega)]; exact HFIN.out)
          have HIT := Lib.hid (AmA.isText ov zs wr HO.out.is (by rw [HZE.out, ← HFIN.out]; exact HFM.out))
          have j1 : ¬ (k : Int) < (k : Int) := by omega
          cases gt : textB zs with
          | false =>
            have HA := Lib.hid (no3 (z0 := z0) (z1 := z1) (by rw [← HZE.out]; exact gt))
            rw [gt] at HIT
            clear gt
            go_wp2_with fail
            refine HIT.out.mono ?_
            rintro e _ ⟨rfl, rfl⟩
            go_wp2_with fail
            go_ret2
            exact ⟨_, [], false, rfl, HA.out, own_start hb.size, hb.alloc hb.size _⟩
          | true =>
            have HA := Lib.hid (yes HGP.out HGF.out (by rw [← HZE.out]; exact gt))
            rw [gt] at HIT
            clear gt
            go_wp2_with fail
            refine HIT.out.mono ?_
            rintro e _ ⟨rfl, rfl⟩
            go_wp2_with fail
            go_ret2
            exact ⟨_, _, true, rfl, by rw [HZE.out]; exact HA.out, HO.out, hb⟩
end Go.Proofs.YtclpdpfnlmfogaaDoor.ApplyTogetherC
