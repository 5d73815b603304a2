/- HeaviestSet: what it answers, on both sides. No condition. -/
import Derived.Test.YtclpdpfnlmfogaaDoorCfV
import Derived.Test.YtclpdpfnlmfogaaDoorCfW
import Derived.Lib.RabinKarpLaws
namespace Go.Proofs.YtclpdpfnlmfogaaDoor.HeaviestSetC
open Go.RowKit Bs Word Am AmA AmG AmF Cf CfG CfD CfI CfM CfN CfH CfR CfJ CfV CfW
set_option linter.unusedVariables false
def Ans (z0 : T) (z1 : List P) (r0 : List Int) (r1 : Int) (r2 : Bool) : Prop := (r0, r1, r2) = if propsB z0 z1 = true then ((heavy z1).1, (heavy z1).2, true) else (([] : List Int), (0 : Int), false)
theorem yes {z0 : T} {z1 : List P} {bs : List Int} {mx : Int} (h : propsB z0 z1 = true) (e : (bs, mx) = heavy z1) : Ans z0 z1 bs mx true := by unfold Ans; rw [if_pos h, ← e]
theorem no {z0 : T} {z1 : List P} (h : propsB z0 z1 = false) : Ans z0 z1 [] 0 false := by unfold Ans; rw [h]; rfl
theorem same {z0 : T} {z1 : List P} {r0 s0 : List Int} {r1 s1 : Int} {r2 s2 : Bool} (h1 : Ans z0 z1 r0 r1 r2) (h2 : Ans z0 z1 s0 s1 s2) : r0 = s0 ∧ r1 = s1 ∧ r2 = s2 := by
  have h := (show (r0, r1, r2) = _ from h1).trans (show (s0, s1, s2) = _ from h2).symm
  exact ⟨congrArg Prod.fst h, congrArg (fun x => x.2.1) h, congrArg (fun x => x.2.2) h⟩
theorem len0 {z0 : T} {z1 : List P} {r0 : List Int} {r1 : Int} {r2 : Bool} (h : Ans z0 z1 r0 r1 r2) : r0.length ≤ 1048576 := by
  replace h := (show (r0, r1, r2) = _ from h)
  split at h
  · rename_i hc
    have := congrArg Prod.fst h
    simp only at this
    subst this
    have h1 := up_bound (props_wt hc) (props_parts hc).2.1 (2 ^ z1.length)
    unfold heavy
    omega
  · have := congrArg Prod.fst h; simp only at this; subst this; simp
def Post (z0 : T) (z1 : List P) (w : World) (e : Ending) (w' : World) : Prop := ∃ v0 r0 r1 r2, e = .returned (.tuple #[v0, .int .i64 r1, .bool r2]) ∧ Ans z0 z1 r0 r1 r2 ∧ Own LInt.rec 3 w' w.heap.size v0 r0 ∧ Below w.heap.size w w'
theorem weigh_yes {z : List P} {x A : Nat} {w w' : World} {e : Ending} (h : Weighed z x A w e w') (hk : okJ z x (bitsL x z.length) = true) : ∃ v, e = .returned (.tuple #[v, .int .i64 (wts z (bitsL x z.length)), .bool true]) ∧ Own LInt.rec 3 w' A v (idsOf z (bitsL x z.length)) ∧ Below A w w' := by
  obtain ⟨v, h1, h2, h3⟩ := h
  rw [hk] at h1 h2
  exact ⟨v, h1, h2, h3⟩
theorem weigh_no {z : List P} {x A : Nat} {w w' : World} {e : Ending} (h : Weighed z x A w e w') (hk : okJ z x (bitsL x z.length) = false) : ∃ v, e = .returned (.tuple #[v, .int .i64 0, .bool false]) ∧ Own LInt.rec 3 w' A v [] ∧ Below A w w' := by
  obtain ⟨v, h1, h2, h3⟩ := h
  rw [hk] at h1 h2
  exact ⟨v, h1, h2, h3⟩
theorem is3 {w : World} {g : Nat} {a b c : Int} (h : w.heap[g]? = some (.cells #[.int .i64 a, .int .i64 b, .int .i64 c] 3 (0, 0))) : Is LInt.rec w (.slice (some ⟨g, 0, none⟩) 3 3) [a, b, c] := by
  have hlt := (Array.getElem?_eq_some_iff.1 h).1
  refine ⟨_, 3, rfl, Nat.le_refl _, by unfold maxLen; omega, .inr ⟨g, 0, rfl, hlt, fun j r hr => ?_⟩⟩
  have hj : j < 3 := (List.getElem?_eq_some_iff.1 hr).1
  refine LInt.at_of ?_
  rw [cell_of_row w g (0 + j * LInt.rec.n) _ 3 (0, 0) h]
  match j, hj, hr with
  | 0, _, hr => simp at hr; subst hr; rfl
  | 1, _, hr => simp at hr; subst hr; rfl
  | 2, _, hr => simp at hr; subst hr; rfl
theorem pow_small {n : Nat} (h : n ≤ 8) : 2 ^ n ≤ 256 := Nat.le_trans (Nat.pow_le_pow_right (by decide) h) (Nat.le_refl _)
theorem up_y {z : List P} {k : Nat} {bs ids : List Int} {mx s : Int} (h : (bs, mx) = upS z k) (h1 : okJ z k (bitsL k z.length) = true) (hi : ids = idsOf z (bitsL k z.length)) (hs : s = wts z (bitsL k z.length)) (hb : better ids s bs mx = true) : (ids, s) = upS z (k + 1) := by
  subst hi hs
  rw [up_yes h1 (by rw [← h]; exact hb)]
theorem up_n {z : List P} {k : Nat} {bs ids : List Int} {mx s : Int} (h : (bs, mx) = upS z k) (hi : ids = idsOf z (bitsL k z.length)) (hs : s = wts z (bitsL k z.length)) (hb : better ids s bs mx = false) : (bs, mx) = upS z (k + 1) := by
  subst hi hs
  rw [up_no2 (by rw [← h]; exact hb), h]
theorem better1 {ids bs : List Int} {s m : Int} (h : s < m) : better ids s bs m = false := by unfold better; rw [decide_eq_false (by omega), decide_eq_false (by omega)]; rfl
theorem better2 {ids bs : List Int} {s m : Int} (h : m < s) : better ids s bs m = true := by unfold better; rw [decide_eq_true h]; rfl
theorem better3 {ids bs : List Int} {s : Int} (h : bs.length < ids.length) : better ids s bs s = false := by unfold better; rw [decide_eq_false (by omega), decide_eq_true rfl, decide_eq_false (show ¬ ids.length < bs.length by omega), decide_eq_false (show ¬ ids.length = bs.length by omega)]; rfl
theorem better4 {ids bs : List Int} {s : Int} (h : ids.length < bs.length) : better ids s bs s = true := by unfold better; rw [decide_eq_false (by omega), decide_eq_true rfl, decide_eq_true h]; rfl
theorem better5 {ids bs : List Int} {s : Int} (h : ids.length = bs.length) : better ids s bs s = lessL ids bs := by unfold better; rw [decide_eq_false (by omega), decide_eq_true rfl, decide_eq_false (show ¬ ids.length < bs.length by omega), decide_eq_true h]; rfl
theorem bit_on (k i : Nat) : ((k / 2 ^ i % 2 : Nat) : Int) = 1 ↔ k.testBit i = true := by
  rw [Nat.testBit_eq_decide_div_mod_eq, decide_eq_true_eq]; omega
theorem infoP : (Tryd.prog.info? 42).map (fun i => (i.zero, i.size, i.bytes)) = some (some (.agg #[.int .i64 0, .int .i64 0, .int .i64 0, .int .i64 0, .slice none 0 0, .int .i64 0]), 6, 64) := by kernel_rfl
theorem els_is {w w' : World} {hs : List (Hd 6)} {xs : List P} (h : Els LProposalS.kit (LProposalS.kit.Is w) hs xs) (hb : Below w.heap.size w w') : Els LProposalS.kit (LProposalS.kit.Is w') hs xs := h.imp fun _ _ _ _ _ h => LProposalS.kit.is_same h hb.size hb.block
set_option maxRecDepth 100000 in
set_option maxHeartbeats 6400000 in
theorem spec (v0 : Value) (z0 : T) (v1 : Value) (z1 : List P) (W : World) (h0 : IsS LString.rec W v0 z0) (f0 : ∀ x ∈ z0, LString.Fine x) (l0 : z0.length ≤ 1048576) (h1 : LProposalS.IsS W v1 z1) (f1 : ∀ x ∈ z1, LProposalS.Fine x) (l1 : z1.length ≤ 1048576) :
    Calls Tryd.prog 29 #[v0, v1] W (Post z0 z1 W) := by
  obtain ⟨z, hz⟩ : ∃ z, z = z1 := ⟨_, rfl⟩
  subst hz
  have h1 := Bs.NIsS.is h1
  obtain ⟨i9, hi, hz0, hz1, hz2⟩ := info_parts LInt.infoK
  have HI9 := Lib.hid hi
  have HZ9 := Lib.hid (And.intro hz0 (And.intro hz1 hz2))
  clear hi hz0 hz1 hz2
  obtain ⟨i8, hi, hz0, hz1, hz2⟩ := info_parts infoP
  have HI8 := Lib.hid hi
  have HZ8 := Lib.hid (And.intro hz0 (And.intro hz1 hz2))
  clear hi hz0 hz1 hz2
  have HC := Lib.hid (CfG.l10Good v0 v1 z0 z W (.inr h0) h1 f0 f1 l0)
  have HNO := Lib.hid (no (z0 := z0) (z1 := z))
  have HYES := Lib.hid (fun bs mx => yes (z0 := z0) (z1 := z) (bs := bs) (mx := mx))
  obtain ⟨b0, o0, c0, rfl, -⟩ := h0
  have hc := LProposalS.get h1
  obtain ⟨a, cp, rfl, hnb, h2⟩ := h1.form
  unfold maxLen at h2
  obtain ⟨n, hn⟩ : ∃ n, n = z.length := ⟨_, rfl⟩
  have HN := Lib.hid hn.symm
  have HF := Lib.hid f1
  have HLI := Lib.hid h1
  rw [← hn] at hc hnb HLI HC ⊢
  have hle : n ≤ z.length := by omega
  clear hn h1 f1
  clear f0 l0 l1
  cases gp : propsB z0 z with
  | false =>
    rw [gp] at HC
    have HA := Lib.hid (HNO.out gp)
    clear gp
    go_enter Tryd.func29, Tryd.ntmps29
    go_wp2_with fail
    refine HC.out.mono ?_
    rintro e w1 ⟨rfl, hb1⟩
    have HO1 := Lib.hid (Own.start (T := LInt.rec) (E := 3) (w := w1) hb1.size)
    have hb2 := hb1.alloc hb1.size (Obj.cells #[] 3)
    clear hb1
    go_wp2_with fail
    go_ret3
    exact ⟨_, [], 0, false, rfl, HA.out, HO1.out, hb2⟩
  | true =>
  rw [gp] at HC
  have HA := Lib.hid (fun bs mx => HYES.out bs mx gp)
  have HGA := Lib.hid (props_good gp)
  have HWT := Lib.hid (props_wt gp)
  have hn8 : n ≤ 8 := by have := (props_parts gp).2.1; have := HN.out; omega
  have hK := pow_small hn8
  have hsh : IntKind.i64.wrap (2 ^ n) = ((2 ^ n : Nat) : Int) := by
    have e : ((2 : Int) ^ n) = ((2 ^ n : Nat) : Int) := by simp
    rw [e]
    generalize (2 ^ n : Nat) = K at hK ⊢
    exact IntWalk.i64_in _ (by omega)
  have hcv : IntKind.u64.wrap (n : Int) = (n : Int) := by rw [IntKind.wrap_u64]; omega
  have HKE := Lib.hid (show 2 ^ n = 2 ^ z.length by rw [HN.out])
  clear gp HNO HYES
  generalize (2 ^ n : Nat) = K at *
  go_enter Tryd.func29, Tryd.ntmps29
  go_wp2_with fail
  refine HC.out.mono ?_
  rintro e w1 ⟨rfl, hb1⟩
  obtain ⟨wa, hwa⟩ : ∃ wa : World, wa = w1.alloc (Obj.cells #[] 3) := ⟨_, rfl⟩
  have HO1 := Lib.hid (show Own LInt.rec 3 wa W.heap.size (.slice (some ⟨w1.heap.size, 0, none⟩) 0 0) [] by rw [hwa]; exact Own.start hb1.size)
  have hb3 : Below W.heap.size W wa := by rw [hwa]; exact hb1.alloc hb1.size _
  go_upto_region 4 with fail
  rw [← hwa]
  clear hwa hb1
  generalize w1.heap.size = G1 at *
  go_wp2_with fail
  go_loopw [7, 8, 9] (fun so sm i wr => ∃ (k : Nat) (o : Value) (bs : List Int) (mx : Int), o = so ∧ sm = .int .i64 mx ∧ i = .int .i64 (k : Nat) ∧ k ≤ K ∧ bs.length ≤ 8 ∧ Hid ((bs, mx) = upS z k) ∧ Hid (Own LInt.rec 3 wr W.heap.size o bs) ∧ Below W.heap.size W wr) (fun _ _ i _ => K - (intOf i).toNat)
  case atStart => exact ⟨0, _, [], 0, rfl, rfl, rfl, Nat.zero_le _, by simp, Lib.hid rfl, HO1, hb3⟩
  case round =>
    clear HO1 hb3
    obtain ⟨k, ob, bs, mx, rfl, rfl, rfl, hkK, hbl8, HST, HO, hb⟩ := hrel
    by_cases hlt : k < K
    · have hk1 : (k : Int) < (K : Int) := by omega
      obtain ⟨wa, hwa⟩ : ∃ wa : World, wa = (wr.alloc (Obj.cells #[] 42)).alloc (Obj.cells #[] 3) := ⟨_, rfl⟩
      have hbs := hb.alloc hb.size (Obj.cells #[] 42)
      have HS1 : Bs.Own LProposalS.kit.row 42 (wr.alloc (Obj.cells #[] 42)) W.heap.size (.slice (some ⟨wr.heap.size, 0, none⟩) 0 0) [] := Own.start hb.size
      have HI1 : Own LInt.rec 3 ((wr.alloc (Obj.cells #[] 42)).alloc (Obj.cells #[] 3)) W.heap.size (.slice (some ⟨(wr.alloc (Obj.cells #[] 42)).heap.size, 0, none⟩) 0 0) [] := Own.start hbs.size
      have DIS0 := Lib.hid ((dist_alloc HS1 0 0).symm)
      have DBS0 := Lib.hid (dist_alloc HO.out 0 0)
      have DBI0 := Lib.hid (dist_alloc (HO.out.alloc (Obj.cells #[] 42)) 0 0)
      have HS := Lib.hid (show Bs.Own LProposalS.kit.row 42 wa W.heap.size (.slice (some ⟨wr.heap.size, 0, none⟩) 0 0) [] by rw [hwa]; exact HS1.alloc _)
      have HI := Lib.hid (show Own LInt.rec 3 wa W.heap.size (.slice (some ⟨(wr.alloc (Obj.cells #[] 42)).heap.size, 0, none⟩) 0 0) [] by rw [hwa]; exact HI1)
      have HO2 := Lib.hid (show Own LInt.rec 3 wa W.heap.size ob bs by rw [hwa]; exact (HO.out.alloc _).alloc _)
      have hb2 : Below W.heap.size W wa := by rw [hwa]; exact hbs.alloc hbs.size _
      rw [show (wr.alloc (Obj.cells #[] 42)).heap.size = wr.heap.size + 1 by simp] at HI DIS0 DBI0
      go_upto_region 9 with fail
      rw [← hwa]
      clear hwa hbs HS1 HI1 HO hb
      go_wp2_with fail
      go_loopw [10, 11, 12, 13] (fun ss si sm i wr => ∃ (m : Nat) (os oi : Value) (hs : List (Hd 6)) (ps : List P) (zs : List Int) (sw : Int), os = ss ∧ oi = si ∧ sm = .int .i64 sw ∧ i = .int .i64 m ∧ m ≤ n ∧ 0 ≤ sw ∧ sw ≤ 800 ∧ Hid (sw = wts z (bitsL k m)) ∧ Hid (zs = idsOf z (bitsL k m)) ∧ Hid (ps = pk z (bitsL k m)) ∧ Hid (Els LProposalS.kit (LProposalS.kit.Is W) hs ps) ∧ Hid (Bs.Own LProposalS.kit.row 42 wr W.heap.size os hs) ∧ Hid (Own LInt.rec 3 wr W.heap.size oi zs) ∧ Hid (Own LInt.rec 3 wr W.heap.size ob bs) ∧ Hid (Dist oi os) ∧ Hid (Dist ob os) ∧ Hid (Dist ob oi) ∧ Below W.heap.size W wr) (fun _ _ _ i _ => n - (intOf i).toNat)
      case atStart => exact ⟨0, _, _, [], [], [], 0, rfl, rfl, rfl, rfl, Nat.zero_le _, by omega, by omega, Lib.hid rfl, Lib.hid rfl, Lib.hid rfl, Lib.hid Els.nil, HS, HI, HO2, DIS0, DBS0, DBI0, hb2⟩
      case round =>
        clear HS HI HO2 DIS0 DBS0 DBI0 hb2
        obtain ⟨m, os, oi, hs, ps, zs, sw, rfl, rfl, rfl, rfl, hmn, hs0, hs8, HSW, HZ, HPS, HE, HS, HI, HO, DIS, DBS, DBI, hb⟩ := hrel
        by_cases hlm : m < n
        · have m0 : 0 ≤ (m : Int) := by omega
          have m1 : (m : Int) < (n : Int) := by omega
          have hx : m < z.length := by omega
          obtain ⟨b, o, c, x, y, s, he, hbl, hat, hI⟩ := hc.out m z[m] (List.getElem?_eq_getElem hx)
          simp only [Value.slice.injEq] at he
          obtain ⟨rfl, -, rfl⟩ := he
          have HAT := Lib.hid hat
          have HX := Lib.hid (List.getElem?_eq_getElem hx)
          have HFX := Lib.hid (HF.out _ (List.getElem_mem hx))
          have HGX := Lib.hid (HGA.out _ (List.getElem_mem hx))
          have HQX := Lib.hid hI
          clear hat hI
          generalize z[m] = X at *
          have hcm : IntKind.u64.wrap (m : Int) = (m : Int) := by rw [IntKind.wrap_u64]; omega
          have hfd : Int.fdiv (k : Int) (2 ^ m) = ((k / 2 ^ m : Nat) : Int) := by
            have e : ((2 : Int) ^ m) = ((2 ^ m : Nat) : Int) := by simp
            rw [e]
            exact (Int.fdiv_eq_ediv_of_nonneg _ (by generalize (2 ^ m : Nat) = q; omega)).trans (Int.natCast_ediv _ _).symm
          have hed : (k : Int) / 2 ^ m = ((k / 2 ^ m : Nat) : Int) := by
            have e : ((2 : Int) ^ m) = ((2 ^ m : Nat) : Int) := by simp
            rw [e]
            exact (Int.natCast_ediv _ _).symm
          have hmin : min m 64 = m := by omega
          have hand := and_one (k / 2 ^ m) (Nat.lt_of_le_of_lt (Nat.div_le_self _ _) (by omega))
          have HBO := Lib.hid (bit_on k m)
          have HWB := Lib.hid (wts_bound HWT.out (bitsL k (m + 1)))
          have HBL := Lib.hid (bits_len k (m + 1))
          generalize k / 2 ^ m = Q at *
          cases gt : k.testBit m with
          | false =>
            have e1 : (((Q % 2 : Nat) : Int) == 1) = false := beq_eq_false_iff_ne.2 (fun h => by have := HBO.out.1 h; rw [gt] at this; cases this)
            have HSW2 := Lib.hid (show sw = wts z (bitsL k (m + 1)) by rw [bits_no gt]; exact HSW.out)
            have HZ2 := Lib.hid (show zs = idsOf z (bitsL k (m + 1)) by rw [bits_no gt]; exact HZ.out)
            have HPS2 := Lib.hid (show ps = pk z (bitsL k (m + 1)) by rw [bits_no gt]; exact HPS.out)
            clear gt
            generalize Q % 2 = Q2 at *
            go_wp2_with fail
            go_roundw
            case rel => exact ⟨m + 1, _, _, hs, ps, zs, sw, rfl, rfl, rfl, by go_num, by omega, hs0, hs8, HSW2, HZ2, HPS2, HE, HS, HI, HO, DIS, DBS, DBI, hb⟩
            case measure => simp [intOf]; omega
          | true =>
            have e1 : (((Q % 2 : Nat) : Int) == 1) = true := beq_iff_eq.2 (HBO.out.2 gt)
            have HSW2 := Lib.hid (show sw + X.weight = wts z (bitsL k (m + 1)) by rw [bits_yes gt, wts_snoc HX.out, ← HSW.out])
            have HZ2 := Lib.hid (show zs ++ [X.id] = idsOf z (bitsL k (m + 1)) by rw [bits_yes gt, ids_snoc HX.out, ← HZ.out])
            have HPS2 := Lib.hid (show ps ++ [X] = pk z (bitsL k (m + 1)) by rw [bits_yes gt, pk_snoc HX.out, ← HPS.out])
            have HE2 := Lib.hid (show Els LProposalS.kit (LProposalS.kit.Is W) (hs ++ [LProposalS.hd X x y s]) (ps ++ [X]) from HE.out.snoc HQX.out)
            have hsw1 : 0 ≤ sw + X.weight := by rw [HSW2.out]; exact HWB.out.1
            have hsw2 : sw + X.weight ≤ 800 := by rw [HSW2.out]; have h1 := HWB.out.2; have h2 := HBL.out; omega
            have s3 : IntKind.i64.wrap (sw + X.weight) = sw + X.weight := IntWalk.i64_in _ (by omega)
            have HZL := Lib.hid (show zs.length ≤ 8 by have h := congrArg List.length HZ.out; rw [ids_len] at h; have := bits_len k m; omega)
            have HHL := Lib.hid (show hs.length ≤ 8 by have h := HE.out.1; have h2 := congrArg List.length HPS.out; have := pk_len z (bitsL k m); have := bits_len k m; omega)
            have DSI := Lib.hid DIS.out.symm
            obtain ⟨p0, p1, p2, p3, p4, p5⟩ := LProposalS.cells_hd (HAT.out.below LProposalS.kit.row hb hbl)
            clear gt
            generalize Q % 2 = Q2 at *
            have hbc : Below wr.heap.size wr (wr.alloc (Obj.cells #[.int .i64 X.id, .int .i64 X.kind, .int .i64 X.pos, .int .i64 X.count, .slice x y s, .int .i64 X.weight] 42)) := (Below.refl _ _).alloc (Nat.le_refl _) _
            have HSc := Lib.hid (HS.out.kept hbc)
            have HIc := Lib.hid (HI.out.kept hbc)
            have HOc := Lib.hid (HO.out.kept hbc)
            have hbC := hb.trans (hbc.mono hb.size)
            clear hbc
            go_wp2_with (at_builtin; refine wpList_append_o (T := LProposalS.kit.row) _ rfl (.tmp 42) (.tmp 47) 34 rfl W.heap.size 42 i8 (.agg #[.int .i64 0, .int .i64 0, .int .i64 0, .int .i64 0, .slice none 0 0, .int .i64 0]) 64 Tryd.underlying34 HI8.out HZ8.out.1 HZ8.out.2.1 HZ8.out.2.2 rfl _ _ rfl HSc.out (some ⟨wr.heap.size, 0, none⟩) 1 1 [LProposalS.hd X x y s] rfl rfl (src_one (T := LProposalS.kit.row) (heap_alloc_new wr _)) (by have := HHL.out; unfold maxLen; omega) (by have := HHL.out; omega) hbC.size ?_)
            intro v6 w6 hown hgrow hnn hat
            have hgr : (wr.alloc (Obj.cells #[.int .i64 X.id, .int .i64 X.kind, .int .i64 X.pos, .int .i64 X.count, .slice x y s, .int .i64 X.weight] 42)).grownBy w6 (os).ownBlock := hgrow
            have hat2 : v6.ownBlock = (os).ownBlock ∨ v6.ownBlock = some (wr.alloc (Obj.cells #[.int .i64 X.id, .int .i64 X.kind, .int .i64 X.pos, .int .i64 X.count, .slice x y s, .int .i64 X.weight] 42)).heap.size := by
              rcases hat with h9 | h9
              · exact .inl h9
              · exact .inr (by first | (rw [h9]; done) | (rw [h9]; simp))
            have hb6 := below_grown hbC hgr hbC.size (fun j hj => (HSc.out.lt j hj).1)
            have HS6 := Lib.hid hown
            have HI6 := Lib.hid (own_besides HIc.out hgr DIS.out)
            have DIS6 := Lib.hid (dist_grow HIc.out DIS.out hat2)
            have HO6 := Lib.hid (own_besides HOc.out hgr DBS.out)
            have DBS6 := Lib.hid (dist_grow HOc.out DBS.out hat2)
            have HNN6 := Lib.hid hnn
            have HATT6 := Lib.hid hat2
            clear hown hgrow hnn hat hat2 hgr hbC HSc HIc HOc
            have p0 := (LProposalS.cells_hd (HAT.out.below LProposalS.kit.row hb6 hbl)).1
            have DSI6 := Lib.hid DIS6.out.symm
            have DBI6 := DBI
            have hbc : Below w6.heap.size w6 (w6.alloc (Obj.cells #[.int .i64 X.id] 3)) := (Below.refl _ _).alloc (Nat.le_refl _) _
            have HI6c := Lib.hid (HI6.out.kept hbc)
            have HS6c := Lib.hid (HS6.out.kept hbc)
            have HO6c := Lib.hid (HO6.out.kept hbc)
            have hbC := hb6.trans (hbc.mono hb6.size)
            clear hbc
            go_wp2_with (at_builtin; refine wpList_append_o (T := LInt.rec) _ rfl (.tmp 49) (.tmp 55) 48 rfl W.heap.size 3 i9 (.int .i64 0) 8 Tryd.underlying48 HI9.out HZ9.out.1 HZ9.out.2.1 HZ9.out.2.2 rfl _ _ rfl HI6c.out (some ⟨w6.heap.size, 0, none⟩) 1 1 [X.id] rfl rfl (src_one (T := LInt.rec) (heap_alloc_new w6 _)) (by have := HZL.out; unfold maxLen; omega) (by have := HZL.out; omega) hbC.size ?_)
            intro v7 w7 hown hgrow hnn hat
            have hgr : (w6.alloc (Obj.cells #[.int .i64 X.id] 3)).grownBy w7 (oi).ownBlock := hgrow
            have hat2 : v7.ownBlock = (oi).ownBlock ∨ v7.ownBlock = some (w6.alloc (Obj.cells #[.int .i64 X.id] 3)).heap.size := by
              rcases hat with h9 | h9
              · exact .inl h9
              · exact .inr (by first | (rw [h9]; done) | (rw [h9]; simp))
            have hb7 := below_grown hbC hgr hbC.size (fun j hj => (HI6c.out.lt j hj).1)
            have HI67 := Lib.hid hown
            have HS67 := Lib.hid (own_besides HS6c.out hgr DSI6.out)
            have DSI67 := Lib.hid (dist_grow HS6c.out DSI6.out hat2)
            have HO67 := Lib.hid (own_besides HO6c.out hgr DBI6.out)
            have DBI67 := Lib.hid (dist_grow HO6c.out DBI6.out hat2)
            have HNN7 := Lib.hid hnn
            have HATT7 := Lib.hid hat2
            clear hown hgrow hnn hat hat2 hgr hbC HI6c HS6c HO6c
            have p5 := (LProposalS.cells_hd (HAT.out.below LProposalS.kit.row hb7 hbl)).2.2.2.2.2
            clear p0
            go_wp2_with fail
            go_roundw
            case rel => exact ⟨m + 1, _, _, _, _, _, sw + X.weight, rfl, rfl, rfl, by go_num, by omega, hsw1, hsw2, HSW2, HZ2, HPS2, HE2, HS67, HI67, HO67, Lib.hid DSI67.out.symm, DBS6, DBI67, hb7⟩
            case measure => simp [intOf]; omega
        · obtain rfl : m = n := by omega
          have HPF := Lib.hid (show freeL ps = okJ z k (bitsL k z.length) by rw [HPS.out, ← HN.out]; exact free_pick HGA.out (by rw [← HKE.out]; exact hlt))
          have HFC := Lib.hid (fun bv (hv : freeL ps = bv) => (show Calls Tryd.prog 71 #[os] wr (fun e w' => e = .returned (.bool bv) ∧ Below wr.heap.size wr w') from by rw [← hv]; exact l10Free os ps wr ⟨hs, HS.out.is, els_is HE.out hb⟩ (fun x hx => HGA.out x (by have h := HPS.out; rw [h] at hx; exact pk_mem hx)) (by have h := congrArg List.length HPS.out; have := pk_len z (bitsL k m); have := bits_len k m; omega)))
          have hks : IntKind.i64.wrap ((k : Int) + 1) = ((k + 1 : Nat) : Int) := by rw [IntWalk.i64_in _ (by omega)]; omega
          cases gf : freeL ps with
          | false =>
            have HST2 := Lib.hid (show (bs, mx) = upS z (k + 1) by rw [up_no1 (by rw [← HPF.out]; exact gf)]; exact HST.out)
            have HF := Lib.hid (HFC.out false gf)
            clear gf
            go_wp2_with fail
            refine HF.out.mono ?_
            rintro e w8 ⟨rfl, hb8⟩
            have HO8 := Lib.hid (HO.out.kept hb8)
            have hb9 := hb.trans (hb8.mono hb.size)
            clear hb8
            go_wp2_with fail
            go_roundw
            case rel => exact ⟨k + 1, _, bs, mx, rfl, rfl, by go_num, by omega, hbl8, HST2, HO8, hb9⟩
            case measure => simp [intOf]; omega
          | true =>
          have HF := Lib.hid (HFC.out true gf)
          have HUY := Lib.hid (fun hb => up_y HST.out (by rw [← HPF.out]; exact gf) (show zs = idsOf z (bitsL k z.length) by rw [HN.out]; exact HZ.out) (show sw = wts z (bitsL k z.length) by rw [HN.out]; exact HSW.out) hb)
          have HUN := Lib.hid (fun hb => up_n HST.out (show zs = idsOf z (bitsL k z.length) by rw [HN.out]; exact HZ.out) (show sw = wts z (bitsL k z.length) by rw [HN.out]; exact HSW.out) hb)
          have HZL := Lib.hid (show zs.length ≤ 8 by have h := congrArg List.length HZ.out; rw [ids_len] at h; have := bits_len k m; omega)
          obtain ⟨a7, n7, c7, rfl⟩ := own_slice HO.out
          obtain ⟨a11, n11, c11, rfl⟩ := own_slice HI.out
          have HN7 := Lib.hid (isq_len HO.out.isQ).1
          have h7c := (isq_len HO.out.isQ).2.1
          have h7m := (isq_len HO.out.isQ).2.2
          have HN11 := Lib.hid (isq_len HI.out.isQ).1
          have h11c := (isq_len HI.out.isQ).2.1
          have h11m := (isq_len HI.out.isQ).2.2
          unfold maxLen at h7m h11m
          have g7 : n7 ≤ 8 := by have := HN7.out; omega
          have g11 : n11 ≤ 8 := by have := HN11.out; have := HZL.out; omega
          clear gf
          by_cases c1 : sw < mx
          · have HST2 := Lib.hid (HUN.out (better1 c1))
            go_wp2_with fail
            refine HF.out.mono ?_
            rintro e w8 ⟨rfl, hb8⟩
            have HO8 := Lib.hid (HO.out.kept hb8)
            have hb9 := hb.trans (hb8.mono hb.size)
            clear hb8
            go_wp2_with fail
            go_roundw
            case rel => exact ⟨k + 1, _, bs, mx, rfl, rfl, by go_num, by omega, hbl8, HST2, HO8, hb9⟩
            case measure => simp [intOf]; omega
          by_cases c2 : mx < sw
          · have HST2 := Lib.hid (HUY.out (better2 c2))
            have e2 : (sw == mx) = false := beq_eq_false_iff_ne.2 (by omega)
            go_wp2_with fail
            refine HF.out.mono ?_
            rintro e w8 ⟨rfl, hb8⟩
            have HI8' := Lib.hid (HI.out.kept hb8)
            have hb9 := hb.trans (hb8.mono hb.size)
            clear hb8
            go_wp2_with fail
            go_roundw
            case rel => exact ⟨k + 1, _, zs, sw, rfl, rfl, by go_num, by omega, HZL.out, HST2, HI8', hb9⟩
            case measure => simp [intOf]; omega
          obtain rfl : sw = mx := by omega
          have e2 : (sw == sw) = true := by simp
          by_cases c3 : n7 < n11
          · have HST2 := Lib.hid (HUN.out (better3 (by have := HN7.out; have := HN11.out; omega)))
            have c3' : (n7 : Int) < (n11 : Int) := by omega
            go_wp2_with fail
            refine HF.out.mono ?_
            rintro e w8 ⟨rfl, hb8⟩
            have HO8 := Lib.hid (HO.out.kept hb8)
            have hb9 := hb.trans (hb8.mono hb.size)
            clear hb8
            go_wp2_with fail
            go_roundw
            case rel => exact ⟨k + 1, _, bs, sw, rfl, rfl, by go_num, by omega, hbl8, HST2, HO8, hb9⟩
            case measure => simp [intOf]; omega
          have c3' : ¬ (n7 : Int) < (n11 : Int) := by omega
          by_cases c4 : n11 < n7
          · have HST2 := Lib.hid (HUY.out (better4 (by have := HN7.out; have := HN11.out; omega)))
            have c4' : (n11 : Int) < (n7 : Int) := by omega
            go_wp2_with fail
            refine HF.out.mono ?_
            rintro e w8 ⟨rfl, hb8⟩
            have HI8' := Lib.hid (HI.out.kept hb8)
            have hb9 := hb.trans (hb8.mono hb.size)
            clear hb8
            go_wp2_with fail
            go_roundw
            case rel => exact ⟨k + 1, _, zs, sw, rfl, rfl, by go_num, by omega, HZL.out, HST2, HI8', hb9⟩
            case measure => simp [intOf]; omega
          have c4' : ¬ (n11 : Int) < (n7 : Int) := by omega
          have HB5 := Lib.hid (better5 (s := sw) (ids := zs) (bs := bs) (by have := HN7.out; have := HN11.out; omega))
          go_wp2_with fail
          refine HF.out.mono ?_
          rintro e w8 ⟨rfl, hb8⟩
          have HO8 := Lib.hid (HO.out.kept hb8)
          have HI8' := Lib.hid (HI.out.kept hb8)
          have hb9 := hb.trans (hb8.mono hb.size)
          clear hb8
          have HLS := Lib.hid (l10Less _ _ zs bs w8 HI8'.out.is HO8.out.is)
          cases gl : lessL zs bs with
          | true =>
            have HST2 := Lib.hid (HUY.out (by rw [HB5.out]; exact gl))
            rw [gl] at HLS
            clear gl
            go_wp2_with fail
            refine HLS.out.mono ?_
            rintro e w9 ⟨rfl, hb10⟩
            have HI9' := Lib.hid (HI8'.out.kept hb10)
            have hb11 := hb9.trans (hb10.mono hb9.size)
            clear hb10
            go_wp2_with fail
            go_roundw
            case rel => exact ⟨k + 1, _, zs, sw, rfl, rfl, by go_num, by omega, HZL.out, HST2, HI9', hb11⟩
            case measure => simp [intOf]; omega
          | false =>
            have HST2 := Lib.hid (HUN.out (by rw [HB5.out]; exact gl))
            rw [gl] at HLS
            clear gl
            go_wp2_with fail
            refine HLS.out.mono ?_
            rintro e w9 ⟨rfl, hb10⟩
            have HO9 := Lib.hid (HO8.out.kept hb10)
            have hb11 := hb9.trans (hb10.mono hb9.size)
            clear hb10
            go_wp2_with fail
            go_roundw
            case rel => exact ⟨k + 1, _, bs, sw, rfl, rfl, by go_num, by omega, hbl8, HST2, HO9, hb11⟩
            case measure => simp [intOf]; omega
    · obtain rfl : k = K := by omega
      have HE := Lib.hid (show Ans z0 z bs mx true from HA.out bs mx (by unfold heavy; rw [← HKE.out]; exact HST.out))
      go_wp2_with fail
      go_ret3
      exact ⟨_, _, _, true, rfl, HE.out, HO.out, hb⟩
set_option maxRecDepth 100000 in
set_option maxHeartbeats 3200000 in
theorem impl (v0 : Value) (z0 : T) (v1 : Value) (z1 : List P) (W : World) (h0 : IsS LString.rec W v0 z0) (f0 : ∀ x ∈ z0, LString.Fine x) (l0 : z0.length ≤ 1048576) (h1 : LProposalS.IsS W v1 z1) (f1 : ∀ x ∈ z1, LProposalS.Fine x) (l1 : z1.length ≤ 1048576) (hT : Laid.T64 W) :
    Calls Tryd.prog 28 #[v0, v1] W (Post z0 z1 W) := by
  obtain ⟨z, hz⟩ : ∃ z, z = z1 := ⟨_, rfl⟩
  subst hz
  have h1 := Bs.NIsS.is h1
  obtain ⟨i9, hi, hz0, hz1, hz2⟩ := info_parts LInt.infoK
  have HI9 := Lib.hid hi
  have HZ9 := Lib.hid (And.intro hz0 (And.intro hz1 hz2))
  clear hi hz0 hz1 hz2
  have HTL := Lib.hid hT
  have HC := Lib.hid (CfG.areProposals v0 v1 z0 z W (.inr h0) h1 f0 f1 l0)
  have HNO := Lib.hid (no (z0 := z0) (z1 := z))
  have HYES := Lib.hid (fun bs mx => yes (z0 := z0) (z1 := z) (bs := bs) (mx := mx))
  obtain ⟨b0, o0, c0, rfl, -⟩ := h0
  have HRV := Lib.hid (fun W' (hW : Below W.heap.size W W') => CfR.rivalsOf v1 z W' (Bs.NIs.below h1 hW) f1)
  have HWS := Lib.hid (fun W' (hW : Below W.heap.size W W') v2 x hr => CfV.weighSet v1 v2 z x W' (Bs.NIs.below h1 hW) f1 hr)
  have hc := LProposalS.get h1
  obtain ⟨a, cp, rfl, hnb, h2⟩ := h1.form
  unfold maxLen at h2
  obtain ⟨n, hn⟩ : ∃ n, n = z.length := ⟨_, rfl⟩
  have HN := Lib.hid hn.symm
  have HF := Lib.hid f1
  have HLI := Lib.hid h1
  rw [← hn] at hc hnb HLI HC HRV HWS ⊢
  have hle : n ≤ z.length := by omega
  clear hn h1 f1
  clear f0 l0 l1 hT
  cases gp : propsB z0 z with
  | false =>
    rw [gp] at HC
    have HA := Lib.hid (HNO.out gp)
    clear gp
    go_enter Tryd.func28, Tryd.ntmps28
    go_wp2_with fail
    refine HC.out.mono ?_
    rintro e w1 ⟨rfl, hb1⟩
    have HO1 := Lib.hid (Own.start (T := LInt.rec) (E := 3) (w := w1) hb1.size)
    have hb2 := hb1.alloc hb1.size (Obj.cells #[] 3)
    clear hb1
    go_wp2_with fail
    go_ret3
    exact ⟨_, [], 0, false, rfl, HA.out, HO1.out, hb2⟩
  | true =>
  rw [gp] at HC
  have HA := Lib.hid (fun bs mx => HYES.out bs mx gp)
  have HGA := Lib.hid (props_good gp)
  have HWT := Lib.hid (props_wt gp)
  have hn8 : n ≤ 8 := by have := (props_parts gp).2.1; have := HN.out; omega
  have HRV2 := Lib.hid (fun W' (hW : Below W.heap.size W W') => HRV.out W' hW hn8 HGA.out)
  have HUB := Lib.hid (up_bound HWT.out (by have := HN.out; omega))
  have hK := pow_small hn8
  have hsh : IntKind.u64.wrap (2 ^ n) = ((2 ^ n : Nat) : Int) := by rw [CfR.shl_one n (by omega), Nat.shiftLeft_eq, Nat.one_mul]
  have HKE := Lib.hid (show 2 ^ n = 2 ^ z.length by rw [HN.out])
  clear gp HNO HYES HRV
  generalize (2 ^ n : Nat) = K at *
  go_enter Tryd.func28, Tryd.ntmps28
  go_wp2_with fail
  refine HC.out.mono ?_
  rintro e w1 ⟨rfl, hb1⟩
  go_wp2_with fail
  refine (HRV2.out _ hb1).mono ?_
  rintro e w2 ⟨gr, rfl, hgr, hor, hb3⟩
  have HU := Lib.hid (hor.low hb1.size)
  have hb2 := hb1.trans (hb3.mono hb1.size)
  clear hor hb3 hb1 hgr HRV2
  obtain ⟨wa, hwa⟩ : ∃ wa : World, wa = w2.alloc (Obj.cells #[] 3) := ⟨_, rfl⟩
  have HO1 := Lib.hid (show Own LInt.rec 3 wa W.heap.size (.slice (some ⟨w2.heap.size, 0, none⟩) 0 0) [] by rw [hwa]; exact Own.start hb2.size)
  have hba : Below w2.heap.size w2 wa := by rw [hwa]; exact (Below.refl _ _).alloc (Nat.le_refl _) _
  have HU2 := Lib.hid (HU.out.kept hba)
  have hb3 := hb2.trans (hba.mono hb2.size)
  go_upto_region 5 with fail
  rw [← hwa]
  clear hwa hba hb2 HU
  generalize w2.heap.size = G1 at *
  go_wp2_with fail
  go_loopw [8, 9, 26] (fun so sm i wr => ∃ (k : Nat) (o : Value) (bs : List Int) (mx : Int), o = so ∧ sm = .int .i64 mx ∧ i = .int .u64 (k : Nat) ∧ k ≤ K ∧ bs.length ≤ 8 ∧ Hid ((bs, mx) = upS z k) ∧ Hid (Own LInt.rec 3 wr W.heap.size o bs) ∧ Hid (Own LSet.rec 90 wr W.heap.size (.slice (some ⟨gr, 0, none⟩) n n) (rivs z)) ∧ Below W.heap.size W wr) (fun _ _ i _ => K - (intOf i).toNat)
  case atStart => exact ⟨0, _, [], 0, rfl, rfl, rfl, Nat.zero_le _, by simp, Lib.hid rfl, HO1, HU2, hb3⟩
  case round =>
    clear HO1 HU2 hb3
    obtain ⟨k, ob, bs, mx, rfl, rfl, rfl, hkK, hbl8, HST, HO, HU, hb⟩ := hrel
    by_cases hlt : k < K
    · have HCW := Lib.hid (HWS.out wr hb _ k HU.out.is (by have := HN.out; omega) hlt HWT.out (Laid.T64.below HTL.out hb))
      have hk1 : (k : Int) < (K : Int) := by omega
      have hw1 : IntKind.u64.wrap ((k : Int) + 1) = ((k + 1 : Nat) : Int) := by rw [IntKind.wrap_u64]; omega
      have hil := bits_len k z.length
      cases gk : okJ z k (bitsL k z.length) with
      | false =>
        have HST2 := Lib.hid (show (bs, mx) = upS z (k + 1) by rw [up_no1 gk]; exact HST.out)
        have HW := Lib.hid (fun e w' (h : Weighed z k wr.heap.size wr e w') => weigh_no h gk)
        clear gk
        go_wp2_with fail
        refine HCW.out.mono ?_
        intro e w4 hwd
        obtain ⟨v6, rfl, ho6, hb6⟩ := HW.out _ _ hwd
        have HO2 := Lib.hid (HO.out.kept hb6)
        have HU2 := Lib.hid (HU.out.kept hb6)
        have hb7 := hb.trans (hb6.mono hb.size)
        clear ho6 hb6 hwd
        go_wp2_with fail
        go_roundw
        case rel => exact ⟨k + 1, _, bs, mx, rfl, rfl, rfl, by omega, hbl8, HST2, HO2, HU2, hb7⟩
        case measure => simp [intOf]; omega
      | true =>
        have HW := Lib.hid (fun e w' (h : Weighed z k wr.heap.size wr e w') => weigh_yes h gk)
        obtain ⟨ids, hids⟩ : ∃ ids, ids = idsOf z (bitsL k z.length) := ⟨_, rfl⟩
        obtain ⟨sw, hsw⟩ : ∃ sw, sw = wts z (bitsL k z.length) := ⟨_, rfl⟩
        rw [← hids, ← hsw] at HW
        have HUY := Lib.hid (fun hb => up_y HST.out gk hids hsw hb)
        have HUN := Lib.hid (fun hb => up_n HST.out hids hsw hb)
        have hil8 : ids.length ≤ 8 := by rw [hids, ids_len]; have := HN.out; omega
        have HORB := Lib.hid (or_better ids sw bs mx)
        clear gk hids hsw hil
        obtain ⟨a8, n8, c8, rfl⟩ := own_slice HO.out
        have HNB := Lib.hid (isq_len HO.out.isQ).1
        have hb8c := (isq_len HO.out.isQ).2.1
        have hb8m := (isq_len HO.out.isQ).2.2
        unfold maxLen at hb8m
        go_wp2_with fail
        refine HCW.out.mono ?_
        intro e w4 hwd
        obtain ⟨v6, rfl, ho6, hb6⟩ := HW.out _ _ hwd
        obtain ⟨a6, n6, c6, rfl⟩ := own_slice ho6
        have HNI := Lib.hid (isq_len ho6.isQ).1
        have h6c := (isq_len ho6.isQ).2.1
        have h6m := (isq_len ho6.isQ).2.2
        unfold maxLen at h6m
        have HO2 := Lib.hid (HO.out.kept hb6)
        have HU2 := Lib.hid (HU.out.kept hb6)
        have HI2 := Lib.hid (ho6.low hb.size)
        have hb7 := hb.trans (hb6.mono hb.size)
        rw [HNB.out, HNI.out] at HORB
        have h1 : n8 ≤ 8 := by have := HNB.out; omega
        have h2 : n6 ≤ 8 := by have := HNI.out; omega
        clear ho6 hb6 hwd HO HU
        go_wp2_with fail
        refine (CmpI.compare sw mx w4).mono ?_
        rintro e _ ⟨rfl, rfl⟩
        go_wp2_with fail
        refine (CmpI.compare (n8 : Int) (n6 : Int) w4).mono ?_
        rintro e _ ⟨rfl, rfl⟩
        go_wp2_with fail
        refine (compareL _ _ bs ids w4 HO2.out.is HI2.out.is).mono ?_
        rintro e _ ⟨rfl, rfl⟩
        have HORB2 := Lib.hid (show decide (0 < orI [CmpI.cmpI sw mx, CmpI.cmpI n8 n6, cmpL bs ids]) = better ids sw bs mx from HORB.out)
        generalize CmpI.cmpI sw mx = k1 at *
        generalize CmpI.cmpI n8 n6 = k2 at *
        generalize cmpL bs ids = k3 at *
        obtain ⟨wb, hwb⟩ : ∃ wb : World, wb = w4.alloc (Obj.cells #[.int .i64 k1, .int .i64 k2, .int .i64 k3] 3) := ⟨_, rfl⟩
        have hbb : Below w4.heap.size w4 wb := by rw [hwb]; exact (Below.refl _ _).alloc (Nat.le_refl _) _
        have HOR := Lib.hid (orL _ [k1, k2, k3] wb (is3 (g := w4.heap.size) (by rw [hwb]; exact heap_alloc_new w4 _)))
        have HO3 := Lib.hid (HO2.out.kept hbb)
        have HU3 := Lib.hid (HU2.out.kept hbb)
        have HI3 := Lib.hid (HI2.out.kept hbb)
        have hb8 := hb7.trans (hbb.mono hb7.size)
        go_wp2_with fail
        rw [← hwb]
        clear hwb hbb HO2 HU2 HI2 hb7
        refine HOR.out.mono ?_
        rintro e _ ⟨rfl, rfl⟩
        generalize orI [k1, k2, k3] = R at *
        by_cases hR : 0 < R
        · have HST2 := Lib.hid (HUY.out (by rw [← HORB2.out]; exact decide_eq_true hR))
          go_wp2_with fail
          go_roundw
          case rel => exact ⟨k + 1, _, ids, sw, rfl, rfl, rfl, by omega, hil8, HST2, HI3, HU3, hb8⟩
          case measure => simp [intOf]; omega
        · have HST2 := Lib.hid (HUN.out (by rw [← HORB2.out]; exact decide_eq_false hR))
          go_wp2_with fail
          go_roundw
          case rel => exact ⟨k + 1, _, bs, mx, rfl, rfl, rfl, by omega, hbl8, HST2, HO3, HU3, hb8⟩
          case measure => simp [intOf]; omega
    · obtain rfl : k = K := by omega
      have HE := Lib.hid (show Ans z0 z bs mx true from HA.out bs mx (by unfold heavy; rw [← HKE.out]; exact HST.out))
      go_wp2_with fail
      go_ret3
      exact ⟨_, _, _, true, rfl, HE.out, HO.out, hb⟩
end Go.Proofs.YtclpdpfnlmfogaaDoor.HeaviestSetC
