/- RebuildText: what it answers, on both sides. No condition. -/
import Derived.Test.YtfkppgnffhbfjaaAmV
import Derived.Test.YtfkppgnffhbfjaaApplyAmendmentC
import Derived.Test.YtfkppgnffhbfjaaLAmendmentSZ
import Derived.Test.YtfkppgnffhbfjaaLStringKclone
namespace Go.Proofs.Ytfkppgnffhbfjaa.RebuildTextC
open Go.RowKit Bs Word Am AmA AmG AmF AmP AmR AmV
set_option linter.unusedVariables false
abbrev Ans := AmR.Ans
def Post (z0 : T) (z1 : List M) (w : World) (e : Ending) (w' : World) : Prop := ∃ v0 r0 r1 r2, e = .returned (.tuple #[v0, .int .i64 r1, .bool r2]) ∧ Ans z0 z1 r0 r1 r2 ∧ Own LString.rec 9 w' w.heap.size v0 r0 ∧ Below w.heap.size w w'
theorem same {z0 : T} {z1 : List M} {r0 s0 : T} {r1 s1 : Int} {r2 s2 : Bool} (h1 : Ans z0 z1 r0 r1 r2) (h2 : Ans z0 z1 s0 s1 s2) : r0 = s0 ∧ r1 = s1 ∧ r2 = s2 := AmR.same h1 h2
theorem len0 {z0 : T} {z1 : List M} {r0 : T} {r1 : Int} {r2 : Bool} (h : Ans z0 z1 r0 r1 r2) : r0.length ≤ 1048576 := AmR.len0 h
theorem fine_words {t : T} (h : textB t = true) : ∀ x ∈ t, LString.Fine x := fun x hx => by
  have := words_size h x hx
  unfold LString.Fine maxLen; omega
set_option maxRecDepth 100000 in
set_option maxHeartbeats 1600000 in
theorem specQ (v0 : Value) (z0 : T) (v1 : Value) (l : List M) (w : World) (h0 : IsQ LString.rec w v0 z0) (f0 : ∀ x ∈ z0, LString.Fine x) (l0 : z0.length ≤ 1048576) (h1 : LAmendmentS.IsQ w v1 l) (f1 : ∀ x ∈ l, LAmendment.Fine x) (l1 : l.length ≤ 1048576) :
    Calls Try.prog 32 #[v0, v1] w (Post z0 l w) := by
  have HI := Lib.hid h0
  have HL := Lib.hid h1
  have HT1 := Lib.hid (fun w2 (hb : Below w.heap.size w w2) => l9Text v0 z0 w2 (IsQ.is (IsQ.below HI.out hb)) f0)
  have HT2 := Lib.hid (fun w2 (hb : Below w.heap.size w w2) => l9List v1 l w2 (NIsQ.is (NIsQ.below HL.out hb)) f1)
  have hc := LAmendmentS.getQ h1
  obtain ⟨a, cp, rfl, hnb, h2⟩ := (NIsQ.is h1).form
  unfold maxLen at h2
  obtain ⟨n, hn⟩ : ∃ n, n = l.length := ⟨_, rfl⟩
  have HN := Lib.hid hn.symm
  have HF := Lib.hid f1
  rw [← hn] at hc hnb HT2 ⊢
  have hle : n ≤ l.length := by omega
  obtain ⟨ao, tn, tc, rfl⟩ := isq_slice h0
  obtain ⟨ht0, htc, htm⟩ := isq_len h0
  unfold maxLen at htm
  have HTN := Lib.hid ht0
  clear hn h0 f0 h1 f1 ht0
  cases g1 : textB z0 with
  | false =>
    have HA := Lib.hid (no (z0 := z0) (z1 := l) (by rw [g1]; rfl))
    rw [g1] at HT1
    clear g1
    go_enter Try.func32, Try.ntmps32
    go_wp2_with fail
    refine (HT1.out _ (Below.refl _ _)).mono ?_
    rintro e _ ⟨rfl, rfl⟩
    have hb0 := Below.refl w.heap.size w
    go_wp2_with fail
    go_ret3
    exact ⟨_, [], 0, false, rfl, HA.out, own_start hb0.size, hb0.alloc hb0.size _⟩
  | true =>
  rw [g1] at HT1
  cases g2 : goodL l with
  | false =>
    have HA := Lib.hid (no (z0 := z0) (z1 := l) (by rw [g1, g2]; rfl))
    rw [g2] at HT2
    clear g1 g2
    go_enter Try.func32, Try.ntmps32
    go_wp2_with fail
    refine (HT1.out _ (Below.refl _ _)).mono ?_
    rintro e _ ⟨rfl, rfl⟩
    go_wp2_with fail
    refine (HT2.out _ (Below.refl _ _)).mono ?_
    rintro e w1 ⟨rfl, hb1⟩
    go_wp2_with fail
    go_ret3
    exact ⟨_, [], 0, false, rfl, HA.out, own_start hb1.size, hb1.alloc hb1.size _⟩
  | true =>
  rw [g2] at HT2
  have HG := Lib.hid (And.intro g1 g2)
  have hn8 : n ≤ 8 := by have := goodL_len g2; have := HN.out; omega
  have ht20 : tn ≤ 20 := by have := words_len g1; have := HTN.out; omega
  clear g1 g2
  obtain ⟨i0, hi, hz0, hz1, hz2⟩ := info_parts LString.infoK
  have HI0 := Lib.hid hi
  have HZ0 := Lib.hid (And.intro hz0 (And.intro hz1 hz2))
  clear hi hz0 hz1 hz2
  go_enter Try.func32, Try.ntmps32
  go_wp2_with fail
  refine (HT1.out _ (Below.refl _ _)).mono ?_
  rintro e _ ⟨rfl, rfl⟩
  go_wp2_with fail
  refine (HT2.out _ (Below.refl _ _)).mono ?_
  rintro e w1 ⟨rfl, hb1⟩
  have HS := Lib.hid (IsQ.src (IsQ.below HI.out (hb1.trans ((Below.refl w1.heap.size w1).alloc (Nat.le_refl _) (Obj.cells #[] 9) |>.mono hb1.size)))).1
  clear HT1 HT2
  go_wp2_with (at_builtin; refine wpList_append_o (T := LString.rec) _ rfl (.tmp 18) (.tmp 19) 22 rfl w1.heap.size 9 i0 (.string ⟨#[]⟩) 16 Try.underlying22 HI0.out HZ0.out.1 HZ0.out.2.1 HZ0.out.2.2 rfl _ _ rfl (own_start (Nat.le_refl _)) ao tn tc z0 rfl HTN.out HS.out (by simp; unfold maxLen; omega) (by simp; omega) (by simp) ?_)
  intro v2 w2 hown hgrow hnn hat
  have hb2 : Below w1.heap.size w1 w2 := ((Below.refl w1.heap.size w1).alloc (Nat.le_refl _) (Obj.cells #[] 9)).grown hgrow (by simp) (fun k hk => own_ge (g := w1.heap.size) (n := 0) (c := 0) hk (Nat.le_refl _))
  clear hgrow hnn hat
  have HO := Lib.hid (Own.low (show Own LString.rec 9 w2 w1.heap.size v2 z0 from hown) hb1.size)
  replace hb1 := hb1.trans (hb2.mono hb1.size)
  clear hb2 hown HS
  go_wp2_with fail
  go_loopw [7, 8] (fun s7 i wr => ∃ (k : Nat) (t : T), k ≤ n ∧ i = .int .i64 k ∧ Hid (textB t = true ∧ rb t (l.drop k) k = rb z0 l 0) ∧ Hid (Own LString.rec 9 wr w.heap.size s7 t) ∧ Below w.heap.size w wr) (fun _ i _ => n - (intOf i).toNat)
  case atStart => exact ⟨0, z0, Nat.zero_le _, rfl, Lib.hid ⟨HG.out.1, rfl⟩, HO, hb1⟩
  case round =>
    clear HO hb1
    obtain ⟨k, t, hk, rfl, HT, HO, hb⟩ := hrel
    obtain ⟨ta, tl, tcp, rfl⟩ := own_slice HO.out
    by_cases hlt : k < n
    · have k0 : 0 ≤ (k : Int) := by omega
      have k1 : (k : Int) < (n : Int) := by omega
      have hx : k < l.length := by omega
      obtain ⟨b, o, c, x, y, z, he, hbl, hat, hI⟩ := hc.out k l[k] (List.getElem?_eq_getElem hx)
      simp only [Value.slice.injEq] at he
      obtain ⟨rfl, -, rfl⟩ := he
      obtain ⟨q0, q1, q2, q3⟩ := LAmendmentS.cells_hd (hat.below LAmendmentS.kit.row hb hbl)
      have HAT := Lib.hid (hat.below LAmendmentS.kit.row hb hbl)
      have HBL := Lib.hid (Nat.lt_of_lt_of_le hbl hb.size)
      have HX := Lib.hid (List.getElem?_eq_getElem hx)
      have HFX := Lib.hid (HF.out _ (List.getElem_mem hx))
      have HIX := Lib.hid (LAmendment.IsQ.below hI hb)
      clear hat hI
      generalize l[k] = X at *
      have HGX := Lib.hid (goodL_all HG.out.2 X (List.mem_of_getElem? HX.out))
      have HC := Lib.hid (AmF.l9Fits _ _ t X wr (Own.isQ HO.out) (LAmendment.IsQ.is HIX.out) HGX.out (by have := words_len HT.out.1; omega))
      cases gf : fits t X with
      | false =>
        have HA := Lib.hid (yes HG.out.1 HG.out.2 (HT.out.2.symm.trans (rb_stop HX.out gf)))
        rw [gf] at HC
        clear gf
        go_wp2_with fail
        refine HC.out.mono ?_
        rintro e w3 ⟨rfl, hb3⟩
        replace HO := Lib.hid (HO.out.kept hb3)
        have hb4 := hb.trans (hb3.mono hb.size)
        clear hb3 q0 q1 q2 q3
        go_wp2_with fail
        go_ret3
        exact ⟨_, _, _, true, rfl, HA.out, HO.out, hb4⟩
      | true =>
        have HTN2 := Lib.hid (show textB (apply t X) = true ∧ rb (apply t X) (l.drop (k + 1)) (k + 1) = rb z0 l 0 from ⟨apply_text HT.out.1 HGX.out gf, (rb_step HX.out gf).symm.trans HT.out.2⟩)
        have HFP := Lib.hid (fits_parts gf).1
        rw [gf] at HC
        clear gf
        go_wp2_with fail
        refine HC.out.mono ?_
        rintro e w3 ⟨rfl, hb3⟩
        obtain ⟨p0, p1, p2, p3⟩ := LAmendmentS.cells_hd (HAT.out.below LAmendmentS.kit.row hb3 HBL.out)
        replace HO := Lib.hid (HO.out.kept hb3)
        have HAP := Lib.hid (AmP.l9Apply _ _ t X w3 (Own.isQ HO.out) (LAmendment.IsQ.below HIX.out hb3) HGX.out (words_len HT.out.1) HFP.out)
        have hb4 := hb.trans (hb3.mono hb.size)
        clear hb3 q0 q1 q2 q3
        go_wp2_with fail
        refine HAP.out.mono ?_
        rintro e w4 ⟨v4, rfl, ho4, hb5⟩
        have HO4 := Lib.hid (ho4.low hb4.size)
        have hb6 := hb4.trans (hb5.mono hb4.size)
        clear ho4 hb5 p0 p1 p2 p3
        go_wp2_with fail
        go_roundw
        case rel => exact ⟨k + 1, _, by omega, by go_num, HTN2, HO4, hb6⟩
        case measure => simp [intOf]; omega
    · obtain rfl : k = n := by omega
      have HA := Lib.hid (yes HG.out.1 HG.out.2 (HT.out.2.symm.trans (rb_end (by have := HN.out; omega))))
      go_wp2_with fail
      go_ret3
      exact ⟨_, _, _, true, rfl, HA.out, HO.out, hb⟩
set_option maxRecDepth 100000 in
set_option maxHeartbeats 1600000 in
theorem implQ (v0 : Value) (z0 : T) (v1 : Value) (l : List M) (w : World) (h0 : IsQ LString.rec w v0 z0) (f0 : ∀ x ∈ z0, LString.Fine x) (l0 : z0.length ≤ 1048576) (h1 : LAmendmentS.IsQ w v1 l) (f1 : ∀ x ∈ l, LAmendment.Fine x) (l1 : l.length ≤ 1048576) :
    Calls Try.prog 34 #[v0, v1] w (Post z0 l w) := by
  have HI := Lib.hid h0
  have HL := Lib.hid h1
  have HT1 := Lib.hid (fun w2 (hb : Below w.heap.size w w2) => isText v0 z0 w2 (IsQ.is (IsQ.below HI.out hb)) f0)
  have HT2 := Lib.hid (fun w2 (hb : Below w.heap.size w w2) => areAmendments v1 l w2 (NIsQ.is (NIsQ.below HL.out hb)) f1)
  have hc := LAmendmentS.getQ h1
  obtain ⟨a, cp, rfl, hnb, h2⟩ := (NIsQ.is h1).form
  unfold maxLen at h2
  obtain ⟨n, hn⟩ : ∃ n, n = l.length := ⟨_, rfl⟩
  have HN := Lib.hid hn.symm
  have HF := Lib.hid f1
  rw [← hn] at hc hnb HT2 ⊢
  have hle : n ≤ l.length := by omega
  obtain ⟨ao, tn, tc, rfl⟩ := isq_slice h0
  obtain ⟨ht0, htc, htm⟩ := isq_len h0
  unfold maxLen at htm
  have HTN := Lib.hid ht0
  clear hn h0 f0 h1 f1 ht0
  cases g1 : textB z0 with
  | false =>
    have HA := Lib.hid (no (z0 := z0) (z1 := l) (by rw [g1]; rfl))
    rw [g1] at HT1
    clear g1
    go_enter Try.func34, Try.ntmps34
    go_wp2_with fail
    refine (HT1.out _ (Below.refl _ _)).mono ?_
    rintro e _ ⟨rfl, rfl⟩
    have hb0 := Below.refl w.heap.size w
    go_wp2_with fail
    go_ret3
    exact ⟨_, [], 0, false, rfl, HA.out, own_start hb0.size, hb0.alloc hb0.size _⟩
  | true =>
  rw [g1] at HT1
  cases g2 : goodL l with
  | false =>
    have HA := Lib.hid (no (z0 := z0) (z1 := l) (by rw [g1, g2]; rfl))
    rw [g2] at HT2
    clear g1 g2
    go_enter Try.func34, Try.ntmps34
    go_wp2_with fail
    refine (HT1.out _ (Below.refl _ _)).mono ?_
    rintro e _ ⟨rfl, rfl⟩
    go_wp2_with fail
    refine (HT2.out _ (Below.refl _ _)).mono ?_
    rintro e w1 ⟨rfl, hb1⟩
    go_wp2_with fail
    go_ret3
    exact ⟨_, [], 0, false, rfl, HA.out, own_start hb1.size, hb1.alloc hb1.size _⟩
  | true =>
  rw [g2] at HT2
  have HG := Lib.hid (And.intro g1 g2)
  have hn8 : n ≤ 8 := by have := goodL_len g2; have := HN.out; omega
  have ht20 : tn ≤ 20 := by have := words_len g1; have := HTN.out; omega
  clear g1 g2
  go_enter Try.func34, Try.ntmps34
  go_wp2_with fail
  refine (HT1.out _ (Below.refl _ _)).mono ?_
  rintro e _ ⟨rfl, rfl⟩
  go_wp2_with fail
  refine (HT2.out _ (Below.refl _ _)).mono ?_
  rintro e w1 ⟨rfl, hb1⟩
  have HCL := Lib.hid (LString.clone _ z0 w1 (IsQ.is (IsQ.below HI.out hb1)) (by have := HTN.out; omega))
  clear HT1 HT2
  go_wp2_with fail
  refine HCL.out.mono ?_
  rintro e w2 ⟨v2, rfl, hown, hb2⟩
  have HO := Lib.hid (hown.low hb1.size)
  replace hb1 := hb1.trans (hb2.mono hb1.size)
  clear hb2 hown
  go_wp2_with fail
  go_loopw [7, 25] (fun s7 i wr => ∃ (k : Nat) (t : T), k ≤ n ∧ i = .int .i64 k ∧ Hid (textB t = true ∧ rb t (l.drop k) k = rb z0 l 0) ∧ Hid (Own LString.rec 9 wr w.heap.size s7 t) ∧ Below w.heap.size w wr) (fun _ i _ => n - (intOf i).toNat)
  case atStart => exact ⟨0, z0, Nat.zero_le _, rfl, Lib.hid ⟨HG.out.1, rfl⟩, HO, hb1⟩
  case round =>
    clear HO hb1
    obtain ⟨k, t, hk, rfl, HT, HO, hb⟩ := hrel
    obtain ⟨ta, tl, tcp, rfl⟩ := own_slice HO.out
    by_cases hlt : k < n
    · have k0 : 0 ≤ (k : Int) := by omega
      have k1 : (k : Int) < (n : Int) := by omega
      have hx : k < l.length := by omega
      obtain ⟨b, o, c, x, y, z, he, hbl, hat, hI⟩ := hc.out k l[k] (List.getElem?_eq_getElem hx)
      simp only [Value.slice.injEq] at he
      obtain ⟨rfl, -, rfl⟩ := he
      obtain ⟨q0, q1, q2, q3⟩ := LAmendmentS.cells_hd (hat.below LAmendmentS.kit.row hb hbl)
      have HAT := Lib.hid (hat.below LAmendmentS.kit.row hb hbl)
      have HBL := Lib.hid (Nat.lt_of_lt_of_le hbl hb.size)
      have HX := Lib.hid (List.getElem?_eq_getElem hx)
      have HFX := Lib.hid (HF.out _ (List.getElem_mem hx))
      have HIX := Lib.hid (LAmendment.IsQ.below hI hb)
      clear hat hI
      generalize l[k] = X at *
      have HGX := Lib.hid (goodL_all HG.out.2 X (List.mem_of_getElem? HX.out))
      obtain ⟨wa, hwa⟩ : ∃ wa : World, wa = wr.alloc (Obj.cells #[.int .i64 X.kind, .int .i64 X.pos, .int .i64 X.count, .slice x y z] 31) := ⟨_, rfl⟩
      have hba : Below wr.heap.size wr wa := by rw [hwa]; exact (Below.refl _ _).alloc (Nat.le_refl _) _
      have BX := Lib.hid (show Bx wa wr.heap.size 31 #[.int .i64 X.kind, .int .i64 X.pos, .int .i64 X.count, .slice x y z] by rw [hwa]; exact Bx.new _ _ _)
      have hb2 := hb.trans (hba.mono hb.size)
      replace HO := Lib.hid (HO.out.kept hba)
      have HC := Lib.hid (ApplyAmendmentC.implQ _ _ t X wa (Own.isQ HO.out) (LAmendment.IsQ.below HIX.out hba) (fine_words HT.out.1) HFX.out (by have := words_len HT.out.1; omega))
      go_upto_region 7 with fail
      rw [← hwa]
      clear hwa q0 q1 q2 q3 hba
      have x0 := BX.out.cell 0
      have x1 := BX.out.cell 1
      have x2 := BX.out.cell 2
      have x3 := BX.out.cell 3
      simp only [List.getElem?_toArray, List.getElem?_cons_zero, List.getElem?_cons_succ] at x0 x1 x2 x3
      go_wp2_with fail
      refine HC.out.mono ?_
      rintro e w3 ⟨v3, r0, r1, rfl, hans, ho3, hb3⟩
      have HAN := Lib.hid hans
      have HO3 := Lib.hid (ho3.low hb2.size)
      replace HO := Lib.hid (HO.out.kept hb3)
      have hb4 := hb2.trans (hb3.mono hb2.size)
      clear hans ho3 hb3 x0 x1 x2 x3
      cases gf : fits t X with
      | false =>
        have HA := Lib.hid (yes HG.out.1 HG.out.2 (HT.out.2.symm.trans (rb_stop HX.out gf)))
        obtain ⟨hr0, hr1⟩ := ApplyAmendmentC.same HAN.out (ApplyAmendmentC.no (z0 := t) (z1 := X) (by rw [gf]; simp))
        subst hr0 hr1
        clear gf
        go_wp2_with fail
        go_ret3
        exact ⟨_, _, _, true, rfl, HA.out, HO.out, hb4⟩
      | true =>
        have HTN2 := Lib.hid (show textB (apply t X) = true ∧ rb (apply t X) (l.drop (k + 1)) (k + 1) = rb z0 l 0 from ⟨apply_text HT.out.1 HGX.out gf, (rb_step HX.out gf).symm.trans HT.out.2⟩)
        obtain ⟨hr0, hr1⟩ := ApplyAmendmentC.same HAN.out (ApplyAmendmentC.yes (z0 := t) (z1 := X) (by rw [gf, HT.out.1, HGX.out]; rfl))
        subst hr0 hr1
        clear gf
        go_wp2_with fail
        go_roundw
        case rel => exact ⟨k + 1, _, by omega, by go_num, HTN2, HO3, hb4⟩
        case measure => simp [intOf]; omega
    · obtain rfl : k = n := by omega
      have HA := Lib.hid (yes HG.out.1 HG.out.2 (HT.out.2.symm.trans (rb_end (by have := HN.out; omega))))
      go_wp2_with fail
      go_ret3
      exact ⟨_, _, _, true, rfl, HA.out, HO.out, hb⟩
theorem spec (v0 : Value) (z0 : T) (v1 : Value) (z1 : List M) (w : World) (h0 : IsS LString.rec w v0 z0) (f0 : ∀ x ∈ z0, LString.Fine x) (l0 : z0.length ≤ 1048576) (h1 : LAmendmentS.IsS w v1 z1) (f1 : ∀ x ∈ z1, LAmendmentS.Fine x) (l1 : z1.length ≤ 1048576) :
    Calls Try.prog 32 #[v0, v1] w (Post z0 z1 w) := specQ v0 z0 v1 z1 w (.inr h0) f0 l0 (NIsS.isQ h1) f1 l1
theorem impl (v0 : Value) (z0 : T) (v1 : Value) (z1 : List M) (w : World) (h0 : IsS LString.rec w v0 z0) (f0 : ∀ x ∈ z0, LString.Fine x) (l0 : z0.length ≤ 1048576) (h1 : LAmendmentS.IsS w v1 z1) (f1 : ∀ x ∈ z1, LAmendmentS.Fine x) (l1 : z1.length ≤ 1048576) :
    Calls Try.prog 34 #[v0, v1] w (Post z0 z1 w) := implQ v0 z0 v1 z1 w (.inr h0) f0 l0 (NIsS.isQ h1) f1 l1
end Go.Proofs.Ytfkppgnffhbfjaa.RebuildTextC
