/- UndoAmendments: what it answers, on both sides. No condition. -/
import Derived.Test.YtfkppgnffhbfjaaAmV
import Derived.Test.YtfkppgnffhbfjaaAmU
import Derived.Test.YtfkppgnffhbfjaaApplyAmendmentC
import Derived.Test.YtfkppgnffhbfjaaInverseAmendmentC
import Derived.Test.YtfkppgnffhbfjaaLAmendmentSRev
import Derived.Test.YtfkppgnffhbfjaaLStringK
namespace Go.Proofs.Ytfkppgnffhbfjaa.UndoAmendmentsC
open Go.RowKit Bs Word Am AmA AmG AmF AmR AmV AmU
set_option linter.unusedVariables false
abbrev Ans := AmU.Ans
def Post (z0 : T) (z1 : List M) (w : World) (e : Ending) (w' : World) : Prop := ∃ v0 r0 r1, e = .returned (.tuple #[v0, .bool r1]) ∧ Ans z0 z1 r0 r1 ∧ LAmendmentS.Own w' w.heap.size v0 r0 ∧ Below w.heap.size w w'
theorem same {z0 : T} {z1 r0 s0 : List M} {r1 s1 : Bool} (h1 : Ans z0 z1 r0 r1) (h2 : Ans z0 z1 s0 s1) : r0 = s0 ∧ r1 = s1 := AmU.same h1 h2
theorem len0 {z0 : T} {z1 r0 : List M} {r1 : Bool} (h : Ans z0 z1 r0 r1) : LAmendmentS.cnt r0 ≤ 1048576 := AmU.len0 h
theorem fine_words {t : T} (h : textB t = true) : ∀ x ∈ t, LString.Fine x := fun x hx => by
  have := words_size h x hx
  unfold LString.Fine maxLen; omega
theorem infoA : (Try.prog.info? 31).map (fun i => (i.zero, i.size, i.bytes)) = some (some (.agg #[.int .i64 0, .int .i64 0, .int .i64 0, .slice none 0 0]), 4, 48) := by kernel_rfl
theorem own_start0 {w : World} {A : Nat} (h : A ≤ w.heap.size) : LAmendmentS.Own (w.alloc (.cells #[] 31)) A (.slice (some ⟨w.heap.size, 0, none⟩) 0 0) [] := NOwn.start (K := LAmendmentS.kit) h
set_option maxRecDepth 100000 in
set_option maxHeartbeats 6400000 in
theorem specQ (v0 : Value) (z0 : T) (v1 : Value) (l : List M) (w : World) (h0 : IsQ LString.rec w v0 z0) (f0 : ∀ x ∈ z0, LString.Fine x) (l0 : z0.length ≤ 1048576) (h1 : LAmendmentS.IsQ w v1 l) (f1 : ∀ x ∈ l, LAmendment.Fine x) (l1 : l.length ≤ 1048576) :
    Calls Try.prog 37 #[v0, v1] w (Post z0 l w) := by
  have HI := Lib.hid h0
  have HL := Lib.hid h1
  have HT1 := Lib.hid (fun w2 (hb : Below w.heap.size w w2) => l9Text v0 z0 w2 (IsQ.is (IsQ.below HI.out hb)) f0)
  have HT2 := Lib.hid (fun w2 (hb : Below w.heap.size w w2) => l9List v1 l w2 (NIsQ.is (NIsQ.below HL.out hb)) f1)
  have hc := LAmendmentS.getQ h1
  obtain ⟨a, cp, rfl, hnb, h2⟩ := (NIsQ.is h1).form
  unfold maxLen at h2
  obtain ⟨n, hn⟩ : ∃ n, n = l.length := ⟨_, rfl⟩
  have HN := Lib.hid hn.symm
  have HF := Lib.hid f1
  rw [← hn] at hc hnb HT2 ⊢
  have hle : n ≤ l.length := by omega
  obtain ⟨ao, tn, tc, rfl⟩ := isq_slice h0
  obtain ⟨ht0, htc, htm⟩ := isq_len h0
  unfold maxLen at htm
  have HTN := Lib.hid ht0
  clear hn h0 f0 h1 f1 ht0
  obtain ⟨Ws, hWs⟩ : ∃ Ws : World, Ws = w.alloc (Obj.cells #[] 31) := ⟨_, rfl⟩
  have hbs : Below w.heap.size w Ws := by rw [hWs]; exact (Below.refl _ _).alloc (Nat.le_refl _) _
  have HOs := Lib.hid (fun (w2 : World) (hb : Below Ws.heap.size Ws w2) => NOwn.kept (show LAmendmentS.Own Ws w.heap.size (.slice (some ⟨w.heap.size, 0, none⟩) 0 0) [] by rw [hWs]; exact own_start0 (Nat.le_refl _)) hb)
  have hsz : w.heap.size < Ws.heap.size := by rw [hWs]; simp
  cases g1 : textB z0 with
  | false =>
    have HA := Lib.hid (AmU.no (z0 := z0) (z1 := l) (by rw [g1]; rfl))
    rw [g1] at HT1
    clear g1
    go_enter Try.func37, Try.ntmps37
    go_wp2_with fail
    rw [← hWs]
    clear hWs
    refine (HT1.out _ hbs).mono ?_
    rintro e _ ⟨rfl, rfl⟩
    replace HOs := Lib.hid (HOs.out _ (Below.refl _ _))
    go_wp2_with fail
    go_ret2
    exact ⟨_, [], false, rfl, HA.out, HOs.out, hbs⟩
  | true =>
  rw [g1] at HT1
  cases g2 : goodL l with
  | false =>
    have HA := Lib.hid (AmU.no (z0 := z0) (z1 := l) (by rw [g1, g2]; rfl))
    rw [g2] at HT2
    clear g1 g2
    go_enter Try.func37, Try.ntmps37
    go_wp2_with fail
    rw [← hWs]
    clear hWs
    refine (HT1.out _ hbs).mono ?_
    rintro e _ ⟨rfl, rfl⟩
    go_wp2_with fail
    refine (HT2.out _ hbs).mono ?_
    rintro e w1 ⟨rfl, hb1⟩
    replace HOs := Lib.hid (HOs.out _ hb1)
    replace hb1 := hbs.trans (hb1.mono hbs.size)
    go_wp2_with fail
    go_ret2
    exact ⟨_, [], false, rfl, HA.out, HOs.out, hb1⟩
  | true =>
  rw [g2] at HT2
  have HG := Lib.hid (And.intro g1 g2)
  have hn8 : n ≤ 8 := by have := goodL_len g2; have := HN.out; omega
  have ht20 : tn ≤ 20 := by have := words_len g1; have := HTN.out; omega
  clear g1 g2
  obtain ⟨i3, hi3, hz30, hz31, hz32⟩ := info_parts infoA
  have HI3 := Lib.hid hi3
  have HZ3 := Lib.hid (And.intro hz30 (And.intro hz31 hz32))
  clear hi3 hz30 hz31 hz32
  obtain ⟨i0, hi, hz0, hz1, hz2⟩ := info_parts LString.infoK
  have HI0 := Lib.hid hi
  have HZ0 := Lib.hid (And.intro hz0 (And.intro hz1 hz2))
  clear hi hz0 hz1 hz2
  go_enter Try.func37, Try.ntmps37
  go_wp2_with fail
  rw [← hWs]
  clear hWs
  refine (HT1.out _ hbs).mono ?_
  rintro e _ ⟨rfl, rfl⟩
  go_wp2_with fail
  refine (HT2.out _ hbs).mono ?_
  rintro e w1 ⟨rfl, hb1⟩
  replace HOs := Lib.hid (HOs.out _ hb1)
  replace hb1 := hbs.trans (hb1.mono hbs.size)
  have HS := Lib.hid (IsQ.src (IsQ.below HI.out (hb1.trans ((Below.refl w1.heap.size w1).alloc (Nat.le_refl _) (Obj.cells #[] 9) |>.mono hb1.size)))).1
  clear HT1 HT2
  go_wp2_with (at_builtin; refine wpList_append_o (T := LString.rec) _ rfl (.tmp 19) (.tmp 20) 22 rfl w1.heap.size 9 i0 (.string ⟨#[]⟩) 16 Try.underlying22 HI0.out HZ0.out.1 HZ0.out.2.1 HZ0.out.2.2 rfl _ _ rfl (own_start (Nat.le_refl _)) ao tn tc z0 rfl HTN.out HS.out (by simp; unfold maxLen; omega) (by simp; omega) (by simp) ?_)
  intro v2 w2 hown hgrow hnn hat
  have hb2 : Below w1.heap.size w1 w2 := ((Below.refl w1.heap.size w1).alloc (Nat.le_refl _) (Obj.cells #[] 9)).grown hgrow (by simp) (fun k hk => own_ge (g := w1.heap.size) (n := 0) (c := 0) hk (Nat.le_refl _))
  clear hgrow hnn hat
  have HO := Lib.hid (Own.isQ (show Own LString.rec 9 w2 w1.heap.size v2 z0 from hown))
  replace HOs := Lib.hid (NOwn.kept HOs.out hb2)
  replace hb1 := hb1.trans (hb2.mono hb1.size)
  clear hb2 hown HS hbs hsz
  go_wp2_with fail
  go_loopw [6, 7, 8] (fun s6 s7 i wr => ∃ (k : Nat) (t : T) (acc : List M), k ≤ n ∧ i = .int .i64 k ∧ Hid (textB t = true ∧ (fw t (l.drop k)).reverse ++ acc = (fw z0 l).reverse ∧ af t (l.drop k) = af z0 l) ∧ Hid (IsQ LString.rec wr s7 t) ∧ Hid (LAmendmentS.Own wr w.heap.size s6 acc) ∧ acc.length = k ∧ Below w.heap.size w wr) (fun _ _ i _ => n - (intOf i).toNat)
  case atStart => exact ⟨0, z0, [], Nat.zero_le _, rfl, Lib.hid ⟨HG.out.1, by simp, rfl⟩, HO, HOs, rfl, hb1⟩
  case round =>
    clear HO HOs hb1
    obtain ⟨k, t, acc, hk, rfl, HT, HO, HU, hacc, hb⟩ := hrel
    obtain ⟨ta, tl, tcp, rfl⟩ := isq_slice HO.out
    obtain ⟨ua, ucp, rfl, hul, hum⟩ := NOwn.form HU.out
    unfold maxLen at hum
    rw [hacc] at HU hul ⊢
    by_cases hlt : k < n
    · have k0 : 0 ≤ (k : Int) := by omega
      have k1 : (k : Int) < (n : Int) := by omega
      have hx : k < l.length := by omega
      obtain ⟨b, o, c, x, y, z, he, hbl, hat, hI⟩ := hc.out k l[k] (List.getElem?_eq_getElem hx)
      simp only [Value.slice.injEq] at he
      obtain ⟨rfl, -, rfl⟩ := he
      obtain ⟨q0, q1, q2, q3⟩ := LAmendmentS.cells_hd (hat.below LAmendmentS.kit.row hb hbl)
      have HAT := Lib.hid (hat.below LAmendmentS.kit.row hb hbl)
      have HBL := Lib.hid (Nat.lt_of_lt_of_le hbl hb.size)
      have HX := Lib.hid (List.getElem?_eq_getElem hx)
      have HFX := Lib.hid (HF.out _ (List.getElem_mem hx))
      have HIX := Lib.hid (LAmendment.IsQ.below hI hb)
      have HAX := Lib.hid (show ∀ j, (Value.slice x y z).ownBlock = some j → j < w.heap.size from fun j hj => by obtain ⟨s9, e9, h9⟩ := hI; simp only [Value.agg.injEq, Array.mk.injEq, List.cons.injEq, and_true] at e9; obtain ⟨_, _, _, rfl⟩ := e9; exact isq_lt h9 j hj)
      clear hat hI
      generalize l[k] = X at *
      have HGX := Lib.hid (goodL_all HG.out.2 X (List.mem_of_getElem? HX.out))
      have HC := Lib.hid (AmF.l9Fits _ _ t X wr HO.out (LAmendment.IsQ.is HIX.out) HGX.out (by have := words_len HT.out.1; omega))
      cases gf : fits t X with
      | false =>
        have HA := Lib.hid (AmU.no (z0 := z0) (z1 := l) (by rw [← HT.out.2.2, af_stop HX.out gf]; simp))
        rw [gf] at HC
        clear gf
        go_wp2_with fail
        refine HC.out.mono ?_
        rintro e w3 ⟨rfl, hb3⟩
        have hb4 := hb.trans (hb3.mono hb.size)
        clear hb3 q0 q1 q2 q3
        go_wp2_with fail
        go_ret2
        exact ⟨_, [], false, rfl, HA.out, own_start0 hb4.size, hb4.alloc hb4.size _⟩
      | true =>
        have HTN2 := Lib.hid (show textB (apply t X) = true ∧ (fw (apply t X) (l.drop (k + 1))).reverse ++ (inverse t X :: acc) = (fw z0 l).reverse ∧ af (apply t X) (l.drop (k + 1)) = af z0 l from ⟨apply_text HT.out.1 HGX.out gf, by
          rw [← HT.out.2.1, fw_step HX.out]; simp, by rw [← HT.out.2.2, af_step HX.out gf]⟩)
        have HFP := Lib.hid (fits_parts gf).1
        rw [gf] at HC
        clear gf
        go_wp2_with fail
        refine HC.out.mono ?_
        rintro e w3 ⟨rfl, hb3⟩
        obtain ⟨p0, p1, p2, p3⟩ := LAmendmentS.cells_hd (HAT.out.below LAmendmentS.kit.row hb3 HBL.out)
        replace HAT := Lib.hid (HAT.out.below LAmendmentS.kit.row hb3 HBL.out)
        replace HBL := Lib.hid (Nat.lt_of_lt_of_le HBL.out hb3.size)
        replace HO := Lib.hid (IsQ.below HO.out hb3)
        replace HU := Lib.hid (NOwn.kept HU.out hb3)
        replace HIX := Lib.hid (LAmendment.IsQ.below HIX.out hb3)
        have HIN := Lib.hid (AmI.l9Inverse _ _ t X w3 HO.out HIX.out HGX.out (words_len HT.out.1) HFP.out)
        have hb4 := hb.trans (hb3.mono hb.size)
        clear hb3 q0 q1 q2 q3
        go_wp2_with fail
        refine HIN.out.mono ?_
        rintro e w4 ⟨v4, rfl, ho4, hb5⟩
        obtain ⟨s3, rfl, ho3⟩ := ho4
        obtain ⟨fa, fn, fc, rfl⟩ := own_slice ho3
        replace HAT := Lib.hid (HAT.out.below LAmendmentS.kit.row hb5 HBL.out)
        replace HBL := Lib.hid (Nat.lt_of_lt_of_le HBL.out hb5.size)
        replace HO := Lib.hid (IsQ.below HO.out hb5)
        have HUlt := Lib.hid (show ∀ hs : List (Hd 4), Els LAmendmentS.kit (LAmendmentS.kit.Own w3 w.heap.size) hs acc → ∀ (i : Nat) (u : Hd 4) (j : Nat), hs[i]? = some u → Holds u j → j < w3.heap.size from fun hs h i u j hu hj => (h.lt i u j hu hj).2)
        obtain ⟨hs, hr1, hr2, hr3⟩ := HU.out
        have hr2' := hr2.same (w' := w4) fun i u j hu hj => hb5.block j (hr2.lt i u j hu hj).2
        have hrq := IsQ.below (Own.isQ hr1) hb5
        have hhl : hs.length = k := by rw [hr2.1, hacc]
        have HO3 := Lib.hid ho3
        have hb6 := hb4.trans (hb5.mono hb4.size)
        have HOne := Lib.hid (own_one (w := w4) (A := w.heap.size) (inverse t X) fa fn fc hb6.size)
        have hbc : Below w4.heap.size w4 (w4.alloc (Obj.cells #[.int .i64 (inverse t X).kind, .int .i64 (inverse t X).pos, .int .i64 (inverse t X).count, .slice fa fn fc] 31)) := (Below.refl _ _).alloc (Nat.le_refl _) _
        have HSr := Lib.hid (IsQ.src (IsQ.below hrq hbc)).1
        have HHs := Lib.hid (And.intro hr2' (And.intro hr3 (And.intro hhl (HUlt.out hs hr2))))
        have HSZ5 := Lib.hid hb5.size
        clear HUlt hr1 hr2 hr3 hr2' hrq hhl ho3 hbc HU p0 p1 p2 p3
        go_wp2_with (at_builtin; refine wpList_append_o (T := LAmendmentS.kit.row) _ rfl (.tmp 42) (.tmp 43) 47 rfl w.heap.size 31 i3 (.agg #[.int .i64 0, .int .i64 0, .int .i64 0, .slice none 0 0]) 48 Try.underlying47 HI3.out HZ3.out.1 HZ3.out.2.1 HZ3.out.2.2 rfl _ _ rfl HOne.out ua k ucp hs rfl HHs.out.2.2.1 HSr.out (by simp; unfold maxLen; omega) (by simp; omega) (by simp; have := hb6.size; omega) ?_)
        intro v6 w6 hown hgrow hnn hat
        have hat2 : v6.ownBlock = some w4.heap.size ∨ v6.ownBlock = some (w4.heap.size + 1) := by
          rcases hat with h' | h'
          · exact .inl h'
          · exact .inr (by first | (rw [h']; done) | (rw [h']; simp))
        have hgr : (w4.alloc (Obj.cells #[.int .i64 (inverse t X).kind, .int .i64 (inverse t X).pos, .int .i64 (inverse t X).count, .slice fa fn fc] 31)).grownBy w6 (some w4.heap.size) := hgrow
        have hb7 : Below w4.heap.size w4 w6 := ((Below.refl w4.heap.size w4).alloc (Nat.le_refl _) (Obj.cells #[.int .i64 (inverse t X).kind, .int .i64 (inverse t X).pos, .int .i64 (inverse t X).count, .slice fa fn fc] 31)).grown hgr (by simp) (fun k hk => by cases hk; exact Nat.le_refl _)
        have HU6 := Lib.hid (show LAmendmentS.Own w6 w.heap.size v6 (inverse t X :: acc) by
          obtain ⟨e1, e2, e3, e4⟩ := HHs.out
          refine ⟨LAmendmentS.hd (inverse t X) fa fn fc :: hs, hown, ?_, ?_⟩
          · exact Els.cons (e1.same fun i u j hu hj => hb7.block j (e1.lt i u j hu hj).2) (LAmendmentS.own_hd (Own.low (HO3.out.kept hb7) hb4.size))
          · refine (e2.other fun i u j hu hj e => ?_).cons (fun j hj e => ?_) (fun i u' j hu hj hj2 => ?_)
            · have h1 := e4 i u j hu hj
              have := HSZ5.out
              rcases hat2 with h' | h' <;> (rw [h'] at e; have := Option.some.inj e; omega)
            · have h1 := (HO3.out.lt j (LAmendmentS.holds_hd hj)).2
              rcases hat2 with h' | h' <;> (rw [h'] at e; have := Option.some.inj e; omega)
            · have h1 := (HO3.out.lt j (LAmendmentS.holds_hd hj2)).1
              have h2 := e4 i u' j hu hj
              omega)
        replace HO := Lib.hid (IsQ.below HO.out hb7)
        replace HIX := Lib.hid (LAmendment.IsQ.below (LAmendment.IsQ.below HIX.out hb5) hb7)
        obtain ⟨p0, p1, p2, p3⟩ := LAmendmentS.cells_hd (HAT.out.below LAmendmentS.kit.row hb7 HBL.out)
        have HAP := Lib.hid (AmP.l9Apply _ _ t X w6 HO.out HIX.out HGX.out (words_len HT.out.1) HFP.out)
        have hb8 := hb6.trans (hb7.mono hb6.size)
        clear hown hgrow hnn hat hat2 hgr hb7 hb5
        go_wp2_with fail
        refine HAP.out.mono ?_
        rintro e w8 ⟨v8, rfl, ho8, hb9⟩
        have HO8 := Lib.hid (Own.isQ ho8)
        have HU8 := Lib.hid (NOwn.kept HU6.out hb9)
        have hb10 := hb8.trans (hb9.mono hb8.size)
        clear ho8 hb9 p0 p1 p2 p3
        go_wp2_with fail
        go_roundw
        case rel => exact ⟨k + 1, _, _, by omega, by go_num, HTN2, HO8, HU8, by simp [hacc], hb10⟩
        case measure => simp [intOf]; omega
    · obtain rfl : k = n := by omega
      have HA := Lib.hid (AmU.yes (z0 := z0) (z1 := l) (r := acc) HG.out.1 HG.out.2 (by rw [← HT.out.2.2, af_end (by have := HN.out; omega)]) (by rw [← HT.out.2.1, fw_end (by have := HN.out; omega)]; rfl))
      go_wp2_with fail
      go_ret2
      exact ⟨_, _, true, rfl, HA.out, HU.out, hb⟩
set_option maxRecDepth 100000 in
set_option maxHeartbeats 6400000 in
theorem implQ (v0 : Value) (z0 : T) (v1 : Value) (l : List M) (w : World) (h0 : IsQ LString.rec w v0 z0) (f0 : ∀ x ∈ z0, LString.Fine x) (l0 : z0.length ≤ 1048576) (h1 : LAmendmentS.IsQ w v1 l) (f1 : ∀ x ∈ l, LAmendment.Fine x) (l1 : l.length ≤ 1048576) :
    Calls Try.prog 38 #[v0, v1] w (Post z0 l w) := by
  have HI := Lib.hid h0
  have HL := Lib.hid h1
  have HT1 := Lib.hid (fun w2 (hb : Below w.heap.size w w2) => isText v0 z0 w2 (IsQ.is (IsQ.below HI.out hb)) f0)
  have HT2 := Lib.hid (fun w2 (hb : Below w.heap.size w w2) => areAmendments v1 l w2 (NIsQ.is (NIsQ.below HL.out hb)) f1)
  have hc := LAmendmentS.getQ h1
  obtain ⟨a, cp, rfl, hnb, h2⟩ := (NIsQ.is h1).form
  unfold maxLen at h2
  obtain ⟨n, hn⟩ : ∃ n, n = l.length := ⟨_, rfl⟩
  have HN := Lib.hid hn.symm
  have HF := Lib.hid f1
  rw [← hn] at hc hnb HT2 ⊢
  have hle : n ≤ l.length := by omega
  obtain ⟨ao, tn, tc, rfl⟩ := isq_slice h0
  obtain ⟨ht0, htc, htm⟩ := isq_len h0
  unfold maxLen at htm
  have HTN := Lib.hid ht0
  clear hn h0 f0 h1 f1 ht0
  cases g1 : textB z0 with
  | false =>
    have HA := Lib.hid (AmU.no (z0 := z0) (z1 := l) (by rw [g1]; rfl))
    rw [g1] at HT1
    clear g1
    go_enter Try.func38, Try.ntmps38
    go_wp2_with fail
    refine (HT1.out _ (Below.refl _ _)).mono ?_
    rintro e _ ⟨rfl, rfl⟩
    have hb0 := Below.refl w.heap.size w
    go_wp2_with fail
    go_ret2
    exact ⟨_, [], false, rfl, HA.out, own_start0 hb0.size, hb0.alloc hb0.size _⟩
  | true =>
  rw [g1] at HT1
  cases g2 : goodL l with
  | false =>
    have HA := Lib.hid (AmU.no (z0 := z0) (z1 := l) (by rw [g1, g2]; rfl))
    rw [g2] at HT2
    clear g1 g2
    go_enter Try.func38, Try.ntmps38
    go_wp2_with fail
    refine (HT1.out _ (Below.refl _ _)).mono ?_
    rintro e _ ⟨rfl, rfl⟩
    go_wp2_with fail
    refine (HT2.out _ (Below.refl _ _)).mono ?_
    rintro e w1 ⟨rfl, hb1⟩
    go_wp2_with fail
    go_ret2
    exact ⟨_, [], false, rfl, HA.out, own_start0 hb1.size, hb1.alloc hb1.size _⟩
  | true =>
  rw [g2] at HT2
  have HG := Lib.hid (And.intro g1 g2)
  have hn8 : n ≤ 8 := by have := goodL_len g2; have := HN.out; omega
  have ht20 : tn ≤ 20 := by have := words_len g1; have := HTN.out; omega
  clear g1 g2
  obtain ⟨i3, hi3, hz30, hz31, hz32⟩ := info_parts infoA
  have HI3 := Lib.hid hi3
  have HZ3 := Lib.hid (And.intro hz30 (And.intro hz31 hz32))
  clear hi3 hz30 hz31 hz32
  go_enter Try.func38, Try.ntmps38
  go_wp2_with fail
  refine (HT1.out _ (Below.refl _ _)).mono ?_
  rintro e _ ⟨rfl, rfl⟩
  go_wp2_with fail
  refine (HT2.out _ (Below.refl _ _)).mono ?_
  rintro e w1 ⟨rfl, hb1⟩
  obtain ⟨W1, hW1⟩ : ∃ W1 : World, W1 = w1.alloc (Obj.cells #[] 31) := ⟨_, rfl⟩
  have hbx : Below w1.heap.size w1 W1 := by rw [hW1]; exact (Below.refl _ _).alloc (Nat.le_refl _) _
  have HU0 := Lib.hid (show LAmendmentS.Own W1 w.heap.size (.slice (some ⟨w1.heap.size, 0, none⟩) 0 0) [] by rw [hW1]; exact own_start0 hb1.size)
  have HO0 := Lib.hid (IsQ.below HI.out (hb1.trans (hbx.mono hb1.size)))
  have HD0 := Lib.hid (show ∀ j, (Value.slice ao tn tc).ownBlock = some j → (Value.slice (some ⟨w1.heap.size, 0, none⟩) 0 0).ownBlock ≠ some j from fun j hj e => by
    have h1 := isq_lt (IsQ.below HI.out hb1) j hj
    have h2 := Option.some.inj e
    simp only at h2
    omega)
  replace hb1 := hb1.trans (hbx.mono hb1.size)
  clear HT1 HT2 hbx
  go_upto_region 4 with fail
  rw [← hW1]
  clear hW1
  go_wp2_with fail
  go_loopw [0, 6, 23] (fun s0 s6 i wr => ∃ (k : Nat) (t : T) (acc : List M), k ≤ n ∧ i = .int .i64 k ∧ Hid (textB t = true ∧ acc ++ fw t (l.drop k) = fw z0 l ∧ af t (l.drop k) = af z0 l) ∧ Hid (IsQ LString.rec wr s0 t) ∧ Hid (LAmendmentS.Own wr w.heap.size s6 acc) ∧ Hid (∀ j, s0.ownBlock = some j → s6.ownBlock ≠ some j) ∧ acc.length = k ∧ Below w.heap.size w wr) (fun _ _ i _ => n - (intOf i).toNat)
  case atStart => exact ⟨0, z0, [], Nat.zero_le _, rfl, Lib.hid ⟨HG.out.1, rfl, rfl⟩, HO0, HU0, HD0, rfl, hb1⟩
  case round =>
    clear HO0 HU0 HD0 hb1
    obtain ⟨k, t, acc, hk, rfl, HT, HO, HU, HD, hacc, hb⟩ := hrel
    obtain ⟨ta, tl, tcp, rfl⟩ := isq_slice HO.out
    obtain ⟨ua, ucp, rfl, hul, hum⟩ := NOwn.form HU.out
    unfold maxLen at hum
    rw [hacc] at HU HD hul ⊢
    by_cases hlt : k < n
    · have k0 : 0 ≤ (k : Int) := by omega
      have k1 : (k : Int) < (n : Int) := by omega
      have hx : k < l.length := by omega
      obtain ⟨b, o, c, x, y, z, he, hbl, hat, hI⟩ := hc.out k l[k] (List.getElem?_eq_getElem hx)
      simp only [Value.slice.injEq] at he
      obtain ⟨rfl, -, rfl⟩ := he
      obtain ⟨q0, q1, q2, q3⟩ := LAmendmentS.cells_hd (hat.below LAmendmentS.kit.row hb hbl)
      have HAT := Lib.hid (hat.below LAmendmentS.kit.row hb hbl)
      have HBL := Lib.hid (Nat.lt_of_lt_of_le hbl hb.size)
      have HX := Lib.hid (List.getElem?_eq_getElem hx)
      have HFX := Lib.hid (HF.out _ (List.getElem_mem hx))
      have HIX := Lib.hid (LAmendment.IsQ.below hI hb)
      have HAX := Lib.hid (show ∀ j, (Value.slice x y z).ownBlock = some j → j < w.heap.size from fun j hj => by obtain ⟨s9, e9, h9⟩ := hI; simp only [Value.agg.injEq, Array.mk.injEq, List.cons.injEq, and_true] at e9; obtain ⟨_, _, _, rfl⟩ := e9; exact isq_lt h9 j hj)
      clear hat hI
      generalize l[k] = X at *
      have HGX := Lib.hid (goodL_all HG.out.2 X (List.mem_of_getElem? HX.out))
      obtain ⟨wa, hwa⟩ : ∃ wa : World, wa = wr.alloc (Obj.cells #[.int .i64 X.kind, .int .i64 X.pos, .int .i64 X.count, .slice x y z] 31) := ⟨_, rfl⟩
      obtain ⟨GX, hGX⟩ : ∃ G, G = wr.heap.size := ⟨_, rfl⟩
      have hba : Below wr.heap.size wr wa := by rw [hwa]; exact (Below.refl _ _).alloc (Nat.le_refl _) _
      have BX := Lib.hid (show Bx wa wr.heap.size 31 #[.int .i64 X.kind, .int .i64 X.pos, .int .i64 X.count, .slice x y z] by rw [hwa]; exact Bx.new _ _ _)
      have HLowU := Lib.hid (show ∀ j, (Value.slice ua k ucp).ownBlock = some j → w.heap.size ≤ j from fun j hj => by
        obtain ⟨hs, hr1, _⟩ := HU.out
        exact (hr1.lt j hj).1)
      have HAltX := HAX
      have hNX := Lib.hid (show (Value.slice ua k ucp).ownBlock ≠ some wr.heap.size from fun e => by
        obtain ⟨hs, hr1, _⟩ := HU.out
        have := (hr1.lt _ e).2
        omega)
      have hb2 := hb.trans (hba.mono hb.size)
      replace HO := Lib.hid (IsQ.below HO.out hba)
      replace HU := Lib.hid (NOwn.kept HU.out hba)
      replace HIX := Lib.hid (LAmendment.IsQ.below HIX.out hba)
      rw [← hGX] at BX hNX
      have HGl := Lib.hid (show GX < wa.heap.size by rw [hGX, hwa]; simp)
      have HC := Lib.hid (AmI.inverseI _ _ t X wa HO.out HIX.out (fine_words HT.out.1) HFX.out (by have := words_len HT.out.1; omega))
      go_upto_region 7 with fail
      rw [← hwa]
      clear hwa q0 q1 q2 q3 hba
      simp only [← hGX]
      clear hGX
      have x0 := BX.out.cell 0
      have x1 := BX.out.cell 1
      have x2 := BX.out.cell 2
      have x3 := BX.out.cell 3
      simp only [List.getElem?_toArray, List.getElem?_cons_zero, List.getElem?_cons_succ] at x0 x1 x2 x3
      go_wp2_with fail
      refine HC.out.mono ?_
      rintro e w3 ⟨v3, r0, r1, rfl, hans, ho3, hb3⟩
      obtain ⟨s3, rfl, ho3⟩ := ho3
      obtain ⟨fa, fn, fc, rfl⟩ := own_slice ho3
      have HAN := Lib.hid hans
      have HO3 := Lib.hid ho3
      replace BX := Lib.hid (BX.out.kept hb3)
      replace HO := Lib.hid (IsQ.below HO.out hb3)
      have HUlt := Lib.hid (show ∀ hs : List (Hd 4), Els LAmendmentS.kit (LAmendmentS.kit.Own wa w.heap.size) hs acc → ∀ (i : Nat) (u : Hd 4) (j : Nat), hs[i]? = some u → Holds u j → j < wa.heap.size from fun hs h i u j hu hj => (h.lt i u j hu hj).2)
      obtain ⟨hs, hr1, hr2, hr3⟩ := HU.out
      have hr2' := hr2.same (w' := w3) fun i u j hu hj => hb3.block j (hr2.lt i u j hu hj).2
      have HHs := Lib.hid (And.intro (hr1.kept hb3) (And.intro hr2' (And.intro hr3 (And.intro (show hs.length = k by rw [hr2.1, hacc]) (And.intro (HUlt.out hs hr2) (show ∀ j, (Value.slice ua k ucp).ownBlock = some j → j < wa.heap.size from fun j hj => (hr1.lt j hj).2))))))
      replace HIX := Lib.hid (LAmendment.IsQ.below HIX.out hb3)
      have hb4 := hb2.trans (hb3.mono hb2.size)
      have HSZ3 := Lib.hid hb3.size
      clear hans ho3 hb3 x0 x1 x2 x3 HU HUlt hr1 hr2 hr3 hr2'
      obtain ⟨wb, hwb⟩ : ∃ wb : World, wb = w3.alloc (Obj.cells #[.int .i64 r0.kind, .int .i64 r0.pos, .int .i64 r0.count, .slice fa fn fc] 31) := ⟨_, rfl⟩
      obtain ⟨GB, hGB⟩ : ∃ G, G = w3.heap.size := ⟨_, rfl⟩
      have hbb : Below w3.heap.size w3 wb := by rw [hwb]; exact (Below.refl _ _).alloc (Nat.le_refl _) _
      have BI := Lib.hid (show Bx wb w3.heap.size 31 #[.int .i64 r0.kind, .int .i64 r0.pos, .int .i64 r0.count, .slice fa fn fc] by rw [hwb]; exact Bx.new _ _ _)
      rw [← hGB] at BI
      replace BX := Lib.hid (BX.out.kept hbb)
      replace HO := Lib.hid (IsQ.below HO.out hbb)
      replace HIX := Lib.hid (LAmendment.IsQ.below HIX.out hbb)
      replace HO3 := Lib.hid (HO3.out.kept hbb)
      have HSZB := Lib.hid hbb.size
      replace HHs := Lib.hid (And.intro (HHs.out.1.kept hbb) (And.intro (HHs.out.2.1.same (w' := wb) fun i u j hu hj => hbb.block j (HHs.out.2.1.lt i u j hu hj).2) HHs.out.2.2))
      have hb5 := hb4.trans (hbb.mono hb4.size)
      go_upto_region 8 with fail
      rw [← hwb]
      clear hwb hbb hb4
      simp only [← hGB]
      clear hGB
      cases gf : fits t X with
      | false =>
        have HA := Lib.hid (AmU.no (z0 := z0) (z1 := l) (by rw [← HT.out.2.2, af_stop HX.out gf]; simp))
        obtain ⟨-, hr1⟩ := InverseAmendmentC.same HAN.out (AmI.no (z0 := t) (z1 := X) (by rw [gf]; simp))
        subst hr1
        clear gf
        go_wp2_with fail
        go_ret2
        exact ⟨_, [], false, rfl, HA.out, own_start0 hb5.size, hb5.alloc hb5.size _⟩
      | true =>
        have HTN2 := Lib.hid (show textB (apply t X) = true ∧ (acc ++ [inverse t X]) ++ fw (apply t X) (l.drop (k + 1)) = fw z0 l ∧ af (apply t X) (l.drop (k + 1)) = af z0 l from ⟨apply_text HT.out.1 HGX.out gf, by
          rw [← HT.out.2.1, fw_step HX.out]; simp, by rw [← HT.out.2.2, af_step HX.out gf]⟩)
        have HANS := Lib.hid (show (textB t && (good X && fits t X)) = true by rw [HT.out.1, HGX.out, gf]; rfl)
        obtain ⟨hr0, hr1⟩ := InverseAmendmentC.same HAN.out (AmI.yes HANS.out)
        subst hr0 hr1
        clear gf HAN
        have y0 := BI.out.cell 0
        have y1 := BI.out.cell 1
        have y2 := BI.out.cell 2
        have y3 := BI.out.cell 3
        simp only [List.getElem?_toArray, List.getElem?_cons_zero, List.getElem?_cons_succ] at y0 y1 y2 y3
        have hbc : Below wb.heap.size wb (wb.alloc (Obj.cells #[.int .i64 (inverse t X).kind, .int .i64 (inverse t X).pos, .int .i64 (inverse t X).count, .slice fa fn fc] 31)) := (Below.refl _ _).alloc (Nat.le_refl _) _
        have HRow := Lib.hid (HHs.out.1.kept hbc)
        have HElC := Lib.hid (HHs.out.2.1.same (w' := wb.alloc (Obj.cells #[.int .i64 (inverse t X).kind, .int .i64 (inverse t X).pos, .int .i64 (inverse t X).count, .slice fa fn fc] 31)) fun i u j hu hj => hbc.block j (HHs.out.2.1.lt i u j hu hj).2)
        have HO3C := Lib.hid (HO3.out.kept hbc)
        have HOC := Lib.hid (IsQ.below HO.out hbc)
        have HBXC := Lib.hid (BX.out.kept hbc)
        have HIXC := Lib.hid (fun (w9 : World) (h9 : Below wb.heap.size wb w9) => LAmendment.IsQ.below HIX.out h9)
        have hbC := hb5.trans (hbc.mono hb5.size)
        have HIXP := Lib.hid (LAmendment.IsQ.below HIX.out hbc)
        clear hbc
        go_wp2_with (at_builtin; refine wpList_append_o (T := LAmendmentS.kit.row) _ rfl (.tmp 36) (.tmp 38) 47 rfl w.heap.size 31 i3 (.agg #[.int .i64 0, .int .i64 0, .int .i64 0, .slice none 0 0]) 48 Try.underlying47 HI3.out HZ3.out.1 HZ3.out.2.1 HZ3.out.2.2 rfl _ _ rfl HRow.out (some ⟨wb.heap.size, 0, none⟩) 1 1 [LAmendmentS.hd (inverse t X) fa fn fc] rfl rfl (src_one (T := LAmendmentS.kit.row) (heap_alloc_new wb _)) (by have := HHs.out.2.2.2.1; unfold maxLen; omega) (by have := HHs.out.2.2.2.1; omega) hbC.size ?_)
        intro v6 w6 hown hgrow hnn hat
        have hgr : (wb.alloc (Obj.cells #[.int .i64 (inverse t X).kind, .int .i64 (inverse t X).pos, .int .i64 (inverse t X).count, .slice fa fn fc] 31)).grownBy w6 (Value.slice ua k ucp).ownBlock := hgrow
        have hat2 : v6.ownBlock = (Value.slice ua k ucp).ownBlock ∨ v6.ownBlock = some (wb.alloc (Obj.cells #[.int .i64 (inverse t X).kind, .int .i64 (inverse t X).pos, .int .i64 (inverse t X).count, .slice fa fn fc] 31)).heap.size := by
          rcases hat with h' | h'
          · exact .inl h'
          · exact .inr (by first | (rw [h']; done) | (rw [h']; simp))
        have HU6 := Lib.hid (show LAmendmentS.Own w6 w.heap.size v6 (acc ++ [inverse t X]) from NOwn.append (K := LAmendmentS.kit) HElC.out HHs.out.2.2.1 (LAmendmentS.own_hd (Own.low HO3C.out hb2.size)) (fun j hj e => by
            have h1 := (HO3.out.lt j (LAmendmentS.holds_hd hj)).1
            have h2 := HHs.out.2.2.2.2.2 j e
            omega) (fun i u' j hu hj hj2 => by
            have h1 := (HO3.out.lt j (LAmendmentS.holds_hd hj2)).1
            have h2 := HHs.out.2.2.2.2.1 i u' j hu hj
            omega) hown hgr hat2)
        have HO6 := Lib.hid (isq_besides HOC.out hgr HD.out)
        have HD6 := Lib.hid (show ∀ j, (Value.slice ta tl tcp).ownBlock = some j → v6.ownBlock ≠ some j from fun j hj e => by
          rcases hat2 with h' | h'
          · exact HD.out j hj (by rw [← h', e])
          · have h1 := isq_lt HOC.out j hj
            rw [h'] at e
            have := Option.some.inj e
            omega)
        have HV6 := Lib.hid (fun j (hj : v6.ownBlock = some j) => (hown.lt j hj).2)
        have BX6 := Lib.hid (box_besides HBXC.out hgr hNX.out)
        have HIQ6 := Lib.hid (show LAmendment.IsQ w6 (.agg #[.int .i64 X.kind, .int .i64 X.pos, .int .i64 X.count, .slice x y z]) X by
          obtain ⟨s9, e9, h9⟩ := HIXP.out
          have e10 : s9 = .slice x y z := by simp only [Value.agg.injEq, Array.mk.injEq, List.cons.injEq, and_true] at e9; exact e9.2.2.2.symm
          subst e10
          exact ⟨_, rfl, isq_besides h9 hgr fun j hj e => by
            have h1 := HAltX.out j hj
            have h2 := HLowU.out j e
            omega⟩)
        have hb6 := below_grown hbC hgr hbC.size (fun j hj => HLowU.out j hj)
        clear hown hgrow hnn hat hgr hat2 y0 y1 y2 y3
        have x0 := BX6.out.cell 0
        have x1 := BX6.out.cell 1
        have x2 := BX6.out.cell 2
        have x3 := BX6.out.cell 3
        simp only [List.getElem?_toArray, List.getElem?_cons_zero, List.getElem?_cons_succ] at x0 x1 x2 x3
        have HAP := Lib.hid (ApplyAmendmentC.implQ _ _ t X w6 HO6.out HIQ6.out (fine_words HT.out.1) HFX.out (by have := words_len HT.out.1; omega))
        go_wp2_with fail
        refine HAP.out.mono ?_
        rintro e w8 ⟨v8, r0, r1, rfl, hans, ho8, hb9⟩
        obtain ⟨hr0, hr1⟩ := ApplyAmendmentC.same hans (ApplyAmendmentC.yes HANS.out)
        subst hr0 hr1
        have HO8 := Lib.hid (Own.isQ ho8)
        have HU8 := Lib.hid (NOwn.kept HU6.out hb9)
        have HD8 := Lib.hid (show ∀ j, v8.ownBlock = some j → v6.ownBlock ≠ some j from fun j hj e => by
          have h1 := (ho8.lt j hj).1
          have h2 := HV6.out j e
          omega)
        have hb10 := hb6.trans (hb9.mono hb6.size)
        clear hans ho8 hb9 x0 x1 x2 x3
        go_wp2_with fail
        go_roundw
        case rel => exact ⟨k + 1, _, _, by omega, by go_num, HTN2, HO8, HU8, HD8, by simp [hacc], hb10⟩
        case measure => simp [intOf]; omega
    · obtain rfl : k = n := by omega
      have HA := Lib.hid (AmU.yes (z0 := z0) (z1 := l) (r := acc.reverse) HG.out.1 HG.out.2 (by rw [← HT.out.2.2, af_end (by have := HN.out; omega)]) (by rw [← HT.out.2.1, fw_end (by have := HN.out; omega), List.append_nil]))
      have HRV := Lib.hid (show ∃ hs, Bs.Own LAmendmentS.kit.row 31 wr w.heap.size (.slice ua k ucp) hs ∧ Els LAmendmentS.kit (LAmendmentS.kit.Own wr w.heap.size) hs acc ∧ Sep LAmendmentS.kit (.slice ua k ucp) hs from HU.out)
      obtain ⟨hs, hr1, hr2, hr3⟩ := HRV.out
      have HRC := Lib.hid (LAmendmentS.reverse _ hs wr hr1 (by rw [hr2.1, hacc]; omega) (fun u hu => by
        obtain ⟨i, hi, rfl⟩ := List.getElem_of_mem hu
        have hx : i < acc.length := by rw [← hr2.1]; exact hi
        obtain ⟨a9, l9, c9, e9, _⟩ := LAmendmentS.own_form (hr2.2 i _ _ (List.getElem?_eq_getElem hi) (List.getElem?_eq_getElem hx))
        exact ⟨_, a9, l9, c9, e9⟩))
      have HPK := Lib.hid (And.intro hr2 (And.intro hr3 (fun j (hj : (Value.slice ua k ucp).ownBlock = some j) => (hr1.lt j hj).1)))
      clear hr1 hr2 hr3
      go_wp2_with fail
      refine HRC.out.mono ?_
      rintro e w3 ⟨rfl, hrev, hgr⟩
      have HFin := Lib.hid (show LAmendmentS.Own w3 w.heap.size (.slice ua k ucp) acc.reverse from ⟨hs.reverse, hrev, Els.reverse (HPK.out.1.same fun i u j hu hj => hgr.block j (HPK.out.1.lt i u j hu hj).2 (fun e => HPK.out.2.1.1 i u j hu hj e.symm)), Sep.reverse HPK.out.2.1⟩)
      have hb4 := below_grown hb hgr hb.size HPK.out.2.2
      clear hrev hgr
      go_wp2_with fail
      go_ret2
      exact ⟨_, _, true, rfl, HA.out, HFin.out, hb4⟩
theorem spec (v0 : Value) (z0 : T) (v1 : Value) (z1 : List M) (w : World) (h0 : IsS LString.rec w v0 z0) (f0 : ∀ x ∈ z0, LString.Fine x) (l0 : z0.length ≤ 1048576) (h1 : LAmendmentS.IsS w v1 z1) (f1 : ∀ x ∈ z1, LAmendmentS.Fine x) (l1 : z1.length ≤ 1048576) :
    Calls Try.prog 37 #[v0, v1] w (Post z0 z1 w) := specQ v0 z0 v1 z1 w (.inr h0) f0 l0 (NIsS.isQ h1) f1 l1
theorem impl (v0 : Value) (z0 : T) (v1 : Value) (z1 : List M) (w : World) (h0 : IsS LString.rec w v0 z0) (f0 : ∀ x ∈ z0, LString.Fine x) (l0 : z0.length ≤ 1048576) (h1 : LAmendmentS.IsS w v1 z1) (f1 : ∀ x ∈ z1, LAmendmentS.Fine x) (l1 : z1.length ≤ 1048576) :
    Calls Try.prog 38 #[v0, v1] w (Post z0 z1 w) := implQ v0 z0 v1 z1 w (.inr h0) f0 l0 (NIsS.isQ h1) f1 l1
end Go.Proofs.Ytfkppgnffhbfjaa.UndoAmendmentsC
