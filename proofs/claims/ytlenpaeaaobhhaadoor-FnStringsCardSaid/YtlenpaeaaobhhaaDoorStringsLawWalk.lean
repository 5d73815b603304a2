/- FnStrings: the law's walk, for every code. -/
import Derived.Test.YtlenpaeaaobhhaaDoorVAt
import Derived.Test.YtlenpaeaaobhhaaDoorFlip
import Derived.Test.YtlenpaeaaobhhaaDoorDrawNum
import Derived.Test.YtlenpaeaaobhhaaDoorReadImpl
import Derived.Test.YtlenpaeaaobhhaaDoorFrame
import Derived.StillTailTactics
namespace Go.Proofs.YtlenpaeaaobhhaaDoor.fnStrings
open Go.RowKit NumMath
set_option linter.unusedVariables false

theorem isRow_below {k : IntKind} {w w' : World} {a : Option Addr} {len cap : Nat} {zs : List Int} (h : Frame.IsRow k w a len cap zs) (hb : Below w.heap.size w w') : Frame.IsRow k w' a len cap zs := by
  rcases h with h | ⟨x, rfl, h1, h2, h3, h4, h5⟩
  · exact .inl h
  · refine .inr ⟨x, rfl, h1, h2, h3, fun i hi => ?_, h5⟩
    have := h4 i hi
    rw [hb.cell (Cur.cell_lt this)]
    exact this
/-- what both FormatInts answer -/
theorem fmt_both (n : Int) : ∃ s ok, ((ok = true ∧ -999999 ≤ n ∧ n ≤ 999999 ∧ s = ⟨(Lib.itoa n).toArray⟩) ∨ (ok = false ∧ s = ⟨#[]⟩)) ∧
    (∀ w, Laid.Pow w → Calls Tryd.prog 10 #[.int .i64 n] w fun e w' => e = .returned (.tuple #[.string s, .bool ok]) ∧ Below w.heap.size w w') ∧
    (∀ w, Calls Tryd.prog 11 #[.int .i64 n] w fun e w' => e = .returned (.tuple #[.string s, .bool ok]) ∧ Below w.heap.size w w') := by
  by_cases h : -999999 ≤ n ∧ n ≤ 999999
  · refine ⟨_, true, .inl ⟨rfl, h.1, h.2, rfl⟩, fun w vp => Fmt.impl_yes n w h.1 h.2 vp, fun w => (Fmt.spec_yes n w h.1 h.2).mono ?_⟩
    rintro e w' ⟨he, k, rfl⟩
    exact ⟨he, Fmt.below_drewN w k⟩
  · refine ⟨_, false, .inr ⟨rfl, rfl⟩, fun w _ => (Fmt.impl_no n w h).mono ?_, fun w => (Fmt.spec_no n w h).mono ?_⟩
    all_goals
      rintro e w' ⟨he, rfl⟩
      exact ⟨he, Below.refl _ _⟩
/-- what both ParseInts answer -/
theorem parse_both (t : ByteArray) (ht : t.size ≤ 1048576) : ∃ v ok,
    (∀ w, Laid.Pow w → Laid.Err "strconv.ErrRange" w → Laid.Err "strconv.ErrSyntax" w → Calls Tryd.prog 13 #[.string t] w fun e w' => e = .returned (.tuple #[.int .i64 v, .bool ok]) ∧ Below w.heap.size w w') ∧
    (∀ w, Calls Tryd.prog 14 #[.string t] w fun e w' => e = .returned (.tuple #[.int .i64 v, .bool ok]) ∧ Below w.heap.size w w') := by
  have hm : t.size ≤ maxLen := by unfold maxLen; omega
  by_cases h : ∃ v, Numeral t.data.toList v
  · obtain ⟨v, hv⟩ := h
    exact ⟨v, true, fun w vp _ _ => Read.impl_yes t v w hv vp, fun w => Read.spec_yes t v w hm hv⟩
  · have h' : ∀ v, ¬ Numeral t.data.toList v := fun v hv => h ⟨v, hv⟩
    exact ⟨0, false, fun w vp vr vs => Read.impl_no t w (by omega) h' vp vr vs, fun w => Read.spec_no t w hm h'⟩
/-- what both AppendChecksums answer -/
theorem append_both (x : ByteArray) (hx : x.size ≤ 1048576) : ∃ y ok, ((ok = true ∧ Seal.Fine x ∧ y = ⟨(Seal.sealOf x.data.toList).toArray⟩) ∨ (ok = false ∧ y = ⟨#[]⟩)) ∧
    (∀ w, Laid.Pow w → Calls Tryd.prog 16 #[.string x] w fun e w' => e = .returned (.tuple #[.string y, .bool ok]) ∧ Below w.heap.size w w') ∧
    (∀ w, Calls Tryd.prog 17 #[.string x] w fun e w' => e = .returned (.tuple #[.string y, .bool ok]) ∧ Below w.heap.size w w') := by
  have hm : x.size ≤ maxLen := by unfold maxLen; omega
  by_cases h : Seal.Fine x
  · exact ⟨_, true, .inl ⟨rfl, h, rfl⟩, fun w vp => Seal.impl_yes x w h vp, fun w => Seal.spec_yes x w h⟩
  · exact ⟨_, false, .inr ⟨rfl, rfl⟩, fun w vp => Seal.impl_no x w hm h vp, fun w => Seal.spec_no x w hm h⟩

theorem seal_data (x : ByteArray) : (⟨(Seal.sealOf x.data.toList).toArray⟩ : ByteArray).data.toList = Seal.sealOf x.data.toList := by simp
theorem seal_pos (l : List UInt8) : 0 < (⟨(Seal.sealOf l).toArray⟩ : ByteArray).size := by
  show 0 < (Seal.sealOf l).toArray.size
  rw [List.size_toArray]
  unfold Seal.sealOf
  rw [List.length_append, List.length_cons]
  omega
theorem first_seal (x : ByteArray) (h : Seal.Fine x) : Verify.firstB ⟨(Seal.sealOf x.data.toList).toArray⟩ = x := by
  unfold Verify.firstB
  rw [seal_data]
  have : SplitMath.first (Seal.sealOf x.data.toList) 35 = x.data.toList := by
    unfold SplitMath.first Seal.sealOf
    have hn := Flip.no_mark h.1
    rw [List.takeWhile_append_of_pos (fun c hc => by simpa using hn c hc)]
    simp
  rw [this]
theorem ver_seal (x : ByteArray) (h : Seal.Fine x) : Verify.Ver ⟨(Seal.sealOf x.data.toList).toArray⟩ := by
  refine ⟨?_, ?_⟩
  · show (Seal.sealOf x.data.toList).toArray.size ≤ 4000
    rw [List.size_toArray]
    exact h.2
  · rw [first_seal x h, seal_data]
/-- the string with one byte turned is no checksummed one -/
theorem not_ver (x : ByteArray) (h : Seal.Fine x) (k : Nat) (v : UInt8) (hk : k < (Seal.sealOf x.data.toList).length) (hv : v ≠ (Seal.sealOf x.data.toList)[k]) : ¬ Verify.Ver ⟨((Seal.sealOf x.data.toList).set k v).toArray⟩ := by
  intro hver
  have h2 := hver.2
  have hd : (⟨((Seal.sealOf x.data.toList).set k v).toArray⟩ : ByteArray).data.toList = (Seal.sealOf x.data.toList).set k v := by simp
  rw [hd] at h2
  exact Flip.flipped x.data.toList _ k v h.1 (by rw [Verify.firstB_list]; exact SplitMath.first_has _ _) hk (fun e => hv e.symm) h2

theorem not_ver' (x y : ByteArray) (h : Seal.Fine x) (hy : y = ⟨(Seal.sealOf x.data.toList).toArray⟩) (k : Nat) (v : UInt8) (hk : k < y.size) (hv : v ≠ y.data.toList.getD k 0) : ¬ Verify.Ver ⟨(y.data.toList.set k v).toArray⟩ := by
  have hyl : y.data.toList = Seal.sealOf x.data.toList := by rw [hy]
  have hyn : y.data.toList.length = y.size := Array.length_toList
  have hk' : k < (Seal.sealOf x.data.toList).length := by rw [← hyl]; omega
  rw [hyl] at hv ⊢
  refine not_ver x h k v hk' ?_
  rwa [List.getD_eq_getElem?_getD, List.getElem?_eq_getElem hk', Option.getD_some] at hv
theorem set_cells {w : World} {B n : Nat} {l : List UInt8} (hn : l.length = n) (hc : ∀ j, j < n → w.cell? ⟨B, j, none⟩ = some (.int .u8 (l.getD j 0).toNat)) (k : Nat) (v : UInt8) (hk : k < n) :
    ∀ j (hj : j < (l.set k v).length), (w.setCell ⟨B, k, none⟩ (.int .u8 (v.toNat : Int))).drew.cell? ((⟨B, 0, none⟩ : Addr).add j) = some (.int .u8 ((l.set k v)[j].toNat : Int)) := by
  intro j hj
  have hj' : j < n := by rw [List.length_set] at hj; omega
  have e : ((⟨B, 0, none⟩ : Addr).add j) = ⟨B, 0 + j, none⟩ := Go.WideShapes.add_plain B 0 j
  rw [e, Nat.zero_add]
  show (w.setCell ⟨B, k, none⟩ (.int .u8 (v.toNat : Int))).cell? ⟨B, j, none⟩ = _
  by_cases hjk : k = j
  · subst hjk
    rw [World.cell?_setCell_same _ _ _ (hc k hk), List.getElem_set_self]
  · rw [World.cell?_setCell_other _ _ _ _ (fun h => hjk (Addr.mk.inj h).2.1), hc j hj', List.getElem_set_ne hjk]
    rw [List.getD_eq_getElem?_getD, List.getElem?_eq_getElem (by omega), Option.getD_some]
theorem run_back (w : World) (B n cap k : Nat) (l : List UInt8) (v : UInt8) (hn : l.length = n) (hc : ∀ j, j < n → w.cell? ⟨B, j, none⟩ = some (.int .u8 (l.getD j 0).toNat)) (hk : k < n) :
    (convert 22 9 (.slice (some ⟨B, 0, none⟩) n cap)).run Tryd.prog (w.setCell ⟨B, k, none⟩ (.int .u8 (v.toNat : Int))).drew = .ok (.string ⟨(l.set k v).toArray⟩) (w.setCell ⟨B, k, none⟩ (.int .u8 (v.toNat : Int))).drew := by
  have := run_convert_bytes_back (P := Tryd.prog) (w.setCell ⟨B, k, none⟩ (.int .u8 (v.toNat : Int))).drew 22 9 5 ⟨B, 0, none⟩ cap (l.set k v) Tryd.underlying22 Tryd.underlying5 Tryd.underlying9 (set_cells hn hc k v hk)
  rw [List.length_set, hn] at this
  exact this

set_option maxRecDepth 16000 in
set_option maxHeartbeats 1000000 in
theorem walk (a0 : Option Addr) (len0 cap0 : Nat) (z0 : List Int) (w : World) (sh : w.ShapedOpen Tryd.prog) (vp : Laid.Pow w) (vr : Laid.Err "strconv.ErrRange" w) (vs : Laid.Err "strconv.ErrSyntax" w) (w0 : Frame.IsRow .u8 w a0 len0 cap0 z0) :
    Calls Tryd.prog 3 #[.slice a0 len0 cap0] w fun e w' => e = .returned (.bool true) ∧ Below w.heap.size w w' := by
  have VM := Lib.hid (Verify.maxL_of sh)
  have VP := Lib.hid vp
  have VR := Lib.hid vr
  have VS := Lib.hid vs
  have H0 := Lib.hid w0
  clear sh vp vr vs w0
  by_cases hbig : 65536 < len0
  · go_enter Tryd.func3, Tryd.ntmps3
    go_wp2_with fail
    refine (VAt.vBig a0 len0 cap0 _ true (decide_eq_true (by omega))).mono ?_
    rintro e w' ⟨rfl, rfl⟩
    go_wp2_with fail
    go_ret
    exact ⟨rfl, Below.refl _ _⟩
  · have hl : len0 ≤ 65536 := by omega
    clear hbig
    go_enter Tryd.func3, Tryd.ntmps3
    go_wp2_with fail
    refine (VAt.vBig a0 len0 cap0 _ false (decide_eq_false (by omega))).mono ?_
    rintro e w' ⟨rfl, rfl⟩
    go_wp2_with fail
    refine (Draw.drawFormat a0 len0 cap0 z0 _ H0.out hl).mono ?_
    rintro e w1 ⟨n, rfl, n0, n1, hb1⟩
    obtain ⟨s, ok, hF, hFi, hFs⟩ := fmt_both n
    have HF := Lib.hid hF
    have HFI := Lib.hid hFi
    have HFS := Lib.hid hFs
    clear hF hFi hFs
    go_wp2_with fail
    refine (HFI.out _ (VP.out.below hb1)).mono ?_
    rintro e w2 ⟨rfl, hb2⟩
    have hb02 := hb1.trans (hb2.mono hb1.size)
    clear hb1 hb2
    go_wp2_with fail
    refine (HFS.out _).mono ?_
    rintro e w3 ⟨rfl, hb3⟩
    have hb03 := hb02.trans (hb3.mono hb02.size)
    clear hb02 hb3 HFI HFS
    go_wp2_with fail
    refine (Draw.drawParse a0 len0 cap0 z0 _ (isRow_below H0.out hb03) hl).mono ?_
    rintro e w4 ⟨t, rfl, ht, hb4⟩
    have hb04 := hb03.trans (hb4.mono hb03.size)
    clear hb03 hb4
    obtain ⟨m, fine, hPi, hPs⟩ := parse_both t (by omega)
    have HPI := Lib.hid hPi
    have HPS := Lib.hid hPs
    clear hPi hPs
    go_wp2_with fail
    refine (HPI.out _ (VP.out.below hb04) (VR.out.below hb04) (VS.out.below hb04)).mono ?_
    rintro e w5 ⟨rfl, hb5⟩
    have hb05 := hb04.trans (hb5.mono hb04.size)
    clear hb04 hb5
    go_wp2_with fail
    refine (HPS.out _).mono ?_
    rintro e w6 ⟨rfl, hb6⟩
    have hb06 := hb05.trans (hb6.mono hb05.size)
    clear hb05 hb6 HPI HPS
    go_wp2_with fail
    refine (Draw.drawAppend a0 len0 cap0 z0 _ (isRow_below H0.out hb06) hl).mono ?_
    rintro e w7 ⟨x, rfl, hx, hb7⟩
    have hb07 := hb06.trans (hb7.mono hb06.size)
    clear hb06 hb7
    obtain ⟨y, sealed, hA, hAi, hAs⟩ := append_both x (by omega)
    have HA := Lib.hid hA
    have HAI := Lib.hid hAi
    have HAS := Lib.hid hAs
    clear hA hAi hAs
    go_wp2_with fail
    refine (HAI.out _ (VP.out.below hb07)).mono ?_
    rintro e w8 ⟨rfl, hb8⟩
    have hb08 := hb07.trans (hb8.mono hb07.size)
    clear hb07 hb8
    go_wp2_with fail
    refine (HAS.out _).mono ?_
    rintro e w9 ⟨rfl, hb9⟩
    have hb09 := hb08.trans (hb9.mono hb08.size)
    clear hb08 hb9 HAI HAS
    have q1 : (ok != ok) = false := by simp
    have q2 : (fine != fine) = false := by simp
    have q3 : (sealed != sealed) = false := by simp
    go_wp2_with fail
    obtain ⟨v2, ok2, hback, hp10⟩ : ∃ v2 ok2, (ok = true → ok2 = true ∧ v2 = n) ∧ ∀ w, Laid.Pow w → Laid.Err "strconv.ErrRange" w → Laid.Err "strconv.ErrSyntax" w → Calls Tryd.prog 13 #[.string s] w fun e w' => e = .returned (.tuple #[.int .i64 v2, .bool ok2]) ∧ Below w.heap.size w w' := by
      rcases HF.out with ⟨_, a, b, rfl⟩ | ⟨hok, rfl⟩
      · exact ⟨n, true, fun _ => ⟨rfl, rfl⟩, fun w vp _ _ => Read.impl_yes _ n w ⟨a, b, by simp⟩ vp⟩
      · obtain ⟨v, o, h1, _⟩ := parse_both ⟨#[]⟩ (Nat.zero_le _)
        exact ⟨v, o, (fun h => by rw [hok] at h; cases h), h1⟩
    have HP10 := Lib.hid hp10
    have HBK := Lib.hid hback
    clear hp10 hback HF
    refine (HP10.out _ (VP.out.below hb09) (VR.out.below hb09) (VS.out.below hb09)).mono ?_
    rintro e w10 ⟨rfl, hb10⟩
    have hb010 := hb09.trans (hb10.mono hb09.size)
    clear hb09 hb10 HP10
    have hstep : ∀ (P : Prop), (ok = false → P) → (ok = true → ok2 = true → v2 = n → P) → P := fun P h1 h2 => by
      cases hk : ok with
      | false => exact h1 hk
      | true => exact h2 hk (HBK.out hk).1 (HBK.out hk).2
    rcases HA.out with ⟨rfl, hfine, hy⟩ | ⟨rfl, rfl⟩
    · have hv := ver_seal x hfine
      have hb := first_seal x hfine
      rw [← hy] at hv hb
      have HV := Lib.hid hv
      have HB := Lib.hid hb
      have HN := Lib.hid (not_ver' x y hfine hy)
      have HY := Lib.hid hy
      have hy1 : 0 < y.size := by rw [hy]; exact seal_pos x.data.toList
      have hy2 : y.size ≤ 4000 := hv.1
      clear hv hb hfine hy HA HBK
      refine hstep _ (fun e1 => ?_) (fun e1 e2 e3 => ?_)
      · subst e1
        clear hstep
        go_wp2_with fail
        refine (Verify.impl_yes y _ HV.out (VP.out.below hb010) (VM.out.below hb010)).mono ?_
        rintro e w11 ⟨rfl, hb11⟩
        have hb011 := hb010.trans (hb11.mono hb010.size)
        clear hb010 hb11
        rw [HB.out]
        have hcv := Lib.run_convert_string_bytes (P := Tryd.prog) w11 9 22 5 y Tryd.underlying9 Tryd.underlying22 Tryd.underlying5
        have hbw : Below w.heap.size w (Lib.bytesWorld w11 5 y) := hb011.trans ((Lib.bytesWorld_below w11 5 y).mono hb011.size)
        have hce : ∀ j, j < y.size → (Lib.bytesWorld w11 5 y).cell? ⟨w11.heap.size, j, none⟩ = some (.int .u8 (y.data.toList.getD j 0).toNat) := fun j hj => Lib.bytesWorld_cell w11 5 y j hj
        have hfz : ∀ j, j < y.size → (Lib.bytesWorld w11 5 y).frozen? ⟨w11.heap.size, j, none⟩ = false := fun j hj => VAt.bytes_frozen w11 5 y j hj
        have hBB : w.heap.size ≤ w11.heap.size := hb011.size
        generalize grownCap w11 y.size 0 5 = cap12 at hcv
        go_wp2_with fail
        clear hcv hb011
        generalize Lib.bytesWorld w11 5 y = w12 at *
        generalize w11.heap.size = B at *
        clear w11
        obtain ⟨r9, h90, h91, H9⟩ := VAt.vAt a0 len0 cap0 z0 w12 (isRow_below H0.out hbw) hl 9 (by omega)
        have H9' := Lib.hid H9
        clear H9
        refine (H9'.out w12 rfl).mono ?_
        rintro e w13 ⟨rfl, rfl⟩
        clear H9'
        go_wp2_with fail
        obtain ⟨k, hk⟩ := Int.eq_ofNat_of_zero_le (Int.emod_nonneg r9 (show (y.size : Int) ≠ 0 by omega))
        have hk2 : k < y.size := by
          have := Int.emod_lt_of_pos r9 (show (0 : Int) < y.size by omega)
          omega
        rw [hk]
        clear hk h90 h91
        obtain ⟨r10, h100, h101, H10⟩ := VAt.vAt a0 len0 cap0 z0 w13 (isRow_below H0.out hbw) hl 10 (by omega)
        have hck := hce k hk2
        have hfk := hfz k hk2
        have hm0 : (0 : Int) ≤ r10 % 255 := Int.emod_nonneg r10 (by omega)
        have hm1 : r10 % 255 < 255 := Int.emod_lt_of_pos r10 (by omega)
        obtain ⟨v, hv, hxor⟩ := VAt.xor_ne (y.data.toList.getD k 0) (1 + r10 % 255) (by omega) (by omega)
        have hcv2 := run_back w13 B y.size cap12 k y.data.toList v Array.length_toList hce hk2
        have hn2 := HN.out k v hk2 hv
        have hs2 : (⟨(y.data.toList.set k v).toArray⟩ : ByteArray).size = y.size := by
          show (y.data.toList.set k v).toArray.size = y.size
          rw [List.size_toArray, List.length_set]
          exact Array.length_toList
        have hb14 : Below w.heap.size w (w13.setCell ⟨B, k, none⟩ (.int .u8 (v.toNat : Int))).drew := (hbw.setCell (p := ⟨B, k, none⟩) hBB _).trans ((Fmt.below_drewN _ 1).mono (hbw.setCell (p := ⟨B, k, none⟩) hBB _).size)
        have H10' := Lib.hid H10
        have HN2 := Lib.hid hn2
        have HCV2 := Lib.hid hcv2
        have HS2 := Lib.hid hs2
        have HB14 := Lib.hid hb14
        clear hce hfz hv H10 hn2 hcv2 hs2 hb14 HN
        generalize y.data.toList.getD k 0 = yk at *
        generalize hy' : (⟨(y.data.toList.set k v).toArray⟩ : ByteArray) = y' at *
        clear hy'
        refine wp_region_still_tail 13 (by kernel_rfl) (by kernel_rfl) ?_
        simp only [List.take_succ_cons, List.take_zero, List.drop_succ_cons, List.drop_zero]
        repeat still_step
        still_call (H10'.out _ rfl)
        repeat still_step
        refine wpStill_nil ?_
        clear H10'
        have hcv2 := HCV2.out
        go_wp2_with fail
        clear hcv2 HCV2
        refine (Verify.impl_no y' _ (by have := HS2.out; omega) HN2.out (VP.out.below HB14.out) (VM.out.below HB14.out)).mono ?_
        rintro e w15 ⟨rfl, hb15⟩
        have hb015 := HB14.out.trans (hb15.mono HB14.out.size)
        clear hb15
        go_wp2_with fail
        go_ret
        exact ⟨rfl, hb015⟩
      · subst e1 e2 e3
        clear hstep
        go_wp2_with fail
        refine (Verify.impl_yes y _ HV.out (VP.out.below hb010) (VM.out.below hb010)).mono ?_
        rintro e w11 ⟨rfl, hb11⟩
        have hb011 := hb010.trans (hb11.mono hb010.size)
        clear hb010 hb11
        rw [HB.out]
        have hcv := Lib.run_convert_string_bytes (P := Tryd.prog) w11 9 22 5 y Tryd.underlying9 Tryd.underlying22 Tryd.underlying5
        have hbw : Below w.heap.size w (Lib.bytesWorld w11 5 y) := hb011.trans ((Lib.bytesWorld_below w11 5 y).mono hb011.size)
        have hce : ∀ j, j < y.size → (Lib.bytesWorld w11 5 y).cell? ⟨w11.heap.size, j, none⟩ = some (.int .u8 (y.data.toList.getD j 0).toNat) := fun j hj => Lib.bytesWorld_cell w11 5 y j hj
        have hfz : ∀ j, j < y.size → (Lib.bytesWorld w11 5 y).frozen? ⟨w11.heap.size, j, none⟩ = false := fun j hj => VAt.bytes_frozen w11 5 y j hj
        have hBB : w.heap.size ≤ w11.heap.size := hb011.size
        generalize grownCap w11 y.size 0 5 = cap12 at hcv
        go_wp2_with fail
        clear hcv hb011
        generalize Lib.bytesWorld w11 5 y = w12 at *
        generalize w11.heap.size = B at *
        clear w11
        obtain ⟨r9, h90, h91, H9⟩ := VAt.vAt a0 len0 cap0 z0 w12 (isRow_below H0.out hbw) hl 9 (by omega)
        have H9' := Lib.hid H9
        clear H9
        refine (H9'.out w12 rfl).mono ?_
        rintro e w13 ⟨rfl, rfl⟩
        clear H9'
        go_wp2_with fail
        obtain ⟨k, hk⟩ := Int.eq_ofNat_of_zero_le (Int.emod_nonneg r9 (show (y.size : Int) ≠ 0 by omega))
        have hk2 : k < y.size := by
          have := Int.emod_lt_of_pos r9 (show (0 : Int) < y.size by omega)
          omega
        rw [hk]
        clear hk h90 h91
        obtain ⟨r10, h100, h101, H10⟩ := VAt.vAt a0 len0 cap0 z0 w13 (isRow_below H0.out hbw) hl 10 (by omega)
        have hck := hce k hk2
        have hfk := hfz k hk2
        have hm0 : (0 : Int) ≤ r10 % 255 := Int.emod_nonneg r10 (by omega)
        have hm1 : r10 % 255 < 255 := Int.emod_lt_of_pos r10 (by omega)
        obtain ⟨v, hv, hxor⟩ := VAt.xor_ne (y.data.toList.getD k 0) (1 + r10 % 255) (by omega) (by omega)
        have hcv2 := run_back w13 B y.size cap12 k y.data.toList v Array.length_toList hce hk2
        have hn2 := HN.out k v hk2 hv
        have hs2 : (⟨(y.data.toList.set k v).toArray⟩ : ByteArray).size = y.size := by
          show (y.data.toList.set k v).toArray.size = y.size
          rw [List.size_toArray, List.length_set]
          exact Array.length_toList
        have hb14 : Below w.heap.size w (w13.setCell ⟨B, k, none⟩ (.int .u8 (v.toNat : Int))).drew := (hbw.setCell (p := ⟨B, k, none⟩) hBB _).trans ((Fmt.below_drewN _ 1).mono (hbw.setCell (p := ⟨B, k, none⟩) hBB _).size)
        have H10' := Lib.hid H10
        have HN2 := Lib.hid hn2
        have HCV2 := Lib.hid hcv2
        have HS2 := Lib.hid hs2
        have HB14 := Lib.hid hb14
        clear hce hfz hv H10 hn2 hcv2 hs2 hb14 HN
        generalize y.data.toList.getD k 0 = yk at *
        generalize hy' : (⟨(y.data.toList.set k v).toArray⟩ : ByteArray) = y' at *
        clear hy'
        refine wp_region_still_tail 13 (by kernel_rfl) (by kernel_rfl) ?_
        simp only [List.take_succ_cons, List.take_zero, List.drop_succ_cons, List.drop_zero]
        repeat still_step
        still_call (H10'.out _ rfl)
        repeat still_step
        refine wpStill_nil ?_
        clear H10'
        have hcv2 := HCV2.out
        go_wp2_with fail
        clear hcv2 HCV2
        refine (Verify.impl_no y' _ (by have := HS2.out; omega) HN2.out (VP.out.below HB14.out) (VM.out.below HB14.out)).mono ?_
        rintro e w15 ⟨rfl, hb15⟩
        have hb015 := HB14.out.trans (hb15.mono HB14.out.size)
        clear hb15
        go_wp2_with fail
        go_ret
        exact ⟨rfl, hb015⟩
    · clear HA HBK
      refine hstep _ (fun e1 => ?_) (fun e1 e2 e3 => ?_)
      · subst e1
        go_wp2_with fail
        go_ret
        exact ⟨rfl, hb010⟩
      · subst e1 e2 e3
        go_wp2_with fail
        go_ret
        exact ⟨rfl, hb010⟩
end Go.Proofs.YtlenpaeaaobhhaaDoor.fnStrings
