/- FnSplitJoin: the law's walk, for every code. -/
import Derived.Test.YtlenpaeaaobhhaaSplitAny
import Derived.Test.YtlenpaeaaobhhaaJoinAny
import Derived.Test.YtlenpaeaaobhhaaLessAny
import Derived.Test.YtlenpaeaaobhhaaSplitJoinMath
import Derived.Test.YtlenpaeaaobhhaaDrawJoin
import Derived.Test.YtlenpaeaaobhhaaFrame
namespace Go.Proofs.Ytlenpaeaaobhhaa.fnSplitJoin
open Go.RowKit Strs Elems
set_option linter.unusedVariables false

theorem isRow_below {k : IntKind} {w w' : World} {a : Option Addr} {len cap : Nat} {zs : List Int} (h : Frame.IsRow k w a len cap zs) (hb : Below w.heap.size w w') : Frame.IsRow k w' a len cap zs := by
  rcases h with h | ⟨x, rfl, h1, h2, h3, h4, h5⟩
  · exact .inl h
  · refine .inr ⟨x, rfl, h1, h2, h3, fun i hi => ?_, h5⟩
    have := h4 i hi
    rw [hb.cell (cell_lt this)]
    exact this
/-- what SplitString answers to a drawn string, and what joining that gives -/
def Good (s sep : ByteArray) (l : List (List UInt8)) (ok : Bool) : Prop :=
  (sep.size ≠ 1 ∧ l = [] ∧ ok = false) ∨ (∃ c, sep = ⟨#[c]⟩ ∧ ok = true ∧ l = SplitMath.splitOf s.data.toList c ∧ s.size ≤ 10)
theorem L_bs (l : List (List UInt8)) : Join.L (bs l) = l := by
  unfold Join.L bs
  rw [List.map_map]
  conv => rhs; rw [← List.map_id l]
  apply List.map_congr_left
  intro x _
  simp
theorem good_join {s : ByteArray} {c : UInt8} {r : ByteArray} {ok : Bool} (hs : s.size ≤ 10) (h : Join.Res (bs (SplitMath.splitOf s.data.toList c)) ⟨#[c]⟩ r ok) : r = s ∧ ok = true := by
  have hf := SplitJoinMath.split_fit s.data.toList c (by have : s.data.toList.length = s.size := Array.length_toList; omega)
  have h' : Join.Res (bs (SplitMath.splitOf s.data.toList c)) ⟨#[c]⟩ (Join.jn (bs (SplitMath.splitOf s.data.toList c)) c) true := .inl ⟨c, rfl, by rw [L_bs]; exact hf, rfl, rfl⟩
  obtain ⟨e1, e2⟩ := h'.uniq h
  refine ⟨?_, e2⟩
  rw [e1]
  unfold Join.jn
  rw [L_bs, SplitJoinMath.join_split]
theorem split_good (s sep : ByteArray) (hs : s.size ≤ 10) (w : World) : ∃ l ok, Good s sep l ok ∧ l.length ≤ 11 ∧ (∀ x ∈ bs l, x.size ≤ 1048576) ∧ Calls Try.prog 10 #[.string s, .string sep] w (SplitRes w l ok) := by
  by_cases h : sep.size = 1
  · obtain ⟨c, rfl⟩ := Join.one_byte h
    have hz : s.data.toList.length = s.size := Array.length_toList
    have hl := SplitMath.splitOf_length s.data.toList c
    refine ⟨_, true, .inr ⟨c, rfl, rfl, rfl, hs⟩, by omega, ?_, impl_res s c (by omega) w⟩
    intro x hx
    obtain ⟨y, hy, rfl⟩ := List.mem_map.1 hx
    have hf := SplitJoinMath.split_fit s.data.toList c (by omega)
    have h1 := JoinMath.join_len (SplitMath.splitOf s.data.toList c) [c] rfl hf.1
    rw [SplitJoinMath.join_split] at h1
    have h2 := SplitJoinMath.mem_tot _ _ hy
    show y.toArray.size ≤ _
    rw [List.size_toArray]
    omega
  · exact ⟨[], false, .inl ⟨h, rfl, rfl⟩, by simp, (fun x hx => by cases hx), impl_bad s sep (.inr h) (by unfold maxLen; omega) w⟩

set_option maxHeartbeats 1000000 in
theorem walk (a0 : Option Addr) (len0 cap0 : Nat) (z0 : List Int) (w : World) (sh : w.ShapedOpen Try.prog) (w0 : Frame.IsRow .u8 w a0 len0 cap0 z0) :
    Calls Try.prog 3 #[.slice a0 len0 cap0] w fun e w' => e = .returned (.bool true) ∧ Below w.heap.size w w' := by
  clear sh
  have H0 := Lib.hid w0
  clear w0
  by_cases hbig : 65536 < len0
  · go_enter Try.func3, Try.ntmps3
    go_wp2_with fail
    refine (LessAny.vBig a0 len0 cap0 _ true (decide_eq_true (by omega))).mono ?_
    rintro e w' ⟨rfl, rfl⟩
    go_wp2_with fail
    go_ret
    exact ⟨rfl, Below.refl _ _⟩
  · have hl : len0 ≤ 65536 := by omega
    clear hbig
    go_enter Try.func3, Try.ntmps3
    go_wp2_with fail
    refine (LessAny.vBig a0 len0 cap0 _ false (decide_eq_false (by omega))).mono ?_
    rintro e w' ⟨rfl, rfl⟩
    go_wp2_with fail
    refine (Draw.drawSplit a0 len0 cap0 z0 _ H0.out hl).mono ?_
    rintro e w1 ⟨s, sep, rfl, hs, hp, hb1⟩
    obtain ⟨l, ok, hG, hll, hxl, hcall⟩ := split_good s sep hs w1
    have HG := Lib.hid hG
    have HXL := Lib.hid hxl
    have HCALL := Lib.hid hcall
    clear hG hxl hcall
    go_wp2_with fail
    refine HCALL.out.mono ?_
    rintro e w2 ⟨g2, c2, rfl, hc2, ho2, hb2⟩
    rw [vals_bs] at ho2
    have HA2 := Lib.hid (strs_of_owns (bs_len l) ho2)
    have HLN := Lib.hid (bs_len l)
    have hb02 := hb1.trans (hb2.mono hb1.size)
    have H2 := Lib.hid (isRow_below H0.out hb02)
    clear ho2 hb2 hb1 HCALL H0
    go_wp2_with fail
    refine (Draw.drawJoin a0 len0 cap0 z0 _ H2.out hl).mono ?_
    rintro e w3 ⟨n3, a3, c3, xs, mark, rfl, hx1, hx2, hx3, hm3, hS3, hb3⟩
    have HX1 := Lib.hid hx1
    have HX3 := Lib.hid (show ∀ x ∈ xs, x.size ≤ 1048576 from fun x hx => Nat.le_trans (hx3 x hx) (by omega))
    have HS3 := Lib.hid hS3
    have HA3 := Lib.hid (HA2.out.below hb3)
    have H3 := Lib.hid (isRow_below H2.out hb3)
    have hb03 := hb02.trans (hb3.mono hb02.size)
    clear hx1 hx3 hS3 HA2 H2 hb3 hb02
    go_wp2_with fail
    refine (Join.impl_any _ n3 _ xs mark _ HX1.out HS3.out (by omega) HX3.out).mono ?_
    rintro e w4 ⟨r4, ok4, rfl, hr4, hb4⟩
    have HR4 := Lib.hid hr4
    have HS4 := Lib.hid (HS3.out.below hb4)
    have HA4 := Lib.hid (HA3.out.below hb4)
    have H4 := Lib.hid (isRow_below H3.out hb4)
    have hb04 := hb03.trans (hb4.mono hb03.size)
    clear hr4 HS3 HA3 H3 hb4 hb03
    go_wp2_with fail
    refine (Join.spec_any _ n3 _ xs mark _ HX1.out HS4.out HX3.out).mono ?_
    rintro e w5 ⟨r5, ok5, rfl, hr5, hb5⟩
    obtain ⟨rfl, rfl⟩ := HR4.out.uniq hr5
    have HA5 := Lib.hid (HA4.out.below hb5)
    have H5 := Lib.hid (isRow_below H4.out hb5)
    have hb05 := hb04.trans (hb5.mono hb04.size)
    clear hr5 HR4 HS4 HA4 H4 hb5 hb04
    go_wp2_with fail
    refine (Draw.drawLess a0 len0 cap0 z0 _ H5.out hl).mono ?_
    rintro e w6 ⟨x6, y6, rfl, hx6, hy6, hb6⟩
    have HA6 := Lib.hid (HA5.out.below hb6)
    have hb06 := hb05.trans (hb6.mono hb05.size)
    clear HA5 H5 hb6 hb05 hx6 hy6
    have HAS := Lib.hid (LessAny.less_asym x6.toList y6.toList)
    have HLT : Hid (LessAny.lt x6 y6 = true → LessAny.lt y6 x6 = false) := HAS.out
    clear HAS HX1 HX3
    rcases HG.out with ⟨hsep, rfl, rfl⟩ | ⟨c, rfl, rfl, rfl, hs10⟩
    · have hs1 : ((sep.size : Int) != 1) = true := by rw [bne_iff_ne]; omega
      clear hsep HG
      cases hlt : LessAny.lt x6 y6 with
      | true =>
        have HT := Lib.hid hlt
        have HF := Lib.hid (HLT.out hlt)
        clear hlt HLT
        cases ok5
        all_goals
          go_wp2_with fail
          refine (LessAny.impl_less x6 y6 _).mono ?_
          rintro e w' ⟨rfl, rfl⟩
          rw [HT.out]
          go_wp2_with fail
          refine (LessAny.spec_less x6 y6 _).mono ?_
          rintro e w' ⟨rfl, rfl⟩
          rw [HT.out]
          go_wp2_with fail
          refine (LessAny.impl_less x6 y6 _).mono ?_
          rintro e w' ⟨rfl, rfl⟩
          rw [HT.out]
          go_wp2_with fail
          refine (LessAny.impl_less y6 x6 _).mono ?_
          rintro e w' ⟨rfl, rfl⟩
          rw [HF.out]
          go_wp2_with fail
          go_ret
          exact ⟨rfl, hb06⟩
      | false =>
        have HT := Lib.hid hlt
        clear hlt HLT
        cases ok5
        all_goals
          go_wp2_with fail
          refine (LessAny.impl_less x6 y6 _).mono ?_
          rintro e w' ⟨rfl, rfl⟩
          rw [HT.out]
          go_wp2_with fail
          refine (LessAny.spec_less x6 y6 _).mono ?_
          rintro e w' ⟨rfl, rfl⟩
          rw [HT.out]
          go_wp2_with fail
          refine (LessAny.impl_less x6 y6 _).mono ?_
          rintro e w' ⟨rfl, rfl⟩
          rw [HT.out]
          go_wp2_with fail
          go_ret
          exact ⟨rfl, hb06⟩
    · clear HG
      generalize hl2 : (SplitMath.splitOf s.data.toList c).length = n2 at *
      have HN2 := Lib.hid hl2
      clear hl2
      have HJ := Lib.hid (Join.impl_any (some ⟨g2, 0, none⟩) n2 c2 (bs (SplitMath.splitOf s.data.toList c)) ⟨#[c]⟩ w6 HLN.out HA6.out (by omega) HXL.out)
      cases hlt : LessAny.lt x6 y6 with
      | true =>
        have HT := Lib.hid hlt
        have HF := Lib.hid (HLT.out hlt)
        clear hlt HLT
        cases ok5
        all_goals
          go_wp2_with fail
          refine (LessAny.impl_less x6 y6 _).mono ?_
          rintro e w' ⟨rfl, rfl⟩
          rw [HT.out]
          go_wp2_with fail
          refine (LessAny.spec_less x6 y6 _).mono ?_
          rintro e w' ⟨rfl, rfl⟩
          rw [HT.out]
          go_wp2_with fail
          refine (LessAny.impl_less x6 y6 _).mono ?_
          rintro e w' ⟨rfl, rfl⟩
          rw [HT.out]
          go_wp2_with fail
          refine (LessAny.impl_less y6 x6 _).mono ?_
          rintro e w' ⟨rfl, rfl⟩
          rw [HF.out]
          go_wp2_with fail
          refine HJ.out.mono ?_
          rintro e w7 ⟨r7, ok7, rfl, hr7, hb7⟩
          obtain ⟨rfl, rfl⟩ := good_join hs10 hr7
          have hb07 := hb06.trans (hb7.mono hb06.size)
          clear hr7 hb7
          go_wp2_with fail
          go_ret
          exact ⟨rfl, hb07⟩
      | false =>
        have HT := Lib.hid hlt
        clear hlt HLT
        cases ok5
        all_goals
          go_wp2_with fail
          refine (LessAny.impl_less x6 y6 _).mono ?_
          rintro e w' ⟨rfl, rfl⟩
          rw [HT.out]
          go_wp2_with fail
          refine (LessAny.spec_less x6 y6 _).mono ?_
          rintro e w' ⟨rfl, rfl⟩
          rw [HT.out]
          go_wp2_with fail
          refine (LessAny.impl_less x6 y6 _).mono ?_
          rintro e w' ⟨rfl, rfl⟩
          rw [HT.out]
          go_wp2_with fail
          refine HJ.out.mono ?_
          rintro e w7 ⟨r7, ok7, rfl, hr7, hb7⟩
          obtain ⟨rfl, rfl⟩ := good_join hs10 hr7
          have hb07 := hb06.trans (hb7.mono hb06.size)
          clear hr7 hb7
          go_wp2_with fail
          go_ret
          exact ⟨rfl, hb07⟩
end Go.Proofs.Ytlenpaeaaobhhaa.fnSplitJoin
