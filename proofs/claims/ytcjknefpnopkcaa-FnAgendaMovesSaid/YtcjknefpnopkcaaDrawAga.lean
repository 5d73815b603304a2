/- The draws of the arguments of chapter 5. No condition. -/
import Derived.Test.YtcjknefpnopkcaaDrawAgs
namespace Go.Proofs.Ytcjknefpnopkcaa.DrawAg
open Go.RowKit Cur Bs Draw
set_option linter.unusedVariables false
theorem below_end {w W0 w' : World} {B : Nat} {a : Option Addr} {len cap : Nat} (hB : w.heap.size = B) (hW : w.alloc (.cells #[.slice a len cap, .int .i64 0, .int .u64 0] 89) = W0) (hg : W0.grownBy w' (some B)) : Below w.heap.size w w' := by
  subst hB hW
  exact below_cur hg
def LstArgs (w : World) (e : Ending) (w' : World) : Prop := ∃ (z : List M) (g c : Nat), e = .returned (.slice (some ⟨g, 0, none⟩) z.length c) ∧ Own LAgendaItem.rec 61 w' w.heap.size (.slice (some ⟨g, 0, none⟩) z.length c) z ∧ Short z ∧ z.length ≤ 11 ∧ Below w.heap.size w w'
def TimArgs (w : World) (e : Ending) (w' : World) : Prop := ∃ (z : List M) (g c : Nat) (x : Int), e = .returned (.tuple #[.slice (some ⟨g, 0, none⟩) z.length c, .int .i64 x]) ∧ Own LAgendaItem.rec 61 w' w.heap.size (.slice (some ⟨g, 0, none⟩) z.length c) z ∧ Short z ∧ z.length ≤ 11 ∧ -1 ≤ x ∧ x ≤ 1440 ∧ Below w.heap.size w w'
def UntArgs (w : World) (e : Ending) (w' : World) : Prop := ∃ (z : List M) (g c : Nat) (x y : Int), e = .returned (.tuple #[.slice (some ⟨g, 0, none⟩) z.length c, .int .i64 x, .int .i64 y]) ∧ Own LAgendaItem.rec 61 w' w.heap.size (.slice (some ⟨g, 0, none⟩) z.length c) z ∧ Short z ∧ z.length ≤ 11 ∧ -1 ≤ x ∧ x ≤ 1440 ∧ -2 ≤ y ∧ y ≤ 10001 ∧ Below w.heap.size w w'
def MvArgs (w : World) (e : Ending) (w' : World) : Prop := ∃ (z : List M) (g c : Nat) (x y : Int), e = .returned (.tuple #[.slice (some ⟨g, 0, none⟩) z.length c, .int .i64 x, .int .i64 y]) ∧ Own LAgendaItem.rec 61 w' w.heap.size (.slice (some ⟨g, 0, none⟩) z.length c) z ∧ Short z ∧ z.length ≤ 11 ∧ -1 ≤ y ∧ y ≤ z.length ∧ Below w.heap.size w w'
theorem drawIsValidAgenda (a : Option Addr) (len cap : Nat) (zs : List Int) (w : World) (h : Frame.IsRow .u8 w a len cap zs) (hl : len ≤ 65536) :
    Calls Try.prog 89 #[.slice a len cap] w (LstArgs w) := by
  have HC := Lib.hid (cur_new h hl)
  have hz : w.heap.size + 1 ≤ (w.alloc (.cells #[.slice a len cap, .int .i64 0, .int .u64 0] 89)).heap.size := by simp
  clear h
  go_enter Try.func89, Try.ntmps89
  go_wp2_with fail
  generalize hWW : w.alloc (.cells #[.slice a len cap, .int .i64 0, .int .u64 0] 89) = W0 at *
  have HWW := Lib.hid hWW
  generalize hB0 : w.heap.size = B at *
  have HB0 := Lib.hid hB0
  clear hWW hB0
  refine (agenda B 0 _ HC.out (by omega)).mono ?_
  rintro e w1 ⟨z, g, c, rfl, hv, hsh, hzl, hl1⟩
  have HV := Lib.hid hv
  have HSh := Lib.hid hsh
  have HL := Lib.hid hl1
  have HA := Lib.hid hl1.low
  clear hv hsh hl1 HC
  go_wp2_with fail
  have HVl := Lib.hid (HV.out.low (show B ≤ W0.heap.size by omega))
  have hbl := below_end HB0.out HWW.out HL.out.grown
  go_ret
  exact ⟨z, g, c, rfl, by rw [HB0.out]; exact HVl.out, HSh.out, hzl, hbl⟩
theorem drawOrderItems (a : Option Addr) (len cap : Nat) (zs : List Int) (w : World) (h : Frame.IsRow .u8 w a len cap zs) (hl : len ≤ 65536) :
    Calls Try.prog 44 #[.slice a len cap] w (LstArgs w) := by
  have HD := Lib.hid (drawIsValidAgenda a len cap zs w h hl)
  clear h
  unfold LstArgs at HD
  go_enter Try.func44, Try.ntmps44
  go_wp2_with fail
  refine HD.out.mono ?_
  rintro e w1 ⟨z, g, c, rfl, hv, hsh, hzl, hb⟩
  have HV := Lib.hid hv
  have HSh := Lib.hid hsh
  clear hv hsh HD
  go_wp2_with fail
  go_ret
  exact ⟨z, g, c, rfl, HV.out, HSh.out, hzl, hb⟩
theorem drawItemTimes (a : Option Addr) (len cap : Nat) (zs : List Int) (w : World) (h : Frame.IsRow .u8 w a len cap zs) (hl : len ≤ 65536) :
    Calls Try.prog 94 #[.slice a len cap] w (TimArgs w) := by
  have HC := Lib.hid (cur_new h hl)
  have hz : w.heap.size + 1 ≤ (w.alloc (.cells #[.slice a len cap, .int .i64 0, .int .u64 0] 89)).heap.size := by simp
  clear h
  go_enter Try.func94, Try.ntmps94
  go_wp2_with fail
  generalize hWW : w.alloc (.cells #[.slice a len cap, .int .i64 0, .int .u64 0] 89) = W0 at *
  have HWW := Lib.hid hWW
  generalize hB0 : w.heap.size = B at *
  have HB0 := Lib.hid hB0
  clear hWW hB0
  refine (agenda B 0 _ HC.out (by omega)).mono ?_
  rintro e w1 ⟨z, g, c, rfl, hv, hsh, hzl, hl1⟩
  have HV := Lib.hid hv
  have HSh := Lib.hid hsh
  have HL := Lib.hid hl1
  have HA := Lib.hid hl1.low
  clear hv hsh hl1 HC
  go_wp2_with fail
  refine (minute5 B _ _ HL.out.cur (by omega)).mono ?_
  rintro e w2 ⟨x, rfl, hx0, hx1, hc2, hg2⟩
  have HV2 := Lib.hid (own_grown HV.out hg2 HA.out)
  have HL2 := Lib.hid (HL.out.draw hc2 hg2)
  clear hc2 hg2 HV HL
  go_wp2_with fail
  have HVl := Lib.hid (HV2.out.low (show B ≤ W0.heap.size by omega))
  have hbl := below_end HB0.out HWW.out HL2.out.grown
  go_ret2
  exact ⟨z, g, c, x, rfl, by rw [HB0.out]; exact HVl.out, HSh.out, hzl, hx0, hx1, hbl⟩
theorem drawLateItems (a : Option Addr) (len cap : Nat) (zs : List Int) (w : World) (h : Frame.IsRow .u8 w a len cap zs) (hl : len ≤ 65536) :
    Calls Try.prog 47 #[.slice a len cap] w (TimArgs w) := by
  have HD := Lib.hid (drawItemTimes a len cap zs w h hl)
  clear h
  unfold TimArgs at HD
  go_enter Try.func47, Try.ntmps47
  go_wp2_with fail
  refine HD.out.mono ?_
  rintro e w1 ⟨z, g, c, x, rfl, hv, hsh, hzl, hx0, hx1, hb⟩
  have HV := Lib.hid hv
  have HSh := Lib.hid hsh
  clear hv hsh HD
  go_wp2_with fail
  go_ret2
  exact ⟨z, g, c, x, rfl, HV.out, HSh.out, hzl, hx0, hx1, hb⟩
theorem drawItemsUntil (a : Option Addr) (len cap : Nat) (zs : List Int) (w : World) (h : Frame.IsRow .u8 w a len cap zs) (hl : len ≤ 65536) :
    Calls Try.prog 51 #[.slice a len cap] w (UntArgs w) := by
  have HC := Lib.hid (cur_new h hl)
  have hz : w.heap.size + 1 ≤ (w.alloc (.cells #[.slice a len cap, .int .i64 0, .int .u64 0] 89)).heap.size := by simp
  clear h
  go_enter Try.func51, Try.ntmps51
  go_wp2_with fail
  generalize hWW : w.alloc (.cells #[.slice a len cap, .int .i64 0, .int .u64 0] 89) = W0 at *
  have HWW := Lib.hid hWW
  generalize hB0 : w.heap.size = B at *
  have HB0 := Lib.hid hB0
  clear hWW hB0
  refine (agenda B 0 _ HC.out (by omega)).mono ?_
  rintro e w1 ⟨z, g, c, rfl, hv, hsh, hzl, hl1⟩
  have HV := Lib.hid hv
  have HSh := Lib.hid hsh
  have HL := Lib.hid hl1
  have HA := Lib.hid hl1.low
  clear hv hsh hl1 HC
  go_wp2_with fail
  refine (minute5 B _ _ HL.out.cur (by omega)).mono ?_
  rintro e w2 ⟨x, rfl, hx0, hx1, hc2, hg2⟩
  have HV2 := Lib.hid (own_grown HV.out hg2 HA.out)
  have HL2 := Lib.hid (HL.out.draw hc2 hg2)
  clear hc2 hg2 HV HL
  have y1 : IntKind.i64.wrap (x + 30) = x + 30 := IntWalk.i64_in _ (by omega)
  have y2 : IntKind.i64.wrap (x + 100) = x + 100 := IntWalk.i64_in _ (by omega)
  have y3 : IntKind.i64.wrap (x - 1) = x - 1 := IntWalk.i64_in _ (by omega)
  go_wp2_with fail
  refine (among_lit B _ [x, x + 30, x + 100, 700, 10000, x - 1, 10001] w2 HL2.out.cur (by omega) (by simp) (by simp)).mono ?_
  rintro e w3 ⟨y, hy, rfl, hc3, hg3⟩
  have HV3 := Lib.hid (own_grown HV2.out hg3 HA.out)
  have HL3 := Lib.hid (HL2.out.draw hc3 hg3)
  have hyb : -2 ≤ y ∧ y ≤ 10001 := by simp only [List.mem_cons, List.not_mem_nil, or_false] at hy; omega
  have HVl := Lib.hid (HV3.out.low (show B ≤ W0.heap.size by omega))
  have hbl := below_end HB0.out HWW.out HL3.out.grown
  clear hc3 hg3 HV2 HL2 hy y1 y2 y3
  go_wp2_with fail
  go_ret3
  exact ⟨z, g, c, x, y, rfl, by rw [HB0.out]; exact HVl.out, HSh.out, hzl, hx0, hx1, hyb.1, hyb.2, hbl⟩
set_option maxRecDepth 100000 in
set_option maxHeartbeats 1600000 in
theorem drawMoveItem (a : Option Addr) (len cap : Nat) (zs : List Int) (w : World) (h : Frame.IsRow .u8 w a len cap zs) (hl : len ≤ 65536) :
    Calls Try.prog 40 #[.slice a len cap] w (MvArgs w) := by
  have HC := Lib.hid (cur_new h hl)
  have hz : w.heap.size + 1 ≤ (w.alloc (.cells #[.slice a len cap, .int .i64 0, .int .u64 0] 89)).heap.size := by simp
  clear h
  go_enter Try.func40, Try.ntmps40
  go_wp2_with fail
  generalize hWW : w.alloc (.cells #[.slice a len cap, .int .i64 0, .int .u64 0] 89) = W0 at *
  have HWW := Lib.hid hWW
  generalize hB0 : w.heap.size = B at *
  have HB0 := Lib.hid hB0
  clear hWW hB0
  refine (agenda B 0 _ HC.out (by omega)).mono ?_
  rintro e w1 ⟨z, g, c, rfl, hv, hsh, hzl, hl1⟩
  have HV := Lib.hid hv
  have HSh := Lib.hid hsh
  have HL := Lib.hid hl1
  have HA := Lib.hid hl1.low
  clear hv hsh hl1 HC
  go_wp2_with fail
  refine (among_lit B _ [0, 1, 2, 50] w1 HL.out.cur (by omega) (by decide) (by decide)).mono ?_
  rintro e w2 ⟨i, _, rfl, hc2, hg2⟩
  have HV2 := Lib.hid (own_grown HV.out hg2 HA.out)
  have HL2 := Lib.hid (HL.out.draw hc2 hg2)
  obtain ⟨n, hn⟩ : ∃ n, n = z.length := ⟨_, rfl⟩
  have HN := Lib.hid hn.symm
  rw [← hn] at hzl HV2 ⊢
  clear hc2 hg2 HV HL hn
  go_upto_region 4 with fail
  go_cut [23] (fun tt wx => ∃ b : Bool, tt = .bool b ∧ (b = true → 0 < n) ∧ Hid (Own LAgendaItem.rec 61 wx W0.heap.size (.slice (some ⟨g, 0, none⟩) n c) z) ∧ Hid (Live B 300 W0 wx))
  case first =>
    by_cases hl1 : 0 < n
    · have hl1i : (0 : Int) < (n : Int) := by omega
      go_wp2_with fail
      refine (one B _ 8 _ HL2.out.cur (by omega) (by omega) (by omega)).mono ?_
      rintro e w3 ⟨b, rfl, hc3, hg3⟩
      have HO3 := Lib.hid (own_grown HV2.out hg3 HA.out)
      have HL3 := Lib.hid ((HL2.out.draw hc3 hg3).mono (m' := 300) (by omega))
      clear hc3 hg3 HV2 HL2
      go_wp2_with fail
      go_meet
      exact ⟨_, rfl, fun _ => hl1, HO3, HL3⟩
    · have hl1i : ¬ (0 : Int) < (n : Int) := by omega
      have HL3 := Lib.hid (HL2.out.mono (m' := 300) (by omega))
      go_wp2_with fail
      go_meet
      exact ⟨false, rfl, fun h => Bool.noConfusion h, HV2, HL3⟩
  case rest =>
  clear HV2 HL2
  obtain ⟨b, rfl, hb, HO, HL⟩ := hcut
  go_upto_if 23 with fail
  go_cut [7] (fun u wx => ∃ x : Int, u = .int .i64 x ∧ Hid (Own LAgendaItem.rec 61 wx W0.heap.size (.slice (some ⟨g, 0, none⟩) n c) z) ∧ Hid (Live B 310 W0 wx))
  case first =>
    cases b with
    | false =>
      have HL3 := Lib.hid (HL.out.mono (m' := 310) (by omega))
      go_wp2_with fail
      go_meet
      exact ⟨i, rfl, HO, HL3⟩
    | true =>
      have hl1 := hb rfl
      go_wp2_with fail
      refine (pick B _ (n : Int) _ HL.out.cur (by omega) (by omega) (by omega)).mono ?_
      rintro e w3 ⟨r, rfl, r0, r1, hc3, hg3⟩
      obtain ⟨k, rfl⟩ := Int.eq_ofNat_of_zero_le r0
      have HO3 := Lib.hid (own_grown HO.out hg3 HA.out)
      have HL3 := Lib.hid ((HL.out.draw hc3 hg3).mono (m' := 310) (by omega))
      have hk : k < z.length := by have := HN.out; omega
      obtain ⟨p0, p1, p2, p3⟩ := LAgendaItem.cells (Own.at_ HO3.out k z[k] (List.getElem?_eq_getElem hk))
      simp only [LAgendaItem.rec_n] at p0
      have k1 : (k : Int) < (n : Int) := by omega
      clear hc3 hg3 HO HL p1 p2 p3
      generalize z[k] = X at *
      go_wp2_with fail
      go_meet
      exact ⟨X.id, rfl, HO3, HL3⟩
  case rest =>
  clear HO HL
  obtain ⟨x, rfl, HO, HL⟩ := hcut
  have y1 : IntKind.i64.wrap ((n : Int) + 1) = (n : Int) + 1 := IntWalk.i64_in _ (by omega)
  go_wp2_with fail
  refine (pick B _ ((n : Int) + 1) _ HL.out.cur (by omega) (by omega) (by omega)).mono ?_
  rintro e w4 ⟨r, rfl, r0, r1, hc4, hg4⟩
  have HO4 := Lib.hid (own_grown HO.out hg4 HA.out)
  have HL4 := Lib.hid (HL.out.draw hc4 hg4)
  clear hc4 hg4 HO HL y1
  go_wp2_with fail
  refine (pick B _ 16 _ HL4.out.cur (by omega) (by omega) (by omega)).mono ?_
  rintro e w5 ⟨s, rfl, s0, s1, hc5, hg5⟩
  have HO5 := Lib.hid (own_grown HO4.out hg5 HA.out)
  have HL5 := Lib.hid (HL4.out.draw hc5 hg5)
  have hq : s.tdiv 15 = s / 15 := Int.tdiv_eq_ediv_of_nonneg s0
  have hw1 : IntKind.i64.wrap (s / 15) = s / 15 := IntWalk.i64_in _ (by omega)
  have hw2 : IntKind.i64.wrap (r - s / 15) = r - s / 15 := IntWalk.i64_in _ (by omega)
  have HVl := Lib.hid (HO5.out.low (show B ≤ W0.heap.size by omega))
  have hbl := below_end HB0.out HWW.out HL5.out.grown
  clear hc5 hg5 HO4 HL4
  go_wp2_with fail
  go_ret3
  exact ⟨z, g, c, x, r - s / 15, by rw [HN.out]; rfl, by rw [HN.out, HB0.out]; exact HVl.out, HSh.out, by rw [HN.out]; exact hzl, by omega, by rw [HN.out]; omega, hbl⟩
end Go.Proofs.Ytcjknefpnopkcaa.DrawAg
