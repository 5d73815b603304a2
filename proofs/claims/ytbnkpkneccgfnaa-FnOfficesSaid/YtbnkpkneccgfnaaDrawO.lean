/- The draws of chapter 3 about offices: a member's number, numbers of members, the arguments of GiveOffice, HolderOf, PresidingMember. No condition. -/
import Derived.Test.YtbnkpkneccgfnaaDrawMs
import Derived.Test.YtbnkpkneccgfnaaLIntK
import Derived.Test.YtbnkpkneccgfnaaLIntZ
namespace Go.Proofs.Ytbnkpkneccgfnaa.Draw
open Go.RowKit Cur Bs Mem
set_option linter.unusedVariables false
theorem somei {w : World} {A : Nat} {v : Value} {z : List Int} {r : Int} (h : Own LInt.rec 3 w A v (z ++ [r])) : ∃ g, v.ownBlock = some g := by
  rcases h.shape with ⟨_, h0⟩ | ⟨g, cap, rfl, _⟩
  · simp at h0
  · exact ⟨g, rfl⟩
def NumOf (w : World) (B m : Nat) (e : Ending) (w' : World) : Prop := ∃ x : Int, e = .returned (.int .i64 x) ∧ Cur w' B m ∧ w.grownBy w' (some B)
set_option maxRecDepth 100000 in
set_option maxHeartbeats 1600000 in
theorem memberNumber (B m A : Nat) (v : Value) (z : List M) (w : World) (h : Cur w B m) (hm : m < 700000) (hv : Own LMember.rec 97 w A v z) (hA : B < A) (hl : z.length ≤ 14) : Calls Try.prog 73 #[.pointer (some ⟨B, 0, none⟩), v] w (NumOf w B (m + 10)) := by
  have HC := Lib.hid h
  have HV := Lib.hid hv
  obtain ⟨l, hll⟩ : ∃ l, l = z.length := ⟨_, rfl⟩
  have HLn := Lib.hid hll.symm
  have hsh : ∃ a cp, v = .slice a l cp ∧ (0 < l → ∃ g, a = some ⟨g, 0, none⟩ ∧ g ≠ B) ∧ l ≤ cp ∧ cp ≤ maxLen := by
    rcases hv.shape with ⟨rfl, hz⟩ | ⟨g, cap, rfl, hg1, hg2, hcap, hcm⟩
    · exact ⟨none, 0, by rw [hll, hz]; rfl, fun h0 => by rw [hll, hz] at h0; simp at h0, by rw [hll, hz]; simp, Nat.zero_le _⟩
    · exact ⟨_, cap, by rw [hll], fun _ => ⟨g, rfl, by omega⟩, by omega, hcm⟩
  obtain ⟨a, cp, rfl, hag, hcp, hcm⟩ := hsh
  unfold maxLen at hcm
  have hl14 : l ≤ 14 := by omega
  clear h hv hll hl
  by_cases h0 : l = 0
  · subst h0
    clear hag
    have hz2 : ((0 : Int) == 0) = true := rfl
    go_enter Try.func73, Try.ntmps73
    go_wp2_with fail
    refine (among_lit B m [0, 1, 5, 50] w HC.out (by omega) (by decide) (by decide)).mono ?_
    rintro e w1 ⟨x, _, rfl, hc1, hg1⟩
    have HC1 := Lib.hid hc1
    clear hc1
    go_wp2_with fail
    go_ret
    exact ⟨x, rfl, HC1.out.mono (by omega), hg1⟩
  · obtain ⟨g, rfl, hgB⟩ := hag (by omega)
    have hz2 : ((l : Int) == 0) = false := by rw [beq_eq_false_iff_ne]; omega
    have hz3 : (l == 0) = false := by rw [beq_eq_false_iff_ne]; omega
    clear hag
    go_enter Try.func73, Try.ntmps73
    go_wp2_with fail
    refine (one B m 8 _ HC.out (by omega) (by omega) (by omega)).mono ?_
    rintro e w1 ⟨b, rfl, hc1, hg1⟩
    have HV1 := Lib.hid (own_grown HV.out hg1 hA)
    have HC1 := Lib.hid hc1
    clear hc1 HC HV
    cases b with
    | true =>
      go_wp2_with fail
      refine (among_lit B _ [0, 1, 5, 50] w1 HC1.out (by omega) (by decide) (by decide)).mono ?_
      rintro e w2 ⟨x, _, rfl, hc2, hg2⟩
      have HC2 := Lib.hid hc2
      have hgg := grown_trans hg1 hg2
      clear hc2
      go_wp2_with fail
      go_ret
      exact ⟨x, rfl, HC2.out.mono (by omega), hgg⟩
    | false =>
      go_wp2_with fail
      refine (pick B _ l _ HC1.out (by omega) (by omega) (by omega)).mono ?_
      rintro e w2 ⟨r, rfl, r0, r1, hc2, hg2⟩
      obtain ⟨r, rfl⟩ := Int.eq_ofNat_of_zero_le r0
      have HV2 := Lib.hid (own_grown HV1.out hg2 hA)
      have HC2 := Lib.hid hc2
      have hgg := grown_trans hg1 hg2
      have hx : r < z.length := by have := HLn.out; omega
      obtain ⟨q0, q1, q2⟩ := LMember.cells (HV2.out.at_ r _ (List.getElem?_eq_getElem hx))
      simp only [LMember.rec_n] at q0 q1 q2
      have r2 : (r : Int) < (l : Int) := by omega
      clear hc2 HV1 HC1 hg1 hg2
      generalize z[r] = X at *
      go_wp2_with fail
      go_ret
      exact ⟨_, rfl, HC2.out.mono (by omega), hgg⟩
/-- numbers of the call's own -/
def IsOf (w : World) (B m : Nat) (e : Ending) (w' : World) : Prop := ∃ (v : Value) (z : List Int), e = .returned v ∧ Own LInt.rec 3 w' w.heap.size v z ∧ (∃ g, v.ownBlock = some g) ∧ z.length ≤ 15 ∧ Cur w' B m ∧ w.grownBy w' (some B)
set_option maxRecDepth 100000 in
set_option maxHeartbeats 3200000 in
theorem present (B m A : Nat) (v : Value) (z : List M) (w : World) (h : Cur w B m) (hm : m < 700000) (hv : Own LMember.rec 97 w A v z) (hA : B < A) (hl : z.length ≤ 14) : Calls Try.prog 82 #[.pointer (some ⟨B, 0, none⟩), v] w (IsOf w B (m + 60)) := by
  have hB := h.lt
  have HC := Lib.hid h
  obtain ⟨l, hll⟩ : ∃ l, l = z.length := ⟨_, rfl⟩
  have HLn := Lib.hid hll.symm
  have hsh : ∃ a cp, v = .slice a l cp ∧ (0 < l → ∃ g, a = some ⟨g, 0, none⟩ ∧ g ≠ B) ∧ l ≤ cp ∧ cp ≤ maxLen := by
    rcases hv.shape with ⟨rfl, hz⟩ | ⟨g, cap, rfl, hg1, hg2, hcap, hcm⟩
    · exact ⟨none, 0, by rw [hll, hz]; rfl, fun h0 => by rw [hll, hz] at h0; simp at h0, by rw [hll, hz]; simp, Nat.zero_le _⟩
    · exact ⟨_, cap, by rw [hll], fun _ => ⟨g, rfl, by omega⟩, by omega, hcm⟩
  obtain ⟨a, cp, rfl, hag, hcp, hcm⟩ := hsh
  unfold maxLen at hcm
  have hl14 : l ≤ 14 := by omega
  have HV := Lib.hid hv
  obtain ⟨i0, hi, hz0, hz1, hz2⟩ := info_parts LInt.infoK
  have HI0 := Lib.hid hi
  have HZ0 := Lib.hid (And.intro hz0 (And.intro hz1 hz2))
  clear hi hz0 hz1 hz2
  have HO0 := Lib.hid (Own.start (T := LInt.rec) (E := 3) (w := w) (Nat.le_refl _))
  have HC0 := Lib.hid (cur_alloc h (.cells #[] 3))
  have hg0 := grown_alloc w (.cells #[] 3) (some B)
  have HAg := Lib.hid hag
  clear h hv hll hl HC hag
  go_enter Try.func82, Try.ntmps82
  go_wp2_with fail
  generalize hW : w.alloc (.cells #[] 3) = W0 at *
  clear hW
  go_loopw [5, 6] (fun u i wr => ∃ (k c : Nat) (y : List Int), k ≤ l ∧ i = .int .i64 k ∧ Hid (Own LInt.rec 3 wr w.heap.size u y) ∧ Hid (∃ g, u.ownBlock = some g) ∧ y.length ≤ k ∧ Hid (Cur wr B c) ∧ c ≤ m + 2 * k ∧ w.grownBy wr (some B)) (fun _ i _ => l - (intOf i).toNat)
  case atStart => exact ⟨0, m, [], Nat.zero_le _, rfl, HO0, Lib.hid ⟨_, rfl⟩, Nat.zero_le _, HC0, by omega, hg0⟩
  case round =>
    clear HO0 HC0 hg0
    obtain ⟨k, c, y, hk, rfl, HO, HNn, hyl, HC, hc, hgw⟩ := hrel
    have hws := grown_size hgw
    by_cases hlt : k < l
    · have k0 : 0 ≤ (k : Int) := by omega
      have k1 : (k : Int) < (l : Int) := by omega
      go_wp2_with fail
      refine (one B c 2 _ HC.out (by omega) (by omega) (by omega)).mono ?_
      rintro e w1 ⟨b, rfl, hc1, hg1⟩
      have HO1 := Lib.hid (own_grown HO.out hg1 hB)
      have hgw1 := grown_trans hgw hg1
      have HC1 := Lib.hid hc1
      have hws1 := grown_size hgw1
      clear hc1 hg1 HO HC hgw
      cases b with
      | true =>
        obtain ⟨g, rfl, hgB⟩ := HAg.out (by omega)
        have hx : k < z.length := by have := HLn.out; omega
        have HVk := Lib.hid (own_grown (A := A) (show Own LMember.rec 97 w A _ z from HV.out) hgw1 hA)
        obtain ⟨q0, q1, q2⟩ := LMember.cells (HVk.out.at_ k _ (List.getElem?_eq_getElem hx))
        simp only [LMember.rec_n] at q0 q1 q2
        generalize z[k] = X at *
        go_wp2_with (at_builtin; refine wpList_append_own _ rfl (.tmp 16) (.tmp 22) 37 rfl w.heap.size 3 i0 (.int .i64 0) 1 8 Try.underlying37 HI0.out HZ0.out.1 HZ0.out.2.1 HZ0.out.2.2 rfl (by decide) _ _ _ rfl (Own.alloc HO1.out _) ⟨_, 0, none⟩ 1 1 [.int .i64 X.num] rfl rfl ?p1 ?p2 ?p3 ?p4 ?p5 ?p6)
        case p1 => first | exact World.news_of_block (heap_alloc_new _ _) | exact World.news_of_block (alloc_two _ _ _)
        case p2 => intro u hu; simp only [List.mem_cons, List.not_mem_nil, or_false] at hu; subst hu; rfl
        case p3 => unfold maxLen; omega
        case p4 => omega
        case p5 => first | (simp; done) | (simp; omega) | omega
        case p6 =>
          intro v2 w2 hown2 hgrow2 _
          have HV2 := Lib.hid (show Own LInt.rec 3 w2 w.heap.size v2 (y ++ [X.num]) from own_of LInt.rec hown2 (by simp) (by rw [flat_append]; rfl))
          have HC2 := Lib.hid (cur_own (cur_alloc HC1.out (.cells #[.int .i64 X.num] 3)) hgrow2 (fun k hk => by have := (HO1.out.lt k hk).1; omega))
          have hgw2 := grown_own (grown_trans hgw1 (grown_alloc w1 (.cells #[.int .i64 X.num] 3) (some B))) hgrow2 (fun k hk => (HO1.out.lt k hk).1)
          have HN2 := Lib.hid (somei HV2.out)
          clear hown2 hgrow2 q0 q1 q2
          go_wp2_with fail
          go_roundw
          case rel => exact ⟨k + 1, c + 2, y ++ [X.num], by omega, by go_num, HV2, HN2, by simp; omega, HC2, by omega, hgw2⟩
          case measure => simp [intOf]; omega
      | false =>
        go_wp2_with fail
        go_roundw
        case rel => exact ⟨k + 1, c + 2, y, by omega, by go_num, HO1, HNn, by omega, HC1, by omega, hgw1⟩
        case measure => simp [intOf]; omega
    · go_wp2_with fail
      refine (one B c 20 _ HC.out (by omega) (by omega) (by omega)).mono ?_
      rintro e w1 ⟨b, rfl, hc1, hg1⟩
      have HO1 := Lib.hid (own_grown HO.out hg1 hB)
      have hgw1 := grown_trans hgw hg1
      have HC1 := Lib.hid hc1
      have hws1 := grown_size hgw1
      clear hc1 hg1 HO HC hgw
      cases b with
      | true =>
        go_wp2_with fail
        refine (among_lit B _ [0, 1, 99] w1 HC1.out (by omega) (by decide) (by decide)).mono ?_
        rintro e w2 ⟨x, _, rfl, hc2, hg2⟩
        have HO2 := Lib.hid (own_grown HO1.out hg2 hB)
        have hgw2 := grown_trans hgw1 hg2
        have HC2 := Lib.hid hc2
        have hws2 := grown_size hgw2
        clear hc2 hg2 HO1 HC1 hgw1
        go_wp2_with (at_builtin; refine wpList_append_own _ rfl (.tmp 26) (.tmp 30) 37 rfl w.heap.size 3 i0 (.int .i64 0) 1 8 Try.underlying37 HI0.out HZ0.out.1 HZ0.out.2.1 HZ0.out.2.2 rfl (by decide) _ _ _ rfl (Own.alloc HO2.out _) ⟨_, 0, none⟩ 1 1 [.int .i64 x] rfl rfl ?s1 ?s2 ?s3 ?s4 ?s5 ?s6)
        case s1 => first | exact World.news_of_block (heap_alloc_new _ _) | exact World.news_of_block (alloc_two _ _ _)
        case s2 => intro u hu; simp only [List.mem_cons, List.not_mem_nil, or_false] at hu; subst hu; rfl
        case s3 => unfold maxLen; omega
        case s4 => omega
        case s5 => first | (simp; done) | (simp; omega) | omega
        case s6 =>
          intro v2 w3 hown2 hgrow2 _
          have HV3 := Lib.hid (show Own LInt.rec 3 w3 w.heap.size v2 (y ++ [x]) from own_of LInt.rec hown2 (by simp) (by rw [flat_append]; rfl))
          have HC3 := Lib.hid (cur_own (cur_alloc HC2.out (.cells #[.int .i64 x] 3)) hgrow2 (fun k hk => by have := (HO2.out.lt k hk).1; omega))
          have hgw3 := grown_own (grown_trans hgw2 (grown_alloc w2 (.cells #[.int .i64 x] 3) (some B))) hgrow2 (fun k hk => (HO2.out.lt k hk).1)
          clear hown2 hgrow2
          go_wp2_with fail
          go_ret
          exact ⟨v2, y ++ [x], rfl, HV3.out, somei HV3.out, by simp; omega, HC3.out.mono (by omega), hgw3⟩
      | false =>
        go_wp2_with fail
        go_ret
        exact ⟨_, y, rfl, HO1.out, HNn.out, by omega, HC1.out.mono (by omega), hgw1⟩
/-- some numbers of a literal that lies in a block -/
theorem among_cut (B m g n : Nat) (xs : List Int) (w : World) (h : Cur w B m) (hm : m < 900000) (hx : Bx w g 3 (xs.map (Value.int .i64)).toArray) (hgB : g ≠ B) (h0 : 1 ≤ n) (hn : n ≤ xs.length) (h1 : xs.length ≤ 1000) :
    Calls Try.prog 68 #[.pointer (some ⟨B, 0, none⟩), .slice (some ⟨g, 0, none⟩) n xs.length] w (Ints w B (m + 2) xs) := by
  refine (among_any B m g 0 n xs.length (xs.take n) w h hm (by rw [List.length_take]; omega) h0 (by omega) hn hgB hx.lt (fun j x hj => ?_)).mono ?_
  · have hj2 : xs[j]? = some x := by
      rw [List.getElem?_take] at hj
      split at hj
      · exact hj
      · cases hj
    rw [Nat.zero_add, hx.cell, List.getElem?_toArray, List.getElem?_map, hj2]
    rfl
  · rintro e w' ⟨x, hx, he, hc, hg⟩
    exact ⟨x, List.mem_of_mem_take hx, he, hc, hg⟩
def GivArgs (w : World) (e : Ending) (w' : World) : Prop := ∃ (v : Value) (z : List M) (x y : Int), e = .returned (.tuple #[v, .int .i64 x, .int .i64 y]) ∧ Own LMember.rec 97 w' w.heap.size v z ∧ (∃ g, v.ownBlock = some g) ∧ Short z ∧ z.length ≤ 14 ∧ Below w.heap.size w w'
theorem below_end {w W0 w' : World} {B : Nat} {a : Option Addr} {len cap : Nat} (hB : w.heap.size = B) (hW : w.alloc (.cells #[.slice a len cap, .int .i64 0, .int .u64 0] 78) = W0) (hg : W0.grownBy w' (some B)) : Below w.heap.size w w' := by
  subst hB hW
  exact below_cur hg
theorem own_end {w W0 w' : World} {v : Value} {z : List M} (hz : w.heap.size ≤ W0.heap.size) (h : Own LMember.rec 97 w' W0.heap.size v z) : Own LMember.rec 97 w' w.heap.size v z := h.low hz
set_option maxRecDepth 100000 in
set_option maxHeartbeats 1600000 in
theorem drawGiveOffice (a : Option Addr) (len cap : Nat) (zs : List Int) (w : World) (h : Frame.IsRow .u8 w a len cap zs) (hl : len ≤ 65536) :
    Calls Try.prog 29 #[.slice a len cap] w (GivArgs w) := by
  have HC := Lib.hid (cur_new h hl)
  have hgc := grown_alloc w (.cells #[.slice a len cap, .int .i64 0, .int .u64 0] 78) none
  have hz : w.heap.size + 1 ≤ (w.alloc (.cells #[.slice a len cap, .int .i64 0, .int .u64 0] 78)).heap.size := by simp
  clear h
  go_enter Try.func29, Try.ntmps29
  go_wp2_with fail
  generalize hWW : w.alloc (.cells #[.slice a len cap, .int .i64 0, .int .u64 0] 78) = W0 at *
  have HWW := Lib.hid hWW
  generalize hB0 : w.heap.size = B at *
  have HB0 := Lib.hid hB0
  clear hWW hB0
  refine (members B 0 _ HC.out (by omega)).mono ?_
  rintro e w1 ⟨v, z, rfl, hv, hvn, hsh, hzl, hc1, hg1⟩
  have HV := Lib.hid hv
  have HVn := Lib.hid hvn
  have HSh := Lib.hid hsh
  have HC1 := Lib.hid hc1
  have HA := Lib.hid (show B < W0.heap.size by omega)
  clear hv hvn hsh hc1 HC
  go_wp2_with fail
  refine (memberNumber B _ _ v z _ HC1.out (by omega) HV.out HA.out hzl).mono ?_
  rintro e w2 ⟨x, rfl, hc2, hg2⟩
  have HV2 := Lib.hid (own_grown HV.out hg2 HA.out)
  have hgg2 := grown_trans hg1 hg2
  have HC2 := Lib.hid hc2
  clear hc2 hg1 hg2 HV HC1
  have HBx := Lib.hid (show Bx (w2.alloc (.cells (([(0), (1), (2), (3), (-1), (4)] : List Int).map (Value.int .i64)).toArray 3)) w2.heap.size 3 (([(0), (1), (2), (3), (-1), (4)] : List Int).map (Value.int .i64)).toArray from Bx.new _ _ _)
  have HCa := Lib.hid (cur_alloc HC2.out (.cells (([(0), (1), (2), (3), (-1), (4)] : List Int).map (Value.int .i64)).toArray 3))
  have hga := grown_trans hgg2 (grown_alloc w2 (.cells (([(0), (1), (2), (3), (-1), (4)] : List Int).map (Value.int .i64)).toArray 3) (some B))
  have HVa := Lib.hid (Own.alloc HV2.out (.cells (([(0), (1), (2), (3), (-1), (4)] : List Int).map (Value.int .i64)).toArray 3))
  have hne : w2.heap.size ≠ B := by have := HC2.out.lt; omega
  go_wp2_with fail
  refine (pick B _ 24 _ HCa.out (by omega) (by omega) (by omega)).mono ?_
  rintro e wp ⟨r, rfl, r0, r1, hcp, hgp⟩
  have HBp := Lib.hid (HBx.out.grown hgp hne)
  have HVp := Lib.hid (own_grown HVa.out hgp HA.out)
  have hgpp := grown_trans hga hgp
  have HCp := Lib.hid hcp
  have hq : r.tdiv 11 = r / 11 := Int.tdiv_eq_ediv_of_nonneg r0
  have hw1 : IntKind.i64.wrap (r / 11) = r / 11 := IntWalk.i64_in _ (by omega)
  have hw2 : IntKind.i64.wrap (4 + r / 11) = 4 + r / 11 := IntWalk.i64_in _ (by omega)
  obtain ⟨nn, hnn⟩ := Int.eq_ofNat_of_zero_le (show 0 ≤ 4 + r / 11 by omega)
  have hn1 : 1 ≤ nn ∧ nn ≤ 6 := by omega
  have hn2 : (0 : Int) ≤ 4 + r / 11 := by omega
  have hn3 : 4 + r / 11 ≤ (6 : Int) := by omega
  have hn4 : (4 + r / 11).toNat = nn := by omega
  have HM := Lib.hid (fun (mm : Nat) (W : World) => among_cut B mm w2.heap.size nn [(0), (1), (2), (3), (-1), (4)] W)
  clear hcp hgp HBx HCa HVa
  go_wp2_with fail
  clear hq hw1 hw2 hn2 hn3
  first | rw [hn4] | skip
  clear hn4 hnn
  refine (HM.out _ _ HCp.out (by omega) HBp.out hne hn1.1 hn1.2 (by decide)).mono ?_
  rintro e wz ⟨y, _, rfl, hcz, hgz⟩
  have HVz := Lib.hid (own_grown HVp.out hgz HA.out)
  have hgzz := grown_trans hgpp hgz
  clear hcz HM
  go_wp2_with fail
  go_ret3
  exact ⟨v, z, x, y, rfl, Own.low HVz.out (by have := HB0.out; omega), HVn.out, HSh.out, hzl, below_end HB0.out HWW.out hgzz⟩
def HolArgs (w : World) (e : Ending) (w' : World) : Prop := ∃ (v : Value) (z : List M) (y : Int), e = .returned (.tuple #[v, .int .i64 y]) ∧ Own LMember.rec 97 w' w.heap.size v z ∧ (∃ g, v.ownBlock = some g) ∧ Short z ∧ z.length ≤ 14 ∧ Below w.heap.size w w'
set_option maxRecDepth 100000 in
set_option maxHeartbeats 1600000 in
theorem drawHolderOf (a : Option Addr) (len cap : Nat) (zs : List Int) (w : World) (h : Frame.IsRow .u8 w a len cap zs) (hl : len ≤ 65536) :
    Calls Try.prog 35 #[.slice a len cap] w (HolArgs w) := by
  have HC := Lib.hid (cur_new h hl)
  have hgc := grown_alloc w (.cells #[.slice a len cap, .int .i64 0, .int .u64 0] 78) none
  have hz : w.heap.size + 1 ≤ (w.alloc (.cells #[.slice a len cap, .int .i64 0, .int .u64 0] 78)).heap.size := by simp
  clear h
  go_enter Try.func35, Try.ntmps35
  go_wp2_with fail
  generalize hWW : w.alloc (.cells #[.slice a len cap, .int .i64 0, .int .u64 0] 78) = W0 at *
  have HWW := Lib.hid hWW
  generalize hB0 : w.heap.size = B at *
  have HB0 := Lib.hid hB0
  clear hWW hB0
  refine (members B 0 _ HC.out (by omega)).mono ?_
  rintro e w1 ⟨v, z, rfl, hv, hvn, hsh, hzl, hc1, hg1⟩
  have HV := Lib.hid hv
  have HVn := Lib.hid hvn
  have HSh := Lib.hid hsh
  have HC1 := Lib.hid hc1
  have HA := Lib.hid (show B < W0.heap.size by omega)
  clear hv hvn hsh hc1 HC
  have HBx := Lib.hid (show Bx (w1.alloc (.cells (([(1), (2), (3), (0), (4)] : List Int).map (Value.int .i64)).toArray 3)) w1.heap.size 3 (([(1), (2), (3), (0), (4)] : List Int).map (Value.int .i64)).toArray from Bx.new _ _ _)
  have HCa := Lib.hid (cur_alloc HC1.out (.cells (([(1), (2), (3), (0), (4)] : List Int).map (Value.int .i64)).toArray 3))
  have hga := grown_trans hg1 (grown_alloc w1 (.cells (([(1), (2), (3), (0), (4)] : List Int).map (Value.int .i64)).toArray 3) (some B))
  have HVa := Lib.hid (Own.alloc HV.out (.cells (([(1), (2), (3), (0), (4)] : List Int).map (Value.int .i64)).toArray 3))
  have hne : w1.heap.size ≠ B := by have := HC1.out.lt; omega
  go_wp2_with fail
  refine (pick B _ 24 _ HCa.out (by omega) (by omega) (by omega)).mono ?_
  rintro e wp ⟨r, rfl, r0, r1, hcp, hgp⟩
  have HBp := Lib.hid (HBx.out.grown hgp hne)
  have HVp := Lib.hid (own_grown HVa.out hgp HA.out)
  have hgpp := grown_trans hga hgp
  have HCp := Lib.hid hcp
  have hq : r.tdiv 11 = r / 11 := Int.tdiv_eq_ediv_of_nonneg r0
  have hw1 : IntKind.i64.wrap (r / 11) = r / 11 := IntWalk.i64_in _ (by omega)
  have hw2 : IntKind.i64.wrap (3 + r / 11) = 3 + r / 11 := IntWalk.i64_in _ (by omega)
  obtain ⟨nn, hnn⟩ := Int.eq_ofNat_of_zero_le (show 0 ≤ 3 + r / 11 by omega)
  have hn1 : 1 ≤ nn ∧ nn ≤ 5 := by omega
  have hn2 : (0 : Int) ≤ 3 + r / 11 := by omega
  have hn3 : 3 + r / 11 ≤ (5 : Int) := by omega
  have hn4 : (3 + r / 11).toNat = nn := by omega
  have HM := Lib.hid (fun (mm : Nat) (W : World) => among_cut B mm w1.heap.size nn [(1), (2), (3), (0), (4)] W)
  clear hcp hgp HBx HCa HVa
  go_wp2_with fail
  clear hq hw1 hw2 hn2 hn3
  first | rw [hn4] | skip
  clear hn4 hnn
  refine (HM.out _ _ HCp.out (by omega) HBp.out hne hn1.1 hn1.2 (by decide)).mono ?_
  rintro e wz ⟨y, _, rfl, hcz, hgz⟩
  have HVz := Lib.hid (own_grown HVp.out hgz HA.out)
  have hgzz := grown_trans hgpp hgz
  clear hcz HM
  go_wp2_with fail
  go_ret2
  exact ⟨v, z, y, rfl, Own.low HVz.out (by have := HB0.out; omega), HVn.out, HSh.out, hzl, below_end HB0.out HWW.out hgzz⟩
def PreArgs (w : World) (e : Ending) (w' : World) : Prop := ∃ (v : Value) (z : List M) (u : Value) (y : List Int), e = .returned (.tuple #[v, u]) ∧ Own LMember.rec 97 w' w.heap.size v z ∧ (∃ g, v.ownBlock = some g) ∧ Short z ∧ z.length ≤ 14 ∧ Own LInt.rec 3 w' w.heap.size u y ∧ (∃ g, u.ownBlock = some g) ∧ y.length ≤ 15 ∧ Below w.heap.size w w'
set_option maxRecDepth 100000 in
set_option maxHeartbeats 1600000 in
theorem drawPresidingMember (a : Option Addr) (len cap : Nat) (zs : List Int) (w : World) (h : Frame.IsRow .u8 w a len cap zs) (hl : len ≤ 65536) :
    Calls Try.prog 37 #[.slice a len cap] w (PreArgs w) := by
  have HC := Lib.hid (cur_new h hl)
  have hgc := grown_alloc w (.cells #[.slice a len cap, .int .i64 0, .int .u64 0] 78) none
  have hz : w.heap.size + 1 ≤ (w.alloc (.cells #[.slice a len cap, .int .i64 0, .int .u64 0] 78)).heap.size := by simp
  clear h
  go_enter Try.func37, Try.ntmps37
  go_wp2_with fail
  generalize hWW : w.alloc (.cells #[.slice a len cap, .int .i64 0, .int .u64 0] 78) = W0 at *
  have HWW := Lib.hid hWW
  generalize hB0 : w.heap.size = B at *
  have HB0 := Lib.hid hB0
  clear hWW hB0
  refine (members B 0 _ HC.out (by omega)).mono ?_
  rintro e w1 ⟨v, z, rfl, hv, hvn, hsh, hzl, hc1, hg1⟩
  have HV := Lib.hid hv
  have HVn := Lib.hid hvn
  have HSh := Lib.hid hsh
  have HC1 := Lib.hid hc1
  have HA := Lib.hid (show B < W0.heap.size by omega)
  clear hv hvn hsh hc1 HC
  go_wp2_with fail
  refine (present B _ _ v z _ HC1.out (by omega) HV.out HA.out hzl).mono ?_
  rintro e w2 ⟨u, y, rfl, hu, hun, hyl, hc2, hg2⟩
  have HV2 := Lib.hid (own_grown HV.out hg2 HA.out)
  have hgg2 := grown_trans hg1 hg2
  have HU := Lib.hid (show Own LInt.rec 3 w2 w.heap.size u y from hu.low (by have := HB0.out; have := HA.out; have := grown_size hg1; omega))
  have HUn := Lib.hid hun
  clear hc2 hg1 hg2 HV HC1 hu hun
  go_wp2_with fail
  go_ret2
  exact ⟨v, z, u, y, rfl, Own.low HV2.out (by have := HB0.out; omega), HVn.out, HSh.out, hzl, HU.out, HUn.out, hyl, below_end HB0.out HWW.out hgg2⟩
end Go.Proofs.Ytbnkpkneccgfnaa.Draw
