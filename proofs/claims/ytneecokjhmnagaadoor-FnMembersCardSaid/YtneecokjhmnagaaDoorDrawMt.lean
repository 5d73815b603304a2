/- The draws of FnMembers. No condition. -/
import Derived.Test.YtneecokjhmnagaaDoorDrawO
import Derived.Test.YtneecokjhmnagaaDoorSpoil
import Derived.Test.YtneecokjhmnagaaDoorMLine
namespace Go.Proofs.YtneecokjhmnagaaDoor.Draw
open Go.RowKit Cur Bs Mem
set_option linter.unusedVariables false
def odd : List ByteArray := [⟨#[]⟩, ⟨#[65]⟩, ⟨#[97, 98, 99, 100, 101, 102, 103, 104, 105, 106, 107]⟩, ⟨#[97, 32, 98]⟩]
theorem mtext_short {z : List M} {s : ByteArray} {b : Bool} (h : MLine.Ans z s b) : s.size ≤ 3600 := by
  rcases h with ⟨hg, rfl, _⟩ | ⟨_, rfl, _⟩
  · have h12 := (good_of hg).1
    have := MLine.text_size z (MLine.all_ok hg) z.length (Nat.le_refl _)
    rw [List.take_length] at this
    omega
  · exact Nat.zero_le _
def MemArg (w : World) (e : Ending) (w' : World) : Prop := ∃ (v : Value) (z : List M), e = .returned v ∧ Own LMember.rec 60 w' w.heap.size v z ∧ (∃ g, v.ownBlock = some g) ∧ Short z ∧ z.length ≤ 14 ∧ Below w.heap.size w w'
def AdmArgs (w : World) (e : Ending) (w' : World) : Prop := ∃ (v : Value) (z : List M) (s : ByteArray), e = .returned (.tuple #[v, .string s]) ∧ Own LMember.rec 60 w' w.heap.size v z ∧ (∃ g, v.ownBlock = some g) ∧ Short z ∧ z.length ≤ 14 ∧ s.size ≤ 20 ∧ Below w.heap.size w w'
def ExpArgs (w : World) (e : Ending) (w' : World) : Prop := ∃ (v : Value) (z : List M) (x : Int), e = .returned (.tuple #[v, .int .i64 x]) ∧ Own LMember.rec 60 w' w.heap.size v z ∧ (∃ g, v.ownBlock = some g) ∧ Short z ∧ z.length ≤ 14 ∧ Below w.heap.size w w'
def MTextArg (w : World) (e : Ending) (w' : World) : Prop := ∃ s : ByteArray, e = .returned (.string s) ∧ s.size ≤ 4000 ∧ Below w.heap.size w w'
set_option maxRecDepth 100000 in
set_option maxHeartbeats 1600000 in
theorem drawIsValidMembers (a : Option Addr) (len cap : Nat) (zs : List Int) (w : World) (h : Frame.IsRow .u8 w a len cap zs) (hl : len ≤ 65536) :
    Calls Tryd.prog 39 #[.slice a len cap] w (MemArg w) := by
  have HC := Lib.hid (cur_new h hl)
  have hz : w.heap.size + 1 ≤ (w.alloc (.cells #[.slice a len cap, .int .i64 0, .int .u64 0] 53)).heap.size := by simp
  clear h
  go_enter Tryd.func39, Tryd.ntmps39
  go_wp2_with fail
  generalize hWW : w.alloc (.cells #[.slice a len cap, .int .i64 0, .int .u64 0] 53) = W0 at *
  have HWW := Lib.hid hWW
  generalize hB0 : w.heap.size = B at *
  have HB0 := Lib.hid hB0
  clear hWW hB0
  refine (members B 0 _ HC.out (by omega)).mono ?_
  rintro e w1 ⟨v, z, rfl, hv, hvn, hsh, hzl, hc1, hg1⟩
  have HV := Lib.hid hv
  have HVn := Lib.hid hvn
  have HSh := Lib.hid hsh
  have HC1 := Lib.hid hc1
  have HG1 := Lib.hid hg1
  have HA := Lib.hid (show B < W0.heap.size by omega)
  clear hv hvn hsh hc1 hg1 HC
  go_wp2_with fail
  go_ret
  exact ⟨v, z, rfl, Own.low HV.out (by have := HB0.out; omega), HVn.out, HSh.out, hzl, below_end HB0.out HWW.out HG1.out⟩
set_option maxRecDepth 100000 in
set_option maxHeartbeats 1600000 in
theorem drawMembersText (a : Option Addr) (len cap : Nat) (zs : List Int) (w : World) (h : Frame.IsRow .u8 w a len cap zs) (hl : len ≤ 65536) :
    Calls Tryd.prog 14 #[.slice a len cap] w (MemArg w) := by
  have HD := Lib.hid (drawIsValidMembers a len cap zs w h hl)
  clear h
  go_enter Tryd.func14, Tryd.ntmps14
  go_wp2_with fail
  refine HD.out.mono ?_
  rintro e w1 ⟨v, z, rfl, hv, hvn, hsh, hzl, hb⟩
  have HV := Lib.hid hv
  have HVn := Lib.hid hvn
  have HSh := Lib.hid hsh
  clear hv hvn hsh HD
  go_wp2_with fail
  go_ret
  exact ⟨v, z, rfl, HV.out, HVn.out, HSh.out, hzl, hb⟩
set_option maxRecDepth 100000 in
set_option maxHeartbeats 1600000 in
theorem drawNumbersByName (a : Option Addr) (len cap : Nat) (zs : List Int) (w : World) (h : Frame.IsRow .u8 w a len cap zs) (hl : len ≤ 65536) :
    Calls Tryd.prog 20 #[.slice a len cap] w (MemArg w) := by
  have HD := Lib.hid (drawIsValidMembers a len cap zs w h hl)
  clear h
  go_enter Tryd.func20, Tryd.ntmps20
  go_wp2_with fail
  refine HD.out.mono ?_
  rintro e w1 ⟨v, z, rfl, hv, hvn, hsh, hzl, hb⟩
  have HV := Lib.hid hv
  have HVn := Lib.hid hvn
  have HSh := Lib.hid hsh
  clear hv hvn hsh HD
  go_wp2_with fail
  go_ret
  exact ⟨v, z, rfl, HV.out, HVn.out, HSh.out, hzl, hb⟩
set_option maxRecDepth 100000 in
set_option maxHeartbeats 1600000 in
theorem drawExpelMember (a : Option Addr) (len cap : Nat) (zs : List Int) (w : World) (h : Frame.IsRow .u8 w a len cap zs) (hl : len ≤ 65536) :
    Calls Tryd.prog 12 #[.slice a len cap] w (ExpArgs w) := by
  have HC := Lib.hid (cur_new h hl)
  have hz : w.heap.size + 1 ≤ (w.alloc (.cells #[.slice a len cap, .int .i64 0, .int .u64 0] 53)).heap.size := by simp
  clear h
  go_enter Tryd.func12, Tryd.ntmps12
  go_wp2_with fail
  generalize hWW : w.alloc (.cells #[.slice a len cap, .int .i64 0, .int .u64 0] 53) = W0 at *
  have HWW := Lib.hid hWW
  generalize hB0 : w.heap.size = B at *
  have HB0 := Lib.hid hB0
  clear hWW hB0
  refine (members B 0 _ HC.out (by omega)).mono ?_
  rintro e w1 ⟨v, z, rfl, hv, hvn, hsh, hzl, hc1, hg1⟩
  have HV := Lib.hid hv
  have HVn := Lib.hid hvn
  have HSh := Lib.hid hsh
  have HC1 := Lib.hid hc1
  have HG1 := Lib.hid hg1
  have HA := Lib.hid (show B < W0.heap.size by omega)
  clear hv hvn hsh hc1 hg1 HC
  go_wp2_with fail
  refine (memberNumber B _ _ v z _ HC1.out (by omega) HV.out HA.out hzl).mono ?_
  rintro e w2 ⟨x, rfl, hc2, hg2⟩
  have HV3 := Lib.hid (own_grown HV.out hg2 HA.out)
  have hgg := grown_trans HG1.out hg2
  clear hc2 hg2 HV HC1
  go_wp2_with fail
  go_ret2
  exact ⟨v, z, x, rfl, Own.low HV3.out (by have := HB0.out; omega), HVn.out, HSh.out, hzl, below_end HB0.out HWW.out hgg⟩
set_option maxRecDepth 100000 in
set_option maxHeartbeats 1600000 in
theorem drawAdmitMember (a : Option Addr) (len cap : Nat) (zs : List Int) (w : World) (h : Frame.IsRow .u8 w a len cap zs) (hl : len ≤ 65536) :
    Calls Tryd.prog 6 #[.slice a len cap] w (AdmArgs w) := by
  have HC := Lib.hid (cur_new h hl)
  have hz : w.heap.size + 1 ≤ (w.alloc (.cells #[.slice a len cap, .int .i64 0, .int .u64 0] 53)).heap.size := by simp
  clear h
  go_enter Tryd.func6, Tryd.ntmps6
  go_wp2_with fail
  generalize hWW : w.alloc (.cells #[.slice a len cap, .int .i64 0, .int .u64 0] 53) = W0 at *
  have HWW := Lib.hid hWW
  generalize hB0 : w.heap.size = B at *
  have HB0 := Lib.hid hB0
  clear hWW hB0
  refine (members B 0 _ HC.out (by omega)).mono ?_
  rintro e w1 ⟨v, z, rfl, hv, hvn, hsh, hzl, hc1, hg1⟩
  have HV := Lib.hid hv
  have HVn := Lib.hid hvn
  have HSh := Lib.hid hsh
  have HC1 := Lib.hid hc1
  have HG1 := Lib.hid hg1
  have HA := Lib.hid (show B < W0.heap.size by omega)
  clear hv hvn hsh hc1 hg1 HC
  go_wp2_with fail
  refine (one B _ 8 _ HC1.out (by omega) (by omega) (by omega)).mono ?_
  rintro e w2 ⟨r, rfl, hc2, hg2⟩
  have HV2 := Lib.hid (own_grown HV.out hg2 HA.out)
  have HG2 := Lib.hid (grown_trans HG1.out hg2)
  have HC2 := Lib.hid hc2
  clear hc2 hg2 HV HC1
  cases r with
  | true =>
    go_wp2_with fail
    refine (of_lit B _ odd _ HC2.out (by omega) (by decide) (by decide)).mono ?_
    rintro e w3 ⟨s, hy, rfl, hc3, hg3⟩
    have HV3 := Lib.hid (own_grown HV2.out hg3 HA.out)
    have hgg := grown_trans HG2.out hg3
    have hs := small_of odd 20 (by decide +kernel) s hy
    clear hy hc3 hg3 HV2 HC2 HG2
    go_wp2_with fail
    go_ret2
    exact ⟨v, z, s, rfl, Own.low HV3.out (by have := HB0.out; omega), HVn.out, HSh.out, hzl, hs, below_end HB0.out HWW.out hgg⟩
  | false =>
    go_wp2_with fail
    refine (word B _ _ HC2.out (by omega)).mono ?_
    rintro e w3 ⟨s, rfl, hs, hc3, hg3⟩
    have HV3 := Lib.hid (own_grown HV2.out hg3 HA.out)
    have hgg := grown_trans HG2.out hg3
    clear hc3 hg3 HV2 HC2 HG2
    go_wp2_with fail
    go_ret2
    exact ⟨v, z, s, rfl, Own.low HV3.out (by have := HB0.out; omega), HVn.out, HSh.out, hzl, by omega, below_end HB0.out HWW.out hgg⟩
set_option maxRecDepth 100000 in
set_option maxHeartbeats 1600000 in
theorem drawParseMembers (a : Option Addr) (len cap : Nat) (zs : List Int) (w : World) (h : Frame.IsRow .u8 w a len cap zs) (hl : len ≤ 65536) :
    Calls Tryd.prog 18 #[.slice a len cap] w (MTextArg w) := by
  have HC := Lib.hid (cur_new h hl)
  have hz : w.heap.size + 1 ≤ (w.alloc (.cells #[.slice a len cap, .int .i64 0, .int .u64 0] 53)).heap.size := by simp
  clear h
  go_enter Tryd.func18, Tryd.ntmps18
  go_wp2_with fail
  generalize hWW : w.alloc (.cells #[.slice a len cap, .int .i64 0, .int .u64 0] 53) = W0 at *
  have HWW := Lib.hid hWW
  generalize hB0 : w.heap.size = B at *
  have HB0 := Lib.hid hB0
  clear hWW hB0
  refine (members B 0 _ HC.out (by omega)).mono ?_
  rintro e w1 ⟨v, z, rfl, hv, hvn, hsh, hzl, hc1, hg1⟩
  have HV := Lib.hid hv
  have HVn := Lib.hid hvn
  have HSh := Lib.hid hsh
  have HC1 := Lib.hid hc1
  have HG1 := Lib.hid hg1
  have HA := Lib.hid (show B < W0.heap.size by omega)
  clear hv hvn hsh hc1 hg1 HC
  go_wp2_with fail
  refine (MLine.spec v z _ (Own.isS HV.out HVn.out) (short_fine HSh.out) (by omega)).mono ?_
  rintro e w2 ⟨s, ok, rfl, hA, hb2⟩
  have hss := mtext_short hA
  have HG2 := Lib.hid (grown_of_below HG1.out hb2)
  have HC2 := Lib.hid (HC1.out.kept hb2)
  clear hA hb2 HV HC1 HSh HVn
  go_wp2_with fail
  refine (one B _ 4 _ HC2.out (by omega) (by omega) (by omega)).mono ?_
  rintro e w3 ⟨r, rfl, hc3, hg3⟩
  have HC3 := Lib.hid hc3
  have hgg := grown_trans HG2.out hg3
  clear hc3 hg3 HC2 HG2
  cases r with
  | false =>
    go_wp2_with fail
    go_ret
    exact ⟨s, rfl, by omega, below_end HB0.out HWW.out hgg⟩
  | true =>
    go_wp2_with fail
    refine (spoilt B _ s ⟨#[48, 32, 40, 99, 10, 97]⟩ _ HC3.out (by omega) (by omega) (by decide) (by decide)).mono ?_
    rintro e w4 ⟨s', rfl, hs', hc4, hg4⟩
    have hgg2 := grown_trans hgg hg4
    clear hc4 hg4 HC3
    go_wp2_with fail
    go_ret
    exact ⟨s', rfl, by omega, below_end HB0.out HWW.out hgg2⟩
end Go.Proofs.YtneecokjhmnagaaDoor.Draw
