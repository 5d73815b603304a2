/- The draws of an agenda, of its times, of its text. No condition. -/
import Derived.Test.YtgemnjimgjnlhaaGreatDoorDrawAgs
import Derived.Test.YtgemnjimgjnlhaaGreatDoorJ1
import Derived.Test.YtgemnjimgjnlhaaGreatDoorAgendaTextC
namespace Go.Proofs.YtgemnjimgjnlhaaGreatDoor.DrawAg
open Go.RowKit Cur Bs Draw
set_option linter.unusedVariables false
theorem below_end {w W0 w' : World} {B : Nat} {a : Option Addr} {len cap : Nat} (hB : w.heap.size = B) (hW : w.alloc (.cells #[.slice a len cap, .int .i64 0, .int .u64 0] 63) = W0) (hg : W0.grownBy w' (some B)) : Below w.heap.size w w' := by
  subst hB hW
  exact below_cur hg
def LstArgs (w : World) (e : Ending) (w' : World) : Prop := ∃ (z : List M) (g c : Nat), e = .returned (.slice (some ⟨g, 0, none⟩) z.length c) ∧ Own LAgendaItem.rec 52 w' w.heap.size (.slice (some ⟨g, 0, none⟩) z.length c) z ∧ Short z ∧ z.length ≤ 11 ∧ Below w.heap.size w w'
def TimArgs (w : World) (e : Ending) (w' : World) : Prop := ∃ (z : List M) (g c : Nat) (x : Int), e = .returned (.tuple #[.slice (some ⟨g, 0, none⟩) z.length c, .int .i64 x]) ∧ Own LAgendaItem.rec 52 w' w.heap.size (.slice (some ⟨g, 0, none⟩) z.length c) z ∧ Short z ∧ z.length ≤ 11 ∧ -1 ≤ x ∧ x ≤ 1440 ∧ Below w.heap.size w w'
def UntArgs (w : World) (e : Ending) (w' : World) : Prop := ∃ (z : List M) (g c : Nat) (x y : Int), e = .returned (.tuple #[.slice (some ⟨g, 0, none⟩) z.length c, .int .i64 x, .int .i64 y]) ∧ Own LAgendaItem.rec 52 w' w.heap.size (.slice (some ⟨g, 0, none⟩) z.length c) z ∧ Short z ∧ z.length ≤ 11 ∧ -1 ≤ x ∧ x ≤ 1440 ∧ -2 ≤ y ∧ y ≤ 10001 ∧ Below w.heap.size w w'
def MvArgs (w : World) (e : Ending) (w' : World) : Prop := ∃ (z : List M) (g c : Nat) (x y : Int), e = .returned (.tuple #[.slice (some ⟨g, 0, none⟩) z.length c, .int .i64 x, .int .i64 y]) ∧ Own LAgendaItem.rec 52 w' w.heap.size (.slice (some ⟨g, 0, none⟩) z.length c) z ∧ Short z ∧ z.length ≤ 11 ∧ -1 ≤ y ∧ y ≤ z.length ∧ Below w.heap.size w w'
theorem drawIsValidAgenda (a : Option Addr) (len cap : Nat) (zs : List Int) (w : World) (h : Frame.IsRow .u8 w a len cap zs) (hl : len ≤ 65536) :
    Calls Tryz.prog 68 #[.slice a len cap] w (LstArgs w) := by
  have HC := Lib.hid (cur_new h hl)
  have hz : w.heap.size + 1 ≤ (w.alloc (.cells #[.slice a len cap, .int .i64 0, .int .u64 0] 63)).heap.size := by simp
  clear h
  go_enter Tryz.func68, Tryz.ntmps68
  go_wp2_with fail
  generalize hWW : w.alloc (.cells #[.slice a len cap, .int .i64 0, .int .u64 0] 63) = W0 at *
  have HWW := Lib.hid hWW
  generalize hB0 : w.heap.size = B at *
  have HB0 := Lib.hid hB0
  clear hWW hB0
  refine (agenda B 0 _ HC.out (by omega)).mono ?_
  rintro e w1 ⟨z, g, c, rfl, hv, hsh, hzl, hl1⟩
  have HV := Lib.hid hv
  have HSh := Lib.hid hsh
  have HL := Lib.hid hl1
  have HA := Lib.hid hl1.low
  clear hv hsh hl1 HC
  go_wp2_with fail
  have HVl := Lib.hid (HV.out.low (show B ≤ W0.heap.size by omega))
  have hbl := below_end HB0.out HWW.out HL.out.grown
  go_ret
  exact ⟨z, g, c, rfl, by rw [HB0.out]; exact HVl.out, HSh.out, hzl, hbl⟩
theorem drawAgendaText (a : Option Addr) (len cap : Nat) (zs : List Int) (w : World) (h : Frame.IsRow .u8 w a len cap zs) (hl : len ≤ 65536) :
    Calls Tryz.prog 28 #[.slice a len cap] w (LstArgs w) := by
  have HD := Lib.hid (drawIsValidAgenda a len cap zs w h hl)
  clear h
  unfold LstArgs at HD
  go_enter Tryz.func28, Tryz.ntmps28
  go_wp2_with fail
  refine HD.out.mono ?_
  rintro e w1 ⟨z, g, c, rfl, hv, hsh, hzl, hb⟩
  have HV := Lib.hid hv
  have HSh := Lib.hid hsh
  clear hv hsh HD
  go_wp2_with fail
  go_ret
  exact ⟨z, g, c, rfl, HV.out, HSh.out, hzl, hb⟩
theorem drawItemTimes (a : Option Addr) (len cap : Nat) (zs : List Int) (w : World) (h : Frame.IsRow .u8 w a len cap zs) (hl : len ≤ 65536) :
    Calls Tryz.prog 19 #[.slice a len cap] w (TimArgs w) := by
  have HC := Lib.hid (cur_new h hl)
  have hz : w.heap.size + 1 ≤ (w.alloc (.cells #[.slice a len cap, .int .i64 0, .int .u64 0] 63)).heap.size := by simp
  clear h
  go_enter Tryz.func19, Tryz.ntmps19
  go_wp2_with fail
  generalize hWW : w.alloc (.cells #[.slice a len cap, .int .i64 0, .int .u64 0] 63) = W0 at *
  have HWW := Lib.hid hWW
  generalize hB0 : w.heap.size = B at *
  have HB0 := Lib.hid hB0
  clear hWW hB0
  refine (agenda B 0 _ HC.out (by omega)).mono ?_
  rintro e w1 ⟨z, g, c, rfl, hv, hsh, hzl, hl1⟩
  have HV := Lib.hid hv
  have HSh := Lib.hid hsh
  have HL := Lib.hid hl1
  have HA := Lib.hid hl1.low
  clear hv hsh hl1 HC
  go_wp2_with fail
  refine (minute5 B _ _ HL.out.cur (by omega)).mono ?_
  rintro e w2 ⟨x, rfl, hx0, hx1, hc2, hg2⟩
  have HV2 := Lib.hid (own_grown HV.out hg2 HA.out)
  have HL2 := Lib.hid (HL.out.draw hc2 hg2)
  clear hc2 hg2 HV HL
  go_wp2_with fail
  have HVl := Lib.hid (HV2.out.low (show B ≤ W0.heap.size by omega))
  have hbl := below_end HB0.out HWW.out HL2.out.grown
  go_ret2
  exact ⟨z, g, c, x, rfl, by rw [HB0.out]; exact HVl.out, HSh.out, hzl, hx0, hx1, hbl⟩
def TxtArg (w : World) (e : Ending) (w' : World) : Prop := ∃ s : ByteArray, e = .returned (.string s) ∧ s.size ≤ 1610 ∧ Below w.heap.size w w'
theorem text_short {z : List M} {s : ByteArray} {ok : Bool} (h : AgendaTextC.Ans z s ok) : s.size ≤ 1600 := by
  rcases h with ⟨g, rfl, _⟩ | ⟨_, rfl, _⟩
  · have h1 := AgendaTextC.text_size z (AgendaTextC.all_ok g) z.length (Nat.le_refl _)
    rw [List.take_length] at h1
    have := Ag.good_len g
    omega
  · exact Nat.zero_le _
theorem drawParseAgenda (a : Option Addr) (len cap : Nat) (zs : List Int) (w : World) (h : Frame.IsRow .u8 w a len cap zs) (hl : len ≤ 65536) :
    Calls Tryz.prog 34 #[.slice a len cap] w (TxtArg w) := by
  have HC := Lib.hid (cur_new h hl)
  have hz : w.heap.size + 1 ≤ (w.alloc (.cells #[.slice a len cap, .int .i64 0, .int .u64 0] 63)).heap.size := by simp
  clear h
  go_enter Tryz.func34, Tryz.ntmps34
  go_wp2_with fail
  generalize hWW : w.alloc (.cells #[.slice a len cap, .int .i64 0, .int .u64 0] 63) = W0 at *
  have HWW := Lib.hid hWW
  generalize hB0 : w.heap.size = B at *
  have HB0 := Lib.hid hB0
  clear hWW hB0
  refine (agenda B 0 _ HC.out (by omega)).mono ?_
  rintro e w1 ⟨z, g, c, rfl, hv, hsh, hzl, hl1⟩
  have HV := Lib.hid hv
  have HSh := Lib.hid hsh
  have HL := Lib.hid hl1
  clear hv hsh hl1 HC
  go_wp2_with fail
  refine (AgendaTextC.spec _ z _ (Own.isS HV.out ⟨g, rfl⟩) (short_fine HSh.out) (by omega)).mono ?_
  rintro e w2 ⟨s, ok, rfl, hA, hb2⟩
  have hss := text_short hA
  have HL2 := Lib.hid (HL.out.kept hb2)
  clear hA hb2 HV HL HSh
  go_wp2_with fail
  refine (one B _ 4 _ HL2.out.cur (by omega) (by omega) (by omega)).mono ?_
  rintro e w3 ⟨r, rfl, hc3, hg3⟩
  have HL3 := Lib.hid (HL2.out.draw hc3 hg3)
  clear hc3 hg3 HL2
  cases r with
  | false =>
    go_wp2_with fail
    have hbl := below_end HB0.out HWW.out HL3.out.grown
    go_ret
    exact ⟨s, rfl, by omega, hbl⟩
  | true =>
    go_wp2_with fail
    refine (spoilt B _ s ⟨#[48, 32, 46, 40, 58, 10, 97]⟩ _ HL3.out.cur (by omega) (by omega) (by decide) (by decide)).mono ?_
    rintro e w4 ⟨s', rfl, hs', hc4, hg4⟩
    have HL4 := Lib.hid (HL3.out.draw hc4 hg4)
    clear hc4 hg4 HL3
    go_wp2_with fail
    have hbl := below_end HB0.out HWW.out HL4.out.grown
    go_ret
    exact ⟨s', rfl, by omega, hbl⟩
end Go.Proofs.YtgemnjimgjnlhaaGreatDoor.DrawAg
