/- The draws of FnDocuments. No condition. -/
import Derived.Test.YtmpolpeomabcfaaDoorDrawDs
import Derived.Test.YtmpolpeomabcfaaDoorSpoil
import Derived.Test.YtmpolpeomabcfaaDoorSectionNumberC
import Derived.Test.YtmpolpeomabcfaaDoorFindSectionC
import Derived.Test.YtmpolpeomabcfaaDoorDocumentTextC
namespace Go.Proofs.YtmpolpeomabcfaaDoor.Draw
open Go.RowKit Cur Bs Doc
set_option linter.unusedVariables false
def wrongs : List ByteArray := [⟨#[]⟩, ⟨#[49]⟩, ⟨#[49, 46, 49]⟩, ⟨#[50, 46, 49, 46, 49]⟩, ⟨#[48, 49]⟩, ⟨#[49, 46]⟩, ⟨#[49, 51]⟩]
theorem num_short {z : List M} {x : Int} {s : ByteArray} {b : Bool} (h : SectionNumberC.Ans z x s b) : s.size ≤ 300 := by
  unfold SectionNumberC.Ans SectionNumberC.anA at h
  split at h
  · rename_i hq
    obtain ⟨hg, k, rfl, hk⟩ := ask_good hq
    have h12 := good_len hg
    have := numB_size (xs := z) (k + 1) k (by omega) (by omega)
    simp only [Prod.mk.injEq] at h
    rw [← h.1]
    show (numB z k).size ≤ 300
    omega
  · simp only [Prod.mk.injEq] at h
    rw [← h.1]; exact Nat.zero_le _
theorem text_short {z : List M} {s : ByteArray} {b : Bool} (h : DocumentTextC.Ans z s b) : s.size ≤ 3600 := by
  rcases h with ⟨hg, rfl, _⟩ | ⟨_, rfl, _⟩
  · have := DocumentTextC.txt_size hg z.length (Nat.le_refl _)
    have := good_len hg
    omega
  · exact Nat.zero_le _
def FindArgs (w : World) (e : Ending) (w' : World) : Prop := ∃ (z : List M) (g c : Nat) (s : ByteArray), e = .returned (.tuple #[.slice (some ⟨g, 0, none⟩) z.length c, .string s]) ∧ Own LSection.rec 33 w' w.heap.size (.slice (some ⟨g, 0, none⟩) z.length c) z ∧ Short z ∧ z.length ≤ 14 ∧ s.size ≤ 300 ∧ Below w.heap.size w w'
set_option maxRecDepth 100000 in
set_option maxHeartbeats 1600000 in
theorem drawFindSection (a : Option Addr) (len cap : Nat) (zs : List Int) (w : World) (h : Frame.IsRow .u8 w a len cap zs) (hl : len ≤ 65536) :
    Calls Tryd.prog 14 #[.slice a len cap] w (FindArgs w) := by
  have HC := Lib.hid (cur_new h hl)
  have hz : w.heap.size + 1 ≤ (w.alloc (.cells #[.slice a len cap, .int .i64 0, .int .u64 0] 54)).heap.size := by simp
  clear h
  go_enter Tryd.func14, Tryd.ntmps14
  go_wp2_with fail
  generalize hWW : w.alloc (.cells #[.slice a len cap, .int .i64 0, .int .u64 0] 54) = W0 at *
  have HWW := Lib.hid hWW
  generalize hB0 : w.heap.size = B at *
  have HB0 := Lib.hid hB0
  clear hWW hB0
  refine (document B 0 _ HC.out (by omega)).mono ?_
  rintro e w1 ⟨z, g, c, rfl, hv, hsh, hzl, hl1⟩
  have HV := Lib.hid hv
  have HSh := Lib.hid hsh
  have HL := Lib.hid hl1
  have HA := Lib.hid hl1.low
  clear hv hsh hl1 HC
  go_wp2_with fail
  refine (sectionOf B _ _ z c _ HL.out.cur (by omega) hzl).mono ?_
  rintro e w2 ⟨x, rfl, hx0, hx1, hc2, hg2⟩
  have HV2 := Lib.hid (own_grown HV.out hg2 HA.out)
  have HL2 := Lib.hid (HL.out.draw hc2 hg2)
  clear hc2 hg2 HV HL
  go_wp2_with fail
  refine (SectionNumberC.spec _ z x _ (Own.isS HV2.out ⟨g, rfl⟩) (short_fine HSh.out) (by omega)).mono ?_
  rintro e w3 ⟨s, ok, rfl, hA, hb3⟩
  have hss := num_short hA
  have HV3 := Lib.hid (HV2.out.kept hb3)
  have HL3 := Lib.hid (HL2.out.kept hb3)
  clear hA hb3 HV2 HL2
  cases ok with
  | false =>
    go_wp2_with fail
    refine (of_lit B _ wrongs _ HL3.out.cur (by omega) (by decide) (by decide)).mono ?_
    rintro e w5 ⟨y, hy, rfl, hc5, hg5⟩
    have hs := small_of wrongs 300 (by decide +kernel) y hy
    have HV5 := Lib.hid (own_grown HV3.out hg5 HA.out)
    have HL5 := Lib.hid (HL3.out.draw hc5 hg5)
    clear hc5 hg5 hy HV3 HL3
    go_wp2_with fail
    have HVl := Lib.hid (HV5.out.low (show B ≤ W0.heap.size by omega))
    have hbl := below_end HB0.out HWW.out HL5.out.grown
    go_ret2
    exact ⟨z, g, c, y, rfl, by rw [HB0.out]; exact HVl.out, HSh.out, hzl, hs, hbl⟩
  | true =>
    go_wp2_with fail
    refine (one B _ 4 _ HL3.out.cur (by omega) (by omega) (by omega)).mono ?_
    rintro e w4 ⟨r, rfl, hc4, hg4⟩
    have HV4 := Lib.hid (own_grown HV3.out hg4 HA.out)
    have HL4 := Lib.hid (HL3.out.draw hc4 hg4)
    clear hc4 hg4 HV3 HL3
    cases r with
    | false =>
      go_wp2_with fail
      have HVl := Lib.hid (HV4.out.low (show B ≤ W0.heap.size by omega))
      have hbl := below_end HB0.out HWW.out HL4.out.grown
      go_ret2
      exact ⟨z, g, c, s, rfl, by rw [HB0.out]; exact HVl.out, HSh.out, hzl, hss, hbl⟩
    | true =>
      go_wp2_with fail
      refine (of_lit B _ wrongs _ HL4.out.cur (by omega) (by decide) (by decide)).mono ?_
      rintro e w5 ⟨y, hy, rfl, hc5, hg5⟩
      have hs := small_of wrongs 300 (by decide +kernel) y hy
      have HV5 := Lib.hid (own_grown HV4.out hg5 HA.out)
      have HL5 := Lib.hid (HL4.out.draw hc5 hg5)
      clear hc5 hg5 hy HV4 HL4
      go_wp2_with fail
      have HVl := Lib.hid (HV5.out.low (show B ≤ W0.heap.size by omega))
      have hbl := below_end HB0.out HWW.out HL5.out.grown
      go_ret2
      exact ⟨z, g, c, y, rfl, by rw [HB0.out]; exact HVl.out, HSh.out, hzl, hs, hbl⟩
def DocArg (w : World) (e : Ending) (w' : World) : Prop := ∃ (z : List M) (g c : Nat), e = .returned (.slice (some ⟨g, 0, none⟩) z.length c) ∧ Own LSection.rec 33 w' w.heap.size (.slice (some ⟨g, 0, none⟩) z.length c) z ∧ Short z ∧ z.length ≤ 14 ∧ Below w.heap.size w w'
set_option maxRecDepth 100000 in
set_option maxHeartbeats 1600000 in
theorem drawIsDocument (a : Option Addr) (len cap : Nat) (zs : List Int) (w : World) (h : Frame.IsRow .u8 w a len cap zs) (hl : len ≤ 65536) :
    Calls Tryd.prog 39 #[.slice a len cap] w (DocArg w) := by
  have HC := Lib.hid (cur_new h hl)
  have hz : w.heap.size + 1 ≤ (w.alloc (.cells #[.slice a len cap, .int .i64 0, .int .u64 0] 54)).heap.size := by simp
  clear h
  go_enter Tryd.func39, Tryd.ntmps39
  go_wp2_with fail
  generalize hWW : w.alloc (.cells #[.slice a len cap, .int .i64 0, .int .u64 0] 54) = W0 at *
  have HWW := Lib.hid hWW
  generalize hB0 : w.heap.size = B at *
  have HB0 := Lib.hid hB0
  clear hWW hB0
  refine (document B 0 _ HC.out (by omega)).mono ?_
  rintro e w1 ⟨z, g, c, rfl, hv, hsh, hzl, hl1⟩
  have HV := Lib.hid hv
  have HSh := Lib.hid hsh
  have HL := Lib.hid hl1
  have HA := Lib.hid hl1.low
  clear hv hsh hl1 HC
  go_wp2_with fail
  have HVl := Lib.hid (HV.out.low (show B ≤ W0.heap.size by omega))
  have hbl := below_end HB0.out HWW.out HL.out.grown
  go_ret
  exact ⟨z, g, c, rfl, by rw [HB0.out]; exact HVl.out, HSh.out, hzl, hbl⟩
set_option maxRecDepth 100000 in
set_option maxHeartbeats 1600000 in
theorem drawDocumentText (a : Option Addr) (len cap : Nat) (zs : List Int) (w : World) (h : Frame.IsRow .u8 w a len cap zs) (hl : len ≤ 65536) :
    Calls Tryd.prog 16 #[.slice a len cap] w (DocArg w) := by
  have HD := Lib.hid (drawIsDocument a len cap zs w h hl)
  clear h
  go_enter Tryd.func16, Tryd.ntmps16
  go_wp2_with fail
  refine HD.out.mono ?_
  rintro e w1 ⟨z, g, c, rfl, hv, hsh, hzl, hb⟩
  have HV := Lib.hid hv
  have HSh := Lib.hid hsh
  clear hv hsh HD
  go_wp2_with fail
  go_ret
  exact ⟨z, g, c, rfl, HV.out, HSh.out, hzl, hb⟩
def TextArg (w : World) (e : Ending) (w' : World) : Prop := ∃ s : ByteArray, e = .returned (.string s) ∧ s.size ≤ 4000 ∧ Below w.heap.size w w'
set_option maxRecDepth 100000 in
set_option maxHeartbeats 1600000 in
theorem drawParseDocument (a : Option Addr) (len cap : Nat) (zs : List Int) (w : World) (h : Frame.IsRow .u8 w a len cap zs) (hl : len ≤ 65536) :
    Calls Tryd.prog 22 #[.slice a len cap] w (TextArg w) := by
  have HC := Lib.hid (cur_new h hl)
  have hz : w.heap.size + 1 ≤ (w.alloc (.cells #[.slice a len cap, .int .i64 0, .int .u64 0] 54)).heap.size := by simp
  clear h
  go_enter Tryd.func22, Tryd.ntmps22
  go_wp2_with fail
  generalize hWW : w.alloc (.cells #[.slice a len cap, .int .i64 0, .int .u64 0] 54) = W0 at *
  have HWW := Lib.hid hWW
  generalize hB0 : w.heap.size = B at *
  have HB0 := Lib.hid hB0
  clear hWW hB0
  refine (document B 0 _ HC.out (by omega)).mono ?_
  rintro e w1 ⟨z, g, c, rfl, hv, hsh, hzl, hl1⟩
  have HV := Lib.hid hv
  have HSh := Lib.hid hsh
  have HL := Lib.hid hl1
  have HA := Lib.hid hl1.low
  clear hv hsh hl1 HC
  go_wp2_with fail
  refine (DocumentTextC.spec _ z _ (Own.isS HV.out ⟨g, rfl⟩) (short_fine HSh.out) (by omega)).mono ?_
  rintro e w2 ⟨s, ok, rfl, hA, hb2⟩
  have hss := text_short hA
  have HL2 := Lib.hid (HL.out.kept hb2)
  clear hA hb2 HV HL HSh
  go_wp2_with fail
  refine (one B _ 4 _ HL2.out.cur (by omega) (by omega) (by omega)).mono ?_
  rintro e w3 ⟨r, rfl, hc3, hg3⟩
  have HL3 := Lib.hid (HL2.out.draw hc3 hg3)
  clear hc3 hg3 HL2
  cases r with
  | false =>
    go_wp2_with fail
    have hbl := below_end HB0.out HWW.out HL3.out.grown
    go_ret
    exact ⟨s, rfl, by omega, hbl⟩
  | true =>
    go_wp2_with fail
    refine (spoilt B _ s ⟨#[49, 46, 32, 10, 97]⟩ _ HL3.out.cur (by omega) (by omega) (by decide) (by decide)).mono ?_
    rintro e w4 ⟨s', rfl, hs', hc4, hg4⟩
    have HL4 := Lib.hid (HL3.out.draw hc4 hg4)
    clear hc4 hg4 HL3
    go_wp2_with fail
    have hbl := below_end HB0.out HWW.out HL4.out.grown
    go_ret
    exact ⟨s', rfl, by omega, hbl⟩
end Go.Proofs.YtmpolpeomabcfaaDoor.Draw
