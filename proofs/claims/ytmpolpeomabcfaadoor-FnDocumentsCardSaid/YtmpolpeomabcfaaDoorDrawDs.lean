/- The draws of a document and of a section of it. No condition. -/
import Derived.Test.YtmpolpeomabcfaaDoorDrawD
namespace Go.Proofs.YtmpolpeomabcfaaDoor.Draw
open Go.RowKit Cur Bs Doc
set_option linter.unusedVariables false
theorem below_end {w W0 w' : World} {B : Nat} {a : Option Addr} {len cap : Nat} (hB : w.heap.size = B) (hW : w.alloc (.cells #[.slice a len cap, .int .i64 0, .int .u64 0] 54) = W0) (hg : W0.grownBy w' (some B)) : Below w.heap.size w w' := by
  subst hB hW
  exact below_cur hg
def NumIn (w : World) (B m : Nat) (lo hi : Int) (e : Ending) (w' : World) : Prop := ∃ x : Int, e = .returned (.int .i64 x) ∧ lo ≤ x ∧ x ≤ hi ∧ Cur w' B m ∧ w.grownBy w' (some B)
theorem sectionOf (B m g : Nat) (z : List M) (c : Nat) (w : World) (h : Cur w B m) (hm : m < 700000) (hl : z.length ≤ 14) : Calls Tryd.prog 30 #[.pointer (some ⟨B, 0, none⟩), .slice (some ⟨g, 0, none⟩) z.length c] w (NumIn w B (m + 4) (-1) 14) := by
  have HC := Lib.hid h
  obtain ⟨n, hn⟩ : ∃ n, n = z.length := ⟨_, rfl⟩
  rw [← hn] at hl ⊢
  have s1 : IntKind.i64.wrap ((n : Int) + 1) = (n : Int) + 1 := IntWalk.i64_in _ (by omega)
  clear h hn
  go_enter Tryd.func30, Tryd.ntmps30
  go_wp2_with fail
  refine (pick B m ((n : Int) + 1) w HC.out (by omega) (by omega) (by omega)).mono ?_
  rintro e w1 ⟨r, rfl, r0, r1, hc1, hg1⟩
  have HC1 := Lib.hid hc1
  clear hc1 HC s1
  go_wp2_with fail
  refine (pick B _ 20 _ HC1.out (by omega) (by omega) (by omega)).mono ?_
  rintro e w2 ⟨s, rfl, s0, s1, hc2, hg2⟩
  have HC2 := Lib.hid hc2
  have hg := grown_trans hg1 hg2
  have hq : s.tdiv 19 = s / 19 := Int.tdiv_eq_ediv_of_nonneg s0
  have hw1 : IntKind.i64.wrap (s / 19) = s / 19 := IntWalk.i64_in _ (by omega)
  have hw2 : IntKind.i64.wrap (r - s / 19) = r - s / 19 := IntWalk.i64_in _ (by omega)
  clear hc2 hg1 hg2 HC1
  go_wp2_with fail
  go_ret
  exact ⟨r - s / 19, rfl, by omega, by omega, HC2.out, hg⟩
def SecArgs (w : World) (e : Ending) (w' : World) : Prop := ∃ (z : List M) (g c : Nat) (x : Int), e = .returned (.tuple #[.slice (some ⟨g, 0, none⟩) z.length c, .int .i64 x]) ∧ Own LSection.rec 33 w' w.heap.size (.slice (some ⟨g, 0, none⟩) z.length c) z ∧ Short z ∧ z.length ≤ 14 ∧ Below w.heap.size w w'
set_option maxRecDepth 100000 in
set_option maxHeartbeats 1600000 in
theorem drawSectionNumber (a : Option Addr) (len cap : Nat) (zs : List Int) (w : World) (h : Frame.IsRow .u8 w a len cap zs) (hl : len ≤ 65536) :
    Calls Tryd.prog 9 #[.slice a len cap] w (SecArgs w) := by
  have HC := Lib.hid (cur_new h hl)
  have hz : w.heap.size + 1 ≤ (w.alloc (.cells #[.slice a len cap, .int .i64 0, .int .u64 0] 54)).heap.size := by simp
  clear h
  go_enter Tryd.func9, Tryd.ntmps9
  go_wp2_with fail
  generalize hWW : w.alloc (.cells #[.slice a len cap, .int .i64 0, .int .u64 0] 54) = W0 at *
  have HWW := Lib.hid hWW
  generalize hB0 : w.heap.size = B at *
  have HB0 := Lib.hid hB0
  clear hWW hB0
  refine (document B 0 _ HC.out (by omega)).mono ?_
  rintro e w1 ⟨z, g, c, rfl, hv, hsh, hzl, hl1⟩
  have HV := Lib.hid hv
  have HSh := Lib.hid hsh
  have HL := Lib.hid hl1
  have HA := Lib.hid hl1.low
  clear hv hsh hl1 HC
  go_wp2_with fail
  refine (sectionOf B _ _ z c _ HL.out.cur (by omega) hzl).mono ?_
  rintro e w2 ⟨x, rfl, hx0, hx1, hc2, hg2⟩
  have HV2 := Lib.hid (own_grown HV.out hg2 HA.out)
  have HL2 := Lib.hid (HL.out.draw hc2 hg2)
  clear hc2 hg2 HV HL
  go_wp2_with fail
  have HVl := Lib.hid (HV2.out.low (show B ≤ W0.heap.size by omega))
  have hbl := below_end HB0.out HWW.out HL2.out.grown
  go_ret2
  exact ⟨z, g, c, x, rfl, by rw [HB0.out]; exact HVl.out, HSh.out, hzl, hbl⟩
def ShArgs (w : World) (e : Ending) (w' : World) : Prop := ∃ (z : List M) (g c : Nat) (x y : Int), e = .returned (.tuple #[.slice (some ⟨g, 0, none⟩) z.length c, .int .i64 x, .int .i64 y]) ∧ Own LSection.rec 33 w' w.heap.size (.slice (some ⟨g, 0, none⟩) z.length c) z ∧ Short z ∧ z.length ≤ 14 ∧ Below w.heap.size w w'
theorem row_alloc {w : World} {a : Option Addr} {len cap : Nat} {zs : List Int} (h : Frame.IsRow .u8 w a len cap zs) (o : Obj) : Frame.IsRow .u8 (w.alloc o) a len cap zs := by
  rcases h with h | ⟨x, h0, h1, h2, h3, h4, h5⟩
  · exact .inl h
  · exact .inr ⟨x, h0, h1, h2, h3, fun i hi => by rw [((Below.refl w.heap.size w).alloc (Nat.le_refl _) o).cell (Bs.cell_lt (h4 i hi))]; exact h4 i hi, h5⟩
def AdArgs (w : World) (e : Ending) (w' : World) : Prop := ∃ (z : List M) (g c : Nat) (x : Int) (r : M), e = .returned (.tuple #[.slice (some ⟨g, 0, none⟩) z.length c, .int .i64 x, .agg #[.int .i64 r.depth, .string r.title]]) ∧ Own LSection.rec 33 w' w.heap.size (.slice (some ⟨g, 0, none⟩) z.length c) z ∧ Short z ∧ z.length ≤ 14 ∧ r.title.size ≤ 11 ∧ Below w.heap.size w w'
end Go.Proofs.YtmpolpeomabcfaaDoor.Draw
