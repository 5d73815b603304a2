/- The draws of a document and of a section of it. No condition. -/
import Derived.Test.YtmpolpeomabcfaaDrawD
namespace Go.Proofs.Ytmpolpeomabcfaa.Draw
open Go.RowKit Cur Bs Doc
set_option linter.unusedVariables false
theorem below_end {w W0 w' : World} {B : Nat} {a : Option Addr} {len cap : Nat} (hB : w.heap.size = B) (hW : w.alloc (.cells #[.slice a len cap, .int .i64 0, .int .u64 0] 58) = W0) (hg : W0.grownBy w' (some B)) : Below w.heap.size w w' := by
  subst hB hW
  exact below_cur hg
def NumIn (w : World) (B m : Nat) (lo hi : Int) (e : Ending) (w' : World) : Prop := ∃ x : Int, e = .returned (.int .i64 x) ∧ lo ≤ x ∧ x ≤ hi ∧ Cur w' B m ∧ w.grownBy w' (some B)
theorem sectionOf (B m g : Nat) (z : List M) (c : Nat) (w : World) (h : Cur w B m) (hm : m < 700000) (hl : z.length ≤ 14) : Calls Try.prog 49 #[.pointer (some ⟨B, 0, none⟩), .slice (some ⟨g, 0, none⟩) z.length c] w (NumIn w B (m + 4) (-1) 14) := by
  have HC := Lib.hid h
  obtain ⟨n, hn⟩ : ∃ n, n = z.length := ⟨_, rfl⟩
  rw [← hn] at hl ⊢
  have s1 : IntKind.i64.wrap ((n : Int) + 1) = (n : Int) + 1 := IntWalk.i64_in _ (by omega)
  clear h hn
  go_enter Try.func49, Try.ntmps49
  go_wp2_with fail
  refine (pick B m ((n : Int) + 1) w HC.out (by omega) (by omega) (by omega)).mono ?_
  rintro e w1 ⟨r, rfl, r0, r1, hc1, hg1⟩
  have HC1 := Lib.hid hc1
  clear hc1 HC s1
  go_wp2_with fail
  refine (pick B _ 20 _ HC1.out (by omega) (by omega) (by omega)).mono ?_
  rintro e w2 ⟨s, rfl, s0, s1, hc2, hg2⟩
  have HC2 := Lib.hid hc2
  have hg := grown_trans hg1 hg2
  have hq : s.tdiv 19 = s / 19 := Int.tdiv_eq_ediv_of_nonneg s0
  have hw1 : IntKind.i64.wrap (s / 19) = s / 19 := IntWalk.i64_in _ (by omega)
  have hw2 : IntKind.i64.wrap (r - s / 19) = r - s / 19 := IntWalk.i64_in _ (by omega)
  clear hc2 hg1 hg2 HC1
  go_wp2_with fail
  go_ret
  exact ⟨r - s / 19, rfl, by omega, by omega, HC2.out, hg⟩
def SecArgs (w : World) (e : Ending) (w' : World) : Prop := ∃ (z : List M) (g c : Nat) (x : Int), e = .returned (.tuple #[.slice (some ⟨g, 0, none⟩) z.length c, .int .i64 x]) ∧ Own LSection.rec 34 w' w.heap.size (.slice (some ⟨g, 0, none⟩) z.length c) z ∧ Short z ∧ z.length ≤ 14 ∧ Below w.heap.size w w'
set_option maxRecDepth 100000 in
set_option maxHeartbeats 1600000 in
theorem drawSectionNumber (a : Option Addr) (len cap : Nat) (zs : List Int) (w : World) (h : Frame.IsRow .u8 w a len cap zs) (hl : len ≤ 65536) :
    Calls Try.prog 35 #[.slice a len cap] w (SecArgs w) := by
  have HC := Lib.hid (cur_new h hl)
  have hz : w.heap.size + 1 ≤ (w.alloc (.cells #[.slice a len cap, .int .i64 0, .int .u64 0] 58)).heap.size := by simp
  clear h
  go_enter Try.func35, Try.ntmps35
  go_wp2_with fail
  generalize hWW : w.alloc (.cells #[.slice a len cap, .int .i64 0, .int .u64 0] 58) = W0 at *
  have HWW := Lib.hid hWW
  generalize hB0 : w.heap.size = B at *
  have HB0 := Lib.hid hB0
  clear hWW hB0
  refine (document B 0 _ HC.out (by omega)).mono ?_
  rintro e w1 ⟨z, g, c, rfl, hv, hsh, hzl, hl1⟩
  have HV := Lib.hid hv
  have HSh := Lib.hid hsh
  have HL := Lib.hid hl1
  have HA := Lib.hid hl1.low
  clear hv hsh hl1 HC
  go_wp2_with fail
  refine (sectionOf B _ _ z c _ HL.out.cur (by omega) hzl).mono ?_
  rintro e w2 ⟨x, rfl, hx0, hx1, hc2, hg2⟩
  have HV2 := Lib.hid (own_grown HV.out hg2 HA.out)
  have HL2 := Lib.hid (HL.out.draw hc2 hg2)
  clear hc2 hg2 HV HL
  go_wp2_with fail
  have HVl := Lib.hid (HV2.out.low (show B ≤ W0.heap.size by omega))
  have hbl := below_end HB0.out HWW.out HL2.out.grown
  go_ret2
  exact ⟨z, g, c, x, rfl, by rw [HB0.out]; exact HVl.out, HSh.out, hzl, hbl⟩
theorem drawCutSection (a : Option Addr) (len cap : Nat) (zs : List Int) (w : World) (h : Frame.IsRow .u8 w a len cap zs) (hl : len ≤ 65536) :
    Calls Try.prog 11 #[.slice a len cap] w (SecArgs w) := by
  have HD := Lib.hid (drawSectionNumber a len cap zs w h hl)
  clear h
  unfold SecArgs at HD
  go_enter Try.func11, Try.ntmps11
  go_wp2_with fail
  refine HD.out.mono ?_
  rintro e w1 ⟨z, g, c, x, rfl, hv, hsh, hzl, hb⟩
  have HV := Lib.hid hv
  have HSh := Lib.hid hsh
  clear hv hsh HD
  go_wp2_with fail
  go_ret2
  exact ⟨z, g, c, x, rfl, HV.out, HSh.out, hzl, hb⟩
theorem drawBelongsTo (a : Option Addr) (len cap : Nat) (zs : List Int) (w : World) (h : Frame.IsRow .u8 w a len cap zs) (hl : len ≤ 65536) :
    Calls Try.prog 24 #[.slice a len cap] w (SecArgs w) := by
  have HD := Lib.hid (drawSectionNumber a len cap zs w h hl)
  clear h
  unfold SecArgs at HD
  go_enter Try.func24, Try.ntmps24
  go_wp2_with fail
  refine HD.out.mono ?_
  rintro e w1 ⟨z, g, c, x, rfl, hv, hsh, hzl, hb⟩
  have HV := Lib.hid hv
  have HSh := Lib.hid hsh
  clear hv hsh HD
  go_wp2_with fail
  go_ret2
  exact ⟨z, g, c, x, rfl, HV.out, HSh.out, hzl, hb⟩
def ShArgs (w : World) (e : Ending) (w' : World) : Prop := ∃ (z : List M) (g c : Nat) (x y : Int), e = .returned (.tuple #[.slice (some ⟨g, 0, none⟩) z.length c, .int .i64 x, .int .i64 y]) ∧ Own LSection.rec 34 w' w.heap.size (.slice (some ⟨g, 0, none⟩) z.length c) z ∧ Short z ∧ z.length ≤ 14 ∧ Below w.heap.size w w'
set_option maxRecDepth 100000 in
set_option maxHeartbeats 1600000 in
theorem drawShiftSection (a : Option Addr) (len cap : Nat) (zs : List Int) (w : World) (h : Frame.IsRow .u8 w a len cap zs) (hl : len ≤ 65536) :
    Calls Try.prog 21 #[.slice a len cap] w (ShArgs w) := by
  have HC := Lib.hid (cur_new h hl)
  have hz : w.heap.size + 1 ≤ (w.alloc (.cells #[.slice a len cap, .int .i64 0, .int .u64 0] 58)).heap.size := by simp
  clear h
  go_enter Try.func21, Try.ntmps21
  go_wp2_with fail
  generalize hWW : w.alloc (.cells #[.slice a len cap, .int .i64 0, .int .u64 0] 58) = W0 at *
  have HWW := Lib.hid hWW
  generalize hB0 : w.heap.size = B at *
  have HB0 := Lib.hid hB0
  clear hWW hB0
  refine (document B 0 _ HC.out (by omega)).mono ?_
  rintro e w1 ⟨z, g, c, rfl, hv, hsh, hzl, hl1⟩
  have HV := Lib.hid hv
  have HSh := Lib.hid hsh
  have HL := Lib.hid hl1
  have HA := Lib.hid hl1.low
  clear hv hsh hl1 HC
  go_wp2_with fail
  refine (sectionOf B _ _ z c _ HL.out.cur (by omega) hzl).mono ?_
  rintro e w2 ⟨x, rfl, hx0, hx1, hc2, hg2⟩
  have HV2 := Lib.hid (own_grown HV.out hg2 HA.out)
  have HL2 := Lib.hid (HL.out.draw hc2 hg2)
  clear hc2 hg2 HV HL
  go_wp2_with fail
  refine (among_lit B _ [0, 1, -1, 1, -1, 2, 4, -4, 5] w2 HL2.out.cur (by omega) (by decide) (by decide)).mono ?_
  rintro e w3 ⟨y, _, rfl, hc3, hg3⟩
  have HV3 := Lib.hid (own_grown HV2.out hg3 HA.out)
  have HL3 := Lib.hid (HL2.out.draw hc3 hg3)
  have HVl := Lib.hid (HV3.out.low (show B ≤ W0.heap.size by omega))
  have hbl := below_end HB0.out HWW.out HL3.out.grown
  clear hc3 hg3 HV2 HL2
  go_wp2_with fail
  go_ret3
  exact ⟨z, g, c, x, y, rfl, by rw [HB0.out]; exact HVl.out, HSh.out, hzl, hbl⟩
theorem row_alloc {w : World} {a : Option Addr} {len cap : Nat} {zs : List Int} (h : Frame.IsRow .u8 w a len cap zs) (o : Obj) : Frame.IsRow .u8 (w.alloc o) a len cap zs := by
  rcases h with h | ⟨x, h0, h1, h2, h3, h4, h5⟩
  · exact .inl h
  · exact .inr ⟨x, h0, h1, h2, h3, fun i hi => by rw [((Below.refl w.heap.size w).alloc (Nat.le_refl _) o).cell (Bs.cell_lt (h4 i hi))]; exact h4 i hi, h5⟩
def AdArgs (w : World) (e : Ending) (w' : World) : Prop := ∃ (z : List M) (g c : Nat) (x : Int) (r : M), e = .returned (.tuple #[.slice (some ⟨g, 0, none⟩) z.length c, .int .i64 x, .agg #[.int .i64 r.depth, .string r.title]]) ∧ Own LSection.rec 34 w' w.heap.size (.slice (some ⟨g, 0, none⟩) z.length c) z ∧ Short z ∧ z.length ≤ 14 ∧ r.title.size ≤ 11 ∧ Below w.heap.size w w'
set_option maxRecDepth 100000 in
set_option maxHeartbeats 3200000 in
theorem drawAddSection (a : Option Addr) (len cap : Nat) (zs : List Int) (w : World) (h : Frame.IsRow .u8 w a len cap zs) (hl : len ≤ 65536) :
    Calls Try.prog 18 #[.slice a len cap] w (AdArgs w) := by
  have HC := Lib.hid (cur_new (row_alloc h (.cells #[.int .i64 0, .string ⟨#[]⟩] 34)) hl)
  have HR0 := Lib.hid ((Bx.new w 34 #[.int .i64 0, .string ⟨#[]⟩]).alloc (.cells #[.slice a len cap, .int .i64 0, .int .u64 0] 58))
  have hz : w.heap.size + 2 ≤ ((w.alloc (.cells #[.int .i64 0, .string ⟨#[]⟩] 34)).alloc (.cells #[.slice a len cap, .int .i64 0, .int .u64 0] 58)).heap.size := by simp
  have hBs : (w.alloc (.cells #[.int .i64 0, .string ⟨#[]⟩] 34)).heap.size = w.heap.size + 1 := by simp
  rw [hBs] at HC
  clear h hBs
  go_enter Try.func18, Try.ntmps18
  go_wp2_with fail
  generalize hWW : (w.alloc (.cells #[.int .i64 0, .string ⟨#[]⟩] 34)).alloc (.cells #[.slice a len cap, .int .i64 0, .int .u64 0] 58) = W0 at *
  have HWW := Lib.hid hWW
  generalize hR : w.heap.size = R at *
  have HRe := Lib.hid hR
  clear hWW hR
  refine (document (R + 1) 0 _ HC.out (by omega)).mono ?_
  rintro e w1 ⟨z, g, c, rfl, hv, hsh, hzl, hl1⟩
  have HV := Lib.hid hv
  have HSh := Lib.hid hsh
  have HL := Lib.hid hl1
  have HA := Lib.hid hl1.low
  have HR1 := Lib.hid (HR0.out.grown hl1.grown (by omega))
  have hgz := (hv.lt g rfl).1
  clear hv hsh hl1 HC HR0
  obtain ⟨n, hn⟩ : ∃ n, n = z.length := ⟨_, rfl⟩
  have HN := Lib.hid hn.symm
  rw [← hn] at hzl HV ⊢
  have s1 : IntKind.i64.wrap ((n : Int) + 2) = (n : Int) + 2 := IntWalk.i64_in _ (by omega)
  clear hn
  go_wp2_with fail
  refine (pick (R + 1) _ ((n : Int) + 2) _ HL.out.cur (by omega) (by omega) (by omega)).mono ?_
  rintro e w2 ⟨q, rfl, q0, q1, hc2, hg2⟩
  have HV2 := Lib.hid (own_grown HV.out hg2 HA.out)
  have HR2 := Lib.hid (HR1.out.grown hg2 (by omega))
  have HL2 := Lib.hid (HL.out.draw hc2 hg2)
  clear hc2 hg2 HV HR1 HL s1
  go_wp2_with fail
  refine (pick (R + 1) _ 20 _ HL2.out.cur (by omega) (by omega) (by omega)).mono ?_
  rintro e w3 ⟨s, rfl, s0, s1, hc3, hg3⟩
  have HV3 := Lib.hid (own_grown HV2.out hg3 HA.out)
  have HR3 := Lib.hid (HR2.out.grown hg3 (by omega))
  have HL3 := Lib.hid (HL2.out.draw hc3 hg3)
  have hq : s.tdiv 19 = s / 19 := Int.tdiv_eq_ediv_of_nonneg s0
  have hw1 : IntKind.i64.wrap (s / 19) = s / 19 := IntWalk.i64_in _ (by omega)
  have hw2 : IntKind.i64.wrap (q - s / 19) = q - s / 19 := IntWalk.i64_in _ (by omega)
  clear hc3 hg3 HV2 HR2 HL2
  have HV4 := Lib.hid (HV3.out.alloc (.cells (([1, 1, 2, 2, 3, 4, 0, 5] : List Int).map (Value.int .i64)).toArray 3))
  have HR4 := Lib.hid (HR3.out.alloc (.cells (([1, 1, 2, 2, 3, 4, 0, 5] : List Int).map (Value.int .i64)).toArray 3))
  have HL4 := Lib.hid (HL3.out.alloc (.cells (([1, 1, 2, 2, 3, 4, 0, 5] : List Int).map (Value.int .i64)).toArray 3))
  have HBx := Lib.hid (show Bx (w3.alloc (.cells (([1, 1, 2, 2, 3, 4, 0, 5] : List Int).map (Value.int .i64)).toArray 3)) w3.heap.size 3 (([1, 1, 2, 2, 3, 4, 0, 5] : List Int).map (Value.int .i64)).toArray from Bx.new _ _ _)
  have hne : w3.heap.size ≠ R + 1 := by have := HL3.out.cur.lt; omega
  have hneR : R < w3.heap.size := HR3.out.lt
  go_wp2_with fail
  clear hq hw1 hw2 HV3 HR3 HL3
  generalize q - s / 19 = I at *
  refine (pick (R + 1) _ 24 _ HL4.out.cur (by omega) (by omega) (by omega)).mono ?_
  rintro e w5 ⟨p, rfl, p0, p1, hc5, hg5⟩
  have HV5 := Lib.hid (own_grown HV4.out hg5 HA.out)
  have HR5 := Lib.hid (HR4.out.grown hg5 (by omega))
  have HB5 := Lib.hid (HBx.out.grown hg5 hne)
  have HL5 := Lib.hid (HL4.out.draw hc5 hg5)
  have hq : p.tdiv 11 = p / 11 := Int.tdiv_eq_ediv_of_nonneg p0
  have hw1 : IntKind.i64.wrap (p / 11) = p / 11 := IntWalk.i64_in _ (by omega)
  have hw2 : IntKind.i64.wrap (6 + p / 11) = 6 + p / 11 := IntWalk.i64_in _ (by omega)
  obtain ⟨nn, hnn⟩ := Int.eq_ofNat_of_zero_le (show 0 ≤ 6 + p / 11 by omega)
  have hn1 : 6 ≤ nn ∧ nn ≤ 8 := by omega
  have hn2 : (0 : Int) ≤ 6 + p / 11 := by omega
  have hn3 : 6 + p / 11 ≤ (8 : Int) := by omega
  have hn4 : (6 + p / 11).toNat = nn := by omega
  have HM := Lib.hid (fun (mm : Nat) (W : World) => among_pre (R + 1) mm w3.heap.size nn [1, 1, 2, 2, 3, 4, 0, 5] W)
  clear hc5 hg5 HV4 HR4 HBx HL4 hnn
  go_wp2_with fail
  refine (HM.out _ _ HL5.out.cur (by omega) HB5.out hne (by omega) (by show nn ≤ 8; omega) (by decide)).mono ?_
  rintro e w6 ⟨D, _, rfl, hc6, hg6⟩
  have HV6 := Lib.hid (own_grown HV5.out hg6 HA.out)
  have HR6 := Lib.hid (HR5.out.grown hg6 (by omega))
  have HL6 := Lib.hid (HL5.out.draw hc6 hg6)
  clear hc6 hg6 HV5 HR5 HL5 HB5 HM hq hw1 hw2 hn2 hn3 hn4 hn1 hne
  go_wp2_with fail
  refine (word (R + 1) _ _ HL6.out.cur (by omega)).mono ?_
  rintro e w7 ⟨T, rfl, hT, hc7, hg7⟩
  have HV7 := Lib.hid (own_grown HV6.out hg7 HA.out)
  have HR7 := Lib.hid (HR6.out.grown hg7 (by omega))
  have HL7 := Lib.hid (HL6.out.draw hc7 hg7)
  clear hc7 hg7 HV6 HR6 HL6
  have hgR : g ≠ R := by omega
  have HRs := Lib.hid (show Bx ((w7.setCell ⟨R, 0, none⟩ (.int .i64 D)).setCell ⟨R, 1, none⟩ (.string T)) R 34 #[.int .i64 D, .string T] from (HR7.out.set_ 0 (.int .i64 D)).set_ 1 (.string T))
  have HVs := Lib.hid (own_set (own_set HV7.out (p := ⟨R, 0, none⟩) (fun k hk => by have : k = g := (Option.some.inj hk).symm; show k ≠ R; omega) (.int .i64 D)) (p := ⟨R, 1, none⟩) (fun k hk => by have : k = g := (Option.some.inj hk).symm; show k ≠ R; omega) (.string T))
  have hb7 : Below w.heap.size w w7 := by
    have h1 := HL7.out.grown
    rw [← HWW.out] at h1
    have h2 := below_cur (w := w.alloc (.cells #[.int .i64 0, .string ⟨#[]⟩] 34)) (by rw [show (w.alloc (.cells #[.int .i64 0, .string ⟨#[]⟩] 34)).heap.size = R + 1 by rw [← HRe.out]; simp]; exact h1)
    exact ((Below.refl w.heap.size w).alloc (Nat.le_refl _) (.cells #[.int .i64 0, .string ⟨#[]⟩] 34)).trans (h2.mono (by simp))
  have hbs := (hb7.setCell (p := ⟨R, 0, none⟩) (by show w.heap.size ≤ R; rw [HRe.out]; exact Nat.le_refl _) (.int .i64 D)).setCell (p := ⟨R, 1, none⟩) (by show w.heap.size ≤ R; rw [HRe.out]; exact Nat.le_refl _) (.string T)
  have r0 := HR7.out.cell 0
  have r1 := HR7.out.cell 1
  have f0 := HR7.out.frozen 0
  have f1 := HR7.out.frozen 1
  simp only [List.getElem?_toArray, List.getElem?_cons_zero, List.getElem?_cons_succ] at r0 r1
  go_wp2_with fail
  clear r0 r1 f0 f1 hb7
  generalize ((w7.setCell ⟨R, 0, none⟩ (.int .i64 D)).setCell ⟨R, 1, none⟩ (.string T)) = wz at *
  have r0 := HRs.out.cell 0
  have r1 := HRs.out.cell 1
  simp only [List.getElem?_toArray, List.getElem?_cons_zero, List.getElem?_cons_succ] at r0 r1
  (try simp only [Exit.inBlock, Exit.then])
  refine bodyPost_ret (v := .tuple #[.slice (some ⟨g, 0, none⟩) n c, .int .i64 I, .agg #[.int .i64 D, .string T]]) (by simp [results, Try.results18, go_sem, r0, r1]) rfl ?_
  exact ⟨z, g, c, I, ⟨D, T⟩, by rw [HN.out], by rw [HN.out, HRe.out]; exact HVs.out.low (by omega), HSh.out, by rw [HN.out]; exact hzl, by show T.size ≤ 11; omega, hbs⟩
end Go.Proofs.Ytmpolpeomabcfaa.Draw
