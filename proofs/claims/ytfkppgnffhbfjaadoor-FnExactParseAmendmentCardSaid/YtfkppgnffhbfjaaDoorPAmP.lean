/- An amendment read from its line: the model's l9Parse. No condition but the law's bound on the text. -/
import Derived.Test.YtfkppgnffhbfjaaDoorPAmI
import Derived.Test.YtfkppgnffhbfjaaDoorSplA
import Derived.Test.YtfkppgnffhbfjaaDoorRead
import Derived.Test.YtfkppgnffhbfjaaDoorAmK
namespace Go.Proofs.YtfkppgnffhbfjaaDoor.PAmP
open Go.RowKit Bs Word SplitMath NumMath Am AmL PAm PAmI
set_option linter.unusedVariables false
theorem l1SplitQ (s : ByteArray) (c : UInt8) (cn : Int) (hc : cn = c.toNat) (w : World) (hs : s.size ≤ 1048576) :
    Calls Tryd.prog 37 #[.string s, .int .u8 cn] w fun e w' => ∃ g n cp, e = .returned (.slice (some ⟨g, 0, none⟩) n cp) ∧ n = (splitOf s.data.toList c).length ∧ (1 ≤ n ∧ n ≤ 1048577 ∧ n ≤ cp ∧ cp ≤ 9223372036854775807) ∧ (w.heap.size ≤ g ∧ g < w'.heap.size) ∧ Bs.Own LString.rec 9 w' w.heap.size (.slice (some ⟨g, 0, none⟩) n cp) (SplA.bs (splitOf s.data.toList c)) ∧ Below w.heap.size w w' := by
  subst hc
  refine (Split.l1Split s c w hs).mono ?_
  rintro e w' ⟨v, rfl, ho, hb⟩
  have hO : Bs.Own LString.rec 9 w' w.heap.size v (SplA.bs (splitOf s.data.toList c)) := own_of LString.rec ho (SplA.bs_len _) (by rw [LString.flat_eq]; unfold SplA.bs Split.vals; rw [List.map_map]; rfl)
  have hpos : 0 < (splitOf s.data.toList c).length := by simp [splitOf]
  have hle := splitOf_length s.data.toList c
  have hz : s.data.toList.length = s.size := Array.length_toList
  rcases hO.shape with ⟨_, h⟩ | ⟨g, cap, rfl, hA, hg, hnc, hcm⟩
  · have := SplA.bs_len (splitOf s.data.toList c); rw [h] at this; simp at this; omega
  · unfold maxLen at hcm
    have hl := SplA.bs_len (splitOf s.data.toList c)
    exact ⟨g, _, cap, rfl, hl, ⟨by omega, by omega, hnc, hcm⟩, ⟨hA, hg⟩, hO, hb⟩
theorem own_cell {w : World} {A g n c j : Nat} {l : List (List UInt8)} {x : List UInt8} (h : Bs.Own LString.rec 9 w A (.slice (some ⟨g, 0, none⟩) n c) (SplA.bs l)) (hx : l[j]? = some x) : w.cell? ⟨g, j, none⟩ = some (.string ⟨x.toArray⟩) := by
  have := LString.cells (Bs.Own.at_ h j _ (SplA.bs_get hx))
  simpa only [LString.rec_n, Nat.mul_one] using this
def RP (l : List UInt8) (w : World) (e : Ending) (w' : World) : Prop := ∃ v ok, e = .returned (.tuple #[.int .i64 v, .bool ok]) ∧ ((ok = true ∧ Numeral l v) ∨ (ok = false ∧ (∀ v, ¬ Numeral l v) ∧ v = 0)) ∧ Below w.heap.size w w'
theorem l1ReadQ (s : ByteArray) (w : World) (hs : s.size ≤ 1048576) : Calls Tryd.prog 38 #[.string s] w (RP s.data.toList w) :=
  (Read.l1Read s w (by unfold maxLen; omega)).mono fun e w' ⟨h, hb⟩ => by
    rcases h with ⟨v, hv, he⟩ | ⟨hn, he⟩
    · exact ⟨v, true, he, .inl ⟨rfl, hv⟩, hb⟩
    · exact ⟨0, false, he, .inr ⟨rfl, hn, rfl⟩, hb⟩
/-- what the count was read from -/
def RC (W : List (List UInt8)) (c : Int) (one : Bool) : Prop := (W.length = 4 ∧ ∃ y, W[1]? = some y ∧ ((one = true ∧ Numeral y c) ∨ (one = false ∧ (∀ v, ¬ Numeral y v) ∧ c = 0))) ∨ (W.length = 3 ∧ c = 0 ∧ one = true)
theorem bs_eq (l : List (List UInt8)) : SplA.bs l = PAm.bs l := rfl
theorem piece_str {l x : List UInt8} {c : UInt8} {X : ByteArray} {N : Nat} (h : x ∈ splitOf l c) (hl : l.length ≤ N) (hX : X.data.toList = x) : X.size ≤ N := by
  have h1 := PInt.piece_le h
  have h2 : X.size = X.data.toList.length := (Array.length_toList (xs := X.data)).symm
  rw [h2, hX]; omega
theorem found {s : ByteArray} {x0 z : List UInt8} {c p : Int} {one two : Bool} (h0 : (splitOf s.data.toList 58)[0]? = some x0) (hc : RC (splitOf x0 32) c one) (hz : (splitOf x0 32)[(splitOf x0 32).length - 1]? = some z) (hp : (two = true ∧ Numeral z p) ∨ (two = false ∧ (∀ v, ¬ Numeral z v) ∧ p = 0)) (q : M) (hq : good q = true) (hl : line q = s) :
    mkKind p c (phrase (splitOf s.data.toList 58)) = q ∧ one = true ∧ two = true := by
  have hp2 : Numeral z p ∨ ((∀ v, ¬ Numeral z v) ∧ p = 0) := by
    rcases hp with ⟨_, h⟩ | ⟨_, h⟩
    · exact .inl h
    · exact .inr h
  rcases hc with ⟨h4, y, hy, hc⟩ | ⟨h3, hc, h1⟩
  · have hc2 : Numeral y c ∨ ((∀ v, ¬ Numeral y v) ∧ c = 0) := by
      rcases hc with ⟨_, h⟩ | ⟨_, h⟩
      · exact .inl h
      · exact .inr h
    obtain ⟨f1, f2, f3⟩ := spec_found h0 (.inl ⟨h4, hy, hc2⟩) hz hp2 hq hl
    refine ⟨f1, ?_, ?_⟩
    · rcases hc with ⟨h, _⟩ | ⟨_, h, _⟩
      · exact h
      · exact absurd (f3 h4) (h _)
    · rcases hp with ⟨h, _⟩ | ⟨_, h, _⟩
      · exact h
      · exact absurd f2 (h _)
  · obtain ⟨f1, f2, f3⟩ := spec_found (y := []) h0 (.inr ⟨h3, hc⟩) hz hp2 hq hl
    refine ⟨f1, h1, ?_⟩
    rcases hp with ⟨h, _⟩ | ⟨_, h, _⟩
    · exact h
    · exact absurd f2 (h _)
theorem phrase_len {s : ByteArray} {H : List (List UInt8)} (hH : H = splitOf s.data.toList 58) (hs : s.size ≤ 1048576) : (phrase H).length ≤ 1048576 ∧ ∀ x ∈ phrase H, x.size ≤ 1048576 := by
  have hz : s.data.toList.length = s.size := Array.length_toList
  unfold phrase
  cases hy : H[1]? with
  | none => exact ⟨by simp, fun x hx => by cases hx⟩
  | some y =>
    have h1 : y.length ≤ s.data.toList.length := PInt.piece_le (c := 58) (by rw [← hH]; exact List.mem_of_getElem? hy)
    have h2 := splitOf_length y 32
    refine ⟨?_, ?_⟩
    · unfold PAm.bs; rw [List.length_map, List.length_drop]; omega
    · intro x hx
      unfold PAm.bs at hx
      obtain ⟨u, hu, rfl⟩ := List.mem_map.1 hx
      have h3 := PInt.piece_le (List.mem_of_mem_drop hu)
      show u.toArray.size ≤ 1048576
      simp
      omega
set_option maxRecDepth 100000 in
set_option maxHeartbeats 6400000 in
theorem parse (s : ByteArray) (w : World) (hs : s.size ≤ 1048576) :
    Calls Tryd.prog 23 #[.string s] w (Post s w) := by
  have hb := ((Below.refl w.heap.size w).alloc (Nat.le_refl _) (Obj.cells #[.int .i64 0, .int .i64 0, .int .i64 0, .slice none 0 0] 28)).alloc (by simp) (Obj.cells #[.int .i64 0, .int .i64 0, .int .i64 0, .slice none 0 0] 28)
  have HR := Lib.hid ((Bx.new w 28 #[.int .i64 0, .int .i64 0, .int .i64 0, .slice none 0 0]).alloc (Obj.cells #[.int .i64 0, .int .i64 0, .int .i64 0, .slice none 0 0] 28))
  have HN := Lib.hid (Bx.new (w.alloc (Obj.cells #[.int .i64 0, .int .i64 0, .int .i64 0, .slice none 0 0] 28)) 28 #[.int .i64 0, .int .i64 0, .int .i64 0, .slice none 0 0])
  have hz : (w.alloc (Obj.cells #[.int .i64 0, .int .i64 0, .int .i64 0, .slice none 0 0] 28)).heap.size = w.heap.size + 1 := by simp
  rw [hz] at HN
  clear hz
  obtain ⟨H, hH⟩ : ∃ H, H = splitOf s.data.toList 58 := ⟨_, rfl⟩
  have HS := Lib.hid (fun (S : ByteArray) (c : UInt8) (cn : Int) (hc : cn = c.toNat) W (hS : S.size ≤ 1048576) => l1SplitQ S c cn hc W hS)
  have HRd := Lib.hid (fun (S : ByteArray) W (hS : S.size ≤ 1048576) => l1ReadQ S W hS)
  unfold RP at HRd
  have hsl : s.data.toList.length ≤ 1048576 := by rw [Array.length_toList]; exact hs
  have HHp := Lib.hid (fun (x : List UInt8) (X : ByteArray) (h : x ∈ H) (hX : X.data.toList = x) => piece_str (c := 58) (by rw [← hH]; exact h) hsl hX)
  have HHs := Lib.hid hH
  go_enter Tryd.func23, Tryd.ntmps23
  go_wp2_with fail
  refine (HS.out s 58 58 rfl _ hs).mono ?_
  rintro e w1 ⟨g, h, hcap, rfl, hh, ⟨hh1, hh2, hh3, hh4⟩, ⟨hg0, hg1⟩, hown, hb1⟩
  rw [← hH] at hh hown
  clear hsl hH
  have HO := Lib.hid hown
  have HHl := Lib.hid hh
  replace HR := Lib.hid (HR.out.kept hb1)
  replace HN := Lib.hid (HN.out.kept hb1)
  replace hb := hb.trans (hb1.mono hb.size)
  obtain ⟨x0, hx0⟩ : ∃ x, H[0]? = some x := ⟨_, List.getElem?_eq_getElem (by omega)⟩
  obtain ⟨X0, hX0⟩ : ∃ X : ByteArray, X = ⟨x0.toArray⟩ := ⟨_, rfl⟩
  have p0 := own_cell hown hx0
  rw [← hX0] at p0
  have HX0 := Lib.hid (show X0.data.toList = x0 by rw [hX0])
  have hx0s := HHp.out x0 X0 (List.mem_of_getElem? hx0) HX0.out
  have HHx := Lib.hid hx0
  obtain ⟨W, hW⟩ : ∃ W, W = splitOf x0 32 := ⟨_, rfl⟩
  have hx0l : x0.length ≤ 1048576 := by
    have : X0.size = X0.data.toList.length := (Array.length_toList (xs := X0.data)).symm
    rw [← HX0.out]; omega
  have HWp := Lib.hid (fun (x : List UInt8) (X : ByteArray) (h : x ∈ W) (hX : X.data.toList = x) => piece_str (c := 32) (by rw [← hW]; exact h) hx0l hX)
  have HWs := Lib.hid hW
  clear hb1 hown hh hx0 hX0 hx0l
  go_wp2_with fail
  refine (HS.out X0 32 32 rfl _ hx0s).mono ?_
  rintro e w2 ⟨g2, n, cap2, rfl, hn, ⟨hn1, hn2, hn3, hn4⟩, ⟨hg2, hg3⟩, hown2, hb2⟩
  rw [HX0.out, ← hW] at hn hown2
  have HO2 := Lib.hid hown2
  have HWl := Lib.hid hn
  replace HO := Lib.hid (Bs.Own.kept HO.out hb2)
  replace HR := Lib.hid (HR.out.kept hb2)
  replace HN := Lib.hid (HN.out.kept hb2)
  replace hb := hb.trans (hb2.mono hb.size)
  have hRw : w.heap.size ≤ w.heap.size := Nat.le_refl _
  have hlow : w.heap.size + 2 ≤ w2.heap.size := by have := HN.out.lt; omega
  have hg4 : g < w2.heap.size := by have := hb2.size; omega
  clear hb2 hown2 hn hW p0 hg1 hg0 hg2 HX0
  by_cases b1 : 100 < s.size
  · have HAns := Lib.hid (ans_none (none_bail (s := s) (x0 := x0) (by rw [← HHs.out]; exact HHx.out) (.inl b1)))
    have n0 := HN.out.cell 0
    have n1 := HN.out.cell 1
    have n2 := HN.out.cell 2
    have n3 := HN.out.cell 3
    simp only [List.getElem?_toArray, List.getElem?_cons_zero, List.getElem?_cons_succ] at n0 n1 n2 n3
    have r0 := HR.out.cell 0
    have r1 := HR.out.cell 1
    have r2 := HR.out.cell 2
    have r3 := HR.out.cell 3
    simp only [List.getElem?_toArray, List.getElem?_cons_zero, List.getElem?_cons_succ] at r0 r1 r2 r3
    have f0 := HR.out.frozen 0
    have f1 := HR.out.frozen 1
    have f2 := HR.out.frozen 2
    have f3 := HR.out.frozen 3
    have HRS := Lib.hid (Bx.set_ (Bx.set_ (Bx.set_ (Bx.set_ HR.out 0 (.int .i64 0)) 1 (.int .i64 0)) 2 (.int .i64 0)) 3 (.slice none 0 0))
    have hbs := ((((hb.setCell (p := ⟨w.heap.size, 0, none⟩) hRw (.int .i64 0)).setCell (p := ⟨w.heap.size, 1, none⟩) hRw (.int .i64 0)).setCell (p := ⟨w.heap.size, 2, none⟩) hRw (.int .i64 0)).setCell (p := ⟨w.heap.size, 3, none⟩) hRw (.slice none 0 0))
    go_wp2_with fail
    clear n0 n1 n2 n3 r0 r1 r2 r3 f0 f1 f2 f3
    generalize (((w2.setCell ⟨w.heap.size, 0, none⟩ (.int .i64 0)).setCell ⟨w.heap.size, 1, none⟩ (.int .i64 0)).setCell ⟨w.heap.size, 2, none⟩ (.int .i64 0)).setCell ⟨w.heap.size, 3, none⟩ (.slice none 0 0) = wz at *
    simp only [List.setIfInBounds_toArray, List.set_cons_zero, List.set_cons_succ] at HRS
    have r0 := HRS.out.cell 0
    have r1 := HRS.out.cell 1
    have r2 := HRS.out.cell 2
    have r3 := HRS.out.cell 3
    simp only [List.getElem?_toArray, List.getElem?_cons_zero, List.getElem?_cons_succ] at r0 r1 r2 r3
    (try simp only [Exit.inBlock, Exit.then])
    refine bodyPost_ret (v := .tuple #[.agg #[.int .i64 0, .int .i64 0, .int .i64 0, .slice none 0 0], .bool false]) (by rw [results_cell_tmp rfl]; go_simp) rfl ?_
    exact ⟨_, zeroM, false, rfl, HAns.out, LAmendment.Own.zero, hbs⟩
  by_cases b2 : 2 < h
  · have HAns := Lib.hid (ans_none (none_bail (s := s) (x0 := x0) (by rw [← HHs.out]; exact HHx.out) (.inr (.inl (by rw [← HHs.out, ← HHl.out]; exact b2)))))
    have n0 := HN.out.cell 0
    have n1 := HN.out.cell 1
    have n2 := HN.out.cell 2
    have n3 := HN.out.cell 3
    simp only [List.getElem?_toArray, List.getElem?_cons_zero, List.getElem?_cons_succ] at n0 n1 n2 n3
    have r0 := HR.out.cell 0
    have r1 := HR.out.cell 1
    have r2 := HR.out.cell 2
    have r3 := HR.out.cell 3
    simp only [List.getElem?_toArray, List.getElem?_cons_zero, List.getElem?_cons_succ] at r0 r1 r2 r3
    have f0 := HR.out.frozen 0
    have f1 := HR.out.frozen 1
    have f2 := HR.out.frozen 2
    have f3 := HR.out.frozen 3
    have HRS := Lib.hid (Bx.set_ (Bx.set_ (Bx.set_ (Bx.set_ HR.out 0 (.int .i64 0)) 1 (.int .i64 0)) 2 (.int .i64 0)) 3 (.slice none 0 0))
    have hbs := ((((hb.setCell (p := ⟨w.heap.size, 0, none⟩) hRw (.int .i64 0)).setCell (p := ⟨w.heap.size, 1, none⟩) hRw (.int .i64 0)).setCell (p := ⟨w.heap.size, 2, none⟩) hRw (.int .i64 0)).setCell (p := ⟨w.heap.size, 3, none⟩) hRw (.slice none 0 0))
    go_wp2_with fail
    clear n0 n1 n2 n3 r0 r1 r2 r3 f0 f1 f2 f3
    generalize (((w2.setCell ⟨w.heap.size, 0, none⟩ (.int .i64 0)).setCell ⟨w.heap.size, 1, none⟩ (.int .i64 0)).setCell ⟨w.heap.size, 2, none⟩ (.int .i64 0)).setCell ⟨w.heap.size, 3, none⟩ (.slice none 0 0) = wz at *
    simp only [List.setIfInBounds_toArray, List.set_cons_zero, List.set_cons_succ] at HRS
    have r0 := HRS.out.cell 0
    have r1 := HRS.out.cell 1
    have r2 := HRS.out.cell 2
    have r3 := HRS.out.cell 3
    simp only [List.getElem?_toArray, List.getElem?_cons_zero, List.getElem?_cons_succ] at r0 r1 r2 r3
    (try simp only [Exit.inBlock, Exit.then])
    refine bodyPost_ret (v := .tuple #[.agg #[.int .i64 0, .int .i64 0, .int .i64 0, .slice none 0 0], .bool false]) (by rw [results_cell_tmp rfl]; go_simp) rfl ?_
    exact ⟨_, zeroM, false, rfl, HAns.out, LAmendment.Own.zero, hbs⟩
  by_cases b3 : n ≠ 3 ∧ n ≠ 4
  · have HAns := Lib.hid (ans_none (none_bail (s := s) (x0 := x0) (by rw [← HHs.out]; exact HHx.out) (.inr (.inr (by rw [← HWs.out, ← HWl.out]; exact b3)))))
    obtain ⟨b3, b4⟩ := b3
    have e3 : ((n : Int) != 3) = true := by simp; omega
    have e4 : ((n : Int) != 4) = true := by simp; omega
    have n0 := HN.out.cell 0
    have n1 := HN.out.cell 1
    have n2 := HN.out.cell 2
    have n3 := HN.out.cell 3
    simp only [List.getElem?_toArray, List.getElem?_cons_zero, List.getElem?_cons_succ] at n0 n1 n2 n3
    have r0 := HR.out.cell 0
    have r1 := HR.out.cell 1
    have r2 := HR.out.cell 2
    have r3 := HR.out.cell 3
    simp only [List.getElem?_toArray, List.getElem?_cons_zero, List.getElem?_cons_succ] at r0 r1 r2 r3
    have f0 := HR.out.frozen 0
    have f1 := HR.out.frozen 1
    have f2 := HR.out.frozen 2
    have f3 := HR.out.frozen 3
    have HRS := Lib.hid (Bx.set_ (Bx.set_ (Bx.set_ (Bx.set_ HR.out 0 (.int .i64 0)) 1 (.int .i64 0)) 2 (.int .i64 0)) 3 (.slice none 0 0))
    have hbs := ((((hb.setCell (p := ⟨w.heap.size, 0, none⟩) hRw (.int .i64 0)).setCell (p := ⟨w.heap.size, 1, none⟩) hRw (.int .i64 0)).setCell (p := ⟨w.heap.size, 2, none⟩) hRw (.int .i64 0)).setCell (p := ⟨w.heap.size, 3, none⟩) hRw (.slice none 0 0))
    go_wp2_with fail
    clear n0 n1 n2 n3 r0 r1 r2 r3 f0 f1 f2 f3
    generalize (((w2.setCell ⟨w.heap.size, 0, none⟩ (.int .i64 0)).setCell ⟨w.heap.size, 1, none⟩ (.int .i64 0)).setCell ⟨w.heap.size, 2, none⟩ (.int .i64 0)).setCell ⟨w.heap.size, 3, none⟩ (.slice none 0 0) = wz at *
    simp only [List.setIfInBounds_toArray, List.set_cons_zero, List.set_cons_succ] at HRS
    have r0 := HRS.out.cell 0
    have r1 := HRS.out.cell 1
    have r2 := HRS.out.cell 2
    have r3 := HRS.out.cell 3
    simp only [List.getElem?_toArray, List.getElem?_cons_zero, List.getElem?_cons_succ] at r0 r1 r2 r3
    (try simp only [Exit.inBlock, Exit.then])
    refine bodyPost_ret (v := .tuple #[.agg #[.int .i64 0, .int .i64 0, .int .i64 0, .slice none 0 0], .bool false]) (by rw [results_cell_tmp rfl]; go_simp) rfl ?_
    exact ⟨_, zeroM, false, rfl, HAns.out, LAmendment.Own.zero, hbs⟩
  have hn34 : n = 3 ∨ n = 4 := by omega
  clear b3
  go_upto_region 5 with fail
  go_cut [38] (fun t wx => t = .bool false ∧ Below w2.heap.size w2 wx)
  case first =>
    rcases hn34 with rfl | rfl
    · go_wp2_with fail
      go_meet
      exact ⟨by rw [decide_eq_false (by omega), decide_eq_false (by omega)]; rfl, Below.refl _ _⟩
    · go_wp2_with fail
      go_meet
      exact ⟨by rw [decide_eq_false (by omega), decide_eq_false (by omega)]; rfl, Below.refl _ _⟩
  case rest =>
  obtain ⟨rfl, hbv⟩ := hcut
  obtain ⟨w3, hwc⟩ : ∃ x, x = wc := ⟨_, rfl⟩
  subst hwc
  replace HO := Lib.hid (Bs.Own.kept HO.out hbv)
  replace HO2 := Lib.hid (Bs.Own.kept HO2.out hbv)
  replace HR := Lib.hid (HR.out.kept hbv)
  replace HN := Lib.hid (HN.out.kept hbv)
  replace hb := hb.trans (hbv.mono hb.size)
  have hz3 := hbv.size
  clear hbv
  go_upto_if 41 with fail
  go_cut [8, 9] (fun s8 s9 wx => ∃ (c : Int) (one : Bool), s8 = .int .i64 c ∧ s9 = .bool one ∧ Hid (RC W c one) ∧ Below w3.heap.size w3 wx)
  case first =>
    rcases hn34 with rfl | rfl
    · have HRC := Lib.hid (show RC W 0 true from .inr ⟨HWl.out.symm, rfl, rfl⟩)
      go_wp2_with fail
      go_meet
      exact ⟨_, _, rfl, rfl, HRC, Below.refl _ _⟩
    · obtain ⟨y, hy⟩ : ∃ x, W[1]? = some x := ⟨_, List.getElem?_eq_getElem (by have := HWl.out; omega)⟩
      obtain ⟨Y, hY⟩ : ∃ X : ByteArray, X = ⟨y.toArray⟩ := ⟨_, rfl⟩
      have py := own_cell HO2.out hy
      rw [← hY] at py
      have HY := Lib.hid (show Y.data.toList = y by rw [hY])
      have hys := HWp.out y Y (List.mem_of_getElem? hy) HY.out
      have HYy := Lib.hid hy
      clear hy hY
      go_wp2_with fail
      refine (HRd.out Y _ hys).mono ?_
      rintro e w4 ⟨c, one, rfl, hc, hb4⟩
      rw [HY.out] at hc
      have HRC := Lib.hid (show RC W c one from .inl ⟨HWl.out.symm, y, HYy.out, hc⟩)
      clear hc
      go_wp2_with fail
      go_meet
      exact ⟨_, _, rfl, rfl, HRC, hb4⟩
  case rest =>
  obtain ⟨c, one, rfl, rfl, HRC, hbv⟩ := hcut
  obtain ⟨w4, hwc⟩ : ∃ x, x = wc := ⟨_, rfl⟩
  subst hwc
  replace HO := Lib.hid (Bs.Own.kept HO.out hbv)
  replace HO2 := Lib.hid (Bs.Own.kept HO2.out hbv)
  replace HR := Lib.hid (HR.out.kept hbv)
  replace HN := Lib.hid (HN.out.kept hbv)
  replace hb := hb.trans (hbv.mono hb.size)
  have hz4 := hbv.size
  clear hbv
  obtain ⟨m, hm⟩ : ∃ m, n = m + 1 := ⟨n - 1, by omega⟩
  subst hm
  obtain ⟨z, hz⟩ : ∃ x, W[m]? = some x := ⟨_, List.getElem?_eq_getElem (by have := HWl.out; omega)⟩
  obtain ⟨ZS, hZ⟩ : ∃ X : ByteArray, X = ⟨z.toArray⟩ := ⟨_, rfl⟩
  have pz := own_cell HO2.out hz
  rw [← hZ] at pz
  have HZ := Lib.hid (show ZS.data.toList = z by rw [hZ])
  have hzs := HWp.out z ZS (List.mem_of_getElem? hz) HZ.out
  have HZz := Lib.hid (show W[W.length - 1]? = some z by rw [← HWl.out]; exact hz)
  clear hz hZ
  have hm1 : ((m + 1 : Nat) : Int) - 1 = (m : Int) := by omega
  go_wp2_with fail
  refine (HRd.out ZS _ hzs).mono ?_
  rintro e w5 ⟨p, two, rfl, hp, hb5⟩
  rw [HZ.out] at hp
  have HFd := Lib.hid (fun q hq hl => found (s := s) (x0 := x0) (z := z) (c := c) (p := p) (one := one) (two := two) (by rw [← HHs.out]; exact HHx.out) (by rw [← HWs.out]; exact HRC.out) (by rw [← HWs.out]; exact HZz.out) hp q hq hl)
  rw [← HHs.out] at HFd
  replace HO := Lib.hid (Bs.Own.kept HO.out hb5)
  replace HR := Lib.hid (HR.out.kept hb5)
  replace HN := Lib.hid (HN.out.kept hb5)
  replace hb := hb.trans (hb5.mono hb.size)
  have hz5 := hb5.size
  clear hb5 pz hp HO2 HRC HZz
  have hph := phrase_len HHs.out hs
  obtain ⟨ws, hws⟩ : ∃ ws, ws = phrase H := ⟨_, rfl⟩
  have HWq := Lib.hid hws
  rw [← hws] at HFd hph
  clear hws
  have hbe : Below w5.heap.size w5 (w5.alloc (Obj.cells #[] 9)) := (Below.refl _ _).alloc (Nat.le_refl _) _
  go_upto_if 61 with fail
  replace HO := Lib.hid (Bs.Own.kept HO.out hbe)
  replace HR := Lib.hid (HR.out.kept hbe)
  replace HN := Lib.hid (HN.out.kept hbe)
  replace hb := hb.trans (hbe.mono hb.size)
  have HE := Lib.hid (show IsQ LString.rec (w5.alloc (Obj.cells #[] 9)) (.slice (some ⟨w5.heap.size, 0, none⟩) 0 0) [] from Bs.Own.isQ (own_start (Nat.le_refl w5.heap.size)))
  have hz6 := hbe.size
  clear hbe
  generalize w5.alloc (Obj.cells #[] 9) = w6 at *
  generalize w5.heap.size = b5 at *
  go_cut [12] (fun s12 wx => ∃ a nn cc, s12 = .slice a nn cc ∧ Hid (IsQ LString.rec wx (.slice a nn cc) ws) ∧ Below w6.heap.size w6 wx)
  case first =>
    by_cases h2 : h = 2
    · subst h2
      obtain ⟨y, hy⟩ : ∃ x, H[1]? = some x := ⟨_, List.getElem?_eq_getElem (by have := HHl.out; omega)⟩
      obtain ⟨Y, hY⟩ : ∃ X : ByteArray, X = ⟨y.toArray⟩ := ⟨_, rfl⟩
      have py := own_cell HO.out hy
      rw [← hY] at py
      have HY := Lib.hid (show Y.data.toList = y by rw [hY])
      have hys := HHp.out y Y (List.mem_of_getElem? hy) HY.out
      have HYy := Lib.hid hy
      clear hy hY
      go_wp2_with fail
      refine (HS.out Y 32 32 rfl _ hys).mono ?_
      rintro e w7 ⟨g3, n3, c3, rfl, hn3, ⟨hn31, hn32, hn33, hn34'⟩, ⟨hg30, hg31⟩, hown3, hb7⟩
      rw [HY.out] at hown3
      have HQ3 := Lib.hid (Bs.Own.isQ hown3)
      have HWe := Lib.hid (show ws = ((SplA.bs (splitOf y 32)).drop 1).take (n3 - 1) by
        rw [HWq.out]; unfold phrase; rw [HYy.out]
        rw [List.take_of_length_le]
        · show PAm.bs _ = _; rw [bs_eq]; unfold PAm.bs; rw [List.map_drop]
        · rw [List.length_drop, SplA.bs_len, hn3, HY.out]; exact Nat.le_refl _)
      have HNn := Lib.hid hn3
      clear hn3
      by_cases hc3 : c3 = 1
      · subst hc3
        obtain rfl : n3 = 1 := by omega
        have HQ4 := Lib.hid (AmE.isq_sub (t := some ⟨g3, 0, none⟩) HQ3.out 1 1 (Nat.le_refl _) (Nat.le_refl _) (by rw [if_pos rfl]) 0 0 rfl rfl)
        rw [← HWe.out] at HQ4
        go_wp2_with fail
        go_meet
        exact ⟨_, _, _, rfl, HQ4, hb7⟩
      · have HQ4 := Lib.hid (AmE.isq_sub (t := some ⟨g3, 1, none⟩) HQ3.out 1 n3 (by omega) (Nat.le_refl _) (by rw [if_neg hc3]; rfl) (n3 - 1) (c3 - 1) rfl rfl)
        rw [← HWe.out] at HQ4
        go_wp2_with fail
        go_meet
        exact ⟨_, _, _, rfl, HQ4, hb7⟩
    · have HWe := Lib.hid (show ws = [] by
        rw [HWq.out]; unfold phrase
        rw [List.getElem?_eq_none (by have := HHl.out; omega)])
      have e2 : ((h : Int) == 2) = false := by simp; omega
      go_wp2_with fail
      go_meet
      exact ⟨_, _, _, rfl, by rw [HWe.out]; exact HE, Below.refl _ _⟩
  case rest =>
  obtain ⟨a, nn, cc, rfl, HQ, hbv⟩ := hcut
  obtain ⟨w7, hwc⟩ : ∃ x, x = wc := ⟨_, rfl⟩
  subst hwc
  replace HR := Lib.hid (HR.out.kept hbv)
  replace HN := Lib.hid (HN.out.kept hbv)
  replace hb := hb.trans (hbv.mono hb.size)
  clear hbv HE HO HHp HWp HS HRd
  have hlo7 : w.heap.size + 2 ≤ w7.heap.size := by have := HN.out.lt; omega
  have HKd := Lib.hid (AmK.l9Kind p c _ ws w7 HQ.out hph.1)
  go_wp2_with fail
  refine HKd.out.mono ?_
  rintro e w8 ⟨v8, rfl, hown8, hb8⟩
  obtain ⟨r, hr⟩ : ∃ r, r = mkKind p c ws := ⟨_, rfl⟩
  have HFr := Lib.hid (show LAmendment.Fine r by
    rw [hr]; intro x hx; have := hph.2 x hx; show x.size ≤ maxLen; unfold maxLen; omega)
  rw [← hr] at hown8 HFd
  obtain ⟨fa, fn, fc, rfl⟩ := LAmendment.Own.form hown8
  replace HR := Lib.hid (HR.out.kept hb8)
  replace HN := Lib.hid (HN.out.kept hb8)
  replace hb := hb.trans (hb8.mono hb.size)
  have hz8 := hb8.size
  have HOr := Lib.hid (LAmendment.Own.low hown8 (show w.heap.size + 1 ≤ w7.heap.size by omega))
  clear hb8 hown8 hr HKd
  obtain ⟨w9, hw9⟩ : ∃ x : World, x = w8.alloc (Obj.cells #[.int .i64 r.kind, .int .i64 r.pos, .int .i64 r.count, .slice fa fn fc] 28) := ⟨_, rfl⟩
  have hbn : Below w8.heap.size w8 w9 := by rw [hw9]; exact (Below.refl _ _).alloc (Nat.le_refl _) _
  have BK := Lib.hid (show Bx w9 w8.heap.size 28 #[.int .i64 r.kind, .int .i64 r.pos, .int .i64 r.count, .slice fa fn fc] by rw [hw9]; exact Bx.new _ _ _)
  replace HR := Lib.hid (HR.out.kept hbn)
  replace HN := Lib.hid (HN.out.kept hbn)
  replace hb := hb.trans (hbn.mono hb.size)
  replace HOr := Lib.hid (LAmendment.Own.kept HOr.out hbn)
  clear hbn
  go_upto_region 15 with fail
  rw [← hw9]
  (try simp only [← hw9])
  clear hw9
  obtain ⟨G, hG⟩ : ∃ G, G = w8.heap.size := ⟨_, rfl⟩
  (try simp only [← hG])
  rw [← hG] at BK
  clear hG
  cases one with
  | false =>
    have HAns := Lib.hid (ans_none (s := s) (fun q hq hl => by have := (HFd.out q hq hl).2.1; cases this))
    have n0 := HN.out.cell 0
    have n1 := HN.out.cell 1
    have n2 := HN.out.cell 2
    have n3 := HN.out.cell 3
    simp only [List.getElem?_toArray, List.getElem?_cons_zero, List.getElem?_cons_succ] at n0 n1 n2 n3
    have r0 := HR.out.cell 0
    have r1 := HR.out.cell 1
    have r2 := HR.out.cell 2
    have r3 := HR.out.cell 3
    simp only [List.getElem?_toArray, List.getElem?_cons_zero, List.getElem?_cons_succ] at r0 r1 r2 r3
    have f0 := HR.out.frozen 0
    have f1 := HR.out.frozen 1
    have f2 := HR.out.frozen 2
    have f3 := HR.out.frozen 3
    have HRS := Lib.hid (Bx.set_ (Bx.set_ (Bx.set_ (Bx.set_ HR.out 0 (.int .i64 0)) 1 (.int .i64 0)) 2 (.int .i64 0)) 3 (.slice none 0 0))
    have hbs := ((((hb.setCell (p := ⟨w.heap.size, 0, none⟩) hRw (.int .i64 0)).setCell (p := ⟨w.heap.size, 1, none⟩) hRw (.int .i64 0)).setCell (p := ⟨w.heap.size, 2, none⟩) hRw (.int .i64 0)).setCell (p := ⟨w.heap.size, 3, none⟩) hRw (.slice none 0 0))
    go_wp2_with fail
    clear n0 n1 n2 n3 r0 r1 r2 r3 f0 f1 f2 f3
    generalize (((w9.setCell ⟨w.heap.size, 0, none⟩ (.int .i64 0)).setCell ⟨w.heap.size, 1, none⟩ (.int .i64 0)).setCell ⟨w.heap.size, 2, none⟩ (.int .i64 0)).setCell ⟨w.heap.size, 3, none⟩ (.slice none 0 0) = wz at *
    simp only [List.setIfInBounds_toArray, List.set_cons_zero, List.set_cons_succ] at HRS
    have r0 := HRS.out.cell 0
    have r1 := HRS.out.cell 1
    have r2 := HRS.out.cell 2
    have r3 := HRS.out.cell 3
    simp only [List.getElem?_toArray, List.getElem?_cons_zero, List.getElem?_cons_succ] at r0 r1 r2 r3
    (try simp only [Exit.inBlock, Exit.then])
    refine bodyPost_ret (v := .tuple #[.agg #[.int .i64 0, .int .i64 0, .int .i64 0, .slice none 0 0], .bool false]) (by rw [results_cell_tmp rfl]; go_simp) rfl ?_
    exact ⟨_, zeroM, false, rfl, HAns.out, LAmendment.Own.zero, hbs⟩
  | true =>
  cases two with
  | false =>
    have HAns := Lib.hid (ans_none (s := s) (fun q hq hl => by have := (HFd.out q hq hl).2.2; cases this))
    have n0 := HN.out.cell 0
    have n1 := HN.out.cell 1
    have n2 := HN.out.cell 2
    have n3 := HN.out.cell 3
    simp only [List.getElem?_toArray, List.getElem?_cons_zero, List.getElem?_cons_succ] at n0 n1 n2 n3
    have r0 := HR.out.cell 0
    have r1 := HR.out.cell 1
    have r2 := HR.out.cell 2
    have r3 := HR.out.cell 3
    simp only [List.getElem?_toArray, List.getElem?_cons_zero, List.getElem?_cons_succ] at r0 r1 r2 r3
    have f0 := HR.out.frozen 0
    have f1 := HR.out.frozen 1
    have f2 := HR.out.frozen 2
    have f3 := HR.out.frozen 3
    have HRS := Lib.hid (Bx.set_ (Bx.set_ (Bx.set_ (Bx.set_ HR.out 0 (.int .i64 0)) 1 (.int .i64 0)) 2 (.int .i64 0)) 3 (.slice none 0 0))
    have hbs := ((((hb.setCell (p := ⟨w.heap.size, 0, none⟩) hRw (.int .i64 0)).setCell (p := ⟨w.heap.size, 1, none⟩) hRw (.int .i64 0)).setCell (p := ⟨w.heap.size, 2, none⟩) hRw (.int .i64 0)).setCell (p := ⟨w.heap.size, 3, none⟩) hRw (.slice none 0 0))
    go_wp2_with fail
    clear n0 n1 n2 n3 r0 r1 r2 r3 f0 f1 f2 f3
    generalize (((w9.setCell ⟨w.heap.size, 0, none⟩ (.int .i64 0)).setCell ⟨w.heap.size, 1, none⟩ (.int .i64 0)).setCell ⟨w.heap.size, 2, none⟩ (.int .i64 0)).setCell ⟨w.heap.size, 3, none⟩ (.slice none 0 0) = wz at *
    simp only [List.setIfInBounds_toArray, List.set_cons_zero, List.set_cons_succ] at HRS
    have r0 := HRS.out.cell 0
    have r1 := HRS.out.cell 1
    have r2 := HRS.out.cell 2
    have r3 := HRS.out.cell 3
    simp only [List.getElem?_toArray, List.getElem?_cons_zero, List.getElem?_cons_succ] at r0 r1 r2 r3
    (try simp only [Exit.inBlock, Exit.then])
    refine bodyPost_ret (v := .tuple #[.agg #[.int .i64 0, .int .i64 0, .int .i64 0, .slice none 0 0], .bool false]) (by rw [results_cell_tmp rfl]; go_simp) rfl ?_
    exact ⟨_, zeroM, false, rfl, HAns.out, LAmendment.Own.zero, hbs⟩
  | true =>
  have HG := Lib.hid (AmG.l9Good _ r w9 (LAmendment.Own.is HOr.out) HFr.out)
  have HLn := Lib.hid (fun (W2 : World) (hB : Below w9.heap.size w9 W2) (hg : good r = true) => AmX.l9Line _ r W2 (LAmendment.Is.below (LAmendment.Own.is HOr.out) hB) hg)
  cases gg : good r with
  | false =>
    rw [gg] at HG
    have HAns := Lib.hid (ans_no (s := s) (r := r) (fun q hq hl => (HFd.out q hq hl).1) (fun h => by rw [gg] at h; cases h.1))
    have k0 := BK.out.cell 0
    have k1 := BK.out.cell 1
    have k2 := BK.out.cell 2
    have k3 := BK.out.cell 3
    simp only [List.getElem?_toArray, List.getElem?_cons_zero, List.getElem?_cons_succ] at k0 k1 k2 k3
    go_wp2_with fail
    refine HG.out.mono ?_
    rintro e wa ⟨rfl, hba⟩
    replace HR := Lib.hid (HR.out.kept hba)
    replace HN := Lib.hid (HN.out.kept hba)
    replace hb := hb.trans (hba.mono hb.size)
    clear hba k0 k1 k2 k3
    have n0 := HN.out.cell 0
    have n1 := HN.out.cell 1
    have n2 := HN.out.cell 2
    have n3 := HN.out.cell 3
    simp only [List.getElem?_toArray, List.getElem?_cons_zero, List.getElem?_cons_succ] at n0 n1 n2 n3
    have r0 := HR.out.cell 0
    have r1 := HR.out.cell 1
    have r2 := HR.out.cell 2
    have r3 := HR.out.cell 3
    simp only [List.getElem?_toArray, List.getElem?_cons_zero, List.getElem?_cons_succ] at r0 r1 r2 r3
    have f0 := HR.out.frozen 0
    have f1 := HR.out.frozen 1
    have f2 := HR.out.frozen 2
    have f3 := HR.out.frozen 3
    have HRS := Lib.hid (Bx.set_ (Bx.set_ (Bx.set_ (Bx.set_ HR.out 0 (.int .i64 0)) 1 (.int .i64 0)) 2 (.int .i64 0)) 3 (.slice none 0 0))
    have hbs := ((((hb.setCell (p := ⟨w.heap.size, 0, none⟩) hRw (.int .i64 0)).setCell (p := ⟨w.heap.size, 1, none⟩) hRw (.int .i64 0)).setCell (p := ⟨w.heap.size, 2, none⟩) hRw (.int .i64 0)).setCell (p := ⟨w.heap.size, 3, none⟩) hRw (.slice none 0 0))
    go_wp2_with fail
    clear n0 n1 n2 n3 r0 r1 r2 r3 f0 f1 f2 f3
    generalize (((wa.setCell ⟨w.heap.size, 0, none⟩ (.int .i64 0)).setCell ⟨w.heap.size, 1, none⟩ (.int .i64 0)).setCell ⟨w.heap.size, 2, none⟩ (.int .i64 0)).setCell ⟨w.heap.size, 3, none⟩ (.slice none 0 0) = wz at *
    simp only [List.setIfInBounds_toArray, List.set_cons_zero, List.set_cons_succ] at HRS
    have r0 := HRS.out.cell 0
    have r1 := HRS.out.cell 1
    have r2 := HRS.out.cell 2
    have r3 := HRS.out.cell 3
    simp only [List.getElem?_toArray, List.getElem?_cons_zero, List.getElem?_cons_succ] at r0 r1 r2 r3
    (try simp only [Exit.inBlock, Exit.then])
    refine bodyPost_ret (v := .tuple #[.agg #[.int .i64 0, .int .i64 0, .int .i64 0, .slice none 0 0], .bool false]) (by rw [results_cell_tmp rfl]; go_simp) rfl ?_
    exact ⟨_, zeroM, false, rfl, HAns.out, LAmendment.Own.zero, hbs⟩
  | true =>
  rw [gg] at HG
  have k0 := BK.out.cell 0
  have k1 := BK.out.cell 1
  have k2 := BK.out.cell 2
  have k3 := BK.out.cell 3
  simp only [List.getElem?_toArray, List.getElem?_cons_zero, List.getElem?_cons_succ] at k0 k1 k2 k3
  go_wp2_with fail
  refine HG.out.mono ?_
  rintro e wa ⟨rfl, hba⟩
  replace HR := Lib.hid (HR.out.kept hba)
  replace HN := Lib.hid (HN.out.kept hba)
  replace BK := Lib.hid (BK.out.kept hba)
  replace HOr := Lib.hid (LAmendment.Own.kept HOr.out hba)
  replace hb := hb.trans (hba.mono hb.size)
  have HLn2 := Lib.hid (HLn.out _ hba gg)
  clear hba k0 k1 k2 k3 HLn HG
  have k0 := BK.out.cell 0
  have k1 := BK.out.cell 1
  have k2 := BK.out.cell 2
  have k3 := BK.out.cell 3
  simp only [List.getElem?_toArray, List.getElem?_cons_zero, List.getElem?_cons_succ] at k0 k1 k2 k3
  go_wp2_with fail
  refine HLn2.out.mono ?_
  rintro e wb ⟨rfl, hba⟩
  replace HR := Lib.hid (HR.out.kept hba)
  replace HN := Lib.hid (HN.out.kept hba)
  replace BK := Lib.hid (BK.out.kept hba)
  replace HOr := Lib.hid (LAmendment.Own.kept HOr.out hba)
  replace hb := hb.trans (hba.mono hb.size)
  clear hba k0 k1 k2 k3 HLn2
  obtain ⟨LS, hLS⟩ : ∃ x, x = line r := ⟨_, rfl⟩
  rw [← hLS]
  cases he : (LS.toList == s.toList) with
  | false =>
    have hne : (LS.toList != s.toList) = true := by simp only [bne, he]; rfl
    have HAns := Lib.hid (ans_no (s := s) (r := r) (fun q hq hl => (HFd.out q hq hl).1) (fun h => by have := (eq_list he).2 (by rw [hLS, h.2]); cases this))
    clear hLS
    have n0 := HN.out.cell 0
    have n1 := HN.out.cell 1
    have n2 := HN.out.cell 2
    have n3 := HN.out.cell 3
    simp only [List.getElem?_toArray, List.getElem?_cons_zero, List.getElem?_cons_succ] at n0 n1 n2 n3
    have r0 := HR.out.cell 0
    have r1 := HR.out.cell 1
    have r2 := HR.out.cell 2
    have r3 := HR.out.cell 3
    simp only [List.getElem?_toArray, List.getElem?_cons_zero, List.getElem?_cons_succ] at r0 r1 r2 r3
    have f0 := HR.out.frozen 0
    have f1 := HR.out.frozen 1
    have f2 := HR.out.frozen 2
    have f3 := HR.out.frozen 3
    have HRS := Lib.hid (Bx.set_ (Bx.set_ (Bx.set_ (Bx.set_ HR.out 0 (.int .i64 0)) 1 (.int .i64 0)) 2 (.int .i64 0)) 3 (.slice none 0 0))
    have hbs := ((((hb.setCell (p := ⟨w.heap.size, 0, none⟩) hRw (.int .i64 0)).setCell (p := ⟨w.heap.size, 1, none⟩) hRw (.int .i64 0)).setCell (p := ⟨w.heap.size, 2, none⟩) hRw (.int .i64 0)).setCell (p := ⟨w.heap.size, 3, none⟩) hRw (.slice none 0 0))
    go_wp2_with fail
    clear n0 n1 n2 n3 r0 r1 r2 r3 f0 f1 f2 f3
    generalize (((wb.setCell ⟨w.heap.size, 0, none⟩ (.int .i64 0)).setCell ⟨w.heap.size, 1, none⟩ (.int .i64 0)).setCell ⟨w.heap.size, 2, none⟩ (.int .i64 0)).setCell ⟨w.heap.size, 3, none⟩ (.slice none 0 0) = wz at *
    simp only [List.setIfInBounds_toArray, List.set_cons_zero, List.set_cons_succ] at HRS
    have r0 := HRS.out.cell 0
    have r1 := HRS.out.cell 1
    have r2 := HRS.out.cell 2
    have r3 := HRS.out.cell 3
    simp only [List.getElem?_toArray, List.getElem?_cons_zero, List.getElem?_cons_succ] at r0 r1 r2 r3
    (try simp only [Exit.inBlock, Exit.then])
    refine bodyPost_ret (v := .tuple #[.agg #[.int .i64 0, .int .i64 0, .int .i64 0, .slice none 0 0], .bool false]) (by rw [results_cell_tmp rfl]; go_simp) rfl ?_
    exact ⟨_, zeroM, false, rfl, HAns.out, LAmendment.Own.zero, hbs⟩
  | true =>
  have hne : (LS.toList != s.toList) = false := by simp only [bne, he]; rfl
  have HAns := Lib.hid (show PAm.Ans s r true from ans_yes gg (by rw [← hLS]; exact ByteArray.ext (Array.toList_inj.1 ((eq_list he).1 rfl))))
  clear hLS
  have k0 := BK.out.cell 0
  have k1 := BK.out.cell 1
  have k2 := BK.out.cell 2
  have k3 := BK.out.cell 3
  simp only [List.getElem?_toArray, List.getElem?_cons_zero, List.getElem?_cons_succ] at k0 k1 k2 k3
  have r0 := HR.out.cell 0
  have r1 := HR.out.cell 1
  have r2 := HR.out.cell 2
  have r3 := HR.out.cell 3
  simp only [List.getElem?_toArray, List.getElem?_cons_zero, List.getElem?_cons_succ] at r0 r1 r2 r3
  have f0 := HR.out.frozen 0
  have f1 := HR.out.frozen 1
  have f2 := HR.out.frozen 2
  have f3 := HR.out.frozen 3
  have HRS := Lib.hid (Bx.set_ (Bx.set_ (Bx.set_ (Bx.set_ HR.out 0 (.int .i64 r.kind)) 1 (.int .i64 r.pos)) 2 (.int .i64 r.count)) 3 (.slice fa fn fc))
  have hbs := ((((hb.setCell (p := ⟨w.heap.size, 0, none⟩) hRw (.int .i64 r.kind)).setCell (p := ⟨w.heap.size, 1, none⟩) hRw (.int .i64 r.pos)).setCell (p := ⟨w.heap.size, 2, none⟩) hRw (.int .i64 r.count)).setCell (p := ⟨w.heap.size, 3, none⟩) hRw (.slice fa fn fc))
  obtain ⟨sv, hsv, hos⟩ := HOr.out
  obtain rfl : .slice fa fn fc = sv := by simp only [Value.agg.injEq, Array.mk.injEq, List.cons.injEq, and_true, true_and] at hsv; exact hsv
  have HOS := Lib.hid (own_set (own_set (own_set (own_set hos (p := ⟨w.heap.size, 0, none⟩) (fun k hk => by have h2 := (hos.lt k hk).1; show k ≠ w.heap.size; omega) (.int .i64 r.kind)) (p := ⟨w.heap.size, 1, none⟩) (fun k hk => by have h2 := (hos.lt k hk).1; show k ≠ w.heap.size; omega) (.int .i64 r.pos)) (p := ⟨w.heap.size, 2, none⟩) (fun k hk => by have h2 := (hos.lt k hk).1; show k ≠ w.heap.size; omega) (.int .i64 r.count)) (p := ⟨w.heap.size, 3, none⟩) (fun k hk => by have h2 := (hos.lt k hk).1; show k ≠ w.heap.size; omega) (.slice fa fn fc))
  clear hos hsv
  go_wp2_with fail
  clear r0 r1 r2 r3 f0 f1 f2 f3
  generalize (((wb.setCell ⟨w.heap.size, 0, none⟩ (.int .i64 r.kind)).setCell ⟨w.heap.size, 1, none⟩ (.int .i64 r.pos)).setCell ⟨w.heap.size, 2, none⟩ (.int .i64 r.count)).setCell ⟨w.heap.size, 3, none⟩ (.slice fa fn fc) = wz at *
  simp only [List.setIfInBounds_toArray, List.set_cons_zero, List.set_cons_succ] at HRS
  have r0 := HRS.out.cell 0
  have r1 := HRS.out.cell 1
  have r2 := HRS.out.cell 2
  have r3 := HRS.out.cell 3
  simp only [List.getElem?_toArray, List.getElem?_cons_zero, List.getElem?_cons_succ] at r0 r1 r2 r3
  (try simp only [Exit.inBlock, Exit.then])
  refine bodyPost_ret (v := .tuple #[.agg #[.int .i64 r.kind, .int .i64 r.pos, .int .i64 r.count, .slice fa fn fc], .bool true]) (by rw [results_cell_tmp rfl]; go_simp) rfl ?_
  exact ⟨_, r, true, rfl, HAns.out, ⟨_, rfl, Bs.Own.low HOS.out (by omega)⟩, hbs⟩
end Go.Proofs.YtfkppgnffhbfjaaDoor.PAmP
