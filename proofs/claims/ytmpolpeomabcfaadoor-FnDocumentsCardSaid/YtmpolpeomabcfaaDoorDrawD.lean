/- The draw of a document. No condition. -/
import Derived.Test.YtmpolpeomabcfaaDoorDrawW
import Derived.Test.YtmpolpeomabcfaaDoorDocG
import Derived.Test.YtmpolpeomabcfaaDoorLSectionK
import Derived.Maps.AppendAt
import Derived.Deep.DeepCutAuto
import Derived.Deep.CutBlock
namespace Go.Proofs.YtmpolpeomabcfaaDoor.Draw
open Go.RowKit Cur Bs Doc
set_option linter.unusedVariables false
def Short (z : List M) : Prop := ∀ x ∈ z, x.title.size ≤ 11
theorem short_snoc {z : List M} {r : M} (h : Short z) (hr : r.title.size ≤ 11) : Short (z ++ [r]) := fun x hx => by
  rcases List.mem_append.1 hx with hx | hx
  · exact h x hx
  · rw [List.mem_singleton.1 hx]; exact hr
theorem short_set {z : List M} {r : M} {k : Nat} (h : Short z) (hr : r.title.size ≤ 11) : Short (z.set k r) := fun x hx => by
  rcases List.mem_or_eq_of_mem_set hx with hx | hx
  · exact h x hx
  · rw [hx]; exact hr
theorem short_fine {z : List M} (h : Short z) : ∀ x ∈ z, LSection.Fine x := fun x hx => by have := h x hx; show x.title.size ≤ maxLen; unfold maxLen; omega
theorem own_somed {w : World} {A : Nat} {v : Value} {z : List M} (h : Own LSection.rec 33 w A v z) (hz : 0 < z.length) : ∃ g c, v = .slice (some ⟨g, 0, none⟩) z.length c ∧ A ≤ g ∧ g < w.heap.size ∧ z.length ≤ c ∧ c ≤ maxLen := by
  rcases h.shape with ⟨_, h0⟩ | h
  · rw [h0] at hz; simp at hz
  · exact h
def lenOf : Value → Nat
  | .slice _ n _ => n
  | _ => 0
/-- a list of sections of the call's own -/
def DOf (w : World) (B m : Nat) (e : Ending) (w' : World) : Prop := ∃ (z : List M) (g c : Nat), e = .returned (.slice (some ⟨g, 0, none⟩) z.length c) ∧ Own LSection.rec 33 w' w.heap.size (.slice (some ⟨g, 0, none⟩) z.length c) z ∧ Short z ∧ z.length ≤ 14 ∧ Live B m w w'
set_option maxRecDepth 100000 in
set_option maxHeartbeats 3200000 in
theorem document (B m : Nat) (w : World) (h : Cur w B m) (hm : m < 700000) : Calls Tryd.prog 29 #[.pointer (some ⟨B, 0, none⟩)] w (DOf w B (m + 100)) := by
  obtain ⟨i0, hi, hz0, hz1, hz2⟩ := info_parts LSection.infoK
  have HI0 := Lib.hid hi
  have HZ0 := Lib.hid (And.intro hz0 (And.intro hz1 hz2))
  clear hi hz0 hz1 hz2
  have HL0 := Lib.hid ((Live.start h).alloc (.cells #[] 33))
  have HO0 := Lib.hid (Own.start (T := LSection.rec) (E := 33) (w := w) (Nat.le_refl _))
  clear h
  go_enter Tryd.func29, Tryd.ntmps29
  go_wp2_with fail
  generalize hW0 : w.alloc (.cells #[] 33) = W0 at *
  refine (pick B _ 9 _ HL0.out.cur (by omega) (by omega) (by omega)).mono ?_
  rintro e w1 ⟨q, rfl, q0, q1, hc1, hg1⟩
  obtain ⟨q, rfl⟩ := Int.eq_ofNat_of_zero_le q0
  have HO1 := Lib.hid (own_grown HO0.out hg1 HL0.out.low)
  have HL1 := Lib.hid ((HL0.out.draw hc1 hg1).mono (m' := m + 40 - 4 * q) (by omega))
  clear hc1 hg1 HO0 HL0 hW0 W0
  go_wp2_with fail
  go_loopw [3, 4, 5] (fun u d n wr => ∃ (q : Nat) (dd : Int) (z : List M) (g c : Nat), n = .int .i64 q ∧ d = .int .i64 dd ∧ 0 ≤ dd ∧ dd ≤ 4 ∧ u = .slice (some ⟨g, 0, none⟩) z.length c ∧ Hid (Own LSection.rec 33 wr w.heap.size (.slice (some ⟨g, 0, none⟩) z.length c) z) ∧ Hid (Short z) ∧ z.length + q ≤ 8 ∧ Hid (Live B (m + 40 - 4 * q) w wr)) (fun _ _ n _ => (intOf n).toNat)
  case atStart => exact ⟨q, 0, [], _, _, rfl, rfl, by omega, by omega, rfl, HO1, Lib.hid (fun x hx => by cases hx), by simp; omega, HL1⟩
  case round =>
    clear HO1 HL1 q0 q1
    obtain ⟨q, dd, z, g, c, rfl, rfl, d0, d4, rfl, HO, HSh, hzl, HL⟩ := hrel
    obtain ⟨l, hl⟩ : ∃ l, l = z.length := ⟨_, rfl⟩
    have HLn := Lib.hid hl.symm
    rw [← hl] at HO hzl ⊢
    by_cases hpos : 0 < q
    · obtain ⟨q, rfl⟩ : ∃ p, q = p + 1 := ⟨q - 1, by omega⟩
      have qi : (0 : Int) < ((q + 1 : Nat) : Int) := by omega
      have qi2 : (0 : Int) < (q : Int) + 1 := by omega
      have s1 : IntKind.i64.wrap (dd + 1) = dd + 1 := IntWalk.i64_in _ (by omega)
      have HT := Lib.hid (fun W => DocG.least_as dd (top dd) rfl W)
      have tb := top_bd dd d0
      generalize top dd = T at *
      clear hl
      go_wp2_with fail
      refine (HT.out _).mono ?_
      rintro e _ ⟨rfl, rfl⟩
      go_wp2_with fail
      refine (pick B _ T _ HL.out.cur (by omega) (by omega) (by omega)).mono ?_
      rintro e w2 ⟨r, rfl, r0, r1, hc2, hg2⟩
      have HO2 := Lib.hid (own_grown HO.out hg2 HL.out.low)
      have HL2 := Lib.hid (HL.out.draw hc2 hg2)
      have s2 : IntKind.i64.wrap (1 + r) = 1 + r := IntWalk.i64_in _ (by omega)
      clear hc2 hg2 HO HL s1
      go_wp2_with fail
      refine (word B _ _ HL2.out.cur (by omega)).mono ?_
      rintro e w3 ⟨X, rfl, hX, hc3, hg3⟩
      have HO3 := Lib.hid (own_grown HO2.out hg3 HL2.out.low)
      have HL3 := Lib.hid (HL2.out.draw hc3 hg3)
      have hz3 := HL3.out.size
      have hzl8 : z.length ≤ 8 := by have := HLn.out; omega
      have e1 : 0 ≤ 1 + r := by omega
      have e2 : 1 + r ≤ 4 := by omega
      clear hc3 hg3 HO2 HL2 s2 r0 r1
      generalize (1 + r : Int) = D at *
      go_wp2_with (at_builtin; refine wpList_append_own_at _ rfl (.tmp 21) (.tmp 26) 24 rfl w.heap.size 33 i0 (.agg #[.int .i64 0, .string ⟨#[]⟩]) 2 24 Tryd.underlying24 HI0.out HZ0.out.1 HZ0.out.2.1 HZ0.out.2.2 rfl (by decide) _ _ _ rfl (Own.alloc HO3.out _) ⟨_, 0, none⟩ 1 1 [.int .i64 D, .string X] rfl rfl ?c1 ?c2 ?c3 ?c4 ?c5 ?c6)
      case c1 => exact World.news_of_block (heap_alloc_new _ _)
      case c2 => intro u hu; simp only [List.mem_cons, List.not_mem_nil, or_false] at hu; rcases hu with rfl | rfl <;> rfl
      case c3 => unfold maxLen; omega
      case c4 => omega
      case c5 => first | (simp; done) | (simp; omega) | omega
      case c6 =>
        intro v' w4 hown' hgrow _ _
        have hO4 : Own LSection.rec 33 w4 w.heap.size v' (z ++ [⟨D, X⟩]) := own_of LSection.rec hown' (by simp [HLn.out]) (by rw [flat_append]; rfl)
        obtain ⟨g', c', rfl, _⟩ := own_somed hO4 (by simp)
        have HO4 := Lib.hid hO4
        have HL4 := Lib.hid ((((HL3.out.alloc (Obj.cells #[.int .i64 D, .string X] 33)).own hgrow (fun k hk => (HO3.out.lt k hk).1))).mono (m' := m + 40 - 4 * q) (by omega))
        have HS4 := Lib.hid (short_snoc (r := ⟨D, X⟩) HSh.out (by show X.size ≤ 11; omega))
        clear hown' hgrow hO4 HO3 HL3
        go_wp2_with fail
        go_roundw
        case rel => exact ⟨q, D, z ++ [⟨D, X⟩], g', c', by first | rfl | (congr 1; omega), rfl, by omega, by omega, rfl, HO4, HS4, by have := HLn.out; simp; omega, HL4⟩
        case measure => simp [intOf]
    · obtain rfl : q = 0 := by omega
      by_cases hl0 : l = 0
      · subst hl0
        go_wp2_with fail
        go_ret
        exact ⟨z, g, c, by rw [HLn.out]; rfl, by rw [HLn.out]; exact HO.out, HSh.out, by have := HLn.out; omega, HL.out.mono (by omega)⟩
      · have hl1 : ((l : Int) == 0) = false := by rw [beq_eq_false_iff_ne]; omega
        have hl8 : 1 ≤ l ∧ l ≤ 8 := by omega
        clear hl hl0 hpos
        go_wp2_with fail
        refine (pick B _ (l : Int) _ HL.out.cur (by omega) (by omega) (by omega)).mono ?_
        rintro e w2 ⟨r, rfl, r0, r1, hc2, hg2⟩
        obtain ⟨k, rfl⟩ := Int.eq_ofNat_of_zero_le r0
        have HO2 := Lib.hid (own_grown HO.out hg2 HL.out.low)
        have HL2 := Lib.hid (HL.out.draw hc2 hg2)
        have hk : k < z.length := by have := HLn.out; omega
        have HX := Lib.hid (List.getElem?_eq_getElem hk)
        obtain ⟨p0, p1⟩ := LSection.cells (Own.at_ HO2.out k z[k] HX.out)
        simp only [LSection.rec_n] at p0 p1
        have hXs := HSh.out z[k] (List.getElem_mem hk)
        have hgw := (HO2.out.lt g rfl).2
        have hgA := (HO2.out.lt g rfl).1
        have hkl : (k : Int) < (l : Int) := by omega
        have hkl2 : k < l := by omega
        generalize z[k] = X at *
        clear hc2 hg2 HO HL hk HX
        go_wp2_with fail
        have HBX := Lib.hid (Bx.new w2 33 #[.int .i64 X.depth, .string X.title])
        have HO3 := Lib.hid (HO2.out.alloc (Obj.cells #[.int .i64 X.depth, .string X.title] 33))
        have HL3 := Lib.hid (HL2.out.alloc (Obj.cells #[.int .i64 X.depth, .string X.title] 33))
        have hG1 : w2.heap.size < (w2.alloc (Obj.cells #[.int .i64 X.depth, .string X.title] 33)).heap.size := by simp
        have hgG : g ≠ w2.heap.size := by omega
        have hGA : w.heap.size ≤ w2.heap.size := HL2.out.size
        clear p0 p1 HO2 HL2 hgw
        generalize w2.alloc (Obj.cells #[.int .i64 X.depth, .string X.title] 33) = w3 at *
        generalize w2.heap.size = G at *
        refine (pick B _ 40 _ HL3.out.cur (by omega) (by omega) (by omega)).mono ?_
        rintro e w4 ⟨s, rfl, s0, s1, hc4, hg4⟩
        have HO4 := Lib.hid (own_grown HO3.out hg4 HL3.out.low)
        have HB4 := Lib.hid (HBX.out.grown hg4 (by have := HL3.out.low; omega))
        have HL4 := Lib.hid (HL3.out.draw hc4 hg4)
        have hG4 : G < w4.heap.size := HB4.out.lt
        clear hc4 hg4 HO3 HBX HL3 hG1
        go_upto_block 2 with fail
        go_cut [3] (fun u wx => ∃ (z' : List M) (g' c' : Nat) (D : Int) (T : ByteArray), u = .slice (some ⟨g', 0, none⟩) z'.length c' ∧ Hid (Own LSection.rec 33 wx w.heap.size (.slice (some ⟨g', 0, none⟩) z'.length c') z') ∧ Hid (Short z') ∧ k < z'.length ∧ z'.length ≤ 14 ∧ Hid (Bx wx G 33 #[.int .i64 D, .string T]) ∧ T.size ≤ 11 ∧ g' ≠ G ∧ Hid (Live B (m + 90) w wx))
        case first =>
          cases h0 : (s == 0) with
          | true =>
            go_wp2_with fail
            refine (among_lit B _ [0, 2, 4, 5] w4 HL4.out.cur (by omega) (by decide) (by decide)).mono ?_
            rintro e w5 ⟨D, _, rfl, hc5, hg5⟩
            have HO5 := Lib.hid (own_grown HO4.out hg5 HL4.out.low)
            have HB5 := Lib.hid (HB4.out.grown hg5 (by have := HL4.out.low; omega))
            have HL5 := Lib.hid (HL4.out.draw hc5 hg5)
            have f0 := HB5.out.frozen 0
            have b0 := HB5.out.cell 0
            simp only [List.getElem?_toArray, List.getElem?_cons_zero] at b0
            have HB6 := Lib.hid (show Bx (w5.setCell ⟨G, 0, none⟩ (.int .i64 D)) G 33 #[.int .i64 D, .string X.title] from HB5.out.set_ 0 _)
            have HO6 := Lib.hid (own_set HO5.out (p := ⟨G, 0, none⟩) (fun q hq => by have : q = g := (Option.some.inj hq).symm; show q ≠ G; omega) (.int .i64 D))
            have HL6 := Lib.hid ((HL5.out.set (p := ⟨G, 0, none⟩) hGA (.int .i64 D)).mono (m' := m + 90) (by omega))
            clear hc5 hg5 HO4 HB4 HL4 HO5 HB5 HL5
            go_wp2_with fail
            go_meet
            exact ⟨z, g, c, D, X.title, by rw [HLn.out], by rw [HLn.out]; exact HO6, HSh, by rw [HLn.out]; exact hkl2, by rw [HLn.out]; omega, HB6, hXs, hgG, HL6⟩
          | false =>
            cases h1 : (s == 1) with
            | true =>
              go_wp2_with fail
              refine (of_lit B _ [⟨#[]⟩, ⟨#[65]⟩, ⟨#[97, 98, 99, 100, 101, 102, 103, 104, 105, 106, 107]⟩] w4 HL4.out.cur (by omega) (by decide) (by decide)).mono ?_
              rintro e w5 ⟨T, hT, rfl, hc5, hg5⟩
              have hTs := small_of _ 11 (by decide +kernel) T hT
              have HO5 := Lib.hid (own_grown HO4.out hg5 HL4.out.low)
              have HB5 := Lib.hid (HB4.out.grown hg5 (by have := HL4.out.low; omega))
              have HL5 := Lib.hid (HL4.out.draw hc5 hg5)
              have f1 := HB5.out.frozen 1
              have b1 := HB5.out.cell 1
              simp only [List.getElem?_toArray, List.getElem?_cons_zero, List.getElem?_cons_succ] at b1
              have HB6 := Lib.hid (show Bx (w5.setCell ⟨G, 1, none⟩ (.string T)) G 33 #[.int .i64 X.depth, .string T] from HB5.out.set_ 1 _)
              have HO6 := Lib.hid (own_set HO5.out (p := ⟨G, 1, none⟩) (fun q hq => by have : q = g := (Option.some.inj hq).symm; show q ≠ G; omega) (.string T))
              have HL6 := Lib.hid ((HL5.out.set (p := ⟨G, 1, none⟩) hGA (.string T)).mono (m' := m + 90) (by omega))
              clear hc5 hg5 HO4 HB4 HL4 HO5 HB5 HL5 hT
              go_wp2_with fail
              go_meet
              exact ⟨z, g, c, X.depth, T, by rw [HLn.out], by rw [HLn.out]; exact HO6, HSh, by rw [HLn.out]; exact hkl2, by rw [HLn.out]; omega, HB6, hTs, hgG, HL6⟩
            | false =>
              cases h2 : (s == 2) with
              | true =>
                go_wp2_with fail
                go_loopw [3] (fun u wx => ∃ (z' : List M) (g' c' : Nat), u = .slice (some ⟨g', 0, none⟩) z'.length c' ∧ Hid (Own LSection.rec 33 wx w.heap.size (.slice (some ⟨g', 0, none⟩) z'.length c') z') ∧ Hid (Short z') ∧ l ≤ z'.length ∧ z'.length ≤ 13 ∧ Hid (Bx wx G 33 #[.int .i64 X.depth, .string X.title]) ∧ g' ≠ G ∧ Hid (Live B (m + 50 + 2 * z'.length) w wx)) (fun u _ => 14 - lenOf u)
                case atStart => exact ⟨z, g, c, by rw [HLn.out], by rw [HLn.out]; exact HO4, HSh, by rw [HLn.out]; exact Nat.le_refl _, by rw [HLn.out]; omega, HB4, hgG, Lib.hid (HL4.out.mono (by omega))⟩
                case round =>
                  clear HO4 HB4 HL4
                  obtain ⟨z', g', c', rfl, HO, HSx, hzl, hz12, HB, hne, HL⟩ := hrel
                  obtain ⟨l', hl'⟩ : ∃ l', l' = z'.length := ⟨_, rfl⟩
                  have HLn' := Lib.hid hl'.symm
                  rw [← hl'] at HO hzl hz12 HL ⊢
                  clear hl'
                  go_wp2_with fail
                  refine (pick B _ 2 _ HL.out.cur (by omega) (by omega) (by omega)).mono ?_
                  rintro e w5 ⟨r, rfl, r0, r1, hc5, hg5⟩
                  have HO5 := Lib.hid (own_grown HO.out hg5 HL.out.low)
                  have HB5 := Lib.hid (HB.out.grown hg5 (by have := HL.out.low; omega))
                  have HL5 := Lib.hid (HL.out.draw hc5 hg5)
                  have s1' : IntKind.i64.wrap (12 + r) = 12 + r := IntWalk.i64_in _ (by omega)
                  have hz5 := HL5.out.size
                  have hG5 := HB5.out.lt
                  have hzn : z'.length ≤ 13 := by have := HLn'.out; omega
                  clear hc5 hg5 HO HB HL
                  by_cases hlt : (l' : Int) < 12 + r
                  · have hl13 : l' ≤ 12 := by omega
                    go_wp2_with (at_builtin; refine wpList_append_own_at _ rfl (.tmp 62) (.tmp 64) 24 rfl w.heap.size 33 i0 (.agg #[.int .i64 0, .string ⟨#[]⟩]) 2 24 Tryd.underlying24 HI0.out HZ0.out.1 HZ0.out.2.1 HZ0.out.2.2 rfl (by decide) _ _ _ rfl (Own.alloc HO5.out _) ⟨_, 0, none⟩ 1 1 [.int .i64 1, .string ⟨#[120]⟩] rfl rfl ?d1 ?d2 ?d3 ?d4 ?d5 ?d6)
                    case d1 => exact World.news_of_block (heap_alloc_new _ _)
                    case d2 => intro u hu; simp only [List.mem_cons, List.not_mem_nil, or_false] at hu; rcases hu with rfl | rfl <;> rfl
                    case d3 => unfold maxLen; omega
                    case d4 => omega
                    case d5 => first | (simp; done) | (simp; omega) | omega
                    case d6 =>
                      intro v' w6 hown' hgrow _ hat
                      have hO6 : Own LSection.rec 33 w6 w.heap.size v' (z' ++ [⟨1, ⟨#[120]⟩⟩]) := own_of LSection.rec hown' (by simp [HLn'.out]) (by rw [flat_append]; rfl)
                      obtain ⟨g6, c6, rfl, _⟩ := own_somed hO6 (by simp)
                      have HO6 := Lib.hid hO6
                      have HL6 := Lib.hid (((HL5.out.alloc (Obj.cells #[.int .i64 1, .string ⟨#[120]⟩] 33)).own hgrow (fun k hk => (HO5.out.lt k hk).1)).mono (m' := m + 50 + 2 * (z' ++ [(⟨1, ⟨#[120]⟩⟩ : M)]).length) (by simp [HLn'.out]; omega))
                      have HB6 := Lib.hid (Bx.own (HB5.out.alloc (Obj.cells #[.int .i64 1, .string ⟨#[120]⟩] 33)) hgrow hne)
                      have HS6 := Lib.hid (short_snoc (r := ⟨1, ⟨#[120]⟩⟩) HSx.out (by decide))
                      have hne6 : g6 ≠ G := by
                        rcases hat with h | h
                        · have h2 := Option.some.inj (show some g6 = some g' from h)
                          rw [h2]; exact hne
                        · have h2 : g6 = _ := Option.some.inj h
                          rw [h2]; simp; omega
                      clear hown' hgrow hat hO6 HO5 HL5 HB5
                      go_wp2_with fail
                      go_roundw
                      case rel => exact ⟨z' ++ [⟨1, ⟨#[120]⟩⟩], g6, c6, rfl, HO6, HS6, by have := HLn'.out; simp; omega, by have := HLn'.out; simp; omega, HB6, hne6, HL6⟩
                      case measure => simp [lenOf]; have := HLn'.out; omega
                  · go_wp2_with fail
                    go_meet
                    exact ⟨z', g', c', X.depth, X.title, by rw [HLn'.out], by rw [HLn'.out]; exact HO5, HSx, by have := HLn'.out; omega, by have := HLn'.out; omega, HB5, hXs, hne, Lib.hid (HL5.out.mono (by omega))⟩
              | false =>
                go_wp2_with fail
                go_meet
                exact ⟨z, g, c, X.depth, X.title, by rw [HLn.out], by rw [HLn.out]; exact HO4, HSh, by rw [HLn.out]; exact hkl2, by rw [HLn.out]; omega, HB4, hXs, hgG, Lib.hid (HL4.out.mono (by omega))⟩
        case rest =>
          obtain ⟨z', g', c', D, T, rfl, HOx, HSx, hkx, hlx, HBx, hT, hne, HLx⟩ := hcut
          have HX' := Lib.hid (List.getElem?_eq_getElem hkx)
          obtain ⟨p0, p1⟩ := LSection.cells (Own.at_ HOx.out k z'[k] HX'.out)
          simp only [LSection.rec_n] at p0 p1
          have hf := Own.frozen rfl HOx.out
          have b0 := HBx.out.cell 0
          have b1 := HBx.out.cell 1
          simp only [List.getElem?_toArray, List.getElem?_cons_zero, List.getElem?_cons_succ] at b0 b1
          have HPut := Lib.hid (LSection.putAll rfl HOx.out k z'[k] ⟨D, T⟩ HX'.out)
          have hgx := (HOx.out.lt g' rfl).1
          have HLp := Lib.hid ((HLx.out.set (p := ⟨g', k * 2, none⟩) hgx (.int .i64 D)).set (p := ⟨g', k * 2 + 1, none⟩) hgx (.string T))
          obtain ⟨l', hl'⟩ : ∃ l', l' = z'.length := ⟨_, rfl⟩
          have HLn' := Lib.hid hl'.symm
          have hk0 : 0 ≤ (k : Int) := by omega
          have hk1 : (k : Int) < (l' : Int) := by omega
          rw [← hl'] at HPut ⊢
          clear hl' HOx HBx HX'
          generalize z'[k] = Y at *
          go_wp2_with fail
          go_ret
          exact ⟨z'.set k ⟨D, T⟩, g', c', by rw [List.length_set, HLn'.out]; rfl, by rw [List.length_set, HLn'.out]; exact HPut.out, short_set HSx.out hT, by rw [List.length_set]; exact hlx, HLp.out.mono (by omega)⟩
end Go.Proofs.YtmpolpeomabcfaaDoor.Draw
