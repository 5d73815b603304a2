/- The draws of an agenda and of a minute. No condition. -/
import Derived.Test.YtgemnjimgjnlhaaGreatDoorDrawAg
import Derived.Test.YtgemnjimgjnlhaaGreatDoorJ1
import Derived.Maps.AppendAt
namespace Go.Proofs.YtgemnjimgjnlhaaGreatDoor.DrawAg
open Go.RowKit Cur Bs Draw
set_option linter.unusedVariables false
theorem own_take {α : Type} {T : Rec α} {E : TypeId} {w : World} {A g n c k : Nat} {z : List α} (hn : z.length = n) (h : Own T E w A (.slice (some ⟨g, 0, none⟩) n c) z) (hk : k ≤ n) : Own T E w A (.slice (some ⟨g, 0, none⟩) k c) (z.take k) := by
  subst hn
  have hkl : (z.take k).length = k := by rw [List.length_take, Nat.min_eq_left hk]
  obtain ⟨hl, h | ⟨g', cap, cur, e, hA, hg, hnc, hcm, hs, ht⟩⟩ := h
  · cases h.1
  · simp only [Value.slice.injEq, Option.some.injEq, Addr.mk.injEq] at e
    obtain ⟨⟨rfl, _⟩, _, rfl⟩ := e
    refine ⟨flat_len T _, .inr ⟨g, c, cur, by rw [hkl], hA, hg, by omega, hcm, hs, ?_⟩⟩
    rw [hkl]
    have hf : flat T z = flat T (z.take k) ++ flat T (z.drop k) := by rw [← flat_append, List.take_append_drop]
    have hm : k * T.n ≤ z.length * T.n := Nat.mul_le_mul_right _ hk
    have : cur.toList.take (k * T.n) = (flat T z).take (k * T.n) := by rw [← ht, List.take_take, Nat.min_eq_left hm]
    rw [this, hf]
    exact List.take_left' (by rw [flat_len, hkl])
def Short (z : List M) : Prop := ∀ x ∈ z, x.title.size ≤ 11
theorem short_snoc {z : List M} {r : M} (h : Short z) (hr : r.title.size ≤ 11) : Short (z ++ [r]) := fun x hx => by
  rcases List.mem_append.1 hx with hx | hx
  · exact h x hx
  · rw [List.mem_singleton.1 hx]; exact hr
theorem short_set {z : List M} {r : M} {k : Nat} (h : Short z) (hr : r.title.size ≤ 11) : Short (z.set k r) := fun x hx => by
  rcases List.mem_or_eq_of_mem_set hx with hx | hx
  · exact h x hx
  · rw [hx]; exact hr
theorem short_take {z : List M} {k : Nat} (h : Short z) : Short (z.take k) := fun x hx => h x (List.mem_of_mem_take hx)
theorem short_fine {z : List M} (h : Short z) : ∀ x ∈ z, LAgendaItem.Fine x := fun x hx => by have := h x hx; show x.title.size ≤ maxLen; unfold maxLen; omega
theorem own_somed {w : World} {A : Nat} {v : Value} {z : List M} (h : Own LAgendaItem.rec 52 w A v z) (hz : 0 < z.length) : ∃ g c, v = .slice (some ⟨g, 0, none⟩) z.length c ∧ A ≤ g ∧ g < w.heap.size ∧ z.length ≤ c ∧ c ≤ maxLen := by
  rcases h.shape with ⟨_, h0⟩ | h
  · rw [h0] at hz; simp at hz
  · exact h
def lenOf : Value → Nat
  | .slice _ n _ => n
  | _ => 0
/-- a list of items of the call's own -/
def AgOf (w : World) (B m : Nat) (e : Ending) (w' : World) : Prop := ∃ (z : List M) (g c : Nat), e = .returned (.slice (some ⟨g, 0, none⟩) z.length c) ∧ Own LAgendaItem.rec 52 w' w.heap.size (.slice (some ⟨g, 0, none⟩) z.length c) z ∧ Short z ∧ z.length ≤ 11 ∧ Live B m w w'
theorem minute5 (B m : Nat) (w : World) (h : Cur w B m) (hm : m < 700000) : Calls Tryz.prog 64 #[.pointer (some ⟨B, 0, none⟩)] w (MinOf w B (m + 6)) := by
  have hne : w.heap.size ≠ B := by have := h.lt; omega
  have HL4 := Lib.hid ((Live.start h).alloc (.cells (([0, 530, 540, 560, 600, 1439, -1, 1440] : List Int).map (Value.int .i64)).toArray 3))
  have HBx := Lib.hid (show Bx (w.alloc (.cells (([0, 530, 540, 560, 600, 1439, -1, 1440] : List Int).map (Value.int .i64)).toArray 3)) w.heap.size 3 (([0, 530, 540, 560, 600, 1439, -1, 1440] : List Int).map (Value.int .i64)).toArray from Bx.new _ _ _)
  clear h
  go_enter Tryz.func64, Tryz.ntmps64
  go_wp2_with fail
  refine (pick B _ 24 _ HL4.out.cur (by omega) (by omega) (by omega)).mono ?_
  rintro e w5 ⟨p, rfl, p0, p1, hc5, hg5⟩
  have HB5 := Lib.hid (HBx.out.grown hg5 hne)
  have HL5 := Lib.hid (HL4.out.draw hc5 hg5)
  have hq : p.tdiv 11 = p / 11 := Int.tdiv_eq_ediv_of_nonneg p0
  have hw1 : IntKind.i64.wrap (p / 11) = p / 11 := IntWalk.i64_in _ (by omega)
  have hw2 : IntKind.i64.wrap (6 + p / 11) = 6 + p / 11 := IntWalk.i64_in _ (by omega)
  obtain ⟨nn, hnn⟩ := Int.eq_ofNat_of_zero_le (show 0 ≤ 6 + p / 11 by omega)
  have hn1 : 6 ≤ nn ∧ nn ≤ 8 := by omega
  have hn2 : (0 : Int) ≤ 6 + p / 11 := by omega
  have hn3 : 6 + p / 11 ≤ (8 : Int) := by omega
  have hn4 : (6 + p / 11).toNat = nn := by omega
  have HM := Lib.hid (fun (mm : Nat) (W : World) => among_pre B mm w.heap.size nn [0, 530, 540, 560, 600, 1439, -1, 1440] W)
  clear hc5 hg5 HBx HL4 hnn
  go_wp2_with fail
  refine (HM.out _ _ HL5.out.cur (by omega) HB5.out hne (by omega) (by show nn ≤ 8; omega) (by decide)).mono ?_
  rintro e w6 ⟨x, hx, rfl, hc6, hg6⟩
  have HL6 := Lib.hid ((HL5.out.draw hc6 hg6).mono (m' := m + 6) (by omega))
  have hb : -1 ≤ x ∧ x ≤ 1440 := by simp only [List.mem_cons, List.not_mem_nil, or_false] at hx; omega
  clear hc6 hg6 HL5 HB5 HM hq hw1 hw2 hn2 hn3 hn4 hn1 hne hx
  go_wp2_with fail
  go_ret
  exact ⟨x, rfl, hb.1, hb.2, HL6.out.cur, HL6.out.grown⟩
set_option maxRecDepth 100000 in
set_option maxHeartbeats 3200000 in
theorem agenda (B m : Nat) (w : World) (h : Cur w B m) (hm : m < 600000) : Calls Tryz.prog 63 #[.pointer (some ⟨B, 0, none⟩)] w (AgOf w B (m + 250)) := by
  obtain ⟨i0, hi, hz0, hz1, hz2⟩ := info_parts LAgendaItem.infoK
  have HI0 := Lib.hid hi
  have HZ0 := Lib.hid (And.intro hz0 (And.intro hz1 hz2))
  clear hi hz0 hz1 hz2
  have HL0 := Lib.hid ((Live.start h).alloc (.cells #[] 52))
  have HO0 := Lib.hid (Own.start (T := LAgendaItem.rec) (E := 52) (w := w) (Nat.le_refl _))
  clear h
  go_enter Tryz.func63, Tryz.ntmps63
  go_wp2_with fail
  generalize hW0 : w.alloc (.cells #[] 52) = W0 at *
  clear hW0
  refine (pick B _ 3 _ HL0.out.cur (by omega) (by omega) (by omega)).mono ?_
  rintro e w1 ⟨d, rfl, d0, d1, hc1, hg1⟩
  have HO1 := Lib.hid (own_grown HO0.out hg1 HL0.out.low)
  have HL1 := Lib.hid (HL0.out.draw hc1 hg1)
  have s1 : IntKind.i64.wrap (1 + d) = 1 + d := IntWalk.i64_in _ (by omega)
  clear hc1 hg1 HO0 HL0 W0
  go_wp2_with fail
  refine (pick B _ 7 _ HL1.out.cur (by omega) (by omega) (by omega)).mono ?_
  rintro e w2 ⟨q, rfl, q0, q1, hc2, hg2⟩
  obtain ⟨q, rfl⟩ := Int.eq_ofNat_of_zero_le q0
  have HO2 := Lib.hid (own_grown HO1.out hg2 HL1.out.low)
  have HL2 := Lib.hid ((HL1.out.draw hc2 hg2).mono (m' := m + 200 - 30 * q) (by omega))
  have e0 : 0 ≤ 1 + d := by omega
  have e1 : 1 + d ≤ 3 := by omega
  clear hc2 hg2 HO1 HL1 s1
  generalize (1 + d : Int) = D0 at *
  go_wp2_with fail
  go_loopw [3, 4, 5] (fun u d n wr => ∃ (q : Nat) (dd : Int) (z : List M) (g c : Nat), n = .int .i64 q ∧ d = .int .i64 dd ∧ 0 ≤ dd ∧ dd + 3 * q ≤ 21 ∧ u = .slice (some ⟨g, 0, none⟩) z.length c ∧ Hid (Own LAgendaItem.rec 52 wr w.heap.size (.slice (some ⟨g, 0, none⟩) z.length c) z) ∧ Hid (Short z) ∧ z.length + q ≤ 6 ∧ Hid (Live B (m + 200 - 30 * q) w wr)) (fun _ _ n _ => (intOf n).toNat)
  case atStart => exact ⟨q, D0, [], _, _, rfl, rfl, by omega, by omega, rfl, HO2, Lib.hid (fun x hx => by cases hx), by simp; omega, HL2⟩
  case round =>
    clear HO2 HL2 q0 q1
    obtain ⟨q, dd, z, g, c, rfl, rfl, hd0, hd1, rfl, HO, HSh, hzl, HL⟩ := hrel
    obtain ⟨l, hl⟩ : ∃ l, l = z.length := ⟨_, rfl⟩
    have HLn := Lib.hid hl.symm
    rw [← hl] at HO hzl ⊢
    clear hl
    by_cases hpos : 0 < q
    · obtain ⟨q, rfl⟩ : ∃ p, q = p + 1 := ⟨q - 1, by omega⟩
      have qi : (0 : Int) < ((q + 1 : Nat) : Int) := by omega
      have qi2 : (0 : Int) < (q : Int) + 1 := by omega
      go_wp2_with fail
      refine (agendaItem B _ dd _ HL.out.cur (by omega)).mono ?_
      rintro e w2 ⟨X, rfl, hX, hc2, hg2⟩
      have HO2 := Lib.hid (own_grown HO.out hg2 HL.out.low)
      have HL2 := Lib.hid (HL.out.draw hc2 hg2)
      have hz2 := HL2.out.size
      have hzl8 : z.length ≤ 8 := by have := HLn.out; omega
      clear hc2 hg2 HO HL
      go_wp2_with (at_builtin; refine wpList_append_own_at _ rfl (.tmp 16) (.tmp 20) 42 rfl w.heap.size 52 i0 (.agg #[.int .i64 0, .string ⟨#[]⟩, .int .i64 0, .int .i64 0]) 4 40 Tryz.underlying42 HI0.out HZ0.out.1 HZ0.out.2.1 HZ0.out.2.2 rfl (by decide) _ _ _ rfl (Own.alloc HO2.out _) ⟨_, 0, none⟩ 1 1 [.int .i64 X.id, .string X.title, .int .i64 X.mins, .int .i64 X.time] rfl rfl ?c1 ?c2 ?c3 ?c4 ?c5 ?c6)
      case c1 => exact World.news_of_block (heap_alloc_new _ _)
      case c2 => intro u hu; simp only [List.mem_cons, List.not_mem_nil, or_false] at hu; rcases hu with rfl | rfl | rfl | rfl <;> rfl
      case c3 => unfold maxLen; omega
      case c4 => omega
      case c5 => first | (simp; done) | (simp; omega) | omega
      case c6 =>
        intro v' w4 hown' hgrow _ _
        have hO4 : Own LAgendaItem.rec 52 w4 w.heap.size (v') (z ++ [X]) := own_of LAgendaItem.rec hown' (by simp [HLn.out]) (by rw [flat_append]; rfl)
        obtain ⟨g', c', rfl, _⟩ := own_somed hO4 (by simp)
        have HO4 := Lib.hid hO4
        have HL4 := Lib.hid ((HL2.out.alloc (Obj.cells #[.int .i64 X.id, .string X.title, .int .i64 X.mins, .int .i64 X.time] 52)).own hgrow (fun k hk => (HO2.out.lt k hk).1))
        have HS4 := Lib.hid (short_snoc (r := X) HSh.out hX)
        clear hown' hgrow hO4 HO2 HL2
        have a1 : IntKind.i64.wrap (dd + 1) = dd + 1 := IntWalk.i64_in _ (by omega)
        go_wp2_with fail
        refine (pick B _ 3 _ HL4.out.cur (by omega) (by omega) (by omega)).mono ?_
        rintro e w5 ⟨r, rfl, r0, r1, hc5, hg5⟩
        have HO5 := Lib.hid (own_grown HO4.out hg5 HL4.out.low)
        have HL5 := Lib.hid (HL4.out.draw hc5 hg5)
        have a2 : IntKind.i64.wrap (dd + 1 + r) = dd + 1 + r := IntWalk.i64_in _ (by omega)
        clear hc5 hg5 HO4 HL4
        go_wp2_with fail
        refine (pick B _ 40 _ HL5.out.cur (by omega) (by omega) (by omega)).mono ?_
        rintro e w6 ⟨s, rfl, s0, s1, hc6, hg6⟩
        have HO6 := Lib.hid (own_grown HO5.out hg6 HL5.out.low)
        have HL6 := Lib.hid ((HL5.out.draw hc6 hg6).mono (m' := m + 200 - 30 * q) (by omega))
        have hq : s.tdiv 39 = s / 39 := Int.tdiv_eq_ediv_of_nonneg s0
        have a3 : IntKind.i64.wrap (s / 39) = s / 39 := IntWalk.i64_in _ (by omega)
        have a4 : IntKind.i64.wrap (dd + 1 + r - s / 39) = dd + 1 + r - s / 39 := IntWalk.i64_in _ (by omega)
        clear hc6 hg6 HO5 HL5
        go_wp2_with fail
        go_roundw
        case rel => exact ⟨q, dd + 1 + r - s / 39, z ++ [X], g', c', by first | rfl | (congr 1; omega), rfl, by omega, by omega, by first | rfl | simp, HO6, HS4, by have := HLn.out; simp; omega, HL6⟩
        case measure => simp [intOf]
    · obtain rfl : q = 0 := by omega
      have hd2 : dd ≤ 21 := by omega
      clear hpos hd1
      go_upto_region 8 with fail
      go_cut [37] (fun tt wx => ∃ b : Bool, tt = .bool b ∧ (b = true → 1 < l) ∧ Hid (Own LAgendaItem.rec 52 wx w.heap.size (.slice (some ⟨g, 0, none⟩) l c) z) ∧ Hid (Live B (m + 202) w wx))
      case first =>
        by_cases hl1 : 1 < l
        · have hl1i : (1 : Int) < (l : Int) := by omega
          go_wp2_with fail
          refine (one B _ 3 _ HL.out.cur (by omega) (by omega) (by omega)).mono ?_
          rintro e w3 ⟨b, rfl, hc3, hg3⟩
          have HO3 := Lib.hid (own_grown HO.out hg3 HL.out.low)
          have HL3 := Lib.hid ((HL.out.draw hc3 hg3).mono (m' := m + 202) (by omega))
          clear hc3 hg3 HO HL
          go_wp2_with fail
          go_meet
          exact ⟨b, rfl, fun _ => hl1, HO3, HL3⟩
        · have hl1i : ¬ (1 : Int) < (l : Int) := by omega
          have HL3 := Lib.hid (HL.out.mono (m' := m + 202) (by omega))
          go_wp2_with fail
          go_meet
          exact ⟨false, rfl, fun h => Bool.noConfusion h, HO, HL3⟩
      case rest =>
      clear HO HL
      obtain ⟨b, rfl, hb, HO, HL⟩ := hcut
      go_upto_if 37 with fail
      go_cut [3] (fun u wx => ∃ (z' : List M) (g' c' : Nat), u = .slice (some ⟨g', 0, none⟩) z'.length c' ∧ Hid (Own LAgendaItem.rec 52 wx w.heap.size (.slice (some ⟨g', 0, none⟩) z'.length c') z') ∧ Hid (Short z') ∧ z'.length ≤ 6 ∧ Hid (Live B (m + 202) w wx))
      case first =>
        cases b with
        | false =>
          go_wp2_with fail
          go_meet
          exact ⟨z, g, c, by rw [HLn.out], by rw [HLn.out]; exact HO, HSh, by rw [HLn.out]; omega, HL⟩
        | true =>
          have hl1 := hb rfl
          obtain ⟨k, hk⟩ : ∃ k, k = l - 1 := ⟨_, rfl⟩
          have k0 : (0 : Int) ≤ (k : Int) := by omega
          have k1 : (k : Int) < (l : Int) := by omega
          have k2 : (0 : Int) < (l : Int) := by omega
          have k3 : IntKind.i64.wrap ((l : Int) - 1) = (k : Int) := by rw [show (l : Int) - 1 = (k : Int) by omega]; exact IntWalk.i64_in _ (by omega)
          have hkl : k < l := by omega
          have hk6 : k ≤ 6 := by omega
          have hxk : k < z.length := by have := HLn.out; omega
          have hx0 : 0 < z.length := by have := HLn.out; omega
          have HXk := Lib.hid (List.getElem?_eq_getElem hxk)
          have HX0 := Lib.hid (List.getElem?_eq_getElem hx0)
          have hXs := HSh.out z[k] (List.getElem_mem hxk)
          obtain ⟨p0, p1, p2, p3⟩ := LAgendaItem.cells (Own.at_ HO.out k z[k] HXk.out)
          obtain ⟨r0, r1, r2, r3⟩ := LAgendaItem.cells (Own.at_ HO.out 0 z[0] HX0.out)
          simp only [LAgendaItem.rec_n, Nat.zero_mul, Nat.zero_add] at p0 p1 p2 p3 r0 r1 r2 r3
          have hfz := Own.frozen HLn.out HO.out
          have hgA := (HO.out.lt g rfl).1
          have hkc : k ≤ c := by
            rcases HO.out.shape with ⟨h, _⟩ | ⟨g', c', h, _, _, h1, _⟩
            · cases h
            · simp only [Value.slice.injEq] at h
              have := HLn.out
              omega
          have HP := LAgendaItem.putAll HLn.out HO.out 0 z[0] z[k] HX0.out
          simp only [Nat.zero_mul, Nat.zero_add] at HP
          have HP := Lib.hid HP
          have HPn : Hid ((z.set 0 z[k]).length = l) := Lib.hid (by rw [List.length_set]; exact HLn.out)
          have HSp := Lib.hid (short_take (k := k) (short_set (k := 0) HSh.out hXs))
          clear HXk HX0 hl1 hk hXs
          generalize z[k] = X at *
          generalize z[0] = Y at *
          have HLp := Lib.hid (((((HL.out.set (p := ⟨g, 0, none⟩) hgA (.int .i64 X.id)).set (p := ⟨g, 1, none⟩) hgA (.string X.title)).set (p := ⟨g, 2, none⟩) hgA (.int .i64 X.mins)).set (p := ⟨g, 3, none⟩) hgA (.int .i64 X.time)))
          have HT := Lib.hid (own_take HPn.out HP.out (Nat.le_of_lt hkl))
          have HTl : Hid (((z.set 0 X).take k).length = k) := Lib.hid (by rw [List.length_take, HPn.out]; omega)
          clear HO HL HP
          go_wp2_with fail
          go_meet
          exact ⟨_, g, c, by rw [HTl.out], by rw [HTl.out]; exact HT, HSp, by rw [HTl.out]; exact hk6, HLp⟩
      case rest =>
      clear HO HL HSh HLn
      obtain ⟨z', g', c', rfl, HO, HSh, hz6, HL⟩ := hcut
      obtain ⟨l', hl'⟩ : ∃ l', l' = z'.length := ⟨_, rfl⟩
      have HLn := Lib.hid hl'.symm
      rw [← hl'] at HO hz6 ⊢
      clear hl'
      go_wp2_with fail
      refine (one B _ 24 _ HL.out.cur (by omega) (by omega) (by omega)).mono ?_
      rintro e w3 ⟨b, rfl, hc3, hg3⟩
      have HO3 := Lib.hid (own_grown HO.out hg3 HL.out.low)
      have HL3 := Lib.hid (HL.out.draw hc3 hg3)
      clear hc3 hg3 HO HL
      cases b with
      | false =>
        go_wp2_with fail
        go_ret
        exact ⟨z', g', c', by rw [HLn.out]; rfl, by rw [HLn.out]; exact HO3.out, HSh.out, by have := HLn.out; omega, HL3.out.mono (by omega)⟩
      | true =>
        have HL4 := Lib.hid (HL3.out.mono (m' := m + 210 + 2 * l') (by omega))
        clear HL3
        go_wp2_with fail
        go_loopw [3, 4] (fun u d wr => ∃ (z : List M) (g c : Nat) (dd : Int), u = .slice (some ⟨g, 0, none⟩) z.length c ∧ d = .int .i64 dd ∧ 0 ≤ dd ∧ dd ≤ 21 + z.length ∧ Hid (Own LAgendaItem.rec 52 wr w.heap.size (.slice (some ⟨g, 0, none⟩) z.length c) z) ∧ Hid (Short z) ∧ z.length ≤ 11 ∧ Hid (Live B (m + 210 + 2 * z.length) w wr)) (fun u _ _ => 12 - lenOf u)
        case atStart => exact ⟨z', g', c', dd, by rw [HLn.out], rfl, hd0, by omega, by rw [HLn.out]; exact HO3, HSh, by rw [HLn.out]; omega, by rw [HLn.out]; exact HL4⟩
        case round =>
          clear HO3 HL4 HSh HLn hd0 hd2
          obtain ⟨z, g, c, dd, rfl, rfl, hd0, hd2, HO, HSh, hzl, HL⟩ := hrel
          obtain ⟨l, hl⟩ : ∃ l, l = z.length := ⟨_, rfl⟩
          have HLn := Lib.hid hl.symm
          rw [← hl] at HO hzl HL hd2 ⊢
          clear hl
          go_wp2_with fail
          refine (pick B _ 2 _ HL.out.cur (by omega) (by omega) (by omega)).mono ?_
          rintro e w5 ⟨r, rfl, r0, r1, hc5, hg5⟩
          have HO5 := Lib.hid (own_grown HO.out hg5 HL.out.low)
          have HL5 := Lib.hid (HL.out.draw hc5 hg5)
          have s1' : IntKind.i64.wrap (10 + r) = 10 + r := IntWalk.i64_in _ (by omega)
          have hz5 := HL5.out.size
          have hzn : z.length ≤ 13 := by have := HLn.out; omega
          clear hc5 hg5 HO HL
          by_cases hlt : (l : Int) < 10 + r
          · have hl10 : l ≤ 10 := by omega
            have a1 : IntKind.i64.wrap (dd + 1) = dd + 1 := IntWalk.i64_in _ (by omega)
            go_wp2_with (at_builtin; refine wpList_append_own_at _ rfl (.tmp 61) (.tmp 64) 42 rfl w.heap.size 52 i0 (.agg #[.int .i64 0, .string ⟨#[]⟩, .int .i64 0, .int .i64 0]) 4 40 Tryz.underlying42 HI0.out HZ0.out.1 HZ0.out.2.1 HZ0.out.2.2 rfl (by decide) _ _ _ rfl (Own.alloc HO5.out _) ⟨_, 0, none⟩ 1 1 [.int .i64 (dd + 1), .string ⟨#[120]⟩, .int .i64 1, .int .i64 (-1)] rfl rfl ?d1 ?d2 ?d3 ?d4 ?d5 ?d6)
            case d1 => exact World.news_of_block (heap_alloc_new _ _)
            case d2 => intro u hu; simp only [List.mem_cons, List.not_mem_nil, or_false] at hu; rcases hu with rfl | rfl | rfl | rfl <;> rfl
            case d3 => unfold maxLen; omega
            case d4 => omega
            case d5 => first | (simp; done) | (simp; omega) | omega
            case d6 =>
              intro v' w6 hown' hgrow _ hat
              have hO6 : Own LAgendaItem.rec 52 w6 w.heap.size (v') (z ++ [⟨dd + 1, ⟨#[120]⟩, 1, -1⟩]) := own_of LAgendaItem.rec hown' (by simp [HLn.out]) (by rw [flat_append]; rfl)
              obtain ⟨g6, c6, rfl, _⟩ := own_somed hO6 (by simp)
              have HO6 := Lib.hid hO6
              have HL6 := Lib.hid (((HL5.out.alloc (Obj.cells #[.int .i64 (dd + 1), .string ⟨#[120]⟩, .int .i64 1, .int .i64 (-1)] 52)).own hgrow (fun k hk => (HO5.out.lt k hk).1)).mono (m' := m + 210 + 2 * (z ++ [(⟨dd + 1, ⟨#[120]⟩, 1, -1⟩ : M)]).length) (by simp [HLn.out]; omega))
              have HS6 := Lib.hid (short_snoc (r := ⟨dd + 1, ⟨#[120]⟩, 1, -1⟩) HSh.out (show (1 : Nat) ≤ 11 by decide))
              clear hown' hgrow hat hO6 HO5 HL5
              go_wp2_with fail
              go_roundw
              case rel => exact ⟨z ++ [⟨dd + 1, ⟨#[120]⟩, 1, -1⟩], g6, c6, dd + 1, by first | rfl | simp, rfl, by omega, by have := HLn.out; simp; omega, HO6, HS6, by have := HLn.out; simp; omega, HL6⟩
              case measure => simp [lenOf]; have := HLn.out; omega
          · go_wp2_with fail
            go_ret
            exact ⟨z, g, c, by rw [HLn.out]; rfl, by rw [HLn.out]; exact HO5.out, HSh.out, by have := HLn.out; omega, HL5.out.mono (by omega)⟩
end Go.Proofs.YtgemnjimgjnlhaaGreatDoor.DrawAg
