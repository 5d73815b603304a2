/- GiveOffice, model and program. No condition but that names are no longer than strings can be. -/
import Derived.Test.YtbnkpkneccgfnaaMemF
import Derived.Test.YtbnkpkneccgfnaaLMemberKclone
import Derived.BigQuiet
namespace Go.Proofs.Ytbnkpkneccgfnaa.GiveOfficeC
open Go.RowKit Bs Word Mem MemF Sq
set_option linter.unusedVariables false
abbrev TI : TypeId := 97
def g1 (o : Int) (m : M) : M := if (m.off == o) = true then { m with off := 0 } else m
def g (n o : Int) (m : M) : M := if (m.num == n) = true then { g1 o m with off := o } else g1 o m
def giveL (z : List M) (n o : Int) : List M := z.map (g n o)
theorem g1_num (o : Int) (m : M) : (g1 o m).num = m.num := by unfold g1; split <;> rfl
theorem g1_name (o : Int) (m : M) : (g1 o m).name = m.name := by unfold g1; split <;> rfl
theorem g_name (n o : Int) (m : M) : (g n o m).name = m.name := by unfold g; split <;> simp [g1_name]
theorem give_next (z : List M) (n o : Int) (k : Nat) (X : M) (h : z[k]? = some X) : giveL (z.take (k + 1)) n o = giveL (z.take k) n o ++ [g n o X] := by
  obtain ⟨hk, rfl⟩ := List.getElem?_eq_some_iff.1 h
  unfold giveL
  rw [List.take_succ_eq_append_getElem hk, List.map_append]
  rfl
theorem give_len (z : List M) (n o : Int) : (giveL z n o).length = z.length := by simp [giveL]
noncomputable def givA (z : List M) (n o : Int) : List M × Bool := if goodB z = true then (if inB o 0 3 = true then (if (idx z n).isSome = true then (giveL z n o, true) else ([], false)) else ([], false)) else ([], false)
theorem giv_bad {z : List M} {n o : Int} (h : goodB z = false) : givA z n o = ([], false) := by unfold givA; rw [h]; rfl
theorem giv_off {z : List M} {n o : Int} (h : inB o 0 3 = false) : givA z n o = ([], false) := by unfold givA; rw [h]; split <;> rfl
theorem giv_none {z : List M} {n o : Int} (h : idx z n = none) : givA z n o = ([], false) := by unfold givA; rw [h]; split <;> (try split) <;> rfl
theorem giv_yes {z : List M} {n o : Int} {k : Nat} (h : goodB z = true) (h2 : inB o 0 3 = true) (h3 : idx z n = some k) : givA z n o = (giveL z n o, true) := by unfold givA; rw [h, h2, h3]; rfl
def Ans (z0 : List LMember.R) (a1 a2 : Int) (r0 : List LMember.R) (r1 : Bool) : Prop := givA z0 a1 a2 = (r0, r1)
theorem same {z0 : List LMember.R} {a1 a2 : Int} {r0 s0 : List LMember.R} {r1 s1 : Bool} (h : Ans z0 a1 a2 r0 r1) (h' : Ans z0 a1 a2 s0 s1) : r0 = s0 ∧ r1 = s1 := by
  have := h.symm.trans h'; simp only [Prod.mk.injEq] at this; exact this
theorem len0 {z0 : List LMember.R} {a1 a2 : Int} {r0 : List LMember.R} {r1 : Bool} (h : Ans z0 a1 a2 r0 r1) : r0.length ≤ 1048576 := by
  unfold Ans givA at h
  split at h
  · rename_i hg
    have h12 := (good_of hg).1
    split at h
    · split at h
      · simp only [Prod.mk.injEq] at h; rw [← h.1, give_len]; omega
      · simp only [Prod.mk.injEq] at h; rw [← h.1]; simp
    · simp only [Prod.mk.injEq] at h; rw [← h.1]; simp
  · simp only [Prod.mk.injEq] at h; rw [← h.1]; simp
def Post (z0 : List LMember.R) (a1 a2 : Int) (w : World) (e : Ending) (w' : World) : Prop :=
  ∃ v0 r0 r1, e = .returned (.tuple #[v0, .bool r1]) ∧ Ans z0 a1 a2 r0 r1 ∧ Own LMember.rec TI w' w.heap.size v0 r0 ∧ Below w.heap.size w w'
/-- numbers ascend -/
theorem num_asc {z : List M} (h : goodB z = true) : ∀ (j i : Nat) (a b : M), i < j → z[i]? = some a → z[j]? = some b → a.num < b.num
  | 0, i, a, b, hij, _, _ => by omega
  | j + 1, i, a, b, hij, ha, hb => by
    have hj := (List.getElem?_eq_some_iff.1 hb).1
    obtain ⟨⟨r, hr, _, hp⟩, _⟩ := (good_of h).2 (j + 1) hj
    rw [hb] at hr
    obtain rfl := Option.some.inj hr
    have hc := List.getElem?_eq_getElem (show j < z.length by omega)
    have h1 := hp _ (by omega) hc
    rcases Nat.lt_or_ge i j with h' | h'
    · have := num_asc h j i a _ h' ha hc
      omega
    · obtain rfl : i = j := by omega
      rw [ha] at hc
      rw [Option.some.inj hc]
      exact h1
theorem num_one {z : List M} (h : goodB z = true) {i j : Nat} {a b : M} (ha : z[i]? = some a) (hb : z[j]? = some b) (e : a.num = b.num) : i = j := by
  rcases Nat.lt_trichotomy i j with h' | h' | h'
  · have := num_asc h j i a b h' ha hb; omega
  · exact h'
  · have := num_asc h i j b a h' hb ha; omega
/-- the program's way: all holders first, then the one at place k -/
theorem give_set {z : List M} {n o : Int} {k : Nat} {X : M} (h : goodB z = true) (hi : idx z n = some k) (hX : z[k]? = some X) : (z.map (g1 o)).set k { g1 o X with off := o } = giveL z n o := by
  obtain ⟨X', hX', hp, _⟩ := idx_some hi
  rw [hX] at hX'
  obtain rfl := Option.some.inj hX'
  have hn : X.num = n := by simpa using hp
  apply List.ext_getElem?
  intro j
  by_cases hj : j = k
  · subst hj
    have hl := (List.getElem?_eq_some_iff.1 hX).1
    rw [List.getElem?_set_self (by simpa using hl)]
    unfold giveL
    rw [List.getElem?_map, hX]
    show _ = some (g n o X)
    unfold g
    rw [if_pos hp]
  · rw [List.getElem?_set_ne (by omega)]
    unfold giveL
    rw [List.getElem?_map, List.getElem?_map]
    cases hz : z[j]? with
    | none => rfl
    | some Y =>
      show some (g1 o Y) = some (g n o Y)
      unfold g
      rw [if_neg]
      intro e
      have : Y.num = n := by simpa using e
      exact hj (num_one h hz hX (by rw [this, hn]))
set_option maxRecDepth 100000 in
set_option maxHeartbeats 3200000 in
theorem spec (v0 : Value) (z0 : List LMember.R) (a1 a2 : Int) (w : World) (h0 : IsS LMember.rec w v0 z0) (f0 : ∀ x ∈ z0, LMember.Fine x) (l0 : z0.length ≤ 1048576) :
    Calls Try.prog 31 #[v0, .int .i64 a1, .int .i64 a2] w (Post z0 a1 a2 w) := by
  have h1 := IsS.is LMember.rec h0
  have HG := Lib.hid (MemG.l3Good v0 z0 w h1 f0)
  have HFd := Lib.hid (fun W (hb : Below w.heap.size w W) => l3Find v0 z0 a1 W (h1.below LMember.rec hb))
  obtain ⟨b, o, cp, rfl, hbl, hxc, hcm, hcell⟩ := h0
  obtain ⟨n, hn⟩ : ∃ n, n = z0.length := ⟨_, rfl⟩
  have HN := Lib.hid hn.symm
  have HC := Lib.hid hcell
  rw [← hn] at HG HFd hxc l0 ⊢
  unfold maxLen at hcm
  clear hn h1 hcell f0
  obtain ⟨i0, hi, hz0, hz1, hz2⟩ := info_parts LMember.infoK
  have HI0 := Lib.hid hi
  have HZ0 := Lib.hid (And.intro hz0 (And.intro hz1 hz2))
  clear hi hz0 hz1 hz2
  go_enter Try.func31, Try.ntmps31
  go_wp2_with fail
  refine HG.out.mono ?_
  rintro e w1 ⟨rfl, hb1⟩
  cases hg : goodB z0 with
  | false =>
    have HA := Lib.hid (giv_bad (n := a1) (o := a2) hg)
    clear hg
    have HO := Lib.hid (Own.start (T := LMember.rec) (E := 97) (w := w1) hb1.size)
    have hbz := hb1.alloc hb1.size (Obj.cells #[] 97)
    go_wp2_with fail
    go_ret2
    exact ⟨_, [], false, rfl, HA.out, HO.out, hbz⟩
  | true =>
    have h12 : n ≤ 12 := by have := (good_of hg).1; have := HN.out; omega
    have HGd := Lib.hid hg
    clear hg
    cases ho : inB a2 0 3 with
    | false =>
      have HA := Lib.hid (giv_off (z := z0) (n := a1) ho)
      have HOf := Lib.hid (fun W => office_as a2 false ho W)
      clear ho
      go_wp2_with fail
      refine (HOf.out _).mono ?_
      rintro e w' ⟨rfl, rfl⟩
      have HO := Lib.hid (Own.start (T := LMember.rec) (E := 97) (w := w1) hb1.size)
      have hbz := hb1.alloc hb1.size (Obj.cells #[] 97)
      go_wp2_with fail
      go_ret2
      exact ⟨_, [], false, rfl, HA.out, HO.out, hbz⟩
    | true =>
      have HIn := Lib.hid ho
      have HOf := Lib.hid (fun W => office_as a2 true ho W)
      clear ho
      have HFw := Lib.hid (HFd.out _ hb1)
      cases hi : idx z0 a1 with
      | none =>
        have HA := Lib.hid (giv_none (z := z0) (o := a2) hi)
        rw [hi, show ix none = -1 from rfl] at HFw
        clear hi
        go_wp2_with fail
        refine (HOf.out _).mono ?_
        rintro e w' ⟨rfl, rfl⟩
        go_wp2_with fail
        refine HFw.out.mono ?_
        rintro e w' ⟨rfl, rfl⟩
        have HO := Lib.hid (Own.start (T := LMember.rec) (E := 97) (w := w1) hb1.size)
        have hbz := hb1.alloc hb1.size (Obj.cells #[] 97)
        go_wp2_with fail
        go_ret2
        exact ⟨_, [], false, rfl, HA.out, HO.out, hbz⟩
      | some kx =>
        have HA := Lib.hid (giv_yes HGd.out HIn.out hi)
        rw [hi, show ix (some kx) = (kx : Int) from rfl] at HFw
        clear hi
        have kx0 : ¬ (kx : Int) < 0 := by omega
        go_wp2_with fail
        refine (HOf.out _).mono ?_
        rintro e w' ⟨rfl, rfl⟩
        go_wp2_with fail
        refine HFw.out.mono ?_
        rintro e w' ⟨rfl, rfl⟩
        have HOs := Lib.hid (Own.start (T := LMember.rec) (E := 97) (w := w1) hb1.size)
        have hbs := hb1.alloc hb1.size (Obj.cells #[] 97)
        clear HG HFd HOf HFw
        go_wp2_with fail
        go_loopw [8, 9] (fun u i wr => ∃ k : Nat, k ≤ n ∧ i = .int .i64 k ∧ Hid (Own LMember.rec 97 wr w.heap.size u (giveL (z0.take k) a1 a2)) ∧ Below w.heap.size w wr) (fun _ i _ => n - (intOf i).toNat)
        case atStart => exact ⟨0, Nat.zero_le _, rfl, HOs, hbs⟩
        case round =>
          clear hbs HOs
          obtain ⟨k, hk, rfl, HO, hb⟩ := hrel
          by_cases hlt : k < n
          · have hx : k < z0.length := by have := HN.out; omega
            have HX := Lib.hid (List.getElem?_eq_getElem hx)
            obtain ⟨q0, q1, q2⟩ := LMember.cells ((HC.out k _ HX.out).below LMember.rec hb hbl)
            simp only [LMember.rec_n] at q0 q1 q2
            have HGN := Lib.hid (give_next z0 a1 a2 k _ HX.out)
            have hlk : (giveL (z0.take k) a1 a2).length = k := by rw [give_len, List.length_take]; omega
            have HLK := Lib.hid hlk
            have hlk2 : (giveL (z0.take k) a1 a2).length ≤ 12 := by omega
            have hws := hb.size
            clear hlk
            generalize z0[k] = X at *
            have HB0 := Lib.hid (LMember.box wr X 97)
            cases e1 : (X.off == a2) with
            | true =>
              cases e2 : (X.num == a1) with
              | true =>
                have HGX := Lib.hid (show g a1 a2 X = ⟨X.num, X.name, a2⟩ by unfold g g1; simp [e1, e2])
                go_wp2_with (at_builtin; refine wpList_append_own _ rfl (.tmp 48) (.tmp 50) 46 rfl w.heap.size 97 i0 (.agg #[.int .i64 0, .string ⟨#[]⟩, .int .i64 0]) 3 32 Try.underlying46 HI0.out HZ0.out.1 HZ0.out.2.1 HZ0.out.2.2 rfl (by decide) _ _ _ rfl (Own.kept HO.out (by (repeat (first | assumption | exact Below.refl _ _ | refine Below.drew ?_ | refine Below.setCell ?_ (by first | (simp; done) | (simp; omega) | omega) _ | refine Below.alloc ?_ (by first | (simp; done) | (simp; omega) | omega) _)))) ⟨_, 0, none⟩ 1 1 [.int .i64 X.num, .string X.name, .int .i64 a2] rfl rfl ?c1 ?c2 ?c3 ?c4 ?c5 ?c6)
                case c1 => first | exact World.news_of_block (heap_alloc_new _ _) | exact World.news_of_block (alloc_two _ _ _)
                case c2 => intro u hu; simp only [List.mem_cons, List.not_mem_nil, or_false] at hu; rcases hu with rfl | rfl | rfl <;> rfl
                case c3 => unfold maxLen; omega
                case c4 => omega
                case c5 => first | (simp; done) | (simp; omega) | omega
                case c6 =>
                  intro v' w2 hown' hgrow _
                  have hb3 : Below w.heap.size w w2 := Below.grown (by (repeat (first | assumption | exact Below.refl _ _ | refine Below.drew ?_ | refine Below.setCell ?_ (by first | (simp; done) | (simp; omega) | omega) _ | refine Below.alloc ?_ (by first | (simp; done) | (simp; omega) | omega) _))) hgrow (by first | (simp; done) | (simp; omega) | omega) (fun j hj => (HO.out.lt j hj).1)
                  have HO2 := Lib.hid (show Own LMember.rec 97 w2 w.heap.size v' (giveL (z0.take (k + 1)) a1 a2) by
                    rw [HGN.out, HGX.out]
                    exact own_of LMember.rec hown' (by simp) (by rw [flat_append]; rfl))
                  clear hown' hgrow
                  go_wp2_with fail
                  go_roundw
                  case rel => exact ⟨k + 1, by omega, by go_num, HO2, hb3⟩
                  case measure => simp [intOf]; omega
              | false =>
                have HGX := Lib.hid (show g a1 a2 X = ⟨X.num, X.name, 0⟩ by unfold g g1; simp [e1, e2])
                go_wp2_with (at_builtin; refine wpList_append_own _ rfl (.tmp 48) (.tmp 50) 46 rfl w.heap.size 97 i0 (.agg #[.int .i64 0, .string ⟨#[]⟩, .int .i64 0]) 3 32 Try.underlying46 HI0.out HZ0.out.1 HZ0.out.2.1 HZ0.out.2.2 rfl (by decide) _ _ _ rfl (Own.kept HO.out (by (repeat (first | assumption | exact Below.refl _ _ | refine Below.drew ?_ | refine Below.setCell ?_ (by first | (simp; done) | (simp; omega) | omega) _ | refine Below.alloc ?_ (by first | (simp; done) | (simp; omega) | omega) _)))) ⟨_, 0, none⟩ 1 1 [.int .i64 X.num, .string X.name, .int .i64 0] rfl rfl ?c1 ?c2 ?c3 ?c4 ?c5 ?c6)
                case c1 => first | exact World.news_of_block (heap_alloc_new _ _) | exact World.news_of_block (alloc_two _ _ _)
                case c2 => intro u hu; simp only [List.mem_cons, List.not_mem_nil, or_false] at hu; rcases hu with rfl | rfl | rfl <;> rfl
                case c3 => unfold maxLen; omega
                case c4 => omega
                case c5 => first | (simp; done) | (simp; omega) | omega
                case c6 =>
                  intro v' w2 hown' hgrow _
                  have hb3 : Below w.heap.size w w2 := Below.grown (by (repeat (first | assumption | exact Below.refl _ _ | refine Below.drew ?_ | refine Below.setCell ?_ (by first | (simp; done) | (simp; omega) | omega) _ | refine Below.alloc ?_ (by first | (simp; done) | (simp; omega) | omega) _))) hgrow (by first | (simp; done) | (simp; omega) | omega) (fun j hj => (HO.out.lt j hj).1)
                  have HO2 := Lib.hid (show Own LMember.rec 97 w2 w.heap.size v' (giveL (z0.take (k + 1)) a1 a2) by
                    rw [HGN.out, HGX.out]
                    exact own_of LMember.rec hown' (by simp) (by rw [flat_append]; rfl))
                  clear hown' hgrow
                  go_wp2_with fail
                  go_roundw
                  case rel => exact ⟨k + 1, by omega, by go_num, HO2, hb3⟩
                  case measure => simp [intOf]; omega
            | false =>
              cases e2 : (X.num == a1) with
              | true =>
                have HGX := Lib.hid (show g a1 a2 X = ⟨X.num, X.name, a2⟩ by unfold g g1; simp [e1, e2])
                go_wp2_with (at_builtin; refine wpList_append_own _ rfl (.tmp 48) (.tmp 50) 46 rfl w.heap.size 97 i0 (.agg #[.int .i64 0, .string ⟨#[]⟩, .int .i64 0]) 3 32 Try.underlying46 HI0.out HZ0.out.1 HZ0.out.2.1 HZ0.out.2.2 rfl (by decide) _ _ _ rfl (Own.kept HO.out (by (repeat (first | assumption | exact Below.refl _ _ | refine Below.drew ?_ | refine Below.setCell ?_ (by first | (simp; done) | (simp; omega) | omega) _ | refine Below.alloc ?_ (by first | (simp; done) | (simp; omega) | omega) _)))) ⟨_, 0, none⟩ 1 1 [.int .i64 X.num, .string X.name, .int .i64 a2] rfl rfl ?c1 ?c2 ?c3 ?c4 ?c5 ?c6)
                case c1 => first | exact World.news_of_block (heap_alloc_new _ _) | exact World.news_of_block (alloc_two _ _ _)
                case c2 => intro u hu; simp only [List.mem_cons, List.not_mem_nil, or_false] at hu; rcases hu with rfl | rfl | rfl <;> rfl
                case c3 => unfold maxLen; omega
                case c4 => omega
                case c5 => first | (simp; done) | (simp; omega) | omega
                case c6 =>
                  intro v' w2 hown' hgrow _
                  have hb3 : Below w.heap.size w w2 := Below.grown (by (repeat (first | assumption | exact Below.refl _ _ | refine Below.drew ?_ | refine Below.setCell ?_ (by first | (simp; done) | (simp; omega) | omega) _ | refine Below.alloc ?_ (by first | (simp; done) | (simp; omega) | omega) _))) hgrow (by first | (simp; done) | (simp; omega) | omega) (fun j hj => (HO.out.lt j hj).1)
                  have HO2 := Lib.hid (show Own LMember.rec 97 w2 w.heap.size v' (giveL (z0.take (k + 1)) a1 a2) by
                    rw [HGN.out, HGX.out]
                    exact own_of LMember.rec hown' (by simp) (by rw [flat_append]; rfl))
                  clear hown' hgrow
                  go_wp2_with fail
                  go_roundw
                  case rel => exact ⟨k + 1, by omega, by go_num, HO2, hb3⟩
                  case measure => simp [intOf]; omega
              | false =>
                have HGX := Lib.hid (show g a1 a2 X = ⟨X.num, X.name, X.off⟩ by unfold g g1; simp [e1, e2])
                go_wp2_with (at_builtin; refine wpList_append_own _ rfl (.tmp 48) (.tmp 50) 46 rfl w.heap.size 97 i0 (.agg #[.int .i64 0, .string ⟨#[]⟩, .int .i64 0]) 3 32 Try.underlying46 HI0.out HZ0.out.1 HZ0.out.2.1 HZ0.out.2.2 rfl (by decide) _ _ _ rfl (Own.kept HO.out (by (repeat (first | assumption | exact Below.refl _ _ | refine Below.drew ?_ | refine Below.setCell ?_ (by first | (simp; done) | (simp; omega) | omega) _ | refine Below.alloc ?_ (by first | (simp; done) | (simp; omega) | omega) _)))) ⟨_, 0, none⟩ 1 1 [.int .i64 X.num, .string X.name, .int .i64 X.off] rfl rfl ?c1 ?c2 ?c3 ?c4 ?c5 ?c6)
                case c1 => first | exact World.news_of_block (heap_alloc_new _ _) | exact World.news_of_block (alloc_two _ _ _)
                case c2 => intro u hu; simp only [List.mem_cons, List.not_mem_nil, or_false] at hu; rcases hu with rfl | rfl | rfl <;> rfl
                case c3 => unfold maxLen; omega
                case c4 => omega
                case c5 => first | (simp; done) | (simp; omega) | omega
                case c6 =>
                  intro v' w2 hown' hgrow _
                  have hb3 : Below w.heap.size w w2 := Below.grown (by (repeat (first | assumption | exact Below.refl _ _ | refine Below.drew ?_ | refine Below.setCell ?_ (by first | (simp; done) | (simp; omega) | omega) _ | refine Below.alloc ?_ (by first | (simp; done) | (simp; omega) | omega) _))) hgrow (by first | (simp; done) | (simp; omega) | omega) (fun j hj => (HO.out.lt j hj).1)
                  have HO2 := Lib.hid (show Own LMember.rec 97 w2 w.heap.size v' (giveL (z0.take (k + 1)) a1 a2) by
                    rw [HGN.out, HGX.out]
                    exact own_of LMember.rec hown' (by simp) (by rw [flat_append]; rfl))
                  clear hown' hgrow
                  go_wp2_with fail
                  go_roundw
                  case rel => exact ⟨k + 1, by omega, by go_num, HO2, hb3⟩
                  case measure => simp [intOf]; omega
          · have hkn : z0.take k = z0 := List.take_of_length_le (by have := HN.out; omega)
            have HO2 := Lib.hid (show Own LMember.rec 97 wr w.heap.size _ (giveL z0 a1 a2) by have := HO.out; rw [hkn] at this; exact this)
            clear hkn HO
            go_wp2_with fail
            go_ret2
            exact ⟨_, _, true, rfl, HA.out, HO2.out, hb⟩
theorem set_same {z : List M} {k : Nat} {X : M} (h : z[k]? = some X) : z.set k X = z := by
  obtain ⟨hk, rfl⟩ := List.getElem?_eq_some_iff.1 h
  exact List.set_getElem_self hk
/-- what the copy holds after k rounds -/
def mid (z : List M) (o : Int) (k : Nat) : List M := (z.take k).map (g1 o) ++ z.drop k
theorem mid_len (z : List M) (o : Int) (k : Nat) (h : k ≤ z.length) : (mid z o k).length = z.length := by simp [mid]; omega
theorem mid_at (z : List M) (o : Int) (k : Nat) (h : k < z.length) : (mid z o k)[k]? = some z[k] := by
  unfold mid
  have hl : ((z.take k).map (g1 o)).length = k := by simp; omega
  rw [List.getElem?_append_right (by omega), hl, Nat.sub_self, List.getElem?_drop, Nat.add_zero, List.getElem?_eq_getElem h]
theorem mid_next (z : List M) (o : Int) (k : Nat) (h : k < z.length) : (mid z o k).set k (g1 o z[k]) = mid z o (k + 1) := by
  unfold mid
  have hl : ((z.take k).map (g1 o)).length = k := by simp; omega
  rw [List.set_append_right _ _ (by omega), hl, Nat.sub_self, List.drop_eq_getElem_cons h, List.set_cons_zero, List.take_succ_eq_append_getElem h, List.map_append, List.append_assoc]
  rfl
theorem mid_all (z : List M) (o : Int) (k : Nat) (h : z.length ≤ k) : mid z o k = z.map (g1 o) := by unfold mid; rw [List.take_of_length_le h, List.drop_eq_nil_of_le h, List.append_nil]
theorem mid_zero (z : List M) (o : Int) : mid z o 0 = z := by simp [mid]
theorem put_off {w : World} {A g n cap : Nat} {ys : List M} (hn : ys.length = n) (h : LMember.OwnR w A g n cap ys) (k : Nat) (r : M) (x : Int) (hr : ys[k]? = some r) :
    LMember.OwnR (w.setCell ⟨g, k * 3 + 2, none⟩ (.int .i64 x)) A g n cap (ys.set k { r with off := x }) :=
  Own.put hn h k 2 r { r with off := x } (.int .i64 x) hr (by decide) rfl
set_option maxRecDepth 100000 in
set_option maxHeartbeats 3200000 in
theorem impl (v0 : Value) (z0 : List LMember.R) (a1 a2 : Int) (w : World) (h0 : IsS LMember.rec w v0 z0) (f0 : ∀ x ∈ z0, LMember.Fine x) (l0 : z0.length ≤ 1048576) :
    Calls Try.prog 30 #[v0, .int .i64 a1, .int .i64 a2] w (Post z0 a1 a2 w) := by
  have h1 := IsS.is LMember.rec h0
  have HAt := Lib.hid (memberAt v0 z0 a1 w h1 f0)
  have HCl := Lib.hid (fun W (hb : Below w.heap.size w W) => LMember.clone v0 z0 W (h1.below LMember.rec hb) l0)
  obtain ⟨b, o, cp, rfl, _⟩ := h0
  obtain ⟨n, hn⟩ : ∃ n, n = z0.length := ⟨_, rfl⟩
  have HN := Lib.hid hn.symm
  rw [← hn] at HAt HCl l0 ⊢
  clear hn h1 f0
  go_enter Try.func30, Try.ntmps30
  go_wp2_with fail
  refine HAt.out.mono ?_
  rintro e w1 ⟨r0, r1, rfl, hA, hb1⟩
  clear HAt
  rcases hA with ⟨k, hg, hi, rfl, rfl⟩ | ⟨hno, rfl, rfl⟩
  · cases ho : inB a2 0 3 with
    | false =>
      have HA := Lib.hid (giv_off (z := z0) (n := a1) ho)
      have HOf := Lib.hid (fun W => ioffice_as a2 false ho W)
      clear ho hg hi
      go_wp2_with fail
      refine (HOf.out _).mono ?_
      rintro e w' ⟨rfl, rfl⟩
      have HO := Lib.hid (Own.start (T := LMember.rec) (E := 97) (w := w1) hb1.size)
      have hbz := hb1.alloc hb1.size (Obj.cells #[] 97)
      go_wp2_with fail
      go_ret2
      exact ⟨_, [], false, rfl, HA.out, HO.out, hbz⟩
    | true =>
      have HOf := Lib.hid (fun W => ioffice_as a2 true ho W)
      have HA := Lib.hid (giv_yes hg ho hi)
      obtain ⟨X, hX, _⟩ := idx_some hi
      have HGS := Lib.hid (give_set (o := a2) hg hi hX)
      have hk : k < n := by have := (List.getElem?_eq_some_iff.1 hX).1; have := HN.out; omega
      have h12 : n ≤ 12 := by have := (good_of hg).1; have := HN.out; omega
      have HX := Lib.hid hX
      clear hX hi hg ho
      have k0 : 0 ≤ (k : Int) := by omega
      have k1 : (k : Int) < (n : Int) := by omega
      go_wp2_with fail
      refine (HOf.out _).mono ?_
      rintro e w' ⟨rfl, rfl⟩
      go_wp2_with fail
      refine (HCl.out _ hb1).mono ?_
      rintro e w2 ⟨u, rfl, hu, hb2⟩
      have hb3 := hb1.trans (hb2.mono hb1.size)
      rcases hu.shape with ⟨rfl, hz⟩ | ⟨g, cap, rfl, hg1, hg2, hcap, hcm⟩
      · have := HN.out; rw [hz] at this; simp at this; omega
      have HO0 := Lib.hid (show LMember.OwnR w2 w.heap.size g n cap (mid z0 a2 0) by rw [mid_zero, ← HN.out]; exact hu.low hb1.size)
      have hgw : w.heap.size ≤ g := by have := hb1.size; omega
      rw [show z0.length = n from HN.out] at hcap ⊢
      unfold maxLen at hcm
      clear hu hg1 hg2 hb2 HCl HOf
      go_wp2_with fail
      go_loopw [30] (fun i wr => ∃ j : Nat, j ≤ n ∧ i = .int .i64 j ∧ Hid (LMember.OwnR wr w.heap.size g n cap (mid z0 a2 j)) ∧ Below w.heap.size w wr) (fun i _ => n - (intOf i).toNat)
      case atStart => exact ⟨0, Nat.zero_le _, rfl, HO0, hb3⟩
      case round =>
        clear HO0 hb3
        obtain ⟨j, hj, rfl, HO, hb⟩ := hrel
        by_cases hlt : j < n
        · have hx : j < z0.length := by have := HN.out; omega
          have HLn := Lib.hid (show (mid z0 a2 j).length = n by rw [mid_len _ _ _ (by omega)]; exact HN.out)
          have HMA := Lib.hid (mid_at z0 a2 j hx)
          have HMN := Lib.hid (mid_next z0 a2 j hx)
          obtain ⟨q0, q1, q2⟩ := LMember.cells (HO.out.at_ j _ HMA.out)
          simp only [LMember.rec_n] at q0 q1 q2
          have hf := Own.frozen HLn.out HO.out
          have HP := Lib.hid (fun x => put_off HLn.out HO.out j _ x HMA.out)
          have j0 : 0 ≤ (j : Int) := by omega
          have j1 : (j : Int) < (n : Int) := by omega
          generalize z0[j] = Y at *
          cases e1 : (Y.off == a2) with
          | true =>
            have HO2 := Lib.hid (show LMember.OwnR (wr.setCell ⟨g, j * 3 + 2, none⟩ (.int .i64 0)) w.heap.size g n cap (mid z0 a2 (j + 1)) by
              rw [← HMN.out, show g1 a2 Y = { Y with off := 0 } by unfold g1; rw [if_pos e1]]; exact HP.out 0)
            have hb4 : Below w.heap.size w (wr.setCell ⟨g, j * 3 + 2, none⟩ (.int .i64 0)) := hb.setCell hgw _
            go_wp2_with fail
            go_roundw
            case rel => exact ⟨j + 1, by omega, by go_num, HO2, hb4⟩
            case measure => simp [intOf]; omega
          | false =>
            have HO2 := Lib.hid (show LMember.OwnR wr w.heap.size g n cap (mid z0 a2 (j + 1)) by
              rw [← HMN.out, show g1 a2 Y = Y by unfold g1; rw [e1]; rfl, set_same HMA.out]; exact HO.out)
            go_wp2_with fail
            go_roundw
            case rel => exact ⟨j + 1, by omega, by go_num, HO2, hb⟩
            case measure => simp [intOf]; omega
        · have HM := Lib.hid (mid_all z0 a2 j (by have := HN.out; omega))
          rw [HM.out] at HO
          have HLn := Lib.hid (show (z0.map (g1 a2)).length = n by rw [List.length_map]; exact HN.out)
          have HMA := Lib.hid (show (z0.map (g1 a2))[k]? = some (g1 a2 X) by rw [List.getElem?_map, HX.out]; rfl)
          obtain ⟨q0, q1, q2⟩ := LMember.cells (HO.out.at_ k _ HMA.out)
          simp only [LMember.rec_n] at q0 q1 q2
          have hf := Own.frozen HLn.out HO.out
          have HO2 := Lib.hid (show Own LMember.rec 97 (wr.setCell ⟨g, k * 3 + 2, none⟩ (.int .i64 a2)) w.heap.size (.slice (some ⟨g, 0, none⟩) n cap) (giveL z0 a1 a2) by
            rw [← HGS.out]; exact put_off HLn.out HO.out k _ a2 HMA.out)
          have hb4 : Below w.heap.size w (wr.setCell ⟨g, k * 3 + 2, none⟩ (.int .i64 a2)) := hb.setCell hgw _
          go_wp2_with fail
          go_ret2
          exact ⟨_, _, true, rfl, HA.out, HO2.out, hb4⟩
  · have HA := Lib.hid (show givA z0 a1 a2 = ([], false) from hno.elim giv_bad giv_none)
    clear hno
    have HO := Lib.hid (Own.start (T := LMember.rec) (E := 97) (w := w1) hb1.size)
    have hbz := hb1.alloc hb1.size (Obj.cells #[] 97)
    go_wp2_with fail
    go_ret2
    exact ⟨_, [], false, rfl, HA.out, HO.out, hbz⟩
end Go.Proofs.Ytbnkpkneccgfnaa.GiveOfficeC
