/- The draw of a list of members. No condition. -/
import Derived.Test.YtneecokjhmnagaaDoorDrawM
import Derived.Test.YtneecokjhmnagaaDoorJ1
namespace Go.Proofs.YtneecokjhmnagaaDoor.Draw
open Go.RowKit Cur Bs Mem
set_option linter.unusedVariables false
def Short (z : List M) : Prop := ∀ x ∈ z, x.name.size ≤ 10
theorem short_snoc {z : List M} {r : M} (h : Short z) (hr : r.name.size ≤ 10) : Short (z ++ [r]) := fun x hx => by
  rcases List.mem_append.1 hx with hx | hx
  · exact h x hx
  · rw [List.mem_singleton.1 hx]; exact hr
theorem short_fine {z : List M} (h : Short z) : ∀ x ∈ z, LMember.Fine x := fun x hx => by have := h x hx; show x.name.size ≤ maxLen; unfold maxLen; omega
theorem own_some {w : World} {A : Nat} {v : Value} {z : List M} {r : M} (h : Own LMember.rec 60 w A v (z ++ [r])) : ∃ g, v.ownBlock = some g := by
  rcases h.shape with ⟨_, h0⟩ | ⟨g, cap, rfl, _⟩
  · simp at h0
  · exact ⟨g, rfl⟩
/-- a list of members of the call's own -/
def MsOf (w : World) (B m : Nat) (e : Ending) (w' : World) : Prop := ∃ (v : Value) (z : List M), e = .returned v ∧ Own LMember.rec 60 w' w.heap.size v z ∧ (∃ g, v.ownBlock = some g) ∧ Short z ∧ z.length ≤ 14 ∧ Cur w' B m ∧ w.grownBy w' (some B)
def letter (j : Nat) : UInt8 := UInt8.ofNat (97 + j)
theorem letter_int (j : Nat) (hj : j ≤ 20) : ((letter j).toNat : Int) = 97 + (j : Int) := by unfold letter; rw [UInt8.toNat_ofNat']; omega
theorem name_conv (W : World) (j : Nat) (hj : j ≤ 20) : (convert 22 9 (.slice (some ⟨W.heap.size, 0, none⟩) 1 1)).run Tryd.prog (W.alloc (.cells #[.int .u8 (97 + (j : Int))] 5)) = .ok (.string ⟨#[letter j]⟩) (W.alloc (.cells #[.int .u8 (97 + (j : Int))] 5)) := by
  refine run_convert_bytes_back _ 22 9 5 ⟨W.heap.size, 0, none⟩ 1 [letter j] Tryd.underlying22 Tryd.underlying5 Tryd.underlying9 (fun i hi => ?_)
  have : i = 0 := by simpa using hi
  subst this
  have h2 := cell_one_new W (.int .u8 (97 + (j : Int))) 5 0 _ rfl
  rw [h2]
  show some (Value.int .u8 (97 + (j : Int))) = some (Value.int .u8 ((letter j).toNat : Int))
  rw [letter_int j hj]
set_option maxRecDepth 100000 in
set_option maxHeartbeats 3200000 in
theorem members (B m : Nat) (w : World) (h : Cur w B m) (hm : m < 700000) : Calls Tryd.prog 29 #[.pointer (some ⟨B, 0, none⟩)] w (MsOf w B (m + 200)) := by
  have hB := h.lt
  obtain ⟨i0, hi, hz0, hz1, hz2⟩ := info_parts LMember.infoK
  have HI0 := Lib.hid hi
  have HZ0 := Lib.hid (And.intro hz0 (And.intro hz1 hz2))
  clear hi hz0 hz1 hz2
  have HC0 := Lib.hid (cur_alloc h (.cells #[] 60))
  have HO0 := Lib.hid (Own.start (T := LMember.rec) (E := 60) (w := w) (Nat.le_refl _))
  have hg0 := grown_alloc w (.cells #[] 60) (some B)
  clear h
  go_enter Tryd.func29, Tryd.ntmps29
  go_wp2_with fail
  have hz0 : w.heap.size + 1 = (w.alloc (.cells #[] 60)).heap.size := by simp
  generalize w.alloc (.cells #[] 60) = W0 at *
  have HL := Lib.hid (among_at B m (w.heap.size + 1) [1, 1, 2, 90] W0 hz0 HC0.out (by omega) (by decide) (by decide))
  clear hz0
  refine HL.out.mono ?_
  rintro e w1 ⟨nm, hnm, rfl, hc1, hg1⟩
  have hn0 : 1 ≤ nm ∧ nm ≤ 90 := by simp at hnm; omega
  have HO1 := Lib.hid (own_grown HO0.out hg1 hB)
  have hgg1 := grown_trans hg0 hg1
  have HC1 := Lib.hid hc1
  clear hnm HL hc1 hg1 HO0 hg0 HC0
  go_wp2_with fail
  refine (pick B _ 8 _ HC1.out (by omega) (by omega) (by omega)).mono ?_
  rintro e w2 ⟨q, rfl, q0, q1, hc2, hg2⟩
  obtain ⟨q, rfl⟩ := Int.eq_ofNat_of_zero_le q0
  have HO2 := Lib.hid (own_grown HO1.out hg2 hB)
  have hgg2 := grown_trans hgg1 hg2
  have HC2 := Lib.hid hc2
  clear hc2 hg2 HO1 hgg1 HC1 W0
  go_wp2_with fail
  go_loopw [3, 4, 5] (fun u a b wr => ∃ (q c : Nat) (nm : Int) (z : List M), q ≤ 7 ∧ b = .int .i64 q ∧ a = .int .i64 nm ∧ 1 ≤ nm ∧ nm + 3 * q ≤ 120 ∧ Hid (Own LMember.rec 60 wr w.heap.size u z) ∧ Hid (∃ g, u.ownBlock = some g) ∧ Hid (Short z) ∧ z.length + q ≤ 7 ∧ Hid (Cur wr B c) ∧ c + 14 * q ≤ m + 110 ∧ w.grownBy wr (some B)) (fun _ _ b _ => (intOf b).toNat)
  case atStart => exact ⟨q, m + 4, nm, [], by omega, rfl, rfl, by omega, by omega, HO2, Lib.hid ⟨_, rfl⟩, Lib.hid (fun x hx => by cases hx), by simp; omega, HC2, by omega, hgg2⟩
  case round =>
    clear HO2 hgg2 HC2 hn0 q0 q1
    obtain ⟨q, c, nm, z, hq, rfl, rfl, hn1, hn2, HO, HNn, HSh, hzl, HC, hc, hgw⟩ := hrel
    have hws := grown_size hgw
    by_cases hpos : 0 < q
    · obtain ⟨q, rfl⟩ : ∃ p, q = p + 1 := ⟨q - 1, by omega⟩
      rcases HO.out.shape with ⟨rfl, hz⟩ | ⟨g, cap, rfl, hg1, hg2, hcap, hcm⟩
      · obtain ⟨g, hg⟩ := HNn.out; cases hg
      unfold maxLen at hcm
      obtain ⟨l, hl⟩ : ∃ l, l = z.length := ⟨_, rfl⟩
      have HLn := Lib.hid hl.symm
      rw [← hl] at HO HNn hzl hcap ⊢
      clear hl
      have hqi : (0 : Int) < (q : Int) + 1 := by omega
      have HSt := Lib.hid (LMember.startB (A := wr.heap.size) (heap_alloc_new wr (.cells #[] 60)) (Nat.le_refl _))
      have hfl : Hid (∀ j u, (flat LMember.rec z)[j]? = some u → (wr.alloc (.cells #[] 60)).cell? (Addr.add ⟨g, 0, none⟩ j) = some u) := Lib.hid (fun j u hu => by
        have := World.ownsRow.cells HO.out (g := g) rfl j u hu
        rw [Go.WideShapes.add_plain] at this ⊢
        rw [((Below.refl wr.heap.size wr).alloc (Nat.le_refl _) _).cell (p := ⟨g, 0 + j, none⟩) hg2]
        exact this)
      go_wp2_with (at_builtin; refine wpList_append_own _ rfl (.tmp 18) (.tmp 19) 24 rfl wr.heap.size 60 i0 (.agg #[.int .i64 0, .string ⟨#[]⟩, .int .i64 0]) 3 32 Tryd.underlying24 HI0.out HZ0.out.1 HZ0.out.2.1 HZ0.out.2.2 rfl (by decide) _ _ _ rfl (HSt.out) (⟨g, 0, none⟩) (l) (cap) (flat LMember.rec (z)) rfl ?p0 (hfl.out) (flat_one _ _) ?p3 ?p4 ?p5 ?p6)
      case p0 => rw [flat_len, LMember.rec_n]; have := HLn.out; omega
      case p3 => unfold maxLen; omega
      case p4 => omega
      case p5 => first | (simp; done) | (simp; omega) | omega
      case p6 =>
        intro v1 w1 hown1 hgrow1 _
        have hB1 : Below wr.heap.size wr w1 := ((Below.refl wr.heap.size wr).alloc (Nat.le_refl _) _).grown hgrow1 (by simp) (fun j hj => by have := own_ge hj (Nat.le_refl _); omega)
        have HO1 := Lib.hid (HO.out.kept hB1)
        have HV1 := Lib.hid (show Own LMember.rec 60 w1 wr.heap.size v1 z from own_of LMember.rec hown1 (by have := HLn.out; omega) (by simp))
        have hgw1 := grown_of_below hgw hB1
        have HC1 := Lib.hid (HC.out.kept hB1)
        clear hown1 hgrow1 hfl HSt HO HC hgw
        go_wp2_with fail
        refine (memberOf B c nm _ HC1.out (by omega)).mono ?_
        rintro e w2 ⟨r, rfl, hrs, hc2, hgr2⟩
        have HO2 := Lib.hid (own_grown HO1.out hgr2 hB)
        have HV2 := Lib.hid (own_grown HV1.out hgr2 (Nat.lt_of_lt_of_le hB hws))
        have hgw2 := grown_trans hgw1 hgr2
        have HC2 := Lib.hid hc2
        have HS2 := Lib.hid (short_snoc HSh.out hrs)
        have hws2 := grown_size hgw2
        have hwr2 : wr.heap.size ≤ w2.heap.size := Nat.le_trans hB1.size (grown_size hgr2)
        have hl12 : z.length ≤ 7 := by have := HLn.out; omega
        clear hc2 hgr2 HO1 HV1 HC1 hB1 hgw1
        go_wp2_with (at_builtin; refine wpList_append_own _ rfl (.tmp 20) (.tmp 24) 24 rfl wr.heap.size 60 i0 (.agg #[.int .i64 0, .string ⟨#[]⟩, .int .i64 0]) 3 32 Tryd.underlying24 HI0.out HZ0.out.1 HZ0.out.2.1 HZ0.out.2.2 rfl (by decide) _ _ _ rfl (Own.alloc HV2.out _) ⟨_, 0, none⟩ 1 1 [.int .i64 r.num, .string r.name, .int .i64 r.off] rfl rfl ?s1 ?s2 ?s3 ?s4 ?s5 ?s6)
        case s1 => first | exact World.news_of_block (heap_alloc_new _ _) | exact World.news_of_block (alloc_two _ _ _)
        case s2 => intro u hu; simp only [List.mem_cons, List.not_mem_nil, or_false] at hu; rcases hu with rfl | rfl | rfl <;> rfl
        case s3 => unfold maxLen; omega
        case s4 => omega
        case s5 => first | (simp; done) | (simp; omega) | omega
        case s6 =>
          intro v2 w3 hown2 hgrow2 _
          have HO3 := Lib.hid ((HO2.out.alloc (.cells #[.int .i64 r.num, .string r.name, .int .i64 r.off] 60)).same (w' := w3) (fun k hk => hgrow2.block k ((HO2.out.alloc _).lt k hk).2 (fun e => by
            have h1 := (HV2.out.lt k e.symm).1
            simp only [Value.ownBlock, Option.some.injEq] at hk
            omega)))
          have HV3 := Lib.hid (show Own LMember.rec 60 w3 wr.heap.size v2 (z ++ [r]) from own_of LMember.rec hown2 (by simp) (by rw [flat_append]; rfl))
          have HC3 := Lib.hid (cur_own (cur_alloc HC2.out (.cells #[.int .i64 r.num, .string r.name, .int .i64 r.off] 60)) hgrow2 (fun k hk => by have := (HV2.out.lt k hk).1; omega))
          have hgw3 := grown_own (grown_trans hgw2 (grown_alloc w2 (.cells #[.int .i64 r.num, .string r.name, .int .i64 r.off] 60) (some B))) hgrow2 (fun k hk => by have := (HV2.out.lt k hk).1; omega)
          clear hown2 hgrow2 HO2 HV2 HC2 hgw2
          go_wp2_with fail
          refine (MemG.l3Good v2 (z ++ [r]) _ HV3.out.is (short_fine HS2.out)).mono ?_
          rintro e w4 ⟨rfl, hb4⟩
          have HO4 := Lib.hid (HO3.out.kept hb4)
          have HV4 := Lib.hid (HV3.out.kept hb4)
          have HC4 := Lib.hid (HC3.out.kept hb4)
          have hgw4 := grown_of_below hgw3 hb4
          clear HO3 HV3 HC3 hgw3 hb4
          cases hgood : goodB (z ++ [r]) with
          | true =>
            go_wp2_with fail
            refine (pick B _ 3 _ HC4.out (by omega) (by omega) (by omega)).mono ?_
            rintro e w5 ⟨d, rfl, d0, d1, hc5, hgr5⟩
            have HV5 := Lib.hid (Own.low (own_grown HV4.out hgr5 (Nat.lt_of_lt_of_le hB hws)) hws)
            have hgw5 := grown_trans hgw4 hgr5
            have HC5 := Lib.hid hc5
            have HN5 := Lib.hid (own_some HV4.out)
            clear hc5 hgr5 HO4 HV4 HC4 hgw4 hgood
            go_wp2_with fail
            go_roundw
            case rel => exact ⟨q, c + 12 + 2, nm + 1 + d, z ++ [r], by omega, by first | go_num | (congr 1; omega), rfl, by omega, by omega, HV5, HN5, HS2, by have := HLn.out; simp; omega, HC5, by omega, hgw5⟩
            case measure => simp [intOf]
          | false =>
            clear hgood HV4
            go_wp2_with fail
            go_roundw
            case rel => exact ⟨q, c + 12, nm, z, by omega, by first | go_num | (congr 1; omega), rfl, hn1, by omega, HO4, HNn, HSh, by have := HLn.out; omega, HC4, by omega, hgw4⟩
            case measure => simp [intOf]
    · obtain rfl : q = 0 := by omega
      go_wp2_with fail
      refine (pick B c 24 _ HC.out (by omega) (by omega) (by omega)).mono ?_
      rintro e w3 ⟨s, rfl, s0, s1, hc3, hgr3⟩
      have HO3 := Lib.hid (own_grown HO.out hgr3 hB)
      have hgw3 := grown_trans hgw hgr3
      have HC3 := Lib.hid hc3
      have hws3 := grown_size hgw3
      clear hc3 hgr3 HO HC hgw
      cases e1 : (s == 0) with
      | true =>
        go_wp2_with fail
        refine (pick B _ 4 _ HC3.out (by omega) (by omega) (by omega)).mono ?_
        rintro e w4 ⟨d, rfl, d0, d1, hc4, hgr4⟩
        have HO4 := Lib.hid (own_grown HO3.out hgr4 hB)
        have hgw4 := grown_trans hgw3 hgr4
        have HC4 := Lib.hid hc4
        clear hc4 hgr4 HO3 HC3 hgw3
        go_wp2_with fail
        refine (memberOf B _ _ _ HC4.out (by omega)).mono ?_
        rintro e w5 ⟨r, rfl, hrs, hc5, hgr5⟩
        have HO5 := Lib.hid (own_grown HO4.out hgr5 hB)
        have hgw5 := grown_trans hgw4 hgr5
        have HC5 := Lib.hid hc5
        have HS5 := Lib.hid (short_snoc HSh.out hrs)
        have hws5 := grown_size hgw5
        clear hc5 hgr5 HO4 HC4 hgw4
        go_wp2_with (at_builtin; refine wpList_append_own _ rfl (.tmp 38) (.tmp 45) 24 rfl w.heap.size 60 i0 (.agg #[.int .i64 0, .string ⟨#[]⟩, .int .i64 0]) 3 32 Tryd.underlying24 HI0.out HZ0.out.1 HZ0.out.2.1 HZ0.out.2.2 rfl (by decide) _ _ _ rfl (Own.alloc HO5.out _) ⟨_, 0, none⟩ 1 1 [.int .i64 r.num, .string r.name, .int .i64 r.off] rfl rfl ?t1 ?t2 ?t3 ?t4 ?t5 ?t6)
        case t1 => first | exact World.news_of_block (heap_alloc_new _ _) | exact World.news_of_block (alloc_two _ _ _)
        case t2 => intro u hu; simp only [List.mem_cons, List.not_mem_nil, or_false] at hu; rcases hu with rfl | rfl | rfl <;> rfl
        case t3 => unfold maxLen; omega
        case t4 => omega
        case t5 => first | (simp; done) | (simp; omega) | omega
        case t6 =>
          intro v2 w6 hown2 hgrow2 _
          have HV6 := Lib.hid (show Own LMember.rec 60 w6 w.heap.size v2 (z ++ [r]) from own_of LMember.rec hown2 (by simp) (by rw [flat_append]; rfl))
          have HC6 := Lib.hid (cur_own (cur_alloc HC5.out (.cells #[.int .i64 r.num, .string r.name, .int .i64 r.off] 60)) hgrow2 (fun k hk => by have := (HO5.out.lt k hk).1; omega))
          have hgw6 := grown_own (grown_trans hgw5 (grown_alloc w5 (.cells #[.int .i64 r.num, .string r.name, .int .i64 r.off] 60) (some B))) hgrow2 (fun k hk => (HO5.out.lt k hk).1)
          clear hown2 hgrow2
          go_wp2_with fail
          go_ret
          exact ⟨v2, z ++ [r], rfl, HV6.out, own_some HV6.out, HS5.out, by simp; omega, HC6.out.mono (by omega), hgw6⟩
      | false =>
        cases e2 : (s == 1) with
        | true =>
          have HOs := Lib.hid (Own.start (T := LMember.rec) (E := 60) (w := w3) hws3)
          have HCs := Lib.hid (cur_alloc HC3.out (.cells #[] 60))
          have hgs := grown_trans hgw3 (grown_alloc w3 (.cells #[] 60) (some B))
          go_wp2_with fail
          generalize w3.alloc (.cells #[] 60) = W3 at *
          generalize w3.heap.size = G3 at *
          go_loopw [3, 7] (fun u a wr => ∃ (j c : Nat) (z : List M), 1 ≤ j ∧ j ≤ 14 ∧ a = .int .i64 j ∧ Hid (Own LMember.rec 60 wr w.heap.size u z) ∧ Hid (∃ g, u.ownBlock = some g) ∧ Hid (Short z) ∧ z.length + 1 = j ∧ Hid (Cur wr B c) ∧ c + 2 * (15 - j) ≤ m + 190 ∧ w.grownBy wr (some B)) (fun _ a _ => 14 - (intOf a).toNat)
          case atStart => exact ⟨1, c + 2, [], Nat.le_refl _, by omega, rfl, HOs, Lib.hid ⟨_, rfl⟩, Lib.hid (fun x hx => by cases hx), rfl, HCs, by omega, hgs⟩
          case round =>
            clear HOs HCs hgs HO3 HC3 HSh HNn hzl
            obtain ⟨j, c, z, hj1, hj2, rfl, HO, HNn, HSh, hzl, HC, hc, hgw⟩ := hrel
            go_wp2_with fail
            refine (pick B c 2 _ HC.out (by omega) (by omega) (by omega)).mono ?_
            rintro e w4 ⟨d, rfl, d0, d1, hc4, hgr4⟩
            have HO4 := Lib.hid (own_grown HO.out hgr4 hB)
            have hgw4 := grown_trans hgw hgr4
            have HC4 := Lib.hid hc4
            have hws4 := grown_size hgw4
            have d2 : 12 + d ≤ 13 := by omega
            have d3 : 0 ≤ 12 + d := by omega
            clear hc4 hgr4 HO HC hgw
            by_cases hjd : (j : Int) ≤ 12 + d
            · have hcv := name_conv w4 j (by omega)
              have j0 : 0 ≤ (j : Int) := by omega
              have j13 : (j : Int) ≤ 13 := by omega
              have hS4 := Lib.hid (short_snoc (r := ⟨j, ⟨#[110]⟩ ++ ⟨#[letter j]⟩, 0⟩) HSh.out (by show (_ : ByteArray).size ≤ 10; rw [ByteArray.size_append]; show (1 : Nat) + 1 ≤ 10; decide))
              go_wp2_with (at_builtin; refine wpList_append_own _ rfl (.tmp 57) (.tmp 66) 24 rfl w.heap.size 60 i0 (.agg #[.int .i64 0, .string ⟨#[]⟩, .int .i64 0]) 3 32 Tryd.underlying24 HI0.out HZ0.out.1 HZ0.out.2.1 HZ0.out.2.2 rfl (by decide) _ _ _ rfl (Own.alloc (Own.alloc HO4.out _) _) ⟨_, 0, none⟩ 1 1 [.int .i64 (j : Int), .string (⟨#[110]⟩ ++ ⟨#[letter j]⟩), .int .i64 0] rfl rfl ?u1 ?u2 ?u3 ?u4 ?u5 ?u6)
              case u1 => first | exact World.news_of_block (heap_alloc_new _ _) | exact World.news_of_block (alloc_two _ _ _)
              case u2 => intro u hu; simp only [List.mem_cons, List.not_mem_nil, or_false] at hu; rcases hu with rfl | rfl | rfl <;> rfl
              case u3 => unfold maxLen; omega
              case u4 => omega
              case u5 => first | (simp; done) | (simp; omega) | omega
              case u6 =>
                intro v2 w6 hown2 hgrow2 _
                have HV6 := Lib.hid (show Own LMember.rec 60 w6 w.heap.size v2 (z ++ [⟨j, ⟨#[110]⟩ ++ ⟨#[letter j]⟩, 0⟩]) from own_of LMember.rec hown2 (by rw [List.length_append, List.length_singleton]; omega) (by rw [flat_append]; rfl))
                have HC6 := Lib.hid (cur_own (cur_alloc (cur_alloc HC4.out _) _) hgrow2 (fun k hk => by have := (HO4.out.lt k hk).1; omega))
                have hgw6 := grown_own (grown_trans (grown_trans hgw4 (grown_alloc w4 _ (some B))) (grown_alloc _ _ (some B))) hgrow2 (fun k hk => (HO4.out.lt k hk).1)
                have HN6 := Lib.hid (own_some HV6.out)
                clear hown2 hgrow2 hcv
                go_wp2_with fail
                go_roundw
                case rel => exact ⟨j + 1, c + 2, _, by omega, by omega, by go_num, HV6, HN6, hS4, by rw [List.length_append, List.length_singleton]; omega, HC6, by omega, hgw6⟩
                case measure => simp [intOf]; omega
            · go_wp2_with fail
              go_ret
              exact ⟨_, z, rfl, HO4.out, HNn.out, HSh.out, by omega, HC4.out.mono (by omega), hgw4⟩
        | false =>
          go_wp2_with fail
          go_ret
          exact ⟨_, z, rfl, HO3.out, HNn.out, HSh.out, by omega, HC3.out.mono (by omega), hgw3⟩
end Go.Proofs.YtneecokjhmnagaaDoor.Draw
