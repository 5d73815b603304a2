/- Proxies: a proxy looked up by the program; copies. No condition. -/
import Derived.Test.YtdjnaoaniokbgaaVoI
import Derived.Test.YtdjnaoaniokbgaaJ1
import Derived.Test.YtdjnaoaniokbgaaAppO
namespace Go.Proofs.Ytdjnaoaniokbgaa.VoB
open Go.RowKit Bs Word Sq IntF Vo VoA VoN CmpI
set_option linter.unusedVariables false
theorem closure (X : P) (m : Int) (w : World) : Calls Try.prog 80 #[.agg #[.int .i64 X.src, .int .i64 X.dst], .int .i64 m] w fun e w' => e = .returned (.int .i64 (cmpI X.src m)) ∧ Below w.heap.size w w' := by
  have hb := fun o => ((Below.refl w.heap.size w).alloc (Nat.le_refl _) o)
  have HC := Lib.hid (fun W => compare X.src m W)
  go_enter Try.func80, Try.ntmps80
  go_wp2_with fail
  refine (HC.out _).mono ?_
  rintro e _ ⟨rfl, rfl⟩
  go_wp2_with fail
  go_ret
  exact ⟨rfl, hb _⟩
theorem lo_next {z : List P} {m : Int} {k : Nat} {X : P} (hs : Sorted z) (hx : z[k]? = some X) (hl : X.src < m) : ∀ t Y, t < k + 1 → z[t]? = some Y → Y.src < m := fun t Y ht hy => by
  rcases Nat.lt_or_ge t k with h' | h'
  · have := hs k X hx t Y h' hy; omega
  · obtain rfl : t = k := by omega
    rw [hx] at hy; rw [← Option.some.inj hy]; exact hl
theorem hi_next {z : List P} {m : Int} {k : Nat} {X : P} (hs : Sorted z) (hx : z[k]? = some X) (hl : ¬ X.src < m) : ∀ t Y, k ≤ t → z[t]? = some Y → m ≤ Y.src := fun t Y ht hy => by
  rcases Nat.lt_or_ge k t with h' | h'
  · have := hs t Y hy k X h' hx; omega
  · obtain rfl : t = k := by omega
    rw [hx] at hy; rw [← Option.some.inj hy]; omega
theorem pos_of {z : List P} {m : Int} {k : Nat} (h1 : ∀ t Y, t < k → z[t]? = some Y → Y.src < m) (h2 : ∀ t Y, k ≤ t → z[t]? = some Y → m ≤ Y.src) (hk : k ≤ z.length) : pos z m = k := by
  have hf : First (fun X => !decide (X.src < m)) z k := fun j X hj hx => by have := h1 j X hj hx; simpa using this
  rcases Nat.lt_or_ge k z.length with h' | h'
  · exact pos_hit hf (List.getElem?_eq_getElem h') (by have := h2 k _ (Nat.le_refl _) (List.getElem?_eq_getElem h'); omega)
  · exact pos_none hf (by omega)
set_option maxRecDepth 100000 in
set_option maxHeartbeats 1600000 in
theorem bsearch (v : Value) (z : List P) (m : Int) (w : World) (h0 : Is LProxy.rec w v z) (hs : Sorted z) (hl : z.length ≤ 1048576) :
    Calls Try.prog 79 #[v, .int .i64 m, .func (.func 80) #[] #[]] w fun e w' => e = .returned (.tuple #[.int .i64 (pos z m : Nat), .bool (has z m)]) ∧ Below w.heap.size w w' := by
  obtain ⟨a, cp, rfl, h0⟩ := h0
  have hc := h0.at_ LProxy.rec
  obtain ⟨n, hn⟩ : ∃ n, n = z.length := ⟨_, rfl⟩
  have hnb : n ≤ cp := by have := h0.1; omega
  have hn2 := h0.2.1
  unfold maxLen at hn2
  have HN := Lib.hid hn.symm
  rw [← hn]
  have hnle : n ≤ z.length := by omega
  clear hn h0
  have HSo := Lib.hid hs
  clear hs
  have hnl : n ≤ 1048576 := by have := HN.out; omega
  clear hl
  have HCL := Lib.hid (fun X W => closure X m W)
  go_enter Try.func79, Try.ntmps79
  go_wp2_with fail
  go_loopw [9, 10] (fun s9 s10 wr => ∃ lo hi : Nat, s9 = .int .i64 lo ∧ s10 = .int .i64 hi ∧ lo ≤ hi ∧ hi ≤ n ∧ Below w.heap.size w wr ∧ Hid (∀ t Y, t < lo → z[t]? = some Y → Y.src < m) ∧ Hid (∀ t Y, hi ≤ t → z[t]? = some Y → m ≤ Y.src)) (fun s9 s10 _ => (intOf s10).toNat - (intOf s9).toNat)
  case atStart => exact ⟨0, n, rfl, rfl, Nat.zero_le _, Nat.le_refl _, Below.refl _ _, Lib.hid (fun t Y ht => by omega), Lib.hid (fun t Y ht hy => by have := (List.getElem?_eq_some_iff.1 hy).1; have := HN.out; omega)⟩
  case round =>
    obtain ⟨lo, hi, rfl, rfl, hlh, hin, hb, HL, HH⟩ := hrel
    by_cases hlt : lo < hi
    · have hkn : (lo + hi) / 2 < n := by omega
      have hx : (lo + hi) / 2 < z.length := by omega
      obtain ⟨b, o, rfl, hbl, hcell0⟩ := hc.out ((lo + hi) / 2) z[(lo + hi) / 2] (List.getElem?_eq_getElem hx)
      obtain ⟨y0, y1⟩ := LProxy.cells (hcell0.below LProxy.rec hb hbl)
      simp only [LProxy.rec_n] at y0 y1
      have HX := Lib.hid (List.getElem?_eq_getElem hx)
      clear hcell0
      generalize z[(lo + hi) / 2] = X at *
      have hlk : lo ≤ (lo + hi) / 2 := by omega
      have hkh : (lo + hi) / 2 < hi := by omega
      by_cases hl : X.src < m
      · have h2 := cmp_neg.2 hl
        have HL2 := Lib.hid (lo_next HSo.out HX.out hl)
        go_wp2_with (go_at_call 80; refine (HCL.out X _).mono ?_; rintro e w2 ⟨rfl, hb2⟩)
        go_roundw
        case rel => exact ⟨(lo + hi) / 2 + 1, hi, by go_num, rfl, by omega, hin, hb.trans (hb2.mono hb.size), HL2, HH⟩
        case measure => simp [intOf]; omega
      · have h2 : ¬ cmpI X.src m < 0 := fun h => hl (cmp_neg.1 h)
        have HH2 := Lib.hid (hi_next HSo.out HX.out hl)
        go_wp2_with (go_at_call 80; refine (HCL.out X _).mono ?_; rintro e w2 ⟨rfl, hb2⟩)
        go_roundw
        case rel => exact ⟨lo, (lo + hi) / 2, rfl, by go_num, by omega, by omega, hb.trans (hb2.mono hb.size), HL, HH2⟩
        case measure => simp [intOf]; omega
    · obtain rfl : hi = lo := by omega
      have HP := Lib.hid (pos_of HL.out HH.out (by omega))
      by_cases hn : hi < n
      · have hx : hi < z.length := by omega
        obtain ⟨b, o, rfl, hbl, hcell0⟩ := hc.out hi z[hi] (List.getElem?_eq_getElem hx)
        obtain ⟨y0, y1⟩ := LProxy.cells (hcell0.below LProxy.rec hb hbl)
        simp only [LProxy.rec_n] at y0 y1
        have HX := Lib.hid (List.getElem?_eq_getElem hx)
        clear hcell0
        generalize z[hi] = X at *
        have HB := Lib.hid (show has z m = decide (cmpI X.src m = 0) by
          rw [has_some (by rw [HP.out]; exact HX.out), Bool.eq_iff_iff, beq_iff_eq, decide_eq_true_eq, cmp_zero])
        go_wp2_with (go_at_call 80; refine (HCL.out X _).mono ?_; rintro e w2 ⟨rfl, hb2⟩)
        go_ret2
        exact ⟨by rw [HP.out, HB.out]; rfl, hb.trans (hb2.mono hb.size)⟩
      · have HB := Lib.hid (show has z m = false from has_end (by rw [HP.out]; have := HN.out; omega))
        go_wp2_with fail
        go_ret2
        exact ⟨by rw [HP.out, HB.out]; rfl, hb⟩
theorem isq_sub {α : Type} {R : Rec α} {w : World} {ao t : Option Addr} {n c : Nat} {xs : List α} (h : IsQ R w (.slice ao n c) xs) (l m : Nat) (hl : l ≤ m) (hm : m ≤ n) (ht : t = if c = l then ao else ao.map (fun x => x.add (l * R.n))) (k d : Nat) (hk : k = m - l) (hd : d = c - l) : IsQ R w (.slice t k d) ((xs.drop l).take (m - l)) := by
  subst hk hd
  rcases h with ⟨e, rfl⟩ | h
  · simp only [Value.slice.injEq] at e
    obtain ⟨rfl, rfl, rfl⟩ := e
    obtain rfl : m = 0 := by omega
    obtain rfl : l = 0 := by omega
    simp at ht
    subst ht
    exact .inl ⟨rfl, by simp⟩
  · obtain ⟨b, o, c', e, hb, h1, h2, h3⟩ := h
    simp only [Value.slice.injEq] at e
    obtain ⟨rfl, rfl, rfl⟩ := e
    have hI : IsS R w (.slice (some ⟨b, o, none⟩) xs.length c) xs := ⟨b, o, c, rfl, hb, h1, h2, h3⟩
    refine .inr ?_
    have ht' : t = if c = l then some ⟨b, o, none⟩ else some ⟨b, o + l * R.n, none⟩ := by rw [ht]; simp only [Option.map_some, Go.WideShapes.add_plain]
    have hD := hI.drop R t ht' (by omega) (xs.length - l) (c - l) rfl rfl
    have hS : ∃ b' o', t = some ⟨b', o', none⟩ := by
      rw [ht']; split
      · exact ⟨_, _, rfl⟩
      · exact ⟨_, _, rfl⟩
    obtain ⟨b', o', rfl⟩ := hS
    exact hD.take R (by omega)
theorem isq_from {α : Type} {R : Rec α} {w : World} {ao t : Option Addr} {n c : Nat} {xs : List α} (h : IsQ R w (.slice ao n c) xs) (l : Nat) (hl : l ≤ n) (ht : t = if c = l then ao else ao.map (fun x => x.add (l * R.n))) (k d : Nat) (hk : k = n - l) (hd : d = c - l) : IsQ R w (.slice t k d) (xs.drop l) := by
  have hn := (isq_len h).1
  have := isq_sub h l n hl (Nat.le_refl _) ht k d hk hd
  rwa [List.take_of_length_le (by rw [List.length_drop]; omega)] at this
theorem isq_upto {α : Type} {R : Rec α} {w : World} {ao t : Option Addr} {n c : Nat} {xs : List α} (h : IsQ R w (.slice ao n c) xs) (m : Nat) (hm : m ≤ n) (ht : t = ao) : IsQ R w (.slice t m c) (xs.take m) := by
  subst ht
  have := isq_sub h 0 m (Nat.zero_le _) hm (t := t) (by
    cases t with
    | none => simp
    | some a => obtain ⟨b, o, s⟩ := a; simp [Addr.add]) m c (by omega) (by omega)
  simpa using this
set_option maxRecDepth 100000 in
set_option maxHeartbeats 1600000 in
theorem l1Own (v0 : Value) (z0 : List Int) (w : World) (h0 : IsQ LInt.rec w v0 z0) (hl : z0.length ≤ 1048577) :
    Calls Try.prog 84 #[v0] w fun e w' => ∃ v, e = .returned v ∧ Own LInt.rec 3 w' w.heap.size v z0 ∧ Below w.heap.size w w' := by
  obtain ⟨ao, n, c, rfl⟩ := isq_slice h0
  have hn := (isq_len h0).1
  have HN := Lib.hid hn
  have hnl : n ≤ 1048577 := by omega
  have HS := Lib.hid (show ∀ w' : World, Below w.heap.size w w' → Feeds w' ao n c (flat LInt.rec z0) from fun w' hb => (h0.below hb).src.1)
  clear h0 hn hl
  obtain ⟨i0, hi, hz0, hz1, hz2⟩ := info_parts LInt.infoK
  have HI0 := Lib.hid hi
  have HZ0 := Lib.hid (And.intro hz0 (And.intro hz1 hz2))
  clear hi hz0 hz1 hz2
  go_enter Try.func84, Try.ntmps84
  go_wp2_with (at_builtin; refine wpList_append_o (T := LInt.rec) _ rfl (.tmp 3) (.tmp 4) 24 rfl w.heap.size 3 i0 (.int .i64 0) 8 Try.underlying24 HI0.out HZ0.out.1 HZ0.out.2.1 HZ0.out.2.2 rfl _ _ rfl (own_start (Nat.le_refl _)) ao n c z0 rfl HN.out (HS.out _ ((Below.refl _ _).alloc (Nat.le_refl _) _)) (by simp; unfold maxLen; omega) (by simp; omega) (by simp) ?_; intro v' w1 hown hgrow hnn hat)
  have hb : Below w.heap.size w w1 := below_grown ((Below.refl _ _).alloc (Nat.le_refl _) _) hgrow (by simp) (fun k hk => by cases hk; exact Nat.le_refl _)
  rw [List.nil_append] at hown
  have HO := Lib.hid hown
  clear hown hgrow hnn hat
  go_wp2_with fail
  go_ret
  exact ⟨_, rfl, HO.out, hb⟩
set_option maxRecDepth 100000 in
set_option maxHeartbeats 1600000 in
theorem findProxy (v0 : Value) (r : V) (m : Int) (w : World) (h0 : LVoters.Is w v0 r) (hs : PP r) (hl : r.proxies.length ≤ 1048576) :
    Calls Try.prog 63 #[v0, .int .i64 m] w fun e w' => e = .returned (.tuple #[.int .i64 (pos r.proxies m : Nat), .bool (has r.proxies m)]) ∧ Below w.heap.size w w' := by
  have HQ := Lib.hid hl
  obtain ⟨a0, n0, c0, a1, n1, c1, rfl, HN0, HN1, hb0, hb1', hm0, hm1, hc0, hc1, HI⟩ := open_is h0
  clear h0
  clear hl
  obtain ⟨W, hW⟩ : ∃ W : World, W = w.alloc (Obj.cells #[.slice a0 n0 c0, .slice a1 n1 c1] 27) := ⟨_, rfl⟩
  have hb : Below w.heap.size w W := by rw [hW]; exact (Below.refl _ _).alloc (Nat.le_refl _) _
  have HZ := Lib.hid (show W.heap.size = w.heap.size + 1 by rw [hW]; simp)
  have B0 := Lib.hid (show Bx W w.heap.size 27 #[.slice a0 n0 c0, .slice a1 n1 c1] by rw [hW]; exact Bx.new _ _ _)
  have HIW := Lib.hid (LVoters.Is.below HI.out hb)
  have HW1 := Lib.hid (show Is LProxy.rec W (.slice a1 n1 c1) r.proxies by
    obtain ⟨u0, u1, e, h3, h4⟩ := HIW.out
    simp only [Value.agg.injEq, Array.mk.injEq, List.cons.injEq, and_true] at e
    obtain ⟨rfl, rfl⟩ := e
    exact h4)
  have HC := Lib.hid (bsearch _ r.proxies m W HW1.out (sorted_of hs) HQ.out)
  clear hs
  have q0 := B0.out.cell 0
  have q1 := B0.out.cell 1
  simp only [List.getElem?_toArray, List.getElem?_cons_zero, List.getElem?_cons_succ] at q0 q1
  go_enter Try.func63, Try.ntmps63
  go_wp2_with fail
  rw [← hW]
  clear hW
  refine HC.out.mono ?_
  rintro e w1 ⟨rfl, hb1⟩
  go_wp2_with fail
  go_ret2
  exact ⟨rfl, hb.trans (hb1.mono hb.size)⟩
end Go.Proofs.Ytdjnaoaniokbgaa.VoB
