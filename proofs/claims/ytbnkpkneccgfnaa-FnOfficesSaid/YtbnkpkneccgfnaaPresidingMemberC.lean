/- PresidingMember, model and program. No condition but that names are no longer than strings can be. -/
import Derived.Test.YtbnkpkneccgfnaaMemF
import Derived.Test.YtbnkpkneccgfnaaIntF
namespace Go.Proofs.Ytbnkpkneccgfnaa.PresidingMemberC
open Go.RowKit Bs Word Mem MemF Sq IntF
set_option linter.unusedVariables false
/-- the numbers are those of members, each greater than its neighbour -/
def PresOk (z : List M) (p : List Int) (i : Nat) : Prop := ∀ x, p[i]? = some x → (idx z x).isSome = true ∧ ∀ q, 0 < i → p[i - 1]? = some q → q < x
def PresP (z : List M) (p : List Int) : Prop := ∀ i, PresOk z p i
open Classical in
noncomputable def presB (z : List M) (p : List Int) : Bool := decide (PresP z p)
open Classical in
theorem pres_yes {z : List M} {p : List Int} (h : PresP z p) : presB z p = true := decide_eq_true h
open Classical in
theorem pres_no {z : List M} {p : List Int} (h : ¬ PresP z p) : presB z p = false := decide_eq_false h
open Classical in
theorem pres_of {z : List M} {p : List Int} (h : presB z p = true) : PresP z p := of_decide_eq_true h
theorem idx_num {z : List M} {x : Int} (hg : goodB z = true) (h : (idx z x).isSome = true) : inB x 1 99 = true := by
  obtain ⟨k, hk⟩ := Option.isSome_iff_exists.1 h
  obtain ⟨X, hX, hp, _⟩ := idx_some hk
  have h3 := (ok_parts (all_ok hg X (List.mem_of_getElem? hX))).1
  have : X.num = x := by simpa using hp
  rw [← this]
  exact inB_mk h3.1 h3.2
/-- in a good list the two tests are one -/
theorem pres_ris {z : List M} {p : List Int} (hg : goodB z = true) (hm : ∀ (i : Nat) (x : Int), p[i]? = some x → (idx z x).isSome = true) : presB z p = risB p 1 99 := by
  cases h : risB p 1 99 with
  | true => exact pres_yes fun i x hx => ⟨hm i x hx, (ris_of h i x hx).2⟩
  | false =>
    refine pres_no (fun g => ?_)
    have : risB p 1 99 = true := ris_yes fun i x hx => ⟨idx_num hg (hm i x hx), (g i x hx).2⟩
    rw [h] at this; cases this
/-- the holder of an office, if present -/
def off1 (z : List M) (p : List Int) (o : Int) : Option Int := match hold z o with
  | some m => if hasB p m.num = true then some m.num else none
  | none => none
def pick (z : List M) (p : List Int) : Int := (off1 z p 1).getD ((off1 z p 2).getD ((off1 z p 3).getD (p.headD 0)))
def Ahead (z : List M) (p : List Int) (o : Nat) : Prop := ∀ q : Nat, 1 ≤ q → q < o → off1 z p q = none
theorem ahead_next {z : List M} {p : List Int} {o : Nat} (h : Ahead z p o) (h1 : off1 z p o = none) : Ahead z p (o + 1) := fun q hq hqo => by
  rcases Nat.lt_or_ge q o with h' | h'
  · exact h q hq h'
  · rwa [show q = o by omega]
theorem pick_hit {z : List M} {p : List Int} {o : Nat} {x : Int} (h : Ahead z p o) (h1 : 1 ≤ o) (h3 : o ≤ 3) (hx : off1 z p o = some x) : pick z p = x := by
  have c : o = 1 ∨ o = 2 ∨ o = 3 := by omega
  unfold pick
  rcases c with rfl | rfl | rfl
  · rw [show off1 z p 1 = some x from hx]; rfl
  · rw [show off1 z p 1 = none from h 1 (by omega) (by omega), show off1 z p 2 = some x from hx]; rfl
  · rw [show off1 z p 1 = none from h 1 (by omega) (by omega), show off1 z p 2 = none from h 2 (by omega) (by omega), show off1 z p 3 = some x from hx]; rfl
theorem pick_none {z : List M} {p : List Int} {x : Int} (h : Ahead z p 4) (hx : p[0]? = some x) : pick z p = x := by
  unfold pick
  rw [show off1 z p 1 = none from h 1 (by omega) (by omega), show off1 z p 2 = none from h 2 (by omega) (by omega), show off1 z p 3 = none from h 3 (by omega) (by omega)]
  cases p with
  | nil => simp at hx
  | cons y p => simpa using hx
noncomputable def preA (z : List M) (p : List Int) : Int × Bool := if goodB z = true then (if presB z p = true then (if p = [] then (0, false) else (pick z p, true)) else (0, false)) else (0, false)
theorem pre_bad {z : List M} {p : List Int} (h : goodB z = false) : preA z p = (0, false) := by unfold preA; rw [h]; rfl
theorem pre_no {z : List M} {p : List Int} (h : presB z p = false) : preA z p = (0, false) := by unfold preA; rw [h]; split <;> rfl
theorem pre_nil {z : List M} {p : List Int} (h : p = []) : preA z p = (0, false) := by unfold preA; rw [if_pos h]; split <;> (try split) <;> rfl
theorem pre_yes {z : List M} {p : List Int} {x : Int} (h : goodB z = true) (h2 : presB z p = true) (h3 : p ≠ []) (hx : pick z p = x) : preA z p = (x, true) := by unfold preA; rw [h, h2, if_neg h3, hx]; rfl
def Ans (z0 : List LMember.R) (z1 : List Int) (r0 : Int) (r1 : Bool) : Prop := preA z0 z1 = (r0, r1)
theorem same {z0 : List LMember.R} {z1 : List Int} {r0 s0 : Int} {r1 s1 : Bool} (h : Ans z0 z1 r0 r1) (h' : Ans z0 z1 s0 s1) : r0 = s0 ∧ r1 = s1 := by
  have := h.symm.trans h'; simp only [Prod.mk.injEq] at this; exact this
def Post (z0 : List LMember.R) (z1 : List Int) (w : World) (e : Ending) (w' : World) : Prop := ∃ r0 r1, e = .returned (.tuple #[.int .i64 r0, .bool r1]) ∧ Ans z0 z1 r0 r1 ∧ Below w.heap.size w w'
set_option maxRecDepth 100000 in
set_option maxHeartbeats 800000 in
theorem l3Present (v0 v1 : Value) (z0 : List M) (z1 : List Int) (w : World) (h0 : Is LMember.rec w v0 z0) (h1 : Is LInt.rec w v1 z1) (hg : goodB z0 = true) :
    Calls Try.prog 85 #[v0, v1] w fun e w' => e = .returned (.bool (presB z0 z1)) ∧ Below w.heap.size w w' := by
  have HF := Lib.hid (fun x => l3Find v0 z0 x w h0)
  have HR := Lib.hid (l1Rising v1 z1 1 99 w h1)
  have HG := Lib.hid hg
  obtain ⟨a0, c0, rfl, _⟩ := h0
  obtain ⟨a, cp, rfl, h1⟩ := h1
  have hc := h1.at_ LInt.rec
  obtain ⟨n, hn⟩ : ∃ n, n = z1.length := ⟨_, rfl⟩
  have hnb : n ≤ cp := by have := h1.1; omega
  have hn2 := h1.2.1
  unfold maxLen at hn2
  have HN := Lib.hid hn.symm
  rw [← hn] at HR ⊢
  have hnle : n ≤ z1.length := by omega
  clear hn h1
  clear hg
  go_enter Try.func85, Try.ntmps85
  go_wp2_with fail
  go_loop [5] (fun i => ∃ k : Nat, k ≤ n ∧ i = .int .i64 k ∧ Hid (∀ (i : Nat) (x : Int), i < k → z1[i]? = some x → (idx z0 x).isSome = true)) (fun i => n - (intOf i).toNat)
  case atStart => exact ⟨0, Nat.zero_le _, rfl, Lib.hid (fun i x hi => by omega)⟩
  case round =>
    obtain ⟨k, hk, rfl, HS⟩ := hrel
    by_cases hlt : k < n
    · have hx : k < z1.length := by have := HN.out; omega
      obtain ⟨b, o, rfl, hbl, hcell0⟩ := hc.out k z1[k] (List.getElem?_eq_getElem hx)
      have q0 := LInt.cells (hcell0)
      simp only [LInt.rec_n, Nat.mul_one] at q0
      have HX := Lib.hid (List.getElem?_eq_getElem hx)
      clear hcell0
      generalize z1[k] = X at *
      have HFx := Lib.hid (HF.out X)
      cases hi : idx z0 X with
      | none =>
        rw [hi, show ix none = -1 from rfl] at HFx
        have HB := Lib.hid (pres_no (z := z0) (p := z1) (fun g => by have := (g k X HX.out).1; rw [hi] at this; cases this))
        clear hi
        go_wp2_with fail
        refine HFx.out.mono ?_
        rintro e w' ⟨rfl, rfl⟩
        go_wp2_with fail
        go_ret
        exact ⟨ret_bool HB.out.symm, Below.refl _ _⟩
      | some j =>
        rw [hi, show ix (some j) = (j : Int) from rfl] at HFx
        have j0 : ¬ (j : Int) < 0 := by omega
        have HS2 := Lib.hid (show ∀ (i : Nat) (x : Int), i < k + 1 → z1[i]? = some x → (idx z0 x).isSome = true from fun i x hik hxx => by
          rcases Nat.lt_or_ge i k with h' | h'
          · exact HS.out i x h' hxx
          · obtain rfl : i = k := by omega
            rw [HX.out] at hxx
            rw [← Option.some.inj hxx, hi]; rfl)
        clear hi
        go_wp2_with fail
        refine HFx.out.mono ?_
        rintro e w' ⟨rfl, rfl⟩
        go_wp2_with fail
        go_round
        case rel => exact ⟨k + 1, by omega, by go_num, HS2⟩
        case measure => simp [intOf]; omega
    · have HE := Lib.hid (pres_ris HG.out (p := z1) (fun i x hx => HS.out i x (by have := (List.getElem?_eq_some_iff.1 hx).1; have := HN.out; omega) hx))
      go_wp2_with fail
      refine HR.out.mono ?_
      rintro e w' ⟨rfl, hb⟩
      go_wp2_with fail
      go_ret
      exact ⟨ret_bool HE.out.symm, hb⟩
set_option maxRecDepth 100000 in
set_option maxHeartbeats 800000 in
theorem areMembers (v0 v1 : Value) (z0 : List M) (z1 : List Int) (w : World) (h0 : Is LMember.rec w v0 z0) (f0 : ∀ x ∈ z0, LMember.Fine x) (h1 : Is LInt.rec w v1 z1) (hg : goodB z0 = true) :
    Calls Try.prog 83 #[v0, v1] w fun e w' => e = .returned (.bool (presB z0 z1)) ∧ Below w.heap.size w w' := by
  have HF := Lib.hid (fun x W (hb : Below w.heap.size w W) => memberAt v0 z0 x W (h0.below LMember.rec hb) f0)
  have HG := Lib.hid hg
  obtain ⟨a0, c0, rfl, _⟩ := h0
  obtain ⟨a, cp, rfl, h1⟩ := h1
  have hc := h1.at_ LInt.rec
  obtain ⟨n, hn⟩ : ∃ n, n = z1.length := ⟨_, rfl⟩
  have hnb : n ≤ cp := by have := h1.1; omega
  have hn2 := h1.2.1
  unfold maxLen at hn2
  have HN := Lib.hid hn.symm
  rw [← hn]
  have hnle : n ≤ z1.length := by omega
  clear hn h1
  clear hg f0
  go_enter Try.func83, Try.ntmps83
  go_wp2_with fail
  go_loopw [11] (fun i wr => ∃ k : Nat, k ≤ n ∧ i = .int .i64 k ∧ Below w.heap.size w wr ∧ Hid (∀ i, i < k → PresOk z0 z1 i)) (fun i _ => n - (intOf i).toNat)
  case atStart => exact ⟨0, Nat.zero_le _, rfl, Below.refl _ _, Lib.hid (fun i hi => by omega)⟩
  case round =>
    obtain ⟨k, hk, rfl, hb, HS⟩ := hrel
    by_cases hlt : k < n
    · have hx : k < z1.length := by have := HN.out; omega
      obtain ⟨b, o, rfl, hbl, hcell0⟩ := hc.out k z1[k] (List.getElem?_eq_getElem hx)
      have q0 := LInt.cells (hcell0.below LInt.rec hb hbl)
      simp only [LInt.rec_n, Nat.mul_one] at q0
      have HX := Lib.hid (List.getElem?_eq_getElem hx)
      clear hcell0
      generalize z1[k] = X at *
      have HFx := Lib.hid (HF.out X _ hb)
      have k0 : 0 ≤ (k : Int) := by omega
      have k1 : (k : Int) < (n : Int) := by omega
      go_wp2_with fail
      refine HFx.out.mono ?_
      rintro e w2 ⟨r0, r1, rfl, hA, hb1⟩
      have hb2 := hb.trans (hb1.mono hb.size)
      clear hb1
      rcases hA with ⟨j, _, hi, rfl, rfl⟩ | ⟨hno, rfl, rfl⟩
      · have HI := Lib.hid (show (idx z0 X).isSome = true by rw [hi]; rfl)
        clear hi
        by_cases hz : k = 0
        · have HS2 := Lib.hid (show ∀ i, i < k + 1 → PresOk z0 z1 i from fun i hik x hxx => by
            obtain rfl : i = k := by omega
            rw [HX.out] at hxx; rw [← Option.some.inj hxx]; exact ⟨HI.out, fun p h0 => by omega⟩)
          have hd : decide (0 < (k : Int)) = false := by simp; omega
          have hd2 : decide (0 < k) = false := by simp; omega
          clear hz
          go_wp2_with fail
          go_roundw
          case rel => exact ⟨k + 1, by omega, by go_num, hb2, HS2⟩
          case measure => simp [intOf]; omega
        · have h0 : 0 < k := by omega
          have hd : decide (0 < (k : Int)) = true := by simp; omega
          have hxp : k - 1 < z1.length := by omega
          obtain ⟨b', o', he, hbl', hcell0'⟩ := hc.out (k - 1) z1[k - 1] (List.getElem?_eq_getElem hxp)
          simp only [Option.some.injEq, Addr.mk.injEq, and_true] at he
          obtain ⟨rfl, rfl⟩ := he
          have HY := Lib.hid (List.getElem?_eq_getElem hxp)
          have y0 := LInt.cells (hcell0'.below LInt.rec hb2 hbl)
          simp only [LInt.rec_n, Nat.mul_one] at y0
          clear hz hbl' hcell0'
          generalize z1[k - 1] = Y at *
          have s1 : IntKind.i64.wrap ((k : Int) - 1) = (k : Int) - 1 := IntWalk.i64_in _ (by omega)
          have s2 : ((k : Int) - 1).toNat = k - 1 := by omega
          have s3 : 0 ≤ (k : Int) - 1 := by omega
          have s4 : (k : Int) - 1 < (n : Int) := by omega
          by_cases hxy : X ≤ Y
          · have HB := Lib.hid (pres_no (z := z0) (p := z1) (fun g => by have := (g k X HX.out).2 Y h0 HY.out; omega))
            go_wp2_with fail
            go_ret
            exact ⟨ret_bool HB.out.symm, hb2⟩
          · have HS2 := Lib.hid (show ∀ i, i < k + 1 → PresOk z0 z1 i from fun i hik x hxx => by
              rcases Nat.lt_or_ge i k with h' | h'
              · exact HS.out i h' x hxx
              · obtain rfl : i = k := by omega
                rw [HX.out] at hxx; rw [← Option.some.inj hxx]; exact ⟨HI.out, fun p _ hp => by rw [HY.out] at hp; rw [← Option.some.inj hp]; omega⟩)
            have hxy2 : decide (X ≤ Y) = false := decide_eq_false hxy
            go_wp2_with fail
            go_roundw
            case rel => exact ⟨k + 1, by omega, by go_num, hb2, HS2⟩
            case measure => simp [intOf]; omega
      · have HB := Lib.hid (pres_no (z := z0) (p := z1) (fun g => by
          have := (g k X HX.out).1
          rcases hno with hno | hno
          · rw [HG.out] at hno; cases hno
          · rw [hno] at this; cases this))
        clear hno
        go_wp2_with fail
        go_ret
        exact ⟨ret_bool HB.out.symm, hb2⟩
    · have HB := Lib.hid (pres_yes (z := z0) (p := z1) (fun i x hx => HS.out i (by have := (List.getElem?_eq_some_iff.1 hx).1; have := HN.out; omega) x hx))
      go_wp2_with fail
      go_ret
      exact ⟨ret_bool HB.out.symm, hb⟩
set_option maxRecDepth 100000 in
set_option maxHeartbeats 1600000 in
theorem spec (v0 : Value) (z0 : List LMember.R) (v1 : Value) (z1 : List Int) (w : World) (h0 : IsS LMember.rec w v0 z0) (f0 : ∀ x ∈ z0, LMember.Fine x) (l0 : z0.length ≤ 1048576) (h1 : IsS LInt.rec w v1 z1) (f1 : ∀ x ∈ z1, LInt.Fine x) (l1 : z1.length ≤ 1048576) :
    Calls Try.prog 39 #[v0, v1] w (Post z0 z1 w) := by
  have g0 := IsS.is LMember.rec h0
  have g1 := IsS.is LInt.rec h1
  have HG := Lib.hid (MemG.l3Good v0 z0 w g0 f0)
  have HPr := Lib.hid (fun W (hb : Below w.heap.size w W) (hg : goodB z0 = true) => l3Present v0 v1 z0 z1 W (g0.below LMember.rec hb) (g1.below LInt.rec hb) hg)
  have HHd := Lib.hid (fun x W (hb : Below w.heap.size w W) => l3Holder v0 z0 x W (g0.below LMember.rec hb))
  have HHas := Lib.hid (fun x W (hb : Below w.heap.size w W) => l1Has v1 z1 x W (g1.below LInt.rec hb))
  have HC1 := Lib.hid (fun W (hb : Below w.heap.size w W) => g1.below LInt.rec hb)
  clear g0
  obtain ⟨b0, o0, c0, rfl, _⟩ := h0
  obtain ⟨b1, o1, c1, rfl, hbl1, _, hcm1, hcell1⟩ := h1
  obtain ⟨n, hn⟩ : ∃ n, n = z1.length := ⟨_, rfl⟩
  have HN := Lib.hid hn.symm
  have HC := Lib.hid hcell1
  rw [← hn] at HPr HHas HC1 l1 ⊢
  unfold maxLen at hcm1
  clear hn f0 f1 g1 hcell1
  go_enter Try.func39, Try.ntmps39
  go_wp2_with fail
  refine HG.out.mono ?_
  rintro e w1 ⟨rfl, hb1⟩
  cases hg : goodB z0 with
  | false =>
    have HA := Lib.hid (pre_bad (p := z1) hg)
    clear hg
    go_wp2_with fail
    go_ret2
    exact ⟨_, _, rfl, HA.out, hb1⟩
  | true =>
    have HGd := Lib.hid hg
    clear hg HG
    have HP := Lib.hid (HPr.out _ hb1 HGd.out)
    clear HPr
    go_wp2_with fail
    refine HP.out.mono ?_
    rintro e w2 ⟨rfl, hb2⟩
    have hb3 := hb1.trans (hb2.mono hb1.size)
    clear HP hb2
    cases hp : presB z0 z1 with
    | false =>
      have HA := Lib.hid (pre_no (z := z0) (p := z1) hp)
      clear hp
      go_wp2_with fail
      go_ret2
      exact ⟨_, _, rfl, HA.out, hb3⟩
    | true =>
      have HPd := Lib.hid hp
      clear hp
      by_cases hz : n = 0
      · have HA := Lib.hid (pre_nil (z := z0) (p := z1) (List.eq_nil_of_length_eq_zero (by rw [HN.out]; exact hz)))
        have hz2 : ((n : Int) == 0) = true := by rw [beq_iff_eq]; omega
        have hz3 : (n == 0) = true := by rw [beq_iff_eq]; omega
        clear hz
        go_wp2_with fail
        go_ret2
        exact ⟨_, _, rfl, HA.out, hb3⟩
      · have HZ := Lib.hid (show z1 ≠ [] from fun e => hz (by have := HN.out; rw [e] at this; exact this.symm))
        have hz2 : ((n : Int) == 0) = false := by rw [beq_eq_false_iff_ne]; omega
        have hz3 : (n == 0) = false := by rw [beq_eq_false_iff_ne]; omega
        have n0 : 0 < n := by omega
        have n1 : 0 < (n : Int) := by omega
        clear hz
        go_wp2_with fail
        go_loop [6] (fun i => ∃ k : Nat, 1 ≤ k ∧ k ≤ 4 ∧ i = .int .i64 k ∧ Hid (Ahead z0 z1 k)) (fun i => 4 - (intOf i).toNat)
        case atStart => exact ⟨1, Nat.le_refl _, by omega, rfl, Lib.hid (fun q h1 h2 => by omega)⟩
        case round =>
          obtain ⟨k, hk1, hk4, rfl, HAh⟩ := hrel
          by_cases hlt : k ≤ 3
          · have k0 : (k : Int) ≤ 3 := by omega
            have k5 : (k : Int) + 1 ≤ 4 := by omega
            have k6 : 0 ≤ (k : Int) := by omega
            cases hh : hold z0 k with
            | none =>
              have HHk := Lib.hid (HHd.out k _ hb3)
              rw [hh, show holdN none = 0 from rfl] at HHk
              have HA2 := Lib.hid (ahead_next HAh.out (show off1 z0 z1 k = none by unfold off1; rw [hh]))
              have HHs := Lib.hid (HHas.out 0 _ hb3)
              have e0 : hasB z1 0 = false := by
                cases e : hasB z1 0 with
                | false => rfl
                | true =>
                  obtain ⟨i, hi, he⟩ := List.getElem_of_mem (has_iff.1 e)
                  have := idx_num HGd.out (pres_of HPd.out i 0 (by rw [List.getElem?_eq_getElem hi, he])).1
                  have := inB_yes this
                  omega
              rw [e0] at HHs
              clear hh e0
              go_wp2_with fail
              refine HHk.out.mono ?_
              rintro e w' ⟨rfl, rfl⟩
              go_wp2_with fail
              refine HHs.out.mono ?_
              rintro e w' ⟨rfl, rfl⟩
              go_wp2_with fail
              go_round
              case rel => exact ⟨k + 1, by omega, by omega, by go_num, HA2⟩
              case measure => simp [intOf]; omega
            | some m =>
              have HHk := Lib.hid (HHd.out k _ hb3)
              rw [hh, show holdN (some m) = m.num from rfl] at HHk
              have HHs := Lib.hid (HHas.out m.num _ hb3)
              cases hs : hasB z1 m.num with
              | false =>
                have HA2 := Lib.hid (ahead_next HAh.out (show off1 z0 z1 k = none by unfold off1; rw [hh]; simp [hs]))
                rw [hs] at HHs
                clear hh hs
                go_wp2_with fail
                refine HHk.out.mono ?_
                rintro e w' ⟨rfl, rfl⟩
                go_wp2_with fail
                refine HHs.out.mono ?_
                rintro e w' ⟨rfl, rfl⟩
                go_wp2_with fail
                go_round
                case rel => exact ⟨k + 1, by omega, by omega, by go_num, HA2⟩
                case measure => simp [intOf]; omega
              | true =>
                have HA := Lib.hid (pre_yes HGd.out HPd.out HZ.out (pick_hit HAh.out hk1 hlt (show off1 z0 z1 k = some m.num by unfold off1; rw [hh]; simp [hs])))
                rw [hs] at HHs
                clear hh hs
                go_wp2_with fail
                refine HHk.out.mono ?_
                rintro e w' ⟨rfl, rfl⟩
                go_wp2_with fail
                refine HHs.out.mono ?_
                rintro e w' ⟨rfl, rfl⟩
                go_wp2_with fail
                go_ret2
                exact ⟨_, _, rfl, HA.out, hb3⟩
          · obtain rfl : k = 4 := by omega
            have hx0 : 0 < z1.length := by have := HN.out; omega
            have HX := Lib.hid (List.getElem?_eq_getElem hx0)
            have q0 := LInt.cells ((HC.out 0 _ HX.out).below LInt.rec hb3 hbl1)
            simp only [LInt.rec_n, Nat.mul_one, Nat.add_zero] at q0
            have HA := Lib.hid (pre_yes HGd.out HPd.out HZ.out (pick_none HAh.out HX.out))
            generalize z1[0] = X at *
            go_wp2_with fail
            go_ret2
            exact ⟨_, _, rfl, HA.out, hb3⟩
set_option maxRecDepth 100000 in
set_option maxHeartbeats 1600000 in
theorem impl (v0 : Value) (z0 : List LMember.R) (v1 : Value) (z1 : List Int) (w : World) (h0 : IsS LMember.rec w v0 z0) (f0 : ∀ x ∈ z0, LMember.Fine x) (l0 : z0.length ≤ 1048576) (h1 : IsS LInt.rec w v1 z1) (f1 : ∀ x ∈ z1, LInt.Fine x) (l1 : z1.length ≤ 1048576) :
    Calls Try.prog 38 #[v0, v1] w (Post z0 z1 w) := by
  have g0 := IsS.is LMember.rec h0
  have g1 := IsS.is LInt.rec h1
  have HG := Lib.hid (MemI.isValidMembers v0 z0 w g0 f0)
  have HPr := Lib.hid (fun W (hb : Below w.heap.size w W) (hg : goodB z0 = true) => areMembers v0 v1 z0 z1 W (g0.below LMember.rec hb) f0 (g1.below LInt.rec hb) hg)
  have HHd := Lib.hid (fun x W (hb : Below w.heap.size w W) => implI v0 z0 x W (g0.below LMember.rec hb) f0)
  have HHas := Lib.hid (fun x W (hb : Below w.heap.size w W) => contains v1 z1 x W (g1.below LInt.rec hb))
  have HC1 := Lib.hid (fun W (hb : Below w.heap.size w W) => g1.below LInt.rec hb)
  clear g0
  obtain ⟨b0, o0, c0, rfl, _⟩ := h0
  obtain ⟨b1, o1, c1, rfl, hbl1, _, hcm1, hcell1⟩ := h1
  obtain ⟨n, hn⟩ : ∃ n, n = z1.length := ⟨_, rfl⟩
  have HN := Lib.hid hn.symm
  have HC := Lib.hid hcell1
  rw [← hn] at HPr HHas HC1 l1 ⊢
  unfold maxLen at hcm1
  clear hn f0 f1 g1 hcell1
  go_enter Try.func38, Try.ntmps38
  go_wp2_with fail
  refine HG.out.mono ?_
  rintro e w1 ⟨rfl, hb1⟩
  cases hg : goodB z0 with
  | false =>
    have HA := Lib.hid (pre_bad (p := z1) hg)
    clear hg
    go_wp2_with fail
    go_ret2
    exact ⟨_, _, rfl, HA.out, hb1⟩
  | true =>
    have HGd := Lib.hid hg
    clear hg HG
    by_cases hz : n = 0
    · have HA := Lib.hid (pre_nil (z := z0) (p := z1) (List.eq_nil_of_length_eq_zero (by rw [HN.out]; exact hz)))
      have hz2 : ((n : Int) == 0) = true := by rw [beq_iff_eq]; omega
      have hz3 : (n == 0) = true := by rw [beq_iff_eq]; omega
      clear hz
      go_wp2_with fail
      go_ret2
      exact ⟨_, _, rfl, HA.out, hb1⟩
    · have HZ := Lib.hid (show z1 ≠ [] from fun e => hz (by have := HN.out; rw [e] at this; exact this.symm))
      have hz2 : ((n : Int) == 0) = false := by rw [beq_eq_false_iff_ne]; omega
      have hz3 : (n == 0) = false := by rw [beq_eq_false_iff_ne]; omega
      have n0 : 0 < n := by omega
      have n1 : 0 < (n : Int) := by omega
      clear hz
      have HP := Lib.hid (HPr.out _ hb1 HGd.out)
      clear HPr
      go_wp2_with fail
      refine HP.out.mono ?_
      rintro e w2 ⟨rfl, hb2⟩
      have hb3 := hb1.trans (hb2.mono hb1.size)
      clear HP hb2
      cases hp : presB z0 z1 with
      | false =>
        have HA := Lib.hid (pre_no (z := z0) (p := z1) hp)
        clear hp
        go_wp2_with fail
        go_ret2
        exact ⟨_, _, rfl, HA.out, hb3⟩
      | true =>
        have HPd := Lib.hid hp
        clear hp
        go_wp2_with fail
        go_loopw [6] (fun i wr => ∃ k : Nat, 1 ≤ k ∧ k ≤ 4 ∧ i = .int .i64 k ∧ Hid (Ahead z0 z1 k) ∧ Below w.heap.size w wr) (fun i _ => 4 - (intOf i).toNat)
        case atStart => exact ⟨1, Nat.le_refl _, by omega, rfl, Lib.hid (fun q h1 h2 => by omega), hb3⟩
        case round =>
          clear hb3
          obtain ⟨k, hk1, hk4, rfl, HAh, hb⟩ := hrel
          by_cases hlt : k ≤ 3
          · have k0 : (k : Int) ≤ 3 := by omega
            have k5 : (k : Int) + 1 ≤ 4 := by omega
            have k6 : 0 ≤ (k : Int) := by omega
            have HHk := Lib.hid (HHd.out k _ hb)
            go_wp2_with fail
            refine HHk.out.mono ?_
            rintro e w5 ⟨r0, r1, rfl, hA, hb5⟩
            have hb6 := hb.trans (hb5.mono hb.size)
            clear hb5 HHk
            rcases hA with ⟨m, _, _, hh, rfl, rfl⟩ | ⟨hno, rfl, rfl⟩
            · have HHs := Lib.hid (HHas.out m.num _ hb6)
              cases hs : hasB z1 m.num with
              | false =>
                have HA2 := Lib.hid (ahead_next HAh.out (show off1 z0 z1 k = none by unfold off1; rw [hh]; simp [hs]))
                rw [hs] at HHs
                clear hh hs
                go_wp2_with fail
                refine HHs.out.mono ?_
                rintro e w' ⟨rfl, rfl⟩
                go_wp2_with fail
                go_roundw
                case rel => exact ⟨k + 1, by omega, by omega, by go_num, HA2, hb6⟩
                case measure => simp [intOf]; omega
              | true =>
                have HA := Lib.hid (pre_yes HGd.out HPd.out HZ.out (pick_hit HAh.out hk1 hlt (show off1 z0 z1 k = some m.num by unfold off1; rw [hh]; simp [hs])))
                rw [hs] at HHs
                clear hh hs
                go_wp2_with fail
                refine HHs.out.mono ?_
                rintro e w' ⟨rfl, rfl⟩
                go_wp2_with fail
                go_ret2
                exact ⟨_, _, rfl, HA.out, hb6⟩
            · have HA2 := Lib.hid (ahead_next HAh.out (show off1 z0 z1 k = none by
                rcases hno with h | h | h
                · rw [HGd.out] at h; cases h
                · omega
                · unfold off1; rw [h]))
              clear hno
              go_wp2_with fail
              go_roundw
              case rel => exact ⟨k + 1, by omega, by omega, by go_num, HA2, hb6⟩
              case measure => simp [intOf]; omega
          · obtain rfl : k = 4 := by omega
            have hx0 : 0 < z1.length := by have := HN.out; omega
            have HX := Lib.hid (List.getElem?_eq_getElem hx0)
            have q0 := LInt.cells ((HC.out 0 _ HX.out).below LInt.rec hb hbl1)
            simp only [LInt.rec_n, Nat.mul_one, Nat.add_zero] at q0
            have HA := Lib.hid (pre_yes HGd.out HPd.out HZ.out (pick_none HAh.out HX.out))
            generalize z1[0] = X at *
            go_wp2_with fail
            go_ret2
            exact ⟨_, _, rfl, HA.out, hb⟩
end Go.Proofs.Ytbnkpkneccgfnaa.PresidingMemberC
