/- The rank of a rule changed: the model's and the program's function. No condition but that names are no longer than strings can be. -/
import Derived.Test.YtbaflfbidgolfaaOwnV
import Derived.Test.YtbaflfbidgolfaaGoodI
namespace Go.Proofs.Ytbaflfbidgolfaa.Change
open Go.RowKit Rule HelpS OwnV
set_option linter.unusedVariables false
set_option maxRecDepth 100000

/-- the first place of a rule with an id, or -1 -/
def Find (xs : List R) (id : Int) (i : Int) : Prop := (i = -1 ∧ ∀ (k : Nat) (r : R), xs[k]? = some r → r.id ≠ id) ∨ ∃ (k : Nat) (r : R), i = k ∧ k < xs.length ∧ xs[k]? = some r ∧ r.id = id ∧ ∀ (j : Nat) (p : R), j < k → xs[j]? = some p → p.id ≠ id
inductive Ans (xs : List R) (id rank : Int) : List R → Bool → Prop
  | no (h : Gd.goodB xs = false ∨ ∀ (k : Nat) r, xs[k]? = some r → r.id ≠ id) : Ans xs id rank [] false
  | bad (h : Gd.goodB xs = true) (k : Nat) (r : R) (hk : xs[k]? = some r) (hr : r.id = id) (hf : ∀ (j : Nat) (p : R), j < k → xs[j]? = some p → p.id ≠ id) (hb : Gd.goodB (xs.set k { r with rank := rank }) = false) : Ans xs id rank [] false
  | yes (h : Gd.goodB xs = true) (k : Nat) (r : R) (hk : xs[k]? = some r) (hr : r.id = id) (hf : ∀ (j : Nat) (p : R), j < k → xs[j]? = some p → p.id ≠ id) (hb : Gd.goodB (xs.set k { r with rank := rank }) = true) : Ans xs id rank (xs.set k { r with rank := rank }) true
theorem first_same {xs : List R} {id : Int} {k k' : Nat} {r r' : R} (hk : xs[k]? = some r) (hr : r.id = id) (hf : ∀ (j : Nat) (p : R), j < k → xs[j]? = some p → p.id ≠ id) (hk' : xs[k']? = some r') (hr' : r'.id = id) (hf' : ∀ (j : Nat) (p : R), j < k' → xs[j]? = some p → p.id ≠ id) : k = k' ∧ r = r' := by
  rcases Nat.lt_trichotomy k k' with h | h | h
  · exact absurd hr (hf' k r h hk)
  · subst h
    rw [hk] at hk'
    exact ⟨rfl, Option.some.inj hk'⟩
  · exact absurd hr' (hf k' r' h hk')
theorem Ans.same {xs : List R} {id rank : Int} {a a' : List R} {b b' : Bool} (h : Ans xs id rank a b) (h' : Ans xs id rank a' b') : a = a' ∧ b = b' := by
  cases h with
  | no h =>
    cases h' with
    | no _ => exact ⟨rfl, rfl⟩
    | bad _ _ _ _ _ _ _ => exact ⟨rfl, rfl⟩
    | yes g k r hk hr hf hb =>
      rcases h with h | h
      · rw [h] at g; cases g
      · exact absurd hr (h k r hk)
  | bad g k r hk hr hf hb =>
    cases h' with
    | no _ => exact ⟨rfl, rfl⟩
    | bad _ _ _ _ _ _ _ => exact ⟨rfl, rfl⟩
    | yes g' k' r' hk' hr' hf' hb' =>
      obtain ⟨rfl, rfl⟩ := first_same hk hr hf hk' hr' hf'
      rw [hb] at hb'; cases hb'
  | yes g k r hk hr hf hb =>
    cases h' with
    | no h =>
      rcases h with h | h
      · rw [h] at g; cases g
      · exact absurd hr (h k r hk)
    | bad g' k' r' hk' hr' hf' hb' =>
      obtain ⟨rfl, rfl⟩ := first_same hk hr hf hk' hr' hf'
      rw [hb] at hb'; cases hb'
    | yes g' k' r' hk' hr' hf' hb' =>
      obtain ⟨rfl, rfl⟩ := first_same hk hr hf hk' hr' hf'
      exact ⟨rfl, rfl⟩
theorem Ans.len {xs : List R} {id rank : Int} {a : List R} {b : Bool} (h : Ans xs id rank a b) : a.length ≤ 8 := by
  cases h with
  | no _ => simp
  | bad _ _ _ _ _ _ _ => simp
  | yes g k r hk hr hf hb => exact (Gd.good_of hb).1
theorem Ans.names {xs : List R} {id rank : Int} {a : List R} {b : Bool} (h : Ans xs id rank a b) (hs : ∀ x ∈ xs, x.name.size ≤ maxLen) : ∀ x ∈ a, x.name.size ≤ maxLen := by
  cases h with
  | no _ => intro x hx; cases hx
  | bad _ _ _ _ _ _ _ => intro x hx; cases hx
  | yes g k r hk hr hf hb =>
    intro x hx
    rcases List.mem_or_eq_of_mem_set hx with h' | h'
    · exact hs x h'
    · subst h'
      exact hs r (List.mem_of_getElem? hk)
theorem set_names {xs : List R} {k : Nat} {r : R} {rank : Int} (hk : xs[k]? = some r) (hs : ∀ x ∈ xs, x.name.size ≤ maxLen) : ∀ x ∈ xs.set k { r with rank := rank }, x.name.size ≤ maxLen := by
  intro x hx
  rcases List.mem_or_eq_of_mem_set hx with h' | h'
  · exact hs x h'
  · subst h'
    exact hs r (List.mem_of_getElem? hk)
def Post (xs : List R) (id rank : Int) (w : World) (e : Ending) (w' : World) : Prop := ∃ v ys b, e = .returned (.tuple #[v, .bool b]) ∧ Ans xs id rank ys b ∧ OwnV w' w.heap.size v ys ∧ Below w.heap.size w w'
def Found (xs : List R) (id : Int) (w : World) (e : Ending) (w' : World) : Prop := w = w' ∧ ∃ i, e = .returned (.int .i64 i) ∧ Find xs id i

set_option maxHeartbeats 800000 in
theorem l2Find (a : Option Addr) (n cp : Nat) (xs : List R) (id : Int) (w : World) (hn : xs.length = n) (h : RulesAt w a cp xs) :
    Calls Try.prog 92 #[.slice a n cp, .int .i64 id] w (Found xs id w) := by
  have hc := h.at_
  have HN := Lib.hid hn
  have hnb : n ≤ cp := by have := h.1; omega
  have hle : n ≤ xs.length := by omega
  have h2 := h.2.1
  unfold maxLen at h2
  clear h hn
  go_enter Try.func92, Try.ntmps92
  go_wp2_with fail
  go_loop [5] (fun i => ∃ k : Nat, k ≤ n ∧ i = .int .i64 k ∧ Hid (∀ (j : Nat) (p : R), j < k → xs[j]? = some p → p.id ≠ id)) (fun i => n - (intOf i).toNat)
  case atStart => exact ⟨0, Nat.zero_le _, rfl, Lib.hid (fun j p hj => by omega)⟩
  case round =>
    obtain ⟨k, hk, rfl, HM⟩ := hrel
    by_cases hlt : k < n
    · have hx : k < xs.length := by omega
      obtain ⟨b, o, rfl, hbl, hcell0⟩ := hc.out k xs[k] (List.getElem?_eq_getElem hx)
      have HX := Lib.hid (List.getElem?_eq_getElem hx)
      obtain ⟨x0, x1, x2, x3, x4, x5, x6⟩ := hcell0
      have k0 : 0 ≤ (k : Int) := by omega
      have k1 : (k : Int) < (n : Int) := by omega
      generalize xs[k] = X at *
      by_cases hid : X.id = id
      · have HF := Lib.hid (show Find xs id k from .inr ⟨k, X, rfl, hx, HX.out, hid, HM.out⟩)
        have hbe : (X.id == id) = true := by rw [hid]; simp
        clear hid
        go_wp2_with fail
        go_ret
        exact ⟨rfl, _, rfl, HF.out⟩
      · have HM2 := Lib.hid (show ∀ (q : Nat) (p : R), q < k + 1 → xs[q]? = some p → p.id ≠ id from fun q p hq hp => by
          rcases Nat.lt_or_ge q k with h' | h'
          · exact HM.out q p h' hp
          · obtain rfl : q = k := by omega
            rw [HX.out] at hp
            rw [← Option.some.inj hp]
            exact hid)
        have hbe : (X.id == id) = false := by simpa using hid
        clear hid
        go_wp2_with fail
        go_round
        case rel => exact ⟨k + 1, by omega, by go_num, HM2⟩
        case measure => simp [intOf]; omega
    · have HF := Lib.hid (show Find xs id (-1) from .inl ⟨rfl, fun j r hj => HM.out j r (by have := (List.getElem?_eq_some_iff.1 hj).1; have := HN.out; omega) hj⟩)
      go_wp2_with fail
      go_ret
      exact ⟨rfl, _, rfl, HF.out⟩

set_option maxHeartbeats 1600000 in
theorem spec (a : Option Addr) (n cp : Nat) (xs : List R) (id rank : Int) (w : World) (hn : xs.length = n) (h : RulesAt w a cp xs) (hsz : ∀ x ∈ xs, x.name.size ≤ maxLen) :
    Calls Try.prog 63 #[.slice a n cp, .int .i64 id, .int .i64 rank] w (Post xs id rank w) := by
  have hc := h.at_
  have HN := Lib.hid hn
  have HS := Lib.hid hsz
  have HA := Lib.hid h
  have hnb : n ≤ cp := by have := h.1; omega
  have hle : n ≤ xs.length := by omega
  have h2 := h.2.1
  unfold maxLen at h2
  obtain ⟨i0, hi, hz0, hz1, hz2⟩ := info_parts infoRule
  have HI := Lib.hid hi
  have HZ := Lib.hid (And.intro hz0 (And.intro hz1 hz2))
  clear h hsz hn hi hz0 hz1 hz2
  go_enter Try.func63, Try.ntmps63
  go_wp2_with fail
  refine (l2Find a n cp xs id _ HN.out HA.out).mono ?_
  rintro e w1 ⟨rfl, i, rfl, hF⟩
  have HC := Lib.hid (Gd.l2Good a n cp xs w HN.out HA.out HS.out)
  have HFi := Lib.hid hF
  clear hF
  go_wp2_with fail
  refine HC.out.mono ?_
  rintro e w1 ⟨rfl, hb1⟩
  cases hg : Gd.goodB xs with
  | false =>
    have HA2 := Lib.hid (Ans.no (xs := xs) (id := id) (rank := rank) (.inl hg))
    have hb := hb1.alloc hb1.size (Obj.cells #[] 63)
    have HO := Lib.hid (start_at (w := w1) hb1.size)
    clear hg
    go_wp2_with fail
    go_ret2
    exact ⟨_, [], false, rfl, HA2.out, HO.out, hb⟩
  | true =>
    have HG := Lib.hid hg
    have hn8 : n ≤ 8 := by have := (Gd.good_of hg).1; have := HN.out; omega
    clear hg HC
    rcases HFi.out with ⟨rfl, hno⟩ | ⟨k, X, rfl, hkl, hX, hid, hf⟩
    · have HA2 := Lib.hid (Ans.no (xs := xs) (id := id) (rank := rank) (.inr hno))
      have hb := hb1.alloc hb1.size (Obj.cells #[] 63)
      have HO := Lib.hid (start_at (w := w1) hb1.size)
      clear hno HFi
      go_wp2_with fail
      go_ret2
      exact ⟨_, [], false, rfl, HA2.out, HO.out, hb⟩
    · have hkn : k < n := by have := HN.out; omega
      obtain ⟨b, o, rfl, hbl, hcell0⟩ := hc.out k X hX
      have HX := Lib.hid hX
      have HFst := Lib.hid (And.intro hid hf)
      have hfl := flat_cells (w := w1) (b := b) (o := o) (xs := xs) (fun j r hr => by
        obtain ⟨b', o', he, _, hat⟩ := hc.out j r hr
        simp only [Option.some.injEq, Addr.mk.injEq, and_true] at he
        obtain ⟨rfl, rfl⟩ := he
        exact hat.below hb1 hbl)
      have HFl := Lib.hid (show ∀ j u, (flat xs)[j]? = some u → (w1.alloc (.cells #[] 63)).cell? (Addr.add ⟨b, o, none⟩ j) = some u from fun j u hu => by
        rw [Go.WideShapes.add_plain, ((Below.refl w1.heap.size w1).alloc (Nat.le_refl _) _).cell (p := ⟨b, o + j, none⟩) (Nat.lt_of_lt_of_le hbl hb1.size)]
        exact hfl j u hu)
      have HO := Lib.hid (start_at (w := w1) hb1.size)
      clear hfl hX hid hf hcell0 HFi
      go_wp2_with (at_builtin; refine wpList_append_own _ rfl (.tmp 22) (.tmp 23) 27 rfl w.heap.size 63 i0 (.agg #[.int .i64 0, .string ⟨#[]⟩, .int .i64 0, .bool false, .bool false, .bool false, .int .i64 0]) 7 48 Try.underlying27 HI.out HZ.out.1 HZ.out.2.1 HZ.out.2.2 rfl (by decide) _ _ _ rfl HO.out ⟨b, o, none⟩ n cp (flat xs) rfl ?c0 HFl.out (flat_one xs) ?c3 ?c4 ?c5 ?c6)
      case c0 => rw [flat_len, HN.out]
      case c3 => unfold maxLen; simp; omega
      case c4 => simp; omega
      case c5 => simp; have := hb1.size; omega
      case c6 =>
        intro v' w2 hown hgrow _
        have hb2 : Below w.heap.size w w2 := (hb1.alloc hb1.size _).grown hgrow (by simp; have := hb1.size; omega) (fun j hj => HO.out.lt j hj |>.1)
        have hO2 : OwnV w2 w.heap.size v' xs := by
          unfold OwnV
          rw [HN.out]
          have h := hown
          first | exact h | (rw [Nat.zero_add] at h; exact h)
        clear hown hgrow HFl HO hb1
        rcases hO2.shape with ⟨_, hnil⟩ | ⟨g, c, rfl, hcap, hR⟩
        · rw [hnil] at hkl; simp at hkl
        clear hO2
        rw [HN.out] at hR hcap ⊢
        have HR := Lib.hid hR
        have hc63 : c ≤ 9223372036854775807 := by have := hR.rules.2.1; unfold maxLen at this; omega
        obtain ⟨x0, x1, x2, x3, x4, x5, x6⟩ := hR.cells k hkn X HX.out
        have hfz := hR.frozen
        have hg := hR.lt
        obtain ⟨hg1, hg2⟩ := hg
        have HP := Lib.hid (hR.putAll k X { X with rank := rank } HX.out)
        have k0 : 0 ≤ (k : Int) := by omega
        have k1 : (k : Int) < (n : Int) := by omega
        clear hR
        have HSN := Lib.hid (set_names (rank := rank) HX.out HS.out)
        have hb3 : Below w.heap.size w (((((((w2.setCell ⟨g, k * 7, none⟩ (.int .i64 X.id)).setCell ⟨g, k * 7 + 1, none⟩ (.string X.name)).setCell ⟨g, k * 7 + 2, none⟩ (.int .i64 rank)).setCell ⟨g, k * 7 + 3, none⟩ (.bool X.sec)).setCell ⟨g, k * 7 + 4, none⟩ (.bool X.deb)).setCell ⟨g, k * 7 + 5, none⟩ (.bool X.am)).setCell ⟨g, k * 7 + 6, none⟩ (.int .i64 X.need)) :=
          ((((((hb2.setCell hg1 _).setCell hg1 _).setCell hg1 _).setCell hg1 _).setCell hg1 _).setCell hg1 _).setCell hg1 _
        go_wp2_with fail
        try simp only at HP
        generalize (((((((w2.setCell ⟨g, k * 7, none⟩ (.int .i64 X.id)).setCell ⟨g, k * 7 + 1, none⟩ (.string X.name)).setCell ⟨g, k * 7 + 2, none⟩ (.int .i64 rank)).setCell ⟨g, k * 7 + 3, none⟩ (.bool X.sec)).setCell ⟨g, k * 7 + 4, none⟩ (.bool X.deb)).setCell ⟨g, k * 7 + 5, none⟩ (.bool X.am)).setCell ⟨g, k * 7 + 6, none⟩ (.int .i64 X.need)) = wp at *
        have HP2 := Lib.hid (HP.out.kept ((Below.refl _ _).alloc (Nat.le_refl _) (Obj.cells #[.int .i64 X.id, .string X.name, .int .i64 rank, .bool X.sec, .bool X.deb, .bool X.am, .int .i64 X.need] 63)))
        have hb4 := hb3.alloc hb3.size (Obj.cells #[.int .i64 X.id, .string X.name, .int .i64 rank, .bool X.sec, .bool X.deb, .bool X.am, .int .i64 X.need] 63)
        clear x0 x1 x2 x3 x4 x5 x6 HP hb3 hb2 HR hfz
        refine (Gd.l2Good _ n c _ _ HP2.out.1 HP2.out.rules HSN.out).mono ?_
        rintro e w3 ⟨rfl, hb5⟩
        have HP3 := Lib.hid (HP2.out.kept hb5)
        have hb6 := hb4.trans (hb5.mono hb4.size)
        clear hb5 HP2 hb4
        cases hg2 : Gd.goodB (xs.set k { X with rank := rank }) with
        | false =>
          have HA2 := Lib.hid (Ans.bad HG.out k X HX.out HFst.out.1 HFst.out.2 hg2)
          have hb7 := hb6.alloc hb6.size (Obj.cells #[] 63)
          have HO := Lib.hid (start_at (w := w3) hb6.size)
          clear hg2
          go_wp2_with fail
          go_ret2
          exact ⟨_, [], false, rfl, HA2.out, HO.out, hb7⟩
        | true =>
          have HA2 := Lib.hid (Ans.yes HG.out k X HX.out HFst.out.1 HFst.out.2 hg2)
          clear hg2
          go_wp2_with fail
          go_ret2
          exact ⟨_, _, true, rfl, HA2.out, OwnV.of HP3.out, hb6⟩
end Go.Proofs.Ytbaflfbidgolfaa.Change
