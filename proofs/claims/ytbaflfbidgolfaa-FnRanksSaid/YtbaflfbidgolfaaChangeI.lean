/- The rank of a rule changed: the program's function, with slices.Clone and slices.IndexFunc at slices of rules. No condition but that names are no longer than strings can be. -/
import Derived.Test.YtbaflfbidgolfaaChange
namespace Go.Proofs.Ytbaflfbidgolfaa.ChangeI
open Go.RowKit Rule HelpS OwnV Change
set_option linter.unusedVariables false
set_option maxRecDepth 100000

theorem OwnV.up {w : World} {base base' : Nat} {v : Value} {ys : List R} (h : OwnV w base v ys) (hb : base' ≤ base) : OwnV w base' v ys := by
  refine ⟨h.1, ?_⟩
  rcases h.2 with hn | ⟨g, cap, cur, rfl, hbg, rest⟩
  · exact .inl hn
  · exact .inr ⟨g, cap, cur, rfl, Nat.le_trans hb hbg, rest⟩
def Cloned (xs : List R) (w : World) (e : Ending) (w' : World) : Prop := ∃ v, e = .returned v ∧ OwnV w' w.heap.size v xs ∧ Below w.heap.size w w'
set_option maxHeartbeats 400000 in
theorem clone (a : Option Addr) (n cp : Nat) (xs : List R) (w : World) (hn : xs.length = n) (h : RulesAt w a cp xs) (hsm : n ≤ 1048576) :
    Calls Try.prog 104 #[.slice a n cp] w (Cloned xs w) := by
  have HN := Lib.hid hn
  have hc := h.at_
  have hnb : n ≤ cp := by have := h.1; omega
  have h2 := h.2.1
  unfold maxLen at h2
  obtain ⟨i0, hi, hz0, hz1, hz2⟩ := info_parts infoRule
  have HI := Lib.hid hi
  have HZ := Lib.hid (And.intro hz0 (And.intro hz1 hz2))
  have heq := fun W => Lib.run_eql_slice_nil (P := Try.prog) W 27 63 a n cp 0 0 Try.underlying27
  clear hi hz0 hz1 hz2 hn
  cases a with
  | none =>
    have hnil : xs = [] := by
      rcases h.2.2 with h' | ⟨b, o, h', _⟩
      · exact h'
      · cases h'
    subst hnil
    obtain rfl : n = 0 := by have := HN.out; simpa using this.symm
    clear h
    go_enter Try.func104, Try.ntmps104
    go_wp2_with fail
    go_ret
    exact ⟨_, rfl, ⟨rfl, .inl ⟨rfl, rfl⟩⟩, Below.refl _ _⟩
  | some p =>
    have hfl : Hid (∀ j u, (flat xs)[j]? = some u → (w.alloc (.cells #[] 63)).cell? (Addr.add p j) = some u) := fun j u hu => by
      rcases h.2.2 with rfl | ⟨b, o, h', hbl, hall⟩
      · simp [flat] at hu
      · obtain rfl := Option.some.inj h'
        rw [Go.WideShapes.add_plain, ((Below.refl w.heap.size w).alloc (Nat.le_refl _) _).cell (p := ⟨b, o + j, none⟩) hbl]
        exact flat_cells hall j u hu
    have HO := Lib.hid (start_at (w := w) (Nat.le_refl _))
    clear h hc
    go_enter Try.func104, Try.ntmps104
    go_wp2_with (at_builtin; refine wpList_append_own _ rfl (.tmp 5) (.tmp 6) 27 rfl w.heap.size 63 i0 (.agg #[.int .i64 0, .string ⟨#[]⟩, .int .i64 0, .bool false, .bool false, .bool false, .int .i64 0]) 7 48 Try.underlying27 HI.out HZ.out.1 HZ.out.2.1 HZ.out.2.2 rfl (by decide) _ _ _ rfl HO.out p n cp (flat xs) rfl ?c0 hfl.out (flat_one xs) ?c3 ?c4 ?c5 ?c6)
    case c0 => rw [flat_len, HN.out]
    case c3 => unfold maxLen; simp; omega
    case c4 => simp; omega
    case c5 => simp
    case c6 =>
      intro v' w2 hown hgrow _
      have hb2 : Below w.heap.size w w2 := ((Below.refl w.heap.size w).alloc (Nat.le_refl _) _).grown hgrow (by simp) (fun j hj => HO.out.lt j hj |>.1)
      have hO2 := Lib.hid (show OwnV w2 w.heap.size v' xs by
        unfold OwnV
        rw [HN.out]
        have h := hown
        first | exact h | (rw [Nat.zero_add] at h; exact h))
      clear hown hgrow
      go_wp2_with fail
      go_ret
      exact ⟨_, rfl, hO2.out, hb2⟩

theorem closure (X : R) (b : Nat) (id : Int) (w : World) (h : w.cell? ⟨b, 0, none⟩ = some (.int .i64 id)) (hl : b < w.heap.size) :
    Calls Try.prog 114 #[.agg #[.int .i64 X.id, .string X.name, .int .i64 X.rank, .bool X.sec, .bool X.deb, .bool X.am, .int .i64 X.need], .pointer (some ⟨b, 0, none⟩)] w fun e w' => e = .returned (.bool (X.id == id)) ∧ Below w.heap.size w w' := by
  have h' : ∀ o, (w.alloc o).cell? ⟨b, 0, none⟩ = some (.int .i64 id) := fun o => by
    rw [((Below.refl w.heap.size w).alloc (Nat.le_refl _) o).cell (p := ⟨b, 0, none⟩) hl]; exact h
  have hb := fun o => (Below.refl w.heap.size w).alloc (Nat.le_refl _) o
  clear h
  go_enter Try.func114, Try.ntmps114
  go_wp2_with fail
  go_ret
  exact ⟨rfl, hb _⟩

def Found (xs : List R) (id : Int) (w : World) (e : Ending) (w' : World) : Prop := Below w.heap.size w w' ∧ ∃ i, e = .returned (.int .i64 i) ∧ Find xs id i
set_option maxHeartbeats 800000 in
theorem index (a : Option Addr) (n cp : Nat) (xs : List R) (id : Int) (b : Nat) (w : World) (hn : xs.length = n) (h : RulesAt w a cp xs) (hb : w.cell? ⟨b, 0, none⟩ = some (.int .i64 id)) (hbl : b < w.heap.size) :
    Calls Try.prog 113 #[.slice a n cp, .func (.func 114) #[] #[.pointer (some ⟨b, 0, none⟩)]] w (Found xs id w) := by
  have hc := h.at_
  have HN := Lib.hid hn
  have hnb : n ≤ cp := by have := h.1; omega
  have hle : n ≤ xs.length := by omega
  have h2 := h.2.1
  unfold maxLen at h2
  have HB := Lib.hid hb
  clear h hn hb
  go_enter Try.func113, Try.ntmps113
  go_wp2_with fail
  go_loopw [8] (fun i wr => ∃ k : Nat, k ≤ n ∧ i = .int .i64 k ∧ Hid (∀ (j : Nat) (p : R), j < k → xs[j]? = some p → p.id ≠ id) ∧ Below w.heap.size w wr) (fun i _ => n - (intOf i).toNat)
  case atStart => exact ⟨0, Nat.zero_le _, rfl, Lib.hid (fun j p hj => by omega), Below.refl _ _⟩
  case round =>
    obtain ⟨k, hk, rfl, HM, hbw⟩ := hrel
    by_cases hlt : k < n
    · have hx : k < xs.length := by omega
      obtain ⟨b', o, rfl, hbl', hcell0⟩ := hc.out k xs[k] (List.getElem?_eq_getElem hx)
      have HX := Lib.hid (List.getElem?_eq_getElem hx)
      obtain ⟨x0, x1, x2, x3, x4, x5, x6⟩ := hcell0.below hbw hbl'
      have k0 : 0 ≤ (k : Int) := by omega
      have k1 : (k : Int) < (n : Int) := by omega
      have hB2 := Lib.hid (show wr.cell? ⟨b, 0, none⟩ = some (.int .i64 id) by rw [hbw.cell (p := ⟨b, 0, none⟩) hbl]; exact HB.out)
      have hbl2 : b < wr.heap.size := Nat.lt_of_lt_of_le hbl hbw.size
      clear hcell0
      generalize xs[k] = X at *
      go_wp2_with fail
      refine (closure X b id _ hB2.out hbl2).mono ?_
      rintro e w1 ⟨rfl, hb1⟩
      have hb2 := hbw.trans (hb1.mono hbw.size)
      clear x0 x1 x2 x3 x4 x5 x6
      by_cases hid : X.id = id
      · have HF := Lib.hid (show Find xs id k from .inr ⟨k, X, rfl, hx, HX.out, hid, HM.out⟩)
        have hbe : (X.id == id) = true := by rw [hid]; simp
        clear hid
        rw [hbe]
        go_wp2_with fail
        go_ret
        exact ⟨hb2, _, rfl, HF.out⟩
      · have HM2 := Lib.hid (show ∀ (q : Nat) (p : R), q < k + 1 → xs[q]? = some p → p.id ≠ id from fun q p hq hp => by
          rcases Nat.lt_or_ge q k with h' | h'
          · exact HM.out q p h' hp
          · obtain rfl : q = k := by omega
            rw [HX.out] at hp
            rw [← Option.some.inj hp]
            exact hid)
        have hbe : (X.id == id) = false := by simpa using hid
        clear hid
        rw [hbe]
        go_wp2_with fail
        go_roundw
        case rel => exact ⟨k + 1, by omega, by go_num, HM2, hb2⟩
        case measure => simp [intOf]; omega
    · have HF := Lib.hid (show Find xs id (-1) from .inl ⟨rfl, fun j r hj => HM.out j r (by have := (List.getElem?_eq_some_iff.1 hj).1; have := HN.out; omega) hj⟩)
      go_wp2_with fail
      go_ret
      exact ⟨hbw, _, rfl, HF.out⟩
theorem ruleIndex (a : Option Addr) (n cp : Nat) (xs : List R) (id : Int) (w : World) (hn : xs.length = n) (h : RulesAt w a cp xs) :
    Calls Try.prog 81 #[.slice a n cp, .int .i64 id] w fun e w' => Below w.heap.size w w' ∧ ∃ i, e = .returned (.int .i64 i) ∧ Find xs id i := by
  have hbx := (Below.refl w.heap.size w).alloc (Nat.le_refl _) (Obj.cells #[.int .i64 id] 3)
  have hc : (w.alloc (Obj.cells #[.int .i64 id] 3)).cell? ⟨w.heap.size, 0, none⟩ = some (.int .i64 id) := cell_one_new w (.int .i64 id) 3 0 _ rfl
  have HX := Lib.hid (index a n cp xs id w.heap.size _ hn (h.below hbx) hc (by simp))
  clear hc h hn
  go_enter Try.func81, Try.ntmps81
  go_wp2_with fail
  refine HX.out.mono ?_
  rintro e w' ⟨hb, i, rfl, hF⟩
  have HF := Lib.hid hF
  have hb2 := hbx.trans (hb.mono hbx.size)
  clear hF
  go_wp2_with fail
  go_ret
  exact ⟨hb2, _, rfl, HF.out⟩
set_option maxHeartbeats 1600000 in
theorem impl (a : Option Addr) (n cp : Nat) (xs : List R) (id rank : Int) (w : World) (hn : xs.length = n) (h : RulesAt w a cp xs) (hsz : ∀ x ∈ xs, x.name.size ≤ maxLen) :
    Calls Try.prog 64 #[.slice a n cp, .int .i64 id, .int .i64 rank] w (Post xs id rank w) := by
  have HN := Lib.hid hn
  have HS := Lib.hid hsz
  have HA := Lib.hid h
  have hle : n ≤ xs.length := by omega
  clear h hsz hn
  go_enter Try.func64, Try.ntmps64
  go_wp2_with fail
  refine (GoodI.isValidRules a n cp xs _ HN.out HA.out HS.out).mono ?_
  rintro e w1 ⟨rfl, hb1⟩
  have HA2 := Lib.hid (HA.out.below hb1)
  cases hg : Gd.goodB xs with
  | false =>
    have HX2 := Lib.hid (Ans.no (xs := xs) (id := id) (rank := rank) (.inl hg))
    have hb := hb1.alloc hb1.size (Obj.cells #[] 63)
    have HO := Lib.hid (start_at (w := w1) hb1.size)
    clear hg
    go_wp2_with fail
    go_ret2
    exact ⟨_, [], false, rfl, HX2.out, HO.out, hb⟩
  | true =>
    have HG := Lib.hid hg
    have hn8 : n ≤ 8 := by have := (Gd.good_of hg).1; have := HN.out; omega
    clear hg
    go_wp2_with fail
    refine (ruleIndex a n cp xs id _ HN.out HA2.out).mono ?_
    rintro e w2 ⟨hb3, i, rfl, hF⟩
    have hb4 := hb1.trans (hb3.mono hb1.size)
    have HA3 := Lib.hid (HA.out.below hb4)
    have hsz2 : w.heap.size ≤ w2.heap.size := hb4.size
    clear hb3 hb1 HA2
    rcases hF with ⟨rfl, hno⟩ | ⟨k, X, rfl, hkl, hX, hidX, hf⟩
    · have HX2 := Lib.hid (Ans.no (xs := xs) (id := id) (rank := rank) (.inr hno))
      have hb := hb4.alloc hb4.size (Obj.cells #[] 63)
      have HO := Lib.hid (start_at (w := w2) hb4.size)
      clear hno
      go_wp2_with fail
      go_ret2
      exact ⟨_, [], false, rfl, HX2.out, HO.out, hb⟩
    · have hkn : k < n := by have := HN.out; omega
      have HX := Lib.hid hX
      have HFst := Lib.hid (And.intro hidX hf)
      have hk0 : ¬ ((k : Int) < 0) := by omega
      clear hX hidX hf
      go_wp2_with fail
      refine (clone a n cp xs _ HN.out HA3.out (by omega)).mono ?_
      rintro e w3 ⟨v, rfl, hv, hb5⟩
      have hO := Lib.hid hv
      have hb6 := hb4.trans (hb5.mono hb4.size)
      clear hb5 hb4 hv HA3
      rcases hO.out.shape with ⟨_, hnil⟩ | ⟨g, c, rfl, hcap, hR⟩
      · rw [hnil] at hkl; simp at hkl
      · rw [HN.out] at hR hcap ⊢
        have HR2 := Lib.hid hR
        clear hR hO
        have hc63 : c ≤ 9223372036854775807 := by have := HR2.out.rules.2.1; unfold maxLen at this; omega
        obtain ⟨x0, x1, x2, x3, x4, x5, x6⟩ := HR2.out.cells k hkn X HX.out
        have hfz := HR2.out.frozen
        have hg := HR2.out.lt
        obtain ⟨hg1, hg2⟩ := hg
        have HP := Lib.hid (HR2.out.put k 2 X { X with rank := rank } (.int .i64 rank) HX.out (by omega) rfl)
        have k0 : 0 ≤ (k : Int) := by omega
        have k1 : (k : Int) < (n : Int) := by omega
        have HSN := Lib.hid (set_names (rank := rank) HX.out HS.out)
        have hb7 : Below w.heap.size w (w3.setCell ⟨g, k * 7 + 2, none⟩ (.int .i64 rank)) := hb6.setCell (by show w.heap.size ≤ g; omega) _
        go_wp2_with fail
        generalize (w3.setCell ⟨g, k * 7 + 2, none⟩ (.int .i64 rank)) = wp at *
        clear x0 x1 x2 x3 x4 x5 x6 hb6 HR2 hfz
        refine (GoodI.isValidRules _ n c _ _ HP.out.1 HP.out.rules HSN.out).mono ?_
        rintro e w4 ⟨rfl, hb8⟩
        have HP2 := Lib.hid (HP.out.kept hb8)
        have hb9 := hb7.trans (hb8.mono hb7.size)
        clear hb8 HP hb7
        cases hg2 : Gd.goodB (xs.set k { X with rank := rank }) with
        | false =>
          have HX2 := Lib.hid (Ans.bad HG.out k X HX.out HFst.out.1 HFst.out.2 hg2)
          have hb := hb9.alloc hb9.size (Obj.cells #[] 63)
          have HO := Lib.hid (start_at (w := w4) hb9.size)
          clear hg2
          go_wp2_with fail
          go_ret2
          exact ⟨_, [], false, rfl, HX2.out, HO.out, hb⟩
        | true =>
          have HX2 := Lib.hid (Ans.yes HG.out k X HX.out HFst.out.1 HFst.out.2 hg2)
          clear hg2
          go_wp2_with fail
          go_ret2
          exact ⟨_, _, true, rfl, HX2.out, OwnV.up (OwnV.of HP2.out) (by omega), hb9⟩
end Go.Proofs.Ytbaflfbidgolfaa.ChangeI
