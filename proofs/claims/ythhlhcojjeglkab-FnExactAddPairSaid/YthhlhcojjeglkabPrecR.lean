/- Precedences: the model's list of the kinds to which a kind yields. No condition but that the kinds are below 8. -/
import Derived.Test.YthhlhcojjeglkabPrecP
import Derived.Test.YthhlhcojjeglkabBx
namespace Go.Proofs.Ythhlhcojjeglkab.PrecR
open Go.RowKit Bs Word PrecM PrecB IntF
set_option linter.unusedVariables false
def meas : Value → Value → Nat
  | .slice _ n _, .bool true => 10 - n
  | _, _ => 0
/-- what the list holds on its way -/
structure Way (z : List M) (c : Int) (xs : List Int) : Prop where
  asc : Asc xs
  tc : ∀ n ∈ xs, TC z c n
theorem Way.len {z : List M} {c : Int} {xs : List Int} {K : Nat} (h : Way z c xs) (hz : In K z) (hK : K ≤ 8) : xs.length ≤ 8 :=
  Nat.le_trans (asc_len (lo := 0) h.asc (fun x hx => by have := ((h.tc x hx).inr hz).2; omega)) hK
theorem Way.put {z : List M} {c : Int} {xs ys : List Int} {X : M} (h : Way z c xs) (hX : X ∈ z) (hc : X.a = c ∨ X.a ∈ xs) (ha : Asc ys) (hm : ∀ m, m ∈ ys ↔ m = X.b ∨ m ∈ xs) : Way z c ys := ⟨ha, fun n hn => by
  rcases (hm n).1 hn with rfl | hn
  · rcases hc with rfl | hc
    · exact .one hX
    · exact .tail (h.tc _ hc) hX
  · exact h.tc n hn⟩
theorem put_len {xs ys : List Int} {x : Int} (ha : Asc xs) (hb : Asc ys) (hx : x ∉ xs) (hm : ∀ m, m ∈ ys ↔ m = x ∨ m ∈ xs) : xs.length < ys.length := by
  have key : ∀ (zs us : List Int), Asc zs → (∀ m ∈ zs, m ∈ us) → zs.length ≤ us.length := by
    intro zs
    induction zs with
    | nil => intro us _ _; exact Nat.zero_le _
    | cons a zs ih =>
      intro us h hs
      have ha := hs a (by simp)
      have := ih (us.erase a) h.2 (fun m hm => by
        have hne : m ≠ a := fun e => by have := h.1 m hm; omega
        exact (List.mem_erase_of_ne hne).2 (hs m (by simp [hm])))
      have hl := List.length_erase_of_mem ha
      have := List.length_pos_of_mem ha
      simp only [List.length_cons]; omega
  have h1 := key xs (ys.erase x) ha (fun m hm' => by
    have hne : m ≠ x := fun e => hx (e ▸ hm')
    exact (List.mem_erase_of_ne hne).2 ((hm m).2 (.inr hm')))
  have hxy : x ∈ ys := (hm x).2 (.inl rfl)
  have hl := List.length_erase_of_mem hxy
  have := List.length_pos_of_mem hxy
  omega
/-- the first j pairs hold nothing new -/
def Shut (z : List M) (c : Int) (xs : List Int) (j : Nat) : Prop := ∀ (t : Nat) (x : M), t < j → z[t]? = some x → shutAt c xs x
theorem shut_next {z : List M} {c : Int} {xs : List Int} {j : Nat} {X : M} (h : Shut z c xs j) (hX : z[j]? = some X) (hs : shutAt c xs X) : Shut z c xs (j + 1) := fun t x ht hx => by
  rcases Nat.lt_or_ge t j with h' | h'
  · exact h t x h' hx
  · obtain rfl : t = j := by omega
    rw [hX] at hx; rw [← Option.some.inj hx]; exact hs
theorem meas_no {u : Value} : meas u (.bool false) = 0 := by unfold meas; split <;> simp_all
theorem meas_yes {w : World} {A : Nat} {u : Value} {ys : List Int} (h : Own LInt.rec 3 w A u ys) (hu : ∃ g, u.ownBlock = some g) : meas u (.bool true) = 10 - ys.length := by
  rcases h.shape with ⟨rfl, _⟩ | ⟨g, cap, rfl, _⟩
  · obtain ⟨g, hg⟩ := hu; cases hg
  · rfl
def New (c : Int) (xs : List Int) (X : M) (b : Bool) : Prop := b = true ↔ (X.a = c ∨ X.a ∈ xs) ∧ X.b ∉ xs
theorem new_shut {c : Int} {xs : List Int} {X : M} (h : New c xs X false) : shutAt c xs X := fun hc => by
  apply Classical.byContradiction
  intro hn
  have := h.2 ⟨hc, hn⟩
  cases this
set_option maxRecDepth 100000 in
set_option maxHeartbeats 3200000 in
theorem l4Reach (v : Value) (r : LPrecedence.R) (c : Int) (K : Nat) (w : World) (h : LPrecedence.Is w v r) (hz : In K r.over) (hK : K ≤ 8) :
    Calls Try.prog 40 #[v, .int .i64 c] w fun e w' => ∃ u, e = .returned u ∧ Own LInt.rec 3 w' w.heap.size u (reach K r.over c) ∧ (∃ g, u.ownBlock = some g) ∧ Below w.heap.size w w' := by
  obtain ⟨KK, z⟩ := r
  obtain ⟨s, rfl, h⟩ := h
  obtain ⟨a, cp, rfl, h⟩ := h
  simp only at h hz ⊢
  have hc := h.at_ LIntA2.rec
  have HIn := Lib.hid hz
  obtain ⟨n, hn⟩ : ∃ n, n = z.length := ⟨_, rfl⟩
  have hnb : n ≤ cp := by have := h.1; omega
  have h2 := h.2.1
  unfold maxLen at h2
  have HN := Lib.hid hn.symm
  rw [← hn]
  have hle : n ≤ z.length := by omega
  clear hn h hz
  have hb0 := (Below.refl w.heap.size w).alloc (Nat.le_refl _) (.cells #[.int .i64 KK, .slice a n cp] 29)
  have HB0 := Lib.hid ((Bx.new w 29 #[.int .i64 KK, .slice a n cp]).alloc (.cells #[] 3))
  have hb1 := hb0.alloc hb0.size (.cells #[] 3)
  have HO0 := Lib.hid (Own.start (T := LInt.rec) (E := 3) (A := w.heap.size) hb0.size)
  go_enter Try.func40, Try.ntmps40
  go_wp2_with fail
  generalize (w.alloc (.cells #[.int .i64 KK, .slice a n cp] 29)).alloc (.cells #[] 3) = wq at *
  go_loopw [5, 6] (fun so m wr => ∃ (o : Value) (xs : List Int) (more : Bool), o = so ∧ m = .bool more ∧ Hid (Own LInt.rec 3 wr w.heap.size o xs) ∧ Hid (∃ g, o.ownBlock = some g) ∧ Below w.heap.size w wr ∧ Hid (Bx wr w.heap.size 29 #[.int .i64 KK, .slice a n cp]) ∧ Hid (Way z c xs) ∧ Hid (more = false → Shut z c xs n)) (fun so m _ => meas so m)
  case atStart => exact ⟨_, [], true, rfl, rfl, Lib.hid (by simpa using HO0.out), Lib.hid ⟨_, rfl⟩, hb1, HB0, Lib.hid ⟨trivial, fun n hn => by cases hn⟩, Lib.hid (fun h => by cases h)⟩
  case round =>
    clear hb0 HB0 hb1 HO0
    obtain ⟨o, xs, more, rfl, rfl, HO, HU, hb, HB, HW, HS⟩ := hrel
    have HM0 := Lib.hid (meas_yes HO.out HU.out)
    have HL8 := Lib.hid (HW.out.len HIn.out hK)
    cases more with
    | false =>
      have HE := Lib.hid (reach_eq HIn.out HW.out.asc HW.out.tc (fun x hx => by
        obtain ⟨i, hi, rfl⟩ := List.getElem_of_mem hx
        exact HS.out rfl i _ (by have := HN.out; omega) (List.getElem?_eq_getElem hi)))
      have HO2 := Lib.hid (show Own LInt.rec 3 wr w.heap.size o (reach K z c) by rw [← HE.out]; exact HO.out)
      clear HE HO
      go_wp2_with fail
      go_ret
      exact ⟨_, rfl, HO2.out, HU.out, hb⟩
    | true =>
      go_wp2_with fail
      go_loopw [5, 6, 7] (fun so m2 i ws => ∃ (j : Nat) (o2 : Value) (ys : List Int) (more : Bool), j ≤ n ∧ i = .int .i64 j ∧ o2 = so ∧ m2 = .bool more ∧ Hid (Own LInt.rec 3 ws w.heap.size o2 ys) ∧ Hid (∃ g, o2.ownBlock = some g) ∧ Below w.heap.size w ws ∧ Hid (Bx ws w.heap.size 29 #[.int .i64 KK, .slice a n cp]) ∧ Hid (Way z c ys) ∧ Hid (more = false → Shut z c ys j) ∧ Hid (xs.length ≤ ys.length ∧ (more = true → xs.length < ys.length))) (fun _ _ i _ => n - (intOf i).toNat)
      case atStart => exact ⟨0, _, xs, false, Nat.zero_le _, rfl, rfl, rfl, HO, HU, hb, HB, HW, Lib.hid (fun _ t x ht => by omega), Lib.hid ⟨Nat.le_refl _, (fun h => by cases h)⟩⟩
      case round =>
        clear HO HU hb HB HW HS
        obtain ⟨j, o2, ys, more, hj, rfl, rfl, rfl, HO, HU, hb, HB, HW, HS, HG⟩ := hrel
        have p0 := HB.out.cell 0
        have p1 := HB.out.cell 1
        simp only [List.getElem?_toArray, List.getElem?_cons_zero, List.getElem?_cons_succ] at p0 p1
        by_cases hlt : j < n
        · have hx : j < z.length := by omega
          obtain ⟨b, o', rfl, hbl, hcell0⟩ := hc.out j z[j] (List.getElem?_eq_getElem hx)
          obtain ⟨q0, q1⟩ := LIntA2.cells (hcell0.below LIntA2.rec hb hbl)
          simp only [LIntA2.rec_n] at q0 q1
          have HX := Lib.hid (List.getElem?_eq_getElem hx)
          have HXM := Lib.hid (List.getElem_mem hx)
          clear hcell0
          generalize z[j] = X at *
          have HBX := Lib.hid (Bx.new wr 48 #[.int .i64 X.a, .int .i64 X.b])
          have HBA := Lib.hid (HB.out.alloc (Obj.cells #[.int .i64 X.a, .int .i64 X.b] 48))
          have hba := hb.alloc hb.size (Obj.cells #[.int .i64 X.a, .int .i64 X.b] 48)
          have HOA := Lib.hid (HO.out.alloc (Obj.cells #[.int .i64 X.a, .int .i64 X.b] 48))
          clear HB hb HO
          go_upto_region 9 with fail
          clear q0 q1 p0 p1
          generalize wr.alloc (Obj.cells #[.int .i64 X.a, .int .i64 X.b] 48) = wq2 at *
          generalize wr.heap.size = G at *
          have x0 := HBX.out.cell 0
          have x1 := HBX.out.cell 1
          simp only [List.getElem?_toArray, List.getElem?_cons_zero, List.getElem?_cons_succ] at x0 x1
          go_cut [39] (fun t wx => ∃ b : Bool, t = .bool b ∧ Hid (New c ys X b) ∧ wq2 = wx)
          case first =>
            have HIs := Lib.hid HOA.out.is
            by_cases g1 : X.a = c
            · have e1 : (X.a == c) = true := by simpa using g1
              have HN1 := Lib.hid (show New c ys X (!hasB ys X.b) by
                unfold New
                rw [Bool.not_eq_true', ← Bool.not_eq_true, has_iff]
                exact ⟨fun h => ⟨.inl g1, h⟩, fun h => h.2⟩)
              clear g1
              go_wp2_with fail
              refine (IntF.l1Has _ ys X.b _ HIs.out).mono ?_
              rintro e _ ⟨rfl, rfl⟩
              go_wp2_with fail
              go_meet
              exact ⟨_, rfl, HN1, rfl⟩
            · have e1 : (X.a == c) = false := by simpa using g1
              have HG1 := Lib.hid g1
              clear g1
              go_wp2_with fail
              refine (IntF.l1Has _ ys X.a _ HIs.out).mono ?_
              rintro e _ ⟨rfl, rfl⟩
              cases g2 : hasB ys X.a with
              | false =>
                have HN1 := Lib.hid (show New c ys X false by
                  refine ⟨(fun h => by cases h), ?_⟩
                  rintro ⟨h | h, _⟩
                  · exact absurd h HG1.out
                  · rw [has_iff.2 h] at g2; cases g2)
                clear g2
                go_wp2_with fail
                go_meet
                exact ⟨_, rfl, HN1, rfl⟩
              | true =>
                have HN1 := Lib.hid (show New c ys X (!hasB ys X.b) by
                  unfold New
                  rw [Bool.not_eq_true', ← Bool.not_eq_true, has_iff]
                  exact ⟨fun h => ⟨.inr (has_iff.1 g2), h⟩, fun h => h.2⟩)
                clear g2
                go_wp2_with fail
                refine (IntF.l1Has _ ys X.b _ HIs.out).mono ?_
                rintro e _ ⟨rfl, rfl⟩
                go_wp2_with fail
                go_meet
                exact ⟨_, rfl, HN1, rfl⟩
          case rest =>
            obtain ⟨b, rfl, HNw, rfl⟩ := hcut
            cases b with
            | false =>
              have HS2 := Lib.hid (show more = false → Shut z c ys (j + 1) from fun h => shut_next (HS.out h) HX.out (new_shut HNw.out))
              clear HNw x0 x1
              go_wp2_with fail
              go_roundw
              case rel => exact ⟨j + 1, _, ys, more, by omega, by go_num, rfl, rfl, HOA, HU, hba, HBA, HW, HS2, HG⟩
              case measure => simp [intOf]; omega
            | true =>
              have HNN := Lib.hid (HNw.out.1 rfl)
              have HIS := Lib.hid (HOA.out.isS HU.out)
              have HLy := Lib.hid (HW.out.len HIn.out hK)
              clear HNw
              go_wp2_with fail
              refine (l1Put _ ys X.b _ HIS.out HW.out.asc HNN.out.2 (by have := HLy.out; omega)).mono ?_
              rintro e w2 ⟨u2, zs, rfl, hasc, hmem, ho, hu, hb2⟩
              have HW2 := Lib.hid (HW.out.put HXM.out HNN.out.1 hasc hmem)
              have HG2 := Lib.hid (show xs.length ≤ zs.length ∧ (true = true → xs.length < zs.length) by
                have := put_len HW.out.asc hasc HNN.out.2 hmem
                have := HG.out.1
                exact ⟨by omega, fun _ => by omega⟩)
              have HO2 := Lib.hid (ho.low hba.size)
              have HU2 := Lib.hid hu
              have HB2 := Lib.hid (HBA.out.kept hb2)
              have hb3 := hba.trans (hb2.mono hba.size)
              clear ho hu hasc hmem hba hb2 HG HW HIS HOA HBA x0 x1 HBX
              go_wp2_with fail
              go_roundw
              case rel => exact ⟨j + 1, _, zs, true, by omega, by go_num, rfl, rfl, HO2, HU2, hb3, HB2, HW2, Lib.hid (fun h => by cases h), Lib.hid ⟨HG2.out.1, fun _ => HG2.out.2 trivial⟩⟩
              case measure => simp [intOf]; omega
        · obtain rfl : j = n := by omega
          have HMM := Lib.hid (show meas o2 (.bool more) < meas o (.bool true) by
            rw [HM0.out]
            have h8 := HL8.out
            cases more with
            | false => rw [meas_no]; omega
            | true => rw [meas_yes HO.out HU.out]; have := HG.out.2 rfl; have := HW.out.len HIn.out hK; omega)
          go_wp2_with fail
          go_roundw
          case rel => exact ⟨_, ys, more, rfl, rfl, HO, HU, hb, HB, HW, HS⟩
          case measure => exact HMM.out
theorem has_reach {K : Nat} {z : List M} {c : Nat} (hc : c < K) : hasB (reach K z c) c = yieldsB z c c := by
  rw [Bool.eq_iff_iff, has_iff, mem_reach, yields_iff]
  exact ⟨fun h => h.2, fun h => ⟨⟨by omega, by omega⟩, h⟩⟩
set_option maxRecDepth 100000 in
set_option maxHeartbeats 3200000 in
theorem l4Sound (v : Value) (r : LPrecedence.R) (K : Nat) (w : World) (h : LPrecedence.Is w v r) (hk : r.kinds = K) (hz : In K r.over) (hK : K ≤ 8) :
    Calls Try.prog 28 #[v] w fun e w' => e = .returned (.bool (soundB K r.over)) ∧ Below w.heap.size w w' := by
  have HIS := Lib.hid h
  obtain ⟨KK, z⟩ := r
  simp only at hk
  subst hk
  obtain ⟨s, rfl, h⟩ := h
  obtain ⟨a, cp, rfl, h⟩ := h
  simp only at h hz HIS ⊢
  have HIn := Lib.hid hz
  generalize z.length = n at *
  clear h hz
  have hb0 := (Below.refl w.heap.size w).alloc (Nat.le_refl _) (.cells #[.int .i64 K, .slice a n cp] 29)
  have HB0 := Lib.hid (Bx.new w 29 #[.int .i64 K, .slice a n cp])
  go_enter Try.func28, Try.ntmps28
  go_wp2_with fail
  generalize w.alloc (.cells #[.int .i64 K, .slice a n cp] 29) = wq at *
  go_loopw [3] (fun i wr => ∃ k : Nat, k ≤ K ∧ i = .int .i64 k ∧ Below w.heap.size w wr ∧ Hid (Bx wr w.heap.size 29 #[.int .i64 K, .slice a n cp]) ∧ Hid (∀ c : Nat, c < k → ¬ TC z c c)) (fun i _ => K - (intOf i).toNat)
  case atStart => exact ⟨0, Nat.zero_le _, rfl, hb0, HB0, Lib.hid (fun c hc => by omega)⟩
  case round =>
    clear hb0 HB0
    obtain ⟨k, hk, rfl, hb, HB, HT⟩ := hrel
    have p0 := HB.out.cell 0
    have p1 := HB.out.cell 1
    simp only [List.getElem?_toArray, List.getElem?_cons_zero, List.getElem?_cons_succ] at p0 p1
    by_cases hlt : k < K
    · have HR := Lib.hid (l4Reach _ ⟨K, z⟩ (k : Int) K wr (HIS.out.below hb) HIn.out hK)
      simp only at HR
      go_wp2_with fail
      refine HR.out.mono ?_
      rintro e w1 ⟨u, rfl, ho, hu, hb1⟩
      have HI := Lib.hid ho.is
      have HB2 := Lib.hid (HB.out.kept hb1)
      have hb2 := hb.trans (hb1.mono hb.size)
      clear ho hu hb1 hb HB p0 p1 HR
      go_wp2_with fail
      refine (IntF.l1Has _ _ (k : Int) _ HI.out).mono ?_
      rintro e _ ⟨rfl, rfl⟩
      rw [has_reach hlt]
      cases g : yieldsB z (k : Int) (k : Int) with
      | true =>
        have HF := Lib.hid (sound_no (k := (K : Int)) (yields_iff.1 g))
        clear g
        go_wp2_with fail
        go_ret
        exact ⟨ret_bool HF.out.symm, hb2⟩
      | false =>
        have HT2 := Lib.hid (show ∀ c : Nat, c < k + 1 → ¬ TC z c c from fun c hc t => by
          rcases Nat.lt_or_ge c k with h' | h'
          · exact HT.out c h' t
          · obtain rfl : c = k := by omega
            rw [yields_iff.2 t] at g; cases g)
        clear g
        go_wp2_with fail
        go_roundw
        case rel => exact ⟨k + 1, by omega, by go_num, hb2, HB2, HT2⟩
        case measure => simp [intOf]; omega
    · have HF := Lib.hid (sound_yes HIn.out (show ∀ c : Nat, (c : Int) < (K : Int) → ¬ TC z c c from fun c hc => HT.out c (by omega)))
      go_wp2_with fail
      go_ret
      exact ⟨ret_bool HF.out.symm, hb⟩
end Go.Proofs.Ythhlhcojjeglkab.PrecR
