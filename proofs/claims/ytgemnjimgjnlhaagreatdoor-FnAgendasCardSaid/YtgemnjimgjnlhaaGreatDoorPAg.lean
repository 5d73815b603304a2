/- What an item's line says: cut as the program reads it, split as the model reads it. Mathematics alone. -/
import Derived.Test.YtgemnjimgjnlhaaGreatDoorAgX
import Derived.Test.YtgemnjimgjnlhaaGreatDoorPCut
import Derived.Lib.AtoiAll
import Derived.IntWalk
namespace Go.Proofs.YtgemnjimgjnlhaaGreatDoor.PAg
open Go SplitMath NumMath Word Ag AgX PCut
set_option linter.unusedVariables false
def P (l : List UInt8) (r : M) : Prop := okB r = true ∧ (lineM r).data.toList = l
def pre : List UInt8 := [44, 32, 110, 111, 116, 32, 98, 101, 102, 111, 114, 101, 32]
def D (n : Int) : List UInt8 := Lib.itoa (n / 10) ++ Lib.itoa (n % 10)
def clockL (t : Int) : List UInt8 := D (t / 60) ++ ([58] ++ D (t % 60))
def restL (t : Int) : List UInt8 := if t = -1 then [41] else pre ++ (clockL t ++ [41])
theorem num_list (n : Int) : (num n).data.toList = Lib.itoa n := by unfold num; rfl
theorem two_list (n : Int) : (two n).data.toList = D n := by
  unfold two D
  simp [ByteArray.data_append, num_list]
theorem clock_list (n : Int) : (clock n).data.toList = clockL n := by
  unfold clock clockL
  simp [ByteArray.data_append, two_list]
theorem line_list (r : M) : (lineM r).data.toList = Lib.itoa r.id ++ ([46, 32] ++ (r.title.data.toList ++ ([32, 40] ++ (Lib.itoa r.mins ++ ([32, 109, 105, 110] ++ restL r.time))))) := by
  by_cases h : r.time = -1
  · rw [line_no h]
    unfold front restL
    rw [if_pos h]
    simp [ByteArray.data_append, num_list]
  · rw [line_yes h]
    unfold front restL pre
    rw [if_neg h]
    simp [ByteArray.data_append, num_list, clock_list]
theorem digits1 {a : Nat} (h : a < 10) : Lib.itoa (a : Int) = [UInt8.ofNat (48 + a)] := by
  unfold Lib.itoa
  rw [if_neg (by omega), show ((a : Int)).toNat = a by omega, Lib.decDigits_one h]
theorem D_two {n : Int} (h0 : 0 ≤ n) (h1 : n ≤ 99) : ∃ a b : Nat, a < 10 ∧ b < 10 ∧ n = 10 * a + b ∧ D n = [UInt8.ofNat (48 + a), UInt8.ofNat (48 + b)] := by
  obtain ⟨a, ha⟩ : ∃ a : Nat, n / 10 = a := ⟨(n / 10).toNat, by omega⟩
  obtain ⟨b, hb⟩ : ∃ b : Nat, n % 10 = b := ⟨(n % 10).toNat, by omega⟩
  refine ⟨a, b, by omega, by omega, by omega, ?_⟩
  unfold D
  rw [ha, hb, digits1 (by omega), digits1 (by omega)]
  rfl
theorem atoi_two : ∀ a : Nat, a < 10 → ∀ b : Nat, b < 10 → Lib.atoiAll [UInt8.ofNat (48 + a), UInt8.ofNat (48 + b)] = .ok (10 * (a : Int) + b) := by decide
theorem atoi_D {n : Int} (h0 : 0 ≤ n) (h1 : n ≤ 99) : Lib.atoiAll (D n) = .ok n := by
  obtain ⟨a, b, ha, hb, hn, hD⟩ := D_two h0 h1
  rw [hD, atoi_two a ha b hb, hn]
theorem D_clean {n : Int} (h0 : 0 ≤ n) (h1 : n ≤ 99) (c : UInt8) (hc : isD c = false) : ∀ b ∈ D n, b ≠ c := by
  unfold D
  intro b hb
  rcases List.mem_append.1 hb with h | h
  · exact digit_ne (itoa_digits _ (by omega) b h) hc
  · exact digit_ne (itoa_digits _ (by omega) b h) hc
def R2 (q : M) : List UInt8 := Lib.itoa q.mins ++ ([32, 109, 105, 110] ++ restL q.time)
def R1 (q : M) : List UInt8 := q.title.data.toList ++ ([32, 40] ++ R2 q)
theorem cut1 {q : M} (h : okB q = true) : Lib.cut (lineM q).data.toList [46, 32] = (Lib.itoa q.id, R1 q, true) := by
  rw [line_list]
  exact cut_at (t := [32]) (fun b hb => digit_ne (itoa_digits _ (by have := (ok_parts h).1; omega) b hb) (by decide))
theorem cut2 {q : M} (h : okB q = true) : Lib.cut (R1 q) [32, 40] = (q.title.data.toList, R2 q, true) :=
  cut_at (t := [40]) (word_ne (ok_parts h).2.1 32 (by decide))
theorem cut3 {q : M} (h : okB q = true) : Lib.cut (R2 q) [32, 109, 105, 110] = (Lib.itoa q.mins, restL q.time, true) :=
  cut_at (t := [109, 105, 110]) (fun b hb => digit_ne (itoa_digits _ (by have := (ok_parts h).2.2.1; omega) b hb) (by decide))
theorem cut4 {t : Int} (h0 : 0 ≤ t) (h1 : t ≤ 1439) : Lib.cut (clockL t) [58] = (D (t / 60), D (t % 60), true) :=
  cut_at (t := []) (D_clean (by omega) (by omega) 58 (by decide))
theorem pre_no : Lib.hasPrefix (restL (-1)) pre = false := by decide
theorem pre_yes {t : Int} (h : t ≠ -1) : Lib.hasPrefix (restL t) pre = true ∧ Lib.trimPrefix (restL t) pre = clockL t ++ [41] := by
  have e : restL t = pre ++ (clockL t ++ [41]) := by unfold restL; rw [if_neg h]
  have h1 : Lib.hasPrefix (restL t) pre = true := by
    unfold Lib.hasPrefix
    rw [e, List.isPrefixOf_iff_prefix]
    exact List.prefix_append _ _
  refine ⟨h1, ?_⟩
  unfold Lib.trimPrefix
  rw [if_pos h1, e, List.drop_left]
theorem suf_yes (l : List UInt8) : Lib.trimSuffix (l ++ [41]) [41] = l := by
  have h1 : Lib.hasSuffix (l ++ [41]) [41] = true := by
    unfold Lib.hasSuffix
    rw [List.isSuffixOf_iff_suffix]
    exact List.suffix_append _ _
  unfold Lib.trimSuffix
  rw [if_pos h1]
  simp
/-- the time that the rest of a line says -/
def TimeOf (l : List UInt8) (t : Int) : Prop := (Lib.hasPrefix l pre = false → t = -1) ∧ (Lib.hasPrefix l pre = true → ∀ u, 0 ≤ u → u ≤ 1439 → Lib.trimSuffix (Lib.trimPrefix l pre) [41] = clockL u → t = u)
def NumOf (l : List UInt8) (v : Int) : Prop := Numeral l v ∨ ((∀ v, ¬ Numeral l v) ∧ v = 0)
theorem num_of {n v : Int} (h0 : 0 ≤ n) (h1 : n ≤ 1000) (h : NumOf (Lib.itoa n) v) : v = n := by
  have hn : Numeral (Lib.itoa n) n := ⟨by omega, by omega, rfl⟩
  rcases h with h | ⟨h, _⟩
  · exact h.uniq hn
  · exact absurd hn (h n)
theorem time_of {t v : Int} (h0 : t = -1 ∨ (0 ≤ t ∧ t ≤ 1439)) (h : TimeOf (restL t) v) : v = t := by
  by_cases e : t = -1
  · subst e; exact h.1 pre_no
  · obtain ⟨p1, p2⟩ := pre_yes e
    have h3 : 0 ≤ t ∧ t ≤ 1439 := by omega
    exact h.2 p1 t h3.1 h3.2 (by rw [p2, suf_yes])
theorem ok_t {q : M} (h : okB q = true) : q.time = -1 ∨ (0 ≤ q.time ∧ q.time ≤ 1439) := by
  by_cases e : q.time = -1
  · exact .inl e
  · exact .inr (ok_time h e)
theorem impl_found {l b1 r1 b2 r2 b3 r3 : List UInt8} {o1 o2 o3 : Bool} (h1 : Lib.cut l [46, 32] = (b1, r1, o1)) (h2 : Lib.cut r1 [32, 40] = (b2, r2, o2)) (h3 : Lib.cut r2 [32, 109, 105, 110] = (b3, r3, o3)) {i m t : Int} (hi : NumOf b1 i) (hm : NumOf b3 m) (ht : TimeOf r3 t) {ti : ByteArray} (hti : ti.data.toList = b2) : ∀ q, P l q → (⟨i, ti, m, t⟩ : M) = q := fun q hq => by
  obtain ⟨hok, rfl⟩ := hq
  rw [cut1 hok] at h1
  simp only [Prod.mk.injEq] at h1
  obtain ⟨rfl, rfl, _⟩ := h1
  rw [cut2 hok] at h2
  simp only [Prod.mk.injEq] at h2
  obtain ⟨rfl, rfl, _⟩ := h2
  rw [cut3 hok] at h3
  simp only [Prod.mk.injEq] at h3
  obtain ⟨rfl, rfl, _⟩ := h3
  obtain ⟨p1, p2, p3, p4⟩ := ok_parts hok
  have e1 := num_of (by omega) (by omega) hi
  have e3 := num_of (by omega) (by omega) hm
  have e4 := time_of (ok_t hok) ht
  have e2 : ti = q.title := ByteArray.ext (Array.toList_inj.1 hti)
  rw [e1, e2, e3, e4]
theorem P_uniq {l : List UInt8} {r r' : M} (h : P l r) (h' : P l r') : r = r' := by
  obtain ⟨hok, rfl⟩ := h
  obtain ⟨p1, p2, p3, p4⟩ := ok_parts hok
  refine impl_found (cut1 hok) (cut2 hok) (cut3 hok) (i := r.id) (m := r.mins) (t := r.time) (ti := r.title) (.inl ⟨by omega, by omega, rfl⟩) (.inl ⟨by omega, by omega, rfl⟩) ⟨fun hp => ?_, fun hp u u0 u1 hu => ?_⟩ rfl r' h'
  · rcases ok_t hok with e | e
    · exact e
    · have := (pre_yes (t := r.time) (by omega)).1; rw [this] at hp; cases hp
  · by_cases e : r.time = -1
    · rw [e, pre_no] at hp; cases hp
    · have hT := ok_time hok e
      rw [(pre_yes e).2, suf_yes] at hu
      have c1 := cut4 hT.1 hT.2
      rw [hu, cut4 u0 u1] at c1
      simp only [Prod.mk.injEq, and_true] at c1
      have a1 := atoi_D (n := r.time / 60) (by omega) (by omega)
      have a2 := atoi_D (n := r.time % 60) (by omega) (by omega)
      rw [← c1.1, atoi_D (by omega) (by omega)] at a1
      rw [← c1.2, atoi_D (by omega) (by omega)] at a2
      have b1 := Lib.NumEnd.ok.inj a1
      have b2 := Lib.NumEnd.ok.inj a2
      omega
/-- the clock that a text says -/
def ClockOf (l : List UInt8) (v : Int) : Prop := ∀ u, 0 ≤ u → u ≤ 1439 → l = clockL u → v = u
def AtoiOf (l : List UInt8) (v : Int) : Prop := ∀ n, Lib.atoiAll l = .ok n → v = n
theorem clock_of {l hh mm : List UInt8} {o : Bool} {h m : Int} (hc : Lib.cut l [58] = (hh, mm, o)) (h1 : AtoiOf hh h) (h2 : AtoiOf mm m) : ClockOf l (IntKind.i64.wrap (IntKind.i64.wrap (h * 60) + m)) := fun u u0 u1 hl => by
  subst hl
  rw [cut4 u0 u1] at hc
  simp only [Prod.mk.injEq] at hc
  obtain ⟨rfl, rfl, _⟩ := hc
  have e1 := h1 _ (atoi_D (by omega) (by omega))
  have e2 := h2 _ (atoi_D (by omega) (by omega))
  subst e1 e2
  rw [IntWalk.i64_in (u / 60 * 60) (by omega), IntWalk.i64_in _ (by omega)]
  omega
theorem P_fine {l : List UInt8} {r : M} (h : P l r) : LAgendaItem.Fine r := by
  have := (ok_parts h.1).2.1
  unfold isWordB at this
  rw [Bool.and_eq_true, Bool.and_eq_true] at this
  have h2 := of_decide_eq_true this.1.2
  unfold LAgendaItem.Fine maxLen
  omega
end Go.Proofs.YtgemnjimgjnlhaaGreatDoor.PAg
