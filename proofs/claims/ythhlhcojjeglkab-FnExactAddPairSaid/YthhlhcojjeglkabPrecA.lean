/- Precedences: a pair put in its place. No condition. -/
import Derived.Test.YthhlhcojjeglkabPrecS
import Derived.Test.YthhlhcojjeglkabLIntA2Kconcat
import Derived.Deep.DeepCutAuto
import Derived.Laws.StructEq
namespace Go.Proofs.Ythhlhcojjeglkab.PrecA
open Go.RowKit Bs Word PrecM PrecB PrecG PrecS Sq
set_option linter.unusedVariables false
theorem lex_iff {x y : M} : lexB x y = true ↔ x.a < y.a ∨ (x.a = y.a ∧ x.b < y.b) := by unfold lexB; simp
theorem lex_trans {x y u : M} (h : lexB x y = true) (g : lexB y u = true) : lexB x u = true := by
  rw [lex_iff] at *; omega
theorem lex_irr (x : M) : lexB x x = false := by
  cases h : lexB x x with
  | false => rfl
  | true => rw [lex_iff] at h; omega
theorem good_lt {K : Int} {z : List M} (h : PrecM.Good K z) : ∀ (j i : Nat) (a b : M), i < j → z[i]? = some a → z[j]? = some b → lexB a b = true
  | 0, i, _, _, hij, _, _ => by omega
  | j + 1, i, a, b, hij, ha, hb => by
    obtain ⟨x, hx, _, hp⟩ := h.2.2.2 (j + 1) (List.getElem?_eq_some_iff.1 hb).1
    rw [hb] at hx
    obtain rfl := Option.some.inj hx
    have hj : j < z.length := by have := (List.getElem?_eq_some_iff.1 hb).1; omega
    have hjp := hp z[j] (by omega) (by rw [Nat.add_sub_cancel]; exact List.getElem?_eq_getElem hj)
    by_cases e : i = j
    · subst e
      rw [List.getElem?_eq_getElem hj] at ha
      rw [← Option.some.inj ha]; exact hjp
    · exact lex_trans (good_lt h j i a z[j] (by omega) ha (List.getElem?_eq_getElem hj)) hjp
def posL (z : List M) (x : M) : Nat := (z.findIdx? (fun y => !lexB y x)).getD z.length
def insL (z : List M) (x : M) : List M := z.take (posL z x) ++ [x] ++ z.drop (posL z x)
theorem pos_hit {z : List M} {x Y : M} {k : Nat} (h : First (fun y => !lexB y x) z k) (hY : z[k]? = some Y) (hl : lexB Y x = false) : posL z x = k := by
  unfold posL; rw [first_hit h hY (by simp [hl])]; rfl
theorem pos_end {z : List M} {x : M} {k : Nat} (h : First (fun y => !lexB y x) z k) (hk : z.length = k) : posL z x = k := by
  unfold posL; rw [first_none h (by omega)]; exact hk
theorem pos_le (z : List M) (x : M) : posL z x ≤ z.length := by
  unfold posL
  cases h : z.findIdx? (fun y => !lexB y x) with
  | none => exact Nat.le_refl _
  | some k => obtain ⟨_, hX, _⟩ := idx_some h; have := (List.getElem?_eq_some_iff.1 hX).1; show k ≤ _; omega
theorem pos_low {z : List M} {x y : M} {i : Nat} (hi : i < posL z x) (hy : z[i]? = some y) : lexB y x = true := by
  have hf : First (fun y => !lexB y x) z (posL z x) := by
    unfold posL
    cases h : z.findIdx? (fun y => !lexB y x) with
    | none =>
      intro j y hj hy
      exact idx_none h y (List.mem_of_getElem? hy)
    | some k => obtain ⟨_, _, _, hf⟩ := idx_some h; exact hf
  have := hf i y hi hy
  simpa using this
theorem ins_len (z : List M) (x : M) : (insL z x).length = z.length + 1 := by
  have := pos_le z x
  unfold insL
  simp
  omega
/-- a list that holds a pair twice is no valid one -/
theorem ins_new {K : Int} {z : List M} {x : M} (hx : x ∈ z) : goodB K (insL z x) = false := by
  cases h : goodB K (insL z x) with
  | false => rfl
  | true =>
    exfalso
    have g := good_of h
    obtain ⟨i, hi, he⟩ := List.getElem_of_mem hx
    have hle := pos_le z x
    have hp : (insL z x)[posL z x]? = some x := by
      unfold insL
      rw [List.append_assoc, List.getElem?_append_right (by rw [List.length_take]; omega), List.length_take, Nat.min_eq_left hle, Nat.sub_self]; rfl
    rcases Nat.lt_or_ge i (posL z x) with h' | h'
    · have := pos_low h' (List.getElem?_eq_getElem hi)
      rw [he, lex_irr] at this; cases this
    · have hq : (insL z x)[i + 1]? = some x := by
        unfold insL
        rw [List.getElem?_append_right (by simp; omega)]
        simp only [List.length_append, List.length_take, List.length_cons, List.length_nil, Nat.min_eq_left hle]
        rw [List.getElem?_drop, show posL z x + (i + 1 - (posL z x + (0 + 1))) = i by omega, List.getElem?_eq_getElem hi, he]
      have := good_lt g (i + 1) (posL z x) x x (by omega) hp hq
      rw [lex_irr] at this; cases this
noncomputable def okA (r : LPrecedence.R) (x : M) : Bool := goodB r.kinds r.over && (goodB r.kinds (insL r.over x) && soundB r.kinds (insL r.over x))
noncomputable def adA (r : LPrecedence.R) (a b : Int) : LPrecedence.R × Bool := if okA r ⟨a, b⟩ = true then (⟨r.kinds, insL r.over ⟨a, b⟩⟩, true) else (⟨0, []⟩, false)
theorem ad_bad {r : LPrecedence.R} {a b : Int} (h : okA r ⟨a, b⟩ = false) : adA r a b = (⟨0, []⟩, false) := by unfold adA; rw [h]; rfl
theorem ad_good {r : LPrecedence.R} {a b : Int} (h : okA r ⟨a, b⟩ = true) : adA r a b = (⟨r.kinds, insL r.over ⟨a, b⟩⟩, true) := by unfold adA; rw [h]; rfl
def Ans (z0 : LPrecedence.R) (a1 a2 : Int) (r0 : LPrecedence.R) (r1 : Bool) : Prop := adA z0 a1 a2 = (r0, r1)
theorem same {z0 : LPrecedence.R} {a1 a2 : Int} {r0 s0 : LPrecedence.R} {r1 s1 : Bool} (h : Ans z0 a1 a2 r0 r1) (h' : Ans z0 a1 a2 s0 s1) : r0 = s0 ∧ r1 = s1 := by have := h.symm.trans h'; simpa using this
theorem len0 {z0 : LPrecedence.R} {a1 a2 : Int} {r0 : LPrecedence.R} {r1 : Bool} (h : Ans z0 a1 a2 r0 r1) : r0.over.length ≤ 1048576 := by
  unfold Ans adA at h
  split at h
  · rename_i hg
    simp only [Prod.mk.injEq] at h
    unfold okA at hg
    rw [Bool.and_eq_true, Bool.and_eq_true] at hg
    have := (good_of hg.2.1).2.2.1
    rw [← h.1]
    simp only
    omega
  · simp only [Prod.mk.injEq] at h; rw [← h.1]; simp
def Post (z0 : LPrecedence.R) (a1 a2 : Int) (w : World) (e : Ending) (w' : World) : Prop := ∃ v0 r0 r1, e = .returned (.tuple #[v0, .bool r1]) ∧ Ans z0 a1 a2 r0 r1 ∧ LPrecedence.Own w' w.heap.size v0 r0 ∧ Below w.heap.size w w'
/-- what the test at a place tells -/
def PosT (z : List M) (x : M) (k : Nat) (v : Bool) : Prop := (v = true → ∃ Y, z[k]? = some Y ∧ lexB Y x = true) ∧ (v = false → posL z x = k)
theorem first_more {z : List M} {x : M} {k : Nat} (h : First (fun y => !lexB y x) z k) (g : ∃ Y, z[k]? = some Y ∧ lexB Y x = true) : First (fun y => !lexB y x) z (k + 1) := by
  obtain ⟨Y, hY, hl⟩ := g
  exact first_next h hY (by simp [hl])
def memB (z : List M) (x : M) : Bool := (z.findIdx? (fun y => (y.a == x.a) && (y.b == x.b))).isSome
theorem mem_of {z : List M} {x : M} (h : memB z x = true) : x ∈ z := by
  unfold memB at h
  obtain ⟨k, hk⟩ := Option.isSome_iff_exists.1 h
  obtain ⟨Y, hY, hp, _⟩ := idx_some hk
  have : Y = x := by
    rw [Bool.and_eq_true] at hp
    have h1 : Y.a = x.a := by simpa using hp.1
    have h2 : Y.b = x.b := by simpa using hp.2
    cases Y; cases x; simp_all
  rw [← this]; exact List.mem_of_getElem? hY
theorem row_shape {w : World} {A E n cnt : Nat} {v : Value} {cs : List Value} (h : w.ownsRow A E n v cnt cs) : ∃ a c, v = .slice a cnt c := by
  rcases h.2 with ⟨h', hz⟩ | ⟨g, cap, cur, h', _⟩
  · exact ⟨_, _, by rw [h', hz]⟩
  · exact ⟨_, _, h'⟩
theorem eqPair (a b c d : Int) (w : World) : (Op.equalIn 10000 48 (.agg #[.int .i64 a, .int .i64 b]) (.agg #[.int .i64 c, .int .i64 d])).run Try.prog w = .ok (a == c && b == d) w := by
  have u3 := Try.underlying3
  have a3 : ∀ w, (isAgg 3).run Try.prog w = .ok false w := fun w => by
    unfold isAgg
    rw [Sem.run_bind, run_underlying u3 w]
    rfl
  have z3 : ∀ w, (sizeOf 3).run Try.prog w = .ok 1 w := fun w => by
    have h := LInt.info
    cases h' : Try.prog.info? 3 with
    | none => rw [h'] at h; cases h
    | some i =>
      rw [h'] at h
      simp only [Option.map_some, Option.some.injEq, Prod.mk.injEq] at h
      simp [sizeOf, typeInfo, h', h.2]
  rw [show (10000 : Nat) = 9999 + 1 from rfl, Op.equalIn]
  simp only [Sem.run_bind, run_underlying Try.underlying48, Result.andThen_ok]
  simp only [Std.Legacy.Range.forIn_eq_forIn_range', Std.Legacy.Range.size, Nat.sub_zero, Nat.add_sub_cancel, Nat.div_one, List.range'_succ, List.range'_zero, List.forIn_cons, List.forIn_nil]
  go_simp
  by_cases h1 : a = c <;> by_cases h2 : b = d <;> simp [h1, h2]
set_option maxRecDepth 100000 in
set_option maxHeartbeats 1600000 in
theorem l4Direct (v : Value) (r : LPrecedence.R) (lo hi : Int) (w : World) (h : LPrecedence.Is w v r) :
    Calls Try.prog 26 #[v, .int .i64 lo, .int .i64 hi] w fun e w' => e = .returned (.bool (memB r.over ⟨lo, hi⟩)) ∧ Below w.heap.size w w' := by
  obtain ⟨K, z⟩ := r
  obtain ⟨s, rfl, h⟩ := h
  obtain ⟨a, cp, rfl, h⟩ := h
  simp only at h ⊢
  have hc := h.at_ LIntA2.rec
  obtain ⟨n, hn⟩ : ∃ n, n = z.length := ⟨_, rfl⟩
  have hnb : n ≤ cp := by have := h.1; omega
  have h2 := h.2.1
  unfold maxLen at h2
  have HN := Lib.hid hn.symm
  rw [← hn]
  have hle : n ≤ z.length := by omega
  clear hn h
  have hb0 := (Below.refl w.heap.size w).alloc (Nat.le_refl _) (.cells #[.int .i64 K, .slice a n cp] 29)
  have HB0 := Lib.hid (Bx.new w 29 #[.int .i64 K, .slice a n cp])
  go_enter Try.func26, Try.ntmps26
  go_wp2_with fail
  generalize w.alloc (.cells #[.int .i64 K, .slice a n cp] 29) = wq at *
  have p0 := HB0.out.cell 0
  have p1 := HB0.out.cell 1
  simp only [List.getElem?_toArray, List.getElem?_cons_zero, List.getElem?_cons_succ] at p0 p1
  go_loop [7] (fun i => ∃ k : Nat, k ≤ n ∧ i = .int .i64 k ∧ Hid (First (fun y => (y.a == lo) && (y.b == hi)) z k)) (fun i => n - (intOf i).toNat)
  case atStart => exact ⟨0, Nat.zero_le _, rfl, Lib.hid first_zero⟩
  case round =>
    obtain ⟨k, hk, rfl, HF⟩ := hrel
    by_cases hlt : k < n
    · have hx : k < z.length := by omega
      obtain ⟨b, o, rfl, hbl, hcell0⟩ := hc.out k z[k] (List.getElem?_eq_getElem hx)
      obtain ⟨q0, q1⟩ := LIntA2.cells (hcell0.below LIntA2.rec hb0 hbl)
      simp only [LIntA2.rec_n] at q0 q1
      have HX := Lib.hid (List.getElem?_eq_getElem hx)
      clear hcell0
      generalize z[k] = X at *
      have heq := fun W => eqPair X.a X.b lo hi W
      cases g1 : (X.a == lo) with
      | false =>
        have HF2 := Lib.hid (first_next HF.out HX.out (show ((X.a == lo) && (X.b == hi)) = false by rw [g1]; rfl))
        go_wp2_with fail
        go_round
        case rel => exact ⟨k + 1, by omega, by go_num, HF2⟩
        case measure => simp [intOf]; omega
      | true =>
        cases g2 : (X.b == hi) with
        | false =>
          have HF2 := Lib.hid (first_next HF.out HX.out (show ((X.a == lo) && (X.b == hi)) = false by rw [g1, g2]; rfl))
          go_wp2_with fail
          go_round
          case rel => exact ⟨k + 1, by omega, by go_num, HF2⟩
          case measure => simp [intOf]; omega
        | true =>
          have HE := Lib.hid (show memB z ⟨lo, hi⟩ = true by unfold memB; rw [first_hit HF.out HX.out (show ((X.a == lo) && (X.b == hi)) = true by rw [g1, g2]; rfl)]; rfl)
          go_wp2_with fail
          go_ret
          exact ⟨ret_bool HE.out.symm, hb0⟩
    · have HE := Lib.hid (show memB z ⟨lo, hi⟩ = false by unfold memB; rw [first_none HF.out (by have := HN.out; omega)]; rfl)
      go_wp2_with fail
      go_ret
      exact ⟨ret_bool HE.out.symm, hb0⟩
end Go.Proofs.Ythhlhcojjeglkab.PrecA
