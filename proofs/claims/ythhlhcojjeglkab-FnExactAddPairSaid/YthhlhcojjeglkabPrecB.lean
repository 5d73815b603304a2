/- Pairs of kinds: which stands before which, and whether a kind is there; model and program. No condition. -/
import Derived.Test.YthhlhcojjeglkabWord
import Derived.Test.YthhlhcojjeglkabLIntZ
import Derived.Test.YthhlhcojjeglkabLPrecedenceD
import Derived.Test.YthhlhcojjeglkabPrecM
import Derived.BigQuiet
import Derived.IntWalk
import Derived.Deep.DeepCutAuto
import Derived.Deep.DrawnRows
import Derived.Deep.RegionHeld3
namespace Go.Proofs.Ythhlhcojjeglkab.PrecB
open Go.RowKit Bs Word PrecM
set_option linter.unusedVariables false
theorem ret_int {a b : Int} (h : a = b) : Ending.returned (.int .i64 a) = .returned (.int .i64 b) := by rw [h]
theorem lex_lt {x y : M} (h : x.a < y.a) : lexB x y = true := by unfold lexB; simp [h]
theorem lex_gt {x y : M} (h : y.a < x.a) : lexB x y = false := by
  unfold lexB
  rw [decide_eq_false (by omega), Bool.false_or, show (x.a == y.a) = false from by rw [beq_eq_false_iff_ne]; omega, Bool.false_and]
theorem lex_eq {x y : M} (h : x.a = y.a) : lexB x y = decide (x.b < y.b) := by
  unfold lexB
  rw [decide_eq_false (by omega), Bool.false_or, h]; simp
set_option maxRecDepth 100000 in
theorem before (x y : M) (w : World) : Calls Try.prog 27 #[.agg #[.int .i64 x.a, .int .i64 x.b], .agg #[.int .i64 y.a, .int .i64 y.b]] w fun e w' => e = .returned (.bool (lexB x y)) ∧ Below w.heap.size w w' := by
  have hb := fun o1 o2 => ((Below.refl w.heap.size w).alloc (Nat.le_refl _) o1).alloc (by simp) o2
  by_cases h1 : x.a < y.a
  · have HL := Lib.hid (lex_lt h1)
    have d1 : decide (x.a < y.a) = true := decide_eq_true h1
    go_enter Try.func27, Try.ntmps27
    go_wp2_with fail
    go_ret
    exact ⟨ret_bool HL.out.symm, hb _ _⟩
  · have d1 : decide (x.a < y.a) = false := decide_eq_false h1
    by_cases h2 : x.a = y.a
    · have HL := Lib.hid (lex_eq h2)
      have d2 : (x.a == y.a) = true := by simpa using h2
      clear h1 h2
      go_enter Try.func27, Try.ntmps27
      go_wp2_with fail
      go_ret
      exact ⟨ret_bool HL.out.symm, hb _ _⟩
    · have HL := Lib.hid (lex_gt (show y.a < x.a by omega))
      have d2 : (x.a == y.a) = false := by simpa using h2
      clear h1 h2
      go_enter Try.func27, Try.ntmps27
      go_wp2_with fail
      go_ret
      exact ⟨ret_bool HL.out.symm, hb _ _⟩
theorem notNaN (a : Int) (w : World) : Calls Try.prog 46 #[.int .i64 a] w fun e w' => e = .returned (.bool false) ∧ w = w' := by
  have h : (a != a) = false := by simp
  go_enter Try.func46, Try.ntmps46
  go_wp2_with fail
  go_ret
  exact ⟨rfl, rfl⟩
def cmpI (a b : Int) : Int := if a < b then -1 else if b < a then 1 else 0
theorem cmp_lt {a b : Int} (h : a < b) : cmpI a b = -1 := if_pos h
theorem cmp_gt {a b : Int} (h : b < a) : cmpI a b = 1 := by unfold cmpI; rw [if_neg (by omega), if_pos h]
theorem cmp_eq {a b : Int} (h : a = b) : cmpI a b = 0 := by unfold cmpI; rw [if_neg (by omega), if_neg (by omega)]
theorem compareI (a b : Int) (w : World) : Calls Try.prog 45 #[.int .i64 a, .int .i64 b] w fun e w' => e = .returned (.int .i64 (cmpI a b)) ∧ w = w' := by
  have HC : Hid ((a < b ∧ cmpI a b = -1) ∨ (¬ a < b ∧ b < a ∧ cmpI a b = 1) ∨ (¬ a < b ∧ ¬ b < a ∧ cmpI a b = 0)) := by
    show _ ∨ _
    rcases Int.lt_trichotomy a b with h | h | h
    · exact .inl ⟨h, cmp_lt h⟩
    · exact .inr (.inr ⟨by omega, by omega, cmp_eq h⟩)
    · exact .inr (.inl ⟨by omega, h, cmp_gt h⟩)
  go_enter Try.func45, Try.ntmps45
  go_wp2_with fail
  refine (notNaN a _).mono ?_
  rintro e w1 ⟨rfl, rfl⟩
  go_wp2_with fail
  refine (notNaN b _).mono ?_
  rintro e w1 ⟨rfl, rfl⟩
  rcases HC.out with ⟨h1, h2⟩ | ⟨h0, h1, h2⟩ | ⟨h0, h1, h2⟩
  · have HE := Lib.hid h2
    clear h2
    go_wp2_with fail
    go_ret
    exact ⟨ret_int HE.out.symm, rfl⟩
  · have HE := Lib.hid h2
    clear h2
    go_wp2_with fail
    go_ret
    exact ⟨ret_int HE.out.symm, rfl⟩
  · have HE := Lib.hid h2
    clear h2
    go_wp2_with fail
    go_ret
    exact ⟨ret_int HE.out.symm, rfl⟩
def cmp2 (x y : M) : Int := if x.a = y.a then cmpI x.b y.b else cmpI x.a y.a
theorem cmp2_lex (x y : M) : decide (cmp2 x y < 0) = lexB x y := by
  unfold cmp2
  by_cases h : x.a = y.a
  · rw [if_pos h, lex_eq h]
    unfold cmpI
    by_cases h1 : x.b < y.b
    · rw [if_pos h1, decide_eq_true h1]; rfl
    · rw [if_neg h1, decide_eq_false h1]; split <;> rfl
  · rw [if_neg h]
    unfold cmpI
    by_cases h1 : x.a < y.a
    · rw [if_pos h1, lex_lt h1]; rfl
    · rw [if_neg h1, lex_gt (by omega)]; split <;> rfl
set_option maxRecDepth 100000 in
set_option maxHeartbeats 400000 in
theorem compare2 (x y : M) (w : World) (g h : Nat) (x0 : w.cell? ⟨g, 0, none⟩ = some (.int .i64 x.a)) (x1 : w.cell? ⟨g, 1, none⟩ = some (.int .i64 x.b)) (y0 : w.cell? ⟨h, 0, none⟩ = some (.int .i64 y.a)) (y1 : w.cell? ⟨h, 1, none⟩ = some (.int .i64 y.b)) :
    Calls Try.prog 41 #[.slice (some ⟨g, 0, none⟩) 2 2, .slice (some ⟨h, 0, none⟩) 2 2] w fun e w' => e = .returned (.int .i64 (cmp2 x y)) ∧ w = w' := by
  by_cases e : x.a = y.a
  · have HE := Lib.hid (show cmp2 x y = cmpI x.b y.b from if_pos e)
    have H1 := Lib.hid (show cmpI x.a y.a = 0 from cmp_eq e)
    have z0 : ((0 : Int) != 0) = false := rfl
    clear e
    go_enter Try.func41, Try.ntmps41
    go_wp2_with fail
    go_loop [11] (fun i => i = .int .i64 0 ∨ i = .int .i64 1 ∨ (i = .int .i64 2 ∧ Hid (cmpI x.b y.b = 0))) (fun i => 2 - (intOf i).toNat)
    case atStart => exact .inl rfl
    case round =>
      rcases hrel with rfl | rfl | ⟨rfl, HZ⟩
      · go_wp2_with fail
        refine (compareI x.a y.a _).mono ?_
        rintro e w1 ⟨rfl, rfl⟩
        rw [H1.out]
        go_wp2_with fail
        go_round
        case rel => exact .inr (.inl (by go_num))
        case measure => simp [intOf]
      · go_wp2_with fail
        refine (compareI x.b y.b _).mono ?_
        rintro e w1 ⟨rfl, rfl⟩
        by_cases hz : cmpI x.b y.b = 0
        · have HZ := Lib.hid hz
          rw [hz]
          clear hz
          go_wp2_with fail
          go_round
          case rel => exact .inr (.inr ⟨by go_num, HZ⟩)
          case measure => simp [intOf]
        · have hne : (cmpI x.b y.b != 0) = true := by simpa using hz
          generalize cmpI x.b y.b = c at *
          clear hz
          go_wp2_with fail
          go_ret
          exact ⟨ret_int HE.out.symm, rfl⟩
      · go_wp2_with fail
        go_ret
        exact ⟨ret_int (by rw [HE.out, HZ.out]), rfl⟩
  · have HE := Lib.hid (show cmp2 x y = cmpI x.a y.a from if_neg e)
    have hne : (cmpI x.a y.a != 0) = true := by
      unfold cmpI
      split
      · rfl
      · split
        · rfl
        · omega
    clear e
    go_enter Try.func41, Try.ntmps41
    go_wp2_with fail
    go_loop [11] (fun i => i = .int .i64 0) (fun i => 2 - (intOf i).toNat)
    case atStart => rfl
    case round =>
      obtain rfl := hrel
      go_wp2_with fail
      refine (compareI x.a y.a _).mono ?_
      rintro e w1 ⟨rfl, rfl⟩
      generalize cmpI x.a y.a = c at *
      go_wp2_with fail
      go_ret
      exact ⟨ret_int HE.out.symm, rfl⟩
section
attribute [local go_sem ↓] Go.wp_at_zero Go.wp_at_succ
set_option maxRecDepth 100000 in
theorem isPairBefore (x y : M) (w : World) : Calls Try.prog 29 #[.agg #[.int .i64 x.a, .int .i64 x.b], .agg #[.int .i64 y.a, .int .i64 y.b]] w fun e w' => e = .returned (.bool (lexB x y)) ∧ Below w.heap.size w w' := by
  have HB := Lib.hid (show Below w.heap.size w ((w.alloc (.cells #[.int .i64 x.a, .int .i64 x.b] 48)).alloc (.cells #[.int .i64 y.a, .int .i64 y.b] 48)) from ((Below.refl _ _).alloc (Nat.le_refl _) _).alloc (by simp) _)
  have HC := Lib.hid (compare2 x y ((w.alloc (.cells #[.int .i64 x.a, .int .i64 x.b] 48)).alloc (.cells #[.int .i64 y.a, .int .i64 y.b] 48)).drew w.heap.size (w.heap.size + 1) (by simp [go_sem]) (by simp [go_sem]) (by simp [go_sem]) (by simp [go_sem]))
  have HL := Lib.hid (cmp2_lex x y)
  generalize cmp2 x y = c at *
  go_enter Try.func29, Try.ntmps29
  go_wp2_with fail
  go_region_with (go_at_call 41; refine HC.out.mono ?_; rintro e w1 ⟨rfl, rfl⟩)
  all_goals (go_wp2_with fail; go_ret; exact ⟨ret_bool HL.out, HB.out.drew⟩)
end
theorem isKind (K : Int) (s : Value) (k : Int) (w : World) : Calls Try.prog 37 #[.agg #[.int .i64 K, s], .int .i64 k] w fun e w' => e = .returned (.bool (inK K k)) ∧ Below w.heap.size w w' := by
  have hb := fun o1 => ((Below.refl w.heap.size w).alloc (Nat.le_refl _) o1)
  by_cases h : 0 ≤ k
  · have HL := Lib.hid (show inK K k = decide (k < K) by unfold inK; rw [decide_eq_true h, Bool.true_and])
    go_enter Try.func37, Try.ntmps37
    go_wp2_with fail
    go_ret
    exact ⟨ret_bool HL.out.symm, hb _⟩
  · have HL := Lib.hid (show inK K k = false by unfold inK; rw [decide_eq_false h, Bool.false_and])
    go_enter Try.func37, Try.ntmps37
    go_wp2_with fail
    go_ret
    exact ⟨ret_bool HL.out.symm, hb _⟩
end Go.Proofs.Ythhlhcojjeglkab.PrecB
