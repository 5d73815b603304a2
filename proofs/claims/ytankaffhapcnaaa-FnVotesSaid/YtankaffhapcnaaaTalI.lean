/- impl.numbers and the tests that firstThat is given. No condition. -/
import Derived.Test.YtankaffhapcnaaaTalM
namespace Go.Proofs.Ytankaffhapcnaaa.TalI
open Go.RowKit Bs Word Tal TalS TalN TalF TalM
set_option linter.unusedVariables false
/-- the iterator: where it keeps its bounds -/
def Nums (a b d : Int) (w : World) (e : Ending) (w' : World) : Prop := ∃ B1 B2 B3 : Nat, e = .returned (.func (.func 146) #[] #[.pointer (some ⟨B1, 0, none⟩), .pointer (some ⟨B2, 0, none⟩), .pointer (some ⟨B3, 0, none⟩)]) ∧
  B1 < w'.heap.size ∧ B2 < w'.heap.size ∧ B3 < w'.heap.size ∧ w'.cell? ⟨B1, 0, none⟩ = some (.int .i64 a) ∧ w'.cell? ⟨B2, 0, none⟩ = some (.int .i64 b) ∧ w'.cell? ⟨B3, 0, none⟩ = some (.int .i64 d) ∧ Below w.heap.size w w'
set_option maxRecDepth 100000 in
set_option maxHeartbeats 1600000 in
theorem numbers_up (a b : Int) (h : a ≤ b) (w : World) : Calls Try.prog 117 #[.int .i64 a, .int .i64 b] w (Nums a b 1 w) := by
  have hd : ¬ b < a := by omega
  have hb := (((Below.refl w.heap.size w).alloc (Nat.le_refl _) (Obj.cells #[.int .i64 a] 3)).alloc (by simp) (Obj.cells #[.int .i64 b] 3)).alloc (by simp; omega) (Obj.cells #[.int .i64 1] 3)
  go_enter Try.func117, Try.ntmps117
  go_wp2_with fail
  go_ret
  refine ⟨_, _, _, rfl, ?_, ?_, ?_, ?_, ?_, ?_, hb⟩
  all_goals (simp [go_sem]; try omega)
set_option maxRecDepth 100000 in
set_option maxHeartbeats 1600000 in
theorem numbers_down (a b : Int) (h : b < a) (w : World) : Calls Try.prog 117 #[.int .i64 a, .int .i64 b] w (Nums a b (-1) w) := by
  have hb := (((Below.refl w.heap.size w).alloc (Nat.le_refl _) (Obj.cells #[.int .i64 a] 3)).alloc (by simp) (Obj.cells #[.int .i64 b] 3)).alloc (by simp; omega) (Obj.cells #[.int .i64 (-1)] 3)
  go_enter Try.func117, Try.ntmps117
  go_wp2_with fail
  go_ret
  refine ⟨_, _, _, rfl, ?_, ?_, ?_, ?_, ?_, ?_, hb⟩
  all_goals (simp [go_sem]; try omega)
theorem testY (P0 P1 : Nat) (k n x : Int) (W : World) (h0 : W.cell? ⟨P0, 0, none⟩ = some (.int .i64 k)) (h1 : W.cell? ⟨P1, 0, none⟩ = some (.int .i64 n)) :
    Calls Try.prog 118 #[.int .i64 x, .pointer (some ⟨P0, 0, none⟩), .pointer (some ⟨P1, 0, none⟩)] W fun e W' => e = .returned (.bool (car k x n)) ∧ Below W.heap.size W W' := by
  have HC := Lib.hid (fun v (h : car k x n = v) W => isCarried k x n v h W)
  generalize car k x n = v at *
  go_enter Try.func118, Try.ntmps118
  go_wp2_with fail
  refine (HC.out _ rfl _).mono ?_
  rintro e w' ⟨rfl, rfl⟩
  go_wp2_with fail
  go_ret
  exact ⟨rfl, Below.refl _ _⟩
theorem testN (P0 P1 : Nat) (k y x : Int) (W : World) (h0 : W.cell? ⟨P0, 0, none⟩ = some (.int .i64 k)) (h1 : W.cell? ⟨P1, 0, none⟩ = some (.int .i64 y)) :
    Calls Try.prog 123 #[.int .i64 x, .pointer (some ⟨P0, 0, none⟩), .pointer (some ⟨P1, 0, none⟩)] W fun e W' => e = .returned (.bool (car k y x)) ∧ Below W.heap.size W W' := by
  have HC := Lib.hid (fun v (h : car k y x = v) W => isCarried k y x v h W)
  generalize car k y x = v at *
  go_enter Try.func123, Try.ntmps123
  go_wp2_with fail
  refine (HC.out _ rfl _).mono ?_
  rintro e w' ⟨rfl, rfl⟩
  go_wp2_with fail
  go_ret
  exact ⟨rfl, Below.refl _ _⟩
theorem testS (P0 : Nat) (t : T) (x : Int) (W : World) (h0 : W.cell? ⟨P0, 0, none⟩ = some (.int .i64 t.yes)) (h1 : W.cell? ⟨P0, 1, none⟩ = some (.int .i64 t.no)) :
    Calls Try.prog 127 #[.int .i64 x, .pointer (some ⟨P0, 0, none⟩)] W fun e W' => e = .returned (.bool (car x t.yes t.no)) ∧ Below W.heap.size W W' := by
  have HC := Lib.hid (fun v (h : car x t.yes t.no = v) W => isCarried x t.yes t.no v h W)
  generalize car x t.yes t.no = v at *
  go_enter Try.func127, Try.ntmps127
  go_wp2_with fail
  refine (HC.out _ rfl _).mono ?_
  rintro e w' ⟨rfl, rfl⟩
  go_wp2_with fail
  go_ret
  exact ⟨rfl, Below.refl _ _⟩
end Go.Proofs.Ytankaffhapcnaaa.TalI
