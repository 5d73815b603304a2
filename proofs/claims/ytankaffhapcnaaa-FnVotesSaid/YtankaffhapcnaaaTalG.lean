/- A tally is valid: the model's and the program's test. No condition. -/
import Derived.Test.YtankaffhapcnaaaTalS
namespace Go.Proofs.Ytankaffhapcnaaa.TalG
open Go.RowKit Bs Word Tal TalS
set_option linter.unusedVariables false
set_option maxRecDepth 100000 in
set_option maxHeartbeats 1600000 in
theorem l11Good (r : T) (v : Bool) (h : good r = v) (w : World) : Calls Try.prog 125 #[.agg #[.int .i64 r.yes, .int .i64 r.no, .int .i64 r.abstain]] w fun e w' => e = .returned (.bool v) ∧ Below w.heap.size w w' := by
  obtain ⟨y, n, a⟩ := r
  unfold good at h
  simp only at h
  have HV := Lib.hid (fun x b (hx : votes x = b) W => l11Votes x b hx W)
  have hb := (Below.refl w.heap.size w).alloc (Nat.le_refl _) (Obj.cells #[.int .i64 y, .int .i64 n, .int .i64 a] 71)
  cases h1 : votes y with
  | false =>
    rw [h1, Bool.false_and] at h
    subst h
    go_enter Try.func125, Try.ntmps125
    go_wp2_with fail
    refine (HV.out _ _ h1 _).mono ?_
    rintro e w' ⟨rfl, rfl⟩
    go_wp2_with fail
    go_ret
    exact ⟨rfl, hb⟩
  | true =>
  rw [h1, Bool.true_and] at h
  cases h2 : votes n with
  | false =>
    rw [h2, Bool.false_and] at h
    subst h
    go_enter Try.func125, Try.ntmps125
    go_wp2_with fail
    refine (HV.out _ _ h1 _).mono ?_
    rintro e w' ⟨rfl, rfl⟩
    go_wp2_with fail
    refine (HV.out _ _ h2 _).mono ?_
    rintro e w' ⟨rfl, rfl⟩
    go_wp2_with fail
    go_ret
    exact ⟨rfl, hb⟩
  | true =>
  rw [h2, Bool.true_and] at h
  go_enter Try.func125, Try.ntmps125
  go_wp2_with fail
  refine (HV.out _ _ h1 _).mono ?_
  rintro e w' ⟨rfl, rfl⟩
  go_wp2_with fail
  refine (HV.out _ _ h2 _).mono ?_
  rintro e w' ⟨rfl, rfl⟩
  go_wp2_with fail
  refine (HV.out _ _ h _).mono ?_
  rintro e w' ⟨rfl, rfl⟩
  go_wp2_with fail
  go_ret
  exact ⟨by first | rfl | (cases v <;> rfl), hb⟩
set_option maxRecDepth 100000 in
set_option maxHeartbeats 1600000 in
theorem isValid (r : T) (v : Bool) (h : good r = v) (w : World) : Calls Try.prog 64 #[.agg #[.int .i64 r.yes, .int .i64 r.no, .int .i64 r.abstain]] w fun e w' => e = .returned (.bool v) ∧ Below w.heap.size w w' := by
  obtain ⟨y, n, a⟩ := r
  unfold good at h
  simp only at h
  have HV := Lib.hid (fun x b (hx : votes x = b) W => areVotes x b hx W)
  have hb := (Below.refl w.heap.size w).alloc (Nat.le_refl _) (Obj.cells #[.int .i64 y, .int .i64 n, .int .i64 a] 71)
  cases h1 : votes y with
  | false =>
    rw [h1, Bool.false_and] at h
    subst h
    go_enter Try.func64, Try.ntmps64
    go_wp2_with fail
    refine (HV.out _ _ h1 _).mono ?_
    rintro e w' ⟨rfl, rfl⟩
    go_wp2_with fail
    go_ret
    exact ⟨rfl, hb⟩
  | true =>
  rw [h1, Bool.true_and] at h
  cases h2 : votes n with
  | false =>
    rw [h2, Bool.false_and] at h
    subst h
    go_enter Try.func64, Try.ntmps64
    go_wp2_with fail
    refine (HV.out _ _ h1 _).mono ?_
    rintro e w' ⟨rfl, rfl⟩
    go_wp2_with fail
    refine (HV.out _ _ h2 _).mono ?_
    rintro e w' ⟨rfl, rfl⟩
    go_wp2_with fail
    go_ret
    exact ⟨rfl, hb⟩
  | true =>
  rw [h2, Bool.true_and] at h
  go_enter Try.func64, Try.ntmps64
  go_wp2_with fail
  refine (HV.out _ _ h1 _).mono ?_
  rintro e w' ⟨rfl, rfl⟩
  go_wp2_with fail
  refine (HV.out _ _ h2 _).mono ?_
  rintro e w' ⟨rfl, rfl⟩
  go_wp2_with fail
  refine (HV.out _ _ h _).mono ?_
  rintro e w' ⟨rfl, rfl⟩
  go_wp2_with fail
  go_ret
  exact ⟨by first | rfl | (cases v <;> rfl), hb⟩
set_option maxRecDepth 100000 in
set_option maxHeartbeats 1600000 in
theorem l11Adopted (k : Int) (r : T) (v : Bool) (hk : need k = true) (hg : good r = true) (h : en k r.yes r.no = v) (w : World) : Calls Try.prog 126 #[.int .i64 k, .agg #[.int .i64 r.yes, .int .i64 r.no, .int .i64 r.abstain]] w fun e w' => e = .returned (.bool v) ∧ Below w.heap.size w w' := by
  obtain ⟨h1, h2, _⟩ := good_parts hg
  obtain ⟨y, n, a⟩ := r
  simp only at h h1 h2
  have HV := Lib.hid (fun W => l11Enough k y n v h (by omega) (by omega) hk W)
  have hb := (Below.refl w.heap.size w).alloc (Nat.le_refl _) (Obj.cells #[.int .i64 y, .int .i64 n, .int .i64 a] 71)
  clear h h1 h2 hk hg
  go_enter Try.func126, Try.ntmps126
  go_wp2_with fail
  refine (HV.out _).mono ?_
  rintro e w' ⟨rfl, rfl⟩
  go_wp2_with fail
  go_ret
  exact ⟨rfl, hb⟩
end Go.Proofs.Ytankaffhapcnaaa.TalG
