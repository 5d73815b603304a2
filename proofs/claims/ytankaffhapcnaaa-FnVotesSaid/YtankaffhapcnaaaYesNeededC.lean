/- YesNeeded: what it answers, on both sides. No condition. -/
import Derived.Test.YtankaffhapcnaaaTalG
import Derived.Test.YtankaffhapcnaaaTalI
import Derived.Test.YtankaffhapcnaaaLTallyZ
namespace Go.Proofs.Ytankaffhapcnaaa.YesNeededC
open Go.RowKit Bs Word Tal TalS TalG
set_option linter.unusedVariables false
open TalN TalI
abbrev Ans := Tal.YesAns
theorem same {a0 a1 r0 s0 : Int} {r1 s1 : Bool} (h1 : Ans a0 a1 r0 r1) (h2 : Ans a0 a1 s0 s1) : r0 = s0 ∧ r1 = s1 := Tal.yes_same h1 h2
def Post (a0 a1 : Int) (w : World) (e : Ending) (w' : World) : Prop := ∃ r0 r1, e = .returned (.tuple #[.int .i64 r0, .bool r1]) ∧ Ans a0 a1 r0 r1 ∧ Below w.heap.size w w'
set_option maxRecDepth 100000 in
set_option maxHeartbeats 1600000 in
theorem spec (a0 a1 : Int) (w : World) : Calls Try.prog 55 #[.int .i64 a0, .int .i64 a1] w (Post a0 a1 w) := by
  have HN := Lib.hid (fun b (hx : need a0 = b) W => l11Need a0 b hx W)
  have HV := Lib.hid (fun b (hx : votes a1 = b) W => l11Votes a1 b hx W)
  cases h1 : need a0 with
  | false =>
    have HA := Lib.hid (show Ans a0 a1 0 false from .inl ⟨by rw [h1]; rfl, rfl, rfl⟩)
    replace HN := Lib.hid (HN.out _ h1)
    clear h1 HV
    go_enter Try.func55, Try.ntmps55
    go_wp2_with fail
    refine (HN.out _).mono ?_
    rintro e w' ⟨rfl, rfl⟩
    go_wp2_with fail
    go_ret2
    exact ⟨_, _, rfl, HA.out, Below.refl _ _⟩
  | true =>
  cases h2 : votes a1 with
  | false =>
    have HA := Lib.hid (show Ans a0 a1 0 false from .inl ⟨by rw [h1, h2]; rfl, rfl, rfl⟩)
    replace HN := Lib.hid (HN.out _ h1)
    replace HV := Lib.hid (HV.out _ h2)
    clear h1 h2
    go_enter Try.func55, Try.ntmps55
    go_wp2_with fail
    refine (HN.out _).mono ?_
    rintro e w' ⟨rfl, rfl⟩
    go_wp2_with fail
    refine (HV.out _).mono ?_
    rintro e w' ⟨rfl, rfl⟩
    go_wp2_with fail
    go_ret2
    exact ⟨_, _, rfl, HA.out, Below.refl _ _⟩
  | true =>
  replace HN := Lib.hid (HN.out _ h1)
  replace HV := Lib.hid (HV.out _ h2)
  have HK := Lib.hid h1
  have hv := votes_yes h2
  have H12 := Lib.hid (show (need a0 && votes a1) = true by rw [h1, h2]; rfl)
  clear h1 h2
  go_enter Try.func55, Try.ntmps55
  go_wp2_with fail
  refine (HN.out _).mono ?_
  rintro e w' ⟨rfl, rfl⟩
  go_wp2_with fail
  refine (HV.out _).mono ?_
  rintro e w' ⟨rfl, rfl⟩
  clear HN HV
  go_wp2_with fail
  go_loop [6] (fun i => ∃ k : Nat, k ≤ 2002 ∧ i = .int .i64 k ∧ Hid (∀ y, 0 ≤ y → y < (k : Int) → en a0 y a1 = false)) (fun i => 2002 - (intOf i).toNat)
  case atStart => exact ⟨0, by omega, rfl, Lib.hid (fun y h0 h => by omega)⟩
  case round =>
    obtain ⟨k, hk, rfl, HL⟩ := hrel
    have k0 : 0 ≤ (k : Int) := by omega
    by_cases hlt : k ≤ 2001
    · have k1 : (k : Int) ≤ 2001 := by omega
      have k2 : IntKind.i64.wrap ((k : Int) + 1) = (k : Int) + 1 := IntWalk.i64_in _ (by omega)
      obtain ⟨v, hv2⟩ : ∃ v, en a0 (k : Int) a1 = v := ⟨_, rfl⟩
      have HE := Lib.hid (fun W => l11Enough a0 k a1 v hv2 (by omega) (by omega) HK.out W)
      cases v with
      | true =>
        have HA := Lib.hid (show Ans a0 a1 k true from .inr ⟨H12.out, .inl ⟨rfl, k0, k1, hv2, fun y h0 h => HL.out y h0 h⟩⟩)
        clear hv2
        go_wp2_with fail
        refine (HE.out _).mono ?_
        rintro e w' ⟨rfl, rfl⟩
        go_wp2_with fail
        go_ret2
        exact ⟨_, _, rfl, HA.out, Below.refl _ _⟩
      | false =>
        have HL2 := Lib.hid (show ∀ y, 0 ≤ y → y < ((k + 1 : Nat) : Int) → en a0 y a1 = false from fun y h0 h => by
          by_cases hy : y = k
          · rw [hy]; exact hv2
          · exact HL.out y h0 (by omega))
        clear hv2
        go_wp2_with fail
        refine (HE.out _).mono ?_
        rintro e w' ⟨rfl, rfl⟩
        go_wp2_with fail
        go_round
        case rel => exact ⟨k + 1, by omega, by go_num, HL2⟩
        case measure => simp [intOf]; omega
    · have k1 : ¬ (k : Int) ≤ 2001 := by omega
      have HA := Lib.hid (show Ans a0 a1 0 false from .inr ⟨H12.out, .inr ⟨rfl, rfl, fun y h0 h => HL.out y h0 (by omega)⟩⟩)
      go_wp2_with fail
      go_ret2
      exact ⟨_, _, rfl, HA.out, Below.refl _ _⟩
set_option maxRecDepth 100000 in
set_option maxHeartbeats 1600000 in
theorem impl (a0 a1 : Int) (w : World) : Calls Try.prog 54 #[.int .i64 a0, .int .i64 a1] w (Post a0 a1 w) := by
  have HN := Lib.hid (fun b (hx : need a0 = b) W => isNeed a0 b hx W)
  have HV := Lib.hid (fun b (hx : votes a1 = b) W => areVotes a1 b hx W)
  obtain ⟨W, hW⟩ : ∃ W : World, W = (w.alloc (Obj.cells #[.int .i64 a0] 3)).alloc (Obj.cells #[.int .i64 a1] 3) := ⟨_, rfl⟩
  have hb : Below w.heap.size w W := by rw [hW]; exact ((Below.refl _ _).alloc (Nat.le_refl _) _).alloc (by simp) _
  have hsz : W.heap.size = w.heap.size + 1 + 1 := by rw [hW]; simp
  have q0 : W.cell? ⟨w.heap.size, 0, none⟩ = some (.int .i64 a0) := by rw [hW]; simp [go_sem]
  have q1 : W.cell? ⟨w.heap.size + 1, 0, none⟩ = some (.int .i64 a1) := by rw [hW]; simp [go_sem]
  have HZ := Lib.hid hsz
  clear hsz
  cases h1 : need a0 with
  | false =>
    have HA := Lib.hid (show Ans a0 a1 0 false from .inl ⟨by rw [h1]; rfl, rfl, rfl⟩)
    replace HN := Lib.hid (HN.out _ h1)
    clear h1 HV
    go_enter Try.func54, Try.ntmps54
    go_wp2_with fail
    rw [← hW]
    clear hW
    refine (HN.out _).mono ?_
    rintro e w' ⟨rfl, rfl⟩
    go_wp2_with fail
    go_ret2
    exact ⟨_, _, rfl, HA.out, hb⟩
  | true =>
  cases h2 : votes a1 with
  | false =>
    have HA := Lib.hid (show Ans a0 a1 0 false from .inl ⟨by rw [h1, h2]; rfl, rfl, rfl⟩)
    replace HN := Lib.hid (HN.out _ h1)
    replace HV := Lib.hid (HV.out _ h2)
    clear h1 h2
    go_enter Try.func54, Try.ntmps54
    go_wp2_with fail
    rw [← hW]
    clear hW
    refine (HN.out _).mono ?_
    rintro e w' ⟨rfl, rfl⟩
    go_wp2_with fail
    refine (HV.out _).mono ?_
    rintro e w' ⟨rfl, rfl⟩
    go_wp2_with fail
    go_ret2
    exact ⟨_, _, rfl, HA.out, hb⟩
  | true =>
  replace HN := Lib.hid (HN.out _ h1)
  replace HV := Lib.hid (HV.out _ h2)
  have HU := Lib.hid (fun W => numbers_up 0 2001 (by omega) W)
  have HA := Lib.hid (fun r0 r1 (h : TalF.Found (fun x => car a0 x a1) (upto 0 1 2002) r0 r1) => TalM.yes_found h1 h2 h)
  clear h1 h2
  go_enter Try.func54, Try.ntmps54
  go_wp2_with fail
  rw [← hW]
  clear hW
  refine (HN.out _).mono ?_
  rintro e w' ⟨rfl, rfl⟩
  go_wp2_with fail
  refine (HV.out _).mono ?_
  rintro e w' ⟨rfl, rfl⟩
  clear HN HV
  go_wp2_with fail
  refine (HU.out _).mono ?_
  rintro e w1 ⟨B1, B2, B3, rfl, g1, g2, g3, c1, c2, c3, hb1⟩
  have hsz : W.heap.size = w.heap.size + 1 + 1 := HZ.out
  have HFF := Lib.hid (TalF.firstY B1 B2 B3 w.heap.size (w.heap.size + 1) 0 2001 1 2002 (.inl rfl) (by omega) (by omega) (by omega) (fun x => car a0 x a1) w1 g1 g2 g3 c1 c2 c3 (Lib.hid (fun x X hX => testY w.heap.size (w.heap.size + 1) a0 a1 x X ((hX.cell (p := ⟨w.heap.size, 0, none⟩) (by have := hb1.size; show w.heap.size < _; omega)).trans ((hb1.cell (p := ⟨w.heap.size, 0, none⟩) (by show w.heap.size < _; omega)).trans q0)) ((hX.cell (p := ⟨w.heap.size + 1, 0, none⟩) (by have := hb1.size; show w.heap.size + 1 < _; omega)).trans ((hb1.cell (p := ⟨w.heap.size + 1, 0, none⟩) (by show w.heap.size + 1 < _; omega)).trans q1)))))
  clear hsz c1 c2 c3
  go_wp2_with fail
  refine HFF.out.mono ?_
  rintro e w2 ⟨r0, r1, rfl, hF, hb2⟩
  have HA2 := Lib.hid (HA.out _ _ hF)
  have hb3 := (hb.trans (hb1.mono hb.size)).trans (hb2.mono (hb.trans (hb1.mono hb.size)).size)
  clear hF HFF
  go_wp2_with fail
  go_ret2
  exact ⟨_, _, rfl, HA2.out, hb3⟩
end Go.Proofs.Ytankaffhapcnaaa.YesNeededC
