/- MostNo: what it answers, on both sides. No condition. -/
import Derived.Test.YtankaffhapcnaaaTalG
import Derived.Test.YtankaffhapcnaaaTalI
import Derived.Test.YtankaffhapcnaaaLTallyZ
namespace Go.Proofs.Ytankaffhapcnaaa.MostNoC
open Go.RowKit Bs Word Tal TalS TalG
set_option linter.unusedVariables false
open TalN TalI
abbrev Ans := Tal.NoAns
theorem same {a0 a1 r0 s0 : Int} {r1 s1 : Bool} (h1 : Ans a0 a1 r0 r1) (h2 : Ans a0 a1 s0 s1) : r0 = s0 ∧ r1 = s1 := Tal.no_same h1 h2
def Post (a0 a1 : Int) (w : World) (e : Ending) (w' : World) : Prop := ∃ r0 r1, e = .returned (.tuple #[.int .i64 r0, .bool r1]) ∧ Ans a0 a1 r0 r1 ∧ Below w.heap.size w w'
set_option maxRecDepth 100000 in
set_option maxHeartbeats 1600000 in
theorem spec (a0 a1 : Int) (w : World) : Calls Try.prog 59 #[.int .i64 a0, .int .i64 a1] w (Post a0 a1 w) := by
  have HN := Lib.hid (fun b (hx : need a0 = b) W => l11Need a0 b hx W)
  have HV := Lib.hid (fun b (hx : votes a1 = b) W => l11Votes a1 b hx W)
  cases h1 : need a0 with
  | false =>
    have HA := Lib.hid (show Ans a0 a1 0 false from .inl ⟨by rw [h1]; rfl, rfl, rfl⟩)
    replace HN := Lib.hid (HN.out _ h1)
    clear h1 HV
    go_enter Try.func59, Try.ntmps59
    go_wp2_with fail
    refine (HN.out _).mono ?_
    rintro e w' ⟨rfl, rfl⟩
    go_wp2_with fail
    go_ret2
    exact ⟨_, _, rfl, HA.out, Below.refl _ _⟩
  | true =>
  cases h2 : votes a1 with
  | false =>
    have HA := Lib.hid (show Ans a0 a1 0 false from .inl ⟨by rw [h1, h2]; rfl, rfl, rfl⟩)
    replace HN := Lib.hid (HN.out _ h1)
    replace HV := Lib.hid (HV.out _ h2)
    clear h1 h2
    go_enter Try.func59, Try.ntmps59
    go_wp2_with fail
    refine (HN.out _).mono ?_
    rintro e w' ⟨rfl, rfl⟩
    go_wp2_with fail
    refine (HV.out _).mono ?_
    rintro e w' ⟨rfl, rfl⟩
    go_wp2_with fail
    go_ret2
    exact ⟨_, _, rfl, HA.out, Below.refl _ _⟩
  | true =>
  replace HN := Lib.hid (HN.out _ h1)
  replace HV := Lib.hid (HV.out _ h2)
  have HK := Lib.hid h1
  have hv := votes_yes h2
  have H12 := Lib.hid (show (need a0 && votes a1) = true by rw [h1, h2]; rfl)
  clear h1 h2
  go_enter Try.func59, Try.ntmps59
  go_wp2_with fail
  refine (HN.out _).mono ?_
  rintro e w' ⟨rfl, rfl⟩
  go_wp2_with fail
  refine (HV.out _).mono ?_
  rintro e w' ⟨rfl, rfl⟩
  clear HN HV
  go_wp2_with fail
  go_loop [6] (fun i => ∃ (k : Nat) (x : Int), k ≤ 1001 ∧ i = .int .i64 x ∧ Hid (x = (k : Int) - 1) ∧ Hid (∀ m, x < m → m ≤ 1000 → en a0 a1 m = false)) (fun i => (intOf i + 1).toNat)
  case atStart => exact ⟨1001, 1000, by omega, rfl, Lib.hid (by omega), Lib.hid (fun y h0 h => by omega)⟩
  case round =>
    obtain ⟨k, x, hk, rfl, HX, HL⟩ := hrel
    by_cases hlt : 0 ≤ x
    · have k1 : x ≤ 1000 := by have := HX.out; omega
      have k2 : IntKind.i64.wrap (x - 1) = x - 1 := IntWalk.i64_in _ (by omega)
      obtain ⟨v, hv2⟩ : ∃ v, en a0 a1 x = v := ⟨_, rfl⟩
      have HE := Lib.hid (fun W => l11Enough a0 a1 x v hv2 (by omega) (by omega) HK.out W)
      cases v with
      | true =>
        have HA := Lib.hid (show Ans a0 a1 x true from .inr ⟨H12.out, .inl ⟨rfl, hlt, k1, hv2, fun y h0 h => HL.out y h0 h⟩⟩)
        clear hv2
        go_wp2_with fail
        refine (HE.out _).mono ?_
        rintro e w' ⟨rfl, rfl⟩
        go_wp2_with fail
        go_ret2
        exact ⟨_, _, rfl, HA.out, Below.refl _ _⟩
      | false =>
        have HL2 := Lib.hid (show ∀ m, x - 1 < m → m ≤ 1000 → en a0 a1 m = false from fun y h0 h => by
          by_cases hy : y = x
          · rw [hy]; exact hv2
          · exact HL.out y (by omega) h)
        have HX2 := Lib.hid (show x - 1 = ((k - 1 : Nat) : Int) - 1 by have := HX.out; omega)
        clear hv2
        go_wp2_with fail
        refine (HE.out _).mono ?_
        rintro e w' ⟨rfl, rfl⟩
        go_wp2_with fail
        go_round
        case rel => exact ⟨k - 1, x - 1, by omega, by first | rfl | go_num, HX2, HL2⟩
        case measure => simp [intOf]; omega
    · have HA := Lib.hid (show Ans a0 a1 0 false from .inr ⟨H12.out, .inr ⟨rfl, rfl, fun y h0 h => HL.out y (by omega) h⟩⟩)
      go_wp2_with fail
      go_ret2
      exact ⟨_, _, rfl, HA.out, Below.refl _ _⟩
set_option maxRecDepth 100000 in
set_option maxHeartbeats 1600000 in
theorem impl (a0 a1 : Int) (w : World) : Calls Try.prog 57 #[.int .i64 a0, .int .i64 a1] w (Post a0 a1 w) := by
  have HN := Lib.hid (fun b (hx : need a0 = b) W => isNeed a0 b hx W)
  have HV := Lib.hid (fun b (hx : votes a1 = b) W => areVotes a1 b hx W)
  obtain ⟨W, hW⟩ : ∃ W : World, W = (w.alloc (Obj.cells #[.int .i64 a0] 3)).alloc (Obj.cells #[.int .i64 a1] 3) := ⟨_, rfl⟩
  have hb : Below w.heap.size w W := by rw [hW]; exact ((Below.refl _ _).alloc (Nat.le_refl _) _).alloc (by simp) _
  have hsz : W.heap.size = w.heap.size + 1 + 1 := by rw [hW]; simp
  have q0 : W.cell? ⟨w.heap.size, 0, none⟩ = some (.int .i64 a0) := by rw [hW]; simp [go_sem]
  have q1 : W.cell? ⟨w.heap.size + 1, 0, none⟩ = some (.int .i64 a1) := by rw [hW]; simp [go_sem]
  have HZ := Lib.hid hsz
  clear hsz
  cases h1 : need a0 with
  | false =>
    have HA := Lib.hid (show Ans a0 a1 0 false from .inl ⟨by rw [h1]; rfl, rfl, rfl⟩)
    replace HN := Lib.hid (HN.out _ h1)
    clear h1 HV
    go_enter Try.func57, Try.ntmps57
    go_wp2_with fail
    rw [← hW]
    clear hW
    refine (HN.out _).mono ?_
    rintro e w' ⟨rfl, rfl⟩
    go_wp2_with fail
    go_ret2
    exact ⟨_, _, rfl, HA.out, hb⟩
  | true =>
  cases h2 : votes a1 with
  | false =>
    have HA := Lib.hid (show Ans a0 a1 0 false from .inl ⟨by rw [h1, h2]; rfl, rfl, rfl⟩)
    replace HN := Lib.hid (HN.out _ h1)
    replace HV := Lib.hid (HV.out _ h2)
    clear h1 h2
    go_enter Try.func57, Try.ntmps57
    go_wp2_with fail
    rw [← hW]
    clear hW
    refine (HN.out _).mono ?_
    rintro e w' ⟨rfl, rfl⟩
    go_wp2_with fail
    refine (HV.out _).mono ?_
    rintro e w' ⟨rfl, rfl⟩
    go_wp2_with fail
    go_ret2
    exact ⟨_, _, rfl, HA.out, hb⟩
  | true =>
  replace HN := Lib.hid (HN.out _ h1)
  replace HV := Lib.hid (HV.out _ h2)
  have hv := votes_yes h2
  obtain ⟨y, hy⟩ := Int.eq_ofNat_of_zero_le hv.1
  subst hy
  have HA := Lib.hid (fun r0 r1 (h : TalF.Found (fun x => car a0 y x) (upto y (-1) (y + 1)) r0 r1) => TalM.no_found h1 h2 h)
  have HY := Lib.hid (show y ≤ 1000 by omega)
  clear h1 h2 hv
  go_enter Try.func57, Try.ntmps57
  go_wp2_with fail
  rw [← hW]
  clear hW
  refine (HN.out _).mono ?_
  rintro e w' ⟨rfl, rfl⟩
  go_wp2_with fail
  refine (HV.out _).mono ?_
  rintro e w' ⟨rfl, rfl⟩
  clear HN HV
  go_wp2_with fail
  have HNM : Hid (∀ W, Calls Try.prog 117 #[.int .i64 (y : Int), .int .i64 0] W (fun e w' => ∃ B1 B2 B3 : Nat, ∃ (d : Int), ∃ n : Nat, e = .returned (.func (.func 146) #[] #[.pointer (some ⟨B1, 0, none⟩), .pointer (some ⟨B2, 0, none⟩), .pointer (some ⟨B3, 0, none⟩)]) ∧
      B1 < w'.heap.size ∧ B2 < w'.heap.size ∧ B3 < w'.heap.size ∧ w'.cell? ⟨B1, 0, none⟩ = some (.int .i64 y) ∧ w'.cell? ⟨B2, 0, none⟩ = some (.int .i64 0) ∧ w'.cell? ⟨B3, 0, none⟩ = some (.int .i64 d) ∧ Below W.heap.size W w' ∧ (d = 1 ∨ d = -1) ∧ (0 : Int) + d = y + d * (n : Int) ∧ n = y + 1 ∧ upto y d n = upto y (-1) (y + 1))) := Lib.hid (fun W => by
    by_cases h0 : y = 0
    · subst h0
      refine (numbers_up 0 0 (by omega) W).mono ?_
      rintro e w' ⟨B1, B2, B3, he, h1, h2, h3, c1, c2, c3, hb⟩
      exact ⟨B1, B2, B3, 1, 1, he, h1, h2, h3, c1, c2, c3, hb, .inl rfl, rfl, rfl, rfl⟩
    · refine (numbers_down y 0 (by omega) W).mono ?_
      rintro e w' ⟨B1, B2, B3, he, h1, h2, h3, c1, c2, c3, hb⟩
      exact ⟨B1, B2, B3, -1, y + 1, he, h1, h2, h3, c1, c2, c3, hb, .inr rfl, by omega, rfl, rfl⟩)
  refine (HNM.out _).mono ?_
  rintro e w1 ⟨B1, B2, B3, d, n, rfl, g1, g2, g3, c1, c2, c3, hb1, hd, hn, hn2, hu⟩
  have hsz : W.heap.size = w.heap.size + 1 + 1 := HZ.out
  have HFF := Lib.hid (TalF.firstN B1 B2 B3 w.heap.size (w.heap.size + 1) y 0 d n hd hn (by have := HY.out; omega) (by have := HY.out; omega) (fun x => car a0 y x) w1 g1 g2 g3 c1 c2 c3 (Lib.hid (fun x X hX => testN w.heap.size (w.heap.size + 1) a0 y x X ((hX.cell (p := ⟨w.heap.size, 0, none⟩) (by have := hb1.size; show w.heap.size < _; omega)).trans ((hb1.cell (p := ⟨w.heap.size, 0, none⟩) (by show w.heap.size < _; omega)).trans q0)) ((hX.cell (p := ⟨w.heap.size + 1, 0, none⟩) (by have := hb1.size; show w.heap.size + 1 < _; omega)).trans ((hb1.cell (p := ⟨w.heap.size + 1, 0, none⟩) (by show w.heap.size + 1 < _; omega)).trans q1)))))
  rw [hu] at HFF
  clear hsz hu hn hn2 hd c1 c2 c3
  go_wp2_with fail
  refine HFF.out.mono ?_
  rintro e w2 ⟨r0, r1, rfl, hF, hb2⟩
  have HA2 := Lib.hid (HA.out _ _ hF)
  have hb3 := (hb.trans (hb1.mono hb.size)).trans (hb2.mono (hb.trans (hb1.mono hb.size)).size)
  clear hF HFF
  go_wp2_with fail
  go_ret2
  exact ⟨_, _, rfl, HA2.out, hb3⟩
end Go.Proofs.Ytankaffhapcnaaa.MostNoC
