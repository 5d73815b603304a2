/- YesShare: what it answers, on both sides. No condition. -/
import Derived.Test.YtkdiedmbikkbiaaDoorTalD
import Derived.Test.YtkdiedmbikkbiaaDoorLTallyZ
namespace Go.Proofs.YtkdiedmbikkbiaaDoor.YesShareC
open Go.RowKit Bs Word Tal TalS TalG
set_option linter.unusedVariables false
def shareT (t : T) : Int × Int × Bool := if good t = true ∧ t.yes + t.no ≠ 0 then (t.yes.tdiv (Nat.gcd t.yes.toNat (t.yes + t.no).toNat : Nat), (t.yes + t.no).tdiv (Nat.gcd t.yes.toNat (t.yes + t.no).toNat : Nat), true) else (0, 0, false)
def Ans (a0 : T) (r0 r1 : Int) (r2 : Bool) : Prop := shareT a0 = (r0, r1, r2)
theorem same {a0 : T} {r0 s0 r1 s1 : Int} {r2 s2 : Bool} (h1 : Ans a0 r0 r1 r2) (h2 : Ans a0 s0 s1 s2) : r0 = s0 ∧ r1 = s1 ∧ r2 = s2 := by
  have := h1.symm.trans h2; simp only [Prod.mk.injEq] at this; exact this
def Post (a0 : T) (w : World) (e : Ending) (w' : World) : Prop := ∃ r0 r1 r2, e = .returned (.tuple #[.int .i64 r0, .int .i64 r1, .bool r2]) ∧ Ans a0 r0 r1 r2 ∧ Below w.heap.size w w'
set_option maxRecDepth 100000 in
set_option maxHeartbeats 1600000 in
theorem spec (a0 : T) (w : World) (f0 : LTally.Fine a0) : Calls Tryd.prog 15 #[.agg #[.int .i64 a0.yes, .int .i64 a0.no, .int .i64 a0.abstain]] w (Post a0 w) := by
  obtain ⟨y, n, a⟩ := a0
  simp only
  obtain ⟨W, hW⟩ : ∃ W : World, W = w.alloc (Obj.cells #[.int .i64 y, .int .i64 n, .int .i64 a] 25) := ⟨_, rfl⟩
  have hb : Below w.heap.size w W := by rw [hW]; exact (Below.refl _ _).alloc (Nat.le_refl _) _
  have B0 := Lib.hid (show Bx W w.heap.size 25 #[.int .i64 y, .int .i64 n, .int .i64 a] by rw [hW]; exact Bx.new _ _ _)
  have q0 := B0.out.cell 0
  have q1 := B0.out.cell 1
  have q2 := B0.out.cell 2
  simp only [List.getElem?_toArray, List.getElem?_cons_zero, List.getElem?_cons_succ] at q0 q1 q2
  have HG := Lib.hid (fun b (hx : good ⟨y, n, a⟩ = b) W => l11Good ⟨y, n, a⟩ b hx W)
  simp only at HG
  obtain ⟨c, hc⟩ : ∃ c, IntKind.i64.wrap (y + n) = c := ⟨_, rfl⟩
  cases h1 : good ⟨y, n, a⟩ with
  | false =>
    have HA := Lib.hid (show Ans ⟨y, n, a⟩ 0 0 false by unfold Ans shareT; rw [if_neg (by rw [h1]; simp)])
    replace HG := Lib.hid (HG.out _ h1)
    clear h1
    go_enter Tryd.func15, Tryd.ntmps15
    go_wp2_with fail
    rw [← hW]
    clear hW
    refine HG.out _ |>.mono ?_
    rintro e w' ⟨rfl, hb2⟩
    have hb3 := hb.trans (hb2.mono hb.size)
    go_wp2_with fail
    go_ret3
    exact ⟨_, _, _, rfl, HA.out, hb3⟩
  | true =>
  obtain ⟨⟨g1, g2⟩, ⟨g3, g4⟩, _⟩ := good_parts h1
  simp only at g1 g2 g3 g4
  obtain ⟨y, rfl⟩ := Int.eq_ofNat_of_zero_le g1
  obtain ⟨s, hs⟩ := Int.eq_ofNat_of_zero_le (show 0 ≤ (y : Int) + n by omega)
  have hcs : IntKind.i64.wrap ((y : Int) + n) = (s : Int) := by rw [hs]; exact IntWalk.i64_in _ (by omega)
  replace HG := Lib.hid (HG.out _ h1)
  by_cases h0 : s = 0
  · have HA := Lib.hid (show Ans ⟨y, n, a⟩ 0 0 false by unfold Ans shareT; rw [if_neg (fun h => h.2 (by simp only; omega))])
    have d : ((s : Int) == 0) = true := by simpa using h0
    have d0 : (s : Int) = 0 := by omega
    rw [d0] at hcs
    clear h1 h0 g1 g2 g3 g4 hs hc d d0
    go_enter Tryd.func15, Tryd.ntmps15
    go_wp2_with fail
    rw [← hW]
    clear hW
    refine HG.out _ |>.mono ?_
    rintro e w' ⟨rfl, hb2⟩
    have hb3 := hb.trans (hb2.mono hb.size)
    go_wp2_with fail
    go_ret3
    exact ⟨_, _, _, rfl, HA.out, hb3⟩
  have HA := Lib.hid (show Ans ⟨y, n, a⟩ ((y : Int).tdiv (Nat.gcd y s : Nat)) ((s : Int).tdiv (Nat.gcd y s : Nat)) true by unfold Ans shareT; rw [if_pos ⟨h1, by simp only; omega⟩]; simp only [hs, Int.toNat_natCast])
  have d : ((s : Int) == 0) = false := by simpa using h0
  have hy5 : y ≤ 1000 := by omega
  have hs5 : s ≤ 2000 := by omega
  have HC := Lib.hid (fun W => TalD.l11Common y s (by omega) (by omega) W)
  have hpos : 0 < Nat.gcd y s := Nat.gcd_pos_of_pos_right _ (by omega)
  obtain ⟨g, hg⟩ : ∃ g, g = Nat.gcd y s := ⟨_, rfl⟩
  rw [← hg] at HA HC hpos
  have hgz : ((g : Int) == 0) = false := by rw [beq_eq_false_iff_ne]; omega
  have hgz2 : ((g : Int) != 0) = true := by rw [bne_iff_ne]; omega
  have hgz3 : ¬ g = 0 := by omega
  have hgz4 : 0 < g := hpos
  have hgz5 : 0 < (g : Int) := by omega
  have hgz6 : 0 ≤ (g : Int) := by omega
  have t1 : (y : Int).tdiv (g : Int) = ((y / g : Nat) : Int) := by rw [Int.tdiv_eq_ediv_of_nonneg (by omega)]; rfl
  have t2 : (s : Int).tdiv (g : Int) = ((s / g : Nat) : Int) := by rw [Int.tdiv_eq_ediv_of_nonneg (by omega)]; rfl
  rw [t1, t2] at HA
  have hz1 : y / g ≤ y := Nat.div_le_self _ _
  have hz2 : s / g ≤ s := Nat.div_le_self _ _
  clear h1 h0 g1 g2 g3 g4 hg hs hc hpos
  generalize y / g = yg at *
  generalize s / g = sg at *
  have u1 : IntKind.i64.wrap (yg : Int) = (yg : Int) := IntWalk.i64_in _ (by omega)
  have u2 : IntKind.i64.wrap (sg : Int) = (sg : Int) := IntWalk.i64_in _ (by omega)
  clear hz1 hz2
  go_enter Tryd.func15, Tryd.ntmps15
  go_wp2_with fail
  rw [← hW]
  clear hW
  refine HG.out _ |>.mono ?_
  rintro e w1 ⟨rfl, hb2⟩
  replace hb := hb.trans (hb2.mono hb.size)
  replace B0 := Lib.hid (B0.out.kept hb2)
  clear hb2 q0 q1 q2
  have q0 := B0.out.cell 0
  have q1 := B0.out.cell 1
  have q2 := B0.out.cell 2
  simp only [List.getElem?_toArray, List.getElem?_cons_zero, List.getElem?_cons_succ] at q0 q1 q2
  go_wp2_with fail
  refine (HC.out _).mono ?_
  rintro e w2 ⟨rfl, hb2⟩
  replace hb := hb.trans (hb2.mono hb.size)
  replace B0 := Lib.hid (B0.out.kept hb2)
  clear hb2 q0 q1 q2
  have q0 := B0.out.cell 0
  have q1 := B0.out.cell 1
  have q2 := B0.out.cell 2
  simp only [List.getElem?_toArray, List.getElem?_cons_zero, List.getElem?_cons_succ] at q0 q1 q2
  go_wp2_with fail
  go_quiet (fail)
  have hb3 : Below w.heap.size w (w2.drewN nq) := hb.trans ⟨rfl, rfl, rfl, Nat.le_refl _, fun _ _ => rfl⟩
  go_wp2_with fail
  go_ret3
  exact ⟨_, _, _, rfl, HA.out, hb3⟩
set_option maxRecDepth 100000 in
set_option maxHeartbeats 1600000 in
theorem impl (a0 : T) (w : World) (f0 : LTally.Fine a0) : Calls Tryd.prog 14 #[.agg #[.int .i64 a0.yes, .int .i64 a0.no, .int .i64 a0.abstain]] w (Post a0 w) := by
  obtain ⟨y, n, a⟩ := a0
  simp only
  obtain ⟨W, hW⟩ : ∃ W : World, W = w.alloc (Obj.cells #[.int .i64 y, .int .i64 n, .int .i64 a] 25) := ⟨_, rfl⟩
  have hb : Below w.heap.size w W := by rw [hW]; exact (Below.refl _ _).alloc (Nat.le_refl _) _
  have B0 := Lib.hid (show Bx W w.heap.size 25 #[.int .i64 y, .int .i64 n, .int .i64 a] by rw [hW]; exact Bx.new _ _ _)
  have q0 := B0.out.cell 0
  have q1 := B0.out.cell 1
  have q2 := B0.out.cell 2
  simp only [List.getElem?_toArray, List.getElem?_cons_zero, List.getElem?_cons_succ] at q0 q1 q2
  have HG := Lib.hid (fun b (hx : good ⟨y, n, a⟩ = b) W => isValid ⟨y, n, a⟩ b hx W)
  simp only at HG
  obtain ⟨c, hc⟩ : ∃ c, IntKind.i64.wrap (y + n) = c := ⟨_, rfl⟩
  cases h1 : good ⟨y, n, a⟩ with
  | false =>
    have HA := Lib.hid (show Ans ⟨y, n, a⟩ 0 0 false by unfold Ans shareT; rw [if_neg (by rw [h1]; simp)])
    replace HG := Lib.hid (HG.out _ h1)
    clear h1
    go_enter Tryd.func14, Tryd.ntmps14
    go_wp2_with fail
    rw [← hW]
    clear hW
    refine HG.out _ |>.mono ?_
    rintro e w' ⟨rfl, hb2⟩
    have hb3 := hb.trans (hb2.mono hb.size)
    go_wp2_with fail
    go_ret3
    exact ⟨_, _, _, rfl, HA.out, hb3⟩
  | true =>
  obtain ⟨⟨g1, g2⟩, ⟨g3, g4⟩, _⟩ := good_parts h1
  simp only at g1 g2 g3 g4
  obtain ⟨y, rfl⟩ := Int.eq_ofNat_of_zero_le g1
  obtain ⟨s, hs⟩ := Int.eq_ofNat_of_zero_le (show 0 ≤ (y : Int) + n by omega)
  have hcs : IntKind.i64.wrap ((y : Int) + n) = (s : Int) := by rw [hs]; exact IntWalk.i64_in _ (by omega)
  replace HG := Lib.hid (HG.out _ h1)
  by_cases h0 : s = 0
  · have HA := Lib.hid (show Ans ⟨y, n, a⟩ 0 0 false by unfold Ans shareT; rw [if_neg (fun h => h.2 (by simp only; omega))])
    have d : ((s : Int) == 0) = true := by simpa using h0
    have d0 : (s : Int) = 0 := by omega
    rw [d0] at hcs
    clear h1 h0 g1 g2 g3 g4 hs hc d d0
    go_enter Tryd.func14, Tryd.ntmps14
    go_wp2_with fail
    rw [← hW]
    clear hW
    refine HG.out _ |>.mono ?_
    rintro e w' ⟨rfl, hb2⟩
    have hb3 := hb.trans (hb2.mono hb.size)
    go_wp2_with fail
    go_ret3
    exact ⟨_, _, _, rfl, HA.out, hb3⟩
  have HA := Lib.hid (show Ans ⟨y, n, a⟩ ((y : Int).tdiv (Nat.gcd y s : Nat)) ((s : Int).tdiv (Nat.gcd y s : Nat)) true by unfold Ans shareT; rw [if_pos ⟨h1, by simp only; omega⟩]; simp only [hs, Int.toNat_natCast])
  have d : ((s : Int) == 0) = false := by simpa using h0
  have hy5 : y ≤ 1000 := by omega
  have hs5 : s ≤ 2000 := by omega
  have HC := Lib.hid (fun W => TalD.greatest y s (by omega) (by omega) W)
  have hpos : 0 < Nat.gcd y s := Nat.gcd_pos_of_pos_right _ (by omega)
  obtain ⟨g, hg⟩ : ∃ g, g = Nat.gcd y s := ⟨_, rfl⟩
  rw [← hg] at HA HC hpos
  have hgz : ((g : Int) == 0) = false := by rw [beq_eq_false_iff_ne]; omega
  have hgz2 : ((g : Int) != 0) = true := by rw [bne_iff_ne]; omega
  have hgz3 : ¬ g = 0 := by omega
  have hgz4 : 0 < g := hpos
  have hgz5 : 0 < (g : Int) := by omega
  have hgz6 : 0 ≤ (g : Int) := by omega
  have t1 : (y : Int).tdiv (g : Int) = ((y / g : Nat) : Int) := by rw [Int.tdiv_eq_ediv_of_nonneg (by omega)]; rfl
  have t2 : (s : Int).tdiv (g : Int) = ((s / g : Nat) : Int) := by rw [Int.tdiv_eq_ediv_of_nonneg (by omega)]; rfl
  rw [t1, t2] at HA
  have hz1 : y / g ≤ y := Nat.div_le_self _ _
  have hz2 : s / g ≤ s := Nat.div_le_self _ _
  clear h1 h0 g1 g2 g3 g4 hg hs hc hpos
  generalize y / g = yg at *
  generalize s / g = sg at *
  have u1 : IntKind.i64.wrap (yg : Int) = (yg : Int) := IntWalk.i64_in _ (by omega)
  have u2 : IntKind.i64.wrap (sg : Int) = (sg : Int) := IntWalk.i64_in _ (by omega)
  clear hz1 hz2
  go_enter Tryd.func14, Tryd.ntmps14
  go_wp2_with fail
  rw [← hW]
  clear hW
  refine HG.out _ |>.mono ?_
  rintro e w1 ⟨rfl, hb2⟩
  replace hb := hb.trans (hb2.mono hb.size)
  replace B0 := Lib.hid (B0.out.kept hb2)
  clear hb2 q0 q1 q2
  have q0 := B0.out.cell 0
  have q1 := B0.out.cell 1
  have q2 := B0.out.cell 2
  simp only [List.getElem?_toArray, List.getElem?_cons_zero, List.getElem?_cons_succ] at q0 q1 q2
  go_wp2_with fail
  refine (HC.out _).mono ?_
  rintro e w2 ⟨rfl, hb2⟩
  replace hb := hb.trans (hb2.mono hb.size)
  replace B0 := Lib.hid (B0.out.kept hb2)
  clear hb2 q0 q1 q2
  have q0 := B0.out.cell 0
  have q1 := B0.out.cell 1
  have q2 := B0.out.cell 2
  simp only [List.getElem?_toArray, List.getElem?_cons_zero, List.getElem?_cons_succ] at q0 q1 q2
  go_wp2_with fail
  go_quiet (fail)
  have hb3 : Below w.heap.size w (w2.drewN nq) := hb.trans ⟨rfl, rfl, rfl, Nat.le_refl _, fun _ _ => rfl⟩
  go_wp2_with fail
  go_ret3
  exact ⟨_, _, _, rfl, HA.out, hb3⟩
end Go.Proofs.YtkdiedmbikkbiaaDoor.YesShareC
