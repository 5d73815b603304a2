/- Precedences: whether one is sound, whether a kind is there; model and program. No condition. -/
import Derived.Test.YthhlhcojjeglkabPrecG
import Derived.Test.YthhlhcojjeglkabPrecGI
import Derived.Test.YthhlhcojjeglkabPrecR
import Derived.Test.YthhlhcojjeglkabPrecY
namespace Go.Proofs.Ythhlhcojjeglkab.PrecS
open Go.RowKit Bs Word PrecM PrecB PrecG PrecR PrecY
set_option linter.unusedVariables false
/-- a valid precedence, its number of kinds as a natural number -/
theorem good_nat {K : Int} {z : List M} (h : goodB K z = true) : ∃ k : Nat, K = (k : Int) ∧ 1 ≤ k ∧ k ≤ 8 ∧ z.length ≤ 16 ∧ In (k : Int) z ∧ In 8 z := by
  have g := good_of h
  refine ⟨K.toNat, by have := g.1; omega, by have := g.1; omega, by have := g.2.1; omega, g.2.2.1, ?_, ?_⟩
  · rw [show ((K.toNat : Nat) : Int) = K by have := g.1; omega]; exact g.inr
  · intro x hx
    have := g.inr x hx
    have := g.2.1
    omega
noncomputable def soundA (r : LPrecedence.R) : Bool × Bool := if goodB r.kinds r.over = true then (soundB r.kinds r.over, true) else (false, false)
theorem sound_bad {r : LPrecedence.R} (h : goodB r.kinds r.over = false) : soundA r = (false, false) := by unfold soundA; rw [h]; rfl
theorem sound_good {r : LPrecedence.R} (h : goodB r.kinds r.over = true) : soundA r = (soundB r.kinds r.over, true) := by unfold soundA; rw [h]; rfl
def SPost (r : LPrecedence.R) (w : World) (e : Ending) (w' : World) : Prop := ∃ r0 r1, e = .returned (.tuple #[.bool r0, .bool r1]) ∧ soundA r = (r0, r1) ∧ Below w.heap.size w w'
theorem soundB_any {k k' : Int} {z : List M} : soundB k z = soundB k' z := rfl
/-- the store of the whole table into a box just made -/
theorem tab_store {ops : Array Oper} {rest : List Oper} {o : Oper} {a : Act} {w : World} {Q : Exit → Act → World → Prop} (f : Nat → Nat → Bool) (cs : Array Value) (hgd : o.guard = none) (x y : Operand) (ho : o.op = .store 66 x y)
    (hx : a.eval x = .pointer (some ⟨w.heap.size, 0, none⟩)) (hy : a.eval y = .agg (tab f)) (hold : cs.size = 64)
    (h : wpList Try.prog ops Q rest (a.put o.dst undef) (w.alloc (.cells (tab f) 66))) : wpList Try.prog ops Q (o :: rest) a (w.alloc (.cells cs 66)) := by
  refine wpList_store_row hgd 66 x y ho w.heap.size (tab f) hx hy 66 cs (heap_alloc_last w _) (by rw [tab_size]; exact infoT) (by rw [tab_size, hold]) (tab_one f) ?_
  rw [World.setRow_alloc_new]
  exact h
set_option maxRecDepth 100000 in
set_option maxHeartbeats 1600000 in
theorem soundI (v : Value) (r : LPrecedence.R) (w : World) (h : LPrecedence.Is w v r) :
    Calls Try.prog 31 #[v] w (SPost r w) := by
  obtain ⟨K, z⟩ := r
  obtain ⟨s, rfl, h⟩ := h
  obtain ⟨a, cp, rfl, h⟩ := h
  simp only at h ⊢
  have hIs := Lib.hid (show LPrecedence.Is w (.agg #[.int .i64 K, .slice a z.length cp]) ⟨K, z⟩ from ⟨_, rfl, a, cp, rfl, h⟩)
  obtain ⟨n, hn⟩ : ∃ n, n = z.length := ⟨_, rfl⟩
  have hnb : n ≤ cp := by have := h.1; omega
  have h2 := h.2.1
  unfold maxLen at h2
  have HN := Lib.hid hn.symm
  rw [← hn] at hIs ⊢
  have hle : n ≤ z.length := by omega
  clear hn h
  have hb0 := (Below.refl w.heap.size w).alloc (Nat.le_refl _) (.cells #[.int .i64 K, .slice a n cp] 29)
  have HB0 := Lib.hid (Bx.new w 29 #[.int .i64 K, .slice a n cp])
  have HI0 := Lib.hid (hIs.out.below hb0)
  go_enter Try.func31, Try.ntmps31
  go_wp2_with fail
  refine (PrecG.isValid _ ⟨K, z⟩ _ HI0.out).mono ?_
  rintro e w1 ⟨rfl, hb1⟩
  have hbx := hb0.trans (hb1.mono hb0.size)
  have HB1 := Lib.hid (HB0.out.kept hb1)
  have HI1 := Lib.hid (HI0.out.below hb1)
  clear hb1 hb0 HB0 HI0
  cases hg : goodB K z with
  | false =>
    have HA := Lib.hid (sound_bad (r := ⟨K, z⟩) hg)
    simp only
    clear hg
    go_wp2_with fail
    go_ret2
    exact ⟨_, _, rfl, HA.out, hbx⟩
  | true =>
    obtain ⟨k, rfl, hk1, hk8, hzl, hin, hin8⟩ := good_nat hg
    have HA := Lib.hid (sound_good (r := ⟨(k : Int), z⟩) hg)
    have HIn := Lib.hid hin
    have HIn8 := Lib.hid hin8
    have HSl := Lib.hid (show Bs.Is LIntA2.rec w1 (.slice a n cp) z by
      obtain ⟨s, e, h⟩ := HI1.out
      simp only [Value.agg.injEq, Array.mk.injEq, List.cons.injEq, and_true, true_and] at e
      rw [e]; exact h)
    simp only
    clear hg hin hin8 hzl HI1
    have p0 := HB1.out.cell 0
    have p1 := HB1.out.cell 1
    simp only [List.getElem?_toArray, List.getElem?_cons_zero, List.getElem?_cons_succ] at p0 p1
    go_wp2_with fail
    refine (PrecY.yieldingBy _ z _ HSl.out HIn8.out).mono ?_
    rintro e w2 ⟨f, rfl, hf, hb2⟩
    have HF := Lib.hid hf
    have hby := hbx.trans (hb2.mono hbx.size)
    have HB2 := Lib.hid (Bx.alloc (HB1.out.kept hb2) (Obj.cells (tab f) 66))
    have HT := Lib.hid (show Bt (w2.alloc (Obj.cells (tab f) 66)) w2.heap.size f from Bx.new w2 _ _)
    replace hby := hby.alloc hby.size (Obj.cells (tab f) 66)
    clear hf hb2 hbx HB1 p0 p1
    have p0 := HB2.out.cell 0
    have p1 := HB2.out.cell 1
    simp only [List.getElem?_toArray, List.getElem?_cons_zero, List.getElem?_cons_succ] at p0 p1
    go_wp2_with ((with_reducible refine tab_store f _ ?_ (.tmp 4) (.tmp 11) ?_ ?_ ?_ ?_ ?_); rfl; rfl; rfl; rfl; rfl)
    generalize w2.alloc (Obj.cells (tab f) 66) = w3 at *
    generalize w2.heap.size = G at *
    go_loop [14] (fun i => ∃ j : Nat, j ≤ k ∧ i = .int .i64 j ∧ Hid (∀ c : Nat, c < j → ¬ TC z c c)) (fun i => k - (intOf i).toNat)
    case atStart => exact ⟨0, Nat.zero_le _, rfl, Lib.hid (fun c hc => by omega)⟩
    case round =>
      obtain ⟨j, hj, rfl, HJ⟩ := hrel
      by_cases hlt : j < k
      · have c1 := HT.out.cell j j (by omega) (by omega)
        have e1 : (j : Int) < 8 := by omega
        rw [HF.out j j (by omega) (by omega)] at c1
        cases g : yieldsB z (j : Int) (j : Int) with
        | true =>
          rw [g] at c1
          have HE := Lib.hid (show soundB (k : Int) z = false from sound_no (yields_iff.1 g))
          clear g
          go_wp2_with fail
          go_ret2
          exact ⟨_, _, rfl, by rw [HA.out, HE.out], hby⟩
        | false =>
          rw [g] at c1
          have HJ2 := Lib.hid (show ∀ c : Nat, c < j + 1 → ¬ TC z c c from fun c hc t => by
            rcases Nat.lt_or_ge c j with h' | h'
            · exact HJ.out c h' t
            · obtain rfl : c = j := by omega
              rw [yields_iff.2 t] at g; cases g)
          clear g
          go_wp2_with fail
          go_round
          case rel => exact ⟨j + 1, by omega, by go_num, HJ2⟩
          case measure => simp [intOf]; omega
      · have HE := Lib.hid (show soundB (k : Int) z = true from sound_yes HIn.out (fun c hc => HJ.out c (by omega)))
        go_wp2_with fail
        go_ret2
        exact ⟨_, _, rfl, by rw [HA.out, HE.out], hby⟩
end Go.Proofs.Ythhlhcojjeglkab.PrecS
