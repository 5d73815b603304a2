/- The draws of chapter 3 about offices: a member's number, numbers of members, the arguments of GiveOffice, HolderOf, PresidingMember. No condition. -/
import Derived.Test.YtneecokjhmnagaaDoorDrawMs
import Derived.Test.YtneecokjhmnagaaDoorJ1
namespace Go.Proofs.YtneecokjhmnagaaDoor.Draw
open Go.RowKit Cur Bs Mem
set_option linter.unusedVariables false
theorem somei {w : World} {A : Nat} {v : Value} {z : List Int} {r : Int} (h : Own LInt.rec 3 w A v (z ++ [r])) : ∃ g, v.ownBlock = some g := by
  rcases h.shape with ⟨_, h0⟩ | ⟨g, cap, rfl, _⟩
  · simp at h0
  · exact ⟨g, rfl⟩
def NumOf (w : World) (B m : Nat) (e : Ending) (w' : World) : Prop := ∃ x : Int, e = .returned (.int .i64 x) ∧ Cur w' B m ∧ w.grownBy w' (some B)
set_option maxRecDepth 100000 in
set_option maxHeartbeats 1600000 in
theorem memberNumber (B m A : Nat) (v : Value) (z : List M) (w : World) (h : Cur w B m) (hm : m < 700000) (hv : Own LMember.rec 60 w A v z) (hA : B < A) (hl : z.length ≤ 14) : Calls Tryd.prog 37 #[.pointer (some ⟨B, 0, none⟩), v] w (NumOf w B (m + 10)) := by
  have HC := Lib.hid h
  have HV := Lib.hid hv
  obtain ⟨l, hll⟩ : ∃ l, l = z.length := ⟨_, rfl⟩
  have HLn := Lib.hid hll.symm
  have hsh : ∃ a cp, v = .slice a l cp ∧ (0 < l → ∃ g, a = some ⟨g, 0, none⟩ ∧ g ≠ B) ∧ l ≤ cp ∧ cp ≤ maxLen := by
    rcases hv.shape with ⟨rfl, hz⟩ | ⟨g, cap, rfl, hg1, hg2, hcap, hcm⟩
    · exact ⟨none, 0, by rw [hll, hz]; rfl, fun h0 => by rw [hll, hz] at h0; simp at h0, by rw [hll, hz]; simp, Nat.zero_le _⟩
    · exact ⟨_, cap, by rw [hll], fun _ => ⟨g, rfl, by omega⟩, by omega, hcm⟩
  obtain ⟨a, cp, rfl, hag, hcp, hcm⟩ := hsh
  unfold maxLen at hcm
  have hl14 : l ≤ 14 := by omega
  clear h hv hll hl
  by_cases h0 : l = 0
  · subst h0
    clear hag
    have hz2 : ((0 : Int) == 0) = true := rfl
    go_enter Tryd.func37, Tryd.ntmps37
    go_wp2_with fail
    refine (among_lit B m [0, 1, 5, 50] w HC.out (by omega) (by decide) (by decide)).mono ?_
    rintro e w1 ⟨x, _, rfl, hc1, hg1⟩
    have HC1 := Lib.hid hc1
    clear hc1
    go_wp2_with fail
    go_ret
    exact ⟨x, rfl, HC1.out.mono (by omega), hg1⟩
  · obtain ⟨g, rfl, hgB⟩ := hag (by omega)
    have hz2 : ((l : Int) == 0) = false := by rw [beq_eq_false_iff_ne]; omega
    have hz3 : (l == 0) = false := by rw [beq_eq_false_iff_ne]; omega
    clear hag
    go_enter Tryd.func37, Tryd.ntmps37
    go_wp2_with fail
    refine (one B m 8 _ HC.out (by omega) (by omega) (by omega)).mono ?_
    rintro e w1 ⟨b, rfl, hc1, hg1⟩
    have HV1 := Lib.hid (own_grown HV.out hg1 hA)
    have HC1 := Lib.hid hc1
    clear hc1 HC HV
    cases b with
    | true =>
      go_wp2_with fail
      refine (among_lit B _ [0, 1, 5, 50] w1 HC1.out (by omega) (by decide) (by decide)).mono ?_
      rintro e w2 ⟨x, _, rfl, hc2, hg2⟩
      have HC2 := Lib.hid hc2
      have hgg := grown_trans hg1 hg2
      clear hc2
      go_wp2_with fail
      go_ret
      exact ⟨x, rfl, HC2.out.mono (by omega), hgg⟩
    | false =>
      go_wp2_with fail
      refine (pick B _ l _ HC1.out (by omega) (by omega) (by omega)).mono ?_
      rintro e w2 ⟨r, rfl, r0, r1, hc2, hg2⟩
      obtain ⟨r, rfl⟩ := Int.eq_ofNat_of_zero_le r0
      have HV2 := Lib.hid (own_grown HV1.out hg2 hA)
      have HC2 := Lib.hid hc2
      have hgg := grown_trans hg1 hg2
      have hx : r < z.length := by have := HLn.out; omega
      obtain ⟨q0, q1, q2⟩ := LMember.cells (HV2.out.at_ r _ (List.getElem?_eq_getElem hx))
      simp only [LMember.rec_n] at q0 q1 q2
      have r2 : (r : Int) < (l : Int) := by omega
      clear hc2 HV1 HC1 hg1 hg2
      generalize z[r] = X at *
      go_wp2_with fail
      go_ret
      exact ⟨_, rfl, HC2.out.mono (by omega), hgg⟩
/-- numbers of the call's own -/
def IsOf (w : World) (B m : Nat) (e : Ending) (w' : World) : Prop := ∃ (v : Value) (z : List Int), e = .returned v ∧ Own LInt.rec 3 w' w.heap.size v z ∧ (∃ g, v.ownBlock = some g) ∧ z.length ≤ 15 ∧ Cur w' B m ∧ w.grownBy w' (some B)
/-- some numbers of a literal that lies in a block -/
theorem among_cut (B m g n : Nat) (xs : List Int) (w : World) (h : Cur w B m) (hm : m < 900000) (hx : Bx w g 3 (xs.map (Value.int .i64)).toArray) (hgB : g ≠ B) (h0 : 1 ≤ n) (hn : n ≤ xs.length) (h1 : xs.length ≤ 1000) :
    Calls Tryd.prog 58 #[.pointer (some ⟨B, 0, none⟩), .slice (some ⟨g, 0, none⟩) n xs.length] w (Ints w B (m + 2) xs) := by
  refine (among_any B m g 0 n xs.length (xs.take n) w h hm (by rw [List.length_take]; omega) h0 (by omega) hn hgB hx.lt (fun j x hj => ?_)).mono ?_
  · have hj2 : xs[j]? = some x := by
      rw [List.getElem?_take] at hj
      split at hj
      · exact hj
      · cases hj
    rw [Nat.zero_add, hx.cell, List.getElem?_toArray, List.getElem?_map, hj2]
    rfl
  · rintro e w' ⟨x, hx, he, hc, hg⟩
    exact ⟨x, List.mem_of_mem_take hx, he, hc, hg⟩
def GivArgs (w : World) (e : Ending) (w' : World) : Prop := ∃ (v : Value) (z : List M) (x y : Int), e = .returned (.tuple #[v, .int .i64 x, .int .i64 y]) ∧ Own LMember.rec 60 w' w.heap.size v z ∧ (∃ g, v.ownBlock = some g) ∧ Short z ∧ z.length ≤ 14 ∧ Below w.heap.size w w'
theorem below_end {w W0 w' : World} {B : Nat} {a : Option Addr} {len cap : Nat} (hB : w.heap.size = B) (hW : w.alloc (.cells #[.slice a len cap, .int .i64 0, .int .u64 0] 53) = W0) (hg : W0.grownBy w' (some B)) : Below w.heap.size w w' := by
  subst hB hW
  exact below_cur hg
theorem own_end {w W0 w' : World} {v : Value} {z : List M} (hz : w.heap.size ≤ W0.heap.size) (h : Own LMember.rec 60 w' W0.heap.size v z) : Own LMember.rec 60 w' w.heap.size v z := h.low hz
def HolArgs (w : World) (e : Ending) (w' : World) : Prop := ∃ (v : Value) (z : List M) (y : Int), e = .returned (.tuple #[v, .int .i64 y]) ∧ Own LMember.rec 60 w' w.heap.size v z ∧ (∃ g, v.ownBlock = some g) ∧ Short z ∧ z.length ≤ 14 ∧ Below w.heap.size w w'
def PreArgs (w : World) (e : Ending) (w' : World) : Prop := ∃ (v : Value) (z : List M) (u : Value) (y : List Int), e = .returned (.tuple #[v, u]) ∧ Own LMember.rec 60 w' w.heap.size v z ∧ (∃ g, v.ownBlock = some g) ∧ Short z ∧ z.length ≤ 14 ∧ Own LInt.rec 3 w' w.heap.size u y ∧ (∃ g, u.ownBlock = some g) ∧ y.length ≤ 15 ∧ Below w.heap.size w w'
end Go.Proofs.YtneecokjhmnagaaDoor.Draw
