/- The model's splitting at a byte, its slice of strings written out. No condition but the length. -/
import Derived.Test.YtgemnjimgjnlhaaGreatDoorSplit
import Derived.Test.YtgemnjimgjnlhaaGreatDoorLStringD
namespace Go.Proofs.YtgemnjimgjnlhaaGreatDoor.SplA
open Go.RowKit Bs SplitMath
def bs (l : List (List UInt8)) : List ByteArray := l.map fun x => ⟨x.toArray⟩
theorem bs_len (l : List (List UInt8)) : (bs l).length = l.length := by simp [bs]
theorem bs_get {l : List (List UInt8)} {k : Nat} {x : List UInt8} (h : l[k]? = some x) : (bs l)[k]? = some ⟨x.toArray⟩ := by unfold bs; rw [List.getElem?_map, h]; rfl
def SP (w : World) (l : List (List UInt8)) (n : Nat) (e : Ending) (w' : World) : Prop :=
  ∃ g c, e = .returned (.slice (some ⟨g, 0, none⟩) n c) ∧ n ≤ c ∧ c ≤ maxLen ∧ w.heap.size ≤ g ∧ g < w'.heap.size ∧ (∀ j x, l[j]? = some x → w'.cell? ⟨g, j, none⟩ = some (.string ⟨x.toArray⟩)) ∧ Below w.heap.size w w'
theorem split (s : ByteArray) (c : UInt8) (cn : Int) (hc : cn = c.toNat) (l : List (List UInt8)) (n : Nat) (hl : splitOf s.data.toList c = l) (hn : l.length = n) (w : World) (hs : s.size ≤ 1048576) :
    Calls Tryz.prog 76 #[.string s, .int .u8 cn] w (SP w l n) := by
  subst hc
  refine (Split.l1Split s c w hs).mono ?_
  rintro e w' ⟨v, rfl, ho, hb⟩
  rw [hl] at ho
  have hO : Bs.Own LString.rec 9 w' w.heap.size v (bs l) := own_of LString.rec ho (bs_len l) (by rw [LString.flat_eq]; unfold bs Split.vals; rw [List.map_map]; rfl)
  have hpos : 0 < l.length := by rw [← hl]; simp [splitOf]
  rcases hO.shape with ⟨_, h⟩ | ⟨g, cap, rfl, hA, hg, hnc, hcm⟩
  · have := bs_len l; rw [h] at this; simp at this; omega
  · rw [bs_len, hn] at hnc
    refine ⟨g, cap, by rw [bs_len, hn], hnc, hcm, hA, hg, fun j x hx => ?_, hb⟩
    have := LString.cells (Bs.Own.at_ hO j _ (bs_get hx))
    simpa only [LString.rec_n, Nat.mul_one] using this
end Go.Proofs.YtgemnjimgjnlhaaGreatDoor.SplA
