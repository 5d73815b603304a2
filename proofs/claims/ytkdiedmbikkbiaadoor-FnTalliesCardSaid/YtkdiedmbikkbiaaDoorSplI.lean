/- The program's splitting at a byte, its slice of strings written out. No condition but the length. -/
import Derived.Test.YtkdiedmbikkbiaaDoorSplitAny
import Derived.Test.YtkdiedmbikkbiaaDoorLStringD
namespace Go.Proofs.YtkdiedmbikkbiaaDoor.SplI
open Go.RowKit Bs SplitMath
def SP (w : World) (l : List (List UInt8)) (n : Nat) (e : Ending) (w' : World) : Prop :=
  ∃ g c, e = .returned (.tuple #[.slice (some ⟨g, 0, none⟩) n c, .bool true]) ∧ n ≤ c ∧ c ≤ maxLen ∧ w.heap.size ≤ g ∧ g < w'.heap.size ∧ (∀ j x, l[j]? = some x → w'.cell? ⟨g, j, none⟩ = some (.string ⟨x.toArray⟩)) ∧ Below w.heap.size w w'
theorem split (s : ByteArray) (c : UInt8) (l : List (List UInt8)) (n : Nat) (hl : splitOf s.data.toList c = l) (hn : l.length = n) (w : World) (hs : s.size ≤ 4000) :
    Calls Tryd.prog 24 #[.string s, .string ⟨#[c]⟩] w (SP w l n) := by
  refine (Elems.impl_res s c hs w).mono ?_
  rintro e w' ⟨g, cap, rfl, hnc, ho, hb⟩
  rw [hl] at ho hnc ⊢
  have hO : Bs.Own LString.rec 9 w' w.heap.size (.slice (some ⟨g, 0, none⟩) l.length cap) (Elems.bs l) := own_of LString.rec ho (Elems.bs_len l) (by rw [LString.flat_eq, Elems.vals_bs])
  rcases hO.shape with ⟨h, _⟩ | ⟨g', cap', e, hA, hg, hnc', hcm⟩
  · cases h
  · simp only [Value.slice.injEq, Option.some.injEq, Addr.mk.injEq, and_true] at e
    obtain ⟨rfl, _, rfl⟩ := e
    refine ⟨g, cap, by rw [hn], by rw [← hn]; exact hnc, hcm, hA, hg, fun j x hx => ?_, hb⟩
    have := LString.cells (Bs.Own.at_ hO j ⟨x.toArray⟩ (by unfold Elems.bs; rw [List.getElem?_map, hx]; rfl))
    simpa only [LString.rec_n, Nat.mul_one] using this
end Go.Proofs.YtkdiedmbikkbiaaDoor.SplI
