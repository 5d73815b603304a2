/- What a reading of lines calls: strings.Cut at any mark, SplitString at a space. The cell of internal/bytealg.MaxLen must lie in memory. -/
import Derived.Test.YtfkppgnffhbfjaaDoorShelf
import Derived.Test.YtfkppgnffhbfjaaDoorSplI
import Derived.Test.YtfkppgnffhbfjaaDoorPInt
import Derived.Test.YtfkppgnffhbfjaaDoorLStringD
import Derived.Test.YtfkppgnffhbfjaaDoorPAm
namespace Go.Proofs.YtfkppgnffhbfjaaDoor.PAmH
open Go.RowKit Bs SplitMath Elems
set_option linter.unusedVariables false
/-- the variable internal/bytealg.MaxLen holds a number -/
def Mx (w : World) : Prop := 0 < w.heap.size ∧ ∃ m, w.cell? ⟨0, 0, none⟩ = some (.int .i64 m)
theorem Mx.of {w : World} (h : w.ShapedOpen Tryd.prog) : Mx w := by
  have hm : ∃ m, w.cell? ⟨0, 0, none⟩ = some (.int .i64 m) := Go.Proofs.cell_of_shapedOpen_int (zero := #[.int .i64 0]) (t := 3) h (of_decide_eq_true (by kernel_rfl)) (by kernel_rfl) rfl (by kernel_rfl) (by kernel_rfl) Tryd.underlying3
  refine ⟨?_, hm⟩
  obtain ⟨m, hm⟩ := hm
  rcases Nat.eq_zero_or_pos w.heap.size with h0 | h0
  · exfalso
    have : w.heap[0]? = none := Array.getElem?_eq_none (by omega)
    simp [World.cell?, this] at hm
  · exact h0
theorem Mx.below {w w' : World} (h : Mx w) (hb : Below w.heap.size w w') : Mx w' := by
  obtain ⟨h0, m, hm⟩ := h
  refine ⟨Nat.lt_of_lt_of_le h0 hb.size, m, ?_⟩
  rw [World.cell?_of_block (a := ⟨0, 0, none⟩) (hb.block _ h0)]
  exact hm
def CR (s sep : ByteArray) (w : World) (e : Ending) (w' : World) : Prop :=
  ∃ a b ok, e = .returned (.tuple #[.string a, .string b, .bool ok]) ∧ Lib.cut s.data.toList sep.data.toList = (a.data.toList, b.data.toList, ok) ∧ (a.size ≤ s.size ∧ b.size ≤ s.size) ∧ Below w.heap.size w w'
theorem cut_le (l m : List UInt8) : (Lib.cut l m).1.length ≤ l.length ∧ (Lib.cut l m).2.1.length ≤ l.length := by
  unfold Lib.cut
  split
  · exact ⟨by simp; omega, by simp⟩
  · simp
theorem cutC (s sep : ByteArray) (w : World) (hs : s.size ≤ 1048576) (vm : Mx w) :
    Calls Tryd.prog 24 #[.string s, .string sep] w (CR s sep w) := by
  obtain ⟨h0, m, hm⟩ := vm
  refine (Tryd.strings_Cut s sep m w (by omega) hm).mono ?_
  rintro e w' ⟨rfl, n, rfl⟩
  have h := cut_le s.data.toList sep.data.toList
  rw [Array.length_toList] at h
  exact ⟨_, _, _, rfl, rfl, h, ⟨rfl, rfl, rfl, Nat.le_refl _, fun _ _ => rfl⟩⟩
def SQ (s : ByteArray) (w : World) (e : Ending) (w' : World) : Prop :=
  ∃ a n c ok xs, e = .returned (.tuple #[.slice a n c, .bool ok]) ∧ Bs.Own LString.rec 9 w' w.heap.size (.slice a n c) xs ∧ (∀ x ∈ xs, x.size ≤ 4000) ∧ (s.size ≤ 4000 → xs = PAm.bs (splitOf s.data.toList 32)) ∧ Below w.heap.size w w'
theorem splitQ (s : ByteArray) (w : World) (hs : s.size ≤ 1048576) :
    Calls Tryd.prog 26 #[.string s, .string ⟨#[32]⟩] w (SQ s w) := by
  by_cases hl : s.size ≤ 4000
  · refine (Elems.impl_res s 32 hl w).mono ?_
    rintro e w' ⟨g, cap, rfl, hnc, ho, hb⟩
    refine ⟨_, _, _, _, Elems.bs (splitOf s.data.toList 32), rfl, own_of LString.rec ho (Elems.bs_len _) (by rw [LString.flat_eq, Elems.vals_bs]), ?_, fun _ => rfl, hb⟩
    intro x hx
    unfold Elems.bs at hx
    obtain ⟨y, hy, rfl⟩ := List.mem_map.1 hx
    have h1 := PInt.piece_le hy
    have h2 : s.data.toList.length ≤ 4000 := by rw [Array.length_toList]; exact hl
    show y.toArray.size ≤ 4000
    simp
    omega
  · refine (Elems.impl_bad s ⟨#[32]⟩ (.inl (by omega)) (by unfold maxLen; omega) w).mono ?_
    rintro e w' ⟨g, cap, rfl, hnc, ho, hb⟩
    exact ⟨_, _, _, _, [], rfl, own_of LString.rec (xs := []) ho rfl rfl, fun x hx => (by cases hx), fun h => absurd h hl, hb⟩
end Go.Proofs.YtfkppgnffhbfjaaDoor.PAmH
