/- What a reading of lines calls: strings.Cut at any mark. The cell of internal/bytealg.MaxLen must lie in memory. -/
import Derived.Test.YtgemnjimgjnlhaaGreatDoorShelf
import Derived.Test.YtgemnjimgjnlhaaGreatDoorJ1
import Derived.Test.YtgemnjimgjnlhaaGreatDoorPCut
namespace Go.Proofs.YtgemnjimgjnlhaaGreatDoor.PCutH
open Go.RowKit Bs SplitMath
set_option linter.unusedVariables false
/-- the variable internal/bytealg.MaxLen holds a number -/
def Mx (w : World) : Prop := 0 < w.heap.size ∧ ∃ m, w.cell? ⟨0, 0, none⟩ = some (.int .i64 m)
theorem Mx.of {w : World} (h : w.ShapedOpen Tryz.prog) : Mx w := by
  have hm : ∃ m, w.cell? ⟨0, 0, none⟩ = some (.int .i64 m) := Go.Proofs.cell_of_shapedOpen_int (zero := #[.int .i64 0]) (t := 3) h (of_decide_eq_true (by kernel_rfl)) (by kernel_rfl) rfl (by kernel_rfl) (by kernel_rfl) Tryz.underlying3
  refine ⟨?_, hm⟩
  obtain ⟨m, hm⟩ := hm
  rcases Nat.eq_zero_or_pos w.heap.size with h0 | h0
  · exfalso
    have : w.heap[0]? = none := Array.getElem?_eq_none (by omega)
    simp [World.cell?, this] at hm
  · exact h0
theorem Mx.below {w w' : World} (h : Mx w) (hb : Below w.heap.size w w') : Mx w' := by
  obtain ⟨h0, m, hm⟩ := h
  refine ⟨Nat.lt_of_lt_of_le h0 hb.size, m, ?_⟩
  rw [World.cell?_of_block (a := ⟨0, 0, none⟩) (hb.block _ h0)]
  exact hm
def CR (s sep : ByteArray) (w : World) (e : Ending) (w' : World) : Prop :=
  ∃ a b ok, e = .returned (.tuple #[.string a, .string b, .bool ok]) ∧ Lib.cut s.data.toList sep.data.toList = (a.data.toList, b.data.toList, ok) ∧ (a.size ≤ s.size ∧ b.size ≤ s.size) ∧ Below w.heap.size w w'
theorem cut_le (l m : List UInt8) : (Lib.cut l m).1.length ≤ l.length ∧ (Lib.cut l m).2.1.length ≤ l.length := by
  unfold Lib.cut
  split
  · exact ⟨by simp; omega, by simp⟩
  · simp
theorem cutC (s sep : ByteArray) (w : World) (hs : s.size ≤ 1048576) (vm : Mx w) :
    Calls Tryz.prog 54 #[.string s, .string sep] w (CR s sep w) := by
  obtain ⟨h0, m, hm⟩ := vm
  refine (Tryz.strings_Cut s sep m w (by omega) hm).mono ?_
  rintro e w' ⟨rfl, n, rfl⟩
  have h := cut_le s.data.toList sep.data.toList
  rw [Array.length_toList] at h
  exact ⟨_, _, _, rfl, rfl, h, ⟨rfl, rfl, rfl, Nat.le_refl _, fun _ _ => rfl⟩⟩
end Go.Proofs.YtgemnjimgjnlhaaGreatDoor.PCutH
