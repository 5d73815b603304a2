/- ParseInt at any string, and a piece of a split text: what the readings of lines in later chapters need. The laid package variables of strconv must lie in memory. -/
import Derived.Test.YtgemnjimgjnlhaaGreatDoorReadImpl
import Derived.Test.YtgemnjimgjnlhaaGreatDoorSplitAny
import Derived.Test.YtgemnjimgjnlhaaGreatDoorJ1
import Derived.Test.YtgemnjimgjnlhaaGreatDoorShelf
namespace Go.Proofs.YtgemnjimgjnlhaaGreatDoor.PInt
open Go.RowKit Bs SplitMath NumMath Elems
set_option linter.unusedVariables false
/-- ParseInt at any string: a number where it is a numeral, else 0 -/
def RI (l : List UInt8) (w : World) (e : Ending) (w' : World) : Prop := ∃ v ok, e = .returned (.tuple #[.int .i64 v, .bool ok]) ∧ (Numeral l v ∨ ((∀ v, ¬ Numeral l v) ∧ v = 0)) ∧ Below w.heap.size w w'
theorem parseInt (s : ByteArray) (w : World) (hs : s.size ≤ 281474976710656) (vp : Laid.Pow w) (vr : Laid.Err "strconv.ErrRange" w) (vs : Laid.Err "strconv.ErrSyntax" w) :
    Calls Tryz.prog 55 #[.string s] w (RI s.data.toList w) := by
  by_cases h : ∃ v, Numeral s.data.toList v
  · obtain ⟨v, hv⟩ := h
    exact (Read.impl_yes s v w hv vp).mono fun e w' ⟨he, hb⟩ => ⟨v, true, he, .inl hv, hb⟩
  · have hn : ∀ v, ¬ Numeral s.data.toList v := fun v hv => h ⟨v, hv⟩
    exact (Read.impl_no s w hs hn vp vr vs).mono fun e w' ⟨he, hb⟩ => ⟨0, false, he, .inr ⟨hn, rfl⟩, hb⟩
theorem piece_le {l x : List UInt8} {c : UInt8} (h : x ∈ splitOf l c) : x.length ≤ l.length := by
  have key : ∀ (l : List UInt8) (p : List (List UInt8) × List UInt8) (n : Nat), (∀ y ∈ p.1, y.length ≤ n) → p.2.length ≤ n → ∀ y ∈ (l.foldl (splStep c) p).1 ++ [(l.foldl (splStep c) p).2], y.length ≤ n + l.length := by
    intro l
    induction l with
    | nil =>
      intro p n h1 h2 y hy
      simp only [List.foldl_nil, List.mem_append, List.mem_singleton] at hy
      rcases hy with hy | rfl
      · have := h1 y hy; simp; omega
      · simp; omega
    | cons b l ih =>
      intro p n h1 h2 y hy
      rw [List.foldl_cons] at hy
      have := ih (splStep c p b) (n + 1) (by
        intro z hz
        unfold splStep at hz
        split at hz
        · simp only [List.mem_append, List.mem_singleton] at hz
          rcases hz with hz | rfl
          · have := h1 z hz; omega
          · omega
        · have := h1 z hz; omega) (by
        unfold splStep
        split
        · simp
        · simp; omega) y hy
      rw [List.length_cons]
      omega
  have := key l ([], []) 0 (by simp) (by simp) x h
  omega
end Go.Proofs.YtgemnjimgjnlhaaGreatDoor.PInt
