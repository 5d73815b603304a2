/- AgendaText, model and program: what both answer. For the program's: the table of powers of ten that strconv reads is as its initialiser lays it. -/
import Derived.Test.YthadmkfmgpddoaaDoorAgX
namespace Go.Proofs.YthadmkfmgpddoaaDoor.AgendaTextC
open Go.RowKit Bs Word Ag AgX
set_option linter.unusedVariables false
def textM (xs : List M) : ByteArray := xs.foldl (fun s r => s ++ lineM r ++ ⟨#[10]⟩) ⟨#[]⟩
theorem text_next (xs : List M) (k : Nat) (h : k < xs.length) : textM (xs.take (k + 1)) = textM (xs.take k) ++ lineM xs[k] ++ ⟨#[10]⟩ := by
  unfold textM
  rw [List.take_succ_eq_append_getElem h, List.foldl_append]
  rfl
theorem text_size (xs : List M) (h : ∀ x ∈ xs, okB x = true) : ∀ k, k ≤ xs.length → (textM (xs.take k)).size ≤ k * 160
  | 0, _ => Nat.le_refl 0
  | k + 1, hk => by
    have ih := text_size xs h k (by omega)
    have hl := line_size (h xs[k] (List.getElem_mem (by omega)))
    rw [text_next xs k (by omega), ByteArray.size_append, ByteArray.size_append]
    have e : (⟨#[10]⟩ : ByteArray).size = 1 := rfl
    omega
theorem all_ok {xs : List M} (h : goodB xs = true) : ∀ x ∈ xs, okB x = true := fun x hx => by
  obtain ⟨i, hi, rfl⟩ := List.getElem_of_mem hx
  exact good_at h (List.getElem?_eq_getElem hi)
def Ans (z0 : List M) (r0 : ByteArray) (r1 : Bool) : Prop := (goodB z0 = true ∧ r0 = textM z0 ∧ r1 = true) ∨ (goodB z0 = false ∧ r0 = ⟨#[]⟩ ∧ r1 = false)
theorem same {z0 : List LAgendaItem.R} {r0 s0 : ByteArray} {r1 s1 : Bool} (h : Ans z0 r0 r1) (h' : Ans z0 s0 s1) : r0 = s0 ∧ r1 = s1 := by
  rcases h with ⟨g, rfl, rfl⟩ | ⟨g, rfl, rfl⟩ <;> rcases h' with ⟨g', rfl, rfl⟩ | ⟨g', rfl, rfl⟩
  · exact ⟨rfl, rfl⟩
  · rw [g] at g'; cases g'
  · rw [g] at g'; cases g'
  · exact ⟨rfl, rfl⟩
def Post (z0 : List LAgendaItem.R) (w : World) (e : Ending) (w' : World) : Prop := ∃ r0 r1, e = .returned (.tuple #[.string r0, .bool r1]) ∧ Ans z0 r0 r1 ∧ Below w.heap.size w w'
end Go.Proofs.YthadmkfmgpddoaaDoor.AgendaTextC
