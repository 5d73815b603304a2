/- Pairs of proposals that conflict: the mathematics. No condition. -/
import Derived.Test.YtclpdpfnlmfogaaDoorCfM
import Derived.Test.YtclpdpfnlmfogaaDoorLIntA2D
namespace Go.Proofs.YtclpdpfnlmfogaaDoor.CfQ
open Go.RowKit Bs Word Am Cf CfM
set_option linter.unusedVariables false
/-- the pairs that conflict -/
def pr (l : List P) (i k : Nat) : LIntA2.R := ⟨idAt l i, idAt l k⟩
def rowTo (l : List P) (i k : Nat) : List LIntA2.R := ((List.range k).filter fun j => decide (i < j) && cf l i j).map (pr l i)
def row (l : List P) (i : Nat) : List LIntA2.R := rowTo l i l.length
def rows (l : List P) (i : Nat) : List LIntA2.R := (List.range i).flatMap (row l)
def pairs (l : List P) : List LIntA2.R := rows l l.length
theorem rows_next (l : List P) (i : Nat) : rows l (i + 1) = rows l i ++ row l i := by unfold rows; rw [List.range_succ, List.flatMap_append]; simp
theorem rowTo_begin (l : List P) (i : Nat) : rowTo l i (i + 1) = [] := by
  unfold rowTo
  rw [List.filter_eq_nil_iff.2]
  · rfl
  · intro j hj
    have := List.mem_range.1 hj
    rw [decide_eq_false (by omega)]; simp
theorem rowTo_yes {l : List P} {i k : Nat} {a b : P} (ha : l[i]? = some a) (hb : l[k]? = some b) (h0 : i < k) (h : cf l i k = true) : rowTo l i (k + 1) = rowTo l i k ++ [⟨a.id, b.id⟩] := by
  unfold rowTo; rw [List.range_succ, List.filter_append, List.map_append]; simp [h, h0, pr, id_at ha, id_at hb]
theorem rowTo_no {l : List P} {i k : Nat} (h : cf l i k = false) : rowTo l i (k + 1) = rowTo l i k := by
  unfold rowTo; rw [List.range_succ, List.filter_append, List.map_append]; simp [h]
theorem rowTo_len (l : List P) (i k : Nat) : (rowTo l i k).length ≤ k := by
  unfold rowTo; rw [List.length_map]
  have := List.length_filter_le (fun j => decide (i < j) && cf l i j) (List.range k)
  rwa [List.length_range] at this
theorem rows_len (l : List P) : ∀ i, (rows l i).length ≤ i * l.length
  | 0 => by simp [rows]
  | i + 1 => by
    rw [rows_next, List.length_append, Nat.add_mul]
    have := rows_len l i
    have := rowTo_len l i l.length
    unfold row
    omega
def upTo (l : List P) (i : Nat) (js : List Nat) : List LIntA2.R := (js.filter fun j => decide (i < j)).map (pr l i)
theorem row_bits (l : List P) (i : Nat) : row l i = upTo l i (bitsL (riv l i) l.length) := by
  unfold row rowTo upTo bitsL
  rw [List.filter_filter]
  congr 1
  apply List.filter_congr
  intro j hj
  rw [riv_bit]
  unfold rivB
  by_cases h : i < j
  · rw [decide_eq_true h, decide_eq_true (show i ≠ j by omega)]; simp
  · rw [decide_eq_false h]; simp
theorem upTo_yes {l : List P} {i k : Nat} {js : List Nat} {a b : P} {m : Nat} (ha : l[i]? = some a) (hm : js[m]? = some k) (hb : l[k]? = some b) (h : i < k) : upTo l i (js.take (m + 1)) = upTo l i (js.take m) ++ [⟨a.id, b.id⟩] := by
  have hl : m < js.length := (List.getElem?_eq_some_iff.1 hm).1
  rw [List.getElem?_eq_getElem hl] at hm
  unfold upTo
  rw [List.take_succ_eq_append_getElem hl, List.filter_append, List.map_append, Option.some.inj hm]
  simp [h, pr, id_at ha, id_at hb]
theorem upTo_no {l : List P} {i k : Nat} {js : List Nat} {m : Nat} (hm : js[m]? = some k) (h : ¬ i < k) : upTo l i (js.take (m + 1)) = upTo l i (js.take m) := by
  have hl : m < js.length := (List.getElem?_eq_some_iff.1 hm).1
  rw [List.getElem?_eq_getElem hl] at hm
  unfold upTo
  rw [List.take_succ_eq_append_getElem hl, List.filter_append, List.map_append, Option.some.inj hm]
  simp [h]
theorem upTo_len (l : List P) (i : Nat) (js : List Nat) : (upTo l i js).length ≤ js.length := by
  unfold upTo; rw [List.length_map]; exact List.length_filter_le _ _
end Go.Proofs.YtclpdpfnlmfogaaDoor.CfQ
