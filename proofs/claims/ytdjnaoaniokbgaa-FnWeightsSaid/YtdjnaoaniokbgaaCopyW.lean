/- copy between rows of records of any width; the lists that an insertion makes. No condition. -/
import Derived.Test.YtdjnaoaniokbgaaJ1
import Derived.Laws.CopyRow
import Derived.Laws.CopyOwn
import Derived.Lib.AppendZerosOnto
import Derived.Lib.Overlaps
import Derived.Shelf.Spec.SlicesInsert
import Derived.Laws.NewBlocks
namespace Go.Proofs.Ytdjnaoaniokbgaa.Bs
open Go Go.RowKit
set_option linter.unusedVariables false
theorem run_copy_row_w {P : Program} (w : World) (dT sT ty elem : TypeId) (sz g o dLen dCap : Nat) (a : Addr) (sLen sCap m : Nat) (cur : Array Value) (t : TypeId) (cs : List Value)
    (hu : P.underlying dT = some (.slice elem)) (hs : (P.info? elem).map (·.size) = some sz)
    (hg : w.heap[g]? = some (.cells cur t (0, 0))) (hm : Nat.min sLen dLen = m) (hn : cs.length = m * sz)
    (hsrc : ∀ j v, cs[j]? = some v → w.cell? (a.add j) = some v) (hfit : o + cs.length ≤ cur.size) (h1 : ∀ v ∈ cs, v.oneCell' = true) :
    (Builtin.copy_ #[dT, sT] ty #[.slice (some ⟨g, o, none⟩) dLen dCap, .slice (some a) sLen sCap]).run P w =
      .ok (goInt m) (w.setRow g (cur.toList.take o ++ cs ++ cur.toList.drop (o + cs.length)).toArray) := by
  have hl := run_loadCells_list (P := P) w a cs hsrc
  have hst := run_storeCells_at P g o t cs 0 cur w hg (by simpa using hfit) h1
  cases hq : P.info? elem with
  | none => simp [hq] at hs
  | some i =>
    have hi : i.size = sz := by simpa [hq] using hs
    simp [Builtin.copy_, run_underlying hu, Builtin.lenOf, Builtin.firstCells, sizeOf, typeInfo, hq, hi, hm, ← hn, hl, hst]
/-- a piece of a list written over -/
def spl (C : List Value) (o : Nat) (cs : List Value) : List Value := C.take o ++ cs ++ C.drop (o + cs.length)
theorem spl_len {C cs : List Value} {o : Nat} (h : o + cs.length ≤ C.length) : (spl C o cs).length = C.length := by
  unfold spl; simp; omega
/-- what follows shifted first, then the new one laid: in place -/
theorem ins_shift {A X B S : List Value} (hS : X.length ≤ S.length) : spl (spl (A ++ B ++ S) (A.length + X.length) B) A.length X = A ++ X ++ B ++ (A ++ B ++ S).drop (A.length + X.length + B.length) := by
  obtain ⟨C, hC⟩ : ∃ C, C = A ++ B ++ S := ⟨_, rfl⟩
  have hl : C.length = A.length + B.length + S.length := by rw [hC]; simp; omega
  have hA : C.take A.length = A := by rw [hC]; simp
  rw [← hC]
  unfold spl
  have h1 : (C.take (A.length + X.length)).length = A.length + X.length := by rw [List.length_take]; omega
  have e1 : (C.take (A.length + X.length) ++ B ++ C.drop (A.length + X.length + B.length)).take A.length = A := by
    rw [List.append_assoc, List.take_append_of_le_length (by omega), List.take_take, Nat.min_eq_left (by omega), hA]
  have e2 : (C.take (A.length + X.length) ++ B ++ C.drop (A.length + X.length + B.length)).drop (A.length + X.length) = B ++ C.drop (A.length + X.length + B.length) := by
    rw [List.append_assoc]
    exact List.drop_left' h1
  rw [e1, e2, ← List.append_assoc]
/-- the new one laid first, then what follows it: in a new row -/
theorem ins_fresh {A X B Z : List Value} (hZ : X.length + B.length ≤ Z.length) : spl (spl (A ++ Z) A.length X) (A.length + X.length) B = A ++ X ++ B ++ Z.drop (X.length + B.length) := by
  have e1 : spl (A ++ Z) A.length X = A ++ X ++ Z.drop X.length := by
    unfold spl
    rw [List.take_left' rfl, List.drop_append_of_le_length' X.length]
  rw [e1]
  unfold spl
  have h1 : (A ++ X).length = A.length + X.length := List.length_append
  rw [List.take_left' h1]
  rw [← List.drop_drop, List.drop_left' h1, List.drop_drop]
where
  List.drop_append_of_le_length' (k : Nat) {A Z : List Value} : (A ++ Z).drop (A.length + k) = Z.drop k := by
    rw [← List.drop_drop, List.drop_left' rfl]
theorem flat_ins {α : Type} (T : Rec α) (xs : List α) (x : α) (i : Nat) : flat T (xs.take i ++ x :: xs.drop i) = flat T (xs.take i) ++ T.vals x ++ flat T (xs.drop i) := by
  rw [flat_append, flat_cons, List.append_assoc]
/-- an owned row seen as its cells -/
theorem own_row {α : Type} {T : Rec α} {E : TypeId} {w : World} {A g n cap : Nat} {xs : List α} (h : Own T E w A (.slice (some ⟨g, 0, none⟩) n cap) xs) : ∃ cur : Array Value, w.heap[g]? = some (.cells cur E (0, 0)) ∧ cur.size = cap * T.n ∧ cur.toList.take (xs.length * T.n) = flat T xs ∧ A ≤ g ∧ n ≤ cap ∧ cap ≤ maxLen ∧ xs.length = n := by
  have hn : xs.length = n := by
    rcases h.shape with ⟨e, _⟩ | ⟨g', cap', e, _⟩
    · cases e
    · simp only [Value.slice.injEq] at e; exact e.2.1.symm
  rcases h.2 with ⟨e, _⟩ | ⟨g', cap', cur, e, hb, hg, h1, h2, h3, h4⟩
  · cases e
  · simp only [Value.slice.injEq, Option.some.injEq, Addr.mk.injEq, and_true] at e
    obtain ⟨rfl, _, rfl⟩ := e
    exact ⟨cur, hg, h3, h4, hb, by omega, h2, hn⟩
theorem own_mk {α : Type} {T : Rec α} {E : TypeId} {w : World} {A g n cap : Nat} {xs : List α} {C : List Value} (hg : w.heap[g]? = some (.cells C.toArray E (0, 0))) (hA : A ≤ g) (hn : xs.length = n) (hc : n ≤ cap) (hm : cap ≤ maxLen) (hs : C.length = cap * T.n) (hC : ∃ S, C = flat T xs ++ S) : Own T E w A (.slice (some ⟨g, 0, none⟩) n cap) xs := by
  subst hn
  refine ⟨flat_len T xs, .inr ⟨g, cap, C.toArray, rfl, hA, hg, hc, hm, by simpa using hs, ?_⟩⟩
  obtain ⟨S, rfl⟩ := hC
  rw [← flat_len T xs]
  simp
end Go.Proofs.Ytdjnaoaniokbgaa.Bs
