/- The lines of a text, each with its end: the program's function. No condition but that a string is no longer than a string can be. -/
import Derived.Test.YtankaffhapcnaaaDoorSplitAny
import Derived.Test.YtankaffhapcnaaaDoorJ1
import Derived.BigQuiet
import Derived.IntWalk
namespace Go.Proofs.YtankaffhapcnaaaDoor.EndL
open Go.RowKit Bs SplitMath SplitL Elems
set_option linter.unusedVariables false
def Yes (s : ByteArray) (w : World) (ls : List (List UInt8)) (e : Ending) (w' : World) : Prop :=
  ∃ g cap, e = .returned (.tuple #[.slice (some ⟨g, 0, none⟩) ls.length cap, .bool true]) ∧ s.size ≤ 4000 ∧ splitOf s.data.toList 10 = ls ++ [[]] ∧ IsS LString.rec w' (.slice (some ⟨g, 0, none⟩) ls.length cap) (bs ls) ∧ Below w.heap.size w w'
def No (s : ByteArray) (w : World) (e : Ending) (w' : World) : Prop :=
  ∃ v, e = .returned (.tuple #[v, .bool false]) ∧ (4000 < s.size ∨ ∀ ls, splitOf s.data.toList 10 ≠ ls ++ [[]]) ∧ Below w.heap.size w w'
def EPost (s : ByteArray) (w : World) (e : Ending) (w' : World) : Prop := (∃ ls, Yes s w ls e w') ∨ No s w e w'
theorem own_bs {w : World} {A g cap : Nat} {l : List (List UInt8)} (h : w.ownsRow A 9 1 (.slice (some ⟨g, 0, none⟩) l.length cap) l.length (vals l)) : Bs.Own LString.rec 9 w A (.slice (some ⟨g, 0, none⟩) l.length cap) (bs l) :=
  own_of LString.rec h (bs_len l) (by rw [LString.flat_eq, vals_bs])
theorem to_data (x : ByteArray) : x.toList = x.data.toList := ByteArray.toList_eq ..
theorem snoc_ex {l : List (List UInt8)} (h : 0 < l.length) : ∃ ls z, l = ls ++ [z] := ⟨l.dropLast, l.getLast (List.ne_nil_of_length_pos h), (List.dropLast_concat_getLast _).symm⟩
set_option maxRecDepth 100000 in
set_option maxHeartbeats 800000 in
theorem endedLines (s : ByteArray) (w : World) (hm : s.size ≤ maxLen) :
    Calls Tryd.prog 53 #[.string s] w (EPost s w) := by
  by_cases h4 : s.size ≤ 4000
  · obtain ⟨ls, z, hlz⟩ : ∃ ls z, splitOf s.data.toList 10 = ls ++ [z] := snoc_ex (split_pos _ _)
    have HC := Lib.hid (impl_res s 10 h4 w)
    have hlen := splitOf_length s.data.toList 10
    rw [hlz] at hlen HC
    have hss : s.data.toList.length ≤ 4000 := by rw [Array.length_toList]; exact h4
    have hlen2 : ls.length + 1 ≤ 4001 := by rw [List.length_append, List.length_singleton] at hlen; omega
    have hs4 : s.size ≤ 4000 := h4
    have HL := Lib.hid hlz
    clear hlz h4 hlen hss
    unfold SplitRes at HC
    obtain ⟨n, hn⟩ : ∃ n, n = ls.length := ⟨_, rfl⟩
    have HN := Lib.hid hn.symm
    rw [show (ls ++ [z]).length = n + 1 by rw [List.length_append, hn]; rfl] at HC
    rw [← hn] at hlen2
    clear hn
    obtain ⟨X, hX⟩ : ∃ X : ByteArray, X = ⟨z.toArray⟩ := ⟨_, rfl⟩
    have HXe := Lib.hid (show X.data.toList = z by rw [hX])
    have HBS := Lib.hid (show bs (ls ++ [z]) = bs ls ++ [X] by rw [hX]; unfold bs; rw [List.map_append]; rfl)
    have HBL := Lib.hid (show (bs ls).length = n by rw [bs_len]; exact HN.out)
    clear hX
    go_enter Tryd.func53, Tryd.ntmps53
    go_wp2_with fail
    refine HC.out.mono ?_
    rintro e w1 ⟨g, cap, rfl, hnc, ho, hb1⟩
    have HO := Lib.hid (show Bs.Own LString.rec 9 w1 w.heap.size (.slice (some ⟨g, 0, none⟩) (n + 1) cap) (bs ls ++ [X]) from
      own_of LString.rec ho (by rw [List.length_append, HBL.out]; rfl) (by rw [LString.flat_eq, ← HBS.out, vals_bs]))
    have q0 := LString.cells (Bs.Own.at_ HO.out n X (by rw [List.getElem?_append_right (by rw [HBL.out]; exact Nat.le_refl _), HBL.out, Nat.sub_self]; rfl))
    simp only [LString.rec_n, Nat.mul_one] at q0
    have hcap : cap ≤ maxLen := by
      rcases HO.out.shape with ⟨h, _⟩ | ⟨g', c', e, _, _, _, h⟩
      · cases h
      · simp only [Value.slice.injEq] at e
        rw [e.2.2]; exact h
    have hIS0 : IsS LString.rec w1 (.slice (some ⟨g, 0, none⟩) (n + 1) cap) (bs ls ++ [X]) := HO.out.isS ⟨g, rfl⟩
    have HIS := Lib.hid (show IsS LString.rec w1 (.slice (some ⟨g, 0, none⟩) n cap) (bs ls) by
      have := IsS.take LString.rec (k := n) hIS0 (by omega)
      rwa [List.take_append_of_le_length (by rw [HBL.out]; exact Nat.le_refl _), List.take_of_length_le (by rw [HBL.out]; exact Nat.le_refl _)] at this)
    clear ho hIS0 HO
    unfold maxLen at hcap
    have s1 : IntKind.i64.wrap (((n + 1 : Nat) : Int) - 1) = (n : Int) := by rw [IntWalk.i64_in _ (by omega)]; omega
    have s2 : IntKind.i64.wrap ((n : Int) + 1 - 1) = (n : Int) := by rw [IntWalk.i64_in _ (by omega)]; omega
    have s3 : (n : Int) + 1 - 1 = (n : Int) := by omega
    have s4 : (n : Int) < (n : Int) + 1 := by omega
    have s5 : (n : Int) ≤ (cap : Int) := by omega
    have s6 : 0 ≤ (n : Int) := by omega
    by_cases hX : z = []
    · have hX1 : X.toList = [] := by rw [to_data, HXe.out]; exact hX
      have HE := Lib.hid (show splitOf s.data.toList 10 = ls ++ [[]] by rw [HL.out, hX])
      clear hX
      go_wp2_with fail
      go_ret2
      refine .inl ⟨ls, g, cap, ?_, hs4, HE.out, ?_, hb1⟩
      · rw [HN.out]; first | rfl | (simp only [show ((n : Int) + 1 - 1).toNat = n by omega])
      · rw [HN.out]; exact HIS.out
    · have hX0 : X.toList ≠ [] := by rw [to_data, HXe.out]; exact hX
      have hX1 : (X.toList == []) = false := by rw [beq_eq_false_iff_ne]; exact hX0
      have hX2 : X.toList.isEmpty = false := by simpa using hX0
      have hX3 : (!X.toList.isEmpty) = true := by rw [hX2]; rfl
      have HE := Lib.hid (show ∀ ms, splitOf s.data.toList 10 ≠ ms ++ [[]] from fun ms h => by
        rw [HL.out] at h
        exact hX (List.cons.inj (List.append_inj' h rfl).2).1)
      have HX0 := Lib.hid hX0
      clear hX hX0
      have hb2 := hb1.alloc hb1.size (Obj.cells #[] 9)
      go_wp2_with fail
      go_ret2
      exact .inr ⟨_, rfl, .inr HE.out, hb2⟩
  · have HC := Lib.hid (impl_bad s ⟨#[10]⟩ (.inl (by omega)) hm w)
    unfold SplitRes at HC
    have hs4 : 4000 < s.size := by omega
    clear h4
    go_enter Tryd.func53, Tryd.ntmps53
    go_wp2_with fail
    refine HC.out.mono ?_
    rintro e w1 ⟨g, cap, rfl, hnc, ho, hb1⟩
    have hb2 := hb1.alloc hb1.size (Obj.cells #[] 9)
    clear ho hnc
    go_wp2_with fail
    go_ret2
    exact .inr ⟨_, rfl, .inl hs4, hb2⟩
end Go.Proofs.YtankaffhapcnaaaDoor.EndL
