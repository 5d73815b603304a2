/- A document's numbers are distinct, and begin with their owner's. No program. -/
import Derived.Test.YtmpolpeomabcfaaDoorDocP
import Derived.Test.YtmpolpeomabcfaaDoorNumMath
import Derived.Test.YtmpolpeomabcfaaDoorFindSectionC
import Derived.Test.YtmpolpeomabcfaaDoorBelongsToC
import Derived.Test.YtmpolpeomabcfaaDoorSectionNumberC
import Derived.Test.YtmpolpeomabcfaaDoorDocumentTextC
import Derived.Test.YtmpolpeomabcfaaDoorParseDocumentC
namespace Go.Proofs.YtmpolpeomabcfaaDoor.DocU
open Go.RowKit Bs Word Doc DocP
set_option linter.unusedVariables false
theorem itoa_inj {a b : Int} (h : Lib.itoa a = Lib.itoa b) : a = b := by
  have h1 := NumMath.atoi_itoa a
  rw [h, NumMath.atoi_itoa] at h1
  exact (Option.some.inj h1).symm
theorem num_inj {a b : Int} (h : num a = num b) : a = b := by
  apply itoa_inj
  have := congrArg (fun s : ByteArray => s.data.toList) h
  simpa [num] using this
theorem num_nodot (n : Nat) : ∀ b ∈ (num (n : Int)).data.toList, b ≠ 46 := by
  rw [num_list]; exact dig_clean n 46 (by decide)
theorem last_uniq {a b a' b' : List UInt8} {c : UInt8} (h : a ++ c :: b = a' ++ c :: b') (hb : ∀ x ∈ b, x ≠ c) (hb' : ∀ x ∈ b', x ≠ c) : a = a' ∧ b = b' := by
  have h1 : b.reverse ++ c :: a.reverse = b'.reverse ++ c :: a'.reverse := by
    have := congrArg List.reverse h
    simpa using this
  have := cut_uniq h1 (fun x hx => hb x (by simpa using hx)) (fun x hx => hb' x (by simpa using hx))
  exact ⟨List.reverse_inj.1 this.2, List.reverse_inj.1 this.1⟩
theorem up_list {z : List M} {i u : Nat} (h : up z i = u) : (numB z i).data.toList = (numB z u).data.toList ++ 46 :: (num (cnt z i)).data.toList := by
  rw [numB_up h, app_list, app_list, mk_list]; simp
theorem cnt_lt {z : List M} {i j : Nat} (hij : i < j) (hu : up z i = up z j) : cnt z i < cnt z j := by
  have hs : sib z i = sib z j := by funext k; unfold sib; rw [hu]
  unfold cnt
  rw [hs, cntP_yes (k := j) (by simp [sib])]
  have := cntP_mono (sib z j) (i + 1) j (by omega)
  omega
theorem cnt_inj {z : List M} {i j : Nat} (hu : up z i = up z j) (h : cnt z i = cnt z j) : i = j := by
  rcases Nat.lt_trichotomy i j with hl | hl | hl
  · have := cnt_lt hl hu; omega
  · exact hl
  · have := cnt_lt hl hu.symm; omega
theorem numB_inj {z : List M} (hg : goodB z = true) (K : Nat) : ∀ i j, i < K → i < z.length → j < z.length → numB z i = numB z j → i = j := by
  induction K with
  | zero => intro i j h; omega
  | succ K ih =>
    intro i j hK hi hj h
    have d1 := numB_dots hg (i + 1) i (by omega) hi
    have d2 := numB_dots hg (j + 1) j (by omega) hj
    rw [h] at d1
    have hd : dep z i = dep z j := by omega
    have b1 := good_dep hg hi
    rcases dep_up hg hi with ⟨u1, e1⟩ | ⟨u, u1, u2, u3⟩
    · rcases dep_up hg hj with ⟨v1, f1⟩ | ⟨v, v1, v2, v3⟩
      · rw [numB_top (xs := z) (i := i) (by omega), numB_top (xs := z) (i := j) (by omega)] at h
        have := num_inj h
        exact cnt_inj (z := z) (i := i) (j := j) (by omega) (by omega)
      · have := good_dep hg (show v < z.length by omega); omega
    · have bu := good_dep hg (show u < z.length by omega)
      rcases dep_up hg hj with ⟨v1, f1⟩ | ⟨v, v1, v2, v3⟩
      · omega
      · have hl : (numB z i).data.toList = (numB z j).data.toList := by rw [h]
        rw [up_list u1, up_list v1] at hl
        obtain ⟨p1, p2⟩ := last_uniq hl (num_nodot _) (num_nodot _)
        have hn : num (cnt z i : Int) = num (cnt z j : Int) := ByteArray.ext (Array.toList_inj.1 p2)
        have hq : numB z u = numB z v := ByteArray.ext (Array.toList_inj.1 p1)
        have huv := ih u v (by omega) (by omega) (by omega) hq
        have := num_inj hn
        exact cnt_inj (z := z) (i := i) (j := j) (by omega) (by omega)
/-- the section found by a section's number is that section -/
theorem find_back {z : List M} {k : Nat} {s : ByteArray} {r0 : Int} {r1 : Bool} (hg : goodB z = true) (hk : k < z.length) (hs : s = numB z k) (h : FindSectionC.Ans z s r0 r1) : r0 = k ∧ r1 = true := by
  subst hs
  rcases h with ⟨_, i, hi, he, _, rfl, rfl⟩ | ⟨hm, _, _⟩
  · have := numB_inj hg (i + 1) i k (by omega) hi hk he
    exact ⟨by omega, rfl⟩
  · exact absurd rfl (hm hg k hk)
theorem num_told {z : List M} {i : Int} {s : ByteArray} (h : SectionNumberC.Ans z i s true) : goodB z = true ∧ ∃ k : Nat, i = k ∧ k < z.length ∧ s = numB z k := by
  unfold SectionNumberC.Ans SectionNumberC.anA at h
  split at h
  · rename_i hq
    obtain ⟨hg, k, rfl, hk⟩ := ask_good hq
    simp only [Prod.mk.injEq, and_true] at h
    exact ⟨hg, k, rfl, hk, h.symm⟩
  · simp at h
theorem ask_yes {z : List M} {k : Nat} (hg : goodB z = true) (hk : k < z.length) : askB z k = true := by
  unfold askB; rw [hg, inB_mk (by omega) (by omega)]; rfl
/-- what BelongsTo tells of a section -/
theorem belongs {z : List M} {k : Nat} {x : Int} {b : Bool} (hg : goodB z = true) (hk : k < z.length) (h : BelongsToC.Ans z k x b) :
    (b = false ∧ dep z k = 1) ∨ (b = true ∧ 1 < dep z k ∧ ∃ u : Nat, x = u ∧ u < z.length ∧ up z k = u ∧ dep z u = dep z k - 1) := by
  unfold BelongsToC.Ans at h
  rcases dep_up hg hk with ⟨u1, e1⟩ | ⟨u, u1, u2, u3⟩
  · rw [BelongsToC.no2 (by omega)] at h
    simp only [Prod.mk.injEq] at h
    exact .inl ⟨h.2.symm, e1⟩
  · rw [BelongsToC.yes (ask_yes hg hk) (by omega)] at h
    simp only [Prod.mk.injEq] at h
    have := good_dep hg (show u < z.length by omega)
    exact .inr ⟨h.2.symm, by omega, u, by rw [← h.1, u1], by omega, u1, by omega⟩
theorem num_is {z : List M} {k : Nat} {s : ByteArray} {b : Bool} (hg : goodB z = true) (hk : k < z.length) (h : SectionNumberC.Ans z k s b) : s = numB z k ∧ b = true := by
  unfold SectionNumberC.Ans at h
  rw [SectionNumberC.yes (ask_yes hg hk)] at h
  simp only [Prod.mk.injEq] at h
  exact ⟨h.1.symm, h.2.symm⟩
theorem take_mid : ∀ (a b : List UInt8) (c : UInt8), (a ++ c :: b).take (a.length + 1) = a ++ [c]
  | [], b, c => by simp
  | x :: a, b, c => by rw [List.cons_append, List.length_cons, List.take_succ_cons, take_mid a b c, List.cons_append]
/-- a number begins with its owner's -/
theorem owner_prefix {z : List M} {k u : Nat} (h : up z k = u) : (numB z k).extract 0 ((numB z u).size + 1) = numB z u ++ ⟨#[46]⟩ ∧ (numB z u).size + 1 ≤ (numB z k).size := by
  have e := up_list h
  constructor
  · apply ByteArray.ext
    apply Array.toList_inj.1
    rw [app_list, mk_list]
    have : ((numB z k).extract 0 ((numB z u).size + 1)).data.toList = (numB z k).data.toList.take ((numB z u).size + 1) := by simp
    rw [this, e, show (numB z u).size = (numB z u).data.toList.length by simp, take_mid]
  · have := congrArg List.length e
    simp at this
    omega
/-- a document's text is read back -/
theorem read_back {z : List M} {s : ByteArray} {r0 : List M} {r1 : Bool} (ht : DocumentTextC.Ans z s true) (h : ParseDocumentC.Ans s r0 r1) : goodB z = true ∧ r0 = z ∧ r1 = true := by
  rcases ht with ⟨hg, rfl, _⟩ | ⟨_, _, hf⟩
  · have := DocP.same h (ans_yes hg rfl)
    exact ⟨hg, this.1, this.2⟩
  · cases hf
theorem text_good {z : List M} {s : ByteArray} {b : Bool} (ht : DocumentTextC.Ans z s b) : goodB z = b := by
  rcases ht with ⟨hg, _, rfl⟩ | ⟨hg, _, rfl⟩ <;> exact hg
end Go.Proofs.YtmpolpeomabcfaaDoor.DocU
