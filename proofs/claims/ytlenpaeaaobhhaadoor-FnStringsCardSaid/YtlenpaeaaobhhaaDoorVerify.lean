/- VerifyChecksum of the model and of the program, for every string. -/
import Derived.Test.YtlenpaeaaobhhaaDoorAppend
import Derived.Test.YtlenpaeaaobhhaaDoorSplit
namespace Go.Proofs.YtlenpaeaaobhhaaDoor.Verify
open Go.RowKit SplitMath Seal

def firstB (s : ByteArray) : ByteArray := ⟨(first s.data.toList 35).toArray⟩
theorem firstB_list (s : ByteArray) : (firstB s).data.toList = first s.data.toList 35 := by simp [firstB]
theorem firstB_size (s : ByteArray) : (firstB s).size ≤ s.size := by
  have := first_length s.data.toList 35
  rw [← len_data, ← len_data, firstB_list]
  exact this
/-- the string is a checksummed one -/
def Ver (s : ByteArray) : Prop := s.size ≤ 4000 ∧ sealOf (firstB s).data.toList = s.data.toList
theorem Ver.eq {s : ByteArray} (h : Ver s) : (⟨(sealOf (firstB s).data.toList).toArray⟩ : ByteArray) = s := by rw [h.2]
theorem not_eq {s : ByteArray} (h1 : s.size ≤ 4000) (h : ¬ Ver s) : (sealOf (firstB s).data.toList == s.toList) = false := by
  rw [ByteArray.toList_eq, beq_eq_false_iff_ne]
  intro e
  exact h ⟨h1, e⟩
theorem first_cell {w : World} {B g n cap : Nat} {s : ByteArray} (h : w.ownsRow B 9 1 (.slice (some ⟨g, 0, none⟩) n cap) n (Split.vals (splitOf s.data.toList 35))) (hn : 0 < n) : w.cell? ⟨g, 0, none⟩ = some (.string (firstB s)) := by
  have := h.cellAt 0 (by omega)
  rw [this, Split.vals, List.getElem?_map, splitOf_head]
  rfl

set_option maxHeartbeats 400000 in
theorem spec_big (s : ByteArray) (w : World) (h : 4000 < s.size) :
    Calls Tryd.prog 20 #[.string s] w fun e w' => e = .returned (.tuple #[.string ⟨#[]⟩, .bool false]) ∧ w = w' := by
  go_enter Tryd.func20, Tryd.ntmps20
  go_wp2_with fail
  go_ret2
  exact ⟨rfl, rfl⟩

set_option maxHeartbeats 400000 in
theorem spec_yes (s : ByteArray) (w : World) (h : Ver s) :
    Calls Tryd.prog 20 #[.string s] w fun e w' => e = .returned (.tuple #[.string (firstB s), .bool true]) ∧ Below w.heap.size w w' := by
  have h1 := h.1
  have H := Lib.hid h
  have hf := firstB_size s
  have hlen : 0 < (splitOf s.data.toList 35).length := by simp [splitOf]
  clear h
  go_enter Tryd.func20, Tryd.ntmps20
  go_wp2_with fail
  refine (Split.l1Split s 35 _ (by omega)).mono ?_
  rintro e w1 ⟨v, rfl, hown, hb⟩
  rcases hown.2 with ⟨_, hn⟩ | ⟨g, cap, cur, rfl, -, -, -, -, -, -⟩
  · omega
  have hc := first_cell hown hlen
  clear hown
  generalize (splitOf s.data.toList 35).length = n at *
  go_wp2_with fail
  refine (l1Seal (firstB s) _ (by omega)).mono ?_
  rintro e w2 ⟨rfl, k, rfl⟩
  rw [H.out.eq]
  have hb2 := hb.trans ((Fmt.below_drewN w1 k).mono hb.size)
  clear hc
  go_wp2_with fail
  go_ret2
  exact ⟨rfl, hb2⟩

set_option maxHeartbeats 400000 in
theorem spec_no (s : ByteArray) (w : World) (h1 : s.size ≤ 4000) (h : ¬ Ver s) :
    Calls Tryd.prog 20 #[.string s] w fun e w' => e = .returned (.tuple #[.string ⟨#[]⟩, .bool false]) ∧ Below w.heap.size w w' := by
  have hne := not_eq h1 h
  have hf := firstB_size s
  have hlen : 0 < (splitOf s.data.toList 35).length := by simp [splitOf]
  clear h
  go_enter Tryd.func20, Tryd.ntmps20
  go_wp2_with fail
  refine (Split.l1Split s 35 _ (by omega)).mono ?_
  rintro e w1 ⟨v, rfl, hown, hb⟩
  rcases hown.2 with ⟨_, hn⟩ | ⟨g, cap, cur, rfl, -, -, -, -, -, -⟩
  · omega
  have hc := first_cell hown hlen
  clear hown
  generalize (splitOf s.data.toList 35).length = n at *
  go_wp2_with fail
  refine (l1Seal (firstB s) _ (by omega)).mono ?_
  rintro e w2 ⟨rfl, k, rfl⟩
  have hb2 := hb.trans ((Fmt.below_drewN w1 k).mono hb.size)
  clear hc
  go_wp2_with fail
  go_ret2
  exact ⟨rfl, hb2⟩

/-- internal/bytealg.MaxLen holds some int -/
def MaxL (w : World) : Prop := ∃ m, w.cell? ⟨2, 0, none⟩ = some (.int .i64 m)
theorem cell_keep {w w' : World} {p : Addr} {v : Value} (hb : Below w.heap.size w w') (h : w.cell? p = some v) : w'.cell? p = some v := by
  have hlt : p.block < w.heap.size := by
    rcases Nat.lt_or_ge p.block w.heap.size with h' | h'
    · exact h'
    · simp [World.cell?, Array.getElem?_eq_none h'] at h
  rw [hb.cell hlt]
  exact h
theorem MaxL.below {w w' : World} (h : MaxL w) (hb : Below w.heap.size w w') : MaxL w' := by
  obtain ⟨m, hm⟩ := h
  exact ⟨m, cell_keep hb hm⟩
theorem maxL_of {w : World} (h : w.ShapedOpen Tryd.prog) : MaxL w := Tryd.laysM145.s1_3 w h
theorem cutAt (s : ByteArray) (w : World) (hs : s.size < 4294967281) (h : MaxL w) :
    Calls Tryd.prog 35 #[.string s, .string ⟨#[35]⟩] w fun e w' => e = .returned (.tuple #[.string ⟨(Lib.cut s.data.toList [35]).1.toArray⟩, .string ⟨(Lib.cut s.data.toList [35]).2.1.toArray⟩, .bool (Lib.cut s.data.toList [35]).2.2]) ∧ ∃ n, w' = w.drewN n := by
  obtain ⟨m, hm⟩ := h
  exact Go.Proofs.Any.strings_Cut { Tryd.laysM145 with } s ⟨#[35]⟩ m w hs hm
theorem cut_found (s : ByteArray) (h : 0 ≤ Lib.indexByte s.data.toList 35) : (Lib.cut s.data.toList [35]).1 = (firstB s).data.toList ∧ (Lib.cut s.data.toList [35]).2.2 = true := by
  rw [firstB_list]
  unfold Lib.cut
  rw [Lib.index_one, if_pos h]
  exact ⟨(index_first s.data.toList 35).1 h, rfl⟩
theorem cut_lost (s : ByteArray) (h : ¬ 0 ≤ Lib.indexByte s.data.toList 35) : (Lib.cut s.data.toList [35]).2.2 = false := by
  unfold Lib.cut
  rw [Lib.index_one, if_neg h]
theorem lost_not (s : ByteArray) (h : ¬ 0 ≤ Lib.indexByte s.data.toList 35) : ¬ Ver s := by
  intro hv
  have h2 := hv.2
  rw [firstB_list, (index_first s.data.toList 35).2 h] at h2
  have := congrArg List.length h2
  rw [seal_length] at this
  omega
theorem firstB_fine (s : ByteArray) (h : (sealOf (firstB s).data.toList).length ≤ 4000) : Fine (firstB s) := ⟨by unfold Seal.has; rw [firstB_list]; exact first_has _ _, h⟩
theorem ver_found {s : ByteArray} (h : Ver s) : 0 ≤ Lib.indexByte s.data.toList 35 := by
  rcases Int.lt_or_le (Lib.indexByte s.data.toList 35) 0 with h' | h'
  · exact absurd h (lost_not s (by omega))
  · exact h'
theorem ver_fine {s : ByteArray} (h : Ver s) : Fine (firstB s) := firstB_fine s (by rw [h.2, len_data]; exact h.1)
theorem mk_first (s : ByteArray) : (⟨(firstB s).data.toList.toArray⟩ : ByteArray) = firstB s := by simp

set_option maxHeartbeats 400000 in
theorem impl_yes (s : ByteArray) (w : World) (h : Ver s) (vp : Laid.Pow w) (vm : MaxL w) :
    Calls Tryd.prog 18 #[.string s] w fun e w' => e = .returned (.tuple #[.string (firstB s), .bool true]) ∧ Below w.heap.size w w' := by
  have h1 := h.1
  have H := Lib.hid h
  have VP := Lib.hid vp
  have VM := Lib.hid vm
  have HC := Lib.hid (cut_found s (ver_found h))
  clear h vp vm
  go_enter Tryd.func18, Tryd.ntmps18
  go_wp2_with fail
  refine (cutAt s _ (by omega) VM.out).mono ?_
  rintro e w1 ⟨rfl, k, rfl⟩
  rw [HC.out.1, HC.out.2, mk_first]
  have hb := Fmt.below_drewN w k
  go_wp2_with fail
  refine (Seal.impl_yes (firstB s) _ (ver_fine H.out) (VP.out.below hb)).mono ?_
  rintro e w2 ⟨rfl, hb2⟩
  rw [H.out.eq]
  have hb3 := hb.trans (hb2.mono hb.size)
  go_wp2_with fail
  go_ret2
  exact ⟨rfl, hb3⟩

set_option maxHeartbeats 400000 in
theorem impl_no (s : ByteArray) (w : World) (hs : s.size ≤ 1048576) (h : ¬ Ver s) (vp : Laid.Pow w) (vm : MaxL w) :
    Calls Tryd.prog 18 #[.string s] w fun e w' => e = .returned (.tuple #[.string ⟨#[]⟩, .bool false]) ∧ Below w.heap.size w w' := by
  have VP := Lib.hid vp
  have VM := Lib.hid vm
  have H := Lib.hid h
  clear h vp vm
  by_cases hf : 0 ≤ Lib.indexByte s.data.toList 35
  · have HC := Lib.hid (cut_found s hf)
    clear hf
    by_cases hl : (sealOf (firstB s).data.toList).length ≤ 4000
    · have HF := Lib.hid (firstB_fine s hl)
      have hne : (sealOf (firstB s).data.toList == s.toList) = false := by
        rw [ByteArray.toList_eq, beq_eq_false_iff_ne]
        intro e
        exact H.out ⟨by rw [← len_data, ← e]; exact hl, e⟩
      clear hl
      go_enter Tryd.func18, Tryd.ntmps18
      go_wp2_with fail
      refine (cutAt s _ (by omega) VM.out).mono ?_
      rintro e w1 ⟨rfl, k, rfl⟩
      rw [HC.out.1, HC.out.2, mk_first]
      have hb := Fmt.below_drewN w k
      go_wp2_with fail
      refine (Seal.impl_yes (firstB s) _ HF.out (VP.out.below hb)).mono ?_
      rintro e w2 ⟨rfl, hb2⟩
      have hb3 := hb.trans (hb2.mono hb.size)
      go_wp2_with fail
      go_ret2
      exact ⟨rfl, hb3⟩
    · have HF := Lib.hid (show ¬ Fine (firstB s) from fun hh => hl hh.2)
      have hz := firstB_size s
      clear hl
      go_enter Tryd.func18, Tryd.ntmps18
      go_wp2_with fail
      refine (cutAt s _ (by omega) VM.out).mono ?_
      rintro e w1 ⟨rfl, k, rfl⟩
      rw [HC.out.1, HC.out.2, mk_first]
      have hb := Fmt.below_drewN w k
      go_wp2_with fail
      refine (Seal.impl_no (firstB s) _ (by unfold maxLen; omega) HF.out (VP.out.below hb)).mono ?_
      rintro e w2 ⟨rfl, hb2⟩
      have hb3 := hb.trans (hb2.mono hb.size)
      go_wp2_with fail
      go_ret2
      exact ⟨rfl, hb3⟩
  · have HC := Lib.hid (cut_lost s hf)
    clear hf
    go_enter Tryd.func18, Tryd.ntmps18
    go_wp2_with fail
    refine (cutAt s _ (by omega) VM.out).mono ?_
    rintro e w1 ⟨rfl, k, rfl⟩
    rw [HC.out]
    have hb := Fmt.below_drewN w k
    generalize (Lib.cut s.data.toList [35]) = C at *
    go_wp2_with fail
    go_ret2
    exact ⟨rfl, hb⟩
end Go.Proofs.YtlenpaeaaobhhaaDoor.Verify
