/- FindSection, model and program: what both answer. No condition but that titles are no longer than strings can be. -/
import Derived.Test.YtmpolpeomabcfaaDoorDocN
import Derived.BigQuiet
namespace Go.Proofs.YtmpolpeomabcfaaDoor.FindSectionC
open Go.RowKit Bs Word Doc DocO DocN
set_option linter.unusedVariables false
def Miss (z : List M) (s : ByteArray) (k : Nat) : Prop := ∀ j, j < k → numB z j ≠ s
def Ans (z : List M) (s : ByteArray) (r0 : Int) (r1 : Bool) : Prop :=
  (goodB z = true ∧ ∃ i : Nat, i < z.length ∧ numB z i = s ∧ Miss z s i ∧ r0 = i ∧ r1 = true) ∨ ((goodB z = true → Miss z s z.length) ∧ r0 = 0 ∧ r1 = false)
theorem same {z0 : List LSection.R} {a1 : ByteArray} {r0 s0 : Int} {r1 s1 : Bool} (h : Ans z0 a1 r0 r1) (h' : Ans z0 a1 s0 s1) : r0 = s0 ∧ r1 = s1 := by
  rcases h with ⟨hg, i, hi, he, hm, rfl, rfl⟩ | ⟨hm, rfl, rfl⟩ <;> rcases h' with ⟨hg', j, hj, he', hm', rfl, rfl⟩ | ⟨hm', rfl, rfl⟩
  · rcases Nat.lt_trichotomy i j with h | h | h
    · exact absurd he (hm' i h)
    · exact ⟨by rw [h], rfl⟩
    · exact absurd he' (hm j h)
  · exact absurd he (hm' hg i hi)
  · exact absurd he' (hm hg' j hj)
  · exact ⟨rfl, rfl⟩
theorem miss_next {z : List M} {s : ByteArray} {k : Nat} (h : Miss z s k) (hk : numB z k ≠ s) : Miss z s (k + 1) := fun j hj => by
  rcases Nat.lt_or_ge j k with h' | h'
  · exact h j h'
  · rw [show j = k by omega]; exact hk
theorem eq_no {a b : ByteArray} (h : (a.toList == b.toList) = false) : a ≠ b := fun e => by rw [e] at h; simp at h
theorem eq_yes {a b : ByteArray} (h : (a.toList == b.toList) = true) : a = b := by
  have h1 : a.toList = b.toList := by simpa using h
  rw [ByteArray.toList_eq, ByteArray.toList_eq] at h1
  apply ByteArray.ext
  exact Array.toList_inj.1 h1
def APost (z0 : List LSection.R) (a1 : ByteArray) (w : World) (e : Ending) (w' : World) : Prop := ∃ r0 r1, e = .returned (.tuple #[.int .i64 r0, .bool r1]) ∧ Ans z0 a1 r0 r1 ∧ Below w.heap.size w w'
set_option maxRecDepth 100000 in
theorem spec (v0 : Value) (z0 : List LSection.R) (a1 : ByteArray) (w : World) (h0 : IsS LSection.rec w v0 z0) (f0 : ∀ x ∈ z0, LSection.Fine x) (l0 : z0.length ≤ 1048576) (hs1 : a1.size ≤ 1048576) :
    Calls Tryd.prog 15 #[v0, .string a1] w (APost z0 a1 w) := by
  have h1 := IsS.is LSection.rec h0
  clear h0
  have HI := Lib.hid h1
  have HG := Lib.hid (DocG.l6Good v0 z0 w h1 f0)
  unfold DocG.Post at HG
  obtain ⟨a, cp, rfl, h1⟩ := h1
  have hc := h1.at_ LSection.rec
  obtain ⟨n, hn⟩ : ∃ n, n = z0.length := ⟨_, rfl⟩
  have hnb : n ≤ cp := by have := h1.1; omega
  have hn2 := h1.2.1
  unfold maxLen at hn2
  have HN := Lib.hid hn.symm
  rw [← hn] at  HI HG ⊢
  have hnle : n ≤ z0.length := by omega
  clear hn h1
  clear f0
  cases hg : goodB z0 with
  | false =>
    have HA := Lib.hid (show Ans z0 a1 0 false from .inr ⟨(fun h => by rw [hg] at h; cases h), rfl, rfl⟩)
    rw [hg] at HG
    clear hg
    go_enter Tryd.func15, Tryd.ntmps15
    go_wp2_with fail
    refine HG.out.mono ?_
    rintro e w1 ⟨rfl, hb1⟩
    go_wp2_with fail
    go_ret2
    exact ⟨_, _, rfl, HA.out, hb1⟩
  | true =>
    have HGd := Lib.hid hg
    have HU := Lib.hid (fun (k : Nat) (hk : k < z0.length) X hX => l6Number (k + 1) _ z0 k X (Nat.lt_succ_self _) (HI.out.below LSection.rec hX) hg hk)
    rw [hg] at HG
    clear hg
    go_enter Tryd.func15, Tryd.ntmps15
    go_wp2_with fail
    refine HG.out.mono ?_
    rintro e w1 ⟨rfl, hb1⟩
    go_wp2_with fail
    go_loopw [6] (fun i wr => ∃ k : Nat, k ≤ n ∧ i = .int .i64 k ∧ Hid (Miss z0 a1 k) ∧ Below w.heap.size w wr) (fun i _ => n - (intOf i).toNat)
    case atStart => exact ⟨0, Nat.zero_le _, rfl, Lib.hid (fun j hj => by omega), hb1⟩
    case round =>
      clear hb1
      obtain ⟨k, hk, rfl, HM, hb⟩ := hrel
      by_cases hlt : k < n
      · have hx : k < z0.length := by have := HN.out; omega
        have HUk := Lib.hid (HU.out k hx wr hb)
        have HMN := Lib.hid (fun h => miss_next HM.out (k := k) h)
        have HYes := Lib.hid (fun (h : numB z0 k = a1) => show Ans z0 a1 k true from .inl ⟨HGd.out, k, hx, h, HM.out, rfl, rfl⟩)
        have k0 : 0 ≤ (k : Int) := by omega
        clear HM
        generalize numB z0 k = NU at *
        cases he : (NU.toList == a1.toList) with
        | true =>
          have HA := Lib.hid (HYes.out (eq_yes he))
          clear HYes HMN
          go_wp2_with fail
          refine HUk.out.mono ?_
          rintro e w2 ⟨rfl, hb2⟩
          have hb3 := hb.trans (hb2.mono hb.size)
          go_wp2_with fail
          go_ret2
          exact ⟨_, _, rfl, HA.out, hb3⟩
        | false =>
          have HM2 := Lib.hid (HMN.out (eq_no he))
          clear HYes HMN
          go_wp2_with fail
          refine HUk.out.mono ?_
          rintro e w2 ⟨rfl, hb2⟩
          have hb3 := hb.trans (hb2.mono hb.size)
          go_wp2_with fail
          go_roundw
          case rel => exact ⟨k + 1, by omega, by go_num, HM2, hb3⟩
          case measure => simp [intOf]; omega
      · have HA := Lib.hid (show Ans z0 a1 0 false from .inr ⟨fun _ => by rw [HN.out, show n = k by omega]; exact HM.out, rfl, rfl⟩)
        go_wp2_with fail
        go_ret2
        exact ⟨_, _, rfl, HA.out, hb⟩
set_option maxRecDepth 100000 in
theorem impl (v0 : Value) (z0 : List LSection.R) (a1 : ByteArray) (w : World) (h0 : IsS LSection.rec w v0 z0) (f0 : ∀ x ∈ z0, LSection.Fine x) (l0 : z0.length ≤ 1048576) (hs1 : a1.size ≤ 1048576) :
    Calls Tryd.prog 12 #[v0, .string a1] w (APost z0 a1 w) := by
  have h1 := IsS.is LSection.rec h0
  clear h0
  have HI := Lib.hid h1
  have HG := Lib.hid (DocG.isDocument v0 z0 w h1 f0)
  unfold DocG.Post at HG
  obtain ⟨a, cp, rfl, h1⟩ := h1
  have hc := h1.at_ LSection.rec
  obtain ⟨n, hn⟩ : ∃ n, n = z0.length := ⟨_, rfl⟩
  have hnb : n ≤ cp := by have := h1.1; omega
  have hn2 := h1.2.1
  unfold maxLen at hn2
  have HN := Lib.hid hn.symm
  rw [← hn] at  HI HG ⊢
  have hnle : n ≤ z0.length := by omega
  clear hn h1
  clear f0
  cases hg : goodB z0 with
  | false =>
    have HA := Lib.hid (show Ans z0 a1 0 false from .inr ⟨(fun h => by rw [hg] at h; cases h), rfl, rfl⟩)
    rw [hg] at HG
    clear hg
    go_enter Tryd.func12, Tryd.ntmps12
    go_wp2_with fail
    refine HG.out.mono ?_
    rintro e w1 ⟨rfl, hb1⟩
    go_wp2_with fail
    go_ret2
    exact ⟨_, _, rfl, HA.out, hb1⟩
  | true =>
    have HGd := Lib.hid hg
    have HU := Lib.hid (fun (k : Nat) (hk : k < z0.length) X hX => numberOf (k + 1) _ z0 k X (Nat.lt_succ_self _) (HI.out.below LSection.rec hX) hg hk)
    rw [hg] at HG
    clear hg
    go_enter Tryd.func12, Tryd.ntmps12
    go_wp2_with fail
    refine HG.out.mono ?_
    rintro e w1 ⟨rfl, hb1⟩
    go_wp2_with fail
    go_loopw [12] (fun i wr => ∃ k : Nat, k ≤ n ∧ i = .int .i64 k ∧ Hid (Miss z0 a1 k) ∧ Below w.heap.size w wr) (fun i _ => n - (intOf i).toNat)
    case atStart => exact ⟨0, Nat.zero_le _, rfl, Lib.hid (fun j hj => by omega), hb1⟩
    case round =>
      clear hb1
      obtain ⟨k, hk, rfl, HM, hb⟩ := hrel
      by_cases hlt : k < n
      · have hx : k < z0.length := by have := HN.out; omega
        have HUk := Lib.hid (HU.out k hx wr hb)
        have HMN := Lib.hid (fun h => miss_next HM.out (k := k) h)
        have HYes := Lib.hid (fun (h : numB z0 k = a1) => show Ans z0 a1 k true from .inl ⟨HGd.out, k, hx, h, HM.out, rfl, rfl⟩)
        have k0 : 0 ≤ (k : Int) := by omega
        clear HM
        generalize numB z0 k = NU at *
        cases he : (NU.toList == a1.toList) with
        | true =>
          have HA := Lib.hid (HYes.out (eq_yes he))
          clear HYes HMN
          go_wp2_with fail
          refine HUk.out.mono ?_
          rintro e w2 ⟨rfl, hb2⟩
          have hb3 := hb.trans (hb2.mono hb.size)
          go_wp2_with fail
          go_ret2
          exact ⟨_, _, rfl, HA.out, hb3⟩
        | false =>
          have HM2 := Lib.hid (HMN.out (eq_no he))
          clear HYes HMN
          go_wp2_with fail
          refine HUk.out.mono ?_
          rintro e w2 ⟨rfl, hb2⟩
          have hb3 := hb.trans (hb2.mono hb.size)
          go_wp2_with fail
          go_roundw
          case rel => exact ⟨k + 1, by omega, by go_num, HM2, hb3⟩
          case measure => simp [intOf]; omega
      · have HA := Lib.hid (show Ans z0 a1 0 false from .inr ⟨fun _ => by rw [HN.out, show n = k by omega]; exact HM.out, rfl, rfl⟩)
        go_wp2_with fail
        go_ret2
        exact ⟨_, _, rfl, HA.out, hb⟩
end Go.Proofs.YtmpolpeomabcfaaDoor.FindSectionC
