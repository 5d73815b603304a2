/- A list, if it is a document: the model's function. No condition but that titles are no longer than strings can be. -/
import Derived.Test.YtmpolpeomabcfaaDocO
import Derived.Test.YtmpolpeomabcfaaLSectionK
namespace Go.Proofs.Ytmpolpeomabcfaa.DocK
open Go.RowKit Bs Word Doc DocO
set_option linter.unusedVariables false
noncomputable def chk (z : List M) : List M × Bool := if goodB z = true then (z, true) else ([], false)
theorem chk_yes {z : List M} (h : goodB z = true) : chk z = (z, true) := by unfold chk; rw [if_pos h]
theorem chk_no {z : List M} (h : goodB z = false) : chk z = ([], false) := by unfold chk; rw [h]; rfl
theorem chk_len {z r0 : List M} {r1 : Bool} (h : chk z = (r0, r1)) : r0.length ≤ 12 := by
  unfold chk at h
  split at h
  · rename_i hg
    simp only [Prod.mk.injEq] at h; rw [← h.1]; exact good_len hg
  · simp only [Prod.mk.injEq] at h; rw [← h.1]; simp
def KPost (xs : List M) (A : Nat) (w : World) (e : Ending) (w' : World) : Prop :=
  ∃ v' r0 r1, e = .returned (.tuple #[v', .bool r1]) ∧ chk xs = (r0, r1) ∧ Own LSection.rec 34 w' A v' r0 ∧ Below w.heap.size w w'
theorem l6Checked (v : Value) (xs : List M) (A : Nat) (w : World) (h : Own LSection.rec 34 w A v xs) (hA : A ≤ w.heap.size) (hsz : ∀ x ∈ xs, LSection.Fine x) :
    Calls Try.prog 48 #[v] w (KPost xs A w) := by
  have HG := Lib.hid (DocG.l6Good v xs w h.is hsz)
  have HO := Lib.hid h
  obtain ⟨a, c, rfl⟩ : ∃ a c, v = .slice a xs.length c := by
    rcases h.shape with ⟨rfl, rfl⟩ | ⟨g, cap, rfl, _⟩
    · exact ⟨_, _, rfl⟩
    · exact ⟨_, _, rfl⟩
  obtain ⟨n, hn⟩ : ∃ n, n = xs.length := ⟨_, rfl⟩
  rw [← hn] at HG HO ⊢
  clear h hsz hn
  cases hg : goodB xs with
  | false =>
    have HC := Lib.hid (chk_no hg)
    rw [show DocG.Post xs w = fun e w' => e = .returned (.bool false) ∧ Below w.heap.size w w' by unfold DocG.Post; rw [hg]] at HG
    clear hg
    go_enter Try.func48, Try.ntmps48
    go_wp2_with fail
    refine HG.out.mono ?_
    rintro e w1 ⟨rfl, hb1⟩
    have hA1 : A ≤ w1.heap.size := Nat.le_trans hA hb1.size
    have HS := Lib.hid (Own.start (T := LSection.rec) (E := 34) (w := w1) hA1)
    have hb2 := hb1.alloc hb1.size (Obj.cells #[] 34)
    go_wp2_with fail
    go_ret2
    exact ⟨_, [], false, rfl, HC.out, HS.out, hb2⟩
  | true =>
    have HC := Lib.hid (chk_yes hg)
    rw [show DocG.Post xs w = fun e w' => e = .returned (.bool true) ∧ Below w.heap.size w w' by unfold DocG.Post; rw [hg]] at HG
    clear hg
    go_enter Try.func48, Try.ntmps48
    go_wp2_with fail
    refine HG.out.mono ?_
    rintro e w1 ⟨rfl, hb1⟩
    have HO1 := Lib.hid (HO.out.kept hb1)
    go_wp2_with fail
    go_ret2
    exact ⟨_, xs, true, rfl, HC.out, HO1.out, hb1⟩
end Go.Proofs.Ytmpolpeomabcfaa.DocK
