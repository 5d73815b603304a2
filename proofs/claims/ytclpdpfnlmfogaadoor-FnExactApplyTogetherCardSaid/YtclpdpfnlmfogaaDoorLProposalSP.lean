/- Stores into rows of structs that hold slices. No condition. -/
import Derived.Test.YtclpdpfnlmfogaaDoorLProposalSD
namespace Go.Proofs.YtclpdpfnlmfogaaDoor.LProposalS
open Go Go.RowKit Bs
set_option linter.unusedVariables false
def hput (h : Hd 6) (j : Nat) (u : Value) (hu : u.oneCell' = true) : Hd 6 := ⟨h.1.set j u, by rw [List.length_set]; exact h.2.1, fun x hx => by
  rcases List.mem_or_eq_of_mem_set hx with h' | rfl
  · exact h.2.2 x h'
  · exact hu⟩
theorem put1 {w : World} {A g m cap : Nat} {ys : List (Hd 6)} (hn : ys.length = m) (h : Bs.Own kit.row 42 w A (.slice (some ⟨g, 0, none⟩) m cap) ys) (k j : Nat) (r0 : Hd 6) (hr : ys[k]? = some r0) (u : Value) (hu : u.oneCell' = true) (hj : j < 6) : Bs.Own kit.row 42 (w.setCell ⟨g, k * 6 + j, none⟩ u) A (.slice (some ⟨g, 0, none⟩) m cap) (ys.set k (hput r0 j u hu)) := Own.put hn h k j r0 (hput r0 j u hu) u hr hj rfl
theorem putPre {w : World} {A g m cap : Nat} {ys : List (Hd 6)} (hn : ys.length = m) (h : Bs.Own kit.row 42 w A (.slice (some ⟨g, 0, none⟩) m cap) ys) (k : Nat) (r0 r : R) (a : Option Addr) (l c : Nat) (hr : ys[k]? = some (hd r0 a l c)) :
    Bs.Own kit.row 42 ((((w.setCell ⟨g, k * 6, none⟩ (.int .i64 r.id)).setCell ⟨g, k * 6 + 1, none⟩ (.int .i64 r.kind)).setCell ⟨g, k * 6 + 2, none⟩ (.int .i64 r.pos)).setCell ⟨g, k * 6 + 3, none⟩ (.int .i64 r.count)) A (.slice (some ⟨g, 0, none⟩) m cap) (ys.set k (hd { r0 with id := r.id, kind := r.kind, pos := r.pos, count := r.count } a l c)) := by
  have hk : k < ys.length := (List.getElem?_eq_some_iff.1 hr).1
  have hl : ∀ x : Hd 6, (ys.set k x).length = m := fun x => by rw [List.length_set]; exact hn
  have at_ : ∀ x : Hd 6, (ys.set k x)[k]? = some x := fun x => by simp [hk]
  have h0 := put1 hn h k 0 _ hr (.int .i64 r.id) rfl (by decide)
  have h1 := put1 (hl _) h0 k 1 _ (at_ _) (.int .i64 r.kind) rfl (by decide)
  rw [List.set_set] at h1
  have h2 := put1 (hl _) h1 k 2 _ (at_ _) (.int .i64 r.pos) rfl (by decide)
  rw [List.set_set] at h2
  have h3 := put1 (hl _) h2 k 3 _ (at_ _) (.int .i64 r.count) rfl (by decide)
  rw [List.set_set] at h3
  exact h3
theorem putPost5 {w : World} {A g m cap : Nat} {ys : List (Hd 6)} (hn : ys.length = m) (h : Bs.Own kit.row 42 w A (.slice (some ⟨g, 0, none⟩) m cap) ys) (k : Nat) (r0 : R) (x : Int) (a : Option Addr) (l c : Nat) (hr : ys[k]? = some (hd r0 a l c)) :
    Bs.Own kit.row 42 (w.setCell ⟨g, k * 6 + 5, none⟩ (.int .i64 x)) A (.slice (some ⟨g, 0, none⟩) m cap) (ys.set k (hd { r0 with weight := x } a l c)) := by
  have h0 := put1 hn h k 5 _ hr (.int .i64 x) rfl (by decide)
  exact h0
theorem hput_all (r0 : Hd 6) (r : R) (a : Option Addr) (l c : Nat) : hput (hput (hput (hput (hput (hput (r0) 0 (.int .i64 r.id) rfl) 1 (.int .i64 r.kind) rfl) 2 (.int .i64 r.pos) rfl) 3 (.int .i64 r.count) rfl) 4 (.slice a l c) rfl) 5 (.int .i64 r.weight) rfl = hd r a l c := by
  obtain ⟨r1, e1, e2⟩ := r0
  match r1, e1, e2 with
  | [x0, x1, x2, x3, x4, x5], _, _ => rfl
theorem putAll {w : World} {A g m cap : Nat} {ys : List (Hd 6)} (hn : ys.length = m) (h : Bs.Own kit.row 42 w A (.slice (some ⟨g, 0, none⟩) m cap) ys) (k : Nat) (r0 : Hd 6) (r : R) (a : Option Addr) (l c : Nat) (hr : ys[k]? = some r0) :
    Bs.Own kit.row 42 ((((((w.setCell ⟨g, k * 6, none⟩ (.int .i64 r.id)).setCell ⟨g, k * 6 + 1, none⟩ (.int .i64 r.kind)).setCell ⟨g, k * 6 + 2, none⟩ (.int .i64 r.pos)).setCell ⟨g, k * 6 + 3, none⟩ (.int .i64 r.count)).setCell ⟨g, k * 6 + 4, none⟩ (.slice a l c)).setCell ⟨g, k * 6 + 5, none⟩ (.int .i64 r.weight)) A (.slice (some ⟨g, 0, none⟩) m cap) (ys.set k (hd r a l c)) := by
  have hk : k < ys.length := (List.getElem?_eq_some_iff.1 hr).1
  have hl : ∀ x : Hd 6, (ys.set k x).length = m := fun x => by rw [List.length_set]; exact hn
  have at_ : ∀ x : Hd 6, (ys.set k x)[k]? = some x := fun x => by simp [hk]
  have h0 := put1 hn h k 0 _ hr (.int .i64 r.id) rfl (by decide)
  have h1 := put1 (hl _) h0 k 1 _ (at_ _) (.int .i64 r.kind) rfl (by decide)
  rw [List.set_set] at h1
  have h2 := put1 (hl _) h1 k 2 _ (at_ _) (.int .i64 r.pos) rfl (by decide)
  rw [List.set_set] at h2
  have h3 := put1 (hl _) h2 k 3 _ (at_ _) (.int .i64 r.count) rfl (by decide)
  rw [List.set_set] at h3
  have h4 := put1 (hl _) h3 k 4 _ (at_ _) (.slice a l c) rfl (by decide)
  rw [List.set_set] at h4
  have h5 := put1 (hl _) h4 k 5 _ (at_ _) (.int .i64 r.weight) rfl (by decide)
  rw [List.set_set] at h5
  have e := hput_all r0 r a l c
  rw [e] at h5
  exact h5
/-- stores into one row leave all other blocks alone -/
theorem sets_same {w : World} {g k : Nat} {u0 u1 u2 u3 u4 u5 : Value} : ∀ j, j ≠ g → ((((((w.setCell ⟨g, k * 6, none⟩ (u0)).setCell ⟨g, k * 6 + 1, none⟩ (u1)).setCell ⟨g, k * 6 + 2, none⟩ (u2)).setCell ⟨g, k * 6 + 3, none⟩ (u3)).setCell ⟨g, k * 6 + 4, none⟩ (u4)).setCell ⟨g, k * 6 + 5, none⟩ (u5)).heap[j]? = w.heap[j]? := fun j hj => by
  rw [Below.heap_setCell _ _ _ j hj]
  rw [Below.heap_setCell _ _ _ j hj]
  rw [Below.heap_setCell _ _ _ j hj]
  rw [Below.heap_setCell _ _ _ j hj]
  rw [Below.heap_setCell _ _ _ j hj]
  rw [Below.heap_setCell _ _ _ j hj]
theorem holds_of {r : R} {a : Option Addr} {l c j : Nat} (h : (Value.slice a l c).ownBlock = some j) : Holds (hd r a l c) j := ⟨_, by simp [hd], h⟩
end Go.Proofs.YtclpdpfnlmfogaaDoor.LProposalS
