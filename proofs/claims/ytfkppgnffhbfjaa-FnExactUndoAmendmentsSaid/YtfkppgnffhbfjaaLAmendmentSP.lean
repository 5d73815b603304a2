/- Stores into rows of structs that hold slices. No condition. -/
import Derived.Test.YtfkppgnffhbfjaaLAmendmentSD
namespace Go.Proofs.Ytfkppgnffhbfjaa.LAmendmentS
open Go Go.RowKit Bs
set_option linter.unusedVariables false
def hput (h : Hd 4) (j : Nat) (u : Value) (hu : u.oneCell' = true) : Hd 4 := ⟨h.1.set j u, by rw [List.length_set]; exact h.2.1, fun x hx => by
  rcases List.mem_or_eq_of_mem_set hx with h' | rfl
  · exact h.2.2 x h'
  · exact hu⟩
theorem put1 {w : World} {A g m cap : Nat} {ys : List (Hd 4)} (hn : ys.length = m) (h : Bs.Own kit.row 31 w A (.slice (some ⟨g, 0, none⟩) m cap) ys) (k j : Nat) (r0 : Hd 4) (hr : ys[k]? = some r0) (u : Value) (hu : u.oneCell' = true) (hj : j < 4) : Bs.Own kit.row 31 (w.setCell ⟨g, k * 4 + j, none⟩ u) A (.slice (some ⟨g, 0, none⟩) m cap) (ys.set k (hput r0 j u hu)) := Own.put hn h k j r0 (hput r0 j u hu) u hr hj rfl
theorem putInts {w : World} {A g m cap : Nat} {ys : List (Hd 4)} (hn : ys.length = m) (h : Bs.Own kit.row 31 w A (.slice (some ⟨g, 0, none⟩) m cap) ys) (k : Nat) (r0 r : R) (a : Option Addr) (l c : Nat) (hr : ys[k]? = some (hd r0 a l c)) :
    Bs.Own kit.row 31 (((w.setCell ⟨g, k * 4, none⟩ (.int .i64 r.kind)).setCell ⟨g, k * 4 + 1, none⟩ (.int .i64 r.pos)).setCell ⟨g, k * 4 + 2, none⟩ (.int .i64 r.count)) A (.slice (some ⟨g, 0, none⟩) m cap) (ys.set k (hd { r with words := r0.words } a l c)) := by
  have hk : k < ys.length := (List.getElem?_eq_some_iff.1 hr).1
  have hl : ∀ x : Hd 4, (ys.set k x).length = m := fun x => by rw [List.length_set]; exact hn
  have at_ : ∀ x : Hd 4, (ys.set k x)[k]? = some x := fun x => by simp [hk]
  have h0 := put1 hn h k 0 _ hr (.int .i64 r.kind) rfl (by decide)
  have h1 := put1 (hl _) h0 k 1 _ (at_ _) (.int .i64 r.pos) rfl (by decide)
  rw [List.set_set] at h1
  have h2 := put1 (hl _) h1 k 2 _ (at_ _) (.int .i64 r.count) rfl (by decide)
  rw [List.set_set] at h2
  exact h2
theorem hput_all (r0 : Hd 4) (r : R) (a : Option Addr) (l c : Nat) : hput (hput (hput (hput (r0) 0 (.int .i64 r.kind) rfl) 1 (.int .i64 r.pos) rfl) 2 (.int .i64 r.count) rfl) 3 (.slice a l c) rfl = hd r a l c := by
  obtain ⟨r1, e1, e2⟩ := r0
  match r1, e1, e2 with
  | [x0, x1, x2, x3], _, _ => rfl
theorem putAll {w : World} {A g m cap : Nat} {ys : List (Hd 4)} (hn : ys.length = m) (h : Bs.Own kit.row 31 w A (.slice (some ⟨g, 0, none⟩) m cap) ys) (k : Nat) (r0 : Hd 4) (r : R) (a : Option Addr) (l c : Nat) (hr : ys[k]? = some r0) :
    Bs.Own kit.row 31 ((((w.setCell ⟨g, k * 4, none⟩ (.int .i64 r.kind)).setCell ⟨g, k * 4 + 1, none⟩ (.int .i64 r.pos)).setCell ⟨g, k * 4 + 2, none⟩ (.int .i64 r.count)).setCell ⟨g, k * 4 + 3, none⟩ (.slice a l c)) A (.slice (some ⟨g, 0, none⟩) m cap) (ys.set k (hd r a l c)) := by
  have hk : k < ys.length := (List.getElem?_eq_some_iff.1 hr).1
  have hl : ∀ x : Hd 4, (ys.set k x).length = m := fun x => by rw [List.length_set]; exact hn
  have at_ : ∀ x : Hd 4, (ys.set k x)[k]? = some x := fun x => by simp [hk]
  have h0 := put1 hn h k 0 _ hr (.int .i64 r.kind) rfl (by decide)
  have h1 := put1 (hl _) h0 k 1 _ (at_ _) (.int .i64 r.pos) rfl (by decide)
  rw [List.set_set] at h1
  have h2 := put1 (hl _) h1 k 2 _ (at_ _) (.int .i64 r.count) rfl (by decide)
  rw [List.set_set] at h2
  have h3 := put1 (hl _) h2 k 3 _ (at_ _) (.slice a l c) rfl (by decide)
  rw [List.set_set] at h3
  have e := hput_all r0 r a l c
  rw [e] at h3
  exact h3
/-- stores into one row leave all other blocks alone -/
theorem sets_same {w : World} {g k : Nat} {u0 u1 u2 u3 : Value} : ∀ j, j ≠ g → ((((w.setCell ⟨g, k * 4, none⟩ (u0)).setCell ⟨g, k * 4 + 1, none⟩ (u1)).setCell ⟨g, k * 4 + 2, none⟩ (u2)).setCell ⟨g, k * 4 + 3, none⟩ (u3)).heap[j]? = w.heap[j]? := fun j hj => by
  rw [Below.heap_setCell _ _ _ j hj]
  rw [Below.heap_setCell _ _ _ j hj]
  rw [Below.heap_setCell _ _ _ j hj]
  rw [Below.heap_setCell _ _ _ j hj]
theorem holds_of {r : R} {a : Option Addr} {l c j : Nat} (h : (Value.slice a l c).ownBlock = some j) : Holds (hd r a l c) j := ⟨_, by simp [hd], h⟩
end Go.Proofs.Ytfkppgnffhbfjaa.LAmendmentS
