/- Boxes: blocks that hold one value's cells, and that are known whole. No condition. -/
import Derived.Test.YtdjnaoaniokbgaaJ1
namespace Go.Proofs.Ytdjnaoaniokbgaa.Bs
open Go.RowKit
set_option linter.unusedVariables false
/-- block G holds just these cells -/
def Bx (w : World) (G : Nat) (t : TypeId) (cs : Array Value) : Prop := w.heap[G]? = some (.cells cs t (0, 0))
section
variable {w w' : World} {G : Nat} {t : TypeId} {cs : Array Value}
theorem Bx.lt (h : Bx w G t cs) : G < w.heap.size := (Array.getElem?_eq_some_iff.1 h).1
theorem Bx.cell (h : Bx w G t cs) (i : Nat) : w.cell? ⟨G, i, none⟩ = cs[i]? := cell_of_row w G i cs t (0, 0) h
theorem Bx.frozen (h : Bx w G t cs) (i : Nat) : w.frozen? ⟨G, i, none⟩ = false := by unfold Bx at h; simp [World.frozen?, h]
theorem Bx.new (w : World) (t : TypeId) (cs : Array Value) : Bx (w.alloc (.cells cs t)) w.heap.size t cs := heap_alloc_new w _
theorem Bx.alloc (h : Bx w G t cs) (o : Obj) : Bx (w.alloc o) G t cs := (Below.heap_alloc w o G h.lt).trans h
theorem Bx.set_ (h : Bx w G t cs) (i : Nat) (u : Value) : Bx (w.setCell ⟨G, i, none⟩ u) G t (cs.setIfInBounds i u) := by
  unfold Bx at h ⊢
  simp [World.setCell, Array.getElem?_modify, h]
theorem Bx.far (h : Bx w G t cs) {p : Addr} (hp : G ≠ p.block) (u : Value) : Bx (w.setCell p u) G t cs := (Below.heap_setCell w p u G hp).trans h
theorem Bx.kept (h : Bx w G t cs) (hb : Below w.heap.size w w') : Bx w' G t cs := (hb.block G h.lt).trans h
theorem Bx.under {B : Nat} (h : Bx w G t cs) (hb : Below B w w') (hG : G < B) : Bx w' G t cs := (hb.block G hG).trans h
theorem Bx.loc (h : Bx w G t cs) : Loc G (G + 1) (fun W => Bx W G t cs) w := ⟨h.lt, fun w2 _ hs => (hs G (Nat.le_refl _) (Nat.lt_succ_self _)).trans h⟩
end
theorem own_set {α : Type} {T : Rec α} {E : TypeId} {w : World} {A : Nat} {v : Value} {xs : List α} {p : Addr} (h : Own T E w A v xs) (hp : ∀ k, v.ownBlock = some k → k ≠ p.block) (u : Value) : Own T E (w.setCell p u) A v xs :=
  h.same fun k hk => Below.heap_setCell w p u k (hp k hk)
end Go.Proofs.Ytdjnaoaniokbgaa.Bs
