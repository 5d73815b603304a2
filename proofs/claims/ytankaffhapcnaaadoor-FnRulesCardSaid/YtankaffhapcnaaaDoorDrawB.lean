/- Draws: boxes and slices of the call's own beside the reader. No condition. -/
import Derived.Test.YtankaffhapcnaaaDoorAmong
import Derived.Test.YtankaffhapcnaaaDoorJ1
namespace Go.Proofs.YtankaffhapcnaaaDoor.Draw
open Go.RowKit Cur Bs
set_option linter.unusedVariables false
/-- block G holds just these cells -/
def Bx (w : World) (G : Nat) (t : TypeId) (cs : Array Value) : Prop := w.heap[G]? = some (.cells cs t (0, 0))
section
variable {w w' : World} {G : Nat} {t : TypeId} {cs : Array Value}
theorem Bx.lt (h : Bx w G t cs) : G < w.heap.size := (Array.getElem?_eq_some_iff.1 h).1
theorem Bx.cell (h : Bx w G t cs) (i : Nat) : w.cell? ⟨G, i, none⟩ = cs[i]? := cell_of_row w G i cs t (0, 0) h
theorem Bx.frozen (h : Bx w G t cs) (i : Nat) : w.frozen? ⟨G, i, none⟩ = false := by unfold Bx at h; simp [World.frozen?, h]
theorem Bx.new (w : World) (t : TypeId) (cs : Array Value) : Bx (w.alloc (.cells cs t)) w.heap.size t cs := heap_alloc_new w _
theorem Bx.alloc (h : Bx w G t cs) (o : Obj) : Bx (w.alloc o) G t cs := (Below.heap_alloc w o G h.lt).trans h
theorem Bx.set_ (h : Bx w G t cs) (i : Nat) (u : Value) : Bx (w.setCell ⟨G, i, none⟩ u) G t (cs.setIfInBounds i u) := by
  unfold Bx at h ⊢
  simp [World.setCell, Array.getElem?_modify, h]
theorem Bx.far (h : Bx w G t cs) {p : Addr} (hp : G ≠ p.block) (u : Value) : Bx (w.setCell p u) G t cs := (Below.heap_setCell w p u G hp).trans h
theorem Bx.grown {B : Nat} (h : Bx w G t cs) (hg : w.grownBy w' (some B)) (hne : G ≠ B) : Bx w' G t cs := (hg.block G h.lt (fun e => hne (Option.some.inj e))).trans h
end
theorem cur_alloc {w : World} {B m : Nat} (h : Cur w B m) (o : Obj) : Cur (w.alloc o) B m := h.kept ((Below.refl _ _).alloc (Nat.le_refl _) o)
theorem cur_set {w : World} {B m : Nat} (h : Cur w B m) {p : Addr} (hp : B < p.block) (u : Value) : Cur (w.setCell p u) B m := h.keptB ⟨rfl, rfl, rfl, by simp, fun k hk => Below.heap_setCell w p u k (by omega)⟩
/-- an owned slice behind the reader's block -/
theorem own_grown {α : Type} {T : Rec α} {E : TypeId} {w w' : World} {A B : Nat} {v : Value} {xs : List α} (h : Own T E w A v xs) (hg : w.grownBy w' (some B)) (hA : B < A) : Own T E w' A v xs :=
  h.same fun k hk => hg.block k (h.lt k hk).2 (fun e => by have := (h.lt k hk).1; have := Option.some.inj e; omega)
theorem own_set {α : Type} {T : Rec α} {E : TypeId} {w : World} {A : Nat} {v : Value} {xs : List α} {p : Addr} (h : Own T E w A v xs) (hp : ∀ k, v.ownBlock = some k → k ≠ p.block) (u : Value) : Own T E (w.setCell p u) A v xs :=
  h.same fun k hk => Below.heap_setCell w p u k (hp k hk)
theorem grown_size {w w' : World} {r : Option Nat} (h : w.grownBy w' r) : w.heap.size ≤ w'.heap.size := h.size
theorem grown_setN (w : World) (p : Addr) (v : Value) (n B : Nat) (hn : n ≤ p.block) (w0 : World) (h : w0.grownBy w (some B)) (h0 : w0.heap.size ≤ p.block) : w0.grownBy (w.setCell p v) (some B) :=
  ⟨h.os, h.tape, h.output, by simpa using h.size, fun k hk hne => (Below.heap_setCell w p v k (by omega)).trans (h.block k hk hne)⟩
theorem grown_of_below {w0 w w' : World} {B : Nat} (h : w0.grownBy w (some B)) (hb : Below w.heap.size w w') : w0.grownBy w' (some B) :=
  grown_trans h ⟨hb.os, hb.tape, hb.output, hb.size, fun k hk _ => hb.block k hk⟩
/-- an append to an owned slice: what the reader's caller sees -/
theorem grown_own {w0 w w' : World} {B : Nat} {r : Option Nat} (h : w0.grownBy w (some B)) (hg : w.grownBy w' r) (hr : ∀ k, r = some k → w0.heap.size ≤ k) : w0.grownBy w' (some B) :=
  ⟨hg.os.trans h.os, hg.tape.trans h.tape, hg.output.trans h.output, Nat.le_trans h.size hg.size, fun k hk hne => (hg.block k (Nat.lt_of_lt_of_le hk h.size) (fun e => by have := hr k e.symm; omega)).trans (h.block k hk hne)⟩
theorem cur_own {w w' : World} {B m : Nat} {r : Option Nat} (h : Cur w B m) (hg : w.grownBy w' r) (hr : ∀ k, r = some k → B < k) : Cur w' B m :=
  h.keptB ⟨hg.os, hg.tape, hg.output, hg.size, fun k hk => hg.block k (Nat.lt_of_lt_of_le hk (by have := h.lt; omega)) (fun e => by have := hr k e.symm; omega)⟩
theorem among_at (B m g : Nat) (xs : List Int) (w : World) (hg : g = w.heap.size) (h : Cur w B m) (hm : m < 900000) (h0 : 1 ≤ xs.length) (h1 : xs.length ≤ 60000) :
    Calls Tryd.prog 49 #[.pointer (some ⟨B, 0, none⟩), .slice (some ⟨g, 0, none⟩) xs.length xs.length] (w.alloc (.cells (xs.map (Value.int .i64)).toArray 3)) (Ints w B (m + 2) xs) := by
  subst hg; exact among_lit B m xs w h hm h0 h1
end Go.Proofs.YtankaffhapcnaaaDoor.Draw
