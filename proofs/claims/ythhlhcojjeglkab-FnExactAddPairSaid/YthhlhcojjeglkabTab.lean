/- Whole rows of a box, loaded and stored; tables of 8 times 8 truth values. No condition. -/
import Derived.Test.YthhlhcojjeglkabBx
import Derived.Deep.WholeRow
namespace Go.Proofs.Ythhlhcojjeglkab.Bs
open Go.RowKit
set_option linter.unusedVariables false
section
variable {w w' : World} {G : Nat} {t : TypeId} {cs : Array Value} {P : Program}
theorem Bx.load (h : Bx w G t cs) (n : Nat) (hn : cs.size = n) : (loadCellsFrom ⟨G, 0, none⟩ 0 n #[]).run P w = .ok cs w := by
  subst hn
  have := run_loadCells_list (P := P) w ⟨G, 0, none⟩ cs.toList (fun j v hv => by
    have hadd : (⟨G, 0, none⟩ : Addr).add j = ⟨G, j, none⟩ := by unfold Addr.add; split <;> simp_all
    rw [hadd, h.cell j]
    simpa using hv)
  simpa [loadCells] using this
theorem Bx.store (h : Bx w G t cs) (c' : Array Value) (hi : (P.info? t).map (·.size) = some c'.size) (ho : cs.size = c'.size) (h1 : c'.all (·.oneCell') = true) : (storeCells ⟨G, 0, none⟩ c'.toList 0).run P w = .ok () (w.setRow G c') := by
  have := run_storeVar_row (P := P) w G t t cs c' h hi ho h1
  cases hq : P.info? t with
  | none => simp [hq] at hi
  | some i =>
    have hs : c'.size = i.size := by simp [hq] at hi; omega
    simpa [storeVar, sizeOf, typeInfo, hq, Value.cells, hs] using this
theorem Bx.row (h : Bx w G t cs) (c' : Array Value) : Bx (w.setRow G c') G t c' := by
  unfold Bx at h ⊢
  simp [World.setRow, Array.getElem?_modify, h]
theorem Bx.rowFar {H : Nat} (h : Bx w G t cs) (hne : H ≠ G) (c' : Array Value) : Bx (w.setRow H c') G t cs := by
  unfold Bx at h ⊢
  simp only [World.setRow, Array.getElem?_modify]
  rw [if_neg hne]; exact h
theorem row_below {B : Nat} (h : Below B w w') (hG : B ≤ G) (c' : Array Value) : Below B w (w'.setRow G c') :=
  h.trans ⟨rfl, rfl, rfl, by simp [World.setRow], fun k hk => by simp only [World.setRow, Array.getElem?_modify]; rw [if_neg (by omega)]⟩
end
/-- the store of a whole row, as a step of a region that draws -/
theorem step_store_row {P : Program} {w : World} {ops : Array Oper} {o : Oper} {a : Act} {K : Act → World → Prop} {Q : Exit → Act → World → Prop} {E : Prop} (hgd : o.guard = none) (ty : TypeId) (x y : Operand) (ho : o.op = .store ty x y)
    (g : Nat) (cells : Array Value) (hx : a.eval x = .pointer (some ⟨g, 0, none⟩)) (hy : a.eval y = .agg cells) (t : TypeId) (old : Array Value) (hg : w.heap[g]? = some (.cells old t (0, 0))) (hi : (P.info? ty).map (·.size) = some cells.size)
    (hold : old.size = cells.size) (h1 : cells.all (·.oneCell') = true) (h : K (a.put o.dst undef) (w.setRow g cells)) :
    if Region.wanted o (yielded ops a.tmps) = true then Oper.wp P o a w K Q else E := by
  have hw : Region.wanted o (yielded ops a.tmps) = true := by simp [Region.wanted, hgd]
  rw [if_pos hw]
  exact wp_store_row ty x y ho g cells hx hy t old hg hi hold h1 h
def tab (f : Nat → Nat → Bool) : Array Value := Array.ofFn (n := 64) (fun i => .bool (f (i.val / 8) (i.val % 8)))
theorem tab_size (f : Nat → Nat → Bool) : (tab f).size = 64 := by unfold tab; simp
theorem tab_one (f : Nat → Nat → Bool) : (tab f).all (·.oneCell') = true := by
  rw [Array.all_eq_true_iff_forall_mem]
  intro v hv
  unfold tab at hv
  obtain ⟨i, rfl⟩ := Array.mem_ofFn.1 hv
  rfl
theorem tab_get (f : Nat → Nat → Bool) (l h : Nat) (hl : l < 8) (hh : h < 8) : (tab f)[l * 8 + h]? = some (.bool (f l h)) := by
  have hi : l * 8 + h < 64 := by omega
  unfold tab
  rw [Array.getElem?_ofFn, dif_pos hi]
  have e1 : (l * 8 + h) / 8 = l := by omega
  have e2 : (l * 8 + h) % 8 = h := by omega
  simp only [e1, e2]
theorem tab_set (f g : Nat → Nat → Bool) (l h : Nat) (b : Bool) (hl : l < 8) (hh : h < 8) (hg : ∀ i j, g i j = if i = l ∧ j = h then b else f i j) : (tab f).setIfInBounds (l * 8 + h) (.bool b) = tab g := by
  apply Array.ext_getElem?
  intro i
  rw [Array.getElem?_setIfInBounds, tab_size]
  by_cases hi : i < 64
  · have e : (tab g)[i]? = some (.bool (g (i / 8) (i % 8))) := by
      have := tab_get g (i / 8) (i % 8) (by omega) (by omega)
      rwa [show i / 8 * 8 + i % 8 = i by omega] at this
    have e' : (tab f)[i]? = some (.bool (f (i / 8) (i % 8))) := by
      have := tab_get f (i / 8) (i % 8) (by omega) (by omega)
      rwa [show i / 8 * 8 + i % 8 = i by omega] at this
    rw [e, e', hg]
    by_cases h1 : l * 8 + h = i
    · rw [if_pos h1, if_pos (by omega), if_pos (by omega)]
    · rw [if_neg h1, if_neg (by omega)]
  · rw [if_neg (by omega), Array.getElem?_eq_none (by rw [tab_size]; omega), Array.getElem?_eq_none (by rw [tab_size]; omega)]
end Go.Proofs.Ythhlhcojjeglkab.Bs
