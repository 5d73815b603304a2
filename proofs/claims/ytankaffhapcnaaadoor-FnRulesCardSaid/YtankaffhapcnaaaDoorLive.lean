/- What stays true while values are drawn: the cursor is a cursor, nothing else that was there has turned. No condition. -/
import Derived.Test.YtankaffhapcnaaaDoorDrawB
namespace Go.Proofs.YtankaffhapcnaaaDoor.Draw
open Go.RowKit Cur Bs
set_option linter.unusedVariables false
/-- the cursor lies at B; since the world w0 nothing but it has turned, and blocks were laid -/
structure Live (B m : Nat) (w0 w : World) : Prop where
  cur : Cur w B m
  grown : w0.grownBy w (some B)
  low : B < w0.heap.size
section
variable {B m m' : Nat} {w0 w w' : World}
theorem Live.start (h : Cur w B m) : Live B m w w := ⟨h, grown_refl _ _, h.lt⟩
theorem Live.size (h : Live B m w0 w) : w0.heap.size ≤ w.heap.size := h.grown.size
theorem Live.draw (h : Live B m w0 w) (hc : Cur w' B m') (hg : w.grownBy w' (some B)) : Live B m' w0 w' := ⟨hc, grown_trans h.grown hg, h.low⟩
theorem Live.mono (h : Live B m w0 w) (hm : m ≤ m') : Live B m' w0 w := ⟨h.cur.mono hm, h.grown, h.low⟩
theorem Live.alloc (h : Live B m w0 w) (o : Obj) : Live B m w0 (w.alloc o) := ⟨cur_alloc h.cur o, grown_trans h.grown (grown_alloc w o (some B)), h.low⟩
theorem Live.kept (h : Live B m w0 w) (hb : Below w.heap.size w w') : Live B m w0 w' := ⟨h.cur.kept hb, grown_of_below h.grown hb, h.low⟩
theorem Live.set (h : Live B m w0 w) {p : Addr} (hp : w0.heap.size ≤ p.block) (u : Value) : Live B m w0 (w.setCell p u) :=
  ⟨cur_set h.cur (p := p) (Nat.lt_of_lt_of_le h.low hp) u, grown_setN w p u w0.heap.size B hp w0 h.grown (Nat.le_trans (Nat.le_refl _) hp), h.low⟩
theorem Live.own (h : Live B m w0 w) {r : Option Nat} (hg : w.grownBy w' r) (hr : ∀ k, r = some k → w0.heap.size ≤ k) : Live B m w0 w' :=
  ⟨cur_own h.cur hg (fun k hk => Nat.lt_of_lt_of_le h.low (hr k hk)), grown_own h.grown hg hr, h.low⟩
/-- what the caller sees -/
theorem Live.post (h : Live B m w0 w) (hm : m ≤ m') : Cur w B m' ∧ w0.grownBy w (some B) := ⟨h.cur.mono hm, h.grown⟩
theorem Bx.draw {G : Nat} {t : TypeId} {cs : Array Value} (h : Bx w G t cs) (hg : w.grownBy w' (some B)) (hG : w0.heap.size ≤ G) (hL : B < w0.heap.size) : Bx w' G t cs := h.grown hg (by omega)
theorem Bx.keptB {G : Nat} {t : TypeId} {cs : Array Value} (h : Bx w G t cs) (hb : Below w.heap.size w w') : Bx w' G t cs := (hb.block G h.lt).trans h
theorem Bx.own {G g n c : Nat} {t : TypeId} {cs : Array Value} (h : Bx w G t cs) (hg : w.grownBy w' (Value.slice (some ⟨g, 0, none⟩) n c).ownBlock) (hne : g ≠ G) : Bx w' G t cs :=
  (hg.block G h.lt (fun e => hne (Option.some.inj e).symm)).trans h
end
theorem among_pre (B m g n : Nat) (xs : List Int) (w : World) (h : Cur w B m) (hm : m < 900000) (hx : Bx w g 3 (xs.map (Value.int .i64)).toArray) (hgB : g ≠ B) (h0 : 1 ≤ n) (hn : n ≤ xs.length) (h1 : xs.length ≤ 1000) :
    Calls Tryd.prog 49 #[.pointer (some ⟨B, 0, none⟩), .slice (some ⟨g, 0, none⟩) n xs.length] w (Ints w B (m + 2) xs) := by
  refine (among_any B m g 0 n xs.length (xs.take n) w h hm (by rw [List.length_take]; omega) h0 (by omega) hn hgB hx.lt (fun j x hj => ?_)).mono ?_
  · have hj2 : xs[j]? = some x := by
      rw [List.getElem?_take] at hj
      split at hj
      · exact hj
      · cases hj
    rw [Nat.zero_add, hx.cell, List.getElem?_toArray, List.getElem?_map, hj2]
    rfl
  · rintro e w' ⟨x, hx, he, hc, hg⟩
    exact ⟨x, List.mem_of_mem_take hx, he, hc, hg⟩
end Go.Proofs.YtankaffhapcnaaaDoor.Draw
