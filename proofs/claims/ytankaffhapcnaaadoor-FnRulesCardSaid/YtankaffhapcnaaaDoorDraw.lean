/- The draws of chapter 1's strings: what they answer (strings of bounded length), and that nothing that was there turns. -/
import Derived.Test.YtankaffhapcnaaaDoorCur
import Derived.Test.YtankaffhapcnaaaDoorJ1
namespace Go.Proofs.YtankaffhapcnaaaDoor.Draw
open Go.RowKit Cur
set_option linter.unusedVariables false

/-- A new reader over a code that came in. -/
theorem cur_new {w : World} {a : Option Addr} {len cap : Nat} {zs : List Int} (h : Frame.IsRow .u8 w a len cap zs) (hl : len ≤ 65536) :
    Cur (w.alloc (.cells #[.slice a len cap, .int .i64 0, .int .u64 0] 52)) w.heap.size 0 := by
  refine ⟨0, Nat.le_refl _, a, len, cap, 0, (by show (w.heap.push _)[w.heap.size]? = _; rw [Array.getElem?_push, if_pos rfl]; rfl), hl, by omega, ?_⟩
  rcases h with ⟨rfl, rfl, rfl, rfl⟩ | ⟨x, rfl, h1, h2, h3, h4, h5⟩
  · exact .inl rfl
  · by_cases h0 : len = 0
    · exact .inl h0
    · obtain ⟨b, off, spot⟩ := x
      have hspot : spot = none := by simpa [Addr.add] using World.cell?_spot (h4 0 (by omega))
      subst hspot
      have hb : b < w.heap.size := cell_lt (h4 0 (by omega))
      refine .inr ⟨b, off, rfl, by omega, by simp; omega, fun j hj => ?_⟩
      have hz := h4 j (by omega)
      have hw := h5 (zs.getD j 0) (by rw [List.getD_eq_getElem?_getD, List.getElem?_eq_getElem (by omega)]; exact List.getElem_mem _)
      refine ⟨zs.getD j 0, ?_, ?_, ?_⟩
      · rw [World.cell?_alloc_past _ _ _ hb, ← Go.WideShapes.add_plain]
        exact hz
      · exact (bounds_u8 hw).1
      · exact (bounds_u8 hw).2

theorem lit_cells (w : World) (xs : List ByteArray) (j : Nat) (x : ByteArray) (h : xs[j]? = some x) : (w.alloc (.cells (xs.map Value.string).toArray 9)).cell? ⟨w.heap.size, 0 + j, none⟩ = some (.string x) := by
  rw [Nat.zero_add, World.cell?_alloc_at _ _ _ _ rfl]
  show (xs.map Value.string).toArray[j]? = _
  rw [List.getElem?_toArray, List.getElem?_map, h]
  rfl
theorem grown_alloc (w : World) (o : Obj) (r : Option Nat) : w.grownBy (w.alloc o) r := World.grownBy_alloc w o r

/-- 'c.of([]string{..})' at a literal that has just been laid. -/
theorem of_lit (B m : Nat) (xs : List ByteArray) (w : World) (h : Cur w B m) (hm : m < 900000) (h0 : 1 ≤ xs.length) (h1 : xs.length ≤ 60000) :
    Calls Tryd.prog 50 #[.pointer (some ⟨B, 0, none⟩), .slice (some ⟨w.heap.size, 0, none⟩) xs.length xs.length] (w.alloc (.cells (xs.map Value.string).toArray 9)) (Ofs w B (m + 2) xs) := by
  have hlt := h.lt
  refine (of_any B m w.heap.size 0 xs.length xs.length xs _ (h.kept ((Below.refl _ _).alloc (Nat.le_refl _) _)) hm rfl h0 h1 (Nat.le_refl _) (by omega) (by simp) (fun j x hx => lit_cells w xs j x hx)).mono ?_
  rintro e w' ⟨x, hx, he, hc, hg⟩
  exact ⟨x, hx, he, hc, grown_trans (grown_alloc w _ _) hg⟩
theorem small_of (xs : List ByteArray) (k : Nat) (h : xs.all (fun x => decide (x.size ≤ k)) = true) (x : ByteArray) (hx : x ∈ xs) : x.size ≤ k := of_decide_eq_true (List.all_eq_true.1 h x hx)

def Str (w : World) (B m k : Nat) (e : Ending) (w' : World) : Prop := ∃ x : ByteArray, e = .returned (.string x) ∧ x.size ≤ k ∧ Cur w' B m ∧ w.grownBy w' (some B)
/-- what a reader of the call's own leaves -/
theorem below_cur {w w' : World} {o : Obj} (hg : (w.alloc o).grownBy w' (some w.heap.size)) : Below w.heap.size w w' :=
  ((Below.refl _ w).alloc (Nat.le_refl _) o).grown hg (by simp) (fun j hj => by cases hj; exact Nat.le_refl _)
end Go.Proofs.YtankaffhapcnaaaDoor.Draw
