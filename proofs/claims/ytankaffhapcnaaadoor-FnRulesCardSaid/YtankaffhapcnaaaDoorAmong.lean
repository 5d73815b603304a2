/- 'c.among([]int{..})' at a literal that has just been laid. -/
import Derived.Test.YtankaffhapcnaaaDoorDraw
namespace Go.Proofs.YtankaffhapcnaaaDoor.Draw
open Go.RowKit Cur
set_option linter.unusedVariables false

def Ints (w : World) (B m : Nat) (xs : List Int) (e : Ending) (w' : World) : Prop := ∃ x, x ∈ xs ∧ e = .returned (.int .i64 x) ∧ Cur w' B m ∧ w.grownBy w' (some B)
set_option maxHeartbeats 400000 in
theorem among_any (B m g o n cap : Nat) (xs : List Int) (w : World) (h : Cur w B m) (hm : m < 900000) (hn : xs.length = n) (h0 : 1 ≤ n) (h1 : n ≤ 60000) (hcap : n ≤ cap) (hgB : g ≠ B) (hgl : g < w.heap.size)
    (hc : ∀ j x, xs[j]? = some x → w.cell? ⟨g, o + j, none⟩ = some (.int .i64 x)) :
    Calls Tryd.prog 49 #[.pointer (some ⟨B, 0, none⟩), .slice (some ⟨g, o, none⟩) n cap] w (Ints w B (m + 2) xs) := by
  have HC := Lib.hid h
  have HX := Lib.hid hc
  have HN := Lib.hid hn
  clear h hc hn
  go_enter Tryd.func49, Tryd.ntmps49
  go_wp2_with fail
  refine (pick B m n _ HC.out hm (by omega) (by omega)).mono ?_
  rintro e w1 ⟨r, rfl, r0, r1, hc1, hg1⟩
  obtain ⟨i, rfl⟩ := Int.eq_ofNat_of_zero_le r0
  have hi : i < xs.length := by rw [HN.out]; omega
  have hcell : w1.cell? ⟨g, o + i, none⟩ = some (.int .i64 xs[i]) := by
    rw [World.cell?_of_block (hg1.block g hgl (by intro e; exact hgB (Option.some.inj e)))]
    exact HX.out i _ (List.getElem?_eq_getElem hi)
  have HM := Lib.hid (List.getElem_mem hi)
  have HC1 := Lib.hid hc1
  clear hc1 HC
  generalize xs[i] = X at *
  go_wp2_with fail
  go_ret
  exact ⟨X, HM.out, rfl, HC1.out, hg1⟩
theorem lit_ints (w : World) (xs : List Int) (j : Nat) (x : Int) (h : xs[j]? = some x) : (w.alloc (.cells (xs.map (Value.int .i64)).toArray 3)).cell? ⟨w.heap.size, 0 + j, none⟩ = some (.int .i64 x) := by
  rw [Nat.zero_add, World.cell?_alloc_at _ _ _ _ rfl]
  show (xs.map (Value.int .i64)).toArray[j]? = _
  rw [List.getElem?_toArray, List.getElem?_map, h]
  rfl
theorem among_lit (B m : Nat) (xs : List Int) (w : World) (h : Cur w B m) (hm : m < 900000) (h0 : 1 ≤ xs.length) (h1 : xs.length ≤ 60000) :
    Calls Tryd.prog 49 #[.pointer (some ⟨B, 0, none⟩), .slice (some ⟨w.heap.size, 0, none⟩) xs.length xs.length] (w.alloc (.cells (xs.map (Value.int .i64)).toArray 3)) (Ints w B (m + 2) xs) := by
  have hlt := h.lt
  refine (among_any B m w.heap.size 0 xs.length xs.length xs _ (h.kept ((Below.refl _ _).alloc (Nat.le_refl _) _)) hm rfl h0 h1 (Nat.le_refl _) (by omega) (by simp) (fun j x hx => lit_ints w xs j x hx)).mono ?_
  rintro e w' ⟨x, hx, he, hc, hg⟩
  exact ⟨x, hx, he, hc, grown_trans (grown_alloc w _ _) hg⟩
end Go.Proofs.YtankaffhapcnaaaDoor.Draw
