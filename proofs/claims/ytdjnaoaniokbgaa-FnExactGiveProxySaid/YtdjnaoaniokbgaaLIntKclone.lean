/- slices.Clone at slices of Int. No condition but the length. -/
import Derived.Test.YtdjnaoaniokbgaaLIntK
namespace Go.Proofs.Ytdjnaoaniokbgaa.LInt
open Go.RowKit Bs
set_option linter.unusedVariables false
def Cloned (xs : List LInt.R) (w : World) (e : Ending) (w' : World) : Prop := ∃ v, e = .returned v ∧ Own LInt.rec 3 w' w.heap.size v xs ∧ Below w.heap.size w w'
set_option maxHeartbeats 400000 in
theorem clone (v0 : Value) (xs : List LInt.R) (w : World) (h : Is LInt.rec w v0 xs) (hsm : xs.length ≤ 1048576) :
    Calls Try.prog 82 #[v0] w (Cloned xs w) := by
  obtain ⟨a, cp, rfl, h⟩ := h
  obtain ⟨n, hn⟩ : ∃ n, n = xs.length := ⟨_, rfl⟩
  have HN := Lib.hid hn.symm
  have hnb : n ≤ cp := by have := h.1; omega
  have h2 := h.2.1
  unfold maxLen at h2
  rw [← hn] at hsm ⊢
  obtain ⟨i0, hi, hz0, hz1, hz2⟩ := info_parts infoK
  have HI := Lib.hid hi
  have HZ := Lib.hid (And.intro hz0 (And.intro hz1 hz2))
  have heq := fun W => Lib.run_eql_slice_nil (P := Try.prog) W 24 3 a n cp 0 0 Try.underlying24
  clear hi hz0 hz1 hz2 hn
  cases a with
  | none =>
    have hnil : xs = [] := by
      rcases h.2.2 with h' | ⟨b, o, h', _⟩
      · exact h'
      · cases h'
    subst hnil
    obtain rfl : n = 0 := by have := HN.out; simpa using this.symm
    clear h
    go_enter Try.func82, Try.ntmps82
    go_wp2_with fail
    go_ret
    exact ⟨_, rfl, Own.nil, Below.refl _ _⟩
  | some p =>
    have hfl : Hid (∀ j u, (flat LInt.rec xs)[j]? = some u → (w.alloc (.cells #[] 3)).cell? (Addr.add p j) = some u) := fun j u hu => by
      rcases h.2.2 with rfl | ⟨b, o, h', hbl, hall⟩
      · simp [flat] at hu
      · obtain rfl := Option.some.inj h'
        rw [Go.WideShapes.add_plain, ((Below.refl w.heap.size w).alloc (Nat.le_refl _) _).cell (p := ⟨b, o + j, none⟩) hbl]
        exact flat_cells LInt.rec hall j u hu
    have HO := Lib.hid (startB (A := w.heap.size) (heap_alloc_new w (.cells #[] 3)) (Nat.le_refl _))
    clear h
    go_enter Try.func82, Try.ntmps82
    go_wp2_with (at_builtin; refine wpList_append_own _ rfl (.tmp 5) (.tmp 6) 24 rfl w.heap.size 3 i0 (.int .i64 0) 1 8 Try.underlying24 HI.out HZ.out.1 HZ.out.2.1 HZ.out.2.2 rfl (by decide) _ _ _ rfl HO.out p n cp (flat LInt.rec xs) rfl ?c0 hfl.out (flat_one _ xs) ?c3 ?c4 ?c5 ?c6)
    case c0 => rw [flat_len, HN.out]; rfl
    case c3 => unfold maxLen; simp; omega
    case c4 => simp; omega
    case c5 => simp
    case c6 =>
      intro v' w2 hown hgrow _
      have hb2 : Below w.heap.size w w2 := ((Below.refl w.heap.size w).alloc (Nat.le_refl _) _).grown hgrow (by simp) (fun j hj => HO.out.lt j hj |>.1)
      have hO2 := Lib.hid (show Own LInt.rec 3 w2 w.heap.size v' xs by
        unfold Own
        rw [HN.out]
        have h := hown
        first | exact h | (rw [Nat.zero_add] at h; exact h))
      clear hown hgrow
      go_wp2_with fail
      go_ret
      exact ⟨_, rfl, hO2.out, hb2⟩
end Go.Proofs.Ytdjnaoaniokbgaa.LInt
