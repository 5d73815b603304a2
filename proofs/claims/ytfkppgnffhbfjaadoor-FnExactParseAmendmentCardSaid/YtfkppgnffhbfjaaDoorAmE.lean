/- Two lists of words compared: the model and the program. No condition. -/
import Derived.Test.YtfkppgnffhbfjaaDoorAm
import Derived.Test.YtfkppgnffhbfjaaDoorAppO
import Derived.Test.YtfkppgnffhbfjaaDoorLStringD
namespace Go.Proofs.YtfkppgnffhbfjaaDoor.AmE
open Go.RowKit Bs Word Am
set_option linter.unusedVariables false
theorem str_eq (X Y : ByteArray) : (X.toList == Y.toList) = decide (X = Y) := by
  rw [ByteArray.toList_eq, ByteArray.toList_eq]
  by_cases h : X = Y
  · subst h; simp
  · have h2 : ¬ X.data = Y.data := fun e => h (ByteArray.ext e)
    simp [h, h2]
theorem same_next {x y : T} {k : Nat} (hx : k < x.length) (hy : k < y.length) (h : x.take k = y.take k) (he : x[k] = y[k]) : x.take (k + 1) = y.take (k + 1) := by
  rw [List.take_succ_eq_append_getElem hx, List.take_succ_eq_append_getElem hy, h, he]
theorem same_not {x y : T} {k : Nat} (hx : k < x.length) (hy : k < y.length) (h : x = y) : x[k] = y[k] := by subst h; rfl
/-- a piece of a slice, or of nil -/
theorem isq_sub {α : Type} {R : Rec α} {w : World} {ao t : Option Addr} {n c : Nat} {xs : List α} (h : IsQ R w (.slice ao n c) xs) (l m : Nat) (hl : l ≤ m) (hm : m ≤ n) (ht : t = if c = l then ao else ao.map (fun x => x.add (l * R.n))) (k d : Nat) (hk : k = m - l) (hd : d = c - l) : IsQ R w (.slice t k d) ((xs.drop l).take (m - l)) := by
  subst hk hd
  rcases h with ⟨e, rfl⟩ | h
  · simp only [Value.slice.injEq] at e
    obtain ⟨rfl, rfl, rfl⟩ := e
    obtain rfl : m = 0 := by omega
    obtain rfl : l = 0 := by omega
    simp at ht
    subst ht
    exact .inl ⟨rfl, by simp⟩
  · obtain ⟨b, o, c', e, hb, h1, h2, h3⟩ := h
    simp only [Value.slice.injEq] at e
    obtain ⟨rfl, rfl, rfl⟩ := e
    have hI : IsS R w (.slice (some ⟨b, o, none⟩) xs.length c) xs := ⟨b, o, c, rfl, hb, h1, h2, h3⟩
    refine .inr ?_
    have ht' : t = if c = l then some ⟨b, o, none⟩ else some ⟨b, o + l * R.n, none⟩ := by rw [ht]; simp only [Option.map_some, Go.WideShapes.add_plain]
    have hD := hI.drop R t ht' (by omega) (xs.length - l) (c - l) rfl rfl
    have hS : ∃ b' o', t = some ⟨b', o', none⟩ := by
      rw [ht']; split
      · exact ⟨_, _, rfl⟩
      · exact ⟨_, _, rfl⟩
    obtain ⟨b', o', rfl⟩ := hS
    exact hD.take R (by omega)
set_option maxRecDepth 100000 in
/-- a slice expression with both bounds, with one -/
theorem run_sub (W : World) (ao t : Option Addr) (n c : Nat) (l h : Int) (h0 : 0 ≤ l) (h1 : l ≤ h) (h2 : h ≤ c) (ht : t = if c = l.toNat then ao else ao.map (fun x => x.add l.toNat)) :
    (Instr.slice 22 (.slice ao n c) (some (.int .i64 l)) (some (.int .i64 h)) none).run Tryd.prog W = .ok (.slice t (h.toNat - l.toNat) (c - l.toNat)) W := by
  rw [run_slice_lh W _ ao n c Tryd.underlying22 .i64 .i64 l h h0 h1 h2]
  have hs : (Go.sizeOf (Tryd.prog.elem 22)).run Tryd.prog W = .ok 1 W := by kernel_rfl
  rw [hs]
  simp only [Result.andThen, sliced, Nat.mul_one, ht]
set_option maxRecDepth 100000 in
theorem run_from (W : World) (ao t : Option Addr) (n c : Nat) (l : Int) (h0 : 0 ≤ l) (h1 : l ≤ n) (ht : t = if c = l.toNat then ao else ao.map (fun x => x.add l.toNat)) :
    (Instr.slice 22 (.slice ao n c) (some (.int .i64 l)) none none).run Tryd.prog W = .ok (.slice t (n - l.toNat) (c - l.toNat)) W := by
  rw [run_slice_l W _ ao n c Tryd.underlying22 .i64 l h0 h1]
  have hs : (Go.sizeOf (Tryd.prog.elem 22)).run Tryd.prog W = .ok 1 W := by kernel_rfl
  rw [hs]
  simp only [Result.andThen, sliced, Nat.mul_one, ht]
set_option maxRecDepth 100000 in
theorem run_upto (W : World) (ao t : Option Addr) (n c : Nat) (h : Int) (h0 : 0 ≤ h) (h1 : h ≤ c) (ht : t = if c = 0 then ao else ao.map (fun x => x.add 0)) :
    (Instr.slice 22 (.slice ao n c) none (some (.int .i64 h)) none).run Tryd.prog W = .ok (.slice t h.toNat c) W := by
  rw [run_slice_h W _ ao n c Tryd.underlying22 .i64 h h0 h1]
  have hs : (Go.sizeOf (Tryd.prog.elem 22)).run Tryd.prog W = .ok 1 W := by kernel_rfl
  rw [hs]
  simp only [Result.andThen, sliced, Nat.zero_mul, ht, Nat.sub_zero]
end Go.Proofs.YtfkppgnffhbfjaaDoor.AmE
