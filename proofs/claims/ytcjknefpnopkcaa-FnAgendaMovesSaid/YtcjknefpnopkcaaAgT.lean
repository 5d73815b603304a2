/- When the items of an agenda begin and end: plain mathematics. -/
import Derived.Test.YtcjknefpnopkcaaAg
namespace Go.Proofs.Ytcjknefpnopkcaa.AgT
open Go.RowKit Bs Word Ag
set_option linter.unusedVariables false
/-- when the last one ends -/
def fin (s : Int) (xs : List M) : Int := xs.foldl (fun n x => max n x.time + x.mins) s
/-- what f tells of each item and its begin, in order -/
def run (f : Int → M → List Int) (s : Int) : List M → List Int
  | [] => []
  | x :: xs => f (max s x.time) x ++ run f (max s x.time + x.mins) xs
def begs (s : Int) (xs : List M) : List Int := run (fun b _ => [b]) s xs
def late (s : Int) (xs : List M) : List Int := run (fun b x => if (x.time != -1 && decide (x.time < b)) = true then [x.id] else []) s xs
def till (e s : Int) (xs : List M) : List Int := run (fun b x => if b + x.mins ≤ e then [x.id] else []) s xs
def mins (xs : List M) : Int := xs.foldl (fun n x => n + x.mins) 0
theorem take_snoc {xs : List M} {k : Nat} {X : M} (h : xs[k]? = some X) : xs.take (k + 1) = xs.take k ++ [X] := by
  obtain ⟨hk, rfl⟩ := List.getElem?_eq_some_iff.1 h
  exact List.take_succ_eq_append_getElem hk
theorem fin_app (s : Int) (xs ys : List M) : fin s (xs ++ ys) = fin (fin s xs) ys := List.foldl_append
theorem run_app (f : Int → M → List Int) : ∀ (xs : List M) (s : Int) (ys : List M), run f s (xs ++ ys) = run f s xs ++ run f (fin s xs) ys
  | [], s, ys => rfl
  | x :: xs, s, ys => by
    show f _ x ++ run f _ (xs ++ ys) = (f _ x ++ run f _ xs) ++ run f (fin _ xs) ys
    rw [run_app f xs, List.append_assoc]
theorem fin_next {s : Int} {xs : List M} {k : Nat} {X : M} (h : xs[k]? = some X) : fin s (xs.take (k + 1)) = max (fin s (xs.take k)) X.time + X.mins := by
  rw [take_snoc h, fin_app]; rfl
theorem run_next {f : Int → M → List Int} {s : Int} {xs : List M} {k : Nat} {X : M} (h : xs[k]? = some X) : run f s (xs.take (k + 1)) = run f s (xs.take k) ++ f (max (fin s (xs.take k)) X.time) X := by
  rw [take_snoc h, run_app]
  show _ ++ (f _ X ++ []) = _
  rw [List.append_nil]
theorem mins_next {xs : List M} {k : Nat} {X : M} (h : xs[k]? = some X) : mins (xs.take (k + 1)) = mins (xs.take k) + X.mins := by
  rw [take_snoc h]; unfold mins; rw [List.foldl_append]; rfl
theorem begs_len : ∀ (xs : List M) (s : Int), (begs s xs).length = xs.length
  | [], s => rfl
  | x :: xs, s => by
    show ([_] ++ begs _ xs).length = _
    rw [List.length_append, begs_len xs, List.length_cons, List.length_cons, List.length_nil]; omega
theorem begs_at {s : Int} {xs : List M} {k : Nat} {X : M} (h : xs[k]? = some X) : (begs s xs)[k]? = some (max (fin s (xs.take k)) X.time) := by
  have hk : k < xs.length := (List.getElem?_eq_some_iff.1 h).1
  have e : begs s xs = begs s (xs.take (k + 1)) ++ run (fun b _ => [b]) (fin s (xs.take (k + 1))) (xs.drop (k + 1)) := by
    conv => lhs; rw [← List.take_append_drop (k + 1) xs]
    exact run_app _ _ _ _
  have e2 : begs s (xs.take (k + 1)) = begs s (xs.take k) ++ [max (fin s (xs.take k)) X.time] := run_next h
  have hl : (begs s (xs.take k)).length = k := by rw [begs_len, List.length_take]; omega
  rw [e, e2, List.append_assoc, List.getElem?_append_right (by omega), hl, Nat.sub_self]
  rfl
/-- in a good list nothing grows great -/
theorem fin_small {s : Int} {xs : List M} (hg : goodB xs = true) (h0 : 0 ≤ s) (h1 : s ≤ 1439) : ∀ k, k ≤ xs.length → 0 ≤ fin s (xs.take k) ∧ fin s (xs.take k) ≤ 1439 + 240 * (k : Int)
  | 0, _ => by simp only [List.take_zero]; show 0 ≤ s ∧ s ≤ _; omega
  | k + 1, hk => by
    obtain ⟨i1, i2⟩ := fin_small hg h0 h1 k (by omega)
    have hx := List.getElem?_eq_getElem (show k < xs.length by omega)
    obtain ⟨_, _, m, t⟩ := ok_parts (good_at hg hx)
    rw [fin_next hx]
    omega
theorem mins_small {xs : List M} (hg : goodB xs = true) : ∀ k, k ≤ xs.length → 0 ≤ mins (xs.take k) ∧ mins (xs.take k) ≤ 240 * (k : Int)
  | 0, _ => by simp only [List.take_zero]; show (0 : Int) ≤ 0 ∧ (0 : Int) ≤ _; omega
  | k + 1, hk => by
    obtain ⟨i1, i2⟩ := mins_small hg k (by omega)
    have hx := List.getElem?_eq_getElem (show k < xs.length by omega)
    obtain ⟨_, _, m, t⟩ := ok_parts (good_at hg hx)
    rw [mins_next hx]
    omega
theorem begin_small {s : Int} {xs : List M} {k : Nat} {X : M} (hg : goodB xs = true) (h0 : 0 ≤ s) (h1 : s ≤ 1439) (hx : xs[k]? = some X) : 0 ≤ max (fin s (xs.take k)) X.time ∧ max (fin s (xs.take k)) X.time ≤ 4000 := by
  have hk : k < xs.length := (List.getElem?_eq_some_iff.1 hx).1
  have := fin_small hg h0 h1 k (by omega)
  have h10 := good_len hg
  obtain ⟨_, _, m, t⟩ := ok_parts (good_at hg hx)
  omega
theorem run_len (f : Int → M → List Int) (hf : ∀ b x, (f b x).length ≤ 1) : ∀ (xs : List M) (s : Int), (run f s xs).length ≤ xs.length
  | [], s => Nat.le_refl _
  | x :: xs, s => by
    show (f _ x ++ run f _ xs).length ≤ _
    rw [List.length_append, List.length_cons]
    have := run_len f hf xs (max s x.time + x.mins)
    have := hf (max s x.time) x
    omega
/-- what is asked of an agenda and a minute -/
noncomputable def askB (xs : List M) (s : Int) : Bool := goodB xs && inB s 0 1439
end Go.Proofs.Ytcjknefpnopkcaa.AgT
