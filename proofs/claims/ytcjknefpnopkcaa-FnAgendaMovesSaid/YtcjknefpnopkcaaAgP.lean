/- Items of an agenda picked by their begins: plain mathematics; slices of the call's own read as rows. -/
import Derived.Test.YtcjknefpnopkcaaItemTimesC
import Derived.Maps.AppendAt
namespace Go.Proofs.Ytcjknefpnopkcaa.AgP
open Go.RowKit Bs Word Ag AgT
set_option linter.unusedVariables false
def pick (p : Int → M → Bool) (s : Int) (xs : List M) : List Int := run (fun b x => if p b x = true then [x.id] else []) s xs
def lateT (b : Int) (X : M) : Bool := X.time != -1 && decide (X.time < b)
def tillT (e b : Int) (X : M) : Bool := decide (b + X.mins ≤ e)
theorem pick_yes {p : Int → M → Bool} {s : Int} {xs : List M} {k : Nat} {X : M} {zs : List Int} {b : Int} (hz : zs = pick p s (xs.take k)) (h : xs[k]? = some X) (hb : b = max (fin s (xs.take k)) X.time) (hp : p b X = true) : zs ++ [X.id] = pick p s (xs.take (k + 1)) := by
  unfold pick at hz ⊢
  rw [run_next h, ← hb, if_pos hp, hz]
theorem pick_no {p : Int → M → Bool} {s : Int} {xs : List M} {k : Nat} {X : M} {zs : List Int} {b : Int} (hz : zs = pick p s (xs.take k)) (h : xs[k]? = some X) (hb : b = max (fin s (xs.take k)) X.time) (hp : p b X = false) : zs = pick p s (xs.take (k + 1)) := by
  unfold pick at hz ⊢
  rw [run_next h, ← hb, if_neg (by rw [hp]; simp), hz, List.append_nil]
theorem pick_len (p : Int → M → Bool) (s : Int) (xs : List M) : (pick p s xs).length ≤ xs.length := by
  unfold pick
  exact run_len _ (fun b x => by split <;> simp) xs s
theorem own_rows {α : Type} {T : Rec α} {E : TypeId} {w : World} {A n c : Nat} {a : Option Addr} {xs : List α} (h : Own T E w A (.slice a n c) xs) : RowsAt T w a c xs := by
  obtain ⟨a', c', e, hr⟩ := h.is
  simp only [Value.slice.injEq] at e
  obtain ⟨rfl, _, rfl⟩ := e
  exact hr
theorem own_form {α : Type} {T : Rec α} {E : TypeId} {w : World} {A : Nat} {v : Value} {xs : List α} (h : Own T E w A v xs) : ∃ a c, v = .slice a xs.length c := by
  obtain ⟨a, c, e, _⟩ := h.is
  exact ⟨a, c, e⟩
theorem fin_all {s : Int} {xs : List M} {n : Nat} (hn : xs.length = n) : fin s (xs.take n) = fin s xs := by rw [List.take_of_length_le (by omega)]
end Go.Proofs.Ytcjknefpnopkcaa.AgP
