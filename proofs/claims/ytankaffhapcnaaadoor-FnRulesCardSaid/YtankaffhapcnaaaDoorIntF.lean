/- Slices of ints: whether one holds a number, whether it ascends. No condition. -/
import Derived.Test.YtankaffhapcnaaaDoorWord
import Derived.Test.YtankaffhapcnaaaDoorLIntZ
import Derived.Test.YtankaffhapcnaaaDoorSq
import Derived.BigQuiet
import Derived.IntWalk
import Derived.Deep.DeepCutAuto
namespace Go.Proofs.YtankaffhapcnaaaDoor.IntF
open Go.RowKit Bs Word Sq
set_option linter.unusedVariables false
theorem ret_int {a b : Int} (h : a = b) : Ending.returned (.int .i64 a) = .returned (.int .i64 b) := by rw [h]
def hasB (xs : List Int) (x : Int) : Bool := (xs.findIdx? (fun X => (X == x))).isSome
theorem has_iff {xs : List Int} {x : Int} : hasB xs x = true ↔ x ∈ xs := by
  unfold hasB
  rw [Option.isSome_iff_ne_none, ne_eq, List.findIdx?_eq_none_iff]
  constructor
  · intro h
    apply Classical.byContradiction
    intro hx
    exact h (fun y hy => by rw [beq_eq_false_iff_ne]; intro e; subst e; exact hx hy)
  · intro h hn
    have := hn x h
    simp at this
theorem flip (xs : List Int) (x : Int) : xs.findIdx? (fun X => (x == X)) = xs.findIdx? (fun X => (X == x)) := by
  congr 1
  funext X
  rw [Bool.eq_iff_iff]
  simp only [beq_iff_eq]
  exact eq_comm
/-- all of them in a range, each greater than its neighbour -/
def RisOk (xs : List Int) (lo hi : Int) (i : Nat) : Prop := ∀ x, xs[i]? = some x → inB x lo hi = true ∧ ∀ p, 0 < i → xs[i - 1]? = some p → p < x
def RisP (xs : List Int) (lo hi : Int) : Prop := ∀ i, RisOk xs lo hi i
open Classical in
noncomputable def risB (xs : List Int) (lo hi : Int) : Bool := decide (RisP xs lo hi)
open Classical in
theorem ris_yes {xs : List Int} {lo hi : Int} (h : RisP xs lo hi) : risB xs lo hi = true := decide_eq_true h
open Classical in
theorem ris_no {xs : List Int} {lo hi : Int} (h : ¬ RisP xs lo hi) : risB xs lo hi = false := decide_eq_false h
open Classical in
theorem ris_of {xs : List Int} {lo hi : Int} (h : risB xs lo hi = true) : RisP xs lo hi := of_decide_eq_true h
/-- what the test at a place tells: true is bad -/
def Head (xs : List Int) (lo hi : Int) (i : Nat) (v : Bool) : Prop := (v = true → risB xs lo hi = false) ∧ (v = false → RisOk xs lo hi i)
theorem head_bad {xs : List Int} {lo hi : Int} {i : Nat} (h : ¬ RisOk xs lo hi i) : Head xs lo hi i true := ⟨fun _ => ris_no (fun g => h (g i)), (fun h => by cases h)⟩
theorem head_fine {xs : List Int} {lo hi : Int} {i : Nat} (h : RisOk xs lo hi i) : Head xs lo hi i false := ⟨(fun h => by cases h), fun _ => h⟩
theorem ris_next {xs : List Int} {lo hi : Int} {k : Nat} (hs : ∀ i, i < k → RisOk xs lo hi i) (h : RisOk xs lo hi k) : ∀ i, i < k + 1 → RisOk xs lo hi i := fun i hi => by
  rcases Nat.lt_or_ge i k with h' | h'
  · exact hs i h'
  · rwa [show i = k by omega]
end Go.Proofs.YtankaffhapcnaaaDoor.IntF
