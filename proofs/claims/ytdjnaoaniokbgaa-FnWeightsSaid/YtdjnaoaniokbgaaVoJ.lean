/- Proxies: weights present and votes cast. No condition. -/
import Derived.Test.YtdjnaoaniokbgaaVoH
namespace Go.Proofs.Ytdjnaoaniokbgaa.VoJ
open Go.RowKit Bs Word Sq IntF Vo VoA VoN VoH
set_option linter.unusedVariables false
abbrev hd (v : V) : List Int := held v v.weights.length
theorem hd_len (v : V) : (hd v).length = v.weights.length := held_len v _
theorem hd_in {v : V} (h : GP v) (i : Nat) : 0 ≤ (hd v).getD i 0 ∧ (hd v).getD i 0 ≤ 1200 := by
  have h1 := held_in h.w v.weights.length i
  have h2 := h.n
  show 0 ≤ (held v v.weights.length).getD i 0 ∧ (held v v.weights.length).getD i 0 ≤ 1200
  omega
def psum (v : V) (z : List Int) : Nat → Int
  | 0 => 0
  | k + 1 => psum v z k + (hd v).getD (z.getD k 0).toNat 0
theorem psum_next {v : V} {z : List Int} {k : Nat} {x : Int} (hx : z[k]? = some x) : psum v z (k + 1) = psum v z k + (hd v).getD x.toNat 0 := by
  show psum v z k + (hd v).getD (z.getD k 0).toNat 0 = _
  rw [List.getD_eq_getElem?_getD (l := z), hx]; rfl
theorem psum_in {v : V} (h : GP v) (z : List Int) : ∀ k, 0 ≤ psum v z k ∧ psum v z k ≤ 1200 * k
  | 0 => ⟨Int.le_refl _, by show (0 : Int) ≤ 1200 * ((0 : Nat) : Int); omega⟩
  | k + 1 => by
    have h1 := psum_in h z k
    have h2 := hd_in h (z.getD k 0).toNat
    show 0 ≤ psum v z k + (hd v).getD (z.getD k 0).toNat 0 ∧ psum v z k + (hd v).getD (z.getD k 0).toNat 0 ≤ _
    omega
/-- the number ahead of place k -/
def aheadI (z : List Int) (k : Nat) : Int := if k = 0 then -1 else z.getD (k - 1) (-1)
theorem aheadI_next {z : List Int} {k : Nat} {x : Int} (hx : z[k]? = some x) : aheadI z (k + 1) = x := by
  unfold aheadI; rw [if_neg (by omega), show k + 1 - 1 = k by omega, List.getD_eq_getElem?_getD, hx]; rfl
theorem ris_le {z : List Int} {n k : Nat} {x : Int} (hx : z[k]? = some x) (h : x ≤ aheadI z k) : risB z 0 ((n : Int) - 1) = false := ris_no fun g => by
  have h1 := g k x hx
  have h2 := inB_yes h1.1
  unfold aheadI at h
  split at h
  · omega
  · have hk : k - 1 < z.length := by have := (List.getElem?_eq_some_iff.1 hx).1; omega
    have hp := List.getElem?_eq_getElem hk
    rw [List.getD_eq_getElem?_getD, hp] at h
    have := h1.2 _ (by omega) hp
    have h3 : x ≤ z[k - 1] := h
    omega
theorem ris_out {z : List Int} {n k : Nat} {x : Int} (hx : z[k]? = some x) (h : inB x 0 ((n : Int) - 1) = false) : risB z 0 ((n : Int) - 1) = false := ris_no fun g => by
  have h1 := (g k x hx).1
  rw [h] at h1; cases h1
theorem ris_ok {z : List Int} {n k : Nat} {x : Int} (hx : z[k]? = some x) (h : ¬ x ≤ aheadI z k) (h1 : inB x 0 ((n : Int) - 1) = true) : RisOk z 0 ((n : Int) - 1) k := fun y hy => by
  rw [hx] at hy
  rw [← Option.some.inj hy]
  refine ⟨h1, fun p h0 hp => ?_⟩
  unfold aheadI at h
  rw [if_neg (by omega), List.getD_eq_getElem?_getD, hp] at h
  have h3 : ¬ x ≤ p := h
  omega
theorem ris_fin {z : List Int} {lo hi : Int} {k : Nat} (hk : z.length ≤ k) (hs : ∀ i, i < k → RisOk z lo hi i) : risB z lo hi = true :=
  ris_yes fun i x hx => hs i (by have := (List.getElem?_eq_some_iff.1 hx).1; omega) x hx
def CastP (z : List Int) : Prop := ∀ (i : Nat) (x : Int), z[i]? = some x → inB x 0 3 = true
open Classical in
noncomputable def castB (z : List Int) : Bool := decide (CastP z)
open Classical in
theorem cast_yes {z : List Int} (h : CastP z) : castB z = true := decide_eq_true h
open Classical in
theorem cast_of {z : List Int} (h : castB z = true) : CastP z := of_decide_eq_true h
open Classical in
theorem cast_bad {z : List Int} {k : Nat} {x : Int} (hx : z[k]? = some x) (h : inB x 0 3 = false) : castB z = false := decide_eq_false fun g => by have := g k x hx; rw [h] at this; cases this
theorem cast_next {z : List Int} {k : Nat} {x : Int} (hs : ∀ (i : Nat) (x : Int), i < k → z[i]? = some x → inB x 0 3 = true) (hx : z[k]? = some x) (h : inB x 0 3 = true) : ∀ (i : Nat) (x : Int), i < k + 1 → z[i]? = some x → inB x 0 3 = true := fun i y hi hy => by
  rcases Nat.lt_or_ge i k with h' | h'
  · exact hs i y h' hy
  · obtain rfl : i = k := by omega
    rw [hx] at hy
    rwa [← Option.some.inj hy]
theorem cast_all {z : List Int} {k : Nat} (hk : z.length ≤ k) (hs : ∀ (i : Nat) (x : Int), i < k → z[i]? = some x → inB x 0 3 = true) : castB z = true :=
  cast_yes fun i x hx => hs i x (by have := (List.getElem?_eq_some_iff.1 hx).1; omega) hx
def tall (v : V) (z : List Int) : Nat → List Int
  | 0 => List.replicate 4 0
  | k + 1 => bump (tall v z k) (z.getD k 0) ((hd v).getD k 0)
theorem tall_len (v : V) (z : List Int) : ∀ k, (tall v z k).length = 4
  | 0 => rfl
  | k + 1 => by show (bump _ _ _).length = _; unfold bump; rw [List.length_set]; exact tall_len v z k
theorem tall_next {v : V} {z : List Int} {k : Nat} {x y : Int} (hx : z[k]? = some x) (hy : (hd v)[k]? = some y) : (tall v z k).set x.toNat ((tall v z k).getD x.toNat 0 + y) = tall v z (k + 1) := by
  show _ = bump (tall v z k) (z.getD k 0) ((hd v).getD k 0)
  rw [List.getD_eq_getElem?_getD (l := z), hx, List.getD_eq_getElem?_getD (l := hd v), hy]; rfl
theorem tall_in {v : V} (h : GP v) (z : List Int) : ∀ (k i : Nat), 0 ≤ (tall v z k).getD i 0 ∧ (tall v z k).getD i 0 ≤ 1200 * k
  | 0, i => by
    show 0 ≤ (List.replicate 4 (0 : Int)).getD i 0 ∧ (List.replicate 4 (0 : Int)).getD i 0 ≤ 0
    rw [List.getD_eq_getElem?_getD, List.getElem?_replicate]
    split <;> simp
  | k + 1, i => by
    have h1 := tall_in h z k i
    have h2 := tall_in h z k (z.getD k 0).toNat
    have h3 := hd_in h k
    show 0 ≤ (bump _ _ _).getD i 0 ∧ (bump _ _ _).getD i 0 ≤ 1200 * ((k + 1 : Nat) : Int)
    have hc : ((k + 1 : Nat) : Int) = (k : Int) + 1 := by omega
    rw [hc]
    unfold bump
    rw [List.getD_eq_getElem?_getD, List.getElem?_set]
    split
    · split
      · show 0 ≤ (tall v z k).getD (z.getD k 0).toNat 0 + (hd v).getD k 0 ∧ (tall v z k).getD (z.getD k 0).toNat 0 + (hd v).getD k 0 ≤ _; omega
      · show 0 ≤ (0 : Int) ∧ (0 : Int) ≤ _; omega
    · rw [← List.getD_eq_getElem?_getD]; omega
end Go.Proofs.Ytdjnaoaniokbgaa.VoJ
