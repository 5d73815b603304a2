/- Proxies: the rules of chapter 12. Plain mathematics. -/
import Derived.Test.YtdjnaoaniokbgaaLVotersD
import Derived.Test.YtdjnaoaniokbgaaIntF
namespace Go.Proofs.Ytdjnaoaniokbgaa.Vo
open Go.RowKit Bs Word Sq IntF
set_option linter.unusedVariables false
abbrev P := LProxy.R
abbrev V := LVoters.R
/-- to whom a proxy leads from i: -1 if there is none -/
def nxt (ps : List P) (i : Int) : Int := ((got (fun X => (X.src == i)) ps).map (fun X => X.dst)).getD (-1)
theorem nxt_hit {ps : List P} {i : Int} {k : Nat} {X : P} (h : First (fun X => (X.src == i)) ps k) (hx : ps[k]? = some X) (hp : (X.src == i) = true) : nxt ps i = X.dst := by
  unfold nxt; rw [got_hit h hx hp]; rfl
theorem nxt_none {ps : List P} {i : Int} {k : Nat} (h : First (fun X => (X.src == i)) ps k) (hk : ps.length ≤ k) : nxt ps i = -1 := by
  unfold nxt; rw [got_none h hk]; rfl
/-- at most f steps from i: where they lead, and how many they are -/
def go (ps : List P) : Nat → Int → Int × Nat
  | 0, i => (i, 0)
  | f + 1, i => if nxt ps i < 0 then (i, 0) else ((go ps f (nxt ps i)).1, (go ps f (nxt ps i)).2 + 1)
theorem go_end {ps : List P} {f : Nat} {i : Int} (h : nxt ps i < 0) : go ps f i = (i, 0) := by
  cases f with
  | zero => rfl
  | succ f => unfold go; rw [if_pos h]
theorem go_step {ps : List P} {f : Nat} {i : Int} (h : ¬ nxt ps i < 0) : go ps (f + 1) i = ((go ps f (nxt ps i)).1, (go ps f (nxt ps i)).2 + 1) := by
  rw [go, if_neg h]
theorem go_le (ps : List P) : ∀ (f : Nat) (i : Int), (go ps f i).2 ≤ f
  | 0, i => Nat.le_refl _
  | f + 1, i => by
    by_cases h : nxt ps i < 0
    · rw [go_end h]; exact Nat.zero_le _
    · rw [go_step h]; have := go_le ps f (nxt ps i); show _ + 1 ≤ _; omega
/-- the walk's loop: k steps are made, f are left -/
def Mid (ps : List P) (i : Int) (n : Nat) (j : Int) (k : Nat) : Prop := go ps n i = ((go ps (n - k) j).1, k + (go ps (n - k) j).2)
theorem mid_zero {ps : List P} {i : Int} {n : Nat} : Mid ps i n i 0 := by unfold Mid; rw [Nat.sub_zero, Nat.zero_add]
theorem mid_next {ps : List P} {i j : Int} {n k : Nat} (h : Mid ps i n j k) (hk : k < n) (hn : ¬ nxt ps j < 0) : Mid ps i n (nxt ps j) (k + 1) := by
  unfold Mid at h ⊢
  rw [show n - k = (n - (k + 1)) + 1 by omega, go_step hn] at h
  rw [h]
  show ((go ps (n - (k + 1)) (nxt ps j)).1, k + ((go ps (n - (k + 1)) (nxt ps j)).2 + 1)) = ((go ps (n - (k + 1)) (nxt ps j)).1, k + 1 + (go ps (n - (k + 1)) (nxt ps j)).2)
  rw [show k + ((go ps (n - (k + 1)) (nxt ps j)).2 + 1) = k + 1 + (go ps (n - (k + 1)) (nxt ps j)).2 by omega]
theorem mid_end {ps : List P} {i j : Int} {n k : Nat} (h : Mid ps i n j k) (hn : nxt ps j < 0) : go ps n i = (j, k) := by
  unfold Mid at h
  rw [go_end hn] at h; exact h
theorem mid_full {ps : List P} {i j : Int} {n : Nat} (h : Mid ps i n j n) : go ps n i = (j, n) := by
  unfold Mid at h
  rw [Nat.sub_self] at h; exact h
/-- the k-th voter on the way from i -/
def it (ps : List P) : Nat → Int → Int
  | 0, i => i
  | k + 1, i => nxt ps (it ps k i)
theorem it_front (ps : List P) (i : Int) : ∀ k, it ps (k + 1) i = it ps k (nxt ps i)
  | 0 => rfl
  | k + 1 => by show nxt ps (it ps (k + 1) i) = nxt ps (it ps k (nxt ps i)); rw [it_front ps i k]
theorem it_add (ps : List P) (i : Int) (a : Nat) : ∀ b, it ps (a + b) i = it ps b (it ps a i)
  | 0 => rfl
  | b + 1 => by show nxt ps (it ps (a + b) i) = nxt ps _; rw [it_add ps i a b]
/-- the way from i has at least k steps -/
def Alive (ps : List P) (i : Int) (k : Nat) : Prop := ∀ j, j < k → ¬ nxt ps (it ps j i) < 0
theorem alive_zero {ps : List P} {i : Int} : Alive ps i 0 := fun j hj => by omega
theorem alive_next {ps : List P} {i : Int} {k : Nat} (h : Alive ps i k) (hn : ¬ nxt ps (it ps k i) < 0) : Alive ps i (k + 1) := fun j hj => by
  rcases Nat.lt_or_ge j k with h' | h'
  · exact h j h'
  · rwa [show j = k by omega]
theorem go_alive (ps : List P) : ∀ (f : Nat) (i : Int), Alive ps i (go ps f i).2 ∧ it ps (go ps f i).2 i = (go ps f i).1 ∧ ((go ps f i).2 < f → nxt ps (go ps f i).1 < 0)
  | 0, i => ⟨alive_zero, rfl, fun h => by simp [go] at h⟩
  | f + 1, i => by
    by_cases h : nxt ps i < 0
    · rw [go_end h]; exact ⟨alive_zero, rfl, fun _ => h⟩
    · obtain ⟨h1, h2, h3⟩ := go_alive ps f (nxt ps i)
      rw [go_step h]
      refine ⟨fun j hj => ?_, by show it ps (_ + 1) i = _; rw [it_front]; exact h2, fun hl => h3 (by simpa using hl)⟩
      cases j with
      | zero => exact h
      | succ j => rw [it_front]; exact h1 j (by simpa using hj)
def steps (ps : List P) (i : Int) : Nat := (go ps (ps.length + 1) i).2
def holder (ps : List P) (i : Int) : Int := (go ps (ps.length + 1) i).1
/-- the way from i comes to an end -/
def VEnds (ps : List P) (i : Int) : Prop := steps ps i ≤ ps.length
theorem ends_way {ps : List P} {i : Int} (h : VEnds ps i) : Alive ps i (steps ps i) ∧ it ps (steps ps i) i = holder ps i ∧ nxt ps (holder ps i) < 0 := by
  obtain ⟨h1, h2, h3⟩ := go_alive ps (ps.length + 1) i
  exact ⟨h1, h2, h3 (by unfold VEnds steps at h; omega)⟩
theorem ends_none {ps : List P} {i : Int} (h : nxt ps i < 0) : VEnds ps i := by unfold VEnds steps; rw [go_end h]; exact Nat.zero_le _
/-- on a way that ends nobody is met twice -/
theorem ends_apart {ps : List P} {i : Int} {m a b : Nat} (hA : Alive ps i m) (hE : nxt ps (it ps m i) < 0) (hab : a < b) (hb : b ≤ m) : it ps a i ≠ it ps b i := fun h => by
  have h1 : it ps (a + (m - b)) i = it ps m i := by rw [it_add, h, ← it_add]; congr 1; omega
  have h2 := hA (a + (m - b)) (by omega)
  rw [h1] at h2; exact h2 hE
theorem pigeon : ∀ (n : Nat) (g : Nat → Nat), (∀ j, j ≤ n → g j < n) → ∃ a b, a < b ∧ b ≤ n ∧ g a = g b
  | 0, g, h => by have := h 0 (Nat.le_refl _); omega
  | n + 1, g, h => by
    by_cases hx : ∃ a, a ≤ n ∧ g a = g (n + 1)
    · obtain ⟨a, ha, he⟩ := hx
      exact ⟨a, n + 1, by omega, Nat.le_refl _, he⟩
    · have hne : ∀ a, a ≤ n → g a ≠ g (n + 1) := fun a ha he => hx ⟨a, ha, he⟩
      have hl := h (n + 1) (Nat.le_refl _)
      obtain ⟨a, b, hab, hb, he⟩ := pigeon n (fun j => if g j = n then g (n + 1) else g j) (fun j hj => by
        show (if g j = n then g (n + 1) else g j) < n
        have h1 := h j (by omega)
        have h2 := hne j hj
        split <;> omega)
      refine ⟨a, b, hab, by omega, ?_⟩
      have h1 := hne a (by omega)
      have h2 := hne b hb
      have he : (if g a = n then g (n + 1) else g a) = (if g b = n then g (n + 1) else g b) := he
      split at he <;> split at he <;> omega
theorem nxt_ix {ps : List P} {i : Int} (h : ¬ nxt ps i < 0) : ∃ (k : Nat) (X : P), ps[k]? = some X ∧ X.src = i ∧ nxt ps i = X.dst := by
  unfold nxt at h ⊢
  cases e : got (fun X => (X.src == i)) ps with
  | none => rw [e] at h; exact absurd (show (-1 : Int) < 0 by omega) h
  | some X =>
    obtain ⟨hm, hp⟩ := got_some e
    obtain ⟨k, hk, rfl⟩ := List.getElem_of_mem hm
    exact ⟨k, _, List.getElem?_eq_getElem hk, by simpa using hp, rfl⟩
/-- a way that does not end comes to a voter twice -/
theorem not_ends {ps : List P} {i : Int} (h : ¬ VEnds ps i) : ∃ a b, a < b ∧ it ps a i = it ps b i ∧ Alive ps i (ps.length + 1) ∧ b ≤ ps.length := by
  obtain ⟨h1, h2, h3⟩ := go_alive ps (ps.length + 1) i
  have hle := go_le ps (ps.length + 1) i
  have he : (go ps (ps.length + 1) i).2 = ps.length + 1 := by unfold VEnds steps at h; omega
  rw [he] at h1
  have hk : ∀ j : Nat, ∃ k : Nat, j ≤ ps.length → ∃ X : P, ps[k]? = some X ∧ X.src = it ps j i := fun j => by
    by_cases hj : j ≤ ps.length
    · obtain ⟨k, X, hX, hs, _⟩ := nxt_ix (h1 j (by omega))
      exact ⟨k, fun _ => ⟨X, hX, hs⟩⟩
    · exact ⟨0, fun h => absurd h hj⟩
  obtain ⟨g, hg⟩ := Classical.axiomOfChoice hk
  obtain ⟨a, b, hab, hb, he⟩ := pigeon ps.length g (fun j hj => by obtain ⟨X, hX, _⟩ := hg j hj; exact (List.getElem?_eq_some_iff.1 hX).1)
  obtain ⟨X, hX, hs⟩ := hg a (by omega)
  obtain ⟨Y, hY, ht⟩ := hg b hb
  rw [he, hY] at hX
  rw [Option.some.inj hX] at ht
  exact ⟨a, b, hab, by rw [← hs, ← ht], h1, hb⟩
/-- a way in a circle never ends, and two who walk it meet -/
theorem circle {ps : List P} {i : Int} (h : ¬ VEnds ps i) : (∀ k, Alive ps i k) ∧ ∃ K, 0 < K ∧ it ps K i = it ps (2 * K) i := by
  obtain ⟨a, b, hab, he, hA, hb⟩ := not_ends h
  have hp : ∀ k, a ≤ k → it ps (k + (b - a)) i = it ps k i := fun k hk => by
    rw [show k + (b - a) = b + (k - a) by omega, it_add, ← he, ← it_add]; congr 1; omega
  have hm : ∀ t k, a ≤ k → it ps (k + t * (b - a)) i = it ps k i := fun t => by
    induction t with
    | zero => intro k hk; rw [Nat.zero_mul, Nat.add_zero]
    | succ t ih => intro k hk; rw [Nat.succ_mul, ← Nat.add_assoc, hp _ (by omega)]; exact ih k hk
  refine ⟨fun k => ?_, (a + 1) * (b - a), Nat.mul_pos (by omega) (by omega), ?_⟩
  · induction k using Nat.strongRecOn with
    | _ k ih =>
      intro j hj
      rcases Nat.lt_or_ge j b with h' | h'
      · exact hA j (by omega)
      · have h2 := hp (j - (b - a)) (by omega)
        rw [show j - (b - a) + (b - a) = j by omega] at h2
        rw [h2]
        exact ih j hj (j - (b - a)) (by omega)
  · have h1 : a ≤ (a + 1) * (b - a) := Nat.le_trans (by omega) (Nat.le_mul_of_pos_right (a + 1) (by omega))
    rw [show 2 * ((a + 1) * (b - a)) = (a + 1) * (b - a) + (a + 1) * (b - a) by omega, hm _ _ h1]
-- ---------------------------------------------------------------- voters
def okP (n : Nat) (X : P) : Bool := inB X.src 0 ((n : Int) - 1) && inB X.dst 0 ((n : Int) - 1)
def POk (v : V) (i : Nat) : Prop := ∀ X, v.proxies[i]? = some X → okP v.weights.length X = true ∧ ∀ p, 0 < i → v.proxies[i - 1]? = some p → p.src < X.src
def PP (v : V) : Prop := ∀ i, POk v i
def WP (v : V) : Prop := ∀ (i : Nat) (x : Int), v.weights[i]? = some x → inB x 0 100 = true
def EP (v : V) : Prop := ∀ (i : Nat) (X : P), v.proxies[i]? = some X → VEnds v.proxies X.src
structure GP (v : V) : Prop where
  w : WP v
  p : PP v
  n : v.weights.length ≤ 12
  e : EP v
open Classical in
noncomputable def good (v : V) : Bool := decide (GP v)
open Classical in
theorem good_yes {v : V} (h : GP v) : good v = true := decide_eq_true h
open Classical in
theorem good_no {v : V} (h : ¬ GP v) : good v = false := decide_eq_false h
open Classical in
theorem good_of {v : V} (h : good v = true) : GP v := of_decide_eq_true h
theorem w_bad {v : V} {k : Nat} {x : Int} (hx : v.weights[k]? = some x) (h : inB x 0 100 = false) : good v = false := good_no fun g => by have := g.w k x hx; rw [h] at this; cases this
theorem w_next {v : V} {k : Nat} {x : Int} (hs : ∀ (i : Nat) (x : Int), i < k → v.weights[i]? = some x → inB x 0 100 = true) (hx : v.weights[k]? = some x) (h : inB x 0 100 = true) : ∀ (i : Nat) (x : Int), i < k + 1 → v.weights[i]? = some x → inB x 0 100 = true := fun i y hi hy => by
  rcases Nat.lt_or_ge i k with h' | h'
  · exact hs i y h' hy
  · obtain rfl : i = k := by omega
    rw [hx] at hy
    rwa [← Option.some.inj hy]
theorem w_all {v : V} {k : Nat} (hk : v.weights.length ≤ k) (hs : ∀ (i : Nat) (x : Int), i < k → v.weights[i]? = some x → inB x 0 100 = true) : WP v := fun i x hx => hs i x (by have := (List.getElem?_eq_some_iff.1 hx).1; omega) hx
def HeadP (v : V) (i : Nat) (t : Bool) : Prop := (t = true → good v = false) ∧ (t = false → POk v i)
theorem headP_bad {v : V} {i : Nat} (h : ¬ POk v i) : HeadP v i true := ⟨fun _ => good_no (fun g => h (g.p i)), (fun h => by cases h)⟩
theorem headP_fine {v : V} {i : Nat} (h : POk v i) : HeadP v i false := ⟨(fun h => by cases h), fun _ => h⟩
theorem p_next {v : V} {k : Nat} (hs : ∀ i, i < k → POk v i) (h : POk v k) : ∀ i, i < k + 1 → POk v i := fun i hi => by
  rcases Nat.lt_or_ge i k with h' | h'
  · exact hs i h'
  · rwa [show i = k by omega]
theorem p_all {v : V} {k : Nat} (hk : v.proxies.length ≤ k) (hs : ∀ i, i < k → POk v i) : PP v :=
  fun i X hx => hs i (by have := (List.getElem?_eq_some_iff.1 hx).1; omega) X hx
theorem e_bad {v : V} {k : Nat} {X : P} (hx : v.proxies[k]? = some X) (h : ¬ VEnds v.proxies X.src) : good v = false := good_no fun g => h (g.e k X hx)
theorem e_next {v : V} {k : Nat} {X : P} (hs : ∀ (i : Nat) (X : P), i < k → v.proxies[i]? = some X → VEnds v.proxies X.src) (hx : v.proxies[k]? = some X) (h : VEnds v.proxies X.src) : ∀ (i : Nat) (X : P), i < k + 1 → v.proxies[i]? = some X → VEnds v.proxies X.src := fun i Y hi hy => by
  rcases Nat.lt_or_ge i k with h' | h'
  · exact hs i Y h' hy
  · obtain rfl : i = k := by omega
    rw [hx] at hy
    rwa [← Option.some.inj hy]
theorem e_all {v : V} {k : Nat} (hk : v.proxies.length ≤ k) (hs : ∀ (i : Nat) (X : P), i < k → v.proxies[i]? = some X → VEnds v.proxies X.src) : EP v := fun i X hx => hs i X (by have := (List.getElem?_eq_some_iff.1 hx).1; omega) hx
/-- whose way begins with no proxy ends: so all ways end if those of the proxies do -/
theorem ends_all {v : V} (h : EP v) (i : Int) : VEnds v.proxies i := by
  by_cases hn : nxt v.proxies i < 0
  · exact ends_none hn
  · obtain ⟨k, X, hX, hs, _⟩ := nxt_ix hn
    rw [← hs]; exact h k X hX
theorem ends_ep {v : V} (hp : PP v) (h : ∀ i : Nat, i < v.weights.length → VEnds v.proxies i) : EP v := fun i X hX => by
  have h1 := (hp i X hX).1
  unfold okP at h1
  rw [Bool.and_eq_true] at h1
  have h2 := inB_yes h1.1
  have := h X.src.toNat (by omega)
  rwa [show ((X.src.toNat : Nat) : Int) = X.src by omega] at this
theorem ok_in {n : Nat} {X : P} (h : okP n X = true) : (0 ≤ X.src ∧ X.src < n) ∧ 0 ≤ X.dst ∧ X.dst < n := by
  unfold okP at h
  rw [Bool.and_eq_true] at h
  have h1 := inB_yes h.1
  have h2 := inB_yes h.2
  omega
theorem nxt_in {v : V} (hp : PP v) {i : Int} (h : ¬ nxt v.proxies i < 0) : 0 ≤ nxt v.proxies i ∧ nxt v.proxies i < v.weights.length ∧ 0 ≤ i ∧ i < v.weights.length := by
  obtain ⟨k, X, hX, hs, hd⟩ := nxt_ix h
  have := ok_in (hp k X hX).1
  omega
theorem nxt_ge {v : V} (hp : PP v) (i : Int) : -1 ≤ nxt v.proxies i := by
  unfold nxt
  cases e : got (fun X => (X.src == i)) v.proxies with
  | none => exact Int.le_refl _
  | some X =>
    obtain ⟨hm, _⟩ := got_some e
    obtain ⟨k, hk, rfl⟩ := List.getElem_of_mem hm
    have := ok_in (hp k _ (List.getElem?_eq_getElem hk)).1
    show -1 ≤ (v.proxies[k]).dst
    omega
theorem it_in {v : V} (hp : PP v) {i : Int} (h0 : 0 ≤ i) (h1 : i < v.weights.length) : ∀ k, Alive v.proxies i k → 0 ≤ it v.proxies k i ∧ it v.proxies k i < v.weights.length
  | 0, _ => ⟨h0, h1⟩
  | k + 1, h => by have := nxt_in hp (h k (by omega)); exact ⟨this.1, this.2.1⟩
theorem holder_in {v : V} (hp : PP v) (he : EP v) {i : Int} (h0 : 0 ≤ i) (h1 : i < v.weights.length) : 0 ≤ holder v.proxies i ∧ holder v.proxies i < v.weights.length := by
  obtain ⟨ha, hi, _⟩ := ends_way (ends_all he i)
  rw [← hi]; exact it_in hp h0 h1 _ ha
/-- all ahead of place j have lesser numbers -/
theorem p_less {v : V} (h : PP v) : ∀ (j : Nat) (X : P), v.proxies[j]? = some X → ∀ (i : Nat) (Y : P), i < j → v.proxies[i]? = some Y → Y.src < X.src
  | 0, X, hx, i, Y, hi, hy => by omega
  | j + 1, X, hx, i, Y, hi, hy => by
    have hj : j < v.proxies.length := by have := (List.getElem?_eq_some_iff.1 hx).1; omega
    have hp := List.getElem?_eq_getElem hj
    have h1 : (v.proxies[j]).src < X.src := (h (j + 1) X hx).2 _ (by omega) hp
    rcases Nat.lt_or_ge i j with h' | h'
    · have := p_less h j _ hp i Y h' hy
      omega
    · obtain rfl : i = j := by omega
      rw [hp] at hy
      rw [← Option.some.inj hy]; exact h1
theorem p_len {v : V} (h : PP v) : v.proxies.length ≤ v.weights.length := by
  have hlow : ∀ (j : Nat) (X : P), v.proxies[j]? = some X → (j : Int) ≤ X.src := by
    intro j
    induction j with
    | zero => intro X hx; have := ok_in (h 0 X hx).1; omega
    | succ j ih =>
      intro X hx
      have hj : j < v.proxies.length := by have := (List.getElem?_eq_some_iff.1 hx).1; omega
      have h1 := ih _ (List.getElem?_eq_getElem hj)
      have h2 := p_less h (j + 1) X hx j _ (by omega) (List.getElem?_eq_getElem hj)
      omega
  rcases Nat.lt_or_ge v.weights.length v.proxies.length with h' | h'
  · have hx := List.getElem?_eq_getElem h'
    have h1 := hlow _ _ hx
    have h2 := ok_in (h _ _ hx).1
    omega
  · exact h'
/-- the ways as they stand once k proxies are told -/
theorem nxt_take {v : V} (h : PP v) {k : Nat} {X : P} (hx : v.proxies[k]? = some X) (i : Int) : nxt (v.proxies.take (k + 1)) i = if X.src = i then X.dst else nxt (v.proxies.take k) i := by
  have hk := (List.getElem?_eq_some_iff.1 hx).1
  have ht : ∀ j : Nat, j ≤ k → (v.proxies.take (k + 1))[j]? = v.proxies[j]? := fun j hj => by rw [List.getElem?_take, if_pos (by omega)]
  by_cases he : X.src = i
  · rw [if_pos he]
    exact nxt_hit (k := k) (fun j Y hj hy => by rw [ht j (by omega)] at hy; have := p_less h k X hx j Y hj hy; simp; omega) (by rw [ht k (Nat.le_refl _)]; exact hx) (by simpa using he)
  · rw [if_neg he]
    unfold nxt
    congr 2
    rw [List.take_add_one, hx]
    show got _ (v.proxies.take k ++ [X]) = _
    unfold got
    cases e : (v.proxies.take k).findIdx? (fun X => (X.src == i)) with
    | some j =>
      obtain ⟨Y, hY, hp, hf⟩ := idx_some e
      have hj := (List.getElem?_eq_some_iff.1 hY).1
      rw [first_hit (k := j) (X := Y) (fun a y ha hy => hf a y ha (by rwa [List.getElem?_append_left (by omega)] at hy)) (by rw [List.getElem?_append_left hj]; exact hY) hp]
      show (v.proxies.take k ++ [X])[j]? = (v.proxies.take k)[j]?
      rw [List.getElem?_append_left hj]
    | none =>
      have hn := idx_none e
      rw [List.findIdx?_eq_none_iff.2 (fun x hx => by
        rcases List.mem_append.1 hx with h' | h'
        · exact hn x h'
        · obtain rfl := List.mem_singleton.1 h'; simpa using he)]
      rfl
theorem nxt_nil (i : Int) : nxt [] i = -1 := rfl
-- ---------------------------------------------------------------- held weights
def bump (l : List Int) (h : Int) (x : Int) : List Int := l.set h.toNat (l.getD h.toNat 0 + x)
def wt (v : V) (k : Nat) : Int := v.weights.getD k 0
theorem wt_at {v : V} {k : Nat} {x : Int} (hx : v.weights[k]? = some x) : wt v k = x := by unfold wt; rw [List.getD_eq_getElem?_getD, hx]; rfl
def held (v : V) : Nat → List Int
  | 0 => List.replicate v.weights.length 0
  | k + 1 => bump (held v k) (holder v.proxies k) (wt v k)
theorem held_len (v : V) : ∀ k, (held v k).length = v.weights.length
  | 0 => List.length_replicate
  | k + 1 => by show (bump _ _ _).length = _; unfold bump; rw [List.length_set]; exact held_len v k
theorem w_in {v : V} (h : WP v) (k : Nat) : 0 ≤ wt v k ∧ wt v k ≤ 100 := by
  unfold wt
  rw [List.getD_eq_getElem?_getD]
  cases e : v.weights[k]? with
  | none => exact ⟨Int.le_refl _, by show (0 : Int) ≤ 100; omega⟩
  | some x => exact inB_yes (h k x e)
theorem held_in {v : V} (h : WP v) : ∀ (k i : Nat), 0 ≤ (held v k).getD i 0 ∧ (held v k).getD i 0 ≤ 100 * k
  | 0, i => by
    show 0 ≤ (List.replicate v.weights.length (0 : Int)).getD i 0 ∧ (List.replicate v.weights.length (0 : Int)).getD i 0 ≤ 0
    rw [List.getD_eq_getElem?_getD, List.getElem?_replicate]
    split <;> simp
  | k + 1, i => by
    have h1 := held_in h k i
    have h2 := held_in h k (holder v.proxies k).toNat
    have h3 := w_in h k
    show 0 ≤ (bump _ _ _).getD i 0 ∧ (bump _ _ _).getD i 0 ≤ 100 * ((k + 1 : Nat) : Int)
    have hc : ((k + 1 : Nat) : Int) = (k : Int) + 1 := by omega
    rw [hc]
    unfold bump
    rw [List.getD_eq_getElem?_getD, List.getElem?_set]
    split
    · split
      · show 0 ≤ (held v k).getD (holder v.proxies k).toNat 0 + wt v k ∧ (held v k).getD (holder v.proxies k).toNat 0 + wt v k ≤ _; omega
      · show 0 ≤ (0 : Int) ∧ (0 : Int) ≤ _; omega
    · rw [← List.getD_eq_getElem?_getD]; omega
/-- the numbers of the voters without a proxy among the first k -/
def direct (v : V) : Nat → List Int
  | 0 => []
  | k + 1 => direct v k ++ (if nxt v.proxies k < 0 then [(k : Int)] else [])
theorem direct_len (v : V) : ∀ k, (direct v k).length ≤ k
  | 0 => Nat.le_refl _
  | k + 1 => by
    have := direct_len v k
    show (direct v k ++ _).length ≤ _
    rw [List.length_append]
    split <;> simp <;> omega
-- ---------------------------------------------------------------- where a proxy stands
def Sorted (z : List P) : Prop := ∀ (j : Nat) (X : P), z[j]? = some X → ∀ (i : Nat) (Y : P), i < j → z[i]? = some Y → Y.src < X.src
theorem sorted_of {v : V} (h : PP v) : Sorted v.proxies := p_less h
def pos (z : List P) (m : Int) : Nat := (z.findIdx? (fun X => !decide (X.src < m))).getD z.length
theorem pos_hit {z : List P} {m : Int} {k : Nat} {X : P} (h : First (fun X => !decide (X.src < m)) z k) (hx : z[k]? = some X) (hp : ¬ X.src < m) : pos z m = k := by
  unfold pos; rw [first_hit h hx (by simpa using hp)]; rfl
theorem pos_none {z : List P} {m : Int} {k : Nat} (h : First (fun X => !decide (X.src < m)) z k) (hk : z.length = k) : pos z m = k := by
  unfold pos; rw [first_none h (by omega)]; exact hk
theorem pos_first (z : List P) (m : Int) : First (fun X => !decide (X.src < m)) z (pos z m) := by
  unfold pos
  cases e : z.findIdx? (fun X => !decide (X.src < m)) with
  | none => exact fun j x _ hx => idx_none e x (List.mem_of_getElem? hx)
  | some k => exact (idx_some e).choose_spec.2.2
theorem pos_le (z : List P) (m : Int) : pos z m ≤ z.length := by
  unfold pos
  cases e : z.findIdx? (fun X => !decide (X.src < m)) with
  | none => exact Nat.le_refl _
  | some k => obtain ⟨X, hx, _⟩ := idx_some e; have := (List.getElem?_eq_some_iff.1 hx).1; show k ≤ z.length; omega
theorem pos_not {z : List P} {m : Int} {X : P} (hx : z[pos z m]? = some X) : ¬ X.src < m := by
  unfold pos at hx
  cases e : z.findIdx? (fun X => !decide (X.src < m)) with
  | none => rw [e] at hx; have := (List.getElem?_eq_some_iff.1 hx).1; simp at this
  | some k =>
    obtain ⟨Y, hy, hp, _⟩ := idx_some e
    rw [e] at hx
    have hx2 : z[k]? = some X := hx
    rw [hy] at hx2
    obtain rfl := Option.some.inj hx2
    simpa using hp
theorem pos_lt {z : List P} {m : Int} {i : Nat} {X : P} (hx : z[i]? = some X) (hi : i < pos z m) : X.src < m := by
  have := pos_first z m i X hi hx
  simpa using this
def has (z : List P) (m : Int) : Bool := match z[pos z m]? with
  | some X => X.src == m
  | none => false
theorem has_some {z : List P} {m : Int} {X : P} (hx : z[pos z m]? = some X) : has z m = (X.src == m) := by unfold has; rw [hx]
theorem has_end {z : List P} {m : Int} (h : z.length ≤ pos z m) : has z m = false := by unfold has; rw [List.getElem?_eq_none h]
theorem has_get {z : List P} {m : Int} (h : has z m = true) : ∃ X, z[pos z m]? = some X ∧ X.src = m := by
  unfold has at h
  cases e : z[pos z m]? with
  | none => rw [e] at h; cases h
  | some X => rw [e] at h; exact ⟨X, rfl, by simpa using h⟩
theorem has_lt {z : List P} {m : Int} (h : has z m = true) : pos z m < z.length := by
  obtain ⟨X, hX, _⟩ := has_get h
  exact (List.getElem?_eq_some_iff.1 hX).1
/-- in an ascending list all behind the place are greater -/
theorem behind {z : List P} {m : Int} (hs : Sorted z) {j : Nat} {X : P} (hj : pos z m < j) (hx : z[j]? = some X) : m < X.src := by
  have hp : pos z m < z.length := by have := (List.getElem?_eq_some_iff.1 hx).1; omega
  have hy := List.getElem?_eq_getElem hp
  have h1 := pos_not hy
  have h2 := hs j X hx _ _ hj hy
  omega
theorem nxt_has {v : V} (h : PP v) (m : Int) : (nxt v.proxies m < 0) ↔ has v.proxies m = false := by
  cases hh : has v.proxies m with
  | true =>
    obtain ⟨X, hX, rfl⟩ := has_get hh
    have h1 := nxt_hit (i := X.src) (k := pos v.proxies X.src) (fun j Y hj hy => by have := pos_lt hy hj; simp; omega) hX (by simp)
    have h2 := ok_in (h _ X hX).1
    rw [h1]
    constructor
    · intro h3; omega
    · intro h3; cases h3
  | false =>
    have h1 : nxt v.proxies m = -1 := by
      refine nxt_none (k := v.proxies.length) (fun j Y hj hy => ?_) (Nat.le_refl _)
      rcases Nat.lt_trichotomy j (pos v.proxies m) with h' | h' | h'
      · have := pos_lt hy h'; simp; omega
      · rw [h'] at hy; rw [has_some hy] at hh; exact hh
      · have := behind (sorted_of h) h' hy; simp; omega
    rw [h1]; simp
/-- those of others -/
def others (z : List P) (m : Int) : List P := z.filter (fun X => !(X.src == m))
theorem others_eq {z : List P} (hs : Sorted z) (m : Int) : others z m = z.take (pos z m) ++ z.drop (if has z m then pos z m + 1 else pos z m) := by
  have h1 : (z.take (pos z m)).filter (fun X => !(X.src == m)) = z.take (pos z m) := List.filter_eq_self.2 fun X hX => by
    obtain ⟨i, hi⟩ := List.getElem?_of_mem hX
    have hi2 : i < pos z m := by have := (List.getElem?_eq_some_iff.1 hi).1; rw [List.length_take] at this; omega
    rw [List.getElem?_take, if_pos hi2] at hi
    have := pos_lt hi hi2
    simp; omega
  have h2 : ∀ d, pos z m ≤ d → (d = pos z m → has z m = false) → (z.drop d).filter (fun X => !(X.src == m)) = z.drop d := fun d hd hn => List.filter_eq_self.2 fun X hX => by
    obtain ⟨i, he⟩ := List.getElem?_of_mem hX
    rw [List.getElem?_drop] at he
    rcases Nat.lt_or_ge (pos z m) (d + i) with h' | h'
    · have := behind hs h' he; simp; omega
    · have h3 : d + i = pos z m := by omega
      have h4 := hn (by omega)
      rw [h3] at he
      rw [has_some he] at h4
      simpa using h4
  unfold others
  cases hh : has z m with
  | true =>
    obtain ⟨X, hX, hm⟩ := has_get hh
    have hl := has_lt hh
    conv => lhs; rw [← List.take_append_drop (pos z m) z]
    rw [List.filter_append, h1, List.drop_eq_getElem_cons hl]
    have hX2 : z[pos z m] = X := by rw [List.getElem?_eq_getElem hl] at hX; exact Option.some.inj hX
    rw [hX2, List.filter_cons, if_neg (by simp [hm]), h2 _ (by omega) (by omega), if_pos rfl]
  | false =>
    conv => lhs; rw [← List.take_append_drop (pos z m) z]
    rw [List.filter_append, h1, h2 _ (Nat.le_refl _) (fun _ => hh), if_neg (by simp)]
theorem others_pos {z : List P} (hs : Sorted z) (m : Int) : pos (others z m) m = pos z m := by
  have hl : (z.take (pos z m)).length = pos z m := by rw [List.length_take]; have := pos_le z m; omega
  have hf : First (fun X => !decide (X.src < m)) (others z m) (pos z m) := fun j X hj hx => by
    rw [others_eq hs, List.getElem?_append_left (by omega), List.getElem?_take, if_pos hj] at hx
    have := pos_lt hx hj
    simpa using this
  rcases Nat.lt_or_ge (pos z m) (others z m).length with h' | h'
  · obtain ⟨X, hX⟩ : ∃ X, (others z m)[pos z m]? = some X := ⟨_, List.getElem?_eq_getElem h'⟩
    refine pos_hit hf hX ?_
    have hx := hX
    rw [others_eq hs, List.getElem?_append_right (by omega), hl, Nat.sub_self, List.getElem?_drop, Nat.add_zero] at hx
    cases hh : has z m with
    | true => rw [hh, if_pos rfl] at hx; have := behind (m := m) hs (by omega) hx; omega
    | false => rw [hh, if_neg (by simp)] at hx; exact pos_not hx
  · refine pos_none (z := others z m) hf ?_
    have : (others z m).length = pos z m + (z.drop (if has z m then pos z m + 1 else pos z m)).length := by rw [others_eq hs, List.length_append, hl]
    omega
theorem others_take {z : List P} (hs : Sorted z) (m : Int) : (others z m).take (pos z m) = z.take (pos z m) := by
  have hl : (z.take (pos z m)).length = pos z m := by rw [List.length_take]; have := pos_le z m; omega
  rw [others_eq hs, List.take_append_of_le_length (by omega), List.take_take, Nat.min_self]
theorem others_drop {z : List P} (hs : Sorted z) (m : Int) : (others z m).drop (pos z m) = z.drop (if has z m then pos z m + 1 else pos z m) := by
  have hl : (z.take (pos z m)).length = pos z m := by rw [List.length_take]; have := pos_le z m; omega
  rw [others_eq hs, List.drop_append, hl, Nat.sub_self, List.drop_eq_nil_of_le (by omega)]; rfl
/-- a proxy put where it belongs, instead of that of the same voter -/
def put (z : List P) (X : P) : List P := z.take (pos z X.src) ++ X :: z.drop (if has z X.src then pos z X.src + 1 else pos z X.src)
theorem put_len (z : List P) (X : P) : (put z X).length ≤ z.length + 1 := by
  have := pos_le z X.src
  unfold put
  simp only [List.length_append, List.length_cons, List.length_take, List.length_drop]
  split <;> omega
theorem put_at (z : List P) (X : P) : (put z X)[pos z X.src]? = some X := by
  unfold put
  have hl : (z.take (pos z X.src)).length = pos z X.src := by rw [List.length_take]; have := pos_le z X.src; omega
  rw [List.getElem?_append_right (by omega), hl, Nat.sub_self]; rfl
def given (v : V) (m t : Int) : V := ⟨v.weights, put v.proxies ⟨m, t⟩⟩
theorem given_bad {v : V} {m t : Int} (h : inB m 0 ((v.weights.length : Int) - 1) = false) : good (given v m t) = false := good_no fun g => by
  have h1 := (g.p _ _ (put_at v.proxies ⟨m, t⟩)).1
  unfold okP at h1
  rw [Bool.and_eq_true] at h1
  have h2 : inB m 0 ((v.weights.length : Int) - 1) = true := h1.1
  rw [h] at h2; cases h2
def revoked (v : V) (m : Int) : V := ⟨v.weights, others v.proxies m⟩
end Go.Proofs.Ytdjnaoaniokbgaa.Vo
