/- Precedences: pairs of kinds, which kinds yield to which. Plain mathematics. -/
import Derived.Test.YthhlhcojjeglkabLIntA2D
namespace Go.Proofs.Ythhlhcojjeglkab.PrecM
set_option linter.unusedVariables false
abbrev M := LIntA2.R
/-- the pair x stands before y -/
def lexB (x y : M) : Bool := decide (x.a < y.a) || (x.a == y.a && decide (x.b < y.b))
def inK (k n : Int) : Bool := decide (0 ≤ n) && decide (n < k)
def okB (k : Int) (x : M) : Bool := inK k x.a && inK k x.b && (x.a != x.b)
/-- what a valid list has at place i -/
def Step (k : Int) (z : List M) (i : Nat) : Prop := ∃ x, z[i]? = some x ∧ okB k x = true ∧ ∀ p, 0 < i → z[i - 1]? = some p → lexB p x = true
def Good (k : Int) (z : List M) : Prop := 1 ≤ k ∧ k ≤ 8 ∧ z.length ≤ 16 ∧ ∀ i, i < z.length → Step k z i
open Classical in
noncomputable def goodB (k : Int) (z : List M) : Bool := decide (Good k z)
open Classical in
theorem good_yes {k : Int} {z : List M} (h : Good k z) : goodB k z = true := decide_eq_true h
open Classical in
theorem good_no {k : Int} {z : List M} (h : ¬ Good k z) : goodB k z = false := decide_eq_false h
open Classical in
theorem good_of {k : Int} {z : List M} (h : goodB k z = true) : Good k z := of_decide_eq_true h
theorem no_step {k : Int} {z : List M} {i : Nat} (hi : i < z.length) (h : ¬ Step k z i) : goodB k z = false := good_no fun g => h (g.2.2.2 i hi)
theorem no_head {k : Int} {z : List M} (h : ¬ (1 ≤ k ∧ k ≤ 8 ∧ z.length ≤ 16)) : goodB k z = false := good_no fun g => h ⟨g.1, g.2.1, g.2.2.1⟩
theorem steps_next {k : Int} {z : List M} {i : Nat} (hs : ∀ j, j < i → Step k z j) (h : Step k z i) : ∀ j, j < i + 1 → Step k z j := fun j hj => by
  rcases Nat.lt_or_ge j i with h' | h'
  · exact hs j h'
  · rwa [show j = i by omega]
theorem in_iff {k n : Int} : inK k n = true ↔ 0 ≤ n ∧ n < k := by unfold inK; simp
/-- all kinds of the pairs are below k -/
def In (k : Int) (z : List M) : Prop := ∀ x ∈ z, (0 ≤ x.a ∧ x.a < k) ∧ (0 ≤ x.b ∧ x.b < k)
theorem Good.inr {k : Int} {z : List M} (h : Good k z) : In k z := fun x hx => by
  obtain ⟨i, hi, rfl⟩ := List.getElem_of_mem hx
  obtain ⟨y, hy, ok, _⟩ := h.2.2.2 i hi
  rw [List.getElem?_eq_getElem hi] at hy
  rw [Option.some.inj hy]
  unfold okB at ok
  rw [Bool.and_eq_true, Bool.and_eq_true] at ok
  exact ⟨in_iff.1 ok.1.1, in_iff.1 ok.1.2⟩
theorem In.sub {k : Int} {z y : List M} (h : In k z) (hs : ∀ x ∈ y, x ∈ z) : In k y := fun x hx => h x (hs x hx)
/-- one kind yields to another one -/
inductive TC (z : List M) : Int → Int → Prop
  | one {x : M} : x ∈ z → TC z x.a x.b
  | tail {c : Int} {x : M} : TC z c x.a → x ∈ z → TC z c x.b
theorem TC.trans {z : List M} {a b c : Int} (h : TC z a b) (k : TC z b c) : TC z a c := by
  induction k with
  | one hx => exact .tail h hx
  | tail _ hx ih => exact .tail (ih h) hx
theorem TC.sub {z y : List M} (hs : ∀ x ∈ y, x ∈ z) {a b : Int} (h : TC y a b) : TC z a b := by
  induction h with
  | one hx => exact .one (hs _ hx)
  | tail _ hx ih => exact .tail ih (hs _ hx)
theorem TC.inr {k : Int} {z : List M} (hz : In k z) {a b : Int} (h : TC z a b) : (0 ≤ a ∧ a < k) ∧ (0 ≤ b ∧ b < k) := by
  induction h with
  | one hx => exact hz _ hx
  | tail _ hx ih => exact ⟨ih.1, (hz _ hx).2⟩
open Classical in
noncomputable def yieldsB (z : List M) (a b : Int) : Bool := decide (TC z a b)
open Classical in
theorem yields_iff {z : List M} {a b : Int} : yieldsB z a b = true ↔ TC z a b := decide_eq_true_iff
/-- the kinds below k to which a kind yields -/
noncomputable def reach (k : Nat) (z : List M) (c : Int) : List Int := ((List.range k).map Int.ofNat).filter (fun n => yieldsB z c n)
/-- ascending lists -/
def Asc : List Int → Prop
  | [] => True
  | x :: xs => (∀ y ∈ xs, x < y) ∧ Asc xs
theorem asc_ext : ∀ {xs ys : List Int}, Asc xs → Asc ys → (∀ n, n ∈ xs ↔ n ∈ ys) → xs = ys
  | [], [], _, _, _ => rfl
  | [], y :: ys, _, _, h => by have := (h y).2 (by simp); simp at this
  | x :: xs, [], _, _, h => by have := (h x).1 (by simp); simp at this
  | x :: xs, y :: ys, hx, hy, h => by
    have e : x = y := by
      rcases List.mem_cons.1 ((h x).1 (by simp)) with e | e
      · exact e
      · rcases List.mem_cons.1 ((h y).2 (by simp)) with e' | e'
        · exact e'.symm
        · have h1 := hy.1 x e
          have h2 := hx.1 y e'
          omega
    subst e
    rw [asc_ext hx.2 hy.2 (fun n => ?_)]
    constructor
    · intro hn
      rcases List.mem_cons.1 ((h n).1 (by simp [hn])) with e | e
      · subst e; have := hx.1 n hn; omega
      · exact e
    · intro hn
      rcases List.mem_cons.1 ((h n).2 (by simp [hn])) with e | e
      · subst e; have := hy.1 n hn; omega
      · exact e
theorem asc_filter (p : Int → Bool) : ∀ {xs : List Int}, Asc xs → Asc (xs.filter p)
  | [], _ => trivial
  | x :: xs, h => by
    rw [List.filter_cons]
    split
    · exact ⟨fun y hy => h.1 y ((List.mem_filter.1 hy).1), asc_filter p h.2⟩
    · exact asc_filter p h.2
theorem asc_append : ∀ {xs : List Int} {y : Int}, Asc xs → (∀ x ∈ xs, x < y) → Asc (xs ++ [y])
  | [], y, _, _ => ⟨fun _ h => (List.not_mem_nil h).elim, trivial⟩
  | x :: xs, y, h, hl => ⟨fun z hz => by
      rcases List.mem_append.1 hz with hz | hz
      · exact h.1 z hz
      · rw [List.mem_singleton.1 hz]; exact hl x (by simp), asc_append h.2 (fun x hx => hl x (by simp [hx]))⟩
/-- the kinds below k -/
def kinds (k : Nat) : List Int := (List.range k).map Int.ofNat
theorem kinds_succ (k : Nat) : kinds (k + 1) = kinds k ++ [(k : Int)] := by unfold kinds; rw [List.range_succ, List.map_append]; rfl
theorem mem_kinds {k : Nat} {n : Int} : n ∈ kinds k ↔ 0 ≤ n ∧ n < k := by
  unfold kinds
  simp only [List.mem_map, List.mem_range]
  constructor
  · rintro ⟨a, h, rfl⟩; exact ⟨Int.natCast_nonneg a, by show (a : Int) < k; omega⟩
  · rintro ⟨h0, h1⟩; exact ⟨n.toNat, by omega, by show ((n.toNat : Nat) : Int) = n; omega⟩
theorem asc_kinds : ∀ k : Nat, Asc (kinds k)
  | 0 => trivial
  | k + 1 => by rw [kinds_succ]; exact asc_append (asc_kinds k) (fun x hx => (mem_kinds.1 hx).2)
theorem reach_asc (k : Nat) (z : List M) (c : Int) : Asc (reach k z c) := asc_filter _ (asc_kinds k)
theorem mem_reach {k : Nat} {z : List M} {c n : Int} : n ∈ reach k z c ↔ (0 ≤ n ∧ n < k) ∧ TC z c n := by
  unfold reach
  rw [List.mem_filter, yields_iff]
  exact and_congr_left fun _ => mem_kinds
/-- a filter of the kinds grows by one kind -/
theorem filter_next (p : Int → Bool) (k : Nat) : (kinds (k + 1)).filter p = (kinds k).filter p ++ (if p k then [(k : Int)] else []) := by
  rw [kinds_succ, List.filter_append, List.filter_cons, List.filter_nil]
/-- the list is closed under the pair -/
def shutAt (c : Int) (out : List Int) (x : M) : Prop := (x.a = c ∨ x.a ∈ out) → x.b ∈ out
theorem reach_all {z : List M} {c : Int} {out : List Int} (h : ∀ x ∈ z, shutAt c out x) {n : Int} (t : TC z c n) : n ∈ out := by
  induction t with
  | one hx => exact h _ hx (.inl rfl)
  | tail _ hx ih => exact h _ hx (.inr (ih h))
theorem reach_eq {k : Nat} {z : List M} {c : Int} {out : List Int} (hz : In k z) (ha : Asc out) (hs : ∀ n ∈ out, TC z c n) (hc : ∀ x ∈ z, shutAt c out x) : out = reach k z c :=
  asc_ext ha (reach_asc k z c) fun n => ⟨fun h => mem_reach.2 ⟨((hs n h).inr hz).2, hs n h⟩, fun h => reach_all hc (mem_reach.1 h).2⟩
/-- ways through kinds below m alone -/
def Via (z : List M) : Nat → Int → Int → Prop
  | 0, a, b => ∃ x ∈ z, x.a = a ∧ x.b = b
  | m + 1, a, b => Via z m a b ∨ (Via z m a m ∧ Via z m m b)
theorem Via.tc {z : List M} : ∀ {m : Nat} {a b : Int}, Via z m a b → TC z a b
  | 0, _, _, ⟨x, hx, rfl, rfl⟩ => .one hx
  | _ + 1, _, _, .inl h => Via.tc h
  | _ + 1, _, _, .inr h => (Via.tc h.1).trans (Via.tc h.2)
theorem via_join {z : List M} : ∀ {m : Nat} {a x b : Int}, 0 ≤ x → x < m → Via z m a x → Via z m x b → Via z m a b
  | 0, _, _, _, h0, h1, _, _ => by omega
  | m + 1, a, x, b, h0, h1, h, g => by
    by_cases hx : x = (m : Int)
    · subst hx
      have h2 : Via z m a m := by rcases h with h | h; exact h; exact h.1
      have g2 : Via z m m b := by rcases g with g | g; exact g; exact g.2
      exact .inr ⟨h2, g2⟩
    · have hx2 : x < (m : Int) := by omega
      rcases h with h | ⟨h1', h2'⟩ <;> rcases g with g | ⟨g1, g2⟩
      · exact .inl (via_join h0 hx2 h g)
      · exact .inr ⟨via_join h0 hx2 h g1, g2⟩
      · exact .inr ⟨h1', via_join h0 hx2 h2' g⟩
      · exact .inr ⟨h1', g2⟩
theorem via_up {z : List M} : ∀ (m : Nat) {a b : Int}, Via z 0 a b → Via z m a b
  | 0, _, _, h => h
  | m + 1, _, _, h => .inl (via_up m h)
theorem via_all {z : List M} {k : Nat} (hz : In k z) {a b : Int} (h : TC z a b) : Via z k a b := by
  induction h with
  | one hx => exact via_up k ⟨_, hx, rfl, rfl⟩
  | tail h hx ih => exact via_join ((h.inr hz).2.1) ((h.inr hz).2.2) ih (via_up k ⟨_, hx, rfl, rfl⟩)
/-- the table, over the pass of kind m, its first n places done -/
structure Pass (z : List M) (m n : Nat) (f : Nat → Nat → Bool) : Prop where
  sound : ∀ l h : Nat, f l h = true → TC z l h
  old : ∀ l h : Nat, l < 8 → h < 8 → Via z m l h → f l h = true
  new : ∀ l h : Nat, l < 8 → h < 8 → 8 * l + h < n → Via z (m + 1) l h → f l h = true
def put (f : Nat → Nat → Bool) (l h : Nat) : Nat → Nat → Bool := fun i j => if i = l ∧ j = h then true else f i j
theorem put_hit {f : Nat → Nat → Bool} {l h : Nat} : put f l h l h = true := if_pos ⟨rfl, rfl⟩
theorem put_of {f : Nat → Nat → Bool} {l h i j : Nat} (hf : f i j = true) : put f l h i j = true := by unfold put; split; rfl; exact hf
theorem put_from {f : Nat → Nat → Bool} {l h i j : Nat} (hf : put f l h i j = true) : (i = l ∧ j = h) ∨ f i j = true := by
  unfold put at hf; split at hf
  · exact .inl ‹_›
  · exact .inr hf
theorem Pass.yes {z : List M} {m n l h : Nat} {f : Nat → Nat → Bool} (p : Pass z m n f) (hn : n = 8 * l + h) (hh : h < 8) (h1 : f l m = true) (h2 : f m h = true) : Pass z m (n + 1) (put f l h) :=
  ⟨fun i j hij => by
      rcases put_from hij with ⟨rfl, rfl⟩ | hf
      · exact (p.sound _ _ h1).trans (p.sound _ _ h2)
      · exact p.sound _ _ hf,
   fun i j hi hj hv => put_of (p.old i j hi hj hv),
   fun i j hi hj hij hv => by
      by_cases e : i = l ∧ j = h
      · obtain ⟨rfl, rfl⟩ := e; exact put_hit
      · exact put_of (p.new i j hi hj (by omega) hv)⟩
theorem Pass.no {z : List M} {m n l h : Nat} {f : Nat → Nat → Bool} (p : Pass z m n f) (hn : n = 8 * l + h) (hh : h < 8) (hm : m < 8) (hl : l < 8) (h0 : ¬ (f l m = true ∧ f m h = true)) : Pass z m (n + 1) f :=
  ⟨p.sound, p.old, fun i j hi hj hij hv => by
      by_cases e : i = l ∧ j = h
      · obtain ⟨rfl, rfl⟩ := e
        rcases hv with hv | ⟨v1, v2⟩
        · exact p.old _ _ hi hj hv
        · exact absurd ⟨p.old _ _ hi hm v1, p.old _ _ hm hj v2⟩ h0
      · exact p.new i j hi hj (by omega) hv⟩
theorem Pass.step {z : List M} {m : Nat} {f : Nat → Nat → Bool} (p : Pass z m 64 f) : Pass z (m + 1) 0 f :=
  ⟨p.sound, fun l h hl hh hv => p.new l h hl hh (by omega) hv, fun _ _ _ _ h => by omega⟩
theorem Pass.done {z : List M} {f : Nat → Nat → Bool} (p : Pass z 8 0 f) (hz : In 8 z) (l h : Nat) (hl : l < 8) (hh : h < 8) : f l h = yieldsB z l h := by
  rw [Bool.eq_iff_iff, yields_iff]
  exact ⟨p.sound l h, fun t => p.old l h hl hh (via_all hz t)⟩
/-- the table of the first i pairs -/
def Pairs (z : List M) (i : Nat) (f : Nat → Nat → Bool) : Prop := ∀ l h : Nat, f l h = true ↔ ∃ x ∈ z.take i, x.a = l ∧ x.b = h
theorem pairs_zero {z : List M} : Pairs z 0 (fun _ _ => false) := fun l h => by simp
theorem pairs_next {z : List M} {i : Nat} {f : Nat → Nat → Bool} {x : M} {l h : Nat} (p : Pairs z i f) (hx : z[i]? = some x) (hl : x.a = l) (hh : x.b = h) : Pairs z (i + 1) (put f l h) := fun u v => by
  have hi : i < z.length := (List.getElem?_eq_some_iff.1 hx).1
  have e : z.take (i + 1) = z.take i ++ [x] := by
    rw [List.take_add_one, hx]; rfl
  rw [e]
  constructor
  · intro hp
    rcases put_from hp with ⟨rfl, rfl⟩ | hf
    · exact ⟨x, by simp, hl, hh⟩
    · obtain ⟨y, hy, h1⟩ := (p u v).1 hf
      exact ⟨y, List.mem_append_left _ hy, h1⟩
  · rintro ⟨y, hy, h1, h2⟩
    rcases List.mem_append.1 hy with hy | hy
    · exact put_of ((p u v).2 ⟨y, hy, h1, h2⟩)
    · rw [List.mem_singleton.1 hy] at h1 h2
      have : u = l := by omega
      have : v = h := by omega
      subst u v
      exact put_hit
theorem pairs_done {z : List M} {i : Nat} {f : Nat → Nat → Bool} (p : Pairs z i f) (hi : z.length ≤ i) : Pass z 0 0 f := by
  rw [Pairs, List.take_of_length_le hi] at p
  refine ⟨fun l h hf => ?_, fun l h _ _ hv => (p l h).2 hv, fun _ _ _ _ h => by omega⟩
  obtain ⟨x, hx, h1, h2⟩ := (p l h).1 hf
  rw [← h1, ← h2]; exact .one hx
open Classical in
/-- no kind below k yields to itself -/
noncomputable def soundB (k : Int) (z : List M) : Bool := decide (∀ c : Int, ¬ TC z c c)
open Classical in
theorem sound_yes {k : Int} {z : List M} (hz : In k z) (h : ∀ c : Nat, (c : Int) < k → ¬ TC z c c) : soundB k z = true := decide_eq_true fun c t => by
  have := (t.inr hz).1
  have e : ((c.toNat : Nat) : Int) = c := by omega
  exact h c.toNat (by omega) (by rw [e]; exact t)
open Classical in
theorem sound_no {k : Int} {z : List M} {c : Int} (h : TC z c c) : soundB k z = false := decide_eq_false fun g => g c h
open Classical in
theorem sound_of {k : Int} {z : List M} (h : soundB k z = true) : ∀ c : Int, ¬ TC z c c := of_decide_eq_true h
end Go.Proofs.Ythhlhcojjeglkab.PrecM
