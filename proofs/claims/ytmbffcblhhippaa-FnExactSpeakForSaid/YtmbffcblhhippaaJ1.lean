/- The data of the claim: records in memory, words, slices of the call's own, the cursor: texts joined by program. No condition. -/
import Derived.Test.YtmbffcblhhippaaRows
import Derived.WalkKit
import Derived.ProofKit
import Derived.OpenShut
import Derived.WalkSpells
import Derived.WalkSmall
import Derived.Lib.Hide
import Derived.Lib.QuietBelow
import Derived.Deep.QuietTactic
import Derived.Deep.Fields
import Derived.BigQuiet
import Derived.IntWalk
import Derived.WalkLawsBesides
import Derived.Laws.IdiomCopy
import Derived.Deep.Slices
import Derived.ChangeSame
import Derived.Deep.RegionHeld3
import Derived.Maps.AppendAt
import Derived.Deep.AppendLies
import Derived.Deep.DrawnRows
namespace Go.Proofs.Ytmbffcblhhippaa.Frame
open Go.ChangeShapes Go.WideShapes Go.ChangeAt Go.RowKit
theorem own : ownKnob Try.prog.godebug = none := by kernel_rfl
theorem laidOut : laidOutB Try.prog = true := by kernel_rfl
/-- A slice of integers that came in: nil, or a row of cap cells that hold the numbers zs (all of them, up to the capacity). -/
def IsRow (k : IntKind) (w : World) (a : Option Addr) (len cap : Nat) (zs : List Int) : Prop :=
  (a = none ∧ len = 0 ∧ cap = 0 ∧ zs = []) ∨
  ∃ x, a = some x ∧ len ≤ cap ∧ cap ≤ maxLen ∧ zs.length = cap ∧ (∀ i, i < zs.length → w.cell? (x.add i) = some (.int k (zs.getD i 0))) ∧ ∀ n ∈ zs, (Lit.int k n).wf = true
/-- A slice of strings that came in. -/
def IsStrs (w : World) (a : Option Addr) (len cap : Nat) (ss : List ByteArray) : Prop :=
  (a = none ∧ len = 0 ∧ cap = 0 ∧ ss = []) ∨
  ∃ x, a = some x ∧ len ≤ cap ∧ cap ≤ maxLen ∧ ss.length = cap ∧ (∀ i, i < ss.length → w.cell? (x.add i) = some (.string (ss.getD i ByteArray.empty))) ∧ ∀ s ∈ ss, s.size ≤ maxLen
end Go.Proofs.Ytmbffcblhhippaa.Frame
namespace Go.Proofs.Ytmbffcblhhippaa.Bs
open Go.RowKit
set_option linter.unusedVariables false

/-- nothing has turned but the blocks from A up to B; blocks may have been laid -/
structure Apart (A B : Nat) (w w' : World) : Prop where
  os : w'.os = w.os
  tape : w'.tape = w.tape
  output : w'.output = w.output
  size : w.heap.size ≤ w'.heap.size
  block : ∀ k, k < w.heap.size → (k < A ∨ B ≤ k) → w'.heap[k]? = w.heap[k]?
theorem Apart.refl (A B : Nat) (w : World) : Apart A B w w := ⟨rfl, rfl, rfl, Nat.le_refl _, fun _ _ _ => rfl⟩
theorem Apart.trans {A B : Nat} {a b c : World} (h : Apart A B a b) (k : Apart A B b c) : Apart A B a c :=
  ⟨k.os.trans h.os, k.tape.trans h.tape, k.output.trans h.output, Nat.le_trans h.size k.size, fun i hi hn => (k.block i (Nat.lt_of_lt_of_le hi h.size) hn).trans (h.block i hi hn)⟩
theorem Apart.of_below {A B : Nat} {a b : World} (h : Below a.heap.size a b) : Apart A B a b := ⟨h.os, h.tape, h.output, h.size, fun j hj _ => h.block j hj⟩
theorem Apart.of_below_low {A : Nat} {a b : World} (h : Below A a b) : Apart A a.heap.size a b := ⟨h.os, h.tape, h.output, h.size, fun j hj hn => h.block j (by omega)⟩
theorem Apart.wide {A B A' B' : Nat} {a b : World} (h : Apart A B a b) (hA : A' ≤ A) (hB : B ≤ B') : Apart A' B' a b := ⟨h.os, h.tape, h.output, h.size, fun j hj hn => h.block j hj (by omega)⟩
theorem Apart.below {A B B' : Nat} {a b : World} (h : Apart A B a b) (hB : B' ≤ A) (hz : B' ≤ a.heap.size) : Below B' a b :=
  ⟨h.os, h.tape, h.output, h.size, fun k hk => h.block k (by omega) (.inl (by omega))⟩
theorem Apart.set {A B : Nat} {a b : World} (h : Apart A B a b) {p : Addr} (hA : A ≤ p.block) (hB : p.block < B) (v : Value) : Apart A B a (b.setCell p v) :=
  h.trans ⟨rfl, rfl, rfl, by simp, fun k _ hk => heap_setCell_other b p k v (by omega)⟩
theorem Apart.alloc {A B : Nat} {a b : World} (h : Apart A B a b) (o : Obj) : Apart A B a (b.alloc o) := h.trans (Apart.of_below ((Below.refl _ _).alloc (Nat.le_refl _) o))
theorem Apart.on {A B : Nat} {a b c : World} (h : Apart A B a b) (hb : Below b.heap.size b c) : Apart A B a c := h.trans (Apart.of_below hb)

/-- a fact that hangs on the blocks from A up to B alone -/
structure Loc (A B : Nat) (P : World → Prop) (w : World) : Prop where
  le : B ≤ w.heap.size
  all : ∀ w' : World, B ≤ w'.heap.size → (∀ j, A ≤ j → j < B → w'.heap[j]? = w.heap[j]?) → P w'
section
variable {A B : Nat} {P : World → Prop} {w w' : World}
theorem Loc.now (h : Loc A B P w) : P w := h.all w h.le fun _ _ _ => rfl
theorem Loc.same (h : Loc A B P w) (hz : B ≤ w'.heap.size) (hs : ∀ j, A ≤ j → j < B → w'.heap[j]? = w.heap[j]?) : Loc A B P w' :=
  ⟨hz, fun w2 h2 hs2 => h.all w2 h2 fun j h1 h3 => (hs2 j h1 h3).trans (hs j h1 h3)⟩
theorem Loc.kept (h : Loc A B P w) (hb : Below w.heap.size w w') : Loc A B P w' :=
  h.same (Nat.le_trans h.le hb.size) fun j _ hj => hb.block j (Nat.lt_of_lt_of_le hj h.le)
theorem Loc.under {C : Nat} (h : Loc A B P w) (hb : Below C w w') (hC : B ≤ C) : Loc A B P w' :=
  h.same (Nat.le_trans h.le hb.size) fun j _ hj => hb.block j (by omega)
theorem Loc.apart {A' B' : Nat} (h : Loc A B P w) (ha : Apart A' B' w w') (hd : B ≤ A' ∨ B' ≤ A) : Loc A B P w' :=
  h.same (Nat.le_trans h.le ha.size) fun j h1 h2 => ha.block j (by have := h.le; omega) (by omega)
theorem Loc.alloc (h : Loc A B P w) (o : Obj) : Loc A B P (w.alloc o) := h.kept ((Below.refl _ _).alloc (Nat.le_refl _) o)
theorem Loc.imp {Q : World → Prop} (h : Loc A B P w) (hi : ∀ W, P W → Q W) : Loc A B Q w := ⟨h.le, fun w2 h2 hs => hi _ (h.all w2 h2 hs)⟩
end

theorem cell_lt {w : World} {p : Addr} {v : Value} (h : w.cell? p = some v) : p.block < w.heap.size := by
  rcases Nat.lt_or_ge p.block w.heap.size with h' | h'
  · exact h'
  · simp [World.cell?, Array.getElem?_eq_none h'] at h

/-- a type of records: how many cells, which values -/
structure Rec (α : Type) where
  n : Nat
  vals : α → List Value
  len : ∀ a, (vals a).length = n
  pos : 0 < n
  one : ∀ a, ∀ u ∈ vals a, u.oneCell' = true
section
variable {α : Type} (T : Rec α)
def flat (xs : List α) : List Value := xs.flatMap T.vals
theorem flat_cons (x : α) (xs : List α) : flat T (x :: xs) = T.vals x ++ flat T xs := rfl
theorem flat_len : ∀ xs : List α, (flat T xs).length = xs.length * T.n
  | [] => by simp [flat]
  | x :: xs => by rw [flat_cons, List.length_append, flat_len xs, List.length_cons, T.len, Nat.add_mul, Nat.one_mul, Nat.add_comm]
theorem flat_append (xs ys : List α) : flat T (xs ++ ys) = flat T xs ++ flat T ys := by simp [flat]
theorem flat_one (xs : List α) : ∀ u ∈ flat T xs, u.oneCell' = true := by
  intro u hu
  obtain ⟨r, _, hr⟩ := List.mem_flatMap.1 hu
  exact T.one r u hr
theorem flat_at : ∀ (xs : List α) (k j : Nat) (r : α), xs[k]? = some r → j < T.n → (flat T xs)[k * T.n + j]? = (T.vals r)[j]?
  | [], k, j, r, h, _ => by simp at h
  | x :: xs, 0, j, r, h, hj => by
    simp only [List.getElem?_cons_zero, Option.some.injEq] at h
    subst h
    rw [flat_cons, Nat.zero_mul, Nat.zero_add, List.getElem?_append_left (by rw [T.len]; exact hj)]
  | x :: xs, k + 1, j, r, h, hj => by
    rw [List.getElem?_cons_succ] at h
    have e0 : (k + 1) * T.n = k * T.n + T.n := Nat.succ_mul k T.n
    rw [flat_cons, List.getElem?_append_right (by rw [T.len, e0]; omega), T.len]
    have e : (k + 1) * T.n + j - T.n = k * T.n + j := by rw [e0]; omega
    rw [e]
    exact flat_at xs k j r h hj
theorem flat_set : ∀ (ys : List α) (k j : Nat) (r r' : α) (v : Value), ys[k]? = some r → j < T.n → T.vals r' = (T.vals r).set j v → (flat T ys).set (k * T.n + j) v = flat T (ys.set k r')
  | [], k, j, r, r', v, h, _, _ => by simp at h
  | x :: ys, 0, j, r, r', v, h, hj, hv => by
    simp only [List.getElem?_cons_zero, Option.some.injEq] at h
    subst h
    show (T.vals x ++ flat T ys).set (0 * T.n + j) v = T.vals r' ++ flat T ys
    rw [Nat.zero_mul, Nat.zero_add, List.set_append_left _ _ (by rw [T.len]; exact hj), hv]
  | x :: ys, k + 1, j, r, r', v, h, hj, hv => by
    rw [List.getElem?_cons_succ] at h
    show (T.vals x ++ flat T ys).set ((k + 1) * T.n + j) v = T.vals x ++ flat T (ys.set k r')
    have e0 : (k + 1) * T.n = k * T.n + T.n := Nat.succ_mul k T.n
    rw [List.set_append_right _ _ (by rw [T.len, e0]; omega), T.len]
    have e : (k + 1) * T.n + j - T.n = k * T.n + j := by rw [e0]; omega
    rw [e, flat_set ys k j r r' v h hj hv]
/-- the cells of a record at a place -/
def At (w : World) (b p : Nat) (r : α) : Prop := ∀ j v, (T.vals r)[j]? = some v → w.cell? ⟨b, p + j, none⟩ = some v
theorem At.keep {w w' : World} {b p : Nat} {r : α} (h : At T w b p r) (hk : ∀ o, w'.cell? ⟨b, o, none⟩ = w.cell? ⟨b, o, none⟩) : At T w' b p r := fun j v hv => by rw [hk]; exact h j v hv
theorem At.below {w w' : World} {b p B : Nat} {r : α} (h : At T w b p r) (hb : Below B w w') (hl : b < B) : At T w' b p r := h.keep T fun o => hb.cell (p := ⟨b, o, none⟩) hl
/-- a slice of records lies in memory -/
def RowsAt (w : World) (a : Option Addr) (c : Nat) (xs : List α) : Prop :=
  xs.length ≤ c ∧ c ≤ maxLen ∧ (xs = [] ∨ ∃ b o, a = some ⟨b, o, none⟩ ∧ b < w.heap.size ∧ ∀ j r, xs[j]? = some r → At T w b (o + j * T.n) r)
theorem RowsAt.below {w w' : World} {a : Option Addr} {c : Nat} {xs : List α} (h : RowsAt T w a c xs) (hb : Below w.heap.size w w') : RowsAt T w' a c xs := by
  obtain ⟨h1, h2, h3⟩ := h
  refine ⟨h1, h2, ?_⟩
  rcases h3 with h3 | ⟨b, o, rfl, hlt, hc⟩
  · exact .inl h3
  · exact .inr ⟨b, o, rfl, Nat.lt_of_lt_of_le hlt hb.size, fun j r hr => (hc j r hr).below T hb hlt⟩
/-- the record at a place: where it lies -/
theorem RowsAt.at_ {w : World} {a : Option Addr} {c : Nat} {xs : List α} (h : RowsAt T w a c xs) : Hid (∀ j r, xs[j]? = some r → ∃ b o, a = some ⟨b, o, none⟩ ∧ b < w.heap.size ∧ At T w b (o + j * T.n) r) := by
  obtain ⟨_, _, h3⟩ := h
  intro j r hr
  rcases h3 with rfl | ⟨b, o, rfl, hl, hc⟩
  · simp at hr
  · exact ⟨b, o, rfl, hl, hc j r hr⟩
/-- a slice value that reads as these records -/
def Is (w : World) (v : Value) (xs : List α) : Prop := ∃ a c, v = .slice a xs.length c ∧ RowsAt T w a c xs
theorem Is.below {w w' : World} {v : Value} {xs : List α} (h : Is T w v xs) (hb : Below w.heap.size w w') : Is T w' v xs := by
  obtain ⟨a, c, e, h⟩ := h
  exact ⟨a, c, e, h.below T hb⟩
/-- a slice value, not nil, that reads as these records -/
def IsS (w : World) (v : Value) (xs : List α) : Prop := ∃ b o c, v = .slice (some ⟨b, o, none⟩) xs.length c ∧ b < w.heap.size ∧ xs.length ≤ c ∧ c ≤ maxLen ∧ ∀ j r, xs[j]? = some r → At T w b (o + j * T.n) r
theorem IsS.is {w : World} {v : Value} {xs : List α} (h : IsS T w v xs) : Is T w v xs := by
  obtain ⟨b, o, c, e, hb, h1, h2, h3⟩ := h
  exact ⟨_, c, e, h1, h2, .inr ⟨b, o, rfl, hb, h3⟩⟩
/-- all cells of a slice, one by one -/
theorem flat_cells {w : World} {b o : Nat} {xs : List α} (h : ∀ j r, xs[j]? = some r → At T w b (o + j * T.n) r) : ∀ j u, (flat T xs)[j]? = some u → w.cell? ⟨b, o + j, none⟩ = some u := by
  intro j u hu
  have hj : j < xs.length * T.n := by rw [← flat_len]; exact (List.getElem?_eq_some_iff.1 hu).1
  have hp := T.pos
  have hx : j / T.n < xs.length := (Nat.div_lt_iff_lt_mul hp).2 hj
  have hr := List.getElem?_eq_getElem hx
  have hm : j % T.n < T.n := Nat.mod_lt _ hp
  have hf := flat_at T xs (j / T.n) (j % T.n) _ hr hm
  have e : j / T.n * T.n + j % T.n = j := Nat.div_add_mod' j T.n
  rw [e, hu] at hf
  have := h _ _ hr (j % T.n) u hf.symm
  rwa [show o + j / T.n * T.n + j % T.n = o + j by rw [Nat.add_assoc, e]] at this
/-- a slice value of the call's own, its block at A or above, that holds these records -/
def Own (E : TypeId) (w : World) (A : Nat) (v : Value) (xs : List α) : Prop := w.ownsRow A E T.n v xs.length (flat T xs)
variable {T} {E : TypeId} {w w' : World} {A B : Nat} {v : Value} {xs : List α}
theorem Own.shape (h : Own T E w A v xs) : (v = .slice none 0 0 ∧ xs = []) ∨ ∃ g cap, v = .slice (some ⟨g, 0, none⟩) xs.length cap ∧ A ≤ g ∧ g < w.heap.size ∧ xs.length ≤ cap ∧ cap ≤ maxLen := by
  rcases h.2 with ⟨h', hz⟩ | ⟨g, cap, cur, h', hbg, hg, hnc, hcm, _, _⟩
  · exact .inl ⟨h', List.eq_nil_of_length_eq_zero hz⟩
  · exact .inr ⟨g, cap, h', hbg, (Array.getElem?_eq_some_iff.1 hg).1, hnc, hcm⟩
theorem Own.same (h : Own T E w A v xs) (hs : ∀ k, v.ownBlock = some k → w'.heap[k]? = w.heap[k]?) : Own T E w' A v xs := by
  refine ⟨h.1, ?_⟩
  rcases h.2 with hn | ⟨g, cap, cur, rfl, hbg, hgg, rest⟩
  · exact .inl hn
  · refine .inr ⟨g, cap, cur, rfl, hbg, ?_, rest⟩
    rw [hs g rfl]
    exact hgg
theorem Own.kept (h : Own T E w A v xs) (hb : Below w.heap.size w w') : Own T E w' A v xs := h.same fun k hk => hb.block k (h.lt k hk).2
theorem Own.low {A' : Nat} (h : Own T E w A v xs) (hA : A' ≤ A) : Own T E w A' v xs := by
  refine ⟨h.1, ?_⟩
  rcases h.2 with hn | ⟨g, cap, cur, rfl, hbg, rest⟩
  · exact .inl hn
  · exact .inr ⟨g, cap, cur, rfl, Nat.le_trans hA hbg, rest⟩
theorem Own.alloc (h : Own T E w A v xs) (o : Obj) : Own T E (w.alloc o) A v xs := h.kept ((Below.refl _ _).alloc (Nat.le_refl _) o)
/-- an empty slice that was just built -/
theorem Own.start (h : A ≤ w.heap.size) : Own T E (w.alloc (.cells #[] E)) A (.slice (some ⟨w.heap.size, 0, none⟩) 0 0) [] := by
  refine ⟨by simp [flat], .inr ⟨w.heap.size, 0, #[], rfl, h, ?_, Nat.le_refl _, Nat.zero_le _, by simp, by simp [flat]⟩⟩
  show (w.heap.push _)[w.heap.size]? = _
  rw [Array.getElem?_push, if_pos rfl]
theorem Own.nil : Own T E w A (.slice none 0 0) [] := ⟨by simp [flat], .inl ⟨rfl, rfl⟩⟩
theorem Own.is (h : Own T E w A v xs) : Is T w v xs := by
  rcases h.shape with ⟨rfl, rfl⟩ | ⟨g, cap, rfl, _, hlt, hc, hm⟩
  · exact ⟨none, 0, rfl, Nat.le_refl _, Nat.zero_le _, .inl rfl⟩
  · refine ⟨_, cap, rfl, hc, hm, .inr ⟨g, 0, rfl, hlt, fun j r hr i u hu => ?_⟩⟩
    have hi : i < T.n := by rw [← T.len r]; exact (List.getElem?_eq_some_iff.1 hu).1
    have hcell := World.ownsRow.cells h (g := g) rfl (j * T.n + i) u (by rw [flat_at T xs j i r hr hi]; exact hu)
    rw [Go.WideShapes.add_plain] at hcell
    rw [show 0 + j * T.n + i = 0 + (j * T.n + i) by omega]
    exact hcell
theorem Own.isS (h : Own T E w A v xs) (hv : ∃ g, v.ownBlock = some g) : IsS T w v xs := by
  obtain ⟨g0, hg0⟩ := hv
  rcases h.shape with ⟨rfl, rfl⟩ | ⟨g, cap, rfl, _, hlt, hc, hm⟩
  · cases hg0
  · refine ⟨g, 0, cap, rfl, hlt, hc, hm, fun j r hr i u hu => ?_⟩
    have hi : i < T.n := by rw [← T.len r]; exact (List.getElem?_eq_some_iff.1 hu).1
    have hcell := World.ownsRow.cells h (g := g) rfl (j * T.n + i) u (by rw [flat_at T xs j i r hr hi]; exact hu)
    rw [Go.WideShapes.add_plain] at hcell
    rw [show 0 + j * T.n + i = 0 + (j * T.n + i) by omega]
    exact hcell
theorem Own.rows {g n cap : Nat} (hn : xs.length = n) (h : Own T E w A (.slice (some ⟨g, 0, none⟩) n cap) xs) : RowsAt T w (some ⟨g, 0, none⟩) cap xs := by
  obtain ⟨a, c, e, hr⟩ := h.is
  simp only [Value.slice.injEq] at e
  obtain ⟨rfl, _, rfl⟩ := e
  exact hr
/-- the cells of a record of the row -/
theorem Own.at_ {g n cap : Nat} (h : Own T E w A (.slice (some ⟨g, 0, none⟩) n cap) xs) (k : Nat) (r : α) (hr : xs[k]? = some r) : At T w g (k * T.n) r := fun i u hu => by
  have hi : i < T.n := by rw [← T.len r]; exact (List.getElem?_eq_some_iff.1 hu).1
  have hcell := World.ownsRow.cells h (g := g) rfl (k * T.n + i) u (by rw [flat_at T xs k i r hr hi]; exact hu)
  rw [Go.WideShapes.add_plain] at hcell
  rw [show k * T.n + i = 0 + (k * T.n + i) by omega]
  exact hcell
theorem Own.frozen {g n cap : Nat} (hn : xs.length = n) (h : Own T E w A (.slice (some ⟨g, 0, none⟩) n cap) xs) (o : Nat) : w.frozen? ⟨g, o, none⟩ = false := by
  subst hn
  exact World.ownsRow.frozenAt h o
/-- a store into one cell -/
theorem Own.put {g n cap : Nat} (hn : xs.length = n) (h : Own T E w A (.slice (some ⟨g, 0, none⟩) n cap) xs) (k j : Nat) (r r' : α) (u : Value) (hr : xs[k]? = some r) (hj : j < T.n) (hv : T.vals r' = (T.vals r).set j u) :
    Own T E (w.setCell ⟨g, k * T.n + j, none⟩ u) A (.slice (some ⟨g, 0, none⟩) n cap) (xs.set k r') := by
  subst hn
  unfold Own
  rw [← flat_set T xs k j r r' u hr hj hv, List.length_set]
  exact (World.ownsRow.stored h (k * T.n + j) u).1
/-- made by an append of one record that lies somewhere -/
theorem Own.next {n : Nat} {news : List α} (h : w.ownsRow A E T.n v (xs.length + news.length) (flat T xs ++ flat T news)) : Own T E w A v (xs ++ news) := by
  unfold Own
  rw [List.length_append, flat_append]
  exact h
/-- an owned value whose block lies between A and B -/
def OwnB (T : Rec α) (E : TypeId) (A B : Nat) (v : Value) (xs : List α) (w : World) : Prop := Own T E w A v xs ∧ ∀ k, v.ownBlock = some k → k < B
theorem Own.loc (h : Own T E w A v xs) : Loc A w.heap.size (OwnB T E A w.heap.size v xs) w :=
  ⟨Nat.le_refl _, fun w' hz hs => ⟨h.same fun k hk => hs k (h.lt k hk).1 (h.lt k hk).2, fun k hk => (h.lt k hk).2⟩⟩
theorem OwnB.loc (h : OwnB T E A B v xs w) (hB : B ≤ w.heap.size) : Loc A B (OwnB T E A B v xs) w :=
  ⟨hB, fun w' hz hs => ⟨h.1.same fun k hk => hs k (h.1.lt k hk).1 (h.2 k hk), h.2⟩⟩
/-- what came in -/
theorem Is.loc (h : Is T w v xs) : Loc 0 w.heap.size (fun W => Is T W v xs) w := by
  refine ⟨Nat.le_refl _, fun w' hz hs => ?_⟩
  obtain ⟨a, c, e, h1, h2, h3⟩ := h
  refine ⟨a, c, e, h1, h2, ?_⟩
  rcases h3 with h3 | ⟨b, o, rfl, hlt, hc⟩
  · exact .inl h3
  · refine .inr ⟨b, o, rfl, Nat.lt_of_lt_of_le hlt hz, fun j r hr => (hc j r hr).keep T fun p => ?_⟩
    exact World.cell?_of_block (a := ⟨b, p, none⟩) (hs b (Nat.zero_le _) hlt)
end
theorem boxLoc {α : Type} (T : Rec α) {w : World} {o : Obj} {r : α} (h : At T (w.alloc o) w.heap.size 0 r) : Loc w.heap.size (w.heap.size + 1) (fun W => At T W w.heap.size 0 r) (w.alloc o) :=
  ⟨by simp, fun w' hz hs => h.keep T fun p => World.cell?_of_block (a := ⟨w.heap.size, p, none⟩) (hs _ (Nat.le_refl _) (Nat.lt_succ_self _))⟩
/-- an append to a slice of the call's own, as a step of a region that draws its order -/
theorem step_append {P : Program} {w : World} {ops : Array Oper} {o : Oper} {a : Act} {K : Act → World → Prop} {Q : Exit → Act → World → Prop} {E : Prop} (hgd : o.guard = none) (s x : Operand) (t : TypeId)
    (ho : o.op = .call { callee := .builtin .append, args := #[s, x], argTypes := #[t, t] })
    (base : Nat) (e : TypeId) (i : TypeInfo) (z : Value) (size bytes : Nat) (ht : P.underlying t = some (.slice e)) (hi : P.info? e = some i) (hz : i.zero = some z)
    (hsize : i.size = size) (hby : i.bytes = bytes) (hzs : z.cells.size = size) (hsz : 0 < size)
    (v : Value) (n : Nat) (xs : List Value) (hs : a.eval s = v) (hown : w.ownsRow base e size v n xs)
    (ad : Addr) (m c : Nat) (news : List Value) (hx : a.eval x = .slice (some ad) m c) (hl : news.length = m * size) (hnews : ∀ j u, news[j]? = some u → w.cell? (ad.add j) = some u) (h1 : ∀ u ∈ news, u.oneCell' = true)
    (h63 : n + m ≤ maxLen) (hbytes : (n + m) * bytes ≤ 140737488355328) (hbase : base ≤ w.heap.size)
    (h : ∀ v' w', w'.ownsRow base e size v' (n + m) (xs ++ news) → w.grownBy w' v.ownBlock → K (a.put o.dst v') w') :
    if Region.wanted o (yielded ops a.tmps) = true then Oper.wp P o a w K Q else E := by
  have hw : Region.wanted o (yielded ops a.tmps) = true := by simp [Region.wanted, hgd]
  rw [if_pos hw]
  exact wp_append_own w s x t ho base e i z size bytes ht hi hz hsize hby hzs hsz v n xs hs hown ad m c news hx hl hnews h1 h63 hbytes hbase fun v' w' h2 h3 _ => h v' w' h2 h3
theorem ret_true : Ending.returned (.bool true) = .returned (.bool true) := rfl
/-- a callee that leaves the world alone, met in a quiet region -/
theorem quiet_eq {P : Program} {f : FuncId} {args : Array Value} {w : World} {n : Nat} {v : Value}
    (h : Calls P f args (w.drewN n) fun e w' => e = .returned v ∧ w.drewN n = w') : Calls P f args (w.drewN n) fun e w'' => e = .returned v ∧ ∃ m, w'' = w.drewN m :=
  h.mono fun _ _ ⟨he, hm⟩ => ⟨he, n, hm.symm⟩
/-- the same in a region where memory may be made -/
theorem regrown_eq {P : Program} {f : FuncId} {args : Array Value} {w : World} {d : Nat} {os : Array Obj} {v : Value}
    (h : Calls P f args (Sort.grow (redrawn w d) os) fun e w' => e = .returned v ∧ Sort.grow (redrawn w d) os = w') : Calls P f args (Sort.grow (redrawn w d) os) fun e w'' => e = .returned v ∧ ∃ p : Regrown, w'' = Sort.grow (redrawn w p.d) p.os :=
  Calls.regrown_of (h.mono fun _ _ ⟨he, hm⟩ => ⟨he, by rw [← hm]; exact Below.refl _ _⟩)
theorem drawn_below (w : World) (n : Nat) : Below w.heap.size w (w.drewN n) := ⟨rfl, rfl, rfl, Nat.le_refl _, fun _ _ => rfl⟩
/-- the head of a slice, and its rest -/
theorem IsS.take {α : Type} (T : Rec α) {w : World} {b o n c k : Nat} {z : List α} (h : IsS T w (.slice (some ⟨b, o, none⟩) n c) z) (hk : k ≤ n) : IsS T w (.slice (some ⟨b, o, none⟩) k c) (z.take k) := by
  obtain ⟨b', o', c', e, hbl, h1, h2, h3⟩ := h
  simp only [Value.slice.injEq, Option.some.injEq, Addr.mk.injEq, and_true] at e
  obtain ⟨⟨rfl, rfl⟩, rfl, rfl⟩ := e
  refine ⟨b, o, c, by rw [List.length_take, Nat.min_eq_left hk], hbl, by rw [List.length_take, Nat.min_eq_left hk]; omega, h2, fun i r hr => h3 i r ?_⟩
  rw [List.getElem?_take] at hr
  split at hr
  · exact hr
  · cases hr
theorem IsS.drop {α : Type} (T : Rec α) {w : World} {b o n c k : Nat} {z : List α} (t : Option Addr) (ht : t = if c = k then some ⟨b, o, none⟩ else some ⟨b, o + k * T.n, none⟩) (h : IsS T w (.slice (some ⟨b, o, none⟩) n c) z) (hk : k ≤ n) (m3 c3 : Nat) (hm3 : m3 = n - k) (hc3 : c3 = c - k) : IsS T w (.slice t m3 c3) (z.drop k) := by
  subst hm3 hc3
  obtain ⟨b', o', c', e, hbl, h1, h2, h3⟩ := h
  simp only [Value.slice.injEq, Option.some.injEq, Addr.mk.injEq, and_true] at e
  obtain ⟨⟨rfl, rfl⟩, rfl, rfl⟩ := e
  by_cases hck : c = k
  · rw [if_pos hck] at ht
    subst ht
    refine ⟨b, o, c - k, by rw [List.length_drop], hbl, by rw [List.length_drop]; omega, by unfold maxLen at h2 ⊢; omega, fun i r hr => ?_⟩
    rw [List.drop_eq_nil_of_le (by omega)] at hr
    simp at hr
  · rw [if_neg hck] at ht
    subst ht
    refine ⟨b, o + k * T.n, c - k, by rw [List.length_drop], hbl, by rw [List.length_drop]; omega, by unfold maxLen at h2 ⊢; omega, fun i r hr => ?_⟩
    have h := h3 (k + i) r (by rw [List.getElem?_drop] at hr; exact hr)
    rwa [Nat.add_mul, ← Nat.add_assoc] at h
theorem IsS.below {α : Type} (T : Rec α) {w w' : World} {v : Value} {z : List α} (h : IsS T w v z) (hb : Below w.heap.size w w') : IsS T w' v z := by
  obtain ⟨b, o, c, e, hbl, h1, h2, h3⟩ := h
  exact ⟨b, o, c, e, Nat.lt_of_lt_of_le hbl hb.size, h1, h2, fun j r hr => (h3 j r hr).below T hb hbl⟩
/-- a slice of one record that lies at a block's head -/
theorem IsS.unit {α : Type} (T : Rec α) {w : World} {g : Nat} {x : α} (hg : g < w.heap.size) (h : At T w g 0 x) : IsS T w (.slice (some ⟨g, 0, none⟩) 1 1) [x] := by
  refine ⟨g, 0, 1, rfl, hg, Nat.le_refl _, by unfold maxLen; omega, fun i r hr => ?_⟩
  match i, hr with
  | 0, hr =>
    simp only [List.getElem?_cons_zero, Option.some.injEq] at hr
    subst hr
    rw [Nat.zero_mul]
    exact h
  | i + 1, hr => simp at hr
theorem alloc_two (W : World) (o1 o2 : Obj) : ((W.alloc o1).alloc o2).heap[W.heap.size + 1]? = some o2 := by simpa using heap_alloc_new (W.alloc o1) o2
theorem alloc_old (W : World) (o1 o2 : Obj) : ((W.alloc o1).alloc o2).heap[W.heap.size]? = some o1 := (Below.heap_alloc _ _ _ (by simp)).trans (heap_alloc_new _ _)
theorem ite_slice (c : Prop) [Decidable c] (x y : Addr) (n m : Nat) : Value.slice (if c then some x else some y) n m = .slice (some (if c then x else y)) n m := by split <;> rfl
theorem own_in {w : World} {A : Nat} {e : TypeId} {size n : Nat} {v : Value} {xs : List Value} (h : w.ownsRow A e size v (0 + n) ([] ++ xs)) : w.ownsRow A e size v n xs := by
  rwa [Nat.zero_add, List.nil_append] at h
theorem own_ge {B g n c k : Nat} (hj : (Value.slice (some ⟨g, 0, none⟩) n c).ownBlock = some k) (h : B ≤ g) : B ≤ k := by
  simp only [Value.ownBlock, Option.some.injEq] at hj
  omega
theorem IsS.flatCells {α : Type} (T : Rec α) {w : World} {b o n c : Nat} {z : List α} (h : IsS T w (.slice (some ⟨b, o, none⟩) n c) z) : ∀ j u, (flat T z)[j]? = some u → w.cell? (Addr.add ⟨b, o, none⟩ j) = some u := fun j u hu => by
  obtain ⟨b', o', c', e, hbl, h1, h2, h3⟩ := h
  simp only [Value.slice.injEq, Option.some.injEq, Addr.mk.injEq, and_true] at e
  obtain ⟨⟨rfl, rfl⟩, rfl, rfl⟩ := e
  rw [Go.WideShapes.add_plain]
  exact flat_cells T h3 j u hu
theorem own_of {α : Type} (T : Rec α) {E : TypeId} {w : World} {A cnt : Nat} {v : Value} {cells : List Value} {xs : List α} (h : w.ownsRow A E T.n v cnt cells) (hc : xs.length = cnt) (hf : flat T xs = cells) : Own T E w A v xs := by
  unfold Own; rw [hc, hf]; exact h
end Go.Proofs.Ytmbffcblhhippaa.Bs
namespace Go.Proofs.Ytmbffcblhhippaa.Bs
open Go.RowKit
set_option linter.unusedVariables false
/-- block G holds just these cells -/
def Bx (w : World) (G : Nat) (t : TypeId) (cs : Array Value) : Prop := w.heap[G]? = some (.cells cs t (0, 0))
section
variable {w w' : World} {G : Nat} {t : TypeId} {cs : Array Value}
theorem Bx.lt (h : Bx w G t cs) : G < w.heap.size := (Array.getElem?_eq_some_iff.1 h).1
theorem Bx.cell (h : Bx w G t cs) (i : Nat) : w.cell? ⟨G, i, none⟩ = cs[i]? := cell_of_row w G i cs t (0, 0) h
theorem Bx.frozen (h : Bx w G t cs) (i : Nat) : w.frozen? ⟨G, i, none⟩ = false := by unfold Bx at h; simp [World.frozen?, h]
theorem Bx.new (w : World) (t : TypeId) (cs : Array Value) : Bx (w.alloc (.cells cs t)) w.heap.size t cs := heap_alloc_new w _
theorem Bx.alloc (h : Bx w G t cs) (o : Obj) : Bx (w.alloc o) G t cs := (Below.heap_alloc w o G h.lt).trans h
theorem Bx.set_ (h : Bx w G t cs) (i : Nat) (u : Value) : Bx (w.setCell ⟨G, i, none⟩ u) G t (cs.setIfInBounds i u) := by
  unfold Bx at h ⊢
  simp [World.setCell, Array.getElem?_modify, h]
theorem Bx.far (h : Bx w G t cs) {p : Addr} (hp : G ≠ p.block) (u : Value) : Bx (w.setCell p u) G t cs := (Below.heap_setCell w p u G hp).trans h
theorem Bx.kept (h : Bx w G t cs) (hb : Below w.heap.size w w') : Bx w' G t cs := (hb.block G h.lt).trans h
theorem Bx.under {B : Nat} (h : Bx w G t cs) (hb : Below B w w') (hG : G < B) : Bx w' G t cs := (hb.block G hG).trans h
theorem Bx.loc (h : Bx w G t cs) : Loc G (G + 1) (fun W => Bx W G t cs) w := ⟨h.lt, fun w2 _ hs => (hs G (Nat.le_refl _) (Nat.lt_succ_self _)).trans h⟩
end
theorem own_set {α : Type} {T : Rec α} {E : TypeId} {w : World} {A : Nat} {v : Value} {xs : List α} {p : Addr} (h : Own T E w A v xs) (hp : ∀ k, v.ownBlock = some k → k ≠ p.block) (u : Value) : Own T E (w.setCell p u) A v xs :=
  h.same fun k hk => Below.heap_setCell w p u k (hp k hk)
end Go.Proofs.Ytmbffcblhhippaa.Bs
namespace Go.Proofs.Ytmbffcblhhippaa.Bs
open Go.RowKit
set_option linter.unusedVariables false
section
variable {α : Type} {T : Rec α} {E : TypeId} {w w' : World} {A B : Nat} {v : Value} {xs : List α}
/-- nil, or a slice that reads as these records -/
def IsQ (T : Rec α) (w : World) (v : Value) (xs : List α) : Prop := (v = .slice none 0 0 ∧ xs = []) ∨ IsS T w v xs
theorem IsQ.is (h : IsQ T w v xs) : Is T w v xs := by
  rcases h with ⟨rfl, rfl⟩ | h
  · exact ⟨none, 0, rfl, Nat.le_refl _, Nat.zero_le _, .inl rfl⟩
  · exact h.is
theorem IsQ.below (h : IsQ T w v xs) (hb : Below w.heap.size w w') : IsQ T w' v xs := by
  rcases h with h | h
  · exact .inl h
  · exact .inr (IsS.below _ h hb)
theorem Own.isQ (h : Own T E w A v xs) : IsQ T w v xs := by
  rcases h.shape with h' | ⟨g, cap, e, _⟩
  · exact .inl h'
  · exact .inr (h.isS ⟨g, by rw [e]; rfl⟩)
theorem own_slice (h : Own T E w A v xs) : ∃ a n c, v = .slice a n c := by
  rcases h.shape with ⟨rfl, _⟩ | ⟨g, c, rfl, _⟩
  · exact ⟨_, _, _, rfl⟩
  · exact ⟨_, _, _, rfl⟩
/-- two values that lie in different blocks -/
def Dist (s t : Value) : Prop := ∀ k, s.ownBlock = some k → t.ownBlock ≠ some k
theorem dist_none {s : Value} : Dist (.slice none 0 0) s := fun k h => by cases h
theorem dist_none' {s : Value} : Dist s (.slice none 0 0) := fun k _ h => by cases h
theorem Dist.of_lt {s t : Value} {m : Nat} (hs : ∀ k, s.ownBlock = some k → k < m) (ht : ∀ k, t.ownBlock = some k → m ≤ k) : Dist s t := fun k h1 h2 => by
  have := hs k h1; have := ht k h2; omega
theorem Dist.of_gt {s t : Value} {m : Nat} (hs : ∀ k, s.ownBlock = some k → m ≤ k) (ht : ∀ k, t.ownBlock = some k → k < m) : Dist s t := fun k h1 h2 => by
  have := hs k h1; have := ht k h2; omega
theorem Dist.symm {s t : Value} (h : Dist s t) : Dist t s := fun k h1 h2 => h k h2 h1
theorem is_low {a : Option Addr} {c b o : Nat} (h : RowsAt T w a c xs) (e : a = some ⟨b, o, none⟩) (hne : xs ≠ []) : b < w.heap.size := by
  rcases h.2.2 with h' | ⟨b', o', e', hl, _⟩
  · exact absurd h' hne
  · rw [e] at e'
    simp only [Option.some.injEq, Addr.mk.injEq, and_true] at e'
    rw [e'.1]; exact hl
theorem is_set {a : Option Addr} {c n : Nat} (h : Is T w (.slice a n c) xs) (G i : Nat) (u : Value) (hq : ∀ b o, a = some ⟨b, o, none⟩ → xs ≠ [] → b ≠ G) : Is T (w.setCell ⟨G, i, none⟩ u) (.slice a n c) xs := by
  obtain ⟨a', c', e, h1, h2, h3⟩ := h
  simp only [Value.slice.injEq] at e
  obtain ⟨rfl, rfl, rfl⟩ := e
  refine ⟨_, _, rfl, h1, h2, ?_⟩
  by_cases hx : xs = []
  · exact .inl hx
  rcases h3 with h3 | ⟨b, o, rfl, hlt, hc⟩
  · exact .inl h3
  · refine .inr ⟨b, o, rfl, by simpa using hlt, fun j r hr => (hc j r hr).keep T fun p => ?_⟩
    have hb := hq b o rfl hx
    exact World.cell?_of_block (a := ⟨b, p, none⟩) (Below.heap_setCell w ⟨G, i, none⟩ u b hb)
/-- the narrowest range of blocks round an own slice -/
theorem own_tight {Bd : Nat} (hBd : Bd ≤ w.heap.size) (h : OwnB T E A Bd v xs w) : ∃ A' B', (A' ≤ B') ∧ (A ≤ A' ∨ A' = B') ∧ (B' ≤ Bd) ∧ OwnB T E A' B' v xs w ∧ ((∃ k, v.ownBlock = some k ∧ A' = k ∧ B' = k + 1) ∨ (v.ownBlock = none ∧ A' = B')) := by
  rcases h.1.shape with ⟨rfl, rfl⟩ | ⟨g, cap, rfl, hg1, hg2, _⟩
  · exact ⟨0, 0, Nat.le_refl _, .inr rfl, Nat.zero_le _, ⟨Own.nil, fun k hk => by cases hk⟩, .inr ⟨rfl, rfl⟩⟩
  · refine ⟨g, g + 1, Nat.le_succ _, .inl hg1, h.2 g rfl, ⟨?_, fun k hk => by cases hk; exact Nat.lt_succ_self _⟩, .inl ⟨g, rfl, rfl, rfl⟩⟩
    refine ⟨h.1.1, ?_⟩
    rcases h.1.2 with ⟨h', _⟩ | ⟨g', cap', cur, e, _, rest⟩
    · cases h'
    · simp only [Value.slice.injEq, Option.some.injEq, Addr.mk.injEq, and_true] at e
      obtain ⟨rfl, _, rfl⟩ := e
      exact .inr ⟨_, _, cur, rfl, Nat.le_refl _, rest⟩
theorem tight_apart {s t : Value} {A1 B1 A2 B2 : Nat} (hd : Dist s t) (h1 : (∃ k, s.ownBlock = some k ∧ A1 = k ∧ B1 = k + 1) ∨ (s.ownBlock = none ∧ A1 = B1)) (h2 : (∃ k, t.ownBlock = some k ∧ A2 = k ∧ B2 = k + 1) ∨ (t.ownBlock = none ∧ A2 = B2)) : B1 ≤ A2 ∨ B2 ≤ A1 := by
  rcases h1 with ⟨k, hk, rfl, rfl⟩ | ⟨_, rfl⟩ <;> rcases h2 with ⟨l, hl, rfl, rfl⟩ | ⟨_, rfl⟩
  · have : A1 ≠ A2 := fun e => hd A1 hk (by rw [hl, e])
    omega
  · omega
  · omega
  · omega
theorem apart_wide {A' B' Bd : Nat} {a b : World} (h : Apart A' B' a b) (hA : A ≤ A' ∨ A' = B') (hn : A' ≤ B') (hB : B' ≤ Bd) : Apart A Bd a b :=
  ⟨h.os, h.tape, h.output, h.size, fun j hj hn => h.block j hj (by omega)⟩
theorem own_wide {A' B' : Nat} (h : OwnB T E A' B' v xs w) (hA : A ≤ A' ∨ A' = B') : Own T E w A v xs := by
  rcases hA with hA | rfl
  · exact h.1.low hA
  · rcases h.1.shape with ⟨rfl, rfl⟩ | ⟨g, cap, rfl, hg1, _⟩
    · exact Own.nil
    · have := h.2 g rfl; omega
theorem IsQ.loc (h : IsQ T w v xs) : Loc 0 w.heap.size (fun W => IsQ T W v xs) w := by
  refine ⟨Nat.le_refl _, fun w' hz hs => ?_⟩
  rcases h with h | ⟨b, o, c, rfl, hb, h1, h2, h3⟩
  · exact .inl h
  · exact .inr ⟨b, o, c, rfl, Nat.lt_of_lt_of_le hb hz, h1, h2, fun j r hr => (h3 j r hr).keep T fun p => World.cell?_of_block (a := ⟨b, p, none⟩) (hs b (Nat.zero_le _) hb)⟩
end
end Go.Proofs.Ytmbffcblhhippaa.Bs
namespace Go.Proofs.Ytmbffcblhhippaa.LInt
open Go.RowKit Bs
set_option linter.unusedVariables false
abbrev R := Int
def vals (r : R) : List Value := [.int .i64 r]
/-- one value as a type of records -/
def rec : Rec R := ⟨1, vals, fun _ => rfl, by decide, fun r u hu => by
  simp only [vals, List.mem_cons, List.not_mem_nil, or_false] at hu
  rcases hu with rfl
  rfl⟩
theorem rec_n : rec.n = 1 := rfl
theorem info : (Try.prog.info? 3).map (fun i => (i.zero, i.size)) = some (some (.int .i64 0), 1) := by kernel_rfl
theorem cells {w : World} {b p : Nat} {r : R} (h : At rec w b p r) : w.cell? ⟨b, p, none⟩ = some (.int .i64 r) := h 0 _ rfl
theorem at_of {w : World} {b p : Nat} {r : R} (h0 : w.cell? ⟨b, p, none⟩ = some (.int .i64 r)) : At rec w b p r := fun j v hv => by
  have hj : j < 1 := (List.getElem?_eq_some_iff.1 hv).1
  obtain rfl : j = 0 := by omega
  rw [← hv]; exact h0
/-- facts of a value in all worlds that only grew -/
theorem grown {w : World} {b p : Nat} {r : R} (h : At rec w b p r) (hl : b < w.heap.size) : Hid (∀ d os, At rec (Sort.grow (redrawn w d) os) b p r) := fun d os => h.below rec (below_regrown w d os) hl
theorem flat_eq (xs : List R) : flat rec xs = xs.map (fun r => .int .i64 r) := by
  induction xs with
  | nil => rfl
  | cons x xs ih => rw [flat_cons, ih]; rfl
def zero : R := 0
theorem made_zero (n : Nat) : (madeCells (#[.int .i64 0] : Array Value) n).toList = flat rec (List.replicate n zero) := by
  apply List.ext_getElem?
  intro i
  rw [madeCells, flat_eq]
  by_cases hi : i < n
  · simp only [Array.toList_map, List.getElem?_map, Array.toList_range, List.getElem?_range hi, Option.map_some, List.getElem?_replicate, if_pos hi]
    have h1 : i % (#[.int .i64 0] : Array Value).size = 0 := Nat.mod_one i
    rw [h1]
    rfl
  · rw [List.getElem?_eq_none (by simp; omega), List.getElem?_eq_none (by simp; omega)]
/-- what a copy holds after k stores -/
def part (xs : List R) (n k : Nat) : List R := xs.take k ++ List.replicate (n - k) zero
theorem part_len (xs : List R) (n k : Nat) (h : xs.length = n) (hk : k ≤ n) : (part xs n k).length = n := by simp [part]; omega
theorem part_zero (xs : List R) (n : Nat) : part xs n 0 = List.replicate n zero := by simp [part]
theorem part_all (xs : List R) (n : Nat) (h : xs.length = n) : part xs n n = xs := by
  unfold part; rw [List.take_of_length_le (by omega), Nat.sub_self]; simp
theorem part_set (xs : List R) (n k : Nat) (h : xs.length = n) (hk : k < xs.length) : (part xs n k).set k xs[k] = part xs n (k + 1) := by
  unfold part
  have hl : (xs.take k).length = k := by rw [List.length_take]; omega
  rw [List.set_append_right _ _ (by omega), hl, Nat.sub_self]
  have e : n - k = (n - (k + 1)) + 1 := by omega
  rw [e, List.replicate_succ, List.set_cons_zero, List.take_succ_eq_append_getElem hk, List.append_assoc]
  rfl
theorem part_at (xs : List R) (n k : Nat) (h : xs.length = n) (hk : k < n) : (part xs n k)[k]? = some zero := by
  unfold part
  have hl : (xs.take k).length = k := by rw [List.length_take]; omega
  rw [List.getElem?_append_right (by omega), hl, Nat.sub_self, List.getElem?_replicate, if_pos (by omega)]
abbrev OwnR (w : World) (A g n cap : Nat) (ys : List R) : Prop := Own rec 3 w A (.slice (some ⟨g, 0, none⟩) n cap) ys
/-- a store of one value -/
theorem putAll {w : World} {A g n cap : Nat} {ys : List R} (hn : ys.length = n) (h : OwnR w A g n cap ys) (k : Nat) (r0 r : R) (hr : ys[k]? = some r0) :
    OwnR (w.setCell ⟨g, k, none⟩ (.int .i64 r)) A g n cap (ys.set k r) := by
  have h0 := Own.put hn h k 0 r0 r (.int .i64 r) hr (by decide) rfl
  rw [rec_n, Nat.mul_one, Nat.add_zero] at h0
  exact h0
end Go.Proofs.Ytmbffcblhhippaa.LInt
namespace Go.Proofs.Ytmbffcblhhippaa.LShare
open Go.RowKit Bs
set_option linter.unusedVariables false

structure R where
  member : Int
  turns : Int
  seconds : Int
def vals (r : R) : List Value := [.int .i64 r.member, .int .i64 r.turns, .int .i64 r.seconds]
/-- the struct as a type of records -/
def rec : Rec R := ⟨3, vals, fun _ => rfl, by decide, fun r u hu => by
  simp only [vals, List.mem_cons, List.not_mem_nil, or_false] at hu
  rcases hu with rfl | rfl | rfl <;> rfl⟩
theorem rec_n : rec.n = 3 := rfl
theorem info : (Try.prog.info? 60).map (fun i => (i.zero, i.size)) = some (some (.agg #[.int .i64 0, .int .i64 0, .int .i64 0]), 3) := by kernel_rfl
theorem cells {w : World} {b p : Nat} {r : R} (h : At rec w b p r) : w.cell? ⟨b, p, none⟩ = some (.int .i64 r.member) ∧ w.cell? ⟨b, p + 1, none⟩ = some (.int .i64 r.turns) ∧ w.cell? ⟨b, p + 2, none⟩ = some (.int .i64 r.seconds) :=
  ⟨h 0 _ rfl, h 1 _ rfl, h 2 _ rfl⟩
theorem cells0 {w : World} {b : Nat} {r : R} (h : At rec w b 0 r) : w.cell? ⟨b, 0, none⟩ = some (.int .i64 r.member) ∧ w.cell? ⟨b, 1, none⟩ = some (.int .i64 r.turns) ∧ w.cell? ⟨b, 2, none⟩ = some (.int .i64 r.seconds) := by
  have := cells h
  simpa only [Nat.zero_add] using this
theorem at_of {w : World} {b p : Nat} {r : R} (h0 : w.cell? ⟨b, p, none⟩ = some (.int .i64 r.member)) (h1 : w.cell? ⟨b, p + 1, none⟩ = some (.int .i64 r.turns)) (h2 : w.cell? ⟨b, p + 2, none⟩ = some (.int .i64 r.seconds)) : At rec w b p r := fun j v hv => by
  have hj : j < 3 := (List.getElem?_eq_some_iff.1 hv).1
  match j, hj with
  | 0, _ => rw [← hv]; exact h0
  | 1, _ => rw [← hv]; exact h1
  | 2, _ => rw [← hv]; exact h2
/-- a record that was boxed -/
theorem box (w : World) (r : R) (t : TypeId) : At rec (w.alloc (.cells #[.int .i64 r.member, .int .i64 r.turns, .int .i64 r.seconds] t)) w.heap.size 0 r := at_of (by simp [go_sem]) (by simp [go_sem]) (by simp [go_sem])
/-- facts of a record in all worlds that only grew -/
theorem grown {w : World} {b p : Nat} {r : R} (h : At rec w b p r) (hl : b < w.heap.size) : Hid (∀ d os, At rec (Sort.grow (redrawn w d) os) b p r) := fun d os => h.below rec (below_regrown w d os) hl
def zero : R := ⟨0, 0, 0⟩
theorem made_zero (n : Nat) : (madeCells (#[.int .i64 0, .int .i64 0, .int .i64 0] : Array Value) (n * 3)).toList = flat rec (List.replicate n zero) := by
  apply List.ext_getElem?
  intro i
  rw [madeCells]
  by_cases hi : i < n * 3
  · have h1 := flat_at rec (List.replicate n zero) (i / 3) (i % 3) zero (by rw [List.getElem?_replicate, if_pos (by omega)]) (by rw [rec_n]; omega)
    have e : i / 3 * 3 + i % 3 = i := by omega
    rw [rec_n, e] at h1
    rw [h1]
    have hs : (#[.int .i64 0, .int .i64 0, .int .i64 0] : Array Value).size = 3 := rfl
    simp only [hs, Array.toList_map, List.getElem?_map, Array.toList_range, List.getElem?_range hi, Option.map_some]
    have h7 : i % 3 < 3 := by omega
    generalize i % 3 = m at *
    match m, h7 with
    | 0, _ => rfl
    | 1, _ => rfl
    | 2, _ => rfl
  · rw [List.getElem?_eq_none (by simp; omega), List.getElem?_eq_none (by rw [flat_len, List.length_replicate, rec_n]; omega)]
/-- what a copy holds after k stores -/
def part (xs : List R) (n k : Nat) : List R := xs.take k ++ List.replicate (n - k) zero
theorem part_len (xs : List R) (n k : Nat) (h : xs.length = n) (hk : k ≤ n) : (part xs n k).length = n := by simp [part]; omega
theorem part_zero (xs : List R) (n : Nat) : part xs n 0 = List.replicate n zero := by simp [part]
theorem part_all (xs : List R) (n : Nat) (h : xs.length = n) : part xs n n = xs := by
  unfold part; rw [List.take_of_length_le (by omega), Nat.sub_self]; simp
theorem part_set (xs : List R) (n k : Nat) (h : xs.length = n) (hk : k < xs.length) : (part xs n k).set k xs[k] = part xs n (k + 1) := by
  unfold part
  have hl : (xs.take k).length = k := by rw [List.length_take]; omega
  rw [List.set_append_right _ _ (by omega), hl, Nat.sub_self]
  have e : n - k = (n - (k + 1)) + 1 := by omega
  rw [e, List.replicate_succ, List.set_cons_zero, List.take_succ_eq_append_getElem hk, List.append_assoc]
  rfl
theorem part_at (xs : List R) (n k : Nat) (h : xs.length = n) (hk : k < n) : (part xs n k)[k]? = some zero := by
  unfold part
  have hl : (xs.take k).length = k := by rw [List.length_take]; omega
  rw [List.getElem?_append_right (by omega), hl, Nat.sub_self, List.getElem?_replicate, if_pos (by omega)]
abbrev OwnR (w : World) (A g n cap : Nat) (ys : List R) : Prop := Own rec 60 w A (.slice (some ⟨g, 0, none⟩) n cap) ys
/-- a store of some fields, one after the other -/
theorem putAll {w : World} {A g n cap : Nat} {ys : List R} (hn : ys.length = n) (h : OwnR w A g n cap ys) (k : Nat) (r0 r : R) (hr : ys[k]? = some r0) :
    OwnR (((w.setCell ⟨g, k * 3, none⟩ (.int .i64 r.member)).setCell ⟨g, k * 3 + 1, none⟩ (.int .i64 r.turns)).setCell ⟨g, k * 3 + 2, none⟩ (.int .i64 r.seconds)) A g n cap (ys.set k r) := by
  have hk : k < ys.length := (List.getElem?_eq_some_iff.1 hr).1
  have at_ : ∀ x : R, (ys.set k x)[k]? = some x := fun x => by simp [hk]
  have hl : ∀ x : R, (ys.set k x).length = n := fun x => by rw [List.length_set]; exact hn
  have h0 := Own.put hn h k 0 r0 ({ r0 with member := r.member }) (.int .i64 r.member) hr (by decide) rfl
  have h1 := Own.put (hl _) h0 k 1 _ ({ r0 with member := r.member, turns := r.turns }) (.int .i64 r.turns) (at_ _) (by decide) rfl
  rw [List.set_set] at h1
  have h2 := Own.put (hl _) h1 k 2 _ (r) (.int .i64 r.seconds) (at_ _) (by decide) rfl
  rw [List.set_set] at h2
  exact h2
end Go.Proofs.Ytmbffcblhhippaa.LShare
namespace Go.Proofs.Ytmbffcblhhippaa.LFloor
open Go.RowKit Bs
set_option linter.unusedVariables false
structure R where
  turns : Int
  seconds : Int
  speaking : Int
  waiting : List LInt.R
  shares : List LShare.R
def Is (w : World) (v : Value) (r : R) : Prop := ∃ s3 s4, v = .agg #[.int .i64 r.turns, .int .i64 r.seconds, .int .i64 r.speaking, s3, s4] ∧ Bs.Is LInt.rec w s3 r.waiting ∧ Bs.Is LShare.rec w s4 r.shares
def IsQ (w : World) (v : Value) (r : R) : Prop := ∃ s3 s4, v = .agg #[.int .i64 r.turns, .int .i64 r.seconds, .int .i64 r.speaking, s3, s4] ∧ Bs.IsQ LInt.rec w s3 r.waiting ∧ Bs.IsQ LShare.rec w s4 r.shares
def IsS (w : World) (v : Value) (r : R) : Prop := ∃ s3 s4, v = .agg #[.int .i64 r.turns, .int .i64 r.seconds, .int .i64 r.speaking, s3, s4] ∧ Bs.IsS LInt.rec w s3 r.waiting ∧ Bs.IsS LShare.rec w s4 r.shares
def Own (w : World) (A : Nat) (v : Value) (r : R) : Prop := ∃ s3 s4, v = .agg #[.int .i64 r.turns, .int .i64 r.seconds, .int .i64 r.speaking, s3, s4] ∧ Bs.Own LInt.rec 3 w A s3 r.waiting ∧ Bs.Own LShare.rec 60 w A s4 r.shares ∧ Dist s3 s4
/-- the slices' blocks lie below B -/
def Bnd (B : Nat) (v : Value) : Prop := ∀ x0 x1 x2 s3 s4, v = .agg #[x0, x1, x2, s3, s4] → (∀ k, s3.ownBlock = some k → k < B) ∧ (∀ k, s4.ownBlock = some k → k < B)
def NotNil (v : Value) : Prop := ∃ x0 x1 x2 s3 s4, v = .agg #[x0, x1, x2, s3, s4] ∧ (∃ g, s3.ownBlock = some g) ∧ (∃ g, s4.ownBlock = some g)
def OwnB (A B : Nat) (v : Value) (r : R) (w : World) : Prop := Own w A v r ∧ Bnd B v
section
variable {w w' : World} {A B : Nat} {v : Value} {r : R}
theorem IsS.is (h : IsS w v r) : Is w v r := by
  obtain ⟨s3, s4, e, h3, h4⟩ := h
  exact ⟨s3, s4, e, Bs.IsS.is _ h3, Bs.IsS.is _ h4⟩
theorem IsS.isQ (h : IsS w v r) : IsQ w v r := by
  obtain ⟨s3, s4, e, h3, h4⟩ := h
  exact ⟨s3, s4, e, .inr h3, .inr h4⟩
theorem IsQ.is (h : IsQ w v r) : Is w v r := by
  obtain ⟨s3, s4, e, h3, h4⟩ := h
  exact ⟨s3, s4, e, Bs.IsQ.is h3, Bs.IsQ.is h4⟩
theorem Own.is (h : Own w A v r) : Is w v r := by
  obtain ⟨s3, s4, e, h3, h4, d3_4⟩ := h
  exact ⟨s3, s4, e, Bs.Own.is h3, Bs.Own.is h4⟩
theorem Own.isQ (h : Own w A v r) : IsQ w v r := by
  obtain ⟨s3, s4, e, h3, h4, d3_4⟩ := h
  exact ⟨s3, s4, e, Bs.Own.isQ h3, Bs.Own.isQ h4⟩
theorem Own.isS (h : Own w A v r) (hv : NotNil v) : IsS w v r := by
  obtain ⟨s3, s4, rfl, h3, h4, d3_4⟩ := h
  obtain ⟨tx0, tx1, tx2, ts3, ts4, e, ⟨g3, k3⟩, ⟨g4, k4⟩⟩ := hv
  refine ⟨s3, s4, rfl, Bs.Own.isS h3 ⟨g3, ?_⟩, Bs.Own.isS h4 ⟨g4, ?_⟩⟩
  · simp only [Value.agg.injEq, Array.mk.injEq, List.cons.injEq, and_true] at e
    obtain ⟨rfl, rfl, rfl, rfl, rfl⟩ := e
    exact k3
  · simp only [Value.agg.injEq, Array.mk.injEq, List.cons.injEq, and_true] at e
    obtain ⟨rfl, rfl, rfl, rfl, rfl⟩ := e
    exact k4
theorem Is.below (h : Is w v r) (hb : Below w.heap.size w w') : Is w' v r := by
  obtain ⟨s3, s4, e, h3, h4⟩ := h
  exact ⟨s3, s4, e, Bs.Is.below _ h3 hb, Bs.Is.below _ h4 hb⟩
theorem IsQ.below (h : IsQ w v r) (hb : Below w.heap.size w w') : IsQ w' v r := by
  obtain ⟨s3, s4, e, h3, h4⟩ := h
  exact ⟨s3, s4, e, Bs.IsQ.below h3 hb, Bs.IsQ.below h4 hb⟩
theorem IsS.below (h : IsS w v r) (hb : Below w.heap.size w w') : IsS w' v r := by
  obtain ⟨s3, s4, e, h3, h4⟩ := h
  exact ⟨s3, s4, e, Bs.IsS.below _ h3 hb, Bs.IsS.below _ h4 hb⟩
theorem Own.kept (h : Own w A v r) (hb : Below w.heap.size w w') : Own w' A v r := by
  obtain ⟨s3, s4, e, h3, h4, d3_4⟩ := h
  exact ⟨s3, s4, e, Bs.Own.kept h3 hb, Bs.Own.kept h4 hb, d3_4⟩
theorem Own.low {A' : Nat} (h : Own w A v r) (hA : A' ≤ A) : Own w A' v r := by
  obtain ⟨s3, s4, e, h3, h4, d3_4⟩ := h
  exact ⟨s3, s4, e, Bs.Own.low h3 hA, Bs.Own.low h4 hA, d3_4⟩
theorem bnd_of {s3 s4 : Value} (h : (∀ k, s3.ownBlock = some k → k < B) ∧ (∀ k, s4.ownBlock = some k → k < B)) (hv : v = .agg #[.int .i64 r.turns, .int .i64 r.seconds, .int .i64 r.speaking, s3, s4]) : Bnd B v := by
  subst hv
  intro tx0 tx1 tx2 ts3 ts4 e
  simp only [Value.agg.injEq, Array.mk.injEq, List.cons.injEq, and_true] at e
  obtain ⟨rfl, rfl, rfl, rfl, rfl⟩ := e
  exact h
theorem Own.loc (h : Own w A v r) : Bs.Loc A w.heap.size (OwnB A w.heap.size v r) w := by
  obtain ⟨s3, s4, e, h3, h4, d3_4⟩ := h
  refine ⟨Nat.le_refl _, fun w2 hz hs => ?_⟩
  have o3 := (Bs.Own.loc h3).all w2 hz hs
  have o4 := (Bs.Own.loc h4).all w2 hz hs
  exact ⟨⟨s3, s4, e, o3.1, o4.1, d3_4⟩, bnd_of ⟨o3.2, o4.2⟩ e⟩
theorem Is.loc (h : Is w v r) : Bs.Loc 0 w.heap.size (fun W => Is W v r) w := by
  obtain ⟨s3, s4, e, h3, h4⟩ := h
  exact ⟨Nat.le_refl _, fun w2 hz hs => ⟨s3, s4, e, (Bs.Is.loc h3).all w2 hz hs, (Bs.Is.loc h4).all w2 hz hs⟩⟩
theorem OwnB.slices (h : OwnB A B v r w) : ∃ s3 s4, v = .agg #[.int .i64 r.turns, .int .i64 r.seconds, .int .i64 r.speaking, s3, s4] ∧ Bs.OwnB LInt.rec 3 A B s3 r.waiting w ∧ Bs.OwnB LShare.rec 60 A B s4 r.shares w ∧ Dist s3 s4 := by
  obtain ⟨⟨s3, s4, e, h3, h4, d3_4⟩, hB⟩ := h
  have hB := hB _ _ _ _ _ e
  obtain ⟨b3, b4⟩ := hB
  exact ⟨s3, s4, e, ⟨h3, b3⟩, ⟨h4, b4⟩, d3_4⟩
theorem OwnB.loc (h : OwnB A B v r w) (hB : B ≤ w.heap.size) : Bs.Loc A B (OwnB A B v r) w := by
  obtain ⟨s3, s4, e, h3, h4, d3_4⟩ := OwnB.slices h
  exact ⟨hB, fun w2 hz hs => ⟨⟨s3, s4, e, ((Bs.OwnB.loc h3 hB).all w2 hz hs).1, ((Bs.OwnB.loc h4 hB).all w2 hz hs).1, d3_4⟩, h.2⟩⟩
theorem Own.form (h : Own w A v r) : ∃ a3 n3 c3 a4 n4 c4, v = .agg #[.int .i64 r.turns, .int .i64 r.seconds, .int .i64 r.speaking, .slice a3 n3 c3, .slice a4 n4 c4] := by
  obtain ⟨s3, s4, rfl, h3, h4, d3_4⟩ := h
  obtain ⟨a3, n3, c3, rfl⟩ := own_slice h3
  obtain ⟨a4, n4, c4, rfl⟩ := own_slice h4
  exact ⟨_, _, _, _, _, _, rfl⟩
theorem Own.zero : Own w A (.agg #[.int .i64 0, .int .i64 0, .int .i64 0, .slice none 0 0, .slice none 0 0]) ⟨0, 0, 0, [], []⟩ := ⟨_, _, rfl, Bs.Own.nil, Bs.Own.nil, dist_none⟩
end
end Go.Proofs.Ytmbffcblhhippaa.LFloor
namespace Go.Proofs.Ytmbffcblhhippaa.LInt
open Go.RowKit Bs
set_option linter.unusedVariables false
set_option maxHeartbeats 800000 in
theorem eqS (v v' : Value) (xs : List R) (w : World) (h : Is rec w v xs) (h' : Is rec w v' xs) :
    Calls Try.prog 26 #[v, v'] w fun e w' => e = .returned (.bool true) ∧ Below w.heap.size w w' := by
  obtain ⟨a, cp, rfl, h⟩ := h
  obtain ⟨a', cp', rfl, h'⟩ := h'
  have hc := h.at_ rec
  have hc' := h'.at_ rec
  obtain ⟨n, hn⟩ : ∃ n, n = xs.length := ⟨_, rfl⟩
  have hnb : n ≤ cp := by have := h.1; omega
  have hnb' : n ≤ cp' := by have := h'.1; omega
  have h2 := h.2.1
  have h2' := h'.2.1
  unfold maxLen at h2 h2'
  rw [← hn]
  have hle : n ≤ xs.length := by omega
  clear hn h h'
  have hne : ((n : Int) != (n : Int)) = false := by simp
  go_enter Try.func26, Try.ntmps26
  go_wp2_with fail
  go_loopw [5] (fun i wr => ∃ k : Nat, k ≤ n ∧ i = .int .i64 k ∧ Below w.heap.size w wr) (fun i _ => n - (intOf i).toNat)
  case atStart => exact ⟨0, Nat.zero_le _, rfl, Below.refl _ _⟩
  case round =>
    obtain ⟨k, hk, rfl, hb⟩ := hrel
    by_cases hlt : k < n
    · have hx : k < xs.length := by omega
      obtain ⟨b, o, rfl, hbl, hcell0⟩ := hc.out k xs[k] (List.getElem?_eq_getElem hx)
      obtain ⟨b', o', rfl, hbl', hcell0'⟩ := hc'.out k xs[k] (List.getElem?_eq_getElem hx)
      have c1 := cells (hcell0.below rec hb hbl)
      have c2 := cells (hcell0'.below rec hb hbl')
      simp only [rec_n, Nat.mul_one] at c1 c2
      clear hcell0 hcell0'
      generalize xs[k] = X at *
      have k0 : 0 ≤ (k : Int) := by omega
      have k1 : (k : Int) < (n : Int) := by omega
      have hz : (X != X) = false := by simp
      go_wp2_with fail
      go_quiet (fail)
      have hb2 : Below w.heap.size w (wr.drewN nq) := hb.trans ⟨rfl, rfl, rfl, Nat.le_refl _, fun _ _ => rfl⟩
      go_wp2_with fail
      go_roundw
      case rel => exact ⟨k + 1, by omega, by go_num, hb2⟩
      case measure => simp [intOf]; omega
    · go_wp2_with fail
      go_ret
      exact ⟨rfl, hb⟩
end Go.Proofs.Ytmbffcblhhippaa.LInt
namespace Go.Proofs.Ytmbffcblhhippaa.LShare
open Go.RowKit Bs
set_option linter.unusedVariables false
set_option maxHeartbeats 800000 in
theorem eq (r : R) (w : World) :
    Calls Try.prog 65 #[.agg #[.int .i64 r.member, .int .i64 r.turns, .int .i64 r.seconds], .agg #[.int .i64 r.member, .int .i64 r.turns, .int .i64 r.seconds]] w fun e w' => e = .returned (.bool true) ∧ Below w.heap.size w w' := by
  have h0 : (r.member != r.member) = false := by simp
  have h1 : (r.turns != r.turns) = false := by simp
  have h2 : (r.seconds != r.seconds) = false := by simp
  go_enter Try.func65, Try.ntmps65
  go_wp2_with fail
  go_ret
  exact ⟨rfl, ((Below.refl _ _).alloc (Nat.le_refl _) _).alloc (by simp) _⟩
set_option maxHeartbeats 800000 in
theorem eqS (v v' : Value) (xs : List R) (w : World) (h : Is rec w v xs) (h' : Is rec w v' xs) :
    Calls Try.prog 41 #[v, v'] w fun e w' => e = .returned (.bool true) ∧ Below w.heap.size w w' := by
  obtain ⟨a, cp, rfl, h⟩ := h
  obtain ⟨a', cp', rfl, h'⟩ := h'
  have hc := h.at_ rec
  have hc' := h'.at_ rec
  obtain ⟨n, hn⟩ : ∃ n, n = xs.length := ⟨_, rfl⟩
  have hnb : n ≤ cp := by have := h.1; omega
  have hnb' : n ≤ cp' := by have := h'.1; omega
  have h2 := h.2.1
  have h2' := h'.2.1
  unfold maxLen at h2 h2'
  rw [← hn]
  have hle : n ≤ xs.length := by omega
  clear hn h h'
  have hne : ((n : Int) != (n : Int)) = false := by simp
  go_enter Try.func41, Try.ntmps41
  go_wp2_with fail
  go_loopw [5] (fun i wr => ∃ k : Nat, k ≤ n ∧ i = .int .i64 k ∧ Below w.heap.size w wr) (fun i _ => n - (intOf i).toNat)
  case atStart => exact ⟨0, Nat.zero_le _, rfl, Below.refl _ _⟩
  case round =>
    obtain ⟨k, hk, rfl, hb⟩ := hrel
    by_cases hlt : k < n
    · have hx : k < xs.length := by omega
      obtain ⟨b, o, rfl, hbl, hcell0⟩ := hc.out k xs[k] (List.getElem?_eq_getElem hx)
      obtain ⟨b', o', rfl, hbl', hcell0'⟩ := hc'.out k xs[k] (List.getElem?_eq_getElem hx)
      have HG := grown (hcell0.below rec hb hbl) (Nat.lt_of_lt_of_le hbl hb.size)
      have HG' := grown (hcell0'.below rec hb hbl') (Nat.lt_of_lt_of_le hbl' hb.size)
      clear hcell0 hcell0'
      generalize xs[k] = X at *
      have c0 := fun d os => (cells (HG.out d os)).1
      have c1 := fun d os => (cells (HG.out d os)).2.1
      have c2 := fun d os => (cells (HG.out d os)).2.2
      have d0 := fun d os => (cells (HG'.out d os)).1
      have d1 := fun d os => (cells (HG'.out d os)).2.1
      have d2 := fun d os => (cells (HG'.out d os)).2.2
      have k0 : 0 ≤ (k : Int) := by omega
      have k1 : (k : Int) < (n : Int) := by omega
      simp only [rec_n] at c0 c1 c2 d0 d1 d2
      clear HG HG'
      go_wp2_with fail
      refine wp_region_quiet_below (by kernel_rfl) (by kernel_rfl) ?_
      repeat (quiet_step ((go_at_call 65; exact Calls.regrown_of (eq X _))))
      refine wpQuiet_nil ?_
      intro _ hw'
      obtain ⟨⟨dq, osq⟩, hw''⟩ := hw'
      subst hw''
      have hb2 : Below w.heap.size w (Sort.grow (redrawn wr dq) osq) := hb.trans ((below_regrown wr dq osq).mono hb.size)
      clear c0 c1 c2 d0 d1 d2
      go_wp2_with fail
      go_roundw
      case rel => exact ⟨k + 1, by omega, by go_num, hb2⟩
      case measure => simp [intOf]; omega
    · go_wp2_with fail
      go_ret
      exact ⟨rfl, hb⟩
end Go.Proofs.Ytmbffcblhhippaa.LShare
namespace Go.Proofs.Ytmbffcblhhippaa.LFloor
open Go.RowKit Bs
set_option linter.unusedVariables false
set_option maxRecDepth 100000 in
set_option maxHeartbeats 1600000 in
theorem eq (v v' : Value) (r : R) (w : World) (h : Is w v r) (h' : Is w v' r) :
    Calls Try.prog 13 #[v, v'] w fun e w' => e = .returned (.bool true) ∧ Below w.heap.size w w' := by
  obtain ⟨s3, s4, rfl, h3, h4⟩ := h
  obtain ⟨s3', s4', rfl, h3', h4'⟩ := h'
  obtain ⟨a3, cp3, rfl, h3⟩ := h3
  obtain ⟨a3', cp3', rfl, h3'⟩ := h3'
  obtain ⟨a4, cp4, rfl, h4⟩ := h4
  obtain ⟨a4', cp4', rfl, h4'⟩ := h4'
  have n0 : (r.turns != r.turns) = false := by simp
  have n1 : (r.seconds != r.seconds) = false := by simp
  have n2 : (r.speaking != r.speaking) = false := by simp
  obtain ⟨W0, hW⟩ : ∃ W : World, W = (w.alloc (.cells #[.int .i64 r.turns, .int .i64 r.seconds, .int .i64 r.speaking, .slice a3 r.waiting.length cp3, .slice a4 r.shares.length cp4] 29)).alloc (.cells #[.int .i64 r.turns, .int .i64 r.seconds, .int .i64 r.speaking, .slice a3' r.waiting.length cp3', .slice a4' r.shares.length cp4'] 29) := ⟨_, rfl⟩
  have hb : Below w.heap.size w W0 := by rw [hW]; exact ((Below.refl _ _).alloc (Nat.le_refl _) _).alloc (by simp) _
  have B0 := Lib.hid (show Bx W0 w.heap.size 29 #[.int .i64 r.turns, .int .i64 r.seconds, .int .i64 r.speaking, .slice a3 r.waiting.length cp3, .slice a4 r.shares.length cp4] by rw [hW]; exact (Bx.new w 29 #[.int .i64 r.turns, .int .i64 r.seconds, .int .i64 r.speaking, .slice a3 r.waiting.length cp3, .slice a4 r.shares.length cp4]).alloc _)
  have B1 := Lib.hid (show Bx W0 (w.heap.size + 1) 29 #[.int .i64 r.turns, .int .i64 r.seconds, .int .i64 r.speaking, .slice a3' r.waiting.length cp3', .slice a4' r.shares.length cp4'] by rw [hW]; have := Bx.new (w.alloc (.cells #[.int .i64 r.turns, .int .i64 r.seconds, .int .i64 r.speaking, .slice a3 r.waiting.length cp3, .slice a4 r.shares.length cp4] 29)) 29 #[.int .i64 r.turns, .int .i64 r.seconds, .int .i64 r.speaking, .slice a3' r.waiting.length cp3', .slice a4' r.shares.length cp4']; simpa using this)
  have HI3 := Lib.hid (Bs.Is.below _ ⟨a3, cp3, rfl, h3⟩ hb)
  have HJ3 := Lib.hid (Bs.Is.below _ ⟨a3', cp3', rfl, h3'⟩ hb)
  have HI4 := Lib.hid (Bs.Is.below _ ⟨a4, cp4, rfl, h4⟩ hb)
  have HJ4 := Lib.hid (Bs.Is.below _ ⟨a4', cp4', rfl, h4'⟩ hb)
  clear h3 h3' h4 h4'
  go_enter Try.func13, Try.ntmps13
  go_wp2_with fail
  rw [← hW]
  clear hW
  refine (LInt.eqS _ _ r.waiting W0 HI3.out HJ3.out).mono ?_
  rintro e W1 ⟨rfl, hb1⟩
  replace hb := hb.trans (hb1.mono hb.size)
  replace B0 := Lib.hid (B0.out.kept hb1)
  replace B1 := Lib.hid (B1.out.kept hb1)
  replace HI4 := Lib.hid (Bs.Is.below _ HI4.out hb1)
  replace HJ4 := Lib.hid (Bs.Is.below _ HJ4.out hb1)
  have p4 := B0.out.cell 4
  have q4 := B1.out.cell 4
  simp only [List.getElem?_toArray, List.getElem?_cons_zero, List.getElem?_cons_succ] at p4 q4
  clear hb1
  go_wp2_with fail
  refine (LShare.eqS _ _ r.shares W1 HI4.out HJ4.out).mono ?_
  rintro e W2 ⟨rfl, hb1⟩
  replace hb := hb.trans (hb1.mono hb.size)
  clear hb1
  go_wp2_with fail
  go_ret
  exact ⟨rfl, hb⟩
end Go.Proofs.Ytmbffcblhhippaa.LFloor
namespace Go.Proofs.Ytmbffcblhhippaa.MarkT
open Go.RowKit
set_option linter.unusedVariables false

def dgt (k : Nat) : UInt8 := UInt8.ofNat (48 + k % 10)
/-- the digits of a positive number ahead of what is there -/
def digs (k : Nat) (acc : List UInt8) : List UInt8 :=
  if h : k = 0 then acc else digs (k / 10) (dgt k :: acc)
termination_by k
decreasing_by omega
theorem digs_zero (acc : List UInt8) : digs 0 acc = acc := by rw [digs]; rfl
theorem digs_pos (k : Nat) (acc : List UInt8) (h : 0 < k) : digs k acc = digs (k / 10) (dgt k :: acc) := by rw [digs, dif_neg (by omega)]
def mt (k : Nat) : ByteArray := ⟨((109 : UInt8) :: digs k []).toArray⟩
theorem byte_eq (k : Nat) : ((dgt k).toNat : Int) = 48 + (k : Int) % 10 := by
  unfold dgt; rw [UInt8.toNat_ofNat']; omega

end Go.Proofs.Ytmbffcblhhippaa.MarkT
namespace Go.Proofs.Ytmbffcblhhippaa.LInt
open Go.RowKit Bs MarkT
set_option linter.unusedVariables false
/-- what is written where the count stands at c -/
def mk (c : Nat) : R := (c : Int)
def marks (m : Nat) (ys : List R) (k : Nat) : List R := (List.range k).map (fun j => mk (m + 1 * j)) ++ ys.drop k
theorem marks_zero (m : Nat) (ys : List R) : marks m ys 0 = ys := by simp [marks]
theorem marks_len (m k : Nat) (ys : List R) (hk : k ≤ ys.length) : (marks m ys k).length = ys.length := by simp [marks]; omega
theorem marks_at (m k : Nat) (ys : List R) (hk : k < ys.length) : (marks m ys k)[k]? = some ys[k] := by
  unfold marks
  have hl : ((List.range k).map fun j => mk (m + 1 * j)).length = k := by simp
  rw [List.getElem?_append_right (by omega), hl, Nat.sub_self, List.getElem?_drop, Nat.add_zero, List.getElem?_eq_getElem hk]
theorem marks_set (m k : Nat) (ys : List R) (hk : k < ys.length) : (marks m ys k).set k (mk (m + 1 * k)) = marks m ys (k + 1) := by
  unfold marks
  have hl : ((List.range k).map fun j => mk (m + 1 * j)).length = k := by simp
  rw [List.set_append_right _ _ (by omega), hl, Nat.sub_self, List.drop_eq_getElem_cons hk, List.set_cons_zero, List.range_succ, List.map_append, List.append_assoc]
  rfl
theorem marks_all (m : Nat) (ys : List R) (j : Nat) (hj : j < ys.length) : (marks m ys ys.length)[j]? = some (mk (m + 1 * j)) := by
  unfold marks
  rw [List.getElem?_append_left (by simpa using hj), List.getElem?_map, List.getElem?_range hj]
  rfl
def Marked (w : World) (A B m : Nat) (v : Value) (ys : List R) (e : Ending) (w' : World) : Prop :=
  e = .returned (.int .i64 (m + 1 * ys.length : Nat)) ∧ OwnB rec 3 A B v (marks m ys ys.length) w' ∧ Apart A B w w'
theorem mark0 (A B m : Nat) (a : Option Addr) (c : Nat) (w : World) (h : OwnB rec 3 A B (.slice a 0 c) [] w) :
    Calls Try.prog 27 #[.slice a 0 c, .int .i64 m] w (Marked w A B m (.slice a 0 c) []) := by
  have HO := Lib.hid h
  clear h
  go_enter Try.func27, Try.ntmps27
  go_wp2_with fail
  go_loop [1, 5] (fun q i => q = .int .i64 m ∧ i = .int .i64 0) (fun _ i => 0)
  case atStart => exact ⟨rfl, rfl⟩
  case round =>
    obtain ⟨rfl, rfl⟩ := hrel
    go_wp2_with fail
    go_ret
    exact ⟨rfl, HO.out, Apart.refl _ _ _⟩
set_option maxHeartbeats 1600000 in
theorem markS (A B m : Nat) (v : Value) (ys : List R) (w : World) (hm0 : 0 < m) (hm : m + 1 * ys.length ≤ 8000000) (h : OwnB rec 3 A B v ys w) :
    Calls Try.prog 27 #[v, .int .i64 m] w (Marked w A B m v ys) := by
  rcases h.1.shape with ⟨rfl, rfl⟩ | ⟨g, cap, rfl, hg1, hg2, hcap, hcm⟩
  · exact mark0 A B m _ _ w h
  have hgB : g < B := h.2 g rfl
  unfold maxLen at hcm
  have HB := Lib.hid h.2
  obtain ⟨n, hn⟩ : ∃ n, n = ys.length := ⟨_, rfl⟩
  have HN := Lib.hid hn.symm
  have HO0 := Lib.hid (show OwnR w A g n cap (marks m ys 0) by rw [marks_zero, hn]; exact h.1)
  have hln : n ≤ ys.length := by omega
  rw [← hn] at hm hcap
  rw [show ys.length = n from hn.symm]
  clear h hn
  go_enter Try.func27, Try.ntmps27
  go_wp2_with fail
  go_loopw [1, 5] (fun q i wr => ∃ k : Nat, k ≤ n ∧ i = .int .i64 k ∧ q = .int .i64 (m + 1 * k : Nat) ∧ Hid (OwnR wr A g n cap (marks m ys k)) ∧ Hid (Apart A B w wr)) (fun _ i _ => n - (intOf i).toNat)
  case atStart => exact ⟨0, Nat.zero_le _, rfl, rfl, HO0, Lib.hid (Apart.refl A B w)⟩
  case round =>
    clear HO0
    obtain ⟨k, hk, rfl, rfl, HR, HTu⟩ := hrel
    by_cases hlt : k < n
    · have hx : k < ys.length := by omega
      have HY := Lib.hid (marks_at m k ys hx)
      have HSet := Lib.hid (marks_set m k ys hx)
      have HLen := Lib.hid (show (marks m ys k).length = n by rw [marks_len m k ys (by omega)]; exact HN.out)
      obtain ⟨C, hC⟩ : ∃ C : Nat, C = m + 1 * k := ⟨_, rfl⟩
      have hC2 : C + 1 ≤ 8000000 := by omega
      have hC0 : 0 < C := by omega
      rw [← hC] at HSet ⊢
      have HC := Lib.hid hC
      clear hC
      generalize ys[k] = Y at *
      generalize marks m ys k = M at *
      have q0 := cells (Own.at_ HR.out k _ HY.out)
      simp only [rec_n, Nat.mul_one] at q0
      have hf := Own.frozen HLen.out HR.out
      have HPy := Lib.hid (show OwnR (wr.setCell ⟨g, k, none⟩ (.int .i64 (C : Int))) A g n cap (marks m ys (k + 1)) from by
        have h := putAll HLen.out HR.out k Y (mk C) HY.out
        rw [HSet.out] at h
        exact h)
      have HAz := Lib.hid (show Apart A B w (wr.setCell ⟨g, k, none⟩ (.int .i64 (C : Int))) from (HTu.out.set (p := ⟨g, k, none⟩) hg1 hgB _))
      go_wp2_with fail
      go_roundw
      case rel =>
        refine ⟨k + 1, by omega, by go_num, ?_, HPy, HAz⟩
        have := HC.out
        congr 1
        omega
      case measure => simp [intOf]; omega
    · obtain rfl : k = n := by omega
      go_wp2_with fail
      go_ret
      refine ⟨by rw [HN.out]; rfl, ⟨?_, HB.out⟩, HTu.out⟩
      rw [HN.out]
      exact HR.out
theorem held0 (m : Nat) (a : Option Addr) (c : Nat) (w : World) :
    Calls Try.prog 28 #[.slice a 0 c, .int .i64 m] w fun e w' => e = .returned (.int .i64 m) ∧ Below w.heap.size w w' := by
  go_enter Try.func28, Try.ntmps28
  go_wp2_with fail
  go_loop [1, 5] (fun q i => q = .int .i64 m ∧ i = .int .i64 0) (fun _ i => 0)
  case atStart => exact ⟨rfl, rfl⟩
  case round =>
    obtain ⟨rfl, rfl⟩ := hrel
    go_wp2_with fail
    go_ret
    exact ⟨rfl, Below.refl _ _⟩
set_option maxRecDepth 100000 in
set_option maxHeartbeats 1600000 in
theorem heldS (A m : Nat) (v : Value) (ys : List R) (w : World) (hm0 : 0 < m) (hm : m + 1 * ys.length ≤ 8000000) (h : Own rec 3 w A v (marks m ys ys.length)) :
    Calls Try.prog 28 #[v, .int .i64 m] w fun e w' => e = .returned (.int .i64 (m + 1 * ys.length : Nat)) ∧ Below w.heap.size w w' := by
  have hml := marks_len m ys.length ys (Nat.le_refl _)
  rcases h.shape with ⟨rfl, hz⟩ | ⟨g, cap, rfl, hg1, hg2, hcap, hcm⟩
  · rw [hz] at hml
    obtain rfl := List.eq_nil_of_length_eq_zero hml.symm
    exact held0 m _ _ w
  unfold maxLen at hcm
  obtain ⟨n, hn⟩ : ∃ n, n = ys.length := ⟨_, rfl⟩
  have HN := Lib.hid hn.symm
  rw [hml, ← hn] at hcap
  have HO := Lib.hid (show OwnR w A g n cap (marks m ys n) by rw [hml, ← hn] at h; exact h)
  rw [hml]
  rw [← hn] at hm ⊢
  have hln : n ≤ ys.length := by omega
  clear h hn hml
  go_enter Try.func28, Try.ntmps28
  go_wp2_with fail
  go_loopw [1, 5] (fun q i wr => ∃ k : Nat, k ≤ n ∧ i = .int .i64 k ∧ q = .int .i64 (m + 1 * k : Nat) ∧ Below w.heap.size w wr) (fun _ i _ => n - (intOf i).toNat)
  case atStart => exact ⟨0, Nat.zero_le _, rfl, rfl, Below.refl _ _⟩
  case round =>
    obtain ⟨k, hk, rfl, rfl, hb⟩ := hrel
    by_cases hlt : k < n
    · have hx : k < ys.length := by omega
      have HM := Lib.hid (marks_all m ys k hx)
      rw [HN.out] at HM
      have HA := Lib.hid ((Own.at_ HO.out k _ HM.out).below rec hb hg2)
      obtain ⟨C, hC⟩ : ∃ C : Nat, C = m + 1 * k := ⟨_, rfl⟩
      have hC2 : C + 1 ≤ 8000000 := by omega
      have hC0 : 0 < C := by omega
      rw [← hC] at HA ⊢
      have HC := Lib.hid hC
      clear hC
      have hgr : g < wr.heap.size := Nat.lt_of_lt_of_le hg2 hb.size
      have k0 : 0 ≤ (k : Int) := by omega
      have k1 : (k : Int) < (n : Int) := by omega
      have p0 : wr.cell? ⟨g, k, none⟩ = some (.int .i64 (C : Int)) := by have := cells HA.out; simp only [rec_n, Nat.mul_one] at this; exact this
      have hne : ((C : Int) != (C : Int)) = false := by simp
      have hb2 := hb
      go_wp2_with fail
      go_roundw
      case rel =>
        refine ⟨k + 1, by omega, by go_num, ?_, hb2⟩
        have := HC.out
        congr 1
        omega
      case measure => simp [intOf]; omega
    · obtain rfl : k = n := by omega
      go_wp2_with fail
      go_ret
      exact ⟨rfl, hb⟩
end Go.Proofs.Ytmbffcblhhippaa.LInt
namespace Go.Proofs.Ytmbffcblhhippaa.LShare
open Go.RowKit Bs MarkT
set_option linter.unusedVariables false
/-- the record that is written where the count stands at c -/
def mk (c : Nat) : R := ⟨c, (c : Int) + 1, (c : Int) + 1 + 1⟩
def marks (m : Nat) (ys : List R) (k : Nat) : List R := (List.range k).map (fun j => mk (m + 3 * j)) ++ ys.drop k
theorem marks_zero (m : Nat) (ys : List R) : marks m ys 0 = ys := by simp [marks]
theorem marks_len (m k : Nat) (ys : List R) (hk : k ≤ ys.length) : (marks m ys k).length = ys.length := by simp [marks]; omega
theorem marks_at (m k : Nat) (ys : List R) (hk : k < ys.length) : (marks m ys k)[k]? = some ys[k] := by
  unfold marks
  have hl : ((List.range k).map fun j => mk (m + 3 * j)).length = k := by simp
  rw [List.getElem?_append_right (by omega), hl, Nat.sub_self, List.getElem?_drop, Nat.add_zero, List.getElem?_eq_getElem hk]
theorem marks_set (m k : Nat) (ys : List R) (hk : k < ys.length) : (marks m ys k).set k (mk (m + 3 * k)) = marks m ys (k + 1) := by
  unfold marks
  have hl : ((List.range k).map fun j => mk (m + 3 * j)).length = k := by simp
  rw [List.set_append_right _ _ (by omega), hl, Nat.sub_self, List.drop_eq_getElem_cons hk, List.set_cons_zero, List.range_succ, List.map_append, List.append_assoc]
  rfl
theorem marks_all (m : Nat) (ys : List R) (j : Nat) (hj : j < ys.length) : (marks m ys ys.length)[j]? = some (mk (m + 3 * j)) := by
  unfold marks
  rw [List.getElem?_append_left (by simpa using hj), List.getElem?_map, List.getElem?_range hj]
  rfl
theorem put0 {w : World} {A g n cap : Nat} {ys : List R} (hn : ys.length = n) (h : OwnR w A g n cap ys) (k : Nat) (r0 r : R) (hr : ys[k]? = some r0) :
    OwnR (((w.setCell ⟨g, k * 3, none⟩ (.int .i64 r.member)).setCell ⟨g, k * 3 + 1, none⟩ (.int .i64 r.turns)).setCell ⟨g, k * 3 + 2, none⟩ (.int .i64 r.seconds)) A g n cap (ys.set k { r0 with member := r.member, turns := r.turns, seconds := r.seconds }) := by
  have hk : k < ys.length := (List.getElem?_eq_some_iff.1 hr).1
  have at_ : ∀ x : R, (ys.set k x)[k]? = some x := fun x => by simp [hk]
  have hl : ∀ x : R, (ys.set k x).length = n := fun x => by rw [List.length_set]; exact hn
  have h0 := Own.put hn h k 0 r0 ({ r0 with member := r.member }) (.int .i64 r.member) hr (by decide) rfl
  have h1 := Own.put (hl _) h0 k 1 _ ({ r0 with member := r.member, turns := r.turns }) (.int .i64 r.turns) (at_ _) (by decide) rfl
  rw [List.set_set] at h1
  have h2 := Own.put (hl _) h1 k 2 _ ({ r0 with member := r.member, turns := r.turns, seconds := r.seconds }) (.int .i64 r.seconds) (at_ _) (by decide) rfl
  rw [List.set_set] at h2
  exact h2
def Marked (w : World) (A B m : Nat) (v : Value) (ys : List R) (e : Ending) (w' : World) : Prop :=
  e = .returned (.int .i64 (m + 3 * ys.length : Nat)) ∧ OwnB rec 60 A B v (marks m ys ys.length) w' ∧ Apart A B w w'
theorem mark0 (A B m : Nat) (a : Option Addr) (c : Nat) (w : World) (h : OwnB rec 60 A B (.slice a 0 c) [] w) :
    Calls Try.prog 42 #[.slice a 0 c, .int .i64 m] w (Marked w A B m (.slice a 0 c) []) := by
  have HO := Lib.hid h
  clear h
  go_enter Try.func42, Try.ntmps42
  go_wp2_with fail
  go_loop [1, 5] (fun q i => q = .int .i64 m ∧ i = .int .i64 0) (fun _ i => 0)
  case atStart => exact ⟨rfl, rfl⟩
  case round =>
    obtain ⟨rfl, rfl⟩ := hrel
    go_wp2_with fail
    go_ret
    exact ⟨rfl, HO.out, Apart.refl _ _ _⟩
set_option maxHeartbeats 1600000 in
theorem markS (A B m : Nat) (v : Value) (ys : List R) (w : World) (hm0 : 0 < m) (hm : m + 3 * ys.length ≤ 8000000) (h : OwnB rec 60 A B v ys w) :
    Calls Try.prog 42 #[v, .int .i64 m] w (Marked w A B m v ys) := by
  rcases h.1.shape with ⟨rfl, rfl⟩ | ⟨g, cap, rfl, hg1, hg2, hcap, hcm⟩
  · exact mark0 A B m _ _ w h
  have hgB : g < B := h.2 g rfl
  unfold maxLen at hcm
  have HB := Lib.hid h.2
  obtain ⟨n, hn⟩ : ∃ n, n = ys.length := ⟨_, rfl⟩
  have HN := Lib.hid hn.symm
  have HO0 := Lib.hid (show OwnR w A g n cap (marks m ys 0) by rw [marks_zero, hn]; exact h.1)
  have hln : n ≤ ys.length := by omega
  rw [← hn] at hm hcap
  rw [show ys.length = n from hn.symm]
  clear h hn
  go_enter Try.func42, Try.ntmps42
  go_wp2_with fail
  go_loopw [1, 5] (fun q i wr => ∃ k : Nat, k ≤ n ∧ i = .int .i64 k ∧ q = .int .i64 (m + 3 * k : Nat) ∧ Hid (OwnR wr A g n cap (marks m ys k)) ∧ Hid (Apart A B w wr)) (fun _ i _ => n - (intOf i).toNat)
  case atStart => exact ⟨0, Nat.zero_le _, rfl, rfl, HO0, Lib.hid (Apart.refl A B w)⟩
  case round =>
    clear HO0
    obtain ⟨k, hk, rfl, rfl, HR, HTu⟩ := hrel
    by_cases hlt : k < n
    · have hx : k < ys.length := by omega
      have HY := Lib.hid (marks_at m k ys hx)
      have HSet := Lib.hid (marks_set m k ys hx)
      have HLen := Lib.hid (show (marks m ys k).length = n by rw [marks_len m k ys (by omega)]; exact HN.out)
      have HLk := Lib.hid (show k < (marks m ys k).length by rw [HLen.out]; exact hlt)
      obtain ⟨C, hC⟩ : ∃ C : Nat, C = m + 3 * k := ⟨_, rfl⟩
      have hC2 : C + 3 ≤ 8000000 := by omega
      have hC0 : 0 < C := by omega
      rw [← hC] at HSet ⊢
      have HC := Lib.hid hC
      clear hC
      generalize ys[k] = Y at *
      generalize marks m ys k = M at *
      obtain ⟨q0, q1, q2⟩ := cells (Own.at_ HR.out k _ HY.out)
      simp only [rec_n] at q0 q1 q2
      have hf := Own.frozen HLen.out HR.out
      have HPz := Lib.hid (put0 HLen.out HR.out k _ (mk C) HY.out)
      have HPy := Lib.hid (show OwnR _ A g n cap (marks m ys (k + 1)) from by
        have h := HPz.out
        (try simp only [List.set_set] at h)
        rw [← HSet.out]
        exact h)
      have HAz := Lib.hid (show Apart A B w _ from (((HTu.out.set (p := ⟨g, k * 3, none⟩) hg1 hgB (.int .i64 (mk C).member)).set (p := ⟨g, k * 3 + 1, none⟩) hg1 hgB (.int .i64 (mk C).turns)).set (p := ⟨g, k * 3 + 2, none⟩) hg1 hgB (.int .i64 (mk C).seconds)))
      go_wp2_with fail
      go_roundw
      case rel =>
        refine ⟨k + 1, by omega, by go_num, ?_, HPy, HAz⟩
        have := HC.out
        congr 1
        omega
      case measure => simp [intOf]; omega
    · obtain rfl : k = n := by omega
      go_wp2_with fail
      go_ret
      refine ⟨by rw [HN.out]; rfl, ⟨?_, HB.out⟩, HTu.out⟩
      rw [HN.out]
      exact HR.out
theorem held0 (m : Nat) (a : Option Addr) (c : Nat) (w : World) :
    Calls Try.prog 43 #[.slice a 0 c, .int .i64 m] w fun e w' => e = .returned (.int .i64 m) ∧ Below w.heap.size w w' := by
  go_enter Try.func43, Try.ntmps43
  go_wp2_with fail
  go_loop [1, 5] (fun q i => q = .int .i64 m ∧ i = .int .i64 0) (fun _ i => 0)
  case atStart => exact ⟨rfl, rfl⟩
  case round =>
    obtain ⟨rfl, rfl⟩ := hrel
    go_wp2_with fail
    go_ret
    exact ⟨rfl, Below.refl _ _⟩
set_option maxRecDepth 100000 in
set_option maxHeartbeats 1600000 in
theorem heldS (A m : Nat) (v : Value) (ys : List R) (w : World) (hm0 : 0 < m) (hm : m + 3 * ys.length ≤ 8000000) (h : Own rec 60 w A v (marks m ys ys.length)) :
    Calls Try.prog 43 #[v, .int .i64 m] w fun e w' => e = .returned (.int .i64 (m + 3 * ys.length : Nat)) ∧ Below w.heap.size w w' := by
  have hml := marks_len m ys.length ys (Nat.le_refl _)
  rcases h.shape with ⟨rfl, hz⟩ | ⟨g, cap, rfl, hg1, hg2, hcap, hcm⟩
  · rw [hz] at hml
    obtain rfl := List.eq_nil_of_length_eq_zero hml.symm
    exact held0 m _ _ w
  unfold maxLen at hcm
  obtain ⟨n, hn⟩ : ∃ n, n = ys.length := ⟨_, rfl⟩
  have HN := Lib.hid hn.symm
  rw [hml, ← hn] at hcap
  have HO := Lib.hid (show OwnR w A g n cap (marks m ys n) by rw [hml, ← hn] at h; exact h)
  rw [hml]
  rw [← hn] at hm ⊢
  have hln : n ≤ ys.length := by omega
  clear h hn hml
  go_enter Try.func43, Try.ntmps43
  go_wp2_with fail
  go_loopw [1, 5] (fun q i wr => ∃ k : Nat, k ≤ n ∧ i = .int .i64 k ∧ q = .int .i64 (m + 3 * k : Nat) ∧ Below w.heap.size w wr) (fun _ i _ => n - (intOf i).toNat)
  case atStart => exact ⟨0, Nat.zero_le _, rfl, rfl, Below.refl _ _⟩
  case round =>
    obtain ⟨k, hk, rfl, rfl, hb⟩ := hrel
    by_cases hlt : k < n
    · have hx : k < ys.length := by omega
      have HM := Lib.hid (marks_all m ys k hx)
      rw [HN.out] at HM
      have HA := Lib.hid ((Own.at_ HO.out k _ HM.out).below rec hb hg2)
      obtain ⟨C, hC⟩ : ∃ C : Nat, C = m + 3 * k := ⟨_, rfl⟩
      have hC2 : C + 3 ≤ 8000000 := by omega
      have hC0 : 0 < C := by omega
      rw [← hC] at HA ⊢
      have HC := Lib.hid hC
      clear hC
      have hgr : g < wr.heap.size := Nat.lt_of_lt_of_le hg2 hb.size
      have k0 : 0 ≤ (k : Int) := by omega
      have k1 : (k : Int) < (n : Int) := by omega
      have p0 : wr.cell? ⟨g, k * 3, none⟩ = some (.int .i64 (C : Int)) := (cells HA.out).1
      have p1 : wr.cell? ⟨g, k * 3 + 1, none⟩ = some (.int .i64 ((C : Int) + 1)) := (cells HA.out).2.1
      have p2 : wr.cell? ⟨g, k * 3 + 2, none⟩ = some (.int .i64 ((C : Int) + 1 + 1)) := (cells HA.out).2.2
      go_wp2_with fail
      go_roundw
      case rel =>
        refine ⟨k + 1, by omega, by go_num, ?_, hb⟩
        have := HC.out
        congr 1
        omega
      case measure => simp [intOf]; omega
    · obtain rfl : k = n := by omega
      go_wp2_with fail
      go_ret
      exact ⟨rfl, hb⟩
end Go.Proofs.Ytmbffcblhhippaa.LShare
namespace Go.Proofs.Ytmbffcblhhippaa.LFloor
open Go.RowKit Bs
set_option linter.unusedVariables false
def mks (m : Nat) (r : R) : R := { r with waiting := LInt.marks m r.waiting r.waiting.length, shares := LShare.marks (m + 1 * r.waiting.length) r.shares r.shares.length }
def Marked (w : World) (A B m : Nat) (v : Value) (r : R) (e : Ending) (w' : World) : Prop :=
  e = .returned (.int .i64 (m + 1 * r.waiting.length + 3 * r.shares.length : Nat)) ∧ OwnB A B v (mks m r) w' ∧ Apart A B w w'
def MarkedN (w : World) (A B N m : Nat) (v : Value) (r : R) (e : Ending) (w' : World) : Prop :=
  e = .returned (.int .i64 (N : Nat)) ∧ OwnB A B v (mks m r) w' ∧ Apart A B w w'
set_option maxRecDepth 100000 in
set_option maxHeartbeats 800000 in
theorem mark (A B m : Nat) (v : Value) (r : R) (w : World) (hm0 : 0 < m) (hm : m + 1 * r.waiting.length + 3 * r.shares.length ≤ 8000000) (hB : B ≤ w.heap.size) (h : OwnB A B v r w) :
    Calls Try.prog 14 #[v, .int .i64 m] w (Marked w A B m v r) := by
  obtain ⟨s3, s4, rfl, h3, h4, d3_4⟩ := OwnB.slices h
  obtain ⟨W0, hW⟩ : ∃ W : World, W = w.alloc (.cells #[.int .i64 r.turns, .int .i64 r.seconds, .int .i64 r.speaking, s3, s4] 29) := ⟨_, rfl⟩
  have hb : Below w.heap.size w W0 := by rw [hW]; exact (Below.refl _ _).alloc (Nat.le_refl _) _
  have HA := Lib.hid (show Apart A B w W0 from Apart.of_below hb)
  have HS := Lib.hid hb.size
  obtain ⟨A3, B3, hn3, hA3, hB3, ht3, hs3⟩ := own_tight hB h3
  have HT3 := Lib.hid ((Bs.OwnB.loc ht3 (Nat.le_trans hB3 hB)).kept hb)
  have HR3 := Lib.hid (And.intro hA3 (And.intro hn3 hB3))
  obtain ⟨A4, B4, hn4, hA4, hB4, ht4, hs4⟩ := own_tight hB h4
  have HT4 := Lib.hid ((Bs.OwnB.loc ht4 (Nat.le_trans hB4 hB)).kept hb)
  have HR4 := Lib.hid (And.intro hA4 (And.intro hn4 hB4))
  have DD3_4 := Lib.hid d3_4
  have HD3_4 := Lib.hid (tight_apart d3_4 hs3 hs4)
  have BX0 := Lib.hid (show Bs.Loc w.heap.size (w.heap.size + 1) (fun W => Bx W w.heap.size 29 #[.int .i64 r.turns, .int .i64 r.seconds, .int .i64 r.speaking, s3, s4]) W0 by rw [hW]; exact Bx.loc (Bx.new _ _ _))
  obtain ⟨N1, hN1⟩ : ∃ N : Nat, N = m + 1 * r.waiting.length := ⟨_, rfl⟩
  have HN1 := Lib.hid hN1
  obtain ⟨N2, hN2⟩ : ∃ N : Nat, N = m + 1 * r.waiting.length + 3 * r.shares.length := ⟨_, rfl⟩
  have HN2 := Lib.hid hN2
  rw [show Marked w A B m _ r = MarkedN w A B N2 m _ r by unfold Marked MarkedN; rw [← hN2]]
  have hm2 : N2 ≤ 8000000 := by omega
  clear hN1 hN2
  clear h h3 ht3 hs3 hA3 hB3 hn3 h4 ht4 hs4 hA4 hB4 hn4 d3_4
  go_enter Try.func14, Try.ntmps14
  go_wp2_with fail
  rw [← hW]
  clear hW hb
  refine (LInt.markS A3 B3 m s3 r.waiting W0 (by omega) (by omega) HT3.out.now).mono ?_
  rintro e W1 ⟨rfl, ho, hap⟩
  rw [← HN1.out]
  have hw1 := hap.size
  replace HT4 := Lib.hid (HT4.out.apart hap HD3_4.out.symm)
  replace HT3 := Lib.hid (Bs.OwnB.loc ho (by have := HR3.out; have := HS.out; omega))
  replace HA := Lib.hid (HA.out.trans (apart_wide hap HR3.out.1 HR3.out.2.1 HR3.out.2.2))
  replace BX0 := Lib.hid (BX0.out.apart hap (.inr (by have := HR3.out; have := HS.out; omega)))
  have q4 := BX0.out.now.cell 4
  simp only [List.getElem?_toArray, List.getElem?_cons_zero, List.getElem?_cons_succ] at q4
  clear ho hap
  go_wp2_with fail
  rw [HN1.out]
  refine (LShare.markS A4 B4 (m + 1 * r.waiting.length) s4 r.shares W1 (by omega) (by omega) HT4.out.now).mono ?_
  rintro e W2 ⟨rfl, ho, hap⟩
  rw [← HN2.out]
  have hw2 := hap.size
  replace HT3 := Lib.hid (HT3.out.apart hap HD3_4.out)
  replace HT4 := Lib.hid (Bs.OwnB.loc ho (by have := HR4.out; have := HS.out; omega))
  replace HA := Lib.hid (HA.out.trans (apart_wide hap HR4.out.1 HR4.out.2.1 HR4.out.2.2))
  clear ho hap
  go_wp2_with fail
  go_ret
  exact ⟨rfl, ⟨⟨s3, s4, rfl, own_wide HT3.out.now HR3.out.1, own_wide HT4.out.now HR4.out.1, DD3_4.out⟩, bnd_of (r := mks m r) ⟨(fun k hk => Nat.lt_of_lt_of_le (HT3.out.now.2 k hk) HR3.out.2.2), (fun k hk => Nat.lt_of_lt_of_le (HT4.out.now.2 k hk) HR4.out.2.2)⟩ rfl⟩, HA.out⟩
set_option maxRecDepth 100000 in
set_option maxHeartbeats 800000 in
theorem held (A m : Nat) (v : Value) (r : R) (w : World) (hm0 : 0 < m) (hm : m + 1 * r.waiting.length + 3 * r.shares.length ≤ 8000000) (h : Own w A v (mks m r)) :
    Calls Try.prog 15 #[v, .int .i64 m] w fun e w' => e = .returned (.int .i64 (m + 1 * r.waiting.length + 3 * r.shares.length : Nat)) ∧ Below w.heap.size w w' := by
  obtain ⟨s3, s4, rfl, h3, h4, d3_4⟩ := h
  obtain ⟨W0, hW⟩ : ∃ W : World, W = w.alloc (.cells #[.int .i64 (mks m r).turns, .int .i64 (mks m r).seconds, .int .i64 (mks m r).speaking, s3, s4] 29) := ⟨_, rfl⟩
  have hb : Below w.heap.size w W0 := by rw [hW]; exact (Below.refl _ _).alloc (Nat.le_refl _) _
  have BX0 := Lib.hid (show Bx W0 w.heap.size 29 #[.int .i64 (mks m r).turns, .int .i64 (mks m r).seconds, .int .i64 (mks m r).speaking, s3, s4] by rw [hW]; exact Bx.new _ _ _)
  have HO3 := Lib.hid (show Bs.Own LInt.rec 3 W0 A s3 (LInt.marks m r.waiting r.waiting.length) from Bs.Own.kept h3 hb)
  have HO4 := Lib.hid (show Bs.Own LShare.rec 60 W0 A s4 (LShare.marks (m + 1 * r.waiting.length) r.shares r.shares.length) from Bs.Own.kept h4 hb)
  obtain ⟨N1, hN1⟩ : ∃ N : Nat, N = m + 1 * r.waiting.length := ⟨_, rfl⟩
  have HN1 := Lib.hid hN1
  obtain ⟨N2, hN2⟩ : ∃ N : Nat, N = m + 1 * r.waiting.length + 3 * r.shares.length := ⟨_, rfl⟩
  have HN2 := Lib.hid hN2
  clear h3 h4
  have ne1 : ¬ ((N1 : Int) < 0) := by omega
  have ne2 : ¬ ((N2 : Int) < 0) := by omega
  have HMO := Lib.hid hm
  rw [← hN2] at hm ⊢
  clear hN1 hN2
  go_enter Try.func15, Try.ntmps15
  go_wp2_with fail
  rw [← hW]
  clear hW
  refine (LInt.heldS A m s3 r.waiting W0 (by omega) (by have := HMO.out; omega) HO3.out).mono ?_
  rintro e W1 ⟨rfl, hb1⟩
  rw [← HN1.out]
  replace hb := hb.trans (hb1.mono hb.size)
  replace HO4 := Lib.hid (HO4.out.kept hb1)
  replace BX0 := Lib.hid (BX0.out.kept hb1)
  have q4 := BX0.out.cell 4
  simp only [List.getElem?_toArray, List.getElem?_cons_zero, List.getElem?_cons_succ] at q4
  clear hb1
  go_wp2_with fail
  rw [HN1.out]
  refine (LShare.heldS A (m + 1 * r.waiting.length) s4 r.shares W1 (by omega) (by have := HMO.out; omega) HO4.out).mono ?_
  rintro e W2 ⟨rfl, hb1⟩
  rw [← HN2.out]
  replace hb := hb.trans (hb1.mono hb.size)
  clear hb1
  go_wp2_with fail
  go_ret
  exact ⟨rfl, hb⟩
end Go.Proofs.Ytmbffcblhhippaa.LFloor
namespace Go.Proofs.Ytmbffcblhhippaa.Opn
open Go.ChangeShapes Go.WideShapes Go.Deep
set_option linter.unusedVariables false

inductive K | i64 | str | bool
def K.und : K → TypeDesc
  | .i64 => .int .i64
  | .str => .string
  | .bool => .bool
/-- the value is one of the kind -/
def K.is : K → Value → Prop
  | .i64, v => ∃ n, v = .int .i64 n ∧ (Lit.int .i64 n).wf = true
  | .str, v => ∃ s : ByteArray, v = .string s ∧ s.size ≤ maxLen
  | .bool, v => ∃ b, v = .bool b
section
variable {H : Type} {enc : TypeId × Value → H} {P : Program} {w : World} {base : Nat} {spare : Nat → Bool} {held : Bool}
theorem is_of {k : K} {t : TypeId} {v : Value} {fuel : Nat} {y : DataW H × List MemPlace} (ht : P.underlying t = some k.und) (h : DataW.trod enc P w base spare held fuel t [v] = some y) : k.is v := by
  cases k with
  | i64 => obtain ⟨n, hc, _, hw⟩ := DataW.trod_int ht h; simp only [List.cons.injEq, and_true] at hc; exact ⟨n, hc, hw⟩
  | str => obtain ⟨s, hc, _, hw⟩ := DataW.trod_string ht h; simp only [List.cons.injEq, and_true] at hc; exact ⟨s, hc, hw⟩
  | bool => obtain ⟨b, hc, _⟩ := DataW.trod_bool ht h; simp only [List.cons.injEq, and_true] at hc; exact ⟨b, hc⟩
/-- the kinds of the fields are these -/
def kindsB (P : Program) (fs : Array Field) (ks : List K) : Prop := fs.toList.map (fun f => P.underlying f.type) = ks.map (fun k => some k.und)
theorem struct_is {t : TypeId} {fs : Array Field} {ks : List K} {fuel : Nat} {cs : List Value} {x : DataW H × List MemPlace} (hs : P.underlying t = some (.struct fs)) (hone : oneCellFields P fs = true) (hC : P.cellsOf t = fs.size)
    (hk : kindsB P fs ks) (h : DataW.trod enc P w base spare held fuel t cs = some x) : cs.length = ks.length ∧ ∀ (j : Nat) (k : K), ks[j]? = some k → ∃ v, cs[j]? = some v ∧ k.is v := by
  obtain ⟨ys, n, _, _, hlen, hyl, hf⟩ := DataW.trod_struct hs h
  have hkl : fs.size = ks.length := by have := congrArg List.length hk; simpa using this
  refine ⟨by omega, fun j k hj => ?_⟩
  have hjl : j < fs.size := by have := (List.getElem?_eq_some_iff.1 hj).1; omega
  have hfj : fs[j]? = some fs[j] := Array.getElem?_eq_getElem hjl
  obtain ⟨ho, hc⟩ := hone_of hone j fs[j] hfj
  have h1 := hf j fs[j] hfj
  have hjc : j < cs.length := by omega
  have hcs : (cs.drop fs[j].offset).take (P.cellsOf fs[j].type) = [cs[j]] := by
    rw [ho, hc, List.drop_eq_getElem_cons hjc]
    rfl
  rw [hcs] at h1
  have hy : j < ys.length := by omega
  rw [List.getElem?_eq_getElem hy] at h1
  refine ⟨cs[j], List.getElem?_eq_getElem hjc, is_of (k := k) ?_ h1⟩
  have := congrArg (fun l => l[j]?) hk
  simp only [List.getElem?_map, hj, Option.map_some, Array.getElem?_toList, hfj] at this
  exact Option.some.inj this
/-- a slice of such structs -/
theorem slice_is {t e : TypeId} {fs : Array Field} {ks : List K} {fuel : Nat} {cs : List Value} {x : DataW H × List MemPlace} (ht : P.underlying t = some (.slice e)) (hs : P.underlying e = some (.struct fs)) (hone : oneCellFields P fs = true) (hC : P.cellsOf e = fs.size)
    (hk : kindsB P fs ks) (h : DataW.trod enc P w base spare held fuel t cs = some x) :
    cs = [.slice none 0 0] ∨
    ∃ (a : Addr) (len cap : Nat), cs = [.slice (some a) len cap] ∧ len ≤ cap ∧ cap ≤ maxLen ∧ ∀ i, i < len → ∃ vs : List Value, vs.length = ks.length ∧ (∀ (j : Nat) (k : K), ks[j]? = some k → ∃ v, vs[j]? = some v ∧ k.is v) ∧ ∀ j, j < ks.length → w.cell? (a.add (i * ks.length + j)) = vs[j]? := by
  rcases open_slice ht h with ⟨h0, _⟩ | ⟨a, len, cap, m, n, D, Pl, hcs, hb, hl, hm, hmm, hx, hi⟩
  · exact .inl h0
  · have hkl : fs.size = ks.length := by have := congrArg List.length hk; simpa using this
    refine .inr ⟨a, len, cap, hcs, hl, hm, fun i him => ?_⟩
    have him' : i < m := by rw [hmm]; split <;> omega
    obtain ⟨vs, hc, ht'⟩ := hi i him'
    obtain ⟨hlen, hall⟩ := struct_is hs hone hC hk ht'
    obtain ⟨_, hcl, hat⟩ := World.cells?_some hc
    rw [hC, hkl] at hat
    refine ⟨vs, hlen, hall, fun j hj => ?_⟩
    have := hat j hj
    rw [Go.Deep.add_add] at this
    exact this
end
end Go.Proofs.Ytmbffcblhhippaa.Opn
namespace Go.Proofs.Ytmbffcblhhippaa.LInt
open Go.RowKit Bs
set_option linter.unusedVariables false
def wt (r : R) : Nat := 0
def Fine (r : R) : Prop := True
def tot (xs : List R) : Nat := (xs.map wt).sum
theorem tot_next (xs : List R) (k : Nat) (h : k < xs.length) : tot (xs.take (k + 1)) = tot (xs.take k) + wt xs[k] := by
  rw [List.take_succ_eq_append_getElem h]; unfold tot; rw [List.map_append, List.sum_append]; simp
theorem tot_take_le (xs : List R) (k : Nat) : tot (xs.take k) ≤ tot xs := by
  have := congrArg tot (List.take_append_drop k xs)
  have e : ∀ a b : List R, tot (a ++ b) = tot a + tot b := fun a b => by simp [tot]
  rw [e] at this
  omega
theorem mem_le (xs : List R) (x : R) (h : x ∈ xs) : wt x ≤ tot xs := by
  induction xs with
  | nil => cases h
  | cons y ys ih =>
    simp only [tot, List.map_cons, List.sum_cons] at ih ⊢
    rcases List.mem_cons.1 h with rfl | h
    · omega
    · have := ih h; omega
end Go.Proofs.Ytmbffcblhhippaa.LInt
namespace Go.Proofs.Ytmbffcblhhippaa.LInt
open Go.RowKit Bs
set_option linter.unusedVariables false
/-- what is left behind something of a weight -/
def Left (t : Nat) (l : Int) (w : World) (e : Ending) (w' : World) : Prop := Below w.heap.size w w' ∧ ∃ x : Int, e = .returned (.int .i64 x) ∧ ((x < 0 ∧ l < t) ∨ (x = l - t ∧ (t : Int) ≤ l))
set_option maxHeartbeats 400000 in
theorem szS (v : Value) (xs : List R) (l : Int) (w : World) (h0 : 0 ≤ l) (hl : l ≤ 1048576) (h : Is rec w v xs) (hsm : ∀ x ∈ xs, Fine x) :
    Calls Try.prog 29 #[v, .int .i64 l] w (Left (xs.length + tot xs) l w) := by
  obtain ⟨a, cp, rfl, h⟩ := h
  have hc := h.at_ rec
  obtain ⟨n, hn⟩ : ∃ n, n = xs.length := ⟨_, rfl⟩
  have hnb : n ≤ cp := by have := h.1; omega
  have h2 := h.2.1
  unfold maxLen at h2
  have HN := Lib.hid hn.symm
  have HSM := Lib.hid hsm
  rw [← hn]
  have hle : n ≤ xs.length := by omega
  clear hn hsm h
  by_cases hbig : l < n
  · go_enter Try.func29, Try.ntmps29
    go_wp2_with fail
    go_ret
    exact ⟨Below.refl _ _, -1, rfl, .inl ⟨by omega, by omega⟩⟩
  · have HT := Lib.hid (show tot xs = 0 from by clear h0 hl hc hle HN HSM h2 hnb hbig; induction xs with | nil => rfl | cons x t ih => (simp only [tot, List.map_cons, List.sum_cons] at ih ⊢; rw [ih]; rfl))
    go_enter Try.func29, Try.ntmps29
    go_wp2_with fail
    go_ret
    exact ⟨Below.refl _ _, _, rfl, .inr ⟨by rw [HT.out]; omega, by rw [HT.out]; omega⟩⟩
end Go.Proofs.Ytmbffcblhhippaa.LInt
namespace Go.Proofs.Ytmbffcblhhippaa.LShare
open Go.RowKit Bs
set_option linter.unusedVariables false
def wt (r : R) : Nat := 0
def Fine (r : R) : Prop := True
def tot (xs : List R) : Nat := (xs.map wt).sum
theorem tot_next (xs : List R) (k : Nat) (h : k < xs.length) : tot (xs.take (k + 1)) = tot (xs.take k) + wt xs[k] := by
  rw [List.take_succ_eq_append_getElem h]; unfold tot; rw [List.map_append, List.sum_append]; simp
theorem tot_take_le (xs : List R) (k : Nat) : tot (xs.take k) ≤ tot xs := by
  have := congrArg tot (List.take_append_drop k xs)
  have e : ∀ a b : List R, tot (a ++ b) = tot a + tot b := fun a b => by simp [tot]
  rw [e] at this
  omega
theorem mem_le (xs : List R) (x : R) (h : x ∈ xs) : wt x ≤ tot xs := by
  induction xs with
  | nil => cases h
  | cons y ys ih =>
    simp only [tot, List.map_cons, List.sum_cons] at ih ⊢
    rcases List.mem_cons.1 h with rfl | h
    · omega
    · have := ih h; omega
/-- what is left behind something of a weight -/
def Left (t : Nat) (l : Int) (w : World) (e : Ending) (w' : World) : Prop := Below w.heap.size w w' ∧ ∃ x : Int, e = .returned (.int .i64 x) ∧ ((x < 0 ∧ l < t) ∨ (x = l - t ∧ (t : Int) ≤ l))
set_option maxHeartbeats 400000 in
theorem szS (v : Value) (xs : List R) (l : Int) (w : World) (h0 : 0 ≤ l) (hl : l ≤ 1048576) (h : Is rec w v xs) (hsm : ∀ x ∈ xs, Fine x) :
    Calls Try.prog 30 #[v, .int .i64 l] w (Left (xs.length + tot xs) l w) := by
  obtain ⟨a, cp, rfl, h⟩ := h
  have hc := h.at_ rec
  obtain ⟨n, hn⟩ : ∃ n, n = xs.length := ⟨_, rfl⟩
  have hnb : n ≤ cp := by have := h.1; omega
  have h2 := h.2.1
  unfold maxLen at h2
  have HN := Lib.hid hn.symm
  have HSM := Lib.hid hsm
  rw [← hn]
  have hle : n ≤ xs.length := by omega
  clear hn hsm h
  by_cases hbig : l < n
  · go_enter Try.func30, Try.ntmps30
    go_wp2_with fail
    go_ret
    exact ⟨Below.refl _ _, -1, rfl, .inl ⟨by omega, by omega⟩⟩
  · have HT := Lib.hid (show tot xs = 0 from by clear h0 hl hc hle HN HSM h2 hnb hbig; induction xs with | nil => rfl | cons x t ih => (simp only [tot, List.map_cons, List.sum_cons] at ih ⊢; rw [ih]; rfl))
    go_enter Try.func30, Try.ntmps30
    go_wp2_with fail
    go_ret
    exact ⟨Below.refl _ _, _, rfl, .inr ⟨by rw [HT.out]; omega, by rw [HT.out]; omega⟩⟩
end Go.Proofs.Ytmbffcblhhippaa.LShare
namespace Go.Proofs.Ytmbffcblhhippaa.LFloor
open Go.RowKit Bs
set_option linter.unusedVariables false
def Fine (r : R) : Prop := (∀ x ∈ r.waiting, LInt.Fine x) ∧ (∀ x ∈ r.shares, LShare.Fine x)
def wt (r : R) : Nat := (r.waiting.length + LInt.tot r.waiting) + (r.shares.length + LShare.tot r.shares)
def Left (t : Nat) (l : Int) (w : World) (e : Ending) (w' : World) : Prop := Below w.heap.size w w' ∧ ∃ x : Int, e = .returned (.int .i64 x) ∧ ((x < 0 ∧ l < t) ∨ (x = l - t ∧ (t : Int) ≤ l))
set_option maxRecDepth 100000 in
set_option maxHeartbeats 800000 in
theorem sz (v : Value) (r : R) (l : Int) (w : World) (h0 : 0 ≤ l) (hl : l ≤ 1048576) (h : Is w v r) (hf : Fine r) :
    Calls Try.prog 9 #[v, .int .i64 l] w (Left (wt r) l w) := by
  obtain ⟨s3, s4, rfl, h3, h4⟩ := h
  obtain ⟨a3, cp3, rfl, h3⟩ := h3
  obtain ⟨a4, cp4, rfl, h4⟩ := h4
  obtain ⟨W0, hW⟩ : ∃ W : World, W = w.alloc (.cells #[.int .i64 r.turns, .int .i64 r.seconds, .int .i64 r.speaking, .slice a3 r.waiting.length cp3, .slice a4 r.shares.length cp4] 25) := ⟨_, rfl⟩
  have hb0 : Below w.heap.size w W0 := by rw [hW]; exact (Below.refl _ _).alloc (Nat.le_refl _) _
  have BX0 := Lib.hid (show Bx W0 w.heap.size 25 #[.int .i64 r.turns, .int .i64 r.seconds, .int .i64 r.speaking, .slice a3 r.waiting.length cp3, .slice a4 r.shares.length cp4] by rw [hW]; exact Bx.new _ _ _)
  have HI3 := Lib.hid (Bs.Is.below _ ⟨a3, cp3, rfl, h3⟩ hb0)
  have HI4 := Lib.hid (Bs.Is.below _ ⟨a4, cp4, rfl, h4⟩ hb0)
  clear h3 h4
  have HF := Lib.hid hf
  clear hf
  have HWT := Lib.hid (show wt r = (r.waiting.length + LInt.tot r.waiting) + (r.shares.length + LShare.tot r.shares) from rfl)
  obtain ⟨t3, ht3⟩ : ∃ t, t = r.waiting.length + LInt.tot r.waiting := ⟨_, rfl⟩
  have HT3 := Lib.hid ht3.symm
  obtain ⟨t4, ht4⟩ : ∃ t, t = r.shares.length + LShare.tot r.shares := ⟨_, rfl⟩
  have HT4 := Lib.hid ht4.symm
  rw [show Left (wt r) l w = Left (t3 + t4) l w by rw [HWT.out, ← ht3, ← ht4]]
  clear HWT
  have hbT := hb0
  clear ht3 ht4
  go_enter Try.func9, Try.ntmps9
  go_wp2_with fail
  rw [← hW]
  clear hW hb0
  refine (LInt.szS _ r.waiting _ W0 (by omega) (by omega) HI3.out HF.out.1).mono ?_
  rintro e W1 ⟨hb1, x, rfl, hx⟩
  rw [HT3.out] at hx
  have hz1 := hb1.size
  rcases hx with ⟨hx0, hxl⟩ | ⟨rfl, hxl⟩
  · have hb2 := hbT.trans (hb1.mono hbT.size)
    have HX := Lib.hid hxl
    clear hxl
    go_wp2_with fail
    go_ret
    exact ⟨hb2, -1, rfl, .inl ⟨by omega, by have := HX.out; omega⟩⟩
  replace hbT := hbT.trans (hb1.mono hbT.size)
  replace HI4 := Lib.hid (Bs.Is.below _ HI4.out hb1)
  replace BX0 := Lib.hid (BX0.out.kept hb1)
  have q4 := BX0.out.cell 4
  simp only [List.getElem?_toArray, List.getElem?_cons_zero, List.getElem?_cons_succ] at q4
  clear hb1
  go_wp2_with fail
  refine (LShare.szS _ r.shares _ W1 (by omega) (by omega) HI4.out HF.out.2).mono ?_
  rintro e W2 ⟨hb1, x, rfl, hx⟩
  rw [HT4.out] at hx
  have hz2 := hb1.size
  rcases hx with ⟨hx0, hxl⟩ | ⟨rfl, hxl⟩
  · have hb2 := hbT.trans (hb1.mono hbT.size)
    have HX := Lib.hid hxl
    clear hxl
    go_wp2_with fail
    go_ret
    exact ⟨hb2, -1, rfl, .inl ⟨by omega, by have := HX.out; omega⟩⟩
  replace hbT := hbT.trans (hb1.mono hbT.size)
  clear hb1
  go_wp2_with fail
  go_ret
  exact ⟨hbT, _, rfl, .inr ⟨by omega, by omega⟩⟩
end Go.Proofs.Ytmbffcblhhippaa.LFloor
namespace Go.Proofs.Ytmbffcblhhippaa.LInt
open Go.ChangeShapes Go.WideShapes Go.RowKit Go.Deep Opn Bs
set_option linter.unusedVariables false
/-- what a value that came in fulfils -/
def Fit (r : R) : Prop := Fine r ∧ (Lit.int .i64 r).wf = true
theorem fine_of {r : R} (h : Fit r) : Fine r := h.1
section
variable {H : Type} {enc : TypeId × Value → H} {w : World} {base : Nat} {spare : Nat → Bool} {held : Bool}
theorem one {fuel : Nat} {v : Value} {y : DataW H × List MemPlace} (h : DataW.trod enc Try.prog w base spare held fuel 3 [v] = some y) : ∃ r : R, v = .int .i64 r ∧ Fit r := by
  have ht : Try.prog.underlying 3 = some (.int .i64) := Try.underlying3
  obtain ⟨n, hc, _, hw⟩ := DataW.trod_int ht h; simp only [List.cons.injEq, and_true] at hc; exact ⟨n, hc, ⟨trivial, hw⟩⟩
/-- A slice of them that came in. -/
def IsIn (w : World) (a : Option Addr) (len cap : Nat) (xs : List R) : Prop := xs.length = len ∧ RowsAt rec w a cap xs ∧ ∀ x ∈ xs, Fit x
theorem open_many {fuel : Nat} {a : Option Addr} {len cap : Nat} {x : DataW H × List MemPlace} (hu : Try.prog.underlying 22 = some (.slice 3)) (h : DataW.trod enc Try.prog w base spare held fuel 22 [.slice a len cap] = some x) :
    ∃ xs : List R, IsIn w a len cap xs := by
  have hC : Try.prog.cellsOf 3 = 1 := by kernel_rfl
  rcases open_slice hu h with ⟨h0, _⟩ | ⟨b, l, c, m, n, D, Pl, hcs, hb, hl, hm, hmm, hx, hi⟩
  · simp only [List.cons.injEq, Value.slice.injEq, and_true] at h0
    obtain ⟨rfl, rfl, rfl⟩ := h0
    exact ⟨[], rfl, ⟨Nat.le_refl _, Nat.zero_le _, .inl rfl⟩, fun x hx => by cases hx⟩
  · simp only [List.cons.injEq, Value.slice.injEq, and_true] at hcs
    obtain ⟨rfl, rfl, rfl⟩ := hcs
    have key : ∀ i, i < len → ∃ r : R, Fit r ∧ w.cell? (b.add i) = some (.int .i64 r) := by
      intro i hi'
      have him' : i < m := by rw [hmm]; split <;> omega
      obtain ⟨vs, hc, ht'⟩ := hi i him'
      obtain ⟨_, hcl, hat⟩ := World.cells?_some hc
      rw [hC] at hcl hat
      have h0 := hat 0 (by omega)
      match vs, hcl with
      | [v], _ =>
        obtain ⟨r, rfl, fit⟩ := one ht'
        refine ⟨r, fit, ?_⟩
        rw [Go.Deep.add_add, Nat.mul_one, Nat.add_zero] at h0
        exact h0
    have build : ∀ m, m ≤ len → ∃ xs : List R, xs.length = m ∧ (∀ x ∈ xs, Fit x) ∧ ∀ i r, xs[i]? = some r → w.cell? (b.add i) = some (.int .i64 r) := by
      intro m
      induction m with
      | zero => intro _; exact ⟨[], rfl, (fun x hx => by cases hx), (fun i r hr => by simp at hr)⟩
      | succ m ih =>
        intro hm'
        obtain ⟨xs, h1, h2, h3⟩ := ih (by omega)
        obtain ⟨r, fit, hc⟩ := key m (by omega)
        refine ⟨xs ++ [r], by simp [h1], fun x hx => ?_, fun i q hq => ?_⟩
        · rcases List.mem_append.1 hx with hx | hx
          · exact h2 x hx
          · rw [List.mem_singleton.1 hx]; exact fit
        · by_cases hi : i < xs.length
          · rw [List.getElem?_append_left hi] at hq
            exact h3 i q hq
          · rw [List.getElem?_append_right (by omega)] at hq
            have hi0 : i - xs.length = 0 := by
              rcases Nat.eq_zero_or_pos (i - xs.length) with h' | h'
              · exact h'
              · rw [List.getElem?_eq_none (by simp; omega)] at hq; cases hq
            rw [hi0] at hq
            simp only [List.getElem?_cons_zero, Option.some.injEq] at hq
            subst hq
            obtain rfl : i = m := by omega
            exact hc
    obtain ⟨xs, h1, h2, h3⟩ := build len (Nat.le_refl _)
    refine ⟨xs, h1, ⟨by omega, hm, ?_⟩, h2⟩
    by_cases h0 : xs = []
    · exact .inl h0
    · have hp : 0 < xs.length := List.length_pos_iff.2 h0
      have hc0 := h3 0 xs[0] (List.getElem?_eq_getElem hp)
      obtain ⟨bb, off, spot⟩ := b
      have hspot : spot = none := by simpa [Addr.add] using World.cell?_spot hc0
      subst hspot
      refine .inr ⟨bb, off, rfl, ?_, fun j r hr => at_of ?_⟩
      · have := cell_lt hc0
        simpa [Addr.add] using this
      · have := h3 j r hr
        rw [Go.WideShapes.add_plain] at this
        rw [rec_n, Nat.mul_one]
        exact this
theorem IsIn.is {w : World} {a : Option Addr} {len cap : Nat} {xs : List R} (h : IsIn w a len cap xs) : Is rec w (.slice a len cap) xs := ⟨a, cap, by rw [h.1], h.2.1⟩
end
end Go.Proofs.Ytmbffcblhhippaa.LInt
namespace Go.Proofs.Ytmbffcblhhippaa.LShare
open Go.ChangeShapes Go.WideShapes Go.RowKit Go.Deep Opn Bs
set_option linter.unusedVariables false
def kinds : List K := [.i64, .i64, .i64]
theorem laws_kinds : ∃ fs, Try.prog.underlying 66 = some (.struct fs) ∧ oneCellFields Try.prog fs = true ∧ Try.prog.cellsOf 66 = fs.size ∧ kindsB Try.prog fs kinds :=
  ⟨_, Try.underlying66, by kernel_rfl, by kernel_rfl, by unfold kindsB; kernel_rfl⟩
/-- what a record that came in fulfils -/
def Fit (r : R) : Prop := Fine r ∧ (Lit.int .i64 r.member).wf = true ∧ (Lit.int .i64 r.turns).wf = true ∧ (Lit.int .i64 r.seconds).wf = true
theorem fine_of {r : R} (h : Fit r) : Fine r := h.1
theorem of_vals {vs : List Value} (hl : vs.length = kinds.length) (h : ∀ (j : Nat) (k : K), kinds[j]? = some k → ∃ v, vs[j]? = some v ∧ k.is v) : ∃ r : R, vs = vals r ∧ Fit r := by
  obtain ⟨v0, e0, n0, rfl, u0⟩ := h 0 .i64 rfl
  obtain ⟨v1, e1, n1, rfl, u1⟩ := h 1 .i64 rfl
  obtain ⟨v2, e2, n2, rfl, u2⟩ := h 2 .i64 rfl
  match vs, hl with
  | [x0, x1, x2], _ =>
    simp only [List.getElem?_cons_zero, List.getElem?_cons_succ, Option.some.injEq] at e0 e1 e2
    subst e0 e1 e2
    exact ⟨⟨n0, n1, n2⟩, rfl, ⟨trivial, u0, u1, u2⟩⟩
section
variable {H : Type} {enc : TypeId × Value → H} {w : World} {base : Nat} {spare : Nat → Bool} {held : Bool}
set_option maxRecDepth 100000 in
theorem open_one {r : Reach} {b0 : Nat} {v : Value} {d : DataW H} {p : List MemPlace} (hv : Value.okWide Try.prog w r b0 66 v) (h : DataW.Trod enc Try.prog w base spare held 66 v d p) :
    ∃ r : R, v = .agg #[.int .i64 r.member, .int .i64 r.turns, .int .i64 r.seconds] ∧ Fit r := by
  obtain ⟨fs, hs, hone, hC, hk⟩ := laws_kinds
  obtain ⟨cs, rfl, hsz⟩ := okWide_struct hs hv
  obtain ⟨fuel, hf⟩ := h
  obtain ⟨hl, hall⟩ := struct_is hs hone hC hk hf
  obtain ⟨r, hr, fit⟩ := of_vals hl hall
  refine ⟨r, ?_, fit⟩
  have hc : cs.toList = vals r := by simpa [Value.cells] using hr
  obtain ⟨l⟩ := cs
  simp only at hc
  rw [hc]
  rfl
/-- A slice of records that came in. -/
def IsIn (w : World) (a : Option Addr) (len cap : Nat) (xs : List R) : Prop := xs.length = len ∧ RowsAt rec w a cap xs ∧ ∀ x ∈ xs, Fit x
theorem open_many {fuel : Nat} {a : Option Addr} {len cap : Nat} {x : DataW H × List MemPlace} (hu : Try.prog.underlying 23 = some (.slice 66)) (h : DataW.trod enc Try.prog w base spare held fuel 23 [.slice a len cap] = some x) :
    ∃ xs : List R, IsIn w a len cap xs := by
  obtain ⟨fs, hs, hone, hC, hk⟩ := laws_kinds
  rcases slice_is hu hs hone hC hk h with h0 | ⟨b, l, c, hcs, hl, hm, hall⟩
  · simp only [List.cons.injEq, Value.slice.injEq, and_true] at h0
    obtain ⟨rfl, rfl, rfl⟩ := h0
    exact ⟨[], rfl, ⟨Nat.le_refl _, Nat.zero_le _, .inl rfl⟩, fun x hx => by cases hx⟩
  · simp only [List.cons.injEq, Value.slice.injEq, and_true] at hcs
    obtain ⟨rfl, rfl, rfl⟩ := hcs
    have key : ∀ i, i < len → ∃ r : R, Fit r ∧ ∀ j, j < 3 → w.cell? (b.add (i * 3 + j)) = (vals r)[j]? := by
      intro i hi
      obtain ⟨vs, hvl, hvk, hcell⟩ := hall i hi
      obtain ⟨r, hr, fit⟩ := of_vals hvl hvk
      subst hr
      exact ⟨r, fit, fun j hj => hcell j hj⟩
    have build : ∀ m, m ≤ len → ∃ xs : List R, xs.length = m ∧ (∀ x ∈ xs, Fit x) ∧ ∀ i r, xs[i]? = some r → ∀ j, j < 3 → w.cell? (b.add (i * 3 + j)) = (vals r)[j]? := by
      intro m
      induction m with
      | zero => intro _; exact ⟨[], rfl, (fun x hx => by cases hx), (fun i r hr => by simp at hr)⟩
      | succ m ih =>
        intro hm'
        obtain ⟨xs, h1, h2, h3⟩ := ih (by omega)
        obtain ⟨r, fit, hc⟩ := key m (by omega)
        refine ⟨xs ++ [r], by simp [h1], fun x hx => ?_, fun i q hq => ?_⟩
        · rcases List.mem_append.1 hx with hx | hx
          · exact h2 x hx
          · rw [List.mem_singleton.1 hx]; exact fit
        · by_cases hi : i < xs.length
          · rw [List.getElem?_append_left hi] at hq
            exact h3 i q hq
          · rw [List.getElem?_append_right (by omega)] at hq
            have hi0 : i - xs.length = 0 := by
              rcases Nat.eq_zero_or_pos (i - xs.length) with h' | h'
              · exact h'
              · rw [List.getElem?_eq_none (by simp; omega)] at hq; cases hq
            rw [hi0] at hq
            simp only [List.getElem?_cons_zero, Option.some.injEq] at hq
            subst hq
            obtain rfl : i = m := by omega
            exact hc
    obtain ⟨xs, h1, h2, h3⟩ := build len (Nat.le_refl _)
    refine ⟨xs, h1, ⟨by omega, hm, ?_⟩, h2⟩
    by_cases h0 : xs = []
    · exact .inl h0
    · have hp : 0 < xs.length := List.length_pos_iff.2 h0
      have hc0 := h3 0 xs[0] (List.getElem?_eq_getElem hp) 0 (by omega)
      obtain ⟨bb, off, spot⟩ := b
      have hspot : spot = none := by simpa [Addr.add] using World.cell?_spot hc0
      subst hspot
      refine .inr ⟨bb, off, rfl, ?_, fun j r hr i v hv => ?_⟩
      · have := cell_lt hc0
        simpa [Addr.add] using this
      · have hi : i < 3 := (List.getElem?_eq_some_iff.1 hv).1
        have hv' : (vals r)[i]? = some v := hv
        have := h3 j r hr i hi
        rw [Go.WideShapes.add_plain, hv'] at this
        rw [Nat.add_assoc]
        exact this
theorem IsIn.is {w : World} {a : Option Addr} {len cap : Nat} {xs : List R} (h : IsIn w a len cap xs) : Is rec w (.slice a len cap) xs := ⟨a, cap, by rw [h.1], h.2.1⟩
end
end Go.Proofs.Ytmbffcblhhippaa.LShare
namespace Go.Proofs.Ytmbffcblhhippaa.LFloor
open Go.ChangeShapes Go.WideShapes Go.RowKit Go.Deep Opn Bs
set_option linter.unusedVariables false
/-- what one that came in fulfils -/
def IsIn (w : World) (a3 : Option Addr) (len3 cap3 : Nat) (a4 : Option Addr) (len4 cap4 : Nat) (r : R) : Prop := LInt.IsIn w a3 len3 cap3 r.waiting ∧ LShare.IsIn w a4 len4 cap4 r.shares ∧ (Lit.int .i64 r.turns).wf = true ∧ (Lit.int .i64 r.seconds).wf = true ∧ (Lit.int .i64 r.speaking).wf = true
theorem IsIn.is {w : World} {a3 : Option Addr} {len3 cap3 : Nat} {a4 : Option Addr} {len4 cap4 : Nat} {r : R} (h : IsIn w a3 len3 cap3 a4 len4 cap4 r) : Is w (.agg #[.int .i64 r.turns, .int .i64 r.seconds, .int .i64 r.speaking, .slice a3 len3 cap3, .slice a4 len4 cap4]) r := ⟨_, _, rfl, (h.1).is, (h.2.1).is⟩
theorem IsIn.fine {w : World} {a3 : Option Addr} {len3 cap3 : Nat} {a4 : Option Addr} {len4 cap4 : Nat} {r : R} (h : IsIn w a3 len3 cap3 a4 len4 cap4 r) : Fine r := ⟨(fun x hx => LInt.fine_of ((h.1).2.2 x hx)), (fun x hx => LShare.fine_of ((h.2.1).2.2 x hx))⟩
theorem IsIn.len3 {w : World} {a3 : Option Addr} {len3 cap3 : Nat} {a4 : Option Addr} {len4 cap4 : Nat} {r : R} (h : IsIn w a3 len3 cap3 a4 len4 cap4 r) : r.waiting.length = len3 := (h.1).1
theorem IsIn.len4 {w : World} {a3 : Option Addr} {len3 cap3 : Nat} {a4 : Option Addr} {len4 cap4 : Nat} {r : R} (h : IsIn w a3 len3 cap3 a4 len4 cap4 r) : r.shares.length = len4 := (h.2.1).1
section
variable {H : Type} {enc : TypeId × Value → H} {w : World} {base : Nat} {spare : Nat → Bool} {held : Bool}
theorem offs : ∃ fs, Try.prog.underlying 25 = some (.struct fs) ∧ fs.size = 5 ∧ (fs.toList.map (fun f => (f.offset, Try.prog.cellsOf f.type))) = [(0, 1), (1, 1), (2, 1), (3, 1), (4, 1)] ∧ fs.toList.map (fun f => f.type) = [3, 3, 3, 22, 23] ∧ Try.prog.cellsOf 25 = 5 :=
  ⟨_, Try.underlying25, rfl, by kernel_rfl, rfl, by kernel_rfl⟩
set_option maxRecDepth 100000 in
theorem open_one {rr : Reach} {b0 : Nat} {v : Value} {d : DataW H} {p : List MemPlace} (hv : Value.okWide Try.prog w rr b0 25 v) (h : DataW.Trod enc Try.prog w base spare held 25 v d p) :
    ∃ (a3 : Option Addr) (len3 cap3 : Nat) (a4 : Option Addr) (len4 cap4 : Nat) (r : R), v = .agg #[.int .i64 r.turns, .int .i64 r.seconds, .int .i64 r.speaking, .slice a3 len3 cap3, .slice a4 len4 cap4] ∧ IsIn w a3 len3 cap3 a4 len4 cap4 r := by
  obtain ⟨fs, hs, hsz, hof, hty, hC⟩ := offs
  obtain ⟨cs, rfl, hcz⟩ := okWide_struct hs hv
  obtain ⟨fuel, hf0⟩ := h
  obtain ⟨ys, m, _, _, hlen, hyl, hf⟩ := DataW.trod_struct hs hf0
  have hcl : (Value.agg cs).cells.toList.length = 5 := by rw [hlen, hC]
  have hce : (Value.agg cs).cells = cs := by simp [Value.cells]
  rw [hce] at hf hcl
  obtain ⟨fl⟩ := fs
  obtain ⟨cl⟩ := cs
  simp only at hf hcl hsz hof hty
  match fl, hsz with
  | [f0, f1, f2, f3, f4], _ =>
    match cl, hcl with
    | [c0, c1, c2, c3, c4], _ =>
      simp only [List.map_cons, List.map_nil, List.cons.injEq, Prod.mk.injEq, and_true] at hof hty
      obtain ⟨⟨o0, k0⟩, ⟨o1, k1⟩, ⟨o2, k2⟩, ⟨o3, k3⟩, ⟨o4, k4⟩⟩ := hof
      obtain ⟨t0, t1, t2, t3, t4⟩ := hty
      have hy : ys.length = 5 := hyl
      have g0 := hf 0 f0 rfl
      rw [o0, k0, t0, List.getElem?_eq_getElem (by omega)] at g0
      simp only [List.drop_zero, List.take_succ_cons, List.take_zero] at g0
      have g1 := hf 1 f1 rfl
      rw [o1, k1, t1, List.getElem?_eq_getElem (by omega)] at g1
      simp only [List.drop_succ_cons, List.drop_zero, List.take_succ_cons, List.take_zero] at g1
      have g2 := hf 2 f2 rfl
      rw [o2, k2, t2, List.getElem?_eq_getElem (by omega)] at g2
      simp only [List.drop_succ_cons, List.drop_zero, List.take_succ_cons, List.take_zero] at g2
      have g3 := hf 3 f3 rfl
      rw [o3, k3, t3, List.getElem?_eq_getElem (by omega)] at g3
      simp only [List.drop_succ_cons, List.drop_zero, List.take_succ_cons, List.take_zero] at g3
      have g4 := hf 4 f4 rfl
      rw [o4, k4, t4, List.getElem?_eq_getElem (by omega)] at g4
      simp only [List.drop_succ_cons, List.drop_zero, List.take_succ_cons, List.take_zero] at g4
      obtain ⟨n0, e0, _, u0⟩ := DataW.trod_int Try.underlying3 g0
      simp only [List.cons.injEq, and_true] at e0
      subst e0
      obtain ⟨n1, e1, _, u1⟩ := DataW.trod_int Try.underlying3 g1
      simp only [List.cons.injEq, and_true] at e1
      subst e1
      obtain ⟨n2, e2, _, u2⟩ := DataW.trod_int Try.underlying3 g2
      simp only [List.cons.injEq, and_true] at e2
      subst e2
      obtain ⟨a3, len3, cap3, rfl⟩ : ∃ a len cap, c3 = .slice a len cap := by
        rcases open_slice Try.underlying22 g3 with ⟨h0, _⟩ | ⟨b, l, c, _, _, _, _, hcs, _⟩
        · simp only [List.cons.injEq, and_true] at h0
          exact ⟨_, _, _, h0⟩
        · simp only [List.cons.injEq, and_true] at hcs
          exact ⟨_, _, _, hcs⟩
      obtain ⟨xs3, hxs3⟩ := LInt.open_many Try.underlying22 g3
      obtain ⟨a4, len4, cap4, rfl⟩ : ∃ a len cap, c4 = .slice a len cap := by
        rcases open_slice Try.underlying23 g4 with ⟨h0, _⟩ | ⟨b, l, c, _, _, _, _, hcs, _⟩
        · simp only [List.cons.injEq, and_true] at h0
          exact ⟨_, _, _, h0⟩
        · simp only [List.cons.injEq, and_true] at hcs
          exact ⟨_, _, _, hcs⟩
      obtain ⟨xs4, hxs4⟩ := LShare.open_many Try.underlying23 g4
      exact ⟨a3, len3, cap3, a4, len4, cap4, ⟨n0, n1, n2, xs3, xs4⟩, rfl, ⟨hxs3, hxs4, u0, u1, u2⟩⟩
end
end Go.Proofs.Ytmbffcblhhippaa.LFloor
namespace Go.Proofs.Ytmbffcblhhippaa.LInt
open Go.RowKit Bs
set_option linter.unusedVariables false
set_option maxHeartbeats 800000 in
theorem toS (v : Value) (xs : List R) (w : World) (h : Is rec w v xs) (hsm : xs.length ≤ 1048576) :
    Calls Try.prog 36 #[v] w fun e w' => ∃ u, e = .returned u ∧ (∃ g, u.ownBlock = some g) ∧ Own rec 3 w' w.heap.size u xs ∧ Below w.heap.size w w' := by
  obtain ⟨a, cp, rfl, h⟩ := h
  obtain ⟨i0, hi, hz0, hz1⟩ : ∃ i, Try.prog.info? 3 = some i ∧ i.zero = some (.int .i64 0) ∧ i.size = 1 := by
    have := info
    cases h' : Try.prog.info? 3 with
    | none => rw [h'] at this; cases this
    | some i => rw [h'] at this; simp only [Option.map_some, Option.some.injEq, Prod.mk.injEq] at this; exact ⟨i, rfl, this⟩
  have hz2 : i0.bytes ≤ 1000 := by
    have e : (Try.prog.info? 3).map (fun i => decide (i.bytes ≤ 1000)) = some true := by kernel_rfl
    rw [hi] at e
    simpa using e
  have HI := Lib.hid hi
  have HZ := Lib.hid (And.intro hz0 (And.intro hz1 hz2))
  have hc := h.at_ rec
  obtain ⟨n, hn⟩ : ∃ n, n = xs.length := ⟨_, rfl⟩
  have hnb : n ≤ cp := by have := h.1; omega
  have h2 := h.2.1
  unfold maxLen at h2
  have HN := Lib.hid hn.symm
  rw [← hn] at hsm ⊢
  have hle : n ≤ xs.length := by omega
  clear hi hz0 hz1 hz2 hn h
  go_enter Try.func36, Try.ntmps36
  go_wp2_with (at_make; refine wpList_make_full _ rfl (.tmp 6) (.tmp 6) 22 rfl w.heap.size 3 i0 _ 1 Try.underlying22 HI.out HZ.out.1 HZ.out.2.1 .i64 .i64 _ _ n rfl rfl rfl rfl ?c1 ?c2 ?c3 ?c4)
  case c1 => exact Nat.le_trans (Nat.mul_le_mul HZ.out.2.2 hsm) (show 1000 * 1048576 ≤ 281474976710656 by decide)
  case c2 => unfold maxLen; omega
  case c3 => exact Nat.le_refl _
  case c4 =>
    intro w1 hown hgrow
    have hb : Below w.heap.size w w1 := (Below.refl _ _).grown hgrow (Nat.le_refl _) (fun k hk => by cases hk)
    have HO : Hid (OwnR w1 w.heap.size w.heap.size n n (part xs n 0)) := by
      have e := made_zero n
      show Own _ _ _ _ _ _
      unfold Own
      rw [part_len xs n 0 HN.out (Nat.zero_le _), part_zero, ← e]
      exact hown
    clear hown hgrow
    go_wp2_with fail
    go_loopw [4] (fun i wr => ∃ k : Nat, k ≤ n ∧ i = .int .i64 k ∧ Below w.heap.size w wr ∧ Hid (OwnR wr w.heap.size w.heap.size n n (part xs n k))) (fun i _ => n - (intOf i).toNat)
    case atStart => exact ⟨0, Nat.zero_le _, rfl, hb, HO⟩
    case round =>
      clear hb HO
      obtain ⟨k, hk, rfl, hb, HO⟩ := hrel
      by_cases hlt : k < n
      · have hx : k < xs.length := by omega
        obtain ⟨b, o, rfl, hbl, hcell0⟩ := hc.out k xs[k] (List.getElem?_eq_getElem hx)
        have q0 := cells (hcell0.below rec hb hbl)
        simp only [rec_n, Nat.mul_one] at q0
        clear hcell0
        have hps := Lib.hid (part_set xs n k HN.out hx)
        have HPL := Lib.hid (part_len xs n k HN.out hk)
        have p0 := cells (HO.out.at_ k zero (part_at xs n k HN.out hlt))
        have f0 : ∀ o, wr.frozen? ⟨w.heap.size, o, none⟩ = false := Own.frozen HPL.out HO.out
        have HS := Lib.hid (fun r => putAll HPL.out HO.out k zero r (part_at xs n k HN.out hlt))
        simp only [rec_n, Nat.mul_one] at p0
        generalize hX : xs[k] = X at *
        have HS2 := Lib.hid (show OwnR (wr.setCell ⟨w.heap.size, k, none⟩ (.int .i64 X)) w.heap.size w.heap.size n n (part xs n (k + 1)) by
          have := HS.out X
          rwa [hps.out] at this)
        have k0 : 0 ≤ (k : Int) := by omega
        have k1 : (k : Int) < (n : Int) := by omega
        clear HS hX
        go_wp2_with fail
        go_roundw
        case rel =>
          refine ⟨k + 1, by omega, by go_num, ?_, HS2⟩
          exact (hb.setCell (Nat.le_refl _) _)
        case measure => simp [intOf]; omega
      · have hkn : k = n := by omega
        have HS := Lib.hid (show OwnR wr w.heap.size w.heap.size n n xs by
          have := HO.out
          rw [hkn, part_all xs n HN.out] at this
          exact this)
        clear hkn
        go_wp2_with fail
        go_ret
        exact ⟨_, rfl, ⟨_, rfl⟩, HS.out, hb⟩
end Go.Proofs.Ytmbffcblhhippaa.LInt
namespace Go.Proofs.Ytmbffcblhhippaa.LShare
open Go.RowKit Bs
set_option linter.unusedVariables false
set_option maxHeartbeats 400000 in
theorem to (r : R) (w : World) :
    Calls Try.prog 61 #[.agg #[.int .i64 r.member, .int .i64 r.turns, .int .i64 r.seconds]] w fun e w' => e = .returned (.agg #[.int .i64 r.member, .int .i64 r.turns, .int .i64 r.seconds]) ∧ Below w.heap.size w w' := by
  go_enter Try.func61, Try.ntmps61
  go_wp2_with fail
  refine bodyPost_ret (v := .agg #[.int .i64 r.member, .int .i64 r.turns, .int .i64 r.seconds]) (by simp [results, Try.results61, go_sem]) rfl ⟨rfl, ?_⟩
  exact (((Below.refl _ _).alloc (Nat.le_refl _) _).alloc (by simp) _).alloc (by simp; omega) _
set_option maxHeartbeats 800000 in
theorem toS (v : Value) (xs : List R) (w : World) (h : Is rec w v xs) (hsm : xs.length ≤ 1048576) :
    Calls Try.prog 37 #[v] w fun e w' => ∃ u, e = .returned u ∧ (∃ g, u.ownBlock = some g) ∧ Own rec 60 w' w.heap.size u xs ∧ Below w.heap.size w w' := by
  obtain ⟨a, cp, rfl, h⟩ := h
  obtain ⟨i0, hi, hz0, hz1⟩ : ∃ i, Try.prog.info? 60 = some i ∧ i.zero = some (.agg #[.int .i64 0, .int .i64 0, .int .i64 0]) ∧ i.size = 3 := by
    have := info
    cases h' : Try.prog.info? 60 with
    | none => rw [h'] at this; cases this
    | some i => rw [h'] at this; simp only [Option.map_some, Option.some.injEq, Prod.mk.injEq] at this; exact ⟨i, rfl, this⟩
  have hz2 : i0.bytes ≤ 1000 := by
    have e : (Try.prog.info? 60).map (fun i => decide (i.bytes ≤ 1000)) = some true := by kernel_rfl
    rw [hi] at e
    simpa using e
  have HI := Lib.hid hi
  have HZ := Lib.hid (And.intro hz0 (And.intro hz1 hz2))
  have hc := h.at_ rec
  obtain ⟨n, hn⟩ : ∃ n, n = xs.length := ⟨_, rfl⟩
  have hnb : n ≤ cp := by have := h.1; omega
  have h2 := h.2.1
  unfold maxLen at h2
  have HN := Lib.hid hn.symm
  rw [← hn] at hsm ⊢
  have hle : n ≤ xs.length := by omega
  clear hi hz0 hz1 hz2 hn h
  go_enter Try.func37, Try.ntmps37
  go_wp2_with (at_make; refine wpList_make_full _ rfl (.tmp 6) (.tmp 6) 27 rfl w.heap.size 60 i0 _ 3 Try.underlying27 HI.out HZ.out.1 HZ.out.2.1 .i64 .i64 _ _ n rfl rfl rfl rfl ?c1 ?c2 ?c3 ?c4)
  case c1 => exact Nat.le_trans (Nat.mul_le_mul HZ.out.2.2 hsm) (show 1000 * 1048576 ≤ 281474976710656 by decide)
  case c2 => unfold maxLen; omega
  case c3 => exact Nat.le_refl _
  case c4 =>
    intro w1 hown hgrow
    have hb : Below w.heap.size w w1 := (Below.refl _ _).grown hgrow (Nat.le_refl _) (fun k hk => by cases hk)
    have HO : Hid (OwnR w1 w.heap.size w.heap.size n n (part xs n 0)) := by
      rw [made_zero] at hown
      show Own _ _ _ _ _ _
      unfold Own
      rw [part_len xs n 0 HN.out (Nat.zero_le _), part_zero]
      exact hown
    clear hown hgrow
    go_wp2_with fail
    go_loopw [4] (fun i wr => ∃ k : Nat, k ≤ n ∧ i = .int .i64 k ∧ Below w.heap.size w wr ∧ Hid (OwnR wr w.heap.size w.heap.size n n (part xs n k))) (fun i _ => n - (intOf i).toNat)
    case atStart => exact ⟨0, Nat.zero_le _, rfl, hb, HO⟩
    case round =>
      clear hb HO
      obtain ⟨k, hk, rfl, hb, HO⟩ := hrel
      by_cases hlt : k < n
      · have hx : k < xs.length := by omega
        obtain ⟨b, o, rfl, hbl, hcell0⟩ := hc.out k xs[k] (List.getElem?_eq_getElem hx)
        obtain ⟨q0, q1, q2⟩ := cells (hcell0.below rec hb hbl)
        simp only [rec_n] at q0 q1 q2
        clear hcell0
        have hps := Lib.hid (part_set xs n k HN.out hx)
        generalize xs[k] = X at *
        go_wp2_with fail
        refine (to X _).mono ?_
        rintro e w2 ⟨rfl, hb1⟩
        have HO1 := Lib.hid (HO.out.kept hb1)
        have HPL := Lib.hid (part_len xs n k HN.out hk)
        obtain ⟨p0, p1, p2⟩ := cells (HO1.out.at_ k zero (part_at xs n k HN.out hlt))
        have f0 : ∀ o, w2.frozen? ⟨w.heap.size, o, none⟩ = false := Own.frozen HPL.out HO1.out
        have hb2 := hb.trans (hb1.mono hb.size)
        have HS := Lib.hid (putAll HPL.out HO1.out k zero X (part_at xs n k HN.out hlt))
        rw [hps.out] at HS
        simp only [rec_n] at p0 p1 p2
        clear hb1 q0 q1 q2
        go_wp2_with fail
        go_roundw
        case rel =>
          refine ⟨k + 1, by omega, by go_num, ?_, HS⟩
          exact (((hb2.setCell (Nat.le_refl _) _).setCell (Nat.le_refl _) _).setCell (Nat.le_refl _) _)
        case measure => simp [intOf]; omega
      · have hkn : k = n := by omega
        have HS := Lib.hid (show OwnR wr w.heap.size w.heap.size n n xs by
          have := HO.out
          rw [hkn, part_all xs n HN.out] at this
          exact this)
        clear hkn
        go_wp2_with fail
        go_ret
        exact ⟨_, rfl, ⟨_, rfl⟩, HS.out, hb⟩
end Go.Proofs.Ytmbffcblhhippaa.LShare
namespace Go.Proofs.Ytmbffcblhhippaa.LFloor
open Go.RowKit Bs
set_option linter.unusedVariables false
set_option maxRecDepth 100000 in
set_option maxHeartbeats 1600000 in
theorem to (v : Value) (r : R) (w : World) (h : Is w v r) (hsm3 : r.waiting.length ≤ 1048576) (hsm4 : r.shares.length ≤ 1048576) :
    Calls Try.prog 11 #[v] w fun e w' => ∃ u, e = .returned u ∧ NotNil u ∧ Own w' w.heap.size u r ∧ Below w.heap.size w w' := by
  obtain ⟨s3, s4, rfl, h3, h4⟩ := h
  obtain ⟨a3, cp3, rfl, h3⟩ := h3
  obtain ⟨a4, cp4, rfl, h4⟩ := h4
  obtain ⟨W0, hW0⟩ : ∃ W : World, W = ((w.alloc (.cells #[.int .i64 r.turns, .int .i64 r.seconds, .int .i64 r.speaking, .slice a3 r.waiting.length cp3, .slice a4 r.shares.length cp4] 25)).alloc (.cells #[.int .i64 0, .int .i64 0, .int .i64 0, .slice none 0 0, .slice none 0 0] 29)).alloc (.cells #[.int .i64 r.turns, .int .i64 r.seconds, .int .i64 r.speaking, .slice none 0 0, .slice none 0 0] 29) := ⟨_, rfl⟩
  have hb : Below w.heap.size w W0 := by rw [hW0]; exact (((Below.refl _ _).alloc (Nat.le_refl _) _).alloc (by simp) _).alloc (by simp; omega) _
  have HI3 := Lib.hid (Bs.Is.below _ ⟨a3, cp3, rfl, h3⟩ hb)
  have HI4 := Lib.hid (Bs.Is.below _ ⟨a4, cp4, rfl, h4⟩ hb)
  have HQ4 := Lib.hid (show ∀ b o, a4 = some ⟨b, o, none⟩ → r.shares ≠ [] → b ≠ w.heap.size + 2 from fun b o e hne => by have := is_low h4 e hne; omega)
  have B0 := Lib.hid (show Bx W0 w.heap.size 25 #[.int .i64 r.turns, .int .i64 r.seconds, .int .i64 r.speaking, .slice a3 r.waiting.length cp3, .slice a4 r.shares.length cp4] by rw [hW0]; exact (Bx.new w 25 #[.int .i64 r.turns, .int .i64 r.seconds, .int .i64 r.speaking, .slice a3 r.waiting.length cp3, .slice a4 r.shares.length cp4]).alloc _ |>.alloc _)
  have B1 := Lib.hid (show Bx W0 (w.heap.size + 1) 29 #[.int .i64 0, .int .i64 0, .int .i64 0, .slice none 0 0, .slice none 0 0] by rw [hW0]; have := (Bx.new (w.alloc (.cells #[.int .i64 r.turns, .int .i64 r.seconds, .int .i64 r.speaking, .slice a3 r.waiting.length cp3, .slice a4 r.shares.length cp4] 25)) 29 #[.int .i64 0, .int .i64 0, .int .i64 0, .slice none 0 0, .slice none 0 0]).alloc (.cells #[.int .i64 r.turns, .int .i64 r.seconds, .int .i64 r.speaking, .slice none 0 0, .slice none 0 0] 29); simpa using this)
  have B2 := Lib.hid (show Bx W0 (w.heap.size + 2) 29 #[.int .i64 r.turns, .int .i64 r.seconds, .int .i64 r.speaking, .slice none 0 0, .slice none 0 0] by rw [hW0]; have := Bx.new ((w.alloc (.cells #[.int .i64 r.turns, .int .i64 r.seconds, .int .i64 r.speaking, .slice a3 r.waiting.length cp3, .slice a4 r.shares.length cp4] 25)).alloc (.cells #[.int .i64 0, .int .i64 0, .int .i64 0, .slice none 0 0, .slice none 0 0] 29)) 29 #[.int .i64 r.turns, .int .i64 r.seconds, .int .i64 r.speaking, .slice none 0 0, .slice none 0 0]; simpa using this)
  have HZ0 := Lib.hid (show W0.heap.size = w.heap.size + 3 by rw [hW0]; simp)
  have hbT := hb
  clear hb h3 h4
  go_enter Try.func11, Try.ntmps11
  go_wp2_with fail
  rw [← hW0]
  clear hW0
  obtain ⟨V0, hV0⟩ : ∃ V, V = w.heap.size := ⟨_, rfl⟩
  refine (LInt.toS _ r.waiting W0 HI3.out hsm3).mono ?_
  rintro e X0 ⟨u3, rfl, hn3, ho3, hb1⟩
  obtain ⟨gu3, cu3, rfl⟩ : ∃ g c, u3 = .slice (some ⟨g, 0, none⟩) r.waiting.length c := by
    rcases ho3.shape with ⟨rfl, _⟩ | ⟨g, c, rfl, _⟩
    · obtain ⟨g, hg⟩ := hn3; cases hg
    · exact ⟨g, c, rfl⟩
  have HX0 := Lib.hid hb1.size
  have HG3 := Lib.hid (show W0.heap.size ≤ gu3 ∧ gu3 < X0.heap.size from ho3.lt gu3 rfl)
  have HO3 := Lib.hid ho3
  clear ho3 hn3
  replace hbT := hbT.trans (hb1.mono hbT.size)
  replace B0 := Lib.hid (B0.out.kept hb1)
  replace B1 := Lib.hid (B1.out.kept hb1)
  replace B2 := Lib.hid (B2.out.kept hb1)
  replace HI4 := Lib.hid (Bs.Is.below _ HI4.out hb1)
  clear hb1
  have p4 := B0.out.cell 4
  have d3 := B2.out.cell 3
  have f3 := B2.out.frozen 3
  simp only [List.getElem?_toArray, List.getElem?_cons_zero, List.getElem?_cons_succ] at p4 d3
  obtain ⟨W1, hW1⟩ : ∃ W : World, W = (X0.setCell ⟨w.heap.size + 2, 3, none⟩ (.slice (some ⟨gu3, 0, none⟩) r.waiting.length cu3)) := ⟨_, rfl⟩
  have hbW : Below X0.heap.size X0 W1 ∨ True := .inr trivial
  have HZ1 := Lib.hid (show W1.heap.size = X0.heap.size by rw [hW1]; simp)
  replace hbT : Below w.heap.size w W1 := by rw [hW1]; exact (Below.setCell hbT (by show w.heap.size ≤ w.heap.size + 2; omega) _)
  replace HO3 := Lib.hid (show Bs.Own LInt.rec 3 W1 _ _ _ by rw [hW1]; exact (own_set HO3.out (fun k hk => by (have hk2 := HO3.out.lt k hk); show k ≠ w.heap.size + 2; have := HZ0.out; have := HG3.out; have := HX0.out;  omega) _))
  replace HI4 := Lib.hid (show Bs.Is LShare.rec W1 _ _ by rw [hW1]; exact (is_set HI4.out (w.heap.size + 2) 3 _ HQ4.out))
  replace B0 := Lib.hid (show Bx W1 w.heap.size _ _ by rw [hW1]; exact (B0.out.far (p := ⟨w.heap.size + 2, 3, none⟩) (show w.heap.size ≠ w.heap.size + 2 by omega) _))
  replace B1 := Lib.hid (show Bx W1 (w.heap.size + 1) _ _ by rw [hW1]; exact (B1.out.far (p := ⟨w.heap.size + 2, 3, none⟩) (show w.heap.size + 1 ≠ w.heap.size + 2 by omega) _))
  replace B2 := Lib.hid (show Bx W1 (w.heap.size + 2) 29 #[.int .i64 r.turns, .int .i64 r.seconds, .int .i64 r.speaking, .slice (some ⟨gu3, 0, none⟩) r.waiting.length cu3, .slice none 0 0] by rw [hW1]; exact (B2.out.set_ 3 (.slice (some ⟨gu3, 0, none⟩) r.waiting.length cu3)))
  clear hbW
  go_wp2_with fail
  rw [← hW1]
  clear hW1 p4 d3 f3
  refine (LShare.toS _ r.shares W1 HI4.out hsm4).mono ?_
  rintro e X1 ⟨u4, rfl, hn4, ho4, hb1⟩
  obtain ⟨gu4, cu4, rfl⟩ : ∃ g c, u4 = .slice (some ⟨g, 0, none⟩) r.shares.length c := by
    rcases ho4.shape with ⟨rfl, _⟩ | ⟨g, c, rfl, _⟩
    · obtain ⟨g, hg⟩ := hn4; cases hg
    · exact ⟨g, c, rfl⟩
  have HX1 := Lib.hid hb1.size
  have HG4 := Lib.hid (show W1.heap.size ≤ gu4 ∧ gu4 < X1.heap.size from ho4.lt gu4 rfl)
  have HO4 := Lib.hid ho4
  clear ho4 hn4
  replace hbT := hbT.trans (hb1.mono hbT.size)
  replace B0 := Lib.hid (B0.out.kept hb1)
  replace B1 := Lib.hid (B1.out.kept hb1)
  replace B2 := Lib.hid (B2.out.kept hb1)
  replace HO3 := Lib.hid (HO3.out.kept hb1)
  clear hb1
  have c0 := B1.out.cell 0
  have d0 := B2.out.cell 0
  have e0 := B1.out.frozen 0
  have f0 := B2.out.frozen 0
  have c1 := B1.out.cell 1
  have d1 := B2.out.cell 1
  have e1 := B1.out.frozen 1
  have f1 := B2.out.frozen 1
  have c2 := B1.out.cell 2
  have d2 := B2.out.cell 2
  have e2 := B1.out.frozen 2
  have f2 := B2.out.frozen 2
  have c3 := B1.out.cell 3
  have d3 := B2.out.cell 3
  have e3 := B1.out.frozen 3
  have f3 := B2.out.frozen 3
  have c4 := B1.out.cell 4
  have d4 := B2.out.cell 4
  have e4 := B1.out.frozen 4
  have f4 := B2.out.frozen 4
  simp only [List.getElem?_toArray, List.getElem?_cons_zero, List.getElem?_cons_succ] at c0 d0 c1 d1 c2 d2 c3 d3 c4 d4
  go_wp2_with fail
  have y0 := (Bx.set_ (Bx.far (p := ⟨w.heap.size + 2, 4, none⟩) B1.out (show w.heap.size + 1 ≠ w.heap.size + 2 by omega) (.slice (some ⟨gu4, 0, none⟩) r.shares.length cu4)) 0 (.int .i64 r.turns)).cell 0
  have y1 := (Bx.set_ (Bx.set_ (Bx.far (p := ⟨w.heap.size + 2, 4, none⟩) B1.out (show w.heap.size + 1 ≠ w.heap.size + 2 by omega) (.slice (some ⟨gu4, 0, none⟩) r.shares.length cu4)) 0 (.int .i64 r.turns)) 1 (.int .i64 r.seconds)).cell 1
  have y2 := (Bx.set_ (Bx.set_ (Bx.set_ (Bx.far (p := ⟨w.heap.size + 2, 4, none⟩) B1.out (show w.heap.size + 1 ≠ w.heap.size + 2 by omega) (.slice (some ⟨gu4, 0, none⟩) r.shares.length cu4)) 0 (.int .i64 r.turns)) 1 (.int .i64 r.seconds)) 2 (.int .i64 r.speaking)).cell 2
  have y3 := (Bx.set_ (Bx.set_ (Bx.set_ (Bx.set_ (Bx.far (p := ⟨w.heap.size + 2, 4, none⟩) B1.out (show w.heap.size + 1 ≠ w.heap.size + 2 by omega) (.slice (some ⟨gu4, 0, none⟩) r.shares.length cu4)) 0 (.int .i64 r.turns)) 1 (.int .i64 r.seconds)) 2 (.int .i64 r.speaking)) 3 (.slice (some ⟨gu3, 0, none⟩) r.waiting.length cu3)).cell 3
  have y4 := (Bx.set_ (Bx.set_ (Bx.set_ (Bx.set_ (Bx.set_ (Bx.far (p := ⟨w.heap.size + 2, 4, none⟩) B1.out (show w.heap.size + 1 ≠ w.heap.size + 2 by omega) (.slice (some ⟨gu4, 0, none⟩) r.shares.length cu4)) 0 (.int .i64 r.turns)) 1 (.int .i64 r.seconds)) 2 (.int .i64 r.speaking)) 3 (.slice (some ⟨gu3, 0, none⟩) r.waiting.length cu3)) 4 (.slice (some ⟨gu4, 0, none⟩) r.shares.length cu4)).cell 4
  simp at y0 y1 y2 y3 y4
  refine bodyPost_ret (v := .agg #[.int .i64 r.turns, .int .i64 r.seconds, .int .i64 r.speaking, .slice (some ⟨gu3, 0, none⟩) r.waiting.length cu3, .slice (some ⟨gu4, 0, none⟩) r.shares.length cu4]) (by simp [results, Try.results11, go_sem, y0, y1, y2, y3, y4]) rfl ?_
  refine ⟨_, rfl, ⟨_, _, _, _, _, rfl, ⟨_, rfl⟩, ⟨_, rfl⟩⟩, ⟨_, _, rfl, ?_⟩, ?_⟩
  · exact ⟨((own_set (own_set (own_set (own_set (own_set (own_set HO3.out (fun k hk => by (have hk2 := HO3.out.lt k hk); show k ≠ w.heap.size + 2; have := HZ0.out; have := HG3.out; have := HX0.out; have := HG4.out; have := HX1.out; have := HZ1.out;  omega) _) (fun k hk => by (have hk2 := HO3.out.lt k hk); show k ≠ w.heap.size + 1; have := HZ0.out; have := HG3.out; have := HX0.out; have := HG4.out; have := HX1.out; have := HZ1.out;  omega) _) (fun k hk => by (have hk2 := HO3.out.lt k hk); show k ≠ w.heap.size + 1; have := HZ0.out; have := HG3.out; have := HX0.out; have := HG4.out; have := HX1.out; have := HZ1.out;  omega) _) (fun k hk => by (have hk2 := HO3.out.lt k hk); show k ≠ w.heap.size + 1; have := HZ0.out; have := HG3.out; have := HX0.out; have := HG4.out; have := HX1.out; have := HZ1.out;  omega) _) (fun k hk => by (have hk2 := HO3.out.lt k hk); show k ≠ w.heap.size + 1; have := HZ0.out; have := HG3.out; have := HX0.out; have := HG4.out; have := HX1.out; have := HZ1.out;  omega) _) (fun k hk => by (have hk2 := HO3.out.lt k hk); show k ≠ w.heap.size + 1; have := HZ0.out; have := HG3.out; have := HX0.out; have := HG4.out; have := HX1.out; have := HZ1.out;  omega) _).low (by have := HZ0.out; have := HG3.out; have := HX0.out; have := HG4.out; have := HX1.out; have := HZ1.out;  omega)), ((own_set (own_set (own_set (own_set (own_set (own_set HO4.out (fun k hk => by (have hk2 := HO4.out.lt k hk); show k ≠ w.heap.size + 2; have := HZ0.out; have := HG3.out; have := HX0.out; have := HG4.out; have := HX1.out; have := HZ1.out;  omega) _) (fun k hk => by (have hk2 := HO4.out.lt k hk); show k ≠ w.heap.size + 1; have := HZ0.out; have := HG3.out; have := HX0.out; have := HG4.out; have := HX1.out; have := HZ1.out;  omega) _) (fun k hk => by (have hk2 := HO4.out.lt k hk); show k ≠ w.heap.size + 1; have := HZ0.out; have := HG3.out; have := HX0.out; have := HG4.out; have := HX1.out; have := HZ1.out;  omega) _) (fun k hk => by (have hk2 := HO4.out.lt k hk); show k ≠ w.heap.size + 1; have := HZ0.out; have := HG3.out; have := HX0.out; have := HG4.out; have := HX1.out; have := HZ1.out;  omega) _) (fun k hk => by (have hk2 := HO4.out.lt k hk); show k ≠ w.heap.size + 1; have := HZ0.out; have := HG3.out; have := HX0.out; have := HG4.out; have := HX1.out; have := HZ1.out;  omega) _) (fun k hk => by (have hk2 := HO4.out.lt k hk); show k ≠ w.heap.size + 1; have := HZ0.out; have := HG3.out; have := HX0.out; have := HG4.out; have := HX1.out; have := HZ1.out;  omega) _).low (by have := HZ0.out; have := HG3.out; have := HX0.out; have := HG4.out; have := HX1.out; have := HZ1.out;  omega)), (fun k h1 h2 => by cases h1; cases h2; have := HZ0.out; have := HG3.out; have := HX0.out; have := HG4.out; have := HX1.out; have := HZ1.out;  omega)⟩
  · exact (Below.setCell (Below.setCell (Below.setCell (Below.setCell (Below.setCell (Below.setCell hbT (by show w.heap.size ≤ w.heap.size + 2; omega) _) (by show w.heap.size ≤ w.heap.size + 1; omega) _) (by show w.heap.size ≤ w.heap.size + 1; omega) _) (by show w.heap.size ≤ w.heap.size + 1; omega) _) (by show w.heap.size ≤ w.heap.size + 1; omega) _) (by show w.heap.size ≤ w.heap.size + 1; omega) _)
end Go.Proofs.Ytmbffcblhhippaa.LFloor
namespace Go.Proofs.Ytmbffcblhhippaa.Word
open Go.RowKit
set_option linter.unusedVariables false
/-- the letters a to z -/
def az (c : UInt8) : Bool := decide (97 ≤ c.toNat) && decide (c.toNat ≤ 122)
def allAz (l : List UInt8) : Bool := l.all az
def isWordB (s : ByteArray) : Bool := (decide (1 ≤ s.size) && decide (s.size ≤ 10)) && allAz s.data.toList
theorem take_snoc (s : ByteArray) (k : Nat) (h : k < s.size) : s.data.toList.take (k + 1) = s.data.toList.take k ++ [s[k]] := by
  rw [List.take_succ_eq_append_getElem (by simpa using h)]; rfl
theorem az_next (s : ByteArray) (k : Nat) (h : k < s.size) (hp : allAz (s.data.toList.take k) = true) (hc : az s[k] = true) : allAz (s.data.toList.take (k + 1)) = true := by
  rw [take_snoc s k h]; unfold allAz at hp ⊢; rw [List.all_append, hp]; simp [hc]
theorem az_bad (s : ByteArray) (k : Nat) (h : k < s.size) (hc : az s[k] = false) : allAz s.data.toList = false := by
  unfold allAz
  rw [List.all_eq_false]
  exact ⟨s[k], Array.getElem_mem_toList _, by simp [hc]⟩
theorem az_all (s : ByteArray) (k : Nat) (h : s.size ≤ k) (hp : allAz (s.data.toList.take k) = true) : allAz s.data.toList = true := by
  rwa [List.take_of_length_le (by simpa using h)] at hp
theorem ret_bool {a b : Bool} (h : a = b) : Ending.returned (.bool a) = .returned (.bool b) := by rw [h]
theorem word_no {s : ByteArray} (h : allAz s.data.toList = false) : isWordB s = false := by unfold isWordB; rw [h, Bool.and_false]
theorem word_len {s : ByteArray} (h : ¬ (1 ≤ s.size ∧ s.size ≤ 10)) : isWordB s = false := by
  unfold isWordB
  have : (decide (1 ≤ s.size) && decide (s.size ≤ 10)) = false := by
    rw [← Bool.decide_and]; exact decide_eq_false h
  rw [this, Bool.false_and]
theorem word_yes {s : ByteArray} (h1 : 1 ≤ s.size) (h2 : s.size ≤ 10) (h : allAz s.data.toList = true) : isWordB s = true := by
  unfold isWordB; rw [h, Bool.and_true, ← Bool.decide_and]; exact decide_eq_true ⟨h1, h2⟩
def inB (x a b : Int) : Bool := decide (a ≤ x ∧ x ≤ b)
theorem inB_yes {x a b : Int} (h : inB x a b = true) : a ≤ x ∧ x ≤ b := of_decide_eq_true h
theorem inB_no {x a b : Int} (h : inB x a b = false) : ¬ (a ≤ x ∧ x ≤ b) := of_decide_eq_false h
theorem inB_mk {x a b : Int} (h1 : a ≤ x) (h2 : x ≤ b) : inB x a b = true := decide_eq_true ⟨h1, h2⟩
theorem inB_not {x a b : Int} (h : ¬ (a ≤ x ∧ x ≤ b)) : inB x a b = false := decide_eq_false h
theorem in_yes (x a b : Int) (w : World) (h1 : a ≤ x) (h2 : x ≤ b) :
    Calls Try.prog 47 #[.int .i64 x, .int .i64 a, .int .i64 b] w fun e w' => e = .returned (.bool true) ∧ w = w' := by
  go_enter Try.func47, Try.ntmps47
  go_wp2
  go_ret
  exact ⟨rfl, rfl⟩
theorem in_no (x a b : Int) (w : World) (h : ¬ (a ≤ x ∧ x ≤ b)) :
    Calls Try.prog 47 #[.int .i64 x, .int .i64 a, .int .i64 b] w fun e w' => e = .returned (.bool false) ∧ w = w' := by
  by_cases h1 : a ≤ x
  · have h2 : ¬ x ≤ b := by omega
    go_enter Try.func47, Try.ntmps47
    go_wp2
    go_ret
    exact ⟨rfl, rfl⟩
  · go_enter Try.func47, Try.ntmps47
    go_wp2
    go_ret
    exact ⟨rfl, rfl⟩

theorem in_as (x a b : Int) (v : Bool) (h : inB x a b = v) (w : World) :
    Calls Try.prog 47 #[.int .i64 x, .int .i64 a, .int .i64 b] w fun e w' => e = .returned (.bool v) ∧ w = w' := by
  cases v with
  | true => obtain ⟨h1, h2⟩ := inB_yes h; exact in_yes x a b w h1 h2
  | false => exact in_no x a b w (inB_no h)
end Go.Proofs.Ytmbffcblhhippaa.Word
namespace Go.Proofs.Ytmbffcblhhippaa.Sq
set_option linter.unusedVariables false
section
variable {α : Type} {p : α → Bool} {z : List α} {k : Nat} {X : α}
/-- none ahead of place k fits -/
def First (p : α → Bool) (z : List α) (k : Nat) : Prop := ∀ j x, j < k → z[j]? = some x → p x = false
theorem first_zero : First p z 0 := fun j x hj => by omega
theorem first_next (h : First p z k) (hx : z[k]? = some X) (hp : p X = false) : First p z (k + 1) := fun j x hj hz => by
  rcases Nat.lt_or_ge j k with h' | h'
  · exact h j x h' hz
  · obtain rfl : j = k := by omega
    rw [hx] at hz; rw [← Option.some.inj hz]; exact hp
theorem first_tail {y : α} (h : First p (y :: z) (k + 1)) : First p z k := fun j x hj hz => h (j + 1) x (by omega) (by simpa using hz)
theorem first_hit : ∀ {z : List α} {k : Nat}, First p z k → z[k]? = some X → p X = true → z.findIdx? p = some k
  | [], k, _, hx, _ => by simp at hx
  | y :: z, 0, _, hx, hp => by
    simp only [List.getElem?_cons_zero, Option.some.injEq] at hx
    subst hx
    rw [List.findIdx?_cons, hp]; rfl
  | y :: z, k + 1, h, hx, hp => by
    have h0 : p y = false := h 0 y (by omega) rfl
    rw [List.findIdx?_cons, h0, first_hit (first_tail h) (by simpa using hx) hp]; rfl
theorem first_none (h : First p z k) (hk : z.length ≤ k) : z.findIdx? p = none := by
  rw [List.findIdx?_eq_none_iff]
  intro x hx
  obtain ⟨i, hi, rfl⟩ := List.getElem_of_mem hx
  exact h i _ (by omega) (List.getElem?_eq_getElem hi)
/-- what findIdx? found -/
theorem idx_some (h : z.findIdx? p = some k) : ∃ X, z[k]? = some X ∧ p X = true ∧ First p z k := by
  obtain ⟨hk, hp, hn⟩ := List.findIdx?_eq_some_iff_getElem.1 h
  refine ⟨z[k], List.getElem?_eq_getElem hk, hp, fun j x hj hx => ?_⟩
  have hj' : j < z.length := by omega
  rw [List.getElem?_eq_getElem hj'] at hx
  have := hn j hj
  rw [← Option.some.inj hx]
  simpa using this
theorem idx_none (h : z.findIdx? p = none) : ∀ x ∈ z, p x = false := List.findIdx?_eq_none_iff.1 h
/-- the index as a number, or -1 -/
def ix : Option Nat → Int
  | some k => k
  | none => -1
theorem ix_neg {o : Option Nat} : ix o < 0 ↔ o = none := by
  cases o with
  | none => simp [ix]
  | some k => simp [ix]
/-- the found element itself -/
def got (p : α → Bool) (z : List α) : Option α := (z.findIdx? p).bind (fun k => z[k]?)
theorem got_hit (h : First p z k) (hx : z[k]? = some X) (hp : p X = true) : got p z = some X := by
  unfold got; rw [first_hit h hx hp]; exact hx
theorem got_none (h : First p z k) (hk : z.length ≤ k) : got p z = none := by unfold got; rw [first_none h hk]; rfl
theorem got_some (h : got p z = some X) : X ∈ z ∧ p X = true := by
  unfold got at h
  cases e : z.findIdx? p with
  | none => rw [e] at h; cases h
  | some k =>
    obtain ⟨Y, hY, hp, _⟩ := idx_some e
    rw [e] at h
    have h2 : z[k]? = some X := h
    rw [hY] at h2
    obtain rfl := Option.some.inj h2
    exact ⟨List.mem_of_getElem? hY, hp⟩
theorem got_no (h : got p z = none) : ∀ x ∈ z, p x = false := by
  unfold got at h
  cases e : z.findIdx? p with
  | none => exact idx_none e
  | some k =>
    obtain ⟨Y, hY, _⟩ := idx_some e
    rw [e] at h
    have h2 : z[k]? = none := h
    rw [hY] at h2; cases h2
end
end Go.Proofs.Ytmbffcblhhippaa.Sq
namespace Go.Proofs.Ytmbffcblhhippaa.Mbr
open Go.RowKit Word
set_option linter.unusedVariables false
theorem l7Member (x : Int) (v : Bool) (h : inB x 1 99 = v) (w : World) : Calls Try.prog 32 #[.int .i64 x] w fun e w' => e = .returned (.bool v) ∧ w = w' := by
  have HI := Lib.hid (fun W => in_as x 1 99 v h W)
  go_enter Try.func32, Try.ntmps32
  go_wp2_with fail
  refine (HI.out _).mono ?_
  rintro e w' ⟨rfl, rfl⟩
  go_wp2_with fail
  go_ret
  exact ⟨rfl, rfl⟩
theorem member (x : Int) (v : Bool) (h : inB x 1 99 = v) (w : World) : Calls Try.prog 73 #[.int .i64 x] w fun e w' => e = .returned (.bool v) ∧ w = w' := by
  cases v with
  | true =>
    obtain ⟨h1, h2⟩ := inB_yes h
    clear h
    go_enter Try.func73, Try.ntmps73
    go_wp2_with fail
    go_ret
    exact ⟨rfl, rfl⟩
  | false =>
    have hn := inB_no h
    clear h
    by_cases h1 : 1 ≤ x
    · have h2 : ¬ x ≤ 99 := by omega
      clear hn
      go_enter Try.func73, Try.ntmps73
      go_wp2_with fail
      go_ret
      exact ⟨rfl, rfl⟩
    · clear hn
      go_enter Try.func73, Try.ntmps73
      go_wp2_with fail
      go_ret
      exact ⟨rfl, rfl⟩
end Go.Proofs.Ytmbffcblhhippaa.Mbr
namespace Go.Proofs.Ytmbffcblhhippaa.CmpI
open Go.RowKit Bs
set_option linter.unusedVariables false
def cmpI (a b : Int) : Int := if a < b then -1 else if b < a then 1 else 0
theorem isNaN (a : Int) (w : World) : Calls Try.prog 72 #[.int .i64 a] w fun e w' => e = .returned (.bool false) ∧ w = w' := by
  have h : (a != a) = false := by simp
  go_enter Try.func72, Try.ntmps72
  go_wp2_with fail
  go_ret
  exact ⟨by simp [go_sem], rfl⟩
theorem compare (a b : Int) (w : World) : Calls Try.prog 58 #[.int .i64 a, .int .i64 b] w fun e w' => e = .returned (.int .i64 (cmpI a b)) ∧ w = w' := by
  by_cases h1 : a < b
  · have HC := Lib.hid (show cmpI a b = -1 by unfold cmpI; rw [if_pos h1])
    go_enter Try.func58, Try.ntmps58
    go_wp2_with fail
    refine (isNaN _ _).mono ?_
    rintro e _ ⟨rfl, rfl⟩
    go_wp2_with fail
    refine (isNaN _ _).mono ?_
    rintro e _ ⟨rfl, rfl⟩
    go_wp2_with fail
    go_ret
    exact ⟨by rw [HC.out]; rfl, rfl⟩
  · by_cases h2 : b < a
    · have HC := Lib.hid (show cmpI a b = 1 by unfold cmpI; rw [if_neg h1, if_pos h2])
      go_enter Try.func58, Try.ntmps58
      go_wp2_with fail
      refine (isNaN _ _).mono ?_
      rintro e _ ⟨rfl, rfl⟩
      go_wp2_with fail
      refine (isNaN _ _).mono ?_
      rintro e _ ⟨rfl, rfl⟩
      go_wp2_with fail
      go_ret
      exact ⟨by rw [HC.out]; rfl, rfl⟩
    · have HC := Lib.hid (show cmpI a b = 0 by unfold cmpI; rw [if_neg h1, if_neg h2])
      go_enter Try.func58, Try.ntmps58
      go_wp2_with fail
      refine (isNaN _ _).mono ?_
      rintro e _ ⟨rfl, rfl⟩
      go_wp2_with fail
      refine (isNaN _ _).mono ?_
      rintro e _ ⟨rfl, rfl⟩
      go_wp2_with fail
      go_ret
      exact ⟨by rw [HC.out]; rfl, rfl⟩
theorem cmp_neg {a b : Int} : cmpI a b < 0 ↔ a < b := by
  unfold cmpI
  split
  · simp; assumption
  · split <;> simp <;> omega
theorem cmp_zero {a b : Int} : cmpI a b = 0 ↔ a = b := by
  unfold cmpI
  split
  · simp; omega
  · split
    · simp; omega
    · simp; omega
end Go.Proofs.Ytmbffcblhhippaa.CmpI
namespace Go.Proofs.Ytmbffcblhhippaa.Bs
open Go.RowKit
theorem wpAnyH_weak {P : Program} {md : Region.Mode} {ops : Array Oper} {Q : Exit → Act → World → Prop} {S S' : World → Prop} (hS : ∀ w, S' w → S w) : ∀ (fuel : Nat) (listed : Array Bool) (a : Act) (w : World), wpAnyH P md ops Q S' fuel listed a w → wpAnyH P md ops Q S fuel listed a w
  | 0, _, _, _, h => h
  | fuel + 1, _, _, _, h => ⟨h.1, fun i hi => wpOp_mono (fun a' w' h' => ⟨hS _ h'.1, wpAnyH_weak hS fuel _ a' w' h'.2⟩) (h.2 i hi)⟩
theorem wpAnyH_into {P : Program} {md : Region.Mode} {ops : Array Oper} {Q : Exit → Act → World → Prop} {S S' : World → Prop} {fuel : Nat} {listed : Array Bool} {a : Act} {w : World} (hS : ∀ w, S' w → S w) (h' : S' w) (h : S' w → wpAnyH P md ops Q S' fuel listed a w) : wpAnyH P md ops Q S fuel listed a w := wpAnyH_weak hS _ _ _ _ (h h')
end Go.Proofs.Ytmbffcblhhippaa.Bs
namespace Go.Proofs.Ytmbffcblhhippaa.Bs
open Go.RowKit
set_option linter.unusedVariables false
theorem step_append_at {P : Program} {w : World} {ops : Array Oper} {o : Oper} {a : Act} {K : Act → World → Prop} {Q : Exit → Act → World → Prop} {E : Prop} (hgd : o.guard = none) (s x : Operand) (t : TypeId)
    (ho : o.op = .call { callee := .builtin .append, args := #[s, x], argTypes := #[t, t] })
    (base : Nat) (e : TypeId) (i : TypeInfo) (z : Value) (size bytes : Nat) (ht : P.underlying t = some (.slice e)) (hi : P.info? e = some i) (hz : i.zero = some z)
    (hsize : i.size = size) (hby : i.bytes = bytes) (hzs : z.cells.size = size) (hsz : 0 < size)
    (v : Value) (n : Nat) (xs : List Value) (hs : a.eval s = v) (hown : w.ownsRow base e size v n xs)
    (ad : Addr) (m c : Nat) (news : List Value) (hx : a.eval x = .slice (some ad) m c) (hl : news.length = m * size) (hnews : ∀ j u, news[j]? = some u → w.cell? (ad.add j) = some u) (h1 : ∀ u ∈ news, u.oneCell' = true)
    (h63 : n + m ≤ maxLen) (hbytes : (n + m) * bytes ≤ 140737488355328) (hbase : base ≤ w.heap.size)
    (h : ∀ v' w', w'.ownsRow base e size v' (n + m) (xs ++ news) → w.grownBy w' v.ownBlock → (v'.ownBlock = v.ownBlock ∨ v'.ownBlock = some w.heap.size) → K (a.put o.dst v') w') :
    if Region.wanted o (yielded ops a.tmps) = true then Oper.wp P o a w K Q else E := by
  have hw : Region.wanted o (yielded ops a.tmps) = true := by simp [Region.wanted, hgd]
  rw [if_pos hw]
  obtain ⟨v', w', hr, h2, h3, h4, h5⟩ := run_append_own_at (P := P) w base t o.type e i z size bytes ht hi hz hsize hby hzs hsz v n xs hown ad m c news hl hnews h1 h63 hbytes hbase
  unfold Oper.wp execOp
  simp only [ho, resolve, invoke, builtin, Sem.run_bind, Sem.run_pure, Result.andThen_ok, List.map_toArray, List.map_cons, List.map_nil, hs, hx, hr]
  exact h v' w' h2 h3 h5
/-- what an append leaves alone -/
theorem Bx.grownBy {w w' : World} {G : Nat} {t : TypeId} {cs : Array Value} {r : Option Nat} (h : Bx w G t cs) (hg : w.grownBy w' r) (hne : r ≠ some G) : Bx w' G t cs := (hg.block G h.lt (fun e => hne e.symm)).trans h
theorem ne_next {w : World} {v v' : Value} {G : Nat} (h : v.ownBlock ≠ some G) (hG : G < w.heap.size) (hat : v'.ownBlock = v.ownBlock ∨ v'.ownBlock = some w.heap.size) : v'.ownBlock ≠ some G := fun e => by
  rcases hat with h' | h'
  · exact h (by rw [← h']; exact e)
  · rw [e] at h'
    have := Option.some.inj h'
    omega
theorem row_slice {w : World} {A E n cnt : Nat} {v : Value} {cs : List Value} (h : w.ownsRow A E n v cnt cs) : ∃ a c, v = .slice a cnt c := by
  rcases h.2 with ⟨h', hz⟩ | ⟨g, cap, cur, h', _⟩
  · exact ⟨_, _, by rw [h', hz]⟩
  · exact ⟨_, _, h'⟩
theorem own_alloc {w : World} {A E n cnt : Nat} {v : Value} {cs : List Value} (h : w.ownsRow A E n v cnt cs) (o : Obj) : w.ownsRow A E n v cnt cs → (w.alloc o).ownsRow A E n v cnt cs := fun h => h.alloc o
end Go.Proofs.Ytmbffcblhhippaa.Bs
namespace Go.Proofs.Ytmbffcblhhippaa.LInt
open Go.RowKit Bs
set_option linter.unusedVariables false
theorem infoK : (Try.prog.info? 3).map (fun i => (i.zero, i.size, i.bytes)) = some (some (.int .i64 0), 1, 8) := by kernel_rfl
theorem startB {w : World} {A g : Nat} (h : w.heap[g]? = some (.cells #[] 3 (0, 0))) (hA : A ≤ g) : w.ownsRow A 3 1 (.slice (some ⟨g, 0, none⟩) 0 0) 0 [] :=
  ⟨rfl, .inr ⟨g, 0, #[], rfl, hA, h, Nat.le_refl _, Nat.zero_le _, rfl, rfl⟩⟩
end Go.Proofs.Ytmbffcblhhippaa.LInt
