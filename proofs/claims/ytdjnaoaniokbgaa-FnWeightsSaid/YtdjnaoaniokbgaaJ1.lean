/- The data of the claim: records in memory, words, slices of the call's own, the cursor: texts joined by program. No condition. -/
import Derived.Test.YtdjnaoaniokbgaaRows
import Derived.WalkKit
import Derived.ProofKit
import Derived.OpenShut
import Derived.WalkSpells
import Derived.WalkSmall
import Derived.Lib.Hide
import Derived.Lib.QuietBelow
import Derived.Deep.QuietTactic
import Derived.Deep.Fields
import Derived.BigQuiet
import Derived.IntWalk
import Derived.WalkLawsBesides
import Derived.Laws.IdiomCopy
import Derived.Deep.RegionHeld3
import Derived.Deep.AppendLies
import Derived.Deep.DrawnRows
import Derived.RegionTactic
namespace Go.Proofs.Ytdjnaoaniokbgaa.Frame
open Go.ChangeShapes Go.WideShapes Go.ChangeAt Go.RowKit
theorem own : ownKnob Try.prog.godebug = none := by kernel_rfl
theorem laidOut : laidOutB Try.prog = true := by kernel_rfl
/-- A slice of integers that came in: nil, or a row of cap cells that hold the numbers zs (all of them, up to the capacity). -/
def IsRow (k : IntKind) (w : World) (a : Option Addr) (len cap : Nat) (zs : List Int) : Prop :=
  (a = none ∧ len = 0 ∧ cap = 0 ∧ zs = []) ∨
  ∃ x, a = some x ∧ len ≤ cap ∧ cap ≤ maxLen ∧ zs.length = cap ∧ (∀ i, i < zs.length → w.cell? (x.add i) = some (.int k (zs.getD i 0))) ∧ ∀ n ∈ zs, (Lit.int k n).wf = true
/-- A slice of strings that came in. -/
def IsStrs (w : World) (a : Option Addr) (len cap : Nat) (ss : List ByteArray) : Prop :=
  (a = none ∧ len = 0 ∧ cap = 0 ∧ ss = []) ∨
  ∃ x, a = some x ∧ len ≤ cap ∧ cap ≤ maxLen ∧ ss.length = cap ∧ (∀ i, i < ss.length → w.cell? (x.add i) = some (.string (ss.getD i ByteArray.empty))) ∧ ∀ s ∈ ss, s.size ≤ maxLen
end Go.Proofs.Ytdjnaoaniokbgaa.Frame
namespace Go.Proofs.Ytdjnaoaniokbgaa.Bs
open Go.RowKit
set_option linter.unusedVariables false

/-- nothing has turned but the blocks from A up to B; blocks may have been laid -/
structure Apart (A B : Nat) (w w' : World) : Prop where
  os : w'.os = w.os
  tape : w'.tape = w.tape
  output : w'.output = w.output
  size : w.heap.size ≤ w'.heap.size
  block : ∀ k, k < w.heap.size → (k < A ∨ B ≤ k) → w'.heap[k]? = w.heap[k]?
theorem Apart.refl (A B : Nat) (w : World) : Apart A B w w := ⟨rfl, rfl, rfl, Nat.le_refl _, fun _ _ _ => rfl⟩
theorem Apart.trans {A B : Nat} {a b c : World} (h : Apart A B a b) (k : Apart A B b c) : Apart A B a c :=
  ⟨k.os.trans h.os, k.tape.trans h.tape, k.output.trans h.output, Nat.le_trans h.size k.size, fun i hi hn => (k.block i (Nat.lt_of_lt_of_le hi h.size) hn).trans (h.block i hi hn)⟩
theorem Apart.of_below {A B : Nat} {a b : World} (h : Below a.heap.size a b) : Apart A B a b := ⟨h.os, h.tape, h.output, h.size, fun j hj _ => h.block j hj⟩
theorem Apart.of_below_low {A : Nat} {a b : World} (h : Below A a b) : Apart A a.heap.size a b := ⟨h.os, h.tape, h.output, h.size, fun j hj hn => h.block j (by omega)⟩
theorem Apart.wide {A B A' B' : Nat} {a b : World} (h : Apart A B a b) (hA : A' ≤ A) (hB : B ≤ B') : Apart A' B' a b := ⟨h.os, h.tape, h.output, h.size, fun j hj hn => h.block j hj (by omega)⟩
theorem Apart.below {A B B' : Nat} {a b : World} (h : Apart A B a b) (hB : B' ≤ A) (hz : B' ≤ a.heap.size) : Below B' a b :=
  ⟨h.os, h.tape, h.output, h.size, fun k hk => h.block k (by omega) (.inl (by omega))⟩
theorem Apart.set {A B : Nat} {a b : World} (h : Apart A B a b) {p : Addr} (hA : A ≤ p.block) (hB : p.block < B) (v : Value) : Apart A B a (b.setCell p v) :=
  h.trans ⟨rfl, rfl, rfl, by simp, fun k _ hk => heap_setCell_other b p k v (by omega)⟩
theorem Apart.alloc {A B : Nat} {a b : World} (h : Apart A B a b) (o : Obj) : Apart A B a (b.alloc o) := h.trans (Apart.of_below ((Below.refl _ _).alloc (Nat.le_refl _) o))
theorem Apart.on {A B : Nat} {a b c : World} (h : Apart A B a b) (hb : Below b.heap.size b c) : Apart A B a c := h.trans (Apart.of_below hb)

/-- a fact that hangs on the blocks from A up to B alone -/
structure Loc (A B : Nat) (P : World → Prop) (w : World) : Prop where
  le : B ≤ w.heap.size
  all : ∀ w' : World, B ≤ w'.heap.size → (∀ j, A ≤ j → j < B → w'.heap[j]? = w.heap[j]?) → P w'
section
variable {A B : Nat} {P : World → Prop} {w w' : World}
theorem Loc.now (h : Loc A B P w) : P w := h.all w h.le fun _ _ _ => rfl
theorem Loc.same (h : Loc A B P w) (hz : B ≤ w'.heap.size) (hs : ∀ j, A ≤ j → j < B → w'.heap[j]? = w.heap[j]?) : Loc A B P w' :=
  ⟨hz, fun w2 h2 hs2 => h.all w2 h2 fun j h1 h3 => (hs2 j h1 h3).trans (hs j h1 h3)⟩
theorem Loc.kept (h : Loc A B P w) (hb : Below w.heap.size w w') : Loc A B P w' :=
  h.same (Nat.le_trans h.le hb.size) fun j _ hj => hb.block j (Nat.lt_of_lt_of_le hj h.le)
theorem Loc.under {C : Nat} (h : Loc A B P w) (hb : Below C w w') (hC : B ≤ C) : Loc A B P w' :=
  h.same (Nat.le_trans h.le hb.size) fun j _ hj => hb.block j (by omega)
theorem Loc.apart {A' B' : Nat} (h : Loc A B P w) (ha : Apart A' B' w w') (hd : B ≤ A' ∨ B' ≤ A) : Loc A B P w' :=
  h.same (Nat.le_trans h.le ha.size) fun j h1 h2 => ha.block j (by have := h.le; omega) (by omega)
theorem Loc.alloc (h : Loc A B P w) (o : Obj) : Loc A B P (w.alloc o) := h.kept ((Below.refl _ _).alloc (Nat.le_refl _) o)
theorem Loc.imp {Q : World → Prop} (h : Loc A B P w) (hi : ∀ W, P W → Q W) : Loc A B Q w := ⟨h.le, fun w2 h2 hs => hi _ (h.all w2 h2 hs)⟩
end

theorem cell_lt {w : World} {p : Addr} {v : Value} (h : w.cell? p = some v) : p.block < w.heap.size := by
  rcases Nat.lt_or_ge p.block w.heap.size with h' | h'
  · exact h'
  · simp [World.cell?, Array.getElem?_eq_none h'] at h

/-- a type of records: how many cells, which values -/
structure Rec (α : Type) where
  n : Nat
  vals : α → List Value
  len : ∀ a, (vals a).length = n
  pos : 0 < n
  one : ∀ a, ∀ u ∈ vals a, u.oneCell' = true
section
variable {α : Type} (T : Rec α)
def flat (xs : List α) : List Value := xs.flatMap T.vals
theorem flat_cons (x : α) (xs : List α) : flat T (x :: xs) = T.vals x ++ flat T xs := rfl
theorem flat_len : ∀ xs : List α, (flat T xs).length = xs.length * T.n
  | [] => by simp [flat]
  | x :: xs => by rw [flat_cons, List.length_append, flat_len xs, List.length_cons, T.len, Nat.add_mul, Nat.one_mul, Nat.add_comm]
theorem flat_append (xs ys : List α) : flat T (xs ++ ys) = flat T xs ++ flat T ys := by simp [flat]
theorem flat_one (xs : List α) : ∀ u ∈ flat T xs, u.oneCell' = true := by
  intro u hu
  obtain ⟨r, _, hr⟩ := List.mem_flatMap.1 hu
  exact T.one r u hr
theorem flat_at : ∀ (xs : List α) (k j : Nat) (r : α), xs[k]? = some r → j < T.n → (flat T xs)[k * T.n + j]? = (T.vals r)[j]?
  | [], k, j, r, h, _ => by simp at h
  | x :: xs, 0, j, r, h, hj => by
    simp only [List.getElem?_cons_zero, Option.some.injEq] at h
    subst h
    rw [flat_cons, Nat.zero_mul, Nat.zero_add, List.getElem?_append_left (by rw [T.len]; exact hj)]
  | x :: xs, k + 1, j, r, h, hj => by
    rw [List.getElem?_cons_succ] at h
    have e0 : (k + 1) * T.n = k * T.n + T.n := Nat.succ_mul k T.n
    rw [flat_cons, List.getElem?_append_right (by rw [T.len, e0]; omega), T.len]
    have e : (k + 1) * T.n + j - T.n = k * T.n + j := by rw [e0]; omega
    rw [e]
    exact flat_at xs k j r h hj
theorem flat_set : ∀ (ys : List α) (k j : Nat) (r r' : α) (v : Value), ys[k]? = some r → j < T.n → T.vals r' = (T.vals r).set j v → (flat T ys).set (k * T.n + j) v = flat T (ys.set k r')
  | [], k, j, r, r', v, h, _, _ => by simp at h
  | x :: ys, 0, j, r, r', v, h, hj, hv => by
    simp only [List.getElem?_cons_zero, Option.some.injEq] at h
    subst h
    show (T.vals x ++ flat T ys).set (0 * T.n + j) v = T.vals r' ++ flat T ys
    rw [Nat.zero_mul, Nat.zero_add, List.set_append_left _ _ (by rw [T.len]; exact hj), hv]
  | x :: ys, k + 1, j, r, r', v, h, hj, hv => by
    rw [List.getElem?_cons_succ] at h
    show (T.vals x ++ flat T ys).set ((k + 1) * T.n + j) v = T.vals x ++ flat T (ys.set k r')
    have e0 : (k + 1) * T.n = k * T.n + T.n := Nat.succ_mul k T.n
    rw [List.set_append_right _ _ (by rw [T.len, e0]; omega), T.len]
    have e : (k + 1) * T.n + j - T.n = k * T.n + j := by rw [e0]; omega
    rw [e, flat_set ys k j r r' v h hj hv]
/-- the cells of a record at a place -/
def At (w : World) (b p : Nat) (r : α) : Prop := ∀ j v, (T.vals r)[j]? = some v → w.cell? ⟨b, p + j, none⟩ = some v
theorem At.keep {w w' : World} {b p : Nat} {r : α} (h : At T w b p r) (hk : ∀ o, w'.cell? ⟨b, o, none⟩ = w.cell? ⟨b, o, none⟩) : At T w' b p r := fun j v hv => by rw [hk]; exact h j v hv
theorem At.below {w w' : World} {b p B : Nat} {r : α} (h : At T w b p r) (hb : Below B w w') (hl : b < B) : At T w' b p r := h.keep T fun o => hb.cell (p := ⟨b, o, none⟩) hl
/-- a slice of records lies in memory -/
def RowsAt (w : World) (a : Option Addr) (c : Nat) (xs : List α) : Prop :=
  xs.length ≤ c ∧ c ≤ maxLen ∧ (xs = [] ∨ ∃ b o, a = some ⟨b, o, none⟩ ∧ b < w.heap.size ∧ ∀ j r, xs[j]? = some r → At T w b (o + j * T.n) r)
theorem RowsAt.below {w w' : World} {a : Option Addr} {c : Nat} {xs : List α} (h : RowsAt T w a c xs) (hb : Below w.heap.size w w') : RowsAt T w' a c xs := by
  obtain ⟨h1, h2, h3⟩ := h
  refine ⟨h1, h2, ?_⟩
  rcases h3 with h3 | ⟨b, o, rfl, hlt, hc⟩
  · exact .inl h3
  · exact .inr ⟨b, o, rfl, Nat.lt_of_lt_of_le hlt hb.size, fun j r hr => (hc j r hr).below T hb hlt⟩
/-- the record at a place: where it lies -/
theorem RowsAt.at_ {w : World} {a : Option Addr} {c : Nat} {xs : List α} (h : RowsAt T w a c xs) : Hid (∀ j r, xs[j]? = some r → ∃ b o, a = some ⟨b, o, none⟩ ∧ b < w.heap.size ∧ At T w b (o + j * T.n) r) := by
  obtain ⟨_, _, h3⟩ := h
  intro j r hr
  rcases h3 with rfl | ⟨b, o, rfl, hl, hc⟩
  · simp at hr
  · exact ⟨b, o, rfl, hl, hc j r hr⟩
/-- a slice value that reads as these records -/
def Is (w : World) (v : Value) (xs : List α) : Prop := ∃ a c, v = .slice a xs.length c ∧ RowsAt T w a c xs
theorem Is.below {w w' : World} {v : Value} {xs : List α} (h : Is T w v xs) (hb : Below w.heap.size w w') : Is T w' v xs := by
  obtain ⟨a, c, e, h⟩ := h
  exact ⟨a, c, e, h.below T hb⟩
/-- a slice value, not nil, that reads as these records -/
def IsS (w : World) (v : Value) (xs : List α) : Prop := ∃ b o c, v = .slice (some ⟨b, o, none⟩) xs.length c ∧ b < w.heap.size ∧ xs.length ≤ c ∧ c ≤ maxLen ∧ ∀ j r, xs[j]? = some r → At T w b (o + j * T.n) r
theorem IsS.is {w : World} {v : Value} {xs : List α} (h : IsS T w v xs) : Is T w v xs := by
  obtain ⟨b, o, c, e, hb, h1, h2, h3⟩ := h
  exact ⟨_, c, e, h1, h2, .inr ⟨b, o, rfl, hb, h3⟩⟩
/-- all cells of a slice, one by one -/
theorem flat_cells {w : World} {b o : Nat} {xs : List α} (h : ∀ j r, xs[j]? = some r → At T w b (o + j * T.n) r) : ∀ j u, (flat T xs)[j]? = some u → w.cell? ⟨b, o + j, none⟩ = some u := by
  intro j u hu
  have hj : j < xs.length * T.n := by rw [← flat_len]; exact (List.getElem?_eq_some_iff.1 hu).1
  have hp := T.pos
  have hx : j / T.n < xs.length := (Nat.div_lt_iff_lt_mul hp).2 hj
  have hr := List.getElem?_eq_getElem hx
  have hm : j % T.n < T.n := Nat.mod_lt _ hp
  have hf := flat_at T xs (j / T.n) (j % T.n) _ hr hm
  have e : j / T.n * T.n + j % T.n = j := Nat.div_add_mod' j T.n
  rw [e, hu] at hf
  have := h _ _ hr (j % T.n) u hf.symm
  rwa [show o + j / T.n * T.n + j % T.n = o + j by rw [Nat.add_assoc, e]] at this
/-- a slice value of the call's own, its block at A or above, that holds these records -/
def Own (E : TypeId) (w : World) (A : Nat) (v : Value) (xs : List α) : Prop := w.ownsRow A E T.n v xs.length (flat T xs)
variable {T} {E : TypeId} {w w' : World} {A B : Nat} {v : Value} {xs : List α}
theorem Own.shape (h : Own T E w A v xs) : (v = .slice none 0 0 ∧ xs = []) ∨ ∃ g cap, v = .slice (some ⟨g, 0, none⟩) xs.length cap ∧ A ≤ g ∧ g < w.heap.size ∧ xs.length ≤ cap ∧ cap ≤ maxLen := by
  rcases h.2 with ⟨h', hz⟩ | ⟨g, cap, cur, h', hbg, hg, hnc, hcm, _, _⟩
  · exact .inl ⟨h', List.eq_nil_of_length_eq_zero hz⟩
  · exact .inr ⟨g, cap, h', hbg, (Array.getElem?_eq_some_iff.1 hg).1, hnc, hcm⟩
theorem Own.same (h : Own T E w A v xs) (hs : ∀ k, v.ownBlock = some k → w'.heap[k]? = w.heap[k]?) : Own T E w' A v xs := by
  refine ⟨h.1, ?_⟩
  rcases h.2 with hn | ⟨g, cap, cur, rfl, hbg, hgg, rest⟩
  · exact .inl hn
  · refine .inr ⟨g, cap, cur, rfl, hbg, ?_, rest⟩
    rw [hs g rfl]
    exact hgg
theorem Own.kept (h : Own T E w A v xs) (hb : Below w.heap.size w w') : Own T E w' A v xs := h.same fun k hk => hb.block k (h.lt k hk).2
theorem Own.low {A' : Nat} (h : Own T E w A v xs) (hA : A' ≤ A) : Own T E w A' v xs := by
  refine ⟨h.1, ?_⟩
  rcases h.2 with hn | ⟨g, cap, cur, rfl, hbg, rest⟩
  · exact .inl hn
  · exact .inr ⟨g, cap, cur, rfl, Nat.le_trans hA hbg, rest⟩
theorem Own.alloc (h : Own T E w A v xs) (o : Obj) : Own T E (w.alloc o) A v xs := h.kept ((Below.refl _ _).alloc (Nat.le_refl _) o)
/-- an empty slice that was just built -/
theorem Own.start (h : A ≤ w.heap.size) : Own T E (w.alloc (.cells #[] E)) A (.slice (some ⟨w.heap.size, 0, none⟩) 0 0) [] := by
  refine ⟨by simp [flat], .inr ⟨w.heap.size, 0, #[], rfl, h, ?_, Nat.le_refl _, Nat.zero_le _, by simp, by simp [flat]⟩⟩
  show (w.heap.push _)[w.heap.size]? = _
  rw [Array.getElem?_push, if_pos rfl]
theorem Own.nil : Own T E w A (.slice none 0 0) [] := ⟨by simp [flat], .inl ⟨rfl, rfl⟩⟩
theorem Own.is (h : Own T E w A v xs) : Is T w v xs := by
  rcases h.shape with ⟨rfl, rfl⟩ | ⟨g, cap, rfl, _, hlt, hc, hm⟩
  · exact ⟨none, 0, rfl, Nat.le_refl _, Nat.zero_le _, .inl rfl⟩
  · refine ⟨_, cap, rfl, hc, hm, .inr ⟨g, 0, rfl, hlt, fun j r hr i u hu => ?_⟩⟩
    have hi : i < T.n := by rw [← T.len r]; exact (List.getElem?_eq_some_iff.1 hu).1
    have hcell := World.ownsRow.cells h (g := g) rfl (j * T.n + i) u (by rw [flat_at T xs j i r hr hi]; exact hu)
    rw [Go.WideShapes.add_plain] at hcell
    rw [show 0 + j * T.n + i = 0 + (j * T.n + i) by omega]
    exact hcell
theorem Own.isS (h : Own T E w A v xs) (hv : ∃ g, v.ownBlock = some g) : IsS T w v xs := by
  obtain ⟨g0, hg0⟩ := hv
  rcases h.shape with ⟨rfl, rfl⟩ | ⟨g, cap, rfl, _, hlt, hc, hm⟩
  · cases hg0
  · refine ⟨g, 0, cap, rfl, hlt, hc, hm, fun j r hr i u hu => ?_⟩
    have hi : i < T.n := by rw [← T.len r]; exact (List.getElem?_eq_some_iff.1 hu).1
    have hcell := World.ownsRow.cells h (g := g) rfl (j * T.n + i) u (by rw [flat_at T xs j i r hr hi]; exact hu)
    rw [Go.WideShapes.add_plain] at hcell
    rw [show 0 + j * T.n + i = 0 + (j * T.n + i) by omega]
    exact hcell
theorem Own.rows {g n cap : Nat} (hn : xs.length = n) (h : Own T E w A (.slice (some ⟨g, 0, none⟩) n cap) xs) : RowsAt T w (some ⟨g, 0, none⟩) cap xs := by
  obtain ⟨a, c, e, hr⟩ := h.is
  simp only [Value.slice.injEq] at e
  obtain ⟨rfl, _, rfl⟩ := e
  exact hr
/-- the cells of a record of the row -/
theorem Own.at_ {g n cap : Nat} (h : Own T E w A (.slice (some ⟨g, 0, none⟩) n cap) xs) (k : Nat) (r : α) (hr : xs[k]? = some r) : At T w g (k * T.n) r := fun i u hu => by
  have hi : i < T.n := by rw [← T.len r]; exact (List.getElem?_eq_some_iff.1 hu).1
  have hcell := World.ownsRow.cells h (g := g) rfl (k * T.n + i) u (by rw [flat_at T xs k i r hr hi]; exact hu)
  rw [Go.WideShapes.add_plain] at hcell
  rw [show k * T.n + i = 0 + (k * T.n + i) by omega]
  exact hcell
theorem Own.frozen {g n cap : Nat} (hn : xs.length = n) (h : Own T E w A (.slice (some ⟨g, 0, none⟩) n cap) xs) (o : Nat) : w.frozen? ⟨g, o, none⟩ = false := by
  subst hn
  exact World.ownsRow.frozenAt h o
/-- a store into one cell -/
theorem Own.put {g n cap : Nat} (hn : xs.length = n) (h : Own T E w A (.slice (some ⟨g, 0, none⟩) n cap) xs) (k j : Nat) (r r' : α) (u : Value) (hr : xs[k]? = some r) (hj : j < T.n) (hv : T.vals r' = (T.vals r).set j u) :
    Own T E (w.setCell ⟨g, k * T.n + j, none⟩ u) A (.slice (some ⟨g, 0, none⟩) n cap) (xs.set k r') := by
  subst hn
  unfold Own
  rw [← flat_set T xs k j r r' u hr hj hv, List.length_set]
  exact (World.ownsRow.stored h (k * T.n + j) u).1
/-- made by an append of one record that lies somewhere -/
theorem Own.next {n : Nat} {news : List α} (h : w.ownsRow A E T.n v (xs.length + news.length) (flat T xs ++ flat T news)) : Own T E w A v (xs ++ news) := by
  unfold Own
  rw [List.length_append, flat_append]
  exact h
/-- an owned value whose block lies between A and B -/
def OwnB (T : Rec α) (E : TypeId) (A B : Nat) (v : Value) (xs : List α) (w : World) : Prop := Own T E w A v xs ∧ ∀ k, v.ownBlock = some k → k < B
theorem Own.loc (h : Own T E w A v xs) : Loc A w.heap.size (OwnB T E A w.heap.size v xs) w :=
  ⟨Nat.le_refl _, fun w' hz hs => ⟨h.same fun k hk => hs k (h.lt k hk).1 (h.lt k hk).2, fun k hk => (h.lt k hk).2⟩⟩
theorem OwnB.loc (h : OwnB T E A B v xs w) (hB : B ≤ w.heap.size) : Loc A B (OwnB T E A B v xs) w :=
  ⟨hB, fun w' hz hs => ⟨h.1.same fun k hk => hs k (h.1.lt k hk).1 (h.2 k hk), h.2⟩⟩
/-- what came in -/
theorem Is.loc (h : Is T w v xs) : Loc 0 w.heap.size (fun W => Is T W v xs) w := by
  refine ⟨Nat.le_refl _, fun w' hz hs => ?_⟩
  obtain ⟨a, c, e, h1, h2, h3⟩ := h
  refine ⟨a, c, e, h1, h2, ?_⟩
  rcases h3 with h3 | ⟨b, o, rfl, hlt, hc⟩
  · exact .inl h3
  · refine .inr ⟨b, o, rfl, Nat.lt_of_lt_of_le hlt hz, fun j r hr => (hc j r hr).keep T fun p => ?_⟩
    exact World.cell?_of_block (a := ⟨b, p, none⟩) (hs b (Nat.zero_le _) hlt)
end
theorem boxLoc {α : Type} (T : Rec α) {w : World} {o : Obj} {r : α} (h : At T (w.alloc o) w.heap.size 0 r) : Loc w.heap.size (w.heap.size + 1) (fun W => At T W w.heap.size 0 r) (w.alloc o) :=
  ⟨by simp, fun w' hz hs => h.keep T fun p => World.cell?_of_block (a := ⟨w.heap.size, p, none⟩) (hs _ (Nat.le_refl _) (Nat.lt_succ_self _))⟩
/-- an append to a slice of the call's own, as a step of a region that draws its order -/
theorem step_append {P : Program} {w : World} {ops : Array Oper} {o : Oper} {a : Act} {K : Act → World → Prop} {Q : Exit → Act → World → Prop} {E : Prop} (hgd : o.guard = none) (s x : Operand) (t : TypeId)
    (ho : o.op = .call { callee := .builtin .append, args := #[s, x], argTypes := #[t, t] })
    (base : Nat) (e : TypeId) (i : TypeInfo) (z : Value) (size bytes : Nat) (ht : P.underlying t = some (.slice e)) (hi : P.info? e = some i) (hz : i.zero = some z)
    (hsize : i.size = size) (hby : i.bytes = bytes) (hzs : z.cells.size = size) (hsz : 0 < size)
    (v : Value) (n : Nat) (xs : List Value) (hs : a.eval s = v) (hown : w.ownsRow base e size v n xs)
    (ad : Addr) (m c : Nat) (news : List Value) (hx : a.eval x = .slice (some ad) m c) (hl : news.length = m * size) (hnews : ∀ j u, news[j]? = some u → w.cell? (ad.add j) = some u) (h1 : ∀ u ∈ news, u.oneCell' = true)
    (h63 : n + m ≤ maxLen) (hbytes : (n + m) * bytes ≤ 140737488355328) (hbase : base ≤ w.heap.size)
    (h : ∀ v' w', w'.ownsRow base e size v' (n + m) (xs ++ news) → w.grownBy w' v.ownBlock → K (a.put o.dst v') w') :
    if Region.wanted o (yielded ops a.tmps) = true then Oper.wp P o a w K Q else E := by
  have hw : Region.wanted o (yielded ops a.tmps) = true := by simp [Region.wanted, hgd]
  rw [if_pos hw]
  exact wp_append_own w s x t ho base e i z size bytes ht hi hz hsize hby hzs hsz v n xs hs hown ad m c news hx hl hnews h1 h63 hbytes hbase fun v' w' h2 h3 _ => h v' w' h2 h3
theorem ret_true : Ending.returned (.bool true) = .returned (.bool true) := rfl
/-- a callee that leaves the world alone, met in a quiet region -/
theorem quiet_eq {P : Program} {f : FuncId} {args : Array Value} {w : World} {n : Nat} {v : Value}
    (h : Calls P f args (w.drewN n) fun e w' => e = .returned v ∧ w.drewN n = w') : Calls P f args (w.drewN n) fun e w'' => e = .returned v ∧ ∃ m, w'' = w.drewN m :=
  h.mono fun _ _ ⟨he, hm⟩ => ⟨he, n, hm.symm⟩
/-- the same in a region where memory may be made -/
theorem regrown_eq {P : Program} {f : FuncId} {args : Array Value} {w : World} {d : Nat} {os : Array Obj} {v : Value}
    (h : Calls P f args (Sort.grow (redrawn w d) os) fun e w' => e = .returned v ∧ Sort.grow (redrawn w d) os = w') : Calls P f args (Sort.grow (redrawn w d) os) fun e w'' => e = .returned v ∧ ∃ p : Regrown, w'' = Sort.grow (redrawn w p.d) p.os :=
  Calls.regrown_of (h.mono fun _ _ ⟨he, hm⟩ => ⟨he, by rw [← hm]; exact Below.refl _ _⟩)
theorem drawn_below (w : World) (n : Nat) : Below w.heap.size w (w.drewN n) := ⟨rfl, rfl, rfl, Nat.le_refl _, fun _ _ => rfl⟩
/-- the head of a slice, and its rest -/
theorem IsS.take {α : Type} (T : Rec α) {w : World} {b o n c k : Nat} {z : List α} (h : IsS T w (.slice (some ⟨b, o, none⟩) n c) z) (hk : k ≤ n) : IsS T w (.slice (some ⟨b, o, none⟩) k c) (z.take k) := by
  obtain ⟨b', o', c', e, hbl, h1, h2, h3⟩ := h
  simp only [Value.slice.injEq, Option.some.injEq, Addr.mk.injEq, and_true] at e
  obtain ⟨⟨rfl, rfl⟩, rfl, rfl⟩ := e
  refine ⟨b, o, c, by rw [List.length_take, Nat.min_eq_left hk], hbl, by rw [List.length_take, Nat.min_eq_left hk]; omega, h2, fun i r hr => h3 i r ?_⟩
  rw [List.getElem?_take] at hr
  split at hr
  · exact hr
  · cases hr
theorem IsS.drop {α : Type} (T : Rec α) {w : World} {b o n c k : Nat} {z : List α} (t : Option Addr) (ht : t = if c = k then some ⟨b, o, none⟩ else some ⟨b, o + k * T.n, none⟩) (h : IsS T w (.slice (some ⟨b, o, none⟩) n c) z) (hk : k ≤ n) (m3 c3 : Nat) (hm3 : m3 = n - k) (hc3 : c3 = c - k) : IsS T w (.slice t m3 c3) (z.drop k) := by
  subst hm3 hc3
  obtain ⟨b', o', c', e, hbl, h1, h2, h3⟩ := h
  simp only [Value.slice.injEq, Option.some.injEq, Addr.mk.injEq, and_true] at e
  obtain ⟨⟨rfl, rfl⟩, rfl, rfl⟩ := e
  by_cases hck : c = k
  · rw [if_pos hck] at ht
    subst ht
    refine ⟨b, o, c - k, by rw [List.length_drop], hbl, by rw [List.length_drop]; omega, by unfold maxLen at h2 ⊢; omega, fun i r hr => ?_⟩
    rw [List.drop_eq_nil_of_le (by omega)] at hr
    simp at hr
  · rw [if_neg hck] at ht
    subst ht
    refine ⟨b, o + k * T.n, c - k, by rw [List.length_drop], hbl, by rw [List.length_drop]; omega, by unfold maxLen at h2 ⊢; omega, fun i r hr => ?_⟩
    have h := h3 (k + i) r (by rw [List.getElem?_drop] at hr; exact hr)
    rwa [Nat.add_mul, ← Nat.add_assoc] at h
theorem IsS.below {α : Type} (T : Rec α) {w w' : World} {v : Value} {z : List α} (h : IsS T w v z) (hb : Below w.heap.size w w') : IsS T w' v z := by
  obtain ⟨b, o, c, e, hbl, h1, h2, h3⟩ := h
  exact ⟨b, o, c, e, Nat.lt_of_lt_of_le hbl hb.size, h1, h2, fun j r hr => (h3 j r hr).below T hb hbl⟩
/-- a slice of one record that lies at a block's head -/
theorem IsS.unit {α : Type} (T : Rec α) {w : World} {g : Nat} {x : α} (hg : g < w.heap.size) (h : At T w g 0 x) : IsS T w (.slice (some ⟨g, 0, none⟩) 1 1) [x] := by
  refine ⟨g, 0, 1, rfl, hg, Nat.le_refl _, by unfold maxLen; omega, fun i r hr => ?_⟩
  match i, hr with
  | 0, hr =>
    simp only [List.getElem?_cons_zero, Option.some.injEq] at hr
    subst hr
    rw [Nat.zero_mul]
    exact h
  | i + 1, hr => simp at hr
theorem alloc_two (W : World) (o1 o2 : Obj) : ((W.alloc o1).alloc o2).heap[W.heap.size + 1]? = some o2 := by simpa using heap_alloc_new (W.alloc o1) o2
theorem alloc_old (W : World) (o1 o2 : Obj) : ((W.alloc o1).alloc o2).heap[W.heap.size]? = some o1 := (Below.heap_alloc _ _ _ (by simp)).trans (heap_alloc_new _ _)
theorem ite_slice (c : Prop) [Decidable c] (x y : Addr) (n m : Nat) : Value.slice (if c then some x else some y) n m = .slice (some (if c then x else y)) n m := by split <;> rfl
theorem own_in {w : World} {A : Nat} {e : TypeId} {size n : Nat} {v : Value} {xs : List Value} (h : w.ownsRow A e size v (0 + n) ([] ++ xs)) : w.ownsRow A e size v n xs := by
  rwa [Nat.zero_add, List.nil_append] at h
theorem own_ge {B g n c k : Nat} (hj : (Value.slice (some ⟨g, 0, none⟩) n c).ownBlock = some k) (h : B ≤ g) : B ≤ k := by
  simp only [Value.ownBlock, Option.some.injEq] at hj
  omega
theorem IsS.flatCells {α : Type} (T : Rec α) {w : World} {b o n c : Nat} {z : List α} (h : IsS T w (.slice (some ⟨b, o, none⟩) n c) z) : ∀ j u, (flat T z)[j]? = some u → w.cell? (Addr.add ⟨b, o, none⟩ j) = some u := fun j u hu => by
  obtain ⟨b', o', c', e, hbl, h1, h2, h3⟩ := h
  simp only [Value.slice.injEq, Option.some.injEq, Addr.mk.injEq, and_true] at e
  obtain ⟨⟨rfl, rfl⟩, rfl, rfl⟩ := e
  rw [Go.WideShapes.add_plain]
  exact flat_cells T h3 j u hu
theorem own_of {α : Type} (T : Rec α) {E : TypeId} {w : World} {A cnt : Nat} {v : Value} {cells : List Value} {xs : List α} (h : w.ownsRow A E T.n v cnt cells) (hc : xs.length = cnt) (hf : flat T xs = cells) : Own T E w A v xs := by
  unfold Own; rw [hc, hf]; exact h
end Go.Proofs.Ytdjnaoaniokbgaa.Bs
namespace Go.Proofs.Ytdjnaoaniokbgaa.LInt
open Go.RowKit Bs
set_option linter.unusedVariables false
abbrev R := Int
def vals (r : R) : List Value := [.int .i64 r]
/-- one value as a type of records -/
def rec : Rec R := ⟨1, vals, fun _ => rfl, by decide, fun r u hu => by
  simp only [vals, List.mem_cons, List.not_mem_nil, or_false] at hu
  rcases hu with rfl
  rfl⟩
theorem rec_n : rec.n = 1 := rfl
theorem info : (Try.prog.info? 3).map (fun i => (i.zero, i.size)) = some (some (.int .i64 0), 1) := by kernel_rfl
theorem cells {w : World} {b p : Nat} {r : R} (h : At rec w b p r) : w.cell? ⟨b, p, none⟩ = some (.int .i64 r) := h 0 _ rfl
theorem at_of {w : World} {b p : Nat} {r : R} (h0 : w.cell? ⟨b, p, none⟩ = some (.int .i64 r)) : At rec w b p r := fun j v hv => by
  have hj : j < 1 := (List.getElem?_eq_some_iff.1 hv).1
  obtain rfl : j = 0 := by omega
  rw [← hv]; exact h0
/-- facts of a value in all worlds that only grew -/
theorem grown {w : World} {b p : Nat} {r : R} (h : At rec w b p r) (hl : b < w.heap.size) : Hid (∀ d os, At rec (Sort.grow (redrawn w d) os) b p r) := fun d os => h.below rec (below_regrown w d os) hl
theorem flat_eq (xs : List R) : flat rec xs = xs.map (fun r => .int .i64 r) := by
  induction xs with
  | nil => rfl
  | cons x xs ih => rw [flat_cons, ih]; rfl
def zero : R := 0
theorem made_zero (n : Nat) : (madeCells (#[.int .i64 0] : Array Value) n).toList = flat rec (List.replicate n zero) := by
  apply List.ext_getElem?
  intro i
  rw [madeCells, flat_eq]
  by_cases hi : i < n
  · simp only [Array.toList_map, List.getElem?_map, Array.toList_range, List.getElem?_range hi, Option.map_some, List.getElem?_replicate, if_pos hi]
    have h1 : i % (#[.int .i64 0] : Array Value).size = 0 := Nat.mod_one i
    rw [h1]
    rfl
  · rw [List.getElem?_eq_none (by simp; omega), List.getElem?_eq_none (by simp; omega)]
/-- what a copy holds after k stores -/
def part (xs : List R) (n k : Nat) : List R := xs.take k ++ List.replicate (n - k) zero
theorem part_len (xs : List R) (n k : Nat) (h : xs.length = n) (hk : k ≤ n) : (part xs n k).length = n := by simp [part]; omega
theorem part_zero (xs : List R) (n : Nat) : part xs n 0 = List.replicate n zero := by simp [part]
theorem part_all (xs : List R) (n : Nat) (h : xs.length = n) : part xs n n = xs := by
  unfold part; rw [List.take_of_length_le (by omega), Nat.sub_self]; simp
theorem part_set (xs : List R) (n k : Nat) (h : xs.length = n) (hk : k < xs.length) : (part xs n k).set k xs[k] = part xs n (k + 1) := by
  unfold part
  have hl : (xs.take k).length = k := by rw [List.length_take]; omega
  rw [List.set_append_right _ _ (by omega), hl, Nat.sub_self]
  have e : n - k = (n - (k + 1)) + 1 := by omega
  rw [e, List.replicate_succ, List.set_cons_zero, List.take_succ_eq_append_getElem hk, List.append_assoc]
  rfl
theorem part_at (xs : List R) (n k : Nat) (h : xs.length = n) (hk : k < n) : (part xs n k)[k]? = some zero := by
  unfold part
  have hl : (xs.take k).length = k := by rw [List.length_take]; omega
  rw [List.getElem?_append_right (by omega), hl, Nat.sub_self, List.getElem?_replicate, if_pos (by omega)]
abbrev OwnR (w : World) (A g n cap : Nat) (ys : List R) : Prop := Own rec 3 w A (.slice (some ⟨g, 0, none⟩) n cap) ys
/-- a store of one value -/
theorem putAll {w : World} {A g n cap : Nat} {ys : List R} (hn : ys.length = n) (h : OwnR w A g n cap ys) (k : Nat) (r0 r : R) (hr : ys[k]? = some r0) :
    OwnR (w.setCell ⟨g, k, none⟩ (.int .i64 r)) A g n cap (ys.set k r) := by
  have h0 := Own.put hn h k 0 r0 r (.int .i64 r) hr (by decide) rfl
  rw [rec_n, Nat.mul_one, Nat.add_zero] at h0
  exact h0
end Go.Proofs.Ytdjnaoaniokbgaa.LInt
namespace Go.Proofs.Ytdjnaoaniokbgaa.LProxy
open Go.RowKit Bs
set_option linter.unusedVariables false

structure R where
  src : Int
  dst : Int
def vals (r : R) : List Value := [.int .i64 r.src, .int .i64 r.dst]
/-- the struct as a type of records -/
def rec : Rec R := ⟨2, vals, fun _ => rfl, by decide, fun r u hu => by
  simp only [vals, List.mem_cons, List.not_mem_nil, or_false] at hu
  rcases hu with rfl | rfl <;> rfl⟩
theorem rec_n : rec.n = 2 := rfl
theorem info : (Try.prog.info? 70).map (fun i => (i.zero, i.size)) = some (some (.agg #[.int .i64 0, .int .i64 0]), 2) := by kernel_rfl
theorem cells {w : World} {b p : Nat} {r : R} (h : At rec w b p r) : w.cell? ⟨b, p, none⟩ = some (.int .i64 r.src) ∧ w.cell? ⟨b, p + 1, none⟩ = some (.int .i64 r.dst) :=
  ⟨h 0 _ rfl, h 1 _ rfl⟩
theorem cells0 {w : World} {b : Nat} {r : R} (h : At rec w b 0 r) : w.cell? ⟨b, 0, none⟩ = some (.int .i64 r.src) ∧ w.cell? ⟨b, 1, none⟩ = some (.int .i64 r.dst) := by
  have := cells h
  simpa only [Nat.zero_add] using this
theorem at_of {w : World} {b p : Nat} {r : R} (h0 : w.cell? ⟨b, p, none⟩ = some (.int .i64 r.src)) (h1 : w.cell? ⟨b, p + 1, none⟩ = some (.int .i64 r.dst)) : At rec w b p r := fun j v hv => by
  have hj : j < 2 := (List.getElem?_eq_some_iff.1 hv).1
  match j, hj with
  | 0, _ => rw [← hv]; exact h0
  | 1, _ => rw [← hv]; exact h1
/-- a record that was boxed -/
theorem box (w : World) (r : R) (t : TypeId) : At rec (w.alloc (.cells #[.int .i64 r.src, .int .i64 r.dst] t)) w.heap.size 0 r := at_of (by simp [go_sem]) (by simp [go_sem])
/-- facts of a record in all worlds that only grew -/
theorem grown {w : World} {b p : Nat} {r : R} (h : At rec w b p r) (hl : b < w.heap.size) : Hid (∀ d os, At rec (Sort.grow (redrawn w d) os) b p r) := fun d os => h.below rec (below_regrown w d os) hl
def zero : R := ⟨0, 0⟩
theorem made_zero (n : Nat) : (madeCells (#[.int .i64 0, .int .i64 0] : Array Value) (n * 2)).toList = flat rec (List.replicate n zero) := by
  apply List.ext_getElem?
  intro i
  rw [madeCells]
  by_cases hi : i < n * 2
  · have h1 := flat_at rec (List.replicate n zero) (i / 2) (i % 2) zero (by rw [List.getElem?_replicate, if_pos (by omega)]) (by rw [rec_n]; omega)
    have e : i / 2 * 2 + i % 2 = i := by omega
    rw [rec_n, e] at h1
    rw [h1]
    have hs : (#[.int .i64 0, .int .i64 0] : Array Value).size = 2 := rfl
    simp only [hs, Array.toList_map, List.getElem?_map, Array.toList_range, List.getElem?_range hi, Option.map_some]
    have h7 : i % 2 < 2 := by omega
    generalize i % 2 = m at *
    match m, h7 with
    | 0, _ => rfl
    | 1, _ => rfl
  · rw [List.getElem?_eq_none (by simp; omega), List.getElem?_eq_none (by rw [flat_len, List.length_replicate, rec_n]; omega)]
/-- what a copy holds after k stores -/
def part (xs : List R) (n k : Nat) : List R := xs.take k ++ List.replicate (n - k) zero
theorem part_len (xs : List R) (n k : Nat) (h : xs.length = n) (hk : k ≤ n) : (part xs n k).length = n := by simp [part]; omega
theorem part_zero (xs : List R) (n : Nat) : part xs n 0 = List.replicate n zero := by simp [part]
theorem part_all (xs : List R) (n : Nat) (h : xs.length = n) : part xs n n = xs := by
  unfold part; rw [List.take_of_length_le (by omega), Nat.sub_self]; simp
theorem part_set (xs : List R) (n k : Nat) (h : xs.length = n) (hk : k < xs.length) : (part xs n k).set k xs[k] = part xs n (k + 1) := by
  unfold part
  have hl : (xs.take k).length = k := by rw [List.length_take]; omega
  rw [List.set_append_right _ _ (by omega), hl, Nat.sub_self]
  have e : n - k = (n - (k + 1)) + 1 := by omega
  rw [e, List.replicate_succ, List.set_cons_zero, List.take_succ_eq_append_getElem hk, List.append_assoc]
  rfl
theorem part_at (xs : List R) (n k : Nat) (h : xs.length = n) (hk : k < n) : (part xs n k)[k]? = some zero := by
  unfold part
  have hl : (xs.take k).length = k := by rw [List.length_take]; omega
  rw [List.getElem?_append_right (by omega), hl, Nat.sub_self, List.getElem?_replicate, if_pos (by omega)]
abbrev OwnR (w : World) (A g n cap : Nat) (ys : List R) : Prop := Own rec 70 w A (.slice (some ⟨g, 0, none⟩) n cap) ys
/-- a store of some fields, one after the other -/
theorem putAll {w : World} {A g n cap : Nat} {ys : List R} (hn : ys.length = n) (h : OwnR w A g n cap ys) (k : Nat) (r0 r : R) (hr : ys[k]? = some r0) :
    OwnR ((w.setCell ⟨g, k * 2, none⟩ (.int .i64 r.src)).setCell ⟨g, k * 2 + 1, none⟩ (.int .i64 r.dst)) A g n cap (ys.set k r) := by
  have hk : k < ys.length := (List.getElem?_eq_some_iff.1 hr).1
  have at_ : ∀ x : R, (ys.set k x)[k]? = some x := fun x => by simp [hk]
  have hl : ∀ x : R, (ys.set k x).length = n := fun x => by rw [List.length_set]; exact hn
  have h0 := Own.put hn h k 0 r0 ({ r0 with src := r.src }) (.int .i64 r.src) hr (by decide) rfl
  have h1 := Own.put (hl _) h0 k 1 _ (r) (.int .i64 r.dst) (at_ _) (by decide) rfl
  rw [List.set_set] at h1
  exact h1
end Go.Proofs.Ytdjnaoaniokbgaa.LProxy
namespace Go.Proofs.Ytdjnaoaniokbgaa.Word
open Go.RowKit
set_option linter.unusedVariables false
/-- the letters a to z -/
def az (c : UInt8) : Bool := decide (97 ≤ c.toNat) && decide (c.toNat ≤ 122)
def allAz (l : List UInt8) : Bool := l.all az
def isWordB (s : ByteArray) : Bool := (decide (1 ≤ s.size) && decide (s.size ≤ 10)) && allAz s.data.toList
theorem take_snoc (s : ByteArray) (k : Nat) (h : k < s.size) : s.data.toList.take (k + 1) = s.data.toList.take k ++ [s[k]] := by
  rw [List.take_succ_eq_append_getElem (by simpa using h)]; rfl
theorem az_next (s : ByteArray) (k : Nat) (h : k < s.size) (hp : allAz (s.data.toList.take k) = true) (hc : az s[k] = true) : allAz (s.data.toList.take (k + 1)) = true := by
  rw [take_snoc s k h]; unfold allAz at hp ⊢; rw [List.all_append, hp]; simp [hc]
theorem az_bad (s : ByteArray) (k : Nat) (h : k < s.size) (hc : az s[k] = false) : allAz s.data.toList = false := by
  unfold allAz
  rw [List.all_eq_false]
  exact ⟨s[k], Array.getElem_mem_toList _, by simp [hc]⟩
theorem az_all (s : ByteArray) (k : Nat) (h : s.size ≤ k) (hp : allAz (s.data.toList.take k) = true) : allAz s.data.toList = true := by
  rwa [List.take_of_length_le (by simpa using h)] at hp
theorem ret_bool {a b : Bool} (h : a = b) : Ending.returned (.bool a) = .returned (.bool b) := by rw [h]
theorem word_no {s : ByteArray} (h : allAz s.data.toList = false) : isWordB s = false := by unfold isWordB; rw [h, Bool.and_false]
theorem word_len {s : ByteArray} (h : ¬ (1 ≤ s.size ∧ s.size ≤ 10)) : isWordB s = false := by
  unfold isWordB
  have : (decide (1 ≤ s.size) && decide (s.size ≤ 10)) = false := by
    rw [← Bool.decide_and]; exact decide_eq_false h
  rw [this, Bool.false_and]
theorem word_yes {s : ByteArray} (h1 : 1 ≤ s.size) (h2 : s.size ≤ 10) (h : allAz s.data.toList = true) : isWordB s = true := by
  unfold isWordB; rw [h, Bool.and_true, ← Bool.decide_and]; exact decide_eq_true ⟨h1, h2⟩
def inB (x a b : Int) : Bool := decide (a ≤ x ∧ x ≤ b)
theorem inB_yes {x a b : Int} (h : inB x a b = true) : a ≤ x ∧ x ≤ b := of_decide_eq_true h
theorem inB_no {x a b : Int} (h : inB x a b = false) : ¬ (a ≤ x ∧ x ≤ b) := of_decide_eq_false h
theorem inB_mk {x a b : Int} (h1 : a ≤ x) (h2 : x ≤ b) : inB x a b = true := decide_eq_true ⟨h1, h2⟩
theorem inB_not {x a b : Int} (h : ¬ (a ≤ x ∧ x ≤ b)) : inB x a b = false := decide_eq_false h
theorem in_yes (x a b : Int) (w : World) (h1 : a ≤ x) (h2 : x ≤ b) :
    Calls Try.prog 69 #[.int .i64 x, .int .i64 a, .int .i64 b] w fun e w' => e = .returned (.bool true) ∧ w = w' := by
  go_enter Try.func69, Try.ntmps69
  go_wp2
  go_ret
  exact ⟨rfl, rfl⟩
theorem in_no (x a b : Int) (w : World) (h : ¬ (a ≤ x ∧ x ≤ b)) :
    Calls Try.prog 69 #[.int .i64 x, .int .i64 a, .int .i64 b] w fun e w' => e = .returned (.bool false) ∧ w = w' := by
  by_cases h1 : a ≤ x
  · have h2 : ¬ x ≤ b := by omega
    go_enter Try.func69, Try.ntmps69
    go_wp2
    go_ret
    exact ⟨rfl, rfl⟩
  · go_enter Try.func69, Try.ntmps69
    go_wp2
    go_ret
    exact ⟨rfl, rfl⟩

theorem in_as (x a b : Int) (v : Bool) (h : inB x a b = v) (w : World) :
    Calls Try.prog 69 #[.int .i64 x, .int .i64 a, .int .i64 b] w fun e w' => e = .returned (.bool v) ∧ w = w' := by
  cases v with
  | true => obtain ⟨h1, h2⟩ := inB_yes h; exact in_yes x a b w h1 h2
  | false => exact in_no x a b w (inB_no h)
end Go.Proofs.Ytdjnaoaniokbgaa.Word
namespace Go.Proofs.Ytdjnaoaniokbgaa.LInt
open Go.RowKit Bs
set_option linter.unusedVariables false
def wt (r : R) : Nat := 0
def Fine (r : R) : Prop := True
def tot (xs : List R) : Nat := (xs.map wt).sum
theorem tot_next (xs : List R) (k : Nat) (h : k < xs.length) : tot (xs.take (k + 1)) = tot (xs.take k) + wt xs[k] := by
  rw [List.take_succ_eq_append_getElem h]; unfold tot; rw [List.map_append, List.sum_append]; simp
theorem tot_take_le (xs : List R) (k : Nat) : tot (xs.take k) ≤ tot xs := by
  have := congrArg tot (List.take_append_drop k xs)
  have e : ∀ a b : List R, tot (a ++ b) = tot a + tot b := fun a b => by simp [tot]
  rw [e] at this
  omega
theorem mem_le (xs : List R) (x : R) (h : x ∈ xs) : wt x ≤ tot xs := by
  induction xs with
  | nil => cases h
  | cons y ys ih =>
    simp only [tot, List.map_cons, List.sum_cons] at ih ⊢
    rcases List.mem_cons.1 h with rfl | h
    · omega
    · have := ih h; omega
end Go.Proofs.Ytdjnaoaniokbgaa.LInt
namespace Go.Proofs.Ytdjnaoaniokbgaa.Sq
set_option linter.unusedVariables false
section
variable {α : Type} {p : α → Bool} {z : List α} {k : Nat} {X : α}
/-- none ahead of place k fits -/
def First (p : α → Bool) (z : List α) (k : Nat) : Prop := ∀ j x, j < k → z[j]? = some x → p x = false
theorem first_zero : First p z 0 := fun j x hj => by omega
theorem first_next (h : First p z k) (hx : z[k]? = some X) (hp : p X = false) : First p z (k + 1) := fun j x hj hz => by
  rcases Nat.lt_or_ge j k with h' | h'
  · exact h j x h' hz
  · obtain rfl : j = k := by omega
    rw [hx] at hz; rw [← Option.some.inj hz]; exact hp
theorem first_tail {y : α} (h : First p (y :: z) (k + 1)) : First p z k := fun j x hj hz => h (j + 1) x (by omega) (by simpa using hz)
theorem first_hit : ∀ {z : List α} {k : Nat}, First p z k → z[k]? = some X → p X = true → z.findIdx? p = some k
  | [], k, _, hx, _ => by simp at hx
  | y :: z, 0, _, hx, hp => by
    simp only [List.getElem?_cons_zero, Option.some.injEq] at hx
    subst hx
    rw [List.findIdx?_cons, hp]; rfl
  | y :: z, k + 1, h, hx, hp => by
    have h0 : p y = false := h 0 y (by omega) rfl
    rw [List.findIdx?_cons, h0, first_hit (first_tail h) (by simpa using hx) hp]; rfl
theorem first_none (h : First p z k) (hk : z.length ≤ k) : z.findIdx? p = none := by
  rw [List.findIdx?_eq_none_iff]
  intro x hx
  obtain ⟨i, hi, rfl⟩ := List.getElem_of_mem hx
  exact h i _ (by omega) (List.getElem?_eq_getElem hi)
/-- what findIdx? found -/
theorem idx_some (h : z.findIdx? p = some k) : ∃ X, z[k]? = some X ∧ p X = true ∧ First p z k := by
  obtain ⟨hk, hp, hn⟩ := List.findIdx?_eq_some_iff_getElem.1 h
  refine ⟨z[k], List.getElem?_eq_getElem hk, hp, fun j x hj hx => ?_⟩
  have hj' : j < z.length := by omega
  rw [List.getElem?_eq_getElem hj'] at hx
  have := hn j hj
  rw [← Option.some.inj hx]
  simpa using this
theorem idx_none (h : z.findIdx? p = none) : ∀ x ∈ z, p x = false := List.findIdx?_eq_none_iff.1 h
/-- the index as a number, or -1 -/
def ix : Option Nat → Int
  | some k => k
  | none => -1
theorem ix_neg {o : Option Nat} : ix o < 0 ↔ o = none := by
  cases o with
  | none => simp [ix]
  | some k => simp [ix]
/-- the found element itself -/
def got (p : α → Bool) (z : List α) : Option α := (z.findIdx? p).bind (fun k => z[k]?)
theorem got_hit (h : First p z k) (hx : z[k]? = some X) (hp : p X = true) : got p z = some X := by
  unfold got; rw [first_hit h hx hp]; exact hx
theorem got_none (h : First p z k) (hk : z.length ≤ k) : got p z = none := by unfold got; rw [first_none h hk]; rfl
theorem got_some (h : got p z = some X) : X ∈ z ∧ p X = true := by
  unfold got at h
  cases e : z.findIdx? p with
  | none => rw [e] at h; cases h
  | some k =>
    obtain ⟨Y, hY, hp, _⟩ := idx_some e
    rw [e] at h
    have h2 : z[k]? = some X := h
    rw [hY] at h2
    obtain rfl := Option.some.inj h2
    exact ⟨List.mem_of_getElem? hY, hp⟩
theorem got_no (h : got p z = none) : ∀ x ∈ z, p x = false := by
  unfold got at h
  cases e : z.findIdx? p with
  | none => exact idx_none e
  | some k =>
    obtain ⟨Y, hY, _⟩ := idx_some e
    rw [e] at h
    have h2 : z[k]? = none := h
    rw [hY] at h2; cases h2
end
end Go.Proofs.Ytdjnaoaniokbgaa.Sq
namespace Go.Proofs.Ytdjnaoaniokbgaa.LInt
open Go.RowKit Bs
set_option linter.unusedVariables false
/-- what is left behind something of a weight -/
def Left (t : Nat) (l : Int) (w : World) (e : Ending) (w' : World) : Prop := Below w.heap.size w w' ∧ ∃ x : Int, e = .returned (.int .i64 x) ∧ ((x < 0 ∧ l < t) ∨ (x = l - t ∧ (t : Int) ≤ l))
set_option maxHeartbeats 400000 in
theorem szS (v : Value) (xs : List R) (l : Int) (w : World) (h0 : 0 ≤ l) (hl : l ≤ 1048576) (h : Is rec w v xs) (hsm : ∀ x ∈ xs, Fine x) :
    Calls Try.prog 73 #[v, .int .i64 l] w (Left (xs.length + tot xs) l w) := by
  obtain ⟨a, cp, rfl, h⟩ := h
  have hc := h.at_ rec
  obtain ⟨n, hn⟩ : ∃ n, n = xs.length := ⟨_, rfl⟩
  have hnb : n ≤ cp := by have := h.1; omega
  have h2 := h.2.1
  unfold maxLen at h2
  have HN := Lib.hid hn.symm
  have HSM := Lib.hid hsm
  rw [← hn]
  have hle : n ≤ xs.length := by omega
  clear hn hsm h
  by_cases hbig : l < n
  · go_enter Try.func73, Try.ntmps73
    go_wp2_with fail
    go_ret
    exact ⟨Below.refl _ _, -1, rfl, .inl ⟨by omega, by omega⟩⟩
  · have HT := Lib.hid (show tot xs = 0 from by clear h0 hl hc hle HN HSM h2 hnb hbig; induction xs with | nil => rfl | cons x t ih => (simp only [tot, List.map_cons, List.sum_cons] at ih ⊢; rw [ih]; rfl))
    go_enter Try.func73, Try.ntmps73
    go_wp2_with fail
    go_ret
    exact ⟨Below.refl _ _, _, rfl, .inr ⟨by rw [HT.out]; omega, by rw [HT.out]; omega⟩⟩
end Go.Proofs.Ytdjnaoaniokbgaa.LInt
namespace Go.Proofs.Ytdjnaoaniokbgaa.LProxy
open Go.RowKit Bs
set_option linter.unusedVariables false
def wt (r : R) : Nat := 0
def Fine (r : R) : Prop := True
def tot (xs : List R) : Nat := (xs.map wt).sum
theorem tot_next (xs : List R) (k : Nat) (h : k < xs.length) : tot (xs.take (k + 1)) = tot (xs.take k) + wt xs[k] := by
  rw [List.take_succ_eq_append_getElem h]; unfold tot; rw [List.map_append, List.sum_append]; simp
theorem tot_take_le (xs : List R) (k : Nat) : tot (xs.take k) ≤ tot xs := by
  have := congrArg tot (List.take_append_drop k xs)
  have e : ∀ a b : List R, tot (a ++ b) = tot a + tot b := fun a b => by simp [tot]
  rw [e] at this
  omega
theorem mem_le (xs : List R) (x : R) (h : x ∈ xs) : wt x ≤ tot xs := by
  induction xs with
  | nil => cases h
  | cons y ys ih =>
    simp only [tot, List.map_cons, List.sum_cons] at ih ⊢
    rcases List.mem_cons.1 h with rfl | h
    · omega
    · have := ih h; omega
/-- what is left behind something of a weight -/
def Left (t : Nat) (l : Int) (w : World) (e : Ending) (w' : World) : Prop := Below w.heap.size w w' ∧ ∃ x : Int, e = .returned (.int .i64 x) ∧ ((x < 0 ∧ l < t) ∨ (x = l - t ∧ (t : Int) ≤ l))
set_option maxHeartbeats 400000 in
theorem szS (v : Value) (xs : List R) (l : Int) (w : World) (h0 : 0 ≤ l) (hl : l ≤ 1048576) (h : Is rec w v xs) (hsm : ∀ x ∈ xs, Fine x) :
    Calls Try.prog 74 #[v, .int .i64 l] w (Left (xs.length + tot xs) l w) := by
  obtain ⟨a, cp, rfl, h⟩ := h
  have hc := h.at_ rec
  obtain ⟨n, hn⟩ : ∃ n, n = xs.length := ⟨_, rfl⟩
  have hnb : n ≤ cp := by have := h.1; omega
  have h2 := h.2.1
  unfold maxLen at h2
  have HN := Lib.hid hn.symm
  have HSM := Lib.hid hsm
  rw [← hn]
  have hle : n ≤ xs.length := by omega
  clear hn hsm h
  by_cases hbig : l < n
  · go_enter Try.func74, Try.ntmps74
    go_wp2_with fail
    go_ret
    exact ⟨Below.refl _ _, -1, rfl, .inl ⟨by omega, by omega⟩⟩
  · have HT := Lib.hid (show tot xs = 0 from by clear h0 hl hc hle HN HSM h2 hnb hbig; induction xs with | nil => rfl | cons x t ih => (simp only [tot, List.map_cons, List.sum_cons] at ih ⊢; rw [ih]; rfl))
    go_enter Try.func74, Try.ntmps74
    go_wp2_with fail
    go_ret
    exact ⟨Below.refl _ _, _, rfl, .inr ⟨by rw [HT.out]; omega, by rw [HT.out]; omega⟩⟩
end Go.Proofs.Ytdjnaoaniokbgaa.LProxy
namespace Go.Proofs.Ytdjnaoaniokbgaa.LNode
open Go.RowKit Bs
set_option linter.unusedVariables false

structure R where
  num : Int
  ptr : Option Addr
def vals (r : R) : List Value := [.int .i64 r.num, .pointer r.ptr]
/-- the struct as a type of records -/
def rec : Rec R := ⟨2, vals, fun _ => rfl, by decide, fun r u hu => by
  simp only [vals, List.mem_cons, List.not_mem_nil, or_false] at hu
  rcases hu with rfl | rfl <;> rfl⟩
theorem rec_n : rec.n = 2 := rfl
theorem info : (Try.prog.info? 67).map (fun i => (i.zero, i.size)) = some (some (.agg #[.int .i64 0, .pointer none]), 2) := by kernel_rfl
theorem cells {w : World} {b p : Nat} {r : R} (h : At rec w b p r) : w.cell? ⟨b, p, none⟩ = some (.int .i64 r.num) ∧ w.cell? ⟨b, p + 1, none⟩ = some (.pointer r.ptr) :=
  ⟨h 0 _ rfl, h 1 _ rfl⟩
theorem cells0 {w : World} {b : Nat} {r : R} (h : At rec w b 0 r) : w.cell? ⟨b, 0, none⟩ = some (.int .i64 r.num) ∧ w.cell? ⟨b, 1, none⟩ = some (.pointer r.ptr) := by
  have := cells h
  simpa only [Nat.zero_add] using this
theorem at_of {w : World} {b p : Nat} {r : R} (h0 : w.cell? ⟨b, p, none⟩ = some (.int .i64 r.num)) (h1 : w.cell? ⟨b, p + 1, none⟩ = some (.pointer r.ptr)) : At rec w b p r := fun j v hv => by
  have hj : j < 2 := (List.getElem?_eq_some_iff.1 hv).1
  match j, hj with
  | 0, _ => rw [← hv]; exact h0
  | 1, _ => rw [← hv]; exact h1
/-- a record that was boxed -/
theorem box (w : World) (r : R) (t : TypeId) : At rec (w.alloc (.cells #[.int .i64 r.num, .pointer r.ptr] t)) w.heap.size 0 r := at_of (by simp [go_sem]) (by simp [go_sem])
/-- facts of a record in all worlds that only grew -/
theorem grown {w : World} {b p : Nat} {r : R} (h : At rec w b p r) (hl : b < w.heap.size) : Hid (∀ d os, At rec (Sort.grow (redrawn w d) os) b p r) := fun d os => h.below rec (below_regrown w d os) hl
def zero : R := ⟨0, none⟩
theorem made_zero (n : Nat) : (madeCells (#[.int .i64 0, .pointer none] : Array Value) (n * 2)).toList = flat rec (List.replicate n zero) := by
  apply List.ext_getElem?
  intro i
  rw [madeCells]
  by_cases hi : i < n * 2
  · have h1 := flat_at rec (List.replicate n zero) (i / 2) (i % 2) zero (by rw [List.getElem?_replicate, if_pos (by omega)]) (by rw [rec_n]; omega)
    have e : i / 2 * 2 + i % 2 = i := by omega
    rw [rec_n, e] at h1
    rw [h1]
    have hs : (#[.int .i64 0, .pointer none] : Array Value).size = 2 := rfl
    simp only [hs, Array.toList_map, List.getElem?_map, Array.toList_range, List.getElem?_range hi, Option.map_some]
    have h7 : i % 2 < 2 := by omega
    generalize i % 2 = m at *
    match m, h7 with
    | 0, _ => rfl
    | 1, _ => rfl
  · rw [List.getElem?_eq_none (by simp; omega), List.getElem?_eq_none (by rw [flat_len, List.length_replicate, rec_n]; omega)]
/-- what a copy holds after k stores -/
def part (xs : List R) (n k : Nat) : List R := xs.take k ++ List.replicate (n - k) zero
theorem part_len (xs : List R) (n k : Nat) (h : xs.length = n) (hk : k ≤ n) : (part xs n k).length = n := by simp [part]; omega
theorem part_zero (xs : List R) (n : Nat) : part xs n 0 = List.replicate n zero := by simp [part]
theorem part_all (xs : List R) (n : Nat) (h : xs.length = n) : part xs n n = xs := by
  unfold part; rw [List.take_of_length_le (by omega), Nat.sub_self]; simp
theorem part_set (xs : List R) (n k : Nat) (h : xs.length = n) (hk : k < xs.length) : (part xs n k).set k xs[k] = part xs n (k + 1) := by
  unfold part
  have hl : (xs.take k).length = k := by rw [List.length_take]; omega
  rw [List.set_append_right _ _ (by omega), hl, Nat.sub_self]
  have e : n - k = (n - (k + 1)) + 1 := by omega
  rw [e, List.replicate_succ, List.set_cons_zero, List.take_succ_eq_append_getElem hk, List.append_assoc]
  rfl
theorem part_at (xs : List R) (n k : Nat) (h : xs.length = n) (hk : k < n) : (part xs n k)[k]? = some zero := by
  unfold part
  have hl : (xs.take k).length = k := by rw [List.length_take]; omega
  rw [List.getElem?_append_right (by omega), hl, Nat.sub_self, List.getElem?_replicate, if_pos (by omega)]
abbrev OwnR (w : World) (A g n cap : Nat) (ys : List R) : Prop := Own rec 67 w A (.slice (some ⟨g, 0, none⟩) n cap) ys
/-- a store of one field -/
theorem putNum {w : World} {A g n cap : Nat} {ys : List R} (hn : ys.length = n) (h : OwnR w A g n cap ys) (k : Nat) (r0 : R) (x : Int) (hr : ys[k]? = some r0) :
    OwnR (w.setCell ⟨g, k * 2, none⟩ (.int .i64 x)) A g n cap (ys.set k { r0 with num := x }) :=
  Own.put hn h k 0 r0 ({ r0 with num := x }) (.int .i64 x) hr (by decide) rfl
theorem putPtr {w : World} {A g n cap : Nat} {ys : List R} (hn : ys.length = n) (h : OwnR w A g n cap ys) (k : Nat) (r0 : R) (a : Option Addr) (hr : ys[k]? = some r0) :
    OwnR (w.setCell ⟨g, k * 2 + 1, none⟩ (.pointer a)) A g n cap (ys.set k { r0 with ptr := a }) :=
  Own.put hn h k 1 r0 ({ r0 with ptr := a }) (.pointer a) hr (by decide) rfl
theorem infoK : (Try.prog.info? 67).map (fun i => (i.zero, i.size, i.bytes)) = some (some (.agg #[.int .i64 0, .pointer none]), 2, 16) := by kernel_rfl
end Go.Proofs.Ytdjnaoaniokbgaa.LNode
namespace Go.Proofs.Ytdjnaoaniokbgaa.LInt
open Go.RowKit Bs
set_option linter.unusedVariables false
theorem infoK : (Try.prog.info? 3).map (fun i => (i.zero, i.size, i.bytes)) = some (some (.int .i64 0), 1, 8) := by kernel_rfl
theorem startB {w : World} {A g : Nat} (h : w.heap[g]? = some (.cells #[] 3 (0, 0))) (hA : A ≤ g) : w.ownsRow A 3 1 (.slice (some ⟨g, 0, none⟩) 0 0) 0 [] :=
  ⟨rfl, .inr ⟨g, 0, #[], rfl, hA, h, Nat.le_refl _, Nat.zero_le _, rfl, rfl⟩⟩
end Go.Proofs.Ytdjnaoaniokbgaa.LInt
namespace Go.Proofs.Ytdjnaoaniokbgaa.CmpI
open Go.RowKit Bs
set_option linter.unusedVariables false
def cmpI (a b : Int) : Int := if a < b then -1 else if b < a then 1 else 0
theorem isNaN (a : Int) (w : World) : Calls Try.prog 88 #[.int .i64 a] w fun e w' => e = .returned (.bool false) ∧ w = w' := by
  have h : (a != a) = false := by simp
  go_enter Try.func88, Try.ntmps88
  go_wp2_with fail
  go_ret
  exact ⟨by simp [go_sem], rfl⟩
theorem compare (a b : Int) (w : World) : Calls Try.prog 81 #[.int .i64 a, .int .i64 b] w fun e w' => e = .returned (.int .i64 (cmpI a b)) ∧ w = w' := by
  by_cases h1 : a < b
  · have HC := Lib.hid (show cmpI a b = -1 by unfold cmpI; rw [if_pos h1])
    go_enter Try.func81, Try.ntmps81
    go_wp2_with fail
    refine (isNaN _ _).mono ?_
    rintro e _ ⟨rfl, rfl⟩
    go_wp2_with fail
    refine (isNaN _ _).mono ?_
    rintro e _ ⟨rfl, rfl⟩
    go_wp2_with fail
    go_ret
    exact ⟨by rw [HC.out]; rfl, rfl⟩
  · by_cases h2 : b < a
    · have HC := Lib.hid (show cmpI a b = 1 by unfold cmpI; rw [if_neg h1, if_pos h2])
      go_enter Try.func81, Try.ntmps81
      go_wp2_with fail
      refine (isNaN _ _).mono ?_
      rintro e _ ⟨rfl, rfl⟩
      go_wp2_with fail
      refine (isNaN _ _).mono ?_
      rintro e _ ⟨rfl, rfl⟩
      go_wp2_with fail
      go_ret
      exact ⟨by rw [HC.out]; rfl, rfl⟩
    · have HC := Lib.hid (show cmpI a b = 0 by unfold cmpI; rw [if_neg h1, if_neg h2])
      go_enter Try.func81, Try.ntmps81
      go_wp2_with fail
      refine (isNaN _ _).mono ?_
      rintro e _ ⟨rfl, rfl⟩
      go_wp2_with fail
      refine (isNaN _ _).mono ?_
      rintro e _ ⟨rfl, rfl⟩
      go_wp2_with fail
      go_ret
      exact ⟨by rw [HC.out]; rfl, rfl⟩
theorem cmp_neg {a b : Int} : cmpI a b < 0 ↔ a < b := by
  unfold cmpI
  split
  · simp; assumption
  · split <;> simp <;> omega
theorem cmp_zero {a b : Int} : cmpI a b = 0 ↔ a = b := by
  unfold cmpI
  split
  · simp; omega
  · split
    · simp; omega
    · simp; omega
end Go.Proofs.Ytdjnaoaniokbgaa.CmpI
namespace Go.Proofs.Ytdjnaoaniokbgaa.Bs
open Go.RowKit
theorem wpAnyH_weak {P : Program} {md : Region.Mode} {ops : Array Oper} {Q : Exit → Act → World → Prop} {S S' : World → Prop} (hS : ∀ w, S' w → S w) : ∀ (fuel : Nat) (listed : Array Bool) (a : Act) (w : World), wpAnyH P md ops Q S' fuel listed a w → wpAnyH P md ops Q S fuel listed a w
  | 0, _, _, _, h => h
  | fuel + 1, _, _, _, h => ⟨h.1, fun i hi => wpOp_mono (fun a' w' h' => ⟨hS _ h'.1, wpAnyH_weak hS fuel _ a' w' h'.2⟩) (h.2 i hi)⟩
theorem wpAnyH_into {P : Program} {md : Region.Mode} {ops : Array Oper} {Q : Exit → Act → World → Prop} {S S' : World → Prop} {fuel : Nat} {listed : Array Bool} {a : Act} {w : World} (hS : ∀ w, S' w → S w) (h' : S' w) (h : S' w → wpAnyH P md ops Q S' fuel listed a w) : wpAnyH P md ops Q S fuel listed a w := wpAnyH_weak hS _ _ _ _ (h h')
end Go.Proofs.Ytdjnaoaniokbgaa.Bs
namespace Go.Proofs.Ytdjnaoaniokbgaa.LInt
open Go.RowKit Bs
set_option linter.unusedVariables false
def Cloned (xs : List LInt.R) (w : World) (e : Ending) (w' : World) : Prop := ∃ v, e = .returned v ∧ Own LInt.rec 3 w' w.heap.size v xs ∧ Below w.heap.size w w'
set_option maxHeartbeats 400000 in
theorem clone (v0 : Value) (xs : List LInt.R) (w : World) (h : Is LInt.rec w v0 xs) (hsm : xs.length ≤ 1048576) :
    Calls Try.prog 82 #[v0] w (Cloned xs w) := by
  obtain ⟨a, cp, rfl, h⟩ := h
  obtain ⟨n, hn⟩ : ∃ n, n = xs.length := ⟨_, rfl⟩
  have HN := Lib.hid hn.symm
  have hnb : n ≤ cp := by have := h.1; omega
  have h2 := h.2.1
  unfold maxLen at h2
  rw [← hn] at hsm ⊢
  obtain ⟨i0, hi, hz0, hz1, hz2⟩ := info_parts infoK
  have HI := Lib.hid hi
  have HZ := Lib.hid (And.intro hz0 (And.intro hz1 hz2))
  have heq := fun W => Lib.run_eql_slice_nil (P := Try.prog) W 24 3 a n cp 0 0 Try.underlying24
  clear hi hz0 hz1 hz2 hn
  cases a with
  | none =>
    have hnil : xs = [] := by
      rcases h.2.2 with h' | ⟨b, o, h', _⟩
      · exact h'
      · cases h'
    subst hnil
    obtain rfl : n = 0 := by have := HN.out; simpa using this.symm
    clear h
    go_enter Try.func82, Try.ntmps82
    go_wp2_with fail
    go_ret
    exact ⟨_, rfl, Own.nil, Below.refl _ _⟩
  | some p =>
    have hfl : Hid (∀ j u, (flat LInt.rec xs)[j]? = some u → (w.alloc (.cells #[] 3)).cell? (Addr.add p j) = some u) := fun j u hu => by
      rcases h.2.2 with rfl | ⟨b, o, h', hbl, hall⟩
      · simp [flat] at hu
      · obtain rfl := Option.some.inj h'
        rw [Go.WideShapes.add_plain, ((Below.refl w.heap.size w).alloc (Nat.le_refl _) _).cell (p := ⟨b, o + j, none⟩) hbl]
        exact flat_cells LInt.rec hall j u hu
    have HO := Lib.hid (startB (A := w.heap.size) (heap_alloc_new w (.cells #[] 3)) (Nat.le_refl _))
    clear h
    go_enter Try.func82, Try.ntmps82
    go_wp2_with (at_builtin; refine wpList_append_own _ rfl (.tmp 5) (.tmp 6) 24 rfl w.heap.size 3 i0 (.int .i64 0) 1 8 Try.underlying24 HI.out HZ.out.1 HZ.out.2.1 HZ.out.2.2 rfl (by decide) _ _ _ rfl HO.out p n cp (flat LInt.rec xs) rfl ?c0 hfl.out (flat_one _ xs) ?c3 ?c4 ?c5 ?c6)
    case c0 => rw [flat_len, HN.out]; rfl
    case c3 => unfold maxLen; simp; omega
    case c4 => simp; omega
    case c5 => simp
    case c6 =>
      intro v' w2 hown hgrow _
      have hb2 : Below w.heap.size w w2 := ((Below.refl w.heap.size w).alloc (Nat.le_refl _) _).grown hgrow (by simp) (fun j hj => HO.out.lt j hj |>.1)
      have hO2 := Lib.hid (show Own LInt.rec 3 w2 w.heap.size v' xs by
        unfold Own
        rw [HN.out]
        have h := hown
        first | exact h | (rw [Nat.zero_add] at h; exact h))
      clear hown hgrow
      go_wp2_with fail
      go_ret
      exact ⟨_, rfl, hO2.out, hb2⟩
end Go.Proofs.Ytdjnaoaniokbgaa.LInt
namespace Go.Proofs.Ytdjnaoaniokbgaa.LProxy
open Go.RowKit Bs
set_option linter.unusedVariables false
theorem infoK : (Try.prog.info? 70).map (fun i => (i.zero, i.size, i.bytes)) = some (some (.agg #[.int .i64 0, .int .i64 0]), 2, 16) := by kernel_rfl
theorem startB {w : World} {A g : Nat} (h : w.heap[g]? = some (.cells #[] 70 (0, 0))) (hA : A ≤ g) : w.ownsRow A 70 2 (.slice (some ⟨g, 0, none⟩) 0 0) 0 [] :=
  ⟨rfl, .inr ⟨g, 0, #[], rfl, hA, h, Nat.le_refl _, Nat.zero_le _, rfl, rfl⟩⟩
end Go.Proofs.Ytdjnaoaniokbgaa.LProxy
namespace Go.Proofs.Ytdjnaoaniokbgaa.Cur
open Go.RowKit
set_option linter.unusedVariables false

theorem cell_lt {w : World} {p : Addr} {v : Value} (h : w.cell? p = some v) : p.block < w.heap.size := by
  rcases Nat.lt_or_ge p.block w.heap.size with h' | h'
  · exact h'
  · simp [World.cell?, Array.getElem?_eq_none h'] at h

/-- The bytes of the code that the reader reads, in a block other than the reader's. -/
def CodeAt (w : World) (B : Nat) (a : Option Addr) (len : Nat) : Prop :=
  len = 0 ∨ ∃ b off, a = some ⟨b, off, none⟩ ∧ b < B ∧ b < w.heap.size ∧ ∀ j, j < len → ∃ z : Int, w.cell? ⟨b, off + j, none⟩ = some (.int .u8 z) ∧ 0 ≤ z ∧ z ≤ 255
/-- Block B is a reader at place k. -/
def CurAt (w : World) (B k : Nat) : Prop :=
  ∃ a len cap seed, w.heap[B]? = some (.cells #[.slice a len cap, .int .i64 (k : Int), .int .u64 seed] 76 (0, 0)) ∧ len ≤ 65536 ∧ k ≤ 1000000 ∧ CodeAt w B a len

def Blk (w : World) (B : Nat) (v : Value) (k : Int) (seed : Int) : Prop := w.heap[B]? = some (.cells #[v, .int .i64 k, .int .u64 seed] 76 (0, 0))
theorem Blk.lt {w : World} {B : Nat} {v : Value} {k seed : Int} (h : Blk w B v k seed) : B < w.heap.size := (Array.getElem?_eq_some_iff.1 h).1
theorem Blk.c0 {w : World} {B : Nat} {v : Value} {k seed : Int} (h : Blk w B v k seed) : w.cell? ⟨B, 0, none⟩ = some v := by simp [World.cell?, show w.heap[B]? = _ from h]
theorem Blk.c1 {w : World} {B : Nat} {v : Value} {k seed : Int} (h : Blk w B v k seed) : w.cell? ⟨B, 1, none⟩ = some (.int .i64 k) := by simp [World.cell?, show w.heap[B]? = _ from h]
theorem Blk.c2 {w : World} {B : Nat} {v : Value} {k seed : Int} (h : Blk w B v k seed) : w.cell? ⟨B, 2, none⟩ = some (.int .u64 seed) := by simp [World.cell?, show w.heap[B]? = _ from h]
theorem Blk.fr {w : World} {B : Nat} {v : Value} {k seed : Int} (h : Blk w B v k seed) (o : Nat) : w.frozen? ⟨B, o, none⟩ = false := by simp [World.frozen?, show w.heap[B]? = _ from h]
theorem Blk.set1 {w : World} {B : Nat} {v : Value} {k seed : Int} (h : Blk w B v k seed) (k' : Int) : Blk (w.setCell ⟨B, 1, none⟩ (.int .i64 k')) B v k' seed := heap_setCell_same w B 1 _ 76 _ h
theorem Blk.set2 {w : World} {B : Nat} {v : Value} {k seed : Int} (h : Blk w B v k seed) (s' : Int) : Blk (w.setCell ⟨B, 2, none⟩ (.int .u64 s')) B v k s' := heap_setCell_same w B 2 _ 76 _ h
theorem grown_set (w : World) (B o : Nat) (v : Value) : w.grownBy (w.setCell ⟨B, o, none⟩ v) (some B) :=
  ⟨rfl, rfl, rfl, by simp [World.setCell], fun k _ hk => Below.heap_setCell w ⟨B, o, none⟩ v k (fun e => hk (by rw [e]))⟩
theorem grown_drew (w : World) (m : Nat) (r : Option Nat) : w.grownBy (w.drewN m) r := ⟨rfl, rfl, rfl, Nat.le_refl _, fun _ _ _ => rfl⟩
theorem grown_trans {a b c : World} {r : Option Nat} (h : a.grownBy b r) (k : b.grownBy c r) : a.grownBy c r :=
  ⟨k.os.trans h.os, k.tape.trans h.tape, k.output.trans h.output, Nat.le_trans h.size k.size, fun i hi hr => (k.block i (Nat.lt_of_lt_of_le hi h.size) hr).trans (h.block i hi hr)⟩
def NextPost (w : World) (B : Nat) (v : Value) (k : Nat) (e : Ending) (w' : World) : Prop :=
  ∃ r s' : Int, e = .returned (.int .i64 r) ∧ 0 ≤ r ∧ r ≤ 255 ∧ Blk w' B v ((k + 1 : Nat) : Int) s' ∧ w.grownBy w' (some B)

/-- a number that a uint64 holds -/
def U64 (s : Int) : Prop := 0 ≤ s ∧ s ≤ 18446744073709551615
theorem u64_wrap (n : Int) : U64 (IntKind.u64.wrap n) := by unfold U64; rw [IntKind.wrap_u64]; omega
theorem and255 (s : Int) (h : U64 s) : 0 ≤ wrap64 (bits BinOp.and IntKind.u64 (s / 1099511627776) 255) ∧ wrap64 (bits BinOp.and IntKind.u64 (s / 1099511627776) 255) ≤ 255 := by
  unfold U64 at h
  have h0 : 0 ≤ s / 1099511627776 := by omega
  have h1 : s / 1099511627776 < 18446744073709551616 := by omega
  generalize s / 1099511627776 = E at h0 h1
  have hb := bits_and_u64_nat E.toNat 255 (by omega) (by omega)
  have he : ((E.toNat : Nat) : Int) = E := Int.toNat_of_nonneg h0
  rw [he] at hb
  have hl : E.toNat &&& 255 ≤ 255 := Nat.and_le_right
  have e2 : bits BinOp.and IntKind.u64 E 255 = ((E.toNat &&& 255 : Nat) : Int) := hb
  rw [e2]
  unfold wrap64
  omega

set_option maxHeartbeats 400000 in
theorem next_out (B k len cap : Nat) (a : Option Addr) (seed : Int) (w : World) (h : Blk w B (.slice a len cap) k seed) (hl : len ≤ 65536) (hk : k ≤ 1000000) (hlt : ¬ k < len) :
    Calls Try.prog 85 #[.pointer (some ⟨B, 0, none⟩)] w (NextPost w B (.slice a len cap) k) := by
  have HB := Lib.hid h
  have h0 := h.c0
  have h1 := h.c1
  have h2 := h.c2
  have f1 := h.fr 1
  have f2 := h.fr 2
  clear h
  go_enter Try.func85, Try.ntmps85
  go_wp2_with fail
  go_quiet (fail)
  go_wp2_with fail
  have hs2 := u64_wrap (IntKind.u64.wrap (IntKind.u64.wrap (seed * 6364136223846793005)) + 909909)
  generalize hs : IntKind.u64.wrap (IntKind.u64.wrap (IntKind.u64.wrap (seed * 6364136223846793005)) + 909909) = s2 at hs2 ⊢
  clear hs
  have HB2 : Blk (((w.drewN nq).setCell ⟨B, 1, none⟩ (.int .i64 ((k : Int) + 1))).setCell ⟨B, 2, none⟩ (.int .u64 s2)) B (.slice a len cap) ((k : Int) + 1) s2 := (Blk.set1 (w := w.drewN nq) HB.out _).set2 _
  have hg : w.grownBy (((w.drewN nq).setCell ⟨B, 1, none⟩ (.int .i64 ((k : Int) + 1))).setCell ⟨B, 2, none⟩ (.int .u64 s2)) (some B) := grown_trans (grown_trans (grown_drew w nq _) (grown_set _ _ _ _)) (grown_set _ _ _ _)
  generalize ((w.drewN nq).setCell ⟨B, 1, none⟩ (.int .i64 ((k : Int) + 1))).setCell ⟨B, 2, none⟩ (.int .u64 s2) = W2 at *
  have g0 := HB2.c0
  have g1 := HB2.c1
  have g2 := HB2.c2
  have HB3 := Lib.hid HB2
  clear HB2 h0 h1 h2 f1 f2
  go_quiet (fail)
  go_wp2_with fail
  go_ret
  exact ⟨_, s2, rfl, (and255 s2 hs2).1, (and255 s2 hs2).2, HB3.out, grown_trans hg (grown_drew _ _ _)⟩

set_option maxHeartbeats 400000 in
theorem next_on (B k len cap b off : Nat) (seed z : Int) (w : World) (h : Blk w B (.slice (some ⟨b, off, none⟩) len cap) k seed) (hl : len ≤ 65536) (hlt : k < len) (hz : w.cell? ⟨b, off + k, none⟩ = some (.int .u8 z)) (z0 : 0 ≤ z) (z1 : z ≤ 255) :
    Calls Try.prog 85 #[.pointer (some ⟨B, 0, none⟩)] w (NextPost w B (.slice (some ⟨b, off, none⟩) len cap) k) := by
  have HB := Lib.hid h
  have h0 := h.c0
  have h1 := h.c1
  have h2 := h.c2
  have f1 := h.fr 1
  have f2 := h.fr 2
  have k0 : 0 ≤ (k : Int) := by omega
  have k1 : (k : Int) < (len : Int) := by omega
  have hw : IntKind.i64.wrap z = z := IntWalk.i64_in _ (by omega)
  clear h
  go_enter Try.func85, Try.ntmps85
  go_wp2_with fail
  go_quiet (fail)
  obtain ⟨m1, rfl⟩ : ∃ m1, m1 = nq := ⟨_, rfl⟩
  go_wp2_with fail
  go_quiet (fail)
  clear hw hz
  go_wp2_with fail
  generalize hs : IntKind.u64.wrap (IntKind.u64.wrap (IntKind.u64.wrap (seed * 6364136223846793005) + z) + 909909) = s2
  clear hs
  have HB2 : Blk (((w.drewN (m1 + nq)).setCell ⟨B, 1, none⟩ (.int .i64 ((k : Int) + 1))).setCell ⟨B, 2, none⟩ (.int .u64 s2)) B (.slice (some ⟨b, off, none⟩) len cap) ((k : Int) + 1) s2 := (Blk.set1 (w := w.drewN (m1 + nq)) HB.out _).set2 _
  have hg : w.grownBy (((w.drewN (m1 + nq)).setCell ⟨B, 1, none⟩ (.int .i64 ((k : Int) + 1))).setCell ⟨B, 2, none⟩ (.int .u64 s2)) (some B) := grown_trans (grown_trans (grown_drew w (m1 + nq) _) (grown_set _ _ _ _)) (grown_set _ _ _ _)
  generalize ((w.drewN (m1 + nq)).setCell ⟨B, 1, none⟩ (.int .i64 ((k : Int) + 1))).setCell ⟨B, 2, none⟩ (.int .u64 s2) = W2 at *
  have g0 := HB2.c0
  have g1 := HB2.c1
  have g2 := HB2.c2
  have HB3 := Lib.hid HB2
  clear HB2 h0 h1 h2 f1 f2
  go_quiet (fail)
  go_wp2_with fail
  go_ret
  exact ⟨_, s2, rfl, z0, z1, HB3.out, grown_trans hg (grown_drew _ _ _)⟩

/-- what a world that is as it was but for the reader's block keeps -/
theorem CodeAt.grown {w w' : World} {B : Nat} {a : Option Addr} {len : Nat} (h : CodeAt w B a len) (hg : w.grownBy w' (some B)) : CodeAt w' B a len := by
  rcases h with h | ⟨b, off, rfl, hne, hlt, hc⟩
  · exact .inl h
  · refine .inr ⟨b, off, rfl, hne, Nat.lt_of_lt_of_le hlt hg.size, fun j hj => ?_⟩
    obtain ⟨z, hz, h0, h1⟩ := hc j hj
    exact ⟨z, by rw [World.cell?_of_block (hg.block b hlt (by intro e; have := Option.some.inj e; omega))]; exact hz, h0, h1⟩

/-- what a step of the reader answers and leaves -/
def Step (w : World) (B k : Nat) (hi : Int) (e : Ending) (w' : World) : Prop := ∃ r : Int, e = .returned (.int .i64 r) ∧ 0 ≤ r ∧ r ≤ hi ∧ CurAt w' B k ∧ w.grownBy w' (some B)
theorem next (B k : Nat) (w : World) (h : CurAt w B k) (hk : k < 1000000) : Calls Try.prog 85 #[.pointer (some ⟨B, 0, none⟩)] w (Step w B (k + 1) 255) := by
  obtain ⟨a, len, cap, seed, hB, hl, _, hc⟩ := h
  have fin : ∀ e w', NextPost w B (.slice a len cap) k e w' → Step w B (k + 1) 255 e w' := fun e w' ⟨r, s', he, h0, h1, hb, hg⟩ => ⟨r, he, h0, h1, ⟨a, len, cap, s', hb, hl, by omega, hc.grown hg⟩, hg⟩
  by_cases hlt : k < len
  · rcases hc with h0 | ⟨b, off, rfl, hne, hbl, hcc⟩
    · omega
    · obtain ⟨z, hz, z0, z1⟩ := hcc k hlt
      exact (next_on B k len cap b off seed z w hB hl hlt hz z0 z1).mono fin
  · exact (next_out B k len cap a seed w hB hl (by omega) hlt).mono fin

/-- Block B is a reader that has read at most m bytes. -/
def Cur (w : World) (B m : Nat) : Prop := ∃ k, k ≤ m ∧ CurAt w B k
theorem Cur.mono {w : World} {B m m' : Nat} (h : Cur w B m) (hm : m ≤ m') : Cur w B m' := by
  obtain ⟨k, hk, hc⟩ := h
  exact ⟨k, by omega, hc⟩
theorem Cur.lt {w : World} {B m : Nat} (h : Cur w B m) : B < w.heap.size := by
  obtain ⟨k, _, a, len, cap, seed, hB, _⟩ := h
  exact Blk.lt (w := w) (B := B) (v := .slice a len cap) (k := k) (seed := seed) hB
theorem grown_refl (w : World) (r : Option Nat) : w.grownBy w r := ⟨rfl, rfl, rfl, Nat.le_refl _, fun _ _ _ => rfl⟩
/-- a world that keeps the reader's block keeps the reader -/
theorem Cur.kept {w w' : World} {B m : Nat} (h : Cur w B m) (hb : Below w.heap.size w w') : Cur w' B m := by
  obtain ⟨k, hk, a, len, cap, seed, hB, hl, hk2, hc⟩ := h
  have hlt : B < w.heap.size := Blk.lt (w := w) (B := B) (v := .slice a len cap) (k := k) (seed := seed) hB
  refine ⟨k, hk, a, len, cap, seed, (hb.block B hlt).trans hB, hl, hk2, ?_⟩
  exact hc.grown ⟨hb.os, hb.tape, hb.output, hb.size, fun j hj _ => hb.block j hj⟩

theorem CodeAt.below {w w' : World} {B : Nat} {a : Option Addr} {len : Nat} (h : CodeAt w B a len) (hb : Below (B + 1) w w') : CodeAt w' B a len := by
  rcases h with h | ⟨b, off, rfl, hne, hlt, hc⟩
  · exact .inl h
  · refine .inr ⟨b, off, rfl, hne, Nat.lt_of_lt_of_le hlt hb.size, fun j hj => ?_⟩
    obtain ⟨z, hz, h0, h1⟩ := hc j hj
    exact ⟨z, by rw [hb.cell (p := ⟨b, off + j, none⟩) (by show b < B + 1; omega)]; exact hz, h0, h1⟩
/-- a world that keeps all up to the reader's block keeps the reader -/
theorem Cur.keptB {w w' : World} {B m : Nat} (h : Cur w B m) (hb : Below (B + 1) w w') : Cur w' B m := by
  obtain ⟨k, hk, a, len, cap, seed, hB, hl, hk2, hc⟩ := h
  exact ⟨k, hk, a, len, cap, seed, (hb.block B (by omega)).trans hB, hl, hk2, hc.below hb⟩
/-- a row of strings is not the reader's block -/
theorem Cur.not_row {w : World} {B m base n : Nat} {v : Value} {xs : List Value} (h : Cur w B m) (hr : w.ownsRow base 9 1 v n xs) : v.ownBlock ≠ some B := by
  obtain ⟨k, _, a, len, cap, seed, hB, _⟩ := h
  rcases hr.2 with ⟨rfl, _⟩ | ⟨g, cp, cur, rfl, _, hgb, _⟩
  · simp [Value.ownBlock]
  · intro e
    obtain rfl : g = B := by simpa [Value.ownBlock] using e
    rw [hB] at hgb
    simp at hgb

def Picks (w : World) (B m : Nat) (hi : Int) (e : Ending) (w' : World) : Prop := ∃ r : Int, e = .returned (.int .i64 r) ∧ 0 ≤ r ∧ r ≤ hi ∧ Cur w' B m ∧ w.grownBy w' (some B)
set_option maxHeartbeats 400000 in
theorem pick (B m : Nat) (n : Int) (w : World) (h : Cur w B m) (hm : m < 900000) (h0 : 1 ≤ n) (h1 : n ≤ 60000) : Calls Try.prog 67 #[.pointer (some ⟨B, 0, none⟩), .int .i64 n] w (Picks w B (m + 2) (n - 1)) := by
  obtain ⟨k, hk, hc⟩ := h
  by_cases hn : n ≤ 1
  · have HC := Lib.hid hc
    clear hc
    go_enter Try.func67, Try.ntmps67
    go_wp2_with fail
    go_ret
    exact ⟨0, rfl, by omega, by omega, ⟨k, by omega, HC.out⟩, grown_refl _ _⟩
  · have HC := Lib.hid hc
    clear hc
    by_cases hb : 200 < n
    · go_enter Try.func67, Try.ntmps67
      go_wp2_with fail
      refine (next B k _ HC.out (by omega)).mono ?_
      rintro e w1 ⟨r, rfl, r0, r1, hc1, hg1⟩
      have HC1 := Lib.hid hc1
      clear hc1 HC
      go_wp2_with fail
      refine (next B (k + 1) _ HC1.out (by omega)).mono ?_
      rintro e w2 ⟨r2, rfl, r20, r21, hc2, hg2⟩
      have HC2 := Lib.hid hc2
      have hg := grown_trans hg1 hg2
      clear hc2 HC1 hg1 hg2
      go_wp2_with fail
      go_ret
      exact ⟨_, rfl, Int.emod_nonneg _ (by omega), by have := Int.emod_lt_of_pos (r * 256 + r2) (show 0 < n by omega); omega, ⟨k + 1 + 1, by omega, HC2.out⟩, hg⟩
    · go_enter Try.func67, Try.ntmps67
      go_wp2_with fail
      refine (next B k _ HC.out (by omega)).mono ?_
      rintro e w1 ⟨r, rfl, r0, r1, hc1, hg1⟩
      have HC1 := Lib.hid hc1
      clear hc1 HC
      go_wp2_with fail
      go_ret
      exact ⟨_, rfl, Int.emod_nonneg _ (by omega), by have := Int.emod_lt_of_pos r (show 0 < n by omega); omega, ⟨k + 1, by omega, HC1.out⟩, hg1⟩

def Ones (w : World) (B m : Nat) (e : Ending) (w' : World) : Prop := ∃ r : Bool, e = .returned (.bool r) ∧ Cur w' B m ∧ w.grownBy w' (some B)
set_option maxHeartbeats 400000 in
theorem one (B m : Nat) (n : Int) (w : World) (h : Cur w B m) (hm : m < 900000) (h0 : 1 ≤ n) (h1 : n ≤ 60000) : Calls Try.prog 70 #[.pointer (some ⟨B, 0, none⟩), .int .i64 n] w (Ones w B (m + 2)) := by
  have HC := Lib.hid h
  clear h
  go_enter Try.func70, Try.ntmps70
  go_wp2_with fail
  refine (pick B m n _ HC.out hm h0 h1).mono ?_
  rintro e w1 ⟨r, rfl, r0, r1, hc1, hg1⟩
  have HC1 := Lib.hid hc1
  clear hc1 HC
  go_wp2_with fail
  go_ret
  exact ⟨_, rfl, HC1.out, hg1⟩

/-- 'of' answers one of the strings. -/
def Ofs (w : World) (B m : Nat) (xs : List ByteArray) (e : Ending) (w' : World) : Prop := ∃ x, x ∈ xs ∧ e = .returned (.string x) ∧ Cur w' B m ∧ w.grownBy w' (some B)
end Go.Proofs.Ytdjnaoaniokbgaa.Cur
namespace Go.Proofs.Ytdjnaoaniokbgaa.Draw
open Go.RowKit Cur
set_option linter.unusedVariables false

/-- A new reader over a code that came in. -/
theorem cur_new {w : World} {a : Option Addr} {len cap : Nat} {zs : List Int} (h : Frame.IsRow .u8 w a len cap zs) (hl : len ≤ 65536) :
    Cur (w.alloc (.cells #[.slice a len cap, .int .i64 0, .int .u64 0] 76)) w.heap.size 0 := by
  refine ⟨0, Nat.le_refl _, a, len, cap, 0, (by show (w.heap.push _)[w.heap.size]? = _; rw [Array.getElem?_push, if_pos rfl]; rfl), hl, by omega, ?_⟩
  rcases h with ⟨rfl, rfl, rfl, rfl⟩ | ⟨x, rfl, h1, h2, h3, h4, h5⟩
  · exact .inl rfl
  · by_cases h0 : len = 0
    · exact .inl h0
    · obtain ⟨b, off, spot⟩ := x
      have hspot : spot = none := by simpa [Addr.add] using World.cell?_spot (h4 0 (by omega))
      subst hspot
      have hb : b < w.heap.size := cell_lt (h4 0 (by omega))
      refine .inr ⟨b, off, rfl, by omega, by simp; omega, fun j hj => ?_⟩
      have hz := h4 j (by omega)
      have hw := h5 (zs.getD j 0) (by rw [List.getD_eq_getElem?_getD, List.getElem?_eq_getElem (by omega)]; exact List.getElem_mem _)
      refine ⟨zs.getD j 0, ?_, ?_, ?_⟩
      · rw [World.cell?_alloc_past _ _ _ hb, ← Go.WideShapes.add_plain]
        exact hz
      · exact (bounds_u8 hw).1
      · exact (bounds_u8 hw).2

theorem lit_cells (w : World) (xs : List ByteArray) (j : Nat) (x : ByteArray) (h : xs[j]? = some x) : (w.alloc (.cells (xs.map Value.string).toArray 9)).cell? ⟨w.heap.size, 0 + j, none⟩ = some (.string x) := by
  rw [Nat.zero_add, World.cell?_alloc_at _ _ _ _ rfl]
  show (xs.map Value.string).toArray[j]? = _
  rw [List.getElem?_toArray, List.getElem?_map, h]
  rfl
theorem grown_alloc (w : World) (o : Obj) (r : Option Nat) : w.grownBy (w.alloc o) r := World.grownBy_alloc w o r

theorem small_of (xs : List ByteArray) (k : Nat) (h : xs.all (fun x => decide (x.size ≤ k)) = true) (x : ByteArray) (hx : x ∈ xs) : x.size ≤ k := of_decide_eq_true (List.all_eq_true.1 h x hx)

def Str (w : World) (B m k : Nat) (e : Ending) (w' : World) : Prop := ∃ x : ByteArray, e = .returned (.string x) ∧ x.size ≤ k ∧ Cur w' B m ∧ w.grownBy w' (some B)
/-- what a reader of the call's own leaves -/
theorem below_cur {w w' : World} {o : Obj} (hg : (w.alloc o).grownBy w' (some w.heap.size)) : Below w.heap.size w w' :=
  ((Below.refl _ w).alloc (Nat.le_refl _) o).grown hg (by simp) (fun j hj => by cases hj; exact Nat.le_refl _)
end Go.Proofs.Ytdjnaoaniokbgaa.Draw
namespace Go.Proofs.Ytdjnaoaniokbgaa.Draw
open Go.RowKit Cur
set_option linter.unusedVariables false

def Ints (w : World) (B m : Nat) (xs : List Int) (e : Ending) (w' : World) : Prop := ∃ x, x ∈ xs ∧ e = .returned (.int .i64 x) ∧ Cur w' B m ∧ w.grownBy w' (some B)
set_option maxHeartbeats 400000 in
theorem among_any (B m g o n cap : Nat) (xs : List Int) (w : World) (h : Cur w B m) (hm : m < 900000) (hn : xs.length = n) (h0 : 1 ≤ n) (h1 : n ≤ 60000) (hcap : n ≤ cap) (hgB : g ≠ B) (hgl : g < w.heap.size)
    (hc : ∀ j x, xs[j]? = some x → w.cell? ⟨g, o + j, none⟩ = some (.int .i64 x)) :
    Calls Try.prog 68 #[.pointer (some ⟨B, 0, none⟩), .slice (some ⟨g, o, none⟩) n cap] w (Ints w B (m + 2) xs) := by
  have HC := Lib.hid h
  have HX := Lib.hid hc
  have HN := Lib.hid hn
  clear h hc hn
  go_enter Try.func68, Try.ntmps68
  go_wp2_with fail
  refine (pick B m n _ HC.out hm (by omega) (by omega)).mono ?_
  rintro e w1 ⟨r, rfl, r0, r1, hc1, hg1⟩
  obtain ⟨i, rfl⟩ := Int.eq_ofNat_of_zero_le r0
  have hi : i < xs.length := by rw [HN.out]; omega
  have hcell : w1.cell? ⟨g, o + i, none⟩ = some (.int .i64 xs[i]) := by
    rw [World.cell?_of_block (hg1.block g hgl (by intro e; exact hgB (Option.some.inj e)))]
    exact HX.out i _ (List.getElem?_eq_getElem hi)
  have HM := Lib.hid (List.getElem_mem hi)
  have HC1 := Lib.hid hc1
  clear hc1 HC
  generalize xs[i] = X at *
  go_wp2_with fail
  go_ret
  exact ⟨X, HM.out, rfl, HC1.out, hg1⟩
theorem lit_ints (w : World) (xs : List Int) (j : Nat) (x : Int) (h : xs[j]? = some x) : (w.alloc (.cells (xs.map (Value.int .i64)).toArray 3)).cell? ⟨w.heap.size, 0 + j, none⟩ = some (.int .i64 x) := by
  rw [Nat.zero_add, World.cell?_alloc_at _ _ _ _ rfl]
  show (xs.map (Value.int .i64)).toArray[j]? = _
  rw [List.getElem?_toArray, List.getElem?_map, h]
  rfl
theorem among_lit (B m : Nat) (xs : List Int) (w : World) (h : Cur w B m) (hm : m < 900000) (h0 : 1 ≤ xs.length) (h1 : xs.length ≤ 60000) :
    Calls Try.prog 68 #[.pointer (some ⟨B, 0, none⟩), .slice (some ⟨w.heap.size, 0, none⟩) xs.length xs.length] (w.alloc (.cells (xs.map (Value.int .i64)).toArray 3)) (Ints w B (m + 2) xs) := by
  have hlt := h.lt
  refine (among_any B m w.heap.size 0 xs.length xs.length xs _ (h.kept ((Below.refl _ _).alloc (Nat.le_refl _) _)) hm rfl h0 h1 (Nat.le_refl _) (by omega) (by simp) (fun j x hx => lit_ints w xs j x hx)).mono ?_
  rintro e w' ⟨x, hx, he, hc, hg⟩
  exact ⟨x, hx, he, hc, grown_trans (grown_alloc w _ _) hg⟩
end Go.Proofs.Ytdjnaoaniokbgaa.Draw
namespace Go.Proofs.Ytdjnaoaniokbgaa.Draw
open Go.RowKit Cur Bs
set_option linter.unusedVariables false
/-- block G holds just these cells -/
def Bx (w : World) (G : Nat) (t : TypeId) (cs : Array Value) : Prop := w.heap[G]? = some (.cells cs t (0, 0))
section
variable {w w' : World} {G : Nat} {t : TypeId} {cs : Array Value}
theorem Bx.lt (h : Bx w G t cs) : G < w.heap.size := (Array.getElem?_eq_some_iff.1 h).1
theorem Bx.cell (h : Bx w G t cs) (i : Nat) : w.cell? ⟨G, i, none⟩ = cs[i]? := cell_of_row w G i cs t (0, 0) h
theorem Bx.frozen (h : Bx w G t cs) (i : Nat) : w.frozen? ⟨G, i, none⟩ = false := by unfold Bx at h; simp [World.frozen?, h]
theorem Bx.new (w : World) (t : TypeId) (cs : Array Value) : Bx (w.alloc (.cells cs t)) w.heap.size t cs := heap_alloc_new w _
theorem Bx.alloc (h : Bx w G t cs) (o : Obj) : Bx (w.alloc o) G t cs := (Below.heap_alloc w o G h.lt).trans h
theorem Bx.set_ (h : Bx w G t cs) (i : Nat) (u : Value) : Bx (w.setCell ⟨G, i, none⟩ u) G t (cs.setIfInBounds i u) := by
  unfold Bx at h ⊢
  simp [World.setCell, Array.getElem?_modify, h]
theorem Bx.far (h : Bx w G t cs) {p : Addr} (hp : G ≠ p.block) (u : Value) : Bx (w.setCell p u) G t cs := (Below.heap_setCell w p u G hp).trans h
theorem Bx.grown {B : Nat} (h : Bx w G t cs) (hg : w.grownBy w' (some B)) (hne : G ≠ B) : Bx w' G t cs := (hg.block G h.lt (fun e => hne (Option.some.inj e))).trans h
end
theorem cur_alloc {w : World} {B m : Nat} (h : Cur w B m) (o : Obj) : Cur (w.alloc o) B m := h.kept ((Below.refl _ _).alloc (Nat.le_refl _) o)
theorem cur_set {w : World} {B m : Nat} (h : Cur w B m) {p : Addr} (hp : B < p.block) (u : Value) : Cur (w.setCell p u) B m := h.keptB ⟨rfl, rfl, rfl, by simp, fun k hk => Below.heap_setCell w p u k (by omega)⟩
/-- an owned slice behind the reader's block -/
theorem own_grown {α : Type} {T : Rec α} {E : TypeId} {w w' : World} {A B : Nat} {v : Value} {xs : List α} (h : Own T E w A v xs) (hg : w.grownBy w' (some B)) (hA : B < A) : Own T E w' A v xs :=
  h.same fun k hk => hg.block k (h.lt k hk).2 (fun e => by have := (h.lt k hk).1; have := Option.some.inj e; omega)
theorem own_set {α : Type} {T : Rec α} {E : TypeId} {w : World} {A : Nat} {v : Value} {xs : List α} {p : Addr} (h : Own T E w A v xs) (hp : ∀ k, v.ownBlock = some k → k ≠ p.block) (u : Value) : Own T E (w.setCell p u) A v xs :=
  h.same fun k hk => Below.heap_setCell w p u k (hp k hk)
theorem grown_size {w w' : World} {r : Option Nat} (h : w.grownBy w' r) : w.heap.size ≤ w'.heap.size := h.size
theorem grown_setN (w : World) (p : Addr) (v : Value) (n B : Nat) (hn : n ≤ p.block) (w0 : World) (h : w0.grownBy w (some B)) (h0 : w0.heap.size ≤ p.block) : w0.grownBy (w.setCell p v) (some B) :=
  ⟨h.os, h.tape, h.output, by simpa using h.size, fun k hk hne => (Below.heap_setCell w p v k (by omega)).trans (h.block k hk hne)⟩
theorem grown_of_below {w0 w w' : World} {B : Nat} (h : w0.grownBy w (some B)) (hb : Below w.heap.size w w') : w0.grownBy w' (some B) :=
  grown_trans h ⟨hb.os, hb.tape, hb.output, hb.size, fun k hk _ => hb.block k hk⟩
/-- an append to an owned slice: what the reader's caller sees -/
theorem grown_own {w0 w w' : World} {B : Nat} {r : Option Nat} (h : w0.grownBy w (some B)) (hg : w.grownBy w' r) (hr : ∀ k, r = some k → w0.heap.size ≤ k) : w0.grownBy w' (some B) :=
  ⟨hg.os.trans h.os, hg.tape.trans h.tape, hg.output.trans h.output, Nat.le_trans h.size hg.size, fun k hk hne => (hg.block k (Nat.lt_of_lt_of_le hk h.size) (fun e => by have := hr k e.symm; omega)).trans (h.block k hk hne)⟩
theorem cur_own {w w' : World} {B m : Nat} {r : Option Nat} (h : Cur w B m) (hg : w.grownBy w' r) (hr : ∀ k, r = some k → B < k) : Cur w' B m :=
  h.keptB ⟨hg.os, hg.tape, hg.output, hg.size, fun k hk => hg.block k (Nat.lt_of_lt_of_le hk (by have := h.lt; omega)) (fun e => by have := hr k e.symm; omega)⟩
theorem among_at (B m g : Nat) (xs : List Int) (w : World) (hg : g = w.heap.size) (h : Cur w B m) (hm : m < 900000) (h0 : 1 ≤ xs.length) (h1 : xs.length ≤ 60000) :
    Calls Try.prog 68 #[.pointer (some ⟨B, 0, none⟩), .slice (some ⟨g, 0, none⟩) xs.length xs.length] (w.alloc (.cells (xs.map (Value.int .i64)).toArray 3)) (Ints w B (m + 2) xs) := by
  subst hg; exact among_lit B m xs w h hm h0 h1
end Go.Proofs.Ytdjnaoaniokbgaa.Draw
namespace Go.Proofs.Ytdjnaoaniokbgaa.Draw
open Go.RowKit Cur Bs
set_option linter.unusedVariables false
/-- the cursor lies at B; since the world w0 nothing but it has turned, and blocks were laid -/
structure Live (B m : Nat) (w0 w : World) : Prop where
  cur : Cur w B m
  grown : w0.grownBy w (some B)
  low : B < w0.heap.size
section
variable {B m m' : Nat} {w0 w w' : World}
theorem Live.start (h : Cur w B m) : Live B m w w := ⟨h, grown_refl _ _, h.lt⟩
theorem Live.size (h : Live B m w0 w) : w0.heap.size ≤ w.heap.size := h.grown.size
theorem Live.draw (h : Live B m w0 w) (hc : Cur w' B m') (hg : w.grownBy w' (some B)) : Live B m' w0 w' := ⟨hc, grown_trans h.grown hg, h.low⟩
theorem Live.mono (h : Live B m w0 w) (hm : m ≤ m') : Live B m' w0 w := ⟨h.cur.mono hm, h.grown, h.low⟩
theorem Live.alloc (h : Live B m w0 w) (o : Obj) : Live B m w0 (w.alloc o) := ⟨cur_alloc h.cur o, grown_trans h.grown (grown_alloc w o (some B)), h.low⟩
theorem Live.kept (h : Live B m w0 w) (hb : Below w.heap.size w w') : Live B m w0 w' := ⟨h.cur.kept hb, grown_of_below h.grown hb, h.low⟩
theorem Live.set (h : Live B m w0 w) {p : Addr} (hp : w0.heap.size ≤ p.block) (u : Value) : Live B m w0 (w.setCell p u) :=
  ⟨cur_set h.cur (p := p) (Nat.lt_of_lt_of_le h.low hp) u, grown_setN w p u w0.heap.size B hp w0 h.grown (Nat.le_trans (Nat.le_refl _) hp), h.low⟩
theorem Live.own (h : Live B m w0 w) {r : Option Nat} (hg : w.grownBy w' r) (hr : ∀ k, r = some k → w0.heap.size ≤ k) : Live B m w0 w' :=
  ⟨cur_own h.cur hg (fun k hk => Nat.lt_of_lt_of_le h.low (hr k hk)), grown_own h.grown hg hr, h.low⟩
/-- what the caller sees -/
theorem Live.post (h : Live B m w0 w) (hm : m ≤ m') : Cur w B m' ∧ w0.grownBy w (some B) := ⟨h.cur.mono hm, h.grown⟩
theorem Bx.draw {G : Nat} {t : TypeId} {cs : Array Value} (h : Bx w G t cs) (hg : w.grownBy w' (some B)) (hG : w0.heap.size ≤ G) (hL : B < w0.heap.size) : Bx w' G t cs := h.grown hg (by omega)
theorem Bx.keptB {G : Nat} {t : TypeId} {cs : Array Value} (h : Bx w G t cs) (hb : Below w.heap.size w w') : Bx w' G t cs := (hb.block G h.lt).trans h
theorem Bx.own {G g n c : Nat} {t : TypeId} {cs : Array Value} (h : Bx w G t cs) (hg : w.grownBy w' (Value.slice (some ⟨g, 0, none⟩) n c).ownBlock) (hne : g ≠ G) : Bx w' G t cs :=
  (hg.block G h.lt (fun e => hne (Option.some.inj e).symm)).trans h
end
theorem among_pre (B m g n : Nat) (xs : List Int) (w : World) (h : Cur w B m) (hm : m < 900000) (hx : Bx w g 3 (xs.map (Value.int .i64)).toArray) (hgB : g ≠ B) (h0 : 1 ≤ n) (hn : n ≤ xs.length) (h1 : xs.length ≤ 1000) :
    Calls Try.prog 68 #[.pointer (some ⟨B, 0, none⟩), .slice (some ⟨g, 0, none⟩) n xs.length] w (Ints w B (m + 2) xs) := by
  refine (among_any B m g 0 n xs.length (xs.take n) w h hm (by rw [List.length_take]; omega) h0 (by omega) hn hgB hx.lt (fun j x hj => ?_)).mono ?_
  · have hj2 : xs[j]? = some x := by
      rw [List.getElem?_take] at hj
      split at hj
      · exact hj
      · cases hj
    rw [Nat.zero_add, hx.cell, List.getElem?_toArray, List.getElem?_map, hj2]
    rfl
  · rintro e w' ⟨x, hx, he, hc, hg⟩
    exact ⟨x, List.mem_of_mem_take hx, he, hc, hg⟩
end Go.Proofs.Ytdjnaoaniokbgaa.Draw
namespace Go.Proofs.Ytdjnaoaniokbgaa.Bs
open Go.RowKit
set_option linter.unusedVariables false
section
variable {P : Program} {md : Region.Mode} {Q : Exit → Act → World → Prop}
/-- what is asked where the first part ends -/
def thenQ (Q : Exit → Act → World → Prop) (R : Act → World → Prop) : Exit → Act → World → Prop := fun e => match e with
  | .normal => R
  | e => Q e
theorem wp_then {R next : Act → World → Prop} {o : Oper} {a : Act} {w : World} (h : o.wp P a w next (thenQ Q R)) : o.wp P a w next Q := by
  unfold Oper.wp at *
  generalize (execOp a.eval o).run P w = r at *
  cases r with
  | ok n w' => cases n <;> exact h
  | halt x w' => cases x <;> exact h
theorem wpAny_more {ops : Array Oper} : ∀ (k : Nat) (listed : Array Bool) (a : Act) (w : World), wpAny P md ops Q k listed a w → wpAny P md ops Q (k + 1) listed a w
  | 0, listed, a, w, h => ⟨fun _ => h.2, fun i hi => by rw [h.1] at hi; cases hi⟩
  | k + 1, listed, a, w, h => ⟨h.1, fun i hi => wpOp_mono (fun a' w' h' => wpAny_more k _ a' w' h') (h.2 i hi)⟩
theorem wpAny_much {ops : Array Oper} (k : Nat) (listed : Array Bool) (a : Act) (w : World) (h : wpAny P md ops Q k listed a w) : ∀ f, wpAny P md ops Q (f + k) listed a w
  | 0 => by rw [Nat.zero_add]; exact h
  | f + 1 => by rw [Nat.succ_add]; exact wpAny_more _ _ _ _ (wpAny_much k listed a w h f)
/-- the operations of A wait for elder ones of A alone, and pass nothing over -/
def headB (md : Region.Mode) (A : Array Oper) : Bool := (List.range A.size).all fun i => match A[i]? with
  | none => true
  | some o => o.guard.isNone && o.after.all fun e => !Region.binds md e || decide (e.on < i)
/-- those behind wait for each of the first n -/
def restB (md : Region.Mode) (ops : Array Oper) (n : Nat) : Bool := (List.range ops.size).all fun i => decide (i < n) || match ops[i]? with
  | none => true
  | some o => (List.range n).all fun j => o.after.any fun e => Region.binds md e && e.on == j
theorem headB_of {A : Array Oper} (h : headB md A = true) {i : Nat} {o : Oper} (ho : A[i]? = some o) : o.guard = none ∧ ∀ e ∈ o.after, Region.binds md e = true → e.on < i := by
  unfold headB at h
  rw [List.all_eq_true] at h
  have h1 := h i (List.mem_range.2 (Array.getElem?_eq_some_iff.1 ho).1)
  simp only [ho, Bool.and_eq_true, Option.isNone_iff_eq_none, Array.all_eq_true_iff_forall_mem, Bool.or_eq_true, Bool.not_eq_true', decide_eq_true_eq] at h1
  exact ⟨h1.1, fun e he hb => (h1.2 e he).resolve_left (by rw [hb]; simp)⟩
theorem restB_of {ops : Array Oper} {n : Nat} (h : restB md ops n = true) {i : Nat} {o : Oper} (ho : ops[i]? = some o) (hi : n ≤ i) {j : Nat} (hj : j < n) : ∃ e ∈ o.after, Region.binds md e = true ∧ e.on = j := by
  unfold restB at h
  rw [List.all_eq_true] at h
  have h1 := h i (List.mem_range.2 (Array.getElem?_eq_some_iff.1 ho).1)
  simp only [ho, Bool.or_eq_true, decide_eq_true_eq, List.all_eq_true] at h1
  have h2 := h1.resolve_left (by omega) j (List.mem_range.2 hj)
  obtain ⟨e, he, hx⟩ := Array.any_eq_true'.1 h2
  rw [Bool.and_eq_true, beq_iff_eq] at hx
  exact ⟨e, he, hx⟩
def pad (listed : Array Bool) (m : Nat) : Array Bool := listed ++ Array.replicate m false
theorem pad_lt {listed : Array Bool} {m i : Nat} (d : Bool) (h : i < listed.size) : (pad listed m).getD i d = listed.getD i d := by
  unfold pad
  rw [Array.getD_eq_getD_getElem?, Array.getElem?_append_left h, ← Array.getD_eq_getD_getElem?]
theorem pad_ge {listed : Array Bool} {m i : Nat} (d : Bool) (h : listed.size ≤ i) (h2 : i < listed.size + m) : (pad listed m).getD i d = false := by
  unfold pad
  rw [Array.getD_eq_getD_getElem?, Array.getElem?_append_right h, Array.getElem?_replicate, if_pos (by omega)]; rfl
theorem pad_set {listed : Array Bool} {m i : Nat} (h : i < listed.size) : (pad listed m).setIfInBounds i true = pad (listed.setIfInBounds i true) m := by
  unfold pad
  rw [Array.setIfInBounds_append_left h]
/-- while the first part is not done nothing else may come up -/
theorem ready_pad {A ops : Array Oper} {listed : Array Bool} (hA : ∀ i, i < A.size → ops[i]? = A[i]?) (hle : A.size ≤ ops.size) (hh : headB md A = true) (hr : restB md ops A.size = true) (hl : listed.size = A.size) {j : Nat} (hj : j < A.size) (hjl : listed.getD j false = false) :
    Region.ready md ops (pad listed (ops.size - A.size)) = Region.ready md A listed := by
  unfold Region.ready
  have e : ops.size = A.size + (ops.size - A.size) := by omega
  rw [e, List.range_add, List.filter_append]
  rw [show A.size + (ops.size - A.size) - A.size = ops.size - A.size by omega]
  have h2 : (List.map (fun x => A.size + x) (List.range (ops.size - A.size))).filter (fun i => !(pad listed (ops.size - A.size)).getD i true && ((ops[i]?).map (·.after.all fun e => !Region.binds md e || (pad listed (ops.size - A.size)).getD e.on false)).getD false) = [] := by
    rw [List.filter_eq_nil_iff]
    intro i hi
    obtain ⟨x, hx, rfl⟩ := List.mem_map.1 hi
    have hx2 := List.mem_range.1 hx
    obtain ⟨o, ho⟩ : ∃ o, ops[A.size + x]? = some o := ⟨_, Array.getElem?_eq_getElem (by omega)⟩
    obtain ⟨e, he, hb, hon⟩ := restB_of hr ho (Nat.le_add_right _ _) hj
    simp only [ho, Option.map_some, Option.getD_some, Bool.and_eq_true, not_and, Bool.not_eq_true]
    intro _
    rw [← Bool.not_eq_true, Array.all_eq_true_iff_forall_mem]
    intro hall
    have := hall e he
    rw [hb, hon, pad_lt false (by omega), hjl] at this
    cases this
  rw [h2, List.append_nil]
  refine List.filter_congr fun i hi => ?_
  have hi2 := List.mem_range.1 hi
  rw [pad_lt true (by omega), hA i hi2]
  congr 1
  cases ho : A[i]? with
  | none => rfl
  | some o =>
    simp only [Option.map_some, Option.getD_some]
    have hd := (headB_of hh ho).2
    rw [Bool.eq_iff_iff, Array.all_eq_true_iff_forall_mem, Array.all_eq_true_iff_forall_mem]
    refine forall_congr' fun e => forall_congr' fun he => ?_
    cases hb : Region.binds md e with
    | false => simp
    | true => rw [pad_lt false (by have := hd e he hb; omega)]
/-- if nothing of the first part may come up it is done -/
theorem ready_done {A : Array Oper} {listed : Array Bool} (hh : headB md A = true) (hl : listed.size = A.size) (h : Region.ready md A listed = []) : ∀ j, j < A.size → listed.getD j false = true := by
  intro j
  induction j using Nat.strongRecOn with
  | _ j ih =>
    intro hj
    cases hc : listed.getD j false with
    | true => rfl
    | false =>
      exfalso
      obtain ⟨o, ho⟩ : ∃ o, A[j]? = some o := ⟨_, Array.getElem?_eq_getElem hj⟩
      have hm : j ∈ Region.ready md A listed := by
        unfold Region.ready
        rw [List.mem_filter]
        refine ⟨List.mem_range.2 hj, ?_⟩
        rw [ho, Bool.and_eq_true]
        refine ⟨?_, ?_⟩
        · rw [Array.getD_eq_getD_getElem?, Array.getElem?_eq_getElem (by omega)] at hc ⊢
          rw [show listed[j] = false from hc]; rfl
        · show o.after.all _ = true
          rw [Array.all_eq_true_iff_forall_mem]
          intro e he
          cases hb : Region.binds md e with
          | false => rfl
          | true =>
            have h1 := (headB_of hh ho).2 e he hb
            rw [ih e.on h1 (by omega)]; rfl
      rw [h] at hm
      cases hm
theorem listed_all {listed : Array Bool} (h : ∀ j, j < listed.size → listed.getD j false = true) : listed = Array.replicate listed.size true := by
  apply Array.ext
  · simp
  · intro i h1 h2
    have := h i h1
    rw [Array.getD_eq_getD_getElem?, Array.getElem?_eq_getElem h1] at this
    rw [Array.getElem_replicate]; exact this
theorem wpOp_pre {A ops : Array Oper} {R K : Act → World → Prop} {i : Nat} {a : Act} {w : World} (hA : ops[i]? = A[i]?) (hi : i < A.size) (hh : headB md A = true) (h : wpOp P A (thenQ Q R) i K a w) : wpOp P ops Q i K a w := by
  obtain ⟨o, ho⟩ : ∃ o, A[i]? = some o := ⟨_, Array.getElem?_eq_getElem hi⟩
  have hg := (headB_of hh ho).1
  unfold wpOp at *
  rw [hA, ho]
  rw [ho] at h
  have hw : ∀ f, Region.wanted o f = true := fun f => by simp [Region.wanted, hg]
  simp only [hw, if_true] at h ⊢
  exact h.imp wp_then (fun h => ⟨h.1, h.2⟩)
theorem wpAny_pre {A ops : Array Oper} (hA : ∀ i, i < A.size → ops[i]? = A[i]?) (hle : A.size ≤ ops.size) (hh : headB md A = true) (hr : restB md ops A.size = true) (k : Nat) : ∀ (fuel : Nat) (listed : Array Bool) (a : Act) (w : World), listed.size = A.size →
    wpAny P md A (thenQ Q (fun a w => wpAny P md ops Q k (pad (Array.replicate A.size true) (ops.size - A.size)) a w)) fuel listed a w → wpAny P md ops Q (fuel + k) (pad listed (ops.size - A.size)) a w
  | 0, listed, a, w, hl, h => by
    have hd := ready_done hh hl h.1
    have hE : listed = Array.replicate A.size true := by rw [← hl]; exact listed_all (fun j hj => hd j (by omega))
    rw [hE, Nat.zero_add]; exact h.2
  | fuel + 1, listed, a, w, hl, h => by
    by_cases hx : ∃ j, j < A.size ∧ listed.getD j false = false
    · obtain ⟨j, hj, hjl⟩ := hx
      have hre := ready_pad hA hle hh hr hl hj hjl
      rw [show fuel + 1 + k = (fuel + k) + 1 by omega]
      refine ⟨fun h0 => ?_, fun i hi => ?_⟩
      · rw [hre] at h0
        have := ready_done hh hl h0 j hj
        rw [hjl] at this; cases this
      · rw [hre] at hi
        have hi2 : i < A.size := by
          unfold Region.ready at hi
          exact List.mem_range.1 (List.mem_filter.1 hi).1
        refine wpOp_pre (hA i hi2) hi2 hh (wpOp_mono (fun a' w' h' => ?_) (h.2 i hi))
        rw [pad_set (by omega)]
        exact wpAny_pre hA hle hh hr k fuel _ a' w' (by simpa using hl) h'
    · have hd : ∀ j, j < A.size → listed.getD j false = true := fun j hj => by
        cases hc : listed.getD j false with
        | true => rfl
        | false => exact absurd ⟨j, hj, hc⟩ hx
      have hE : listed = Array.replicate A.size true := by rw [← hl]; exact listed_all (fun j hj => hd j (by omega))
      have h0 : Region.ready md A listed = [] := by
        unfold Region.ready
        rw [List.filter_eq_nil_iff]
        intro i hi
        have hi2 := List.mem_range.1 hi
        have := hd i hi2
        rw [Array.getD_eq_getD_getElem?, Array.getElem?_eq_getElem (by omega)] at this
        rw [Array.getD_eq_getD_getElem?, Array.getElem?_eq_getElem (by omega), show listed[i] = true from this]; simp
      have h1 := h.1 h0
      rw [hE]
      exact wpAny_much k _ a w h1 (fuel + 1)
/-- the law -/
theorem wp_region_pre {id : Nat} {ops : Array Oper} {a : Act} {w : World} {S : World → Prop} (A : Array Oper) (hm : P.follows .mixedOrders = true) (hA : ∀ i, i < A.size → ops[i]? = A[i]?) (hle : A.size ≤ ops.size) (hh : headB .any A = true) (hr : restB .any ops A.size = true) (hS : S w.drew)
    (h : S w.drew → wpAnyH P .any A (thenQ Q (fun a w => wpAny P .any ops Q (ops.size - A.size) (pad (Array.replicate A.size true) (ops.size - A.size)) a w)) S A.size (Array.replicate A.size false) a w.drew) : (Code.region id ops true).wp P Q a w := by
  refine wp_region_any hm ?_
  have h1 := wpAny_pre hA hle hh hr (ops.size - A.size) A.size (Array.replicate A.size false) a w.drew (by simp) (wpAny_of_held _ _ _ _ (h hS))
  have e : pad (Array.replicate A.size false) (ops.size - A.size) = Array.replicate ops.size false := by
    unfold pad
    rw [Array.replicate_append_replicate, show A.size + (ops.size - A.size) = ops.size by omega]
  rw [e, show A.size + (ops.size - A.size) = ops.size by omega] at h1
  exact h1
def anyW : World → Prop := fun _ => True
/-- the law, the first n operations written as a list; what follows them is handed on closed -/
theorem wp_region_preN {id : Nat} {ops : Array Oper} {a : Act} {w : World} {S : World → Prop} (n m : Nat) (hsz : ops.size = n + m) (hm : P.follows .mixedOrders = true) (hh : headB .any (ops.toList.take n).toArray = true) (hr : restB .any ops n = true) (hS : S w.drew)
    (h : ∀ R : Act → World → Prop, Hid (∀ a w, (anyW w → wpAnyH P .any ops Q anyW m (pad (Array.replicate n true) m) a w) → R a w) → S w.drew → wpAnyH P .any (ops.toList.take n).toArray (thenQ Q R) S n (Array.replicate n false) a w.drew) : (Code.region id ops true).wp P Q a w := by
  have hs : (ops.toList.take n).toArray.size = n := by simp; omega
  have e1 : ops.size - n = m := by omega
  refine wp_region_pre (S := S) (ops.toList.take n).toArray hm (fun i hi => ?_) (by rw [hs]; omega) hh (by rw [hs]; exact hr) hS (fun hS' => ?_)
  · rw [hs] at hi
    simp [hi]
  · rw [hs, e1]
    exact h _ (Lib.hid (fun a w h => wpAny_of_held _ _ _ _ (h trivial))) hS'
end
end Go.Proofs.Ytdjnaoaniokbgaa.Bs
