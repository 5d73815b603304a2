/- The data of the claim: records in memory, words, slices of the call's own, the cursor: texts joined by program. No condition. -/
import Derived.Test.YtbaflfbidgolfaaRows
import Derived.WalkKit
import Derived.ProofKit
import Derived.OpenShut
import Derived.WalkSpells
import Derived.WalkSmall
import Derived.Lib.Hide
import Derived.Lib.QuietBelow
import Derived.Deep.QuietTactic
import Derived.Deep.Fields
import Derived.BigQuiet
import Derived.IntWalk
import Derived.WalkLawsBesides
import Derived.Laws.IdiomCopy
import Derived.Deep.RegionHeld3
import Derived.Deep.AppendLies
import Derived.Deep.DrawnRows
import Derived.Deep.DeepCutAuto
import Derived.Laws.StructEq
namespace Go.Proofs.Ytbaflfbidgolfaa.Frame
open Go.ChangeShapes Go.WideShapes Go.ChangeAt Go.RowKit
theorem own : ownKnob Try.prog.godebug = none := by kernel_rfl
theorem laidOut : laidOutB Try.prog = true := by kernel_rfl
/-- A slice of integers that came in: nil, or a row of cap cells that hold the numbers zs (all of them, up to the capacity). -/
def IsRow (k : IntKind) (w : World) (a : Option Addr) (len cap : Nat) (zs : List Int) : Prop :=
  (a = none ∧ len = 0 ∧ cap = 0 ∧ zs = []) ∨
  ∃ x, a = some x ∧ len ≤ cap ∧ cap ≤ maxLen ∧ zs.length = cap ∧ (∀ i, i < zs.length → w.cell? (x.add i) = some (.int k (zs.getD i 0))) ∧ ∀ n ∈ zs, (Lit.int k n).wf = true
/-- A slice of strings that came in. -/
def IsStrs (w : World) (a : Option Addr) (len cap : Nat) (ss : List ByteArray) : Prop :=
  (a = none ∧ len = 0 ∧ cap = 0 ∧ ss = []) ∨
  ∃ x, a = some x ∧ len ≤ cap ∧ cap ≤ maxLen ∧ ss.length = cap ∧ (∀ i, i < ss.length → w.cell? (x.add i) = some (.string (ss.getD i ByteArray.empty))) ∧ ∀ s ∈ ss, s.size ≤ maxLen
end Go.Proofs.Ytbaflfbidgolfaa.Frame
namespace Go.Proofs.Ytbaflfbidgolfaa.Bs
open Go.RowKit
set_option linter.unusedVariables false

/-- nothing has turned but the blocks from A up to B; blocks may have been laid -/
structure Apart (A B : Nat) (w w' : World) : Prop where
  os : w'.os = w.os
  tape : w'.tape = w.tape
  output : w'.output = w.output
  size : w.heap.size ≤ w'.heap.size
  block : ∀ k, k < w.heap.size → (k < A ∨ B ≤ k) → w'.heap[k]? = w.heap[k]?
theorem Apart.refl (A B : Nat) (w : World) : Apart A B w w := ⟨rfl, rfl, rfl, Nat.le_refl _, fun _ _ _ => rfl⟩
theorem Apart.trans {A B : Nat} {a b c : World} (h : Apart A B a b) (k : Apart A B b c) : Apart A B a c :=
  ⟨k.os.trans h.os, k.tape.trans h.tape, k.output.trans h.output, Nat.le_trans h.size k.size, fun i hi hn => (k.block i (Nat.lt_of_lt_of_le hi h.size) hn).trans (h.block i hi hn)⟩
theorem Apart.of_below {A B : Nat} {a b : World} (h : Below a.heap.size a b) : Apart A B a b := ⟨h.os, h.tape, h.output, h.size, fun j hj _ => h.block j hj⟩
theorem Apart.of_below_low {A : Nat} {a b : World} (h : Below A a b) : Apart A a.heap.size a b := ⟨h.os, h.tape, h.output, h.size, fun j hj hn => h.block j (by omega)⟩
theorem Apart.wide {A B A' B' : Nat} {a b : World} (h : Apart A B a b) (hA : A' ≤ A) (hB : B ≤ B') : Apart A' B' a b := ⟨h.os, h.tape, h.output, h.size, fun j hj hn => h.block j hj (by omega)⟩
theorem Apart.below {A B B' : Nat} {a b : World} (h : Apart A B a b) (hB : B' ≤ A) (hz : B' ≤ a.heap.size) : Below B' a b :=
  ⟨h.os, h.tape, h.output, h.size, fun k hk => h.block k (by omega) (.inl (by omega))⟩
theorem Apart.set {A B : Nat} {a b : World} (h : Apart A B a b) {p : Addr} (hA : A ≤ p.block) (hB : p.block < B) (v : Value) : Apart A B a (b.setCell p v) :=
  h.trans ⟨rfl, rfl, rfl, by simp, fun k _ hk => heap_setCell_other b p k v (by omega)⟩
theorem Apart.alloc {A B : Nat} {a b : World} (h : Apart A B a b) (o : Obj) : Apart A B a (b.alloc o) := h.trans (Apart.of_below ((Below.refl _ _).alloc (Nat.le_refl _) o))
theorem Apart.on {A B : Nat} {a b c : World} (h : Apart A B a b) (hb : Below b.heap.size b c) : Apart A B a c := h.trans (Apart.of_below hb)

/-- a fact that hangs on the blocks from A up to B alone -/
structure Loc (A B : Nat) (P : World → Prop) (w : World) : Prop where
  le : B ≤ w.heap.size
  all : ∀ w' : World, B ≤ w'.heap.size → (∀ j, A ≤ j → j < B → w'.heap[j]? = w.heap[j]?) → P w'
section
variable {A B : Nat} {P : World → Prop} {w w' : World}
theorem Loc.now (h : Loc A B P w) : P w := h.all w h.le fun _ _ _ => rfl
theorem Loc.same (h : Loc A B P w) (hz : B ≤ w'.heap.size) (hs : ∀ j, A ≤ j → j < B → w'.heap[j]? = w.heap[j]?) : Loc A B P w' :=
  ⟨hz, fun w2 h2 hs2 => h.all w2 h2 fun j h1 h3 => (hs2 j h1 h3).trans (hs j h1 h3)⟩
theorem Loc.kept (h : Loc A B P w) (hb : Below w.heap.size w w') : Loc A B P w' :=
  h.same (Nat.le_trans h.le hb.size) fun j _ hj => hb.block j (Nat.lt_of_lt_of_le hj h.le)
theorem Loc.under {C : Nat} (h : Loc A B P w) (hb : Below C w w') (hC : B ≤ C) : Loc A B P w' :=
  h.same (Nat.le_trans h.le hb.size) fun j _ hj => hb.block j (by omega)
theorem Loc.apart {A' B' : Nat} (h : Loc A B P w) (ha : Apart A' B' w w') (hd : B ≤ A' ∨ B' ≤ A) : Loc A B P w' :=
  h.same (Nat.le_trans h.le ha.size) fun j h1 h2 => ha.block j (by have := h.le; omega) (by omega)
theorem Loc.alloc (h : Loc A B P w) (o : Obj) : Loc A B P (w.alloc o) := h.kept ((Below.refl _ _).alloc (Nat.le_refl _) o)
theorem Loc.imp {Q : World → Prop} (h : Loc A B P w) (hi : ∀ W, P W → Q W) : Loc A B Q w := ⟨h.le, fun w2 h2 hs => hi _ (h.all w2 h2 hs)⟩
end

theorem cell_lt {w : World} {p : Addr} {v : Value} (h : w.cell? p = some v) : p.block < w.heap.size := by
  rcases Nat.lt_or_ge p.block w.heap.size with h' | h'
  · exact h'
  · simp [World.cell?, Array.getElem?_eq_none h'] at h

/-- a type of records: how many cells, which values -/
structure Rec (α : Type) where
  n : Nat
  vals : α → List Value
  len : ∀ a, (vals a).length = n
  pos : 0 < n
  one : ∀ a, ∀ u ∈ vals a, u.oneCell' = true
section
variable {α : Type} (T : Rec α)
def flat (xs : List α) : List Value := xs.flatMap T.vals
theorem flat_cons (x : α) (xs : List α) : flat T (x :: xs) = T.vals x ++ flat T xs := rfl
theorem flat_len : ∀ xs : List α, (flat T xs).length = xs.length * T.n
  | [] => by simp [flat]
  | x :: xs => by rw [flat_cons, List.length_append, flat_len xs, List.length_cons, T.len, Nat.add_mul, Nat.one_mul, Nat.add_comm]
theorem flat_append (xs ys : List α) : flat T (xs ++ ys) = flat T xs ++ flat T ys := by simp [flat]
theorem flat_one (xs : List α) : ∀ u ∈ flat T xs, u.oneCell' = true := by
  intro u hu
  obtain ⟨r, _, hr⟩ := List.mem_flatMap.1 hu
  exact T.one r u hr
theorem flat_at : ∀ (xs : List α) (k j : Nat) (r : α), xs[k]? = some r → j < T.n → (flat T xs)[k * T.n + j]? = (T.vals r)[j]?
  | [], k, j, r, h, _ => by simp at h
  | x :: xs, 0, j, r, h, hj => by
    simp only [List.getElem?_cons_zero, Option.some.injEq] at h
    subst h
    rw [flat_cons, Nat.zero_mul, Nat.zero_add, List.getElem?_append_left (by rw [T.len]; exact hj)]
  | x :: xs, k + 1, j, r, h, hj => by
    rw [List.getElem?_cons_succ] at h
    have e0 : (k + 1) * T.n = k * T.n + T.n := Nat.succ_mul k T.n
    rw [flat_cons, List.getElem?_append_right (by rw [T.len, e0]; omega), T.len]
    have e : (k + 1) * T.n + j - T.n = k * T.n + j := by rw [e0]; omega
    rw [e]
    exact flat_at xs k j r h hj
theorem flat_set : ∀ (ys : List α) (k j : Nat) (r r' : α) (v : Value), ys[k]? = some r → j < T.n → T.vals r' = (T.vals r).set j v → (flat T ys).set (k * T.n + j) v = flat T (ys.set k r')
  | [], k, j, r, r', v, h, _, _ => by simp at h
  | x :: ys, 0, j, r, r', v, h, hj, hv => by
    simp only [List.getElem?_cons_zero, Option.some.injEq] at h
    subst h
    show (T.vals x ++ flat T ys).set (0 * T.n + j) v = T.vals r' ++ flat T ys
    rw [Nat.zero_mul, Nat.zero_add, List.set_append_left _ _ (by rw [T.len]; exact hj), hv]
  | x :: ys, k + 1, j, r, r', v, h, hj, hv => by
    rw [List.getElem?_cons_succ] at h
    show (T.vals x ++ flat T ys).set ((k + 1) * T.n + j) v = T.vals x ++ flat T (ys.set k r')
    have e0 : (k + 1) * T.n = k * T.n + T.n := Nat.succ_mul k T.n
    rw [List.set_append_right _ _ (by rw [T.len, e0]; omega), T.len]
    have e : (k + 1) * T.n + j - T.n = k * T.n + j := by rw [e0]; omega
    rw [e, flat_set ys k j r r' v h hj hv]
/-- the cells of a record at a place -/
def At (w : World) (b p : Nat) (r : α) : Prop := ∀ j v, (T.vals r)[j]? = some v → w.cell? ⟨b, p + j, none⟩ = some v
theorem At.keep {w w' : World} {b p : Nat} {r : α} (h : At T w b p r) (hk : ∀ o, w'.cell? ⟨b, o, none⟩ = w.cell? ⟨b, o, none⟩) : At T w' b p r := fun j v hv => by rw [hk]; exact h j v hv
theorem At.below {w w' : World} {b p B : Nat} {r : α} (h : At T w b p r) (hb : Below B w w') (hl : b < B) : At T w' b p r := h.keep T fun o => hb.cell (p := ⟨b, o, none⟩) hl
/-- a slice of records lies in memory -/
def RowsAt (w : World) (a : Option Addr) (c : Nat) (xs : List α) : Prop :=
  xs.length ≤ c ∧ c ≤ maxLen ∧ (xs = [] ∨ ∃ b o, a = some ⟨b, o, none⟩ ∧ b < w.heap.size ∧ ∀ j r, xs[j]? = some r → At T w b (o + j * T.n) r)
theorem RowsAt.below {w w' : World} {a : Option Addr} {c : Nat} {xs : List α} (h : RowsAt T w a c xs) (hb : Below w.heap.size w w') : RowsAt T w' a c xs := by
  obtain ⟨h1, h2, h3⟩ := h
  refine ⟨h1, h2, ?_⟩
  rcases h3 with h3 | ⟨b, o, rfl, hlt, hc⟩
  · exact .inl h3
  · exact .inr ⟨b, o, rfl, Nat.lt_of_lt_of_le hlt hb.size, fun j r hr => (hc j r hr).below T hb hlt⟩
/-- the record at a place: where it lies -/
theorem RowsAt.at_ {w : World} {a : Option Addr} {c : Nat} {xs : List α} (h : RowsAt T w a c xs) : Hid (∀ j r, xs[j]? = some r → ∃ b o, a = some ⟨b, o, none⟩ ∧ b < w.heap.size ∧ At T w b (o + j * T.n) r) := by
  obtain ⟨_, _, h3⟩ := h
  intro j r hr
  rcases h3 with rfl | ⟨b, o, rfl, hl, hc⟩
  · simp at hr
  · exact ⟨b, o, rfl, hl, hc j r hr⟩
/-- a slice value that reads as these records -/
def Is (w : World) (v : Value) (xs : List α) : Prop := ∃ a c, v = .slice a xs.length c ∧ RowsAt T w a c xs
theorem Is.below {w w' : World} {v : Value} {xs : List α} (h : Is T w v xs) (hb : Below w.heap.size w w') : Is T w' v xs := by
  obtain ⟨a, c, e, h⟩ := h
  exact ⟨a, c, e, h.below T hb⟩
/-- a slice value, not nil, that reads as these records -/
def IsS (w : World) (v : Value) (xs : List α) : Prop := ∃ b o c, v = .slice (some ⟨b, o, none⟩) xs.length c ∧ b < w.heap.size ∧ xs.length ≤ c ∧ c ≤ maxLen ∧ ∀ j r, xs[j]? = some r → At T w b (o + j * T.n) r
theorem IsS.is {w : World} {v : Value} {xs : List α} (h : IsS T w v xs) : Is T w v xs := by
  obtain ⟨b, o, c, e, hb, h1, h2, h3⟩ := h
  exact ⟨_, c, e, h1, h2, .inr ⟨b, o, rfl, hb, h3⟩⟩
/-- all cells of a slice, one by one -/
theorem flat_cells {w : World} {b o : Nat} {xs : List α} (h : ∀ j r, xs[j]? = some r → At T w b (o + j * T.n) r) : ∀ j u, (flat T xs)[j]? = some u → w.cell? ⟨b, o + j, none⟩ = some u := by
  intro j u hu
  have hj : j < xs.length * T.n := by rw [← flat_len]; exact (List.getElem?_eq_some_iff.1 hu).1
  have hp := T.pos
  have hx : j / T.n < xs.length := (Nat.div_lt_iff_lt_mul hp).2 hj
  have hr := List.getElem?_eq_getElem hx
  have hm : j % T.n < T.n := Nat.mod_lt _ hp
  have hf := flat_at T xs (j / T.n) (j % T.n) _ hr hm
  have e : j / T.n * T.n + j % T.n = j := Nat.div_add_mod' j T.n
  rw [e, hu] at hf
  have := h _ _ hr (j % T.n) u hf.symm
  rwa [show o + j / T.n * T.n + j % T.n = o + j by rw [Nat.add_assoc, e]] at this
/-- a slice value of the call's own, its block at A or above, that holds these records -/
def Own (E : TypeId) (w : World) (A : Nat) (v : Value) (xs : List α) : Prop := w.ownsRow A E T.n v xs.length (flat T xs)
variable {T} {E : TypeId} {w w' : World} {A B : Nat} {v : Value} {xs : List α}
theorem Own.shape (h : Own T E w A v xs) : (v = .slice none 0 0 ∧ xs = []) ∨ ∃ g cap, v = .slice (some ⟨g, 0, none⟩) xs.length cap ∧ A ≤ g ∧ g < w.heap.size ∧ xs.length ≤ cap ∧ cap ≤ maxLen := by
  rcases h.2 with ⟨h', hz⟩ | ⟨g, cap, cur, h', hbg, hg, hnc, hcm, _, _⟩
  · exact .inl ⟨h', List.eq_nil_of_length_eq_zero hz⟩
  · exact .inr ⟨g, cap, h', hbg, (Array.getElem?_eq_some_iff.1 hg).1, hnc, hcm⟩
theorem Own.same (h : Own T E w A v xs) (hs : ∀ k, v.ownBlock = some k → w'.heap[k]? = w.heap[k]?) : Own T E w' A v xs := by
  refine ⟨h.1, ?_⟩
  rcases h.2 with hn | ⟨g, cap, cur, rfl, hbg, hgg, rest⟩
  · exact .inl hn
  · refine .inr ⟨g, cap, cur, rfl, hbg, ?_, rest⟩
    rw [hs g rfl]
    exact hgg
theorem Own.kept (h : Own T E w A v xs) (hb : Below w.heap.size w w') : Own T E w' A v xs := h.same fun k hk => hb.block k (h.lt k hk).2
theorem Own.low {A' : Nat} (h : Own T E w A v xs) (hA : A' ≤ A) : Own T E w A' v xs := by
  refine ⟨h.1, ?_⟩
  rcases h.2 with hn | ⟨g, cap, cur, rfl, hbg, rest⟩
  · exact .inl hn
  · exact .inr ⟨g, cap, cur, rfl, Nat.le_trans hA hbg, rest⟩
theorem Own.alloc (h : Own T E w A v xs) (o : Obj) : Own T E (w.alloc o) A v xs := h.kept ((Below.refl _ _).alloc (Nat.le_refl _) o)
/-- an empty slice that was just built -/
theorem Own.start (h : A ≤ w.heap.size) : Own T E (w.alloc (.cells #[] E)) A (.slice (some ⟨w.heap.size, 0, none⟩) 0 0) [] := by
  refine ⟨by simp [flat], .inr ⟨w.heap.size, 0, #[], rfl, h, ?_, Nat.le_refl _, Nat.zero_le _, by simp, by simp [flat]⟩⟩
  show (w.heap.push _)[w.heap.size]? = _
  rw [Array.getElem?_push, if_pos rfl]
theorem Own.nil : Own T E w A (.slice none 0 0) [] := ⟨by simp [flat], .inl ⟨rfl, rfl⟩⟩
theorem Own.is (h : Own T E w A v xs) : Is T w v xs := by
  rcases h.shape with ⟨rfl, rfl⟩ | ⟨g, cap, rfl, _, hlt, hc, hm⟩
  · exact ⟨none, 0, rfl, Nat.le_refl _, Nat.zero_le _, .inl rfl⟩
  · refine ⟨_, cap, rfl, hc, hm, .inr ⟨g, 0, rfl, hlt, fun j r hr i u hu => ?_⟩⟩
    have hi : i < T.n := by rw [← T.len r]; exact (List.getElem?_eq_some_iff.1 hu).1
    have hcell := World.ownsRow.cells h (g := g) rfl (j * T.n + i) u (by rw [flat_at T xs j i r hr hi]; exact hu)
    rw [Go.WideShapes.add_plain] at hcell
    rw [show 0 + j * T.n + i = 0 + (j * T.n + i) by omega]
    exact hcell
theorem Own.isS (h : Own T E w A v xs) (hv : ∃ g, v.ownBlock = some g) : IsS T w v xs := by
  obtain ⟨g0, hg0⟩ := hv
  rcases h.shape with ⟨rfl, rfl⟩ | ⟨g, cap, rfl, _, hlt, hc, hm⟩
  · cases hg0
  · refine ⟨g, 0, cap, rfl, hlt, hc, hm, fun j r hr i u hu => ?_⟩
    have hi : i < T.n := by rw [← T.len r]; exact (List.getElem?_eq_some_iff.1 hu).1
    have hcell := World.ownsRow.cells h (g := g) rfl (j * T.n + i) u (by rw [flat_at T xs j i r hr hi]; exact hu)
    rw [Go.WideShapes.add_plain] at hcell
    rw [show 0 + j * T.n + i = 0 + (j * T.n + i) by omega]
    exact hcell
theorem Own.rows {g n cap : Nat} (hn : xs.length = n) (h : Own T E w A (.slice (some ⟨g, 0, none⟩) n cap) xs) : RowsAt T w (some ⟨g, 0, none⟩) cap xs := by
  obtain ⟨a, c, e, hr⟩ := h.is
  simp only [Value.slice.injEq] at e
  obtain ⟨rfl, _, rfl⟩ := e
  exact hr
/-- the cells of a record of the row -/
theorem Own.at_ {g n cap : Nat} (h : Own T E w A (.slice (some ⟨g, 0, none⟩) n cap) xs) (k : Nat) (r : α) (hr : xs[k]? = some r) : At T w g (k * T.n) r := fun i u hu => by
  have hi : i < T.n := by rw [← T.len r]; exact (List.getElem?_eq_some_iff.1 hu).1
  have hcell := World.ownsRow.cells h (g := g) rfl (k * T.n + i) u (by rw [flat_at T xs k i r hr hi]; exact hu)
  rw [Go.WideShapes.add_plain] at hcell
  rw [show k * T.n + i = 0 + (k * T.n + i) by omega]
  exact hcell
theorem Own.frozen {g n cap : Nat} (hn : xs.length = n) (h : Own T E w A (.slice (some ⟨g, 0, none⟩) n cap) xs) (o : Nat) : w.frozen? ⟨g, o, none⟩ = false := by
  subst hn
  exact World.ownsRow.frozenAt h o
/-- a store into one cell -/
theorem Own.put {g n cap : Nat} (hn : xs.length = n) (h : Own T E w A (.slice (some ⟨g, 0, none⟩) n cap) xs) (k j : Nat) (r r' : α) (u : Value) (hr : xs[k]? = some r) (hj : j < T.n) (hv : T.vals r' = (T.vals r).set j u) :
    Own T E (w.setCell ⟨g, k * T.n + j, none⟩ u) A (.slice (some ⟨g, 0, none⟩) n cap) (xs.set k r') := by
  subst hn
  unfold Own
  rw [← flat_set T xs k j r r' u hr hj hv, List.length_set]
  exact (World.ownsRow.stored h (k * T.n + j) u).1
/-- made by an append of one record that lies somewhere -/
theorem Own.next {n : Nat} {news : List α} (h : w.ownsRow A E T.n v (xs.length + news.length) (flat T xs ++ flat T news)) : Own T E w A v (xs ++ news) := by
  unfold Own
  rw [List.length_append, flat_append]
  exact h
/-- an owned value whose block lies between A and B -/
def OwnB (T : Rec α) (E : TypeId) (A B : Nat) (v : Value) (xs : List α) (w : World) : Prop := Own T E w A v xs ∧ ∀ k, v.ownBlock = some k → k < B
theorem Own.loc (h : Own T E w A v xs) : Loc A w.heap.size (OwnB T E A w.heap.size v xs) w :=
  ⟨Nat.le_refl _, fun w' hz hs => ⟨h.same fun k hk => hs k (h.lt k hk).1 (h.lt k hk).2, fun k hk => (h.lt k hk).2⟩⟩
theorem OwnB.loc (h : OwnB T E A B v xs w) (hB : B ≤ w.heap.size) : Loc A B (OwnB T E A B v xs) w :=
  ⟨hB, fun w' hz hs => ⟨h.1.same fun k hk => hs k (h.1.lt k hk).1 (h.2 k hk), h.2⟩⟩
/-- what came in -/
theorem Is.loc (h : Is T w v xs) : Loc 0 w.heap.size (fun W => Is T W v xs) w := by
  refine ⟨Nat.le_refl _, fun w' hz hs => ?_⟩
  obtain ⟨a, c, e, h1, h2, h3⟩ := h
  refine ⟨a, c, e, h1, h2, ?_⟩
  rcases h3 with h3 | ⟨b, o, rfl, hlt, hc⟩
  · exact .inl h3
  · refine .inr ⟨b, o, rfl, Nat.lt_of_lt_of_le hlt hz, fun j r hr => (hc j r hr).keep T fun p => ?_⟩
    exact World.cell?_of_block (a := ⟨b, p, none⟩) (hs b (Nat.zero_le _) hlt)
end
theorem boxLoc {α : Type} (T : Rec α) {w : World} {o : Obj} {r : α} (h : At T (w.alloc o) w.heap.size 0 r) : Loc w.heap.size (w.heap.size + 1) (fun W => At T W w.heap.size 0 r) (w.alloc o) :=
  ⟨by simp, fun w' hz hs => h.keep T fun p => World.cell?_of_block (a := ⟨w.heap.size, p, none⟩) (hs _ (Nat.le_refl _) (Nat.lt_succ_self _))⟩
/-- an append to a slice of the call's own, as a step of a region that draws its order -/
theorem step_append {P : Program} {w : World} {ops : Array Oper} {o : Oper} {a : Act} {K : Act → World → Prop} {Q : Exit → Act → World → Prop} {E : Prop} (hgd : o.guard = none) (s x : Operand) (t : TypeId)
    (ho : o.op = .call { callee := .builtin .append, args := #[s, x], argTypes := #[t, t] })
    (base : Nat) (e : TypeId) (i : TypeInfo) (z : Value) (size bytes : Nat) (ht : P.underlying t = some (.slice e)) (hi : P.info? e = some i) (hz : i.zero = some z)
    (hsize : i.size = size) (hby : i.bytes = bytes) (hzs : z.cells.size = size) (hsz : 0 < size)
    (v : Value) (n : Nat) (xs : List Value) (hs : a.eval s = v) (hown : w.ownsRow base e size v n xs)
    (ad : Addr) (m c : Nat) (news : List Value) (hx : a.eval x = .slice (some ad) m c) (hl : news.length = m * size) (hnews : ∀ j u, news[j]? = some u → w.cell? (ad.add j) = some u) (h1 : ∀ u ∈ news, u.oneCell' = true)
    (h63 : n + m ≤ maxLen) (hbytes : (n + m) * bytes ≤ 140737488355328) (hbase : base ≤ w.heap.size)
    (h : ∀ v' w', w'.ownsRow base e size v' (n + m) (xs ++ news) → w.grownBy w' v.ownBlock → K (a.put o.dst v') w') :
    if Region.wanted o (yielded ops a.tmps) = true then Oper.wp P o a w K Q else E := by
  have hw : Region.wanted o (yielded ops a.tmps) = true := by simp [Region.wanted, hgd]
  rw [if_pos hw]
  exact wp_append_own w s x t ho base e i z size bytes ht hi hz hsize hby hzs hsz v n xs hs hown ad m c news hx hl hnews h1 h63 hbytes hbase fun v' w' h2 h3 _ => h v' w' h2 h3
theorem ret_true : Ending.returned (.bool true) = .returned (.bool true) := rfl
/-- a callee that leaves the world alone, met in a quiet region -/
theorem quiet_eq {P : Program} {f : FuncId} {args : Array Value} {w : World} {n : Nat} {v : Value}
    (h : Calls P f args (w.drewN n) fun e w' => e = .returned v ∧ w.drewN n = w') : Calls P f args (w.drewN n) fun e w'' => e = .returned v ∧ ∃ m, w'' = w.drewN m :=
  h.mono fun _ _ ⟨he, hm⟩ => ⟨he, n, hm.symm⟩
/-- the same in a region where memory may be made -/
theorem regrown_eq {P : Program} {f : FuncId} {args : Array Value} {w : World} {d : Nat} {os : Array Obj} {v : Value}
    (h : Calls P f args (Sort.grow (redrawn w d) os) fun e w' => e = .returned v ∧ Sort.grow (redrawn w d) os = w') : Calls P f args (Sort.grow (redrawn w d) os) fun e w'' => e = .returned v ∧ ∃ p : Regrown, w'' = Sort.grow (redrawn w p.d) p.os :=
  Calls.regrown_of (h.mono fun _ _ ⟨he, hm⟩ => ⟨he, by rw [← hm]; exact Below.refl _ _⟩)
theorem drawn_below (w : World) (n : Nat) : Below w.heap.size w (w.drewN n) := ⟨rfl, rfl, rfl, Nat.le_refl _, fun _ _ => rfl⟩
/-- the head of a slice, and its rest -/
theorem IsS.take {α : Type} (T : Rec α) {w : World} {b o n c k : Nat} {z : List α} (h : IsS T w (.slice (some ⟨b, o, none⟩) n c) z) (hk : k ≤ n) : IsS T w (.slice (some ⟨b, o, none⟩) k c) (z.take k) := by
  obtain ⟨b', o', c', e, hbl, h1, h2, h3⟩ := h
  simp only [Value.slice.injEq, Option.some.injEq, Addr.mk.injEq, and_true] at e
  obtain ⟨⟨rfl, rfl⟩, rfl, rfl⟩ := e
  refine ⟨b, o, c, by rw [List.length_take, Nat.min_eq_left hk], hbl, by rw [List.length_take, Nat.min_eq_left hk]; omega, h2, fun i r hr => h3 i r ?_⟩
  rw [List.getElem?_take] at hr
  split at hr
  · exact hr
  · cases hr
theorem IsS.drop {α : Type} (T : Rec α) {w : World} {b o n c k : Nat} {z : List α} (t : Option Addr) (ht : t = if c = k then some ⟨b, o, none⟩ else some ⟨b, o + k * T.n, none⟩) (h : IsS T w (.slice (some ⟨b, o, none⟩) n c) z) (hk : k ≤ n) (m3 c3 : Nat) (hm3 : m3 = n - k) (hc3 : c3 = c - k) : IsS T w (.slice t m3 c3) (z.drop k) := by
  subst hm3 hc3
  obtain ⟨b', o', c', e, hbl, h1, h2, h3⟩ := h
  simp only [Value.slice.injEq, Option.some.injEq, Addr.mk.injEq, and_true] at e
  obtain ⟨⟨rfl, rfl⟩, rfl, rfl⟩ := e
  by_cases hck : c = k
  · rw [if_pos hck] at ht
    subst ht
    refine ⟨b, o, c - k, by rw [List.length_drop], hbl, by rw [List.length_drop]; omega, by unfold maxLen at h2 ⊢; omega, fun i r hr => ?_⟩
    rw [List.drop_eq_nil_of_le (by omega)] at hr
    simp at hr
  · rw [if_neg hck] at ht
    subst ht
    refine ⟨b, o + k * T.n, c - k, by rw [List.length_drop], hbl, by rw [List.length_drop]; omega, by unfold maxLen at h2 ⊢; omega, fun i r hr => ?_⟩
    have h := h3 (k + i) r (by rw [List.getElem?_drop] at hr; exact hr)
    rwa [Nat.add_mul, ← Nat.add_assoc] at h
theorem IsS.below {α : Type} (T : Rec α) {w w' : World} {v : Value} {z : List α} (h : IsS T w v z) (hb : Below w.heap.size w w') : IsS T w' v z := by
  obtain ⟨b, o, c, e, hbl, h1, h2, h3⟩ := h
  exact ⟨b, o, c, e, Nat.lt_of_lt_of_le hbl hb.size, h1, h2, fun j r hr => (h3 j r hr).below T hb hbl⟩
/-- a slice of one record that lies at a block's head -/
theorem IsS.unit {α : Type} (T : Rec α) {w : World} {g : Nat} {x : α} (hg : g < w.heap.size) (h : At T w g 0 x) : IsS T w (.slice (some ⟨g, 0, none⟩) 1 1) [x] := by
  refine ⟨g, 0, 1, rfl, hg, Nat.le_refl _, by unfold maxLen; omega, fun i r hr => ?_⟩
  match i, hr with
  | 0, hr =>
    simp only [List.getElem?_cons_zero, Option.some.injEq] at hr
    subst hr
    rw [Nat.zero_mul]
    exact h
  | i + 1, hr => simp at hr
theorem alloc_two (W : World) (o1 o2 : Obj) : ((W.alloc o1).alloc o2).heap[W.heap.size + 1]? = some o2 := by simpa using heap_alloc_new (W.alloc o1) o2
theorem alloc_old (W : World) (o1 o2 : Obj) : ((W.alloc o1).alloc o2).heap[W.heap.size]? = some o1 := (Below.heap_alloc _ _ _ (by simp)).trans (heap_alloc_new _ _)
theorem ite_slice (c : Prop) [Decidable c] (x y : Addr) (n m : Nat) : Value.slice (if c then some x else some y) n m = .slice (some (if c then x else y)) n m := by split <;> rfl
theorem own_in {w : World} {A : Nat} {e : TypeId} {size n : Nat} {v : Value} {xs : List Value} (h : w.ownsRow A e size v (0 + n) ([] ++ xs)) : w.ownsRow A e size v n xs := by
  rwa [Nat.zero_add, List.nil_append] at h
theorem own_ge {B g n c k : Nat} (hj : (Value.slice (some ⟨g, 0, none⟩) n c).ownBlock = some k) (h : B ≤ g) : B ≤ k := by
  simp only [Value.ownBlock, Option.some.injEq] at hj
  omega
theorem IsS.flatCells {α : Type} (T : Rec α) {w : World} {b o n c : Nat} {z : List α} (h : IsS T w (.slice (some ⟨b, o, none⟩) n c) z) : ∀ j u, (flat T z)[j]? = some u → w.cell? (Addr.add ⟨b, o, none⟩ j) = some u := fun j u hu => by
  obtain ⟨b', o', c', e, hbl, h1, h2, h3⟩ := h
  simp only [Value.slice.injEq, Option.some.injEq, Addr.mk.injEq, and_true] at e
  obtain ⟨⟨rfl, rfl⟩, rfl, rfl⟩ := e
  rw [Go.WideShapes.add_plain]
  exact flat_cells T h3 j u hu
theorem own_of {α : Type} (T : Rec α) {E : TypeId} {w : World} {A cnt : Nat} {v : Value} {cells : List Value} {xs : List α} (h : w.ownsRow A E T.n v cnt cells) (hc : xs.length = cnt) (hf : flat T xs = cells) : Own T E w A v xs := by
  unfold Own; rw [hc, hf]; exact h
end Go.Proofs.Ytbaflfbidgolfaa.Bs
namespace Go.Proofs.Ytbaflfbidgolfaa.LQuestion
open Go.RowKit Bs
set_option linter.unusedVariables false

structure R where
  rule : Int
  mover : Int
  sec : Bool
def vals (r : R) : List Value := [.int .i64 r.rule, .int .i64 r.mover, .bool r.sec]
/-- the struct as a type of records -/
def rec : Rec R := ⟨3, vals, fun _ => rfl, by decide, fun r u hu => by
  simp only [vals, List.mem_cons, List.not_mem_nil, or_false] at hu
  rcases hu with rfl | rfl | rfl <;> rfl⟩
theorem rec_n : rec.n = 3 := rfl
theorem info : (Try.prog.info? 47).map (fun i => (i.zero, i.size)) = some (some (.agg #[.int .i64 0, .int .i64 0, .bool false]), 3) := by kernel_rfl
theorem cells {w : World} {b p : Nat} {r : R} (h : At rec w b p r) : w.cell? ⟨b, p, none⟩ = some (.int .i64 r.rule) ∧ w.cell? ⟨b, p + 1, none⟩ = some (.int .i64 r.mover) ∧ w.cell? ⟨b, p + 2, none⟩ = some (.bool r.sec) :=
  ⟨h 0 _ rfl, h 1 _ rfl, h 2 _ rfl⟩
theorem cells0 {w : World} {b : Nat} {r : R} (h : At rec w b 0 r) : w.cell? ⟨b, 0, none⟩ = some (.int .i64 r.rule) ∧ w.cell? ⟨b, 1, none⟩ = some (.int .i64 r.mover) ∧ w.cell? ⟨b, 2, none⟩ = some (.bool r.sec) := by
  have := cells h
  simpa only [Nat.zero_add] using this
theorem at_of {w : World} {b p : Nat} {r : R} (h0 : w.cell? ⟨b, p, none⟩ = some (.int .i64 r.rule)) (h1 : w.cell? ⟨b, p + 1, none⟩ = some (.int .i64 r.mover)) (h2 : w.cell? ⟨b, p + 2, none⟩ = some (.bool r.sec)) : At rec w b p r := fun j v hv => by
  have hj : j < 3 := (List.getElem?_eq_some_iff.1 hv).1
  match j, hj with
  | 0, _ => rw [← hv]; exact h0
  | 1, _ => rw [← hv]; exact h1
  | 2, _ => rw [← hv]; exact h2
/-- a record that was boxed -/
theorem box (w : World) (r : R) (t : TypeId) : At rec (w.alloc (.cells #[.int .i64 r.rule, .int .i64 r.mover, .bool r.sec] t)) w.heap.size 0 r := at_of (by simp [go_sem]) (by simp [go_sem]) (by simp [go_sem])
/-- facts of a record in all worlds that only grew -/
theorem grown {w : World} {b p : Nat} {r : R} (h : At rec w b p r) (hl : b < w.heap.size) : Hid (∀ d os, At rec (Sort.grow (redrawn w d) os) b p r) := fun d os => h.below rec (below_regrown w d os) hl
def zero : R := ⟨0, 0, false⟩
theorem made_zero (n : Nat) : (madeCells (#[.int .i64 0, .int .i64 0, .bool false] : Array Value) (n * 3)).toList = flat rec (List.replicate n zero) := by
  apply List.ext_getElem?
  intro i
  rw [madeCells]
  by_cases hi : i < n * 3
  · have h1 := flat_at rec (List.replicate n zero) (i / 3) (i % 3) zero (by rw [List.getElem?_replicate, if_pos (by omega)]) (by rw [rec_n]; omega)
    have e : i / 3 * 3 + i % 3 = i := by omega
    rw [rec_n, e] at h1
    rw [h1]
    have hs : (#[.int .i64 0, .int .i64 0, .bool false] : Array Value).size = 3 := rfl
    simp only [hs, Array.toList_map, List.getElem?_map, Array.toList_range, List.getElem?_range hi, Option.map_some]
    have h7 : i % 3 < 3 := by omega
    generalize i % 3 = m at *
    match m, h7 with
    | 0, _ => rfl
    | 1, _ => rfl
    | 2, _ => rfl
  · rw [List.getElem?_eq_none (by simp; omega), List.getElem?_eq_none (by rw [flat_len, List.length_replicate, rec_n]; omega)]
/-- what a copy holds after k stores -/
def part (xs : List R) (n k : Nat) : List R := xs.take k ++ List.replicate (n - k) zero
theorem part_len (xs : List R) (n k : Nat) (h : xs.length = n) (hk : k ≤ n) : (part xs n k).length = n := by simp [part]; omega
theorem part_zero (xs : List R) (n : Nat) : part xs n 0 = List.replicate n zero := by simp [part]
theorem part_all (xs : List R) (n : Nat) (h : xs.length = n) : part xs n n = xs := by
  unfold part; rw [List.take_of_length_le (by omega), Nat.sub_self]; simp
theorem part_set (xs : List R) (n k : Nat) (h : xs.length = n) (hk : k < xs.length) : (part xs n k).set k xs[k] = part xs n (k + 1) := by
  unfold part
  have hl : (xs.take k).length = k := by rw [List.length_take]; omega
  rw [List.set_append_right _ _ (by omega), hl, Nat.sub_self]
  have e : n - k = (n - (k + 1)) + 1 := by omega
  rw [e, List.replicate_succ, List.set_cons_zero, List.take_succ_eq_append_getElem hk, List.append_assoc]
  rfl
theorem part_at (xs : List R) (n k : Nat) (h : xs.length = n) (hk : k < n) : (part xs n k)[k]? = some zero := by
  unfold part
  have hl : (xs.take k).length = k := by rw [List.length_take]; omega
  rw [List.getElem?_append_right (by omega), hl, Nat.sub_self, List.getElem?_replicate, if_pos (by omega)]
abbrev OwnR (w : World) (A g n cap : Nat) (ys : List R) : Prop := Own rec 47 w A (.slice (some ⟨g, 0, none⟩) n cap) ys
/-- a store of some fields, one after the other -/
theorem putAll {w : World} {A g n cap : Nat} {ys : List R} (hn : ys.length = n) (h : OwnR w A g n cap ys) (k : Nat) (r0 r : R) (hr : ys[k]? = some r0) :
    OwnR (((w.setCell ⟨g, k * 3, none⟩ (.int .i64 r.rule)).setCell ⟨g, k * 3 + 1, none⟩ (.int .i64 r.mover)).setCell ⟨g, k * 3 + 2, none⟩ (.bool r.sec)) A g n cap (ys.set k r) := by
  have hk : k < ys.length := (List.getElem?_eq_some_iff.1 hr).1
  have at_ : ∀ x : R, (ys.set k x)[k]? = some x := fun x => by simp [hk]
  have hl : ∀ x : R, (ys.set k x).length = n := fun x => by rw [List.length_set]; exact hn
  have h0 := Own.put hn h k 0 r0 ({ r0 with rule := r.rule }) (.int .i64 r.rule) hr (by decide) rfl
  have h1 := Own.put (hl _) h0 k 1 _ ({ r0 with rule := r.rule, mover := r.mover }) (.int .i64 r.mover) (at_ _) (by decide) rfl
  rw [List.set_set] at h1
  have h2 := Own.put (hl _) h1 k 2 _ (r) (.bool r.sec) (at_ _) (by decide) rfl
  rw [List.set_set] at h2
  exact h2
end Go.Proofs.Ytbaflfbidgolfaa.LQuestion
namespace Go.Proofs.Ytbaflfbidgolfaa.LString
open Go.RowKit Bs
set_option linter.unusedVariables false
abbrev R := ByteArray
def vals (r : R) : List Value := [.string r]
/-- one value as a type of records -/
def rec : Rec R := ⟨1, vals, fun _ => rfl, by decide, fun r u hu => by
  simp only [vals, List.mem_cons, List.not_mem_nil, or_false] at hu
  rcases hu with rfl
  rfl⟩
theorem rec_n : rec.n = 1 := rfl
theorem info : (Try.prog.info? 9).map (fun i => (i.zero, i.size)) = some (some (.string ⟨#[]⟩), 1) := by kernel_rfl
theorem cells {w : World} {b p : Nat} {r : R} (h : At rec w b p r) : w.cell? ⟨b, p, none⟩ = some (.string r) := h 0 _ rfl
theorem at_of {w : World} {b p : Nat} {r : R} (h0 : w.cell? ⟨b, p, none⟩ = some (.string r)) : At rec w b p r := fun j v hv => by
  have hj : j < 1 := (List.getElem?_eq_some_iff.1 hv).1
  obtain rfl : j = 0 := by omega
  rw [← hv]; exact h0
/-- facts of a value in all worlds that only grew -/
theorem grown {w : World} {b p : Nat} {r : R} (h : At rec w b p r) (hl : b < w.heap.size) : Hid (∀ d os, At rec (Sort.grow (redrawn w d) os) b p r) := fun d os => h.below rec (below_regrown w d os) hl
theorem flat_eq (xs : List R) : flat rec xs = xs.map (fun r => .string r) := by
  induction xs with
  | nil => rfl
  | cons x xs ih => rw [flat_cons, ih]; rfl
def zero : R := ⟨#[]⟩
theorem made_zero (n : Nat) : (madeCells (#[.string ⟨#[]⟩] : Array Value) n).toList = flat rec (List.replicate n zero) := by
  apply List.ext_getElem?
  intro i
  rw [madeCells, flat_eq]
  by_cases hi : i < n
  · simp only [Array.toList_map, List.getElem?_map, Array.toList_range, List.getElem?_range hi, Option.map_some, List.getElem?_replicate, if_pos hi]
    have h1 : i % (#[.string ⟨#[]⟩] : Array Value).size = 0 := Nat.mod_one i
    rw [h1]
    rfl
  · rw [List.getElem?_eq_none (by simp; omega), List.getElem?_eq_none (by simp; omega)]
/-- what a copy holds after k stores -/
def part (xs : List R) (n k : Nat) : List R := xs.take k ++ List.replicate (n - k) zero
theorem part_len (xs : List R) (n k : Nat) (h : xs.length = n) (hk : k ≤ n) : (part xs n k).length = n := by simp [part]; omega
theorem part_zero (xs : List R) (n : Nat) : part xs n 0 = List.replicate n zero := by simp [part]
theorem part_all (xs : List R) (n : Nat) (h : xs.length = n) : part xs n n = xs := by
  unfold part; rw [List.take_of_length_le (by omega), Nat.sub_self]; simp
theorem part_set (xs : List R) (n k : Nat) (h : xs.length = n) (hk : k < xs.length) : (part xs n k).set k xs[k] = part xs n (k + 1) := by
  unfold part
  have hl : (xs.take k).length = k := by rw [List.length_take]; omega
  rw [List.set_append_right _ _ (by omega), hl, Nat.sub_self]
  have e : n - k = (n - (k + 1)) + 1 := by omega
  rw [e, List.replicate_succ, List.set_cons_zero, List.take_succ_eq_append_getElem hk, List.append_assoc]
  rfl
theorem part_at (xs : List R) (n k : Nat) (h : xs.length = n) (hk : k < n) : (part xs n k)[k]? = some zero := by
  unfold part
  have hl : (xs.take k).length = k := by rw [List.length_take]; omega
  rw [List.getElem?_append_right (by omega), hl, Nat.sub_self, List.getElem?_replicate, if_pos (by omega)]
abbrev OwnR (w : World) (A g n cap : Nat) (ys : List R) : Prop := Own rec 9 w A (.slice (some ⟨g, 0, none⟩) n cap) ys
/-- a store of one value -/
theorem putAll {w : World} {A g n cap : Nat} {ys : List R} (hn : ys.length = n) (h : OwnR w A g n cap ys) (k : Nat) (r0 r : R) (hr : ys[k]? = some r0) :
    OwnR (w.setCell ⟨g, k, none⟩ (.string r)) A g n cap (ys.set k r) := by
  have h0 := Own.put hn h k 0 r0 r (.string r) hr (by decide) rfl
  rw [rec_n, Nat.mul_one, Nat.add_zero] at h0
  exact h0
end Go.Proofs.Ytbaflfbidgolfaa.LString
namespace Go.Proofs.Ytbaflfbidgolfaa.Rule
open Go.RowKit
set_option linter.unusedVariables false

structure R where
  id : Int
  name : ByteArray
  rank : Int
  sec : Bool
  deb : Bool
  am : Bool
  need : Int
def R.vals (r : R) : List Value := [.int .i64 r.id, .string r.name, .int .i64 r.rank, .bool r.sec, .bool r.deb, .bool r.am, .int .i64 r.need]
/-- the cells of several rules, one behind the other -/
def flat (xs : List R) : List Value := xs.flatMap R.vals
theorem flat_len : ∀ xs : List R, (flat xs).length = xs.length * 7
  | [] => rfl
  | x :: xs => by
    show (x.vals ++ flat xs).length = _
    rw [List.length_append, flat_len xs, List.length_cons, Nat.add_mul, Nat.one_mul, Nat.add_comm]
    rfl
theorem flat_append (xs ys : List R) : flat (xs ++ ys) = flat xs ++ flat ys := by simp [flat]
theorem flat_at : ∀ (xs : List R) (k j : Nat) (r : R), xs[k]? = some r → j < 7 → (flat xs)[k * 7 + j]? = r.vals[j]?
  | [], k, j, r, h, _ => by simp at h
  | x :: xs, 0, j, r, h, hj => by
    simp only [List.getElem?_cons_zero, Option.some.injEq] at h
    subst h
    show (x.vals ++ flat xs)[0 * 7 + j]? = _
    rw [Nat.zero_mul, Nat.zero_add, List.getElem?_append_left (by simpa [R.vals] using hj)]
  | x :: xs, k + 1, j, r, h, hj => by
    rw [List.getElem?_cons_succ] at h
    show (x.vals ++ flat xs)[(k + 1) * 7 + j]? = _
    have hl : x.vals.length = 7 := rfl
    rw [List.getElem?_append_right (by rw [hl]; omega), hl]
    have e : (k + 1) * 7 + j - 7 = k * 7 + j := by omega
    rw [e]
    exact flat_at xs k j r h hj
theorem flat_take (xs : List R) (k : Nat) : flat (xs.take k) = (flat xs).take (k * 7) := by
  induction xs generalizing k with
  | nil => simp [flat]
  | cons x xs ih =>
    cases k with
    | zero => simp [flat]
    | succ k =>
      rw [List.take_succ_cons]
      show x.vals ++ flat (xs.take k) = (x.vals ++ flat xs).take _
      have hl : x.vals.length = 7 := rfl
      rw [ih, List.take_append, List.take_of_length_le (l := x.vals) (by rw [hl]; omega), hl]
      congr 2
      omega
/-- the seven cells of a rule -/
def At (w : World) (b p : Nat) (r : R) : Prop :=
  w.cell? ⟨b, p, none⟩ = some (.int .i64 r.id) ∧ w.cell? ⟨b, p + 1, none⟩ = some (.string r.name) ∧ w.cell? ⟨b, p + 2, none⟩ = some (.int .i64 r.rank) ∧
  w.cell? ⟨b, p + 3, none⟩ = some (.bool r.sec) ∧ w.cell? ⟨b, p + 4, none⟩ = some (.bool r.deb) ∧ w.cell? ⟨b, p + 5, none⟩ = some (.bool r.am) ∧ w.cell? ⟨b, p + 6, none⟩ = some (.int .i64 r.need)
theorem At.keep {w w' : World} {b p : Nat} {r : R} (h : At w b p r) (hk : ∀ o, w'.cell? ⟨b, o, none⟩ = w.cell? ⟨b, o, none⟩) : At w' b p r := by
  unfold At at h ⊢
  simp only [hk]
  exact h
theorem At.below {w w' : World} {b p B : Nat} {r : R} (h : At w b p r) (hb : Below B w w') (hl : b < B) : At w' b p r := h.keep fun o => hb.cell (p := ⟨b, o, none⟩) hl
theorem At.regrown {w : World} {b p : Nat} {r : R} (h : At w b p r) (hl : b < w.heap.size) (d : Nat) (os : Array Obj) : At (Sort.grow (redrawn w d) os) b p r := h.below (below_regrown w d os) hl
theorem At.of_cells {w : World} {b p : Nat} {r : R} (h : ∀ j v, r.vals[j]? = some v → w.cell? ⟨b, p + j, none⟩ = some v) : At w b p r :=
  ⟨h 0 _ rfl, h 1 _ rfl, h 2 _ rfl, h 3 _ rfl, h 4 _ rfl, h 5 _ rfl, h 6 _ rfl⟩
/-- the cells of a rule that lies at a block's head -/
theorem At.head {w : World} {b : Nat} {r : R} (h : At w b 0 r) : w.cell? ⟨b, 0, none⟩ = some (.int .i64 r.id) ∧ w.cell? ⟨b, 1, none⟩ = some (.string r.name) ∧ w.cell? ⟨b, 2, none⟩ = some (.int .i64 r.rank) ∧
  w.cell? ⟨b, 3, none⟩ = some (.bool r.sec) ∧ w.cell? ⟨b, 4, none⟩ = some (.bool r.deb) ∧ w.cell? ⟨b, 5, none⟩ = some (.bool r.am) ∧ w.cell? ⟨b, 6, none⟩ = some (.int .i64 r.need) := by
  unfold At at h
  simpa only [Nat.zero_add] using h
/-- a rule that was boxed -/
theorem At.box (w : World) (r : R) (t : TypeId) : At (w.alloc (.cells #[.int .i64 r.id, .string r.name, .int .i64 r.rank, .bool r.sec, .bool r.deb, .bool r.am, .int .i64 r.need] t)) w.heap.size 0 r := by
  unfold At
  simp [go_sem]
theorem cell_lt {w : World} {p : Addr} {v : Value} (h : w.cell? p = some v) : p.block < w.heap.size := by
  rcases Nat.lt_or_ge p.block w.heap.size with h' | h'
  · exact h'
  · simp [World.cell?, Array.getElem?_eq_none h'] at h

/-- A slice of rules lies in memory. -/
def RulesAt (w : World) (a : Option Addr) (c : Nat) (xs : List R) : Prop :=
  xs.length ≤ c ∧ c ≤ maxLen ∧ (xs = [] ∨ ∃ b o, a = some ⟨b, o, none⟩ ∧ b < w.heap.size ∧ ∀ j r, xs[j]? = some r → At w b (o + j * 7) r)
theorem RulesAt.below {w w' : World} {a : Option Addr} {c : Nat} {xs : List R} (h : RulesAt w a c xs) (hb : Below w.heap.size w w') : RulesAt w' a c xs := by
  obtain ⟨h1, h2, h3⟩ := h
  refine ⟨h1, h2, ?_⟩
  rcases h3 with h3 | ⟨b, o, rfl, hlt, hc⟩
  · exact .inl h3
  · exact .inr ⟨b, o, rfl, Nat.lt_of_lt_of_le hlt hb.size, fun j r hr => (hc j r hr).below hb hlt⟩
/-- the rule at a place: where it lies -/
theorem RulesAt.at_ {w : World} {a : Option Addr} {c : Nat} {xs : List R} (h : RulesAt w a c xs) : Hid (∀ j r, xs[j]? = some r → ∃ b o, a = some ⟨b, o, none⟩ ∧ b < w.heap.size ∧ At w b (o + j * 7) r) := by
  obtain ⟨_, _, h3⟩ := h
  intro j r hr
  rcases h3 with rfl | ⟨b, o, rfl, hl, hc⟩
  · simp at hr
  · exact ⟨b, o, rfl, hl, hc j r hr⟩
/-- A row of rules of the call's own is a slice of rules in memory. -/
theorem rules_of_owns {w : World} {base E n cap : Nat} {a : Option Addr} {xs : List R} (hn : xs.length = n) (h : w.ownsRow base E 7 (.slice a n cap) n (flat xs)) : RulesAt w a cap xs := by
  rcases h.2 with ⟨h', h0⟩ | ⟨g, cap', cur, h', _, hg, hnc, hcm, _, _⟩
  · simp only [Value.slice.injEq] at h'
    obtain ⟨rfl, rfl, rfl⟩ := h'
    exact ⟨by omega, Nat.zero_le _, .inl (List.eq_nil_of_length_eq_zero hn)⟩
  · simp only [Value.slice.injEq, true_and] at h'
    obtain ⟨rfl, rfl⟩ := h'
    refine ⟨by omega, hcm, .inr ⟨g, 0, rfl, (Array.getElem?_eq_some_iff.1 hg).1, fun j r hr => At.of_cells fun i v hv => ?_⟩⟩
    have hi : i < 7 := by
      rcases Nat.lt_or_ge i 7 with h7 | h7
      · exact h7
      · rw [List.getElem?_eq_none (by exact h7)] at hv; cases hv
    have hc := h.cells (g := g) rfl (j * 7 + i) v (by rw [flat_at xs j i r hr hi]; exact hv)
    rw [Go.WideShapes.add_plain] at hc
    rw [show 0 + j * 7 + i = 0 + (j * 7 + i) by omega]
    exact hc

/-- the letters a to z -/
def az (c : UInt8) : Bool := decide (97 ≤ c.toNat) && decide (c.toNat ≤ 122)
def allAz (l : List UInt8) : Bool := l.all az
def isWordB (s : ByteArray) : Bool := (decide (1 ≤ s.size) && decide (s.size ≤ 10)) && allAz s.data.toList
def OkR (r : R) : Prop := (1 ≤ r.id ∧ r.id ≤ 20) ∧ isWordB r.name = true ∧ (0 ≤ r.rank ∧ r.rank ≤ 9) ∧ (1 ≤ r.need ∧ r.need ≤ 3)
instance (r : R) : Decidable (OkR r) := by unfold OkR; infer_instance
def okB (r : R) : Bool := decide (OkR r)
theorem take_snoc (s : ByteArray) (k : Nat) (h : k < s.size) : s.data.toList.take (k + 1) = s.data.toList.take k ++ [s[k]] := by
  rw [List.take_succ_eq_append_getElem (by simpa using h)]; rfl
theorem az_next (s : ByteArray) (k : Nat) (h : k < s.size) (hp : allAz (s.data.toList.take k) = true) (hc : az s[k] = true) : allAz (s.data.toList.take (k + 1)) = true := by
  rw [take_snoc s k h]; unfold allAz at hp ⊢; rw [List.all_append, hp]; simp [hc]
theorem az_bad (s : ByteArray) (k : Nat) (h : k < s.size) (hc : az s[k] = false) : allAz s.data.toList = false := by
  unfold allAz
  rw [List.all_eq_false]
  exact ⟨s[k], Array.getElem_mem_toList _, by simp [hc]⟩
theorem az_all (s : ByteArray) (k : Nat) (h : s.size ≤ k) (hp : allAz (s.data.toList.take k) = true) : allAz s.data.toList = true := by
  rwa [List.take_of_length_le (by simpa using h)] at hp
theorem ret_bool {a b : Bool} (h : a = b) : Ending.returned (.bool a) = .returned (.bool b) := by rw [h]
theorem word_no {s : ByteArray} (h : allAz s.data.toList = false) : isWordB s = false := by unfold isWordB; rw [h, Bool.and_false]
theorem word_len {s : ByteArray} (h : ¬ (1 ≤ s.size ∧ s.size ≤ 10)) : isWordB s = false := by
  unfold isWordB
  have : (decide (1 ≤ s.size) && decide (s.size ≤ 10)) = false := by
    rw [← Bool.decide_and]; exact decide_eq_false h
  rw [this, Bool.false_and]
theorem word_yes {s : ByteArray} (h1 : 1 ≤ s.size) (h2 : s.size ≤ 10) (h : allAz s.data.toList = true) : isWordB s = true := by
  unfold isWordB; rw [h, Bool.and_true, ← Bool.decide_and]; exact decide_eq_true ⟨h1, h2⟩
end Go.Proofs.Ytbaflfbidgolfaa.Rule
namespace Go.Proofs.Ytbaflfbidgolfaa.LRule
open Go.RowKit Bs
set_option linter.unusedVariables false

abbrev R := Rule.R
def vals (r : R) : List Value := [.int .i64 r.id, .string r.name, .int .i64 r.rank, .bool r.sec, .bool r.deb, .bool r.am, .int .i64 r.need]
/-- the struct as a type of records -/
def rec : Rec R := ⟨7, vals, fun _ => rfl, by decide, fun r u hu => by
  simp only [vals, List.mem_cons, List.not_mem_nil, or_false] at hu
  rcases hu with rfl | rfl | rfl | rfl | rfl | rfl | rfl <;> rfl⟩
theorem rec_n : rec.n = 7 := rfl
theorem info : (Try.prog.info? 63).map (fun i => (i.zero, i.size)) = some (some (.agg #[.int .i64 0, .string ⟨#[]⟩, .int .i64 0, .bool false, .bool false, .bool false, .int .i64 0]), 7) := by kernel_rfl
theorem cells {w : World} {b p : Nat} {r : R} (h : At rec w b p r) : w.cell? ⟨b, p, none⟩ = some (.int .i64 r.id) ∧ w.cell? ⟨b, p + 1, none⟩ = some (.string r.name) ∧ w.cell? ⟨b, p + 2, none⟩ = some (.int .i64 r.rank) ∧ w.cell? ⟨b, p + 3, none⟩ = some (.bool r.sec) ∧ w.cell? ⟨b, p + 4, none⟩ = some (.bool r.deb) ∧ w.cell? ⟨b, p + 5, none⟩ = some (.bool r.am) ∧ w.cell? ⟨b, p + 6, none⟩ = some (.int .i64 r.need) :=
  ⟨h 0 _ rfl, h 1 _ rfl, h 2 _ rfl, h 3 _ rfl, h 4 _ rfl, h 5 _ rfl, h 6 _ rfl⟩
theorem cells0 {w : World} {b : Nat} {r : R} (h : At rec w b 0 r) : w.cell? ⟨b, 0, none⟩ = some (.int .i64 r.id) ∧ w.cell? ⟨b, 1, none⟩ = some (.string r.name) ∧ w.cell? ⟨b, 2, none⟩ = some (.int .i64 r.rank) ∧ w.cell? ⟨b, 3, none⟩ = some (.bool r.sec) ∧ w.cell? ⟨b, 4, none⟩ = some (.bool r.deb) ∧ w.cell? ⟨b, 5, none⟩ = some (.bool r.am) ∧ w.cell? ⟨b, 6, none⟩ = some (.int .i64 r.need) := by
  have := cells h
  simpa only [Nat.zero_add] using this
theorem at_of {w : World} {b p : Nat} {r : R} (h0 : w.cell? ⟨b, p, none⟩ = some (.int .i64 r.id)) (h1 : w.cell? ⟨b, p + 1, none⟩ = some (.string r.name)) (h2 : w.cell? ⟨b, p + 2, none⟩ = some (.int .i64 r.rank)) (h3 : w.cell? ⟨b, p + 3, none⟩ = some (.bool r.sec)) (h4 : w.cell? ⟨b, p + 4, none⟩ = some (.bool r.deb)) (h5 : w.cell? ⟨b, p + 5, none⟩ = some (.bool r.am)) (h6 : w.cell? ⟨b, p + 6, none⟩ = some (.int .i64 r.need)) : At rec w b p r := fun j v hv => by
  have hj : j < 7 := (List.getElem?_eq_some_iff.1 hv).1
  match j, hj with
  | 0, _ => rw [← hv]; exact h0
  | 1, _ => rw [← hv]; exact h1
  | 2, _ => rw [← hv]; exact h2
  | 3, _ => rw [← hv]; exact h3
  | 4, _ => rw [← hv]; exact h4
  | 5, _ => rw [← hv]; exact h5
  | 6, _ => rw [← hv]; exact h6
/-- a record that was boxed -/
theorem box (w : World) (r : R) (t : TypeId) : At rec (w.alloc (.cells #[.int .i64 r.id, .string r.name, .int .i64 r.rank, .bool r.sec, .bool r.deb, .bool r.am, .int .i64 r.need] t)) w.heap.size 0 r := at_of (by simp [go_sem]) (by simp [go_sem]) (by simp [go_sem]) (by simp [go_sem]) (by simp [go_sem]) (by simp [go_sem]) (by simp [go_sem])
/-- facts of a record in all worlds that only grew -/
theorem grown {w : World} {b p : Nat} {r : R} (h : At rec w b p r) (hl : b < w.heap.size) : Hid (∀ d os, At rec (Sort.grow (redrawn w d) os) b p r) := fun d os => h.below rec (below_regrown w d os) hl
def zero : R := ⟨0, ⟨#[]⟩, 0, false, false, false, 0⟩
theorem made_zero (n : Nat) : (madeCells (#[.int .i64 0, .string ⟨#[]⟩, .int .i64 0, .bool false, .bool false, .bool false, .int .i64 0] : Array Value) (n * 7)).toList = flat rec (List.replicate n zero) := by
  apply List.ext_getElem?
  intro i
  rw [madeCells]
  by_cases hi : i < n * 7
  · have h1 := flat_at rec (List.replicate n zero) (i / 7) (i % 7) zero (by rw [List.getElem?_replicate, if_pos (by omega)]) (by rw [rec_n]; omega)
    have e : i / 7 * 7 + i % 7 = i := by omega
    rw [rec_n, e] at h1
    rw [h1]
    have hs : (#[.int .i64 0, .string ⟨#[]⟩, .int .i64 0, .bool false, .bool false, .bool false, .int .i64 0] : Array Value).size = 7 := rfl
    simp only [hs, Array.toList_map, List.getElem?_map, Array.toList_range, List.getElem?_range hi, Option.map_some]
    have h7 : i % 7 < 7 := by omega
    generalize i % 7 = m at *
    match m, h7 with
    | 0, _ => rfl
    | 1, _ => rfl
    | 2, _ => rfl
    | 3, _ => rfl
    | 4, _ => rfl
    | 5, _ => rfl
    | 6, _ => rfl
  · rw [List.getElem?_eq_none (by simp; omega), List.getElem?_eq_none (by rw [flat_len, List.length_replicate, rec_n]; omega)]
/-- what a copy holds after k stores -/
def part (xs : List R) (n k : Nat) : List R := xs.take k ++ List.replicate (n - k) zero
theorem part_len (xs : List R) (n k : Nat) (h : xs.length = n) (hk : k ≤ n) : (part xs n k).length = n := by simp [part]; omega
theorem part_zero (xs : List R) (n : Nat) : part xs n 0 = List.replicate n zero := by simp [part]
theorem part_all (xs : List R) (n : Nat) (h : xs.length = n) : part xs n n = xs := by
  unfold part; rw [List.take_of_length_le (by omega), Nat.sub_self]; simp
theorem part_set (xs : List R) (n k : Nat) (h : xs.length = n) (hk : k < xs.length) : (part xs n k).set k xs[k] = part xs n (k + 1) := by
  unfold part
  have hl : (xs.take k).length = k := by rw [List.length_take]; omega
  rw [List.set_append_right _ _ (by omega), hl, Nat.sub_self]
  have e : n - k = (n - (k + 1)) + 1 := by omega
  rw [e, List.replicate_succ, List.set_cons_zero, List.take_succ_eq_append_getElem hk, List.append_assoc]
  rfl
theorem part_at (xs : List R) (n k : Nat) (h : xs.length = n) (hk : k < n) : (part xs n k)[k]? = some zero := by
  unfold part
  have hl : (xs.take k).length = k := by rw [List.length_take]; omega
  rw [List.getElem?_append_right (by omega), hl, Nat.sub_self, List.getElem?_replicate, if_pos (by omega)]
abbrev OwnR (w : World) (A g n cap : Nat) (ys : List R) : Prop := Own rec 63 w A (.slice (some ⟨g, 0, none⟩) n cap) ys
/-- a store of some fields, one after the other -/
theorem putAll {w : World} {A g n cap : Nat} {ys : List R} (hn : ys.length = n) (h : OwnR w A g n cap ys) (k : Nat) (r0 r : R) (hr : ys[k]? = some r0) :
    OwnR (((((((w.setCell ⟨g, k * 7, none⟩ (.int .i64 r.id)).setCell ⟨g, k * 7 + 1, none⟩ (.string r.name)).setCell ⟨g, k * 7 + 2, none⟩ (.int .i64 r.rank)).setCell ⟨g, k * 7 + 3, none⟩ (.bool r.sec)).setCell ⟨g, k * 7 + 4, none⟩ (.bool r.deb)).setCell ⟨g, k * 7 + 5, none⟩ (.bool r.am)).setCell ⟨g, k * 7 + 6, none⟩ (.int .i64 r.need)) A g n cap (ys.set k r) := by
  have hk : k < ys.length := (List.getElem?_eq_some_iff.1 hr).1
  have at_ : ∀ x : R, (ys.set k x)[k]? = some x := fun x => by simp [hk]
  have hl : ∀ x : R, (ys.set k x).length = n := fun x => by rw [List.length_set]; exact hn
  have h0 := Own.put hn h k 0 r0 ({ r0 with id := r.id }) (.int .i64 r.id) hr (by decide) rfl
  have h1 := Own.put (hl _) h0 k 1 _ ({ r0 with id := r.id, name := r.name }) (.string r.name) (at_ _) (by decide) rfl
  rw [List.set_set] at h1
  have h2 := Own.put (hl _) h1 k 2 _ ({ r0 with id := r.id, name := r.name, rank := r.rank }) (.int .i64 r.rank) (at_ _) (by decide) rfl
  rw [List.set_set] at h2
  have h3 := Own.put (hl _) h2 k 3 _ ({ r0 with id := r.id, name := r.name, rank := r.rank, sec := r.sec }) (.bool r.sec) (at_ _) (by decide) rfl
  rw [List.set_set] at h3
  have h4 := Own.put (hl _) h3 k 4 _ ({ r0 with id := r.id, name := r.name, rank := r.rank, sec := r.sec, deb := r.deb }) (.bool r.deb) (at_ _) (by decide) rfl
  rw [List.set_set] at h4
  have h5 := Own.put (hl _) h4 k 5 _ ({ r0 with id := r.id, name := r.name, rank := r.rank, sec := r.sec, deb := r.deb, am := r.am }) (.bool r.am) (at_ _) (by decide) rfl
  rw [List.set_set] at h5
  have h6 := Own.put (hl _) h5 k 6 _ (r) (.int .i64 r.need) (at_ _) (by decide) rfl
  rw [List.set_set] at h6
  exact h6
end Go.Proofs.Ytbaflfbidgolfaa.LRule
namespace Go.Proofs.Ytbaflfbidgolfaa.LRule
open Go.RowKit Bs
set_option linter.unusedVariables false
set_option maxHeartbeats 800000 in
theorem eq (r : R) (w : World) :
    Calls Try.prog 84 #[.agg #[.int .i64 r.id, .string r.name, .int .i64 r.rank, .bool r.sec, .bool r.deb, .bool r.am, .int .i64 r.need], .agg #[.int .i64 r.id, .string r.name, .int .i64 r.rank, .bool r.sec, .bool r.deb, .bool r.am, .int .i64 r.need]] w fun e w' => e = .returned (.bool true) ∧ Below w.heap.size w w' := by
  have h0 : (r.id != r.id) = false := by simp
  have h1 : (r.name.toList != r.name.toList) = false := by simp
  have h2 : (r.rank != r.rank) = false := by simp
  have h3 : (r.sec != r.sec) = false := by simp
  have h4 : (r.deb != r.deb) = false := by simp
  have h5 : (r.am != r.am) = false := by simp
  have h6 : (r.need != r.need) = false := by simp
  go_enter Try.func84, Try.ntmps84
  go_wp2_with fail
  go_ret
  exact ⟨rfl, ((Below.refl _ _).alloc (Nat.le_refl _) _).alloc (by simp) _⟩
set_option maxHeartbeats 800000 in
theorem eqS (v v' : Value) (xs : List R) (w : World) (h : Is rec w v xs) (h' : Is rec w v' xs) :
    Calls Try.prog 22 #[v, v'] w fun e w' => e = .returned (.bool true) ∧ Below w.heap.size w w' := by
  obtain ⟨a, cp, rfl, h⟩ := h
  obtain ⟨a', cp', rfl, h'⟩ := h'
  have hc := h.at_ rec
  have hc' := h'.at_ rec
  obtain ⟨n, hn⟩ : ∃ n, n = xs.length := ⟨_, rfl⟩
  have hnb : n ≤ cp := by have := h.1; omega
  have hnb' : n ≤ cp' := by have := h'.1; omega
  have h2 := h.2.1
  have h2' := h'.2.1
  unfold maxLen at h2 h2'
  rw [← hn]
  have hle : n ≤ xs.length := by omega
  clear hn h h'
  have hne : ((n : Int) != (n : Int)) = false := by simp
  go_enter Try.func22, Try.ntmps22
  go_wp2_with fail
  go_loopw [5] (fun i wr => ∃ k : Nat, k ≤ n ∧ i = .int .i64 k ∧ Below w.heap.size w wr) (fun i _ => n - (intOf i).toNat)
  case atStart => exact ⟨0, Nat.zero_le _, rfl, Below.refl _ _⟩
  case round =>
    obtain ⟨k, hk, rfl, hb⟩ := hrel
    by_cases hlt : k < n
    · have hx : k < xs.length := by omega
      obtain ⟨b, o, rfl, hbl, hcell0⟩ := hc.out k xs[k] (List.getElem?_eq_getElem hx)
      obtain ⟨b', o', rfl, hbl', hcell0'⟩ := hc'.out k xs[k] (List.getElem?_eq_getElem hx)
      have HG := grown (hcell0.below rec hb hbl) (Nat.lt_of_lt_of_le hbl hb.size)
      have HG' := grown (hcell0'.below rec hb hbl') (Nat.lt_of_lt_of_le hbl' hb.size)
      clear hcell0 hcell0'
      generalize xs[k] = X at *
      have c0 := fun d os => (cells (HG.out d os)).1
      have c1 := fun d os => (cells (HG.out d os)).2.1
      have c2 := fun d os => (cells (HG.out d os)).2.2.1
      have c3 := fun d os => (cells (HG.out d os)).2.2.2.1
      have c4 := fun d os => (cells (HG.out d os)).2.2.2.2.1
      have c5 := fun d os => (cells (HG.out d os)).2.2.2.2.2.1
      have c6 := fun d os => (cells (HG.out d os)).2.2.2.2.2.2
      have d0 := fun d os => (cells (HG'.out d os)).1
      have d1 := fun d os => (cells (HG'.out d os)).2.1
      have d2 := fun d os => (cells (HG'.out d os)).2.2.1
      have d3 := fun d os => (cells (HG'.out d os)).2.2.2.1
      have d4 := fun d os => (cells (HG'.out d os)).2.2.2.2.1
      have d5 := fun d os => (cells (HG'.out d os)).2.2.2.2.2.1
      have d6 := fun d os => (cells (HG'.out d os)).2.2.2.2.2.2
      have k0 : 0 ≤ (k : Int) := by omega
      have k1 : (k : Int) < (n : Int) := by omega
      simp only [rec_n] at c0 c1 c2 c3 c4 c5 c6 d0 d1 d2 d3 d4 d5 d6
      clear HG HG'
      go_wp2_with fail
      refine wp_region_quiet_below (by kernel_rfl) (by kernel_rfl) ?_
      repeat (quiet_step ((go_at_call 84; exact Calls.regrown_of (eq X _))))
      refine wpQuiet_nil ?_
      intro _ hw'
      obtain ⟨⟨dq, osq⟩, hw''⟩ := hw'
      subst hw''
      have hb2 : Below w.heap.size w (Sort.grow (redrawn wr dq) osq) := hb.trans ((below_regrown wr dq osq).mono hb.size)
      clear c0 c1 c2 c3 c4 c5 c6 d0 d1 d2 d3 d4 d5 d6
      go_wp2_with fail
      go_roundw
      case rel => exact ⟨k + 1, by omega, by go_num, hb2⟩
      case measure => simp [intOf]; omega
    · go_wp2_with fail
      go_ret
      exact ⟨rfl, hb⟩
end Go.Proofs.Ytbaflfbidgolfaa.LRule
namespace Go.Proofs.Ytbaflfbidgolfaa.LInt
open Go.RowKit Bs
set_option linter.unusedVariables false
abbrev R := Int
def vals (r : R) : List Value := [.int .i64 r]
/-- one value as a type of records -/
def rec : Rec R := ⟨1, vals, fun _ => rfl, by decide, fun r u hu => by
  simp only [vals, List.mem_cons, List.not_mem_nil, or_false] at hu
  rcases hu with rfl
  rfl⟩
theorem rec_n : rec.n = 1 := rfl
theorem info : (Try.prog.info? 3).map (fun i => (i.zero, i.size)) = some (some (.int .i64 0), 1) := by kernel_rfl
theorem cells {w : World} {b p : Nat} {r : R} (h : At rec w b p r) : w.cell? ⟨b, p, none⟩ = some (.int .i64 r) := h 0 _ rfl
theorem at_of {w : World} {b p : Nat} {r : R} (h0 : w.cell? ⟨b, p, none⟩ = some (.int .i64 r)) : At rec w b p r := fun j v hv => by
  have hj : j < 1 := (List.getElem?_eq_some_iff.1 hv).1
  obtain rfl : j = 0 := by omega
  rw [← hv]; exact h0
/-- facts of a value in all worlds that only grew -/
theorem grown {w : World} {b p : Nat} {r : R} (h : At rec w b p r) (hl : b < w.heap.size) : Hid (∀ d os, At rec (Sort.grow (redrawn w d) os) b p r) := fun d os => h.below rec (below_regrown w d os) hl
theorem flat_eq (xs : List R) : flat rec xs = xs.map (fun r => .int .i64 r) := by
  induction xs with
  | nil => rfl
  | cons x xs ih => rw [flat_cons, ih]; rfl
def zero : R := 0
theorem made_zero (n : Nat) : (madeCells (#[.int .i64 0] : Array Value) n).toList = flat rec (List.replicate n zero) := by
  apply List.ext_getElem?
  intro i
  rw [madeCells, flat_eq]
  by_cases hi : i < n
  · simp only [Array.toList_map, List.getElem?_map, Array.toList_range, List.getElem?_range hi, Option.map_some, List.getElem?_replicate, if_pos hi]
    have h1 : i % (#[.int .i64 0] : Array Value).size = 0 := Nat.mod_one i
    rw [h1]
    rfl
  · rw [List.getElem?_eq_none (by simp; omega), List.getElem?_eq_none (by simp; omega)]
/-- what a copy holds after k stores -/
def part (xs : List R) (n k : Nat) : List R := xs.take k ++ List.replicate (n - k) zero
theorem part_len (xs : List R) (n k : Nat) (h : xs.length = n) (hk : k ≤ n) : (part xs n k).length = n := by simp [part]; omega
theorem part_zero (xs : List R) (n : Nat) : part xs n 0 = List.replicate n zero := by simp [part]
theorem part_all (xs : List R) (n : Nat) (h : xs.length = n) : part xs n n = xs := by
  unfold part; rw [List.take_of_length_le (by omega), Nat.sub_self]; simp
theorem part_set (xs : List R) (n k : Nat) (h : xs.length = n) (hk : k < xs.length) : (part xs n k).set k xs[k] = part xs n (k + 1) := by
  unfold part
  have hl : (xs.take k).length = k := by rw [List.length_take]; omega
  rw [List.set_append_right _ _ (by omega), hl, Nat.sub_self]
  have e : n - k = (n - (k + 1)) + 1 := by omega
  rw [e, List.replicate_succ, List.set_cons_zero, List.take_succ_eq_append_getElem hk, List.append_assoc]
  rfl
theorem part_at (xs : List R) (n k : Nat) (h : xs.length = n) (hk : k < n) : (part xs n k)[k]? = some zero := by
  unfold part
  have hl : (xs.take k).length = k := by rw [List.length_take]; omega
  rw [List.getElem?_append_right (by omega), hl, Nat.sub_self, List.getElem?_replicate, if_pos (by omega)]
abbrev OwnR (w : World) (A g n cap : Nat) (ys : List R) : Prop := Own rec 3 w A (.slice (some ⟨g, 0, none⟩) n cap) ys
/-- a store of one value -/
theorem putAll {w : World} {A g n cap : Nat} {ys : List R} (hn : ys.length = n) (h : OwnR w A g n cap ys) (k : Nat) (r0 r : R) (hr : ys[k]? = some r0) :
    OwnR (w.setCell ⟨g, k, none⟩ (.int .i64 r)) A g n cap (ys.set k r) := by
  have h0 := Own.put hn h k 0 r0 r (.int .i64 r) hr (by decide) rfl
  rw [rec_n, Nat.mul_one, Nat.add_zero] at h0
  exact h0
end Go.Proofs.Ytbaflfbidgolfaa.LInt
namespace Go.Proofs.Ytbaflfbidgolfaa.LInt
open Go.RowKit Bs
set_option linter.unusedVariables false
set_option maxHeartbeats 800000 in
theorem eqS (v v' : Value) (xs : List R) (w : World) (h : Is rec w v xs) (h' : Is rec w v' xs) :
    Calls Try.prog 26 #[v, v'] w fun e w' => e = .returned (.bool true) ∧ Below w.heap.size w w' := by
  obtain ⟨a, cp, rfl, h⟩ := h
  obtain ⟨a', cp', rfl, h'⟩ := h'
  have hc := h.at_ rec
  have hc' := h'.at_ rec
  obtain ⟨n, hn⟩ : ∃ n, n = xs.length := ⟨_, rfl⟩
  have hnb : n ≤ cp := by have := h.1; omega
  have hnb' : n ≤ cp' := by have := h'.1; omega
  have h2 := h.2.1
  have h2' := h'.2.1
  unfold maxLen at h2 h2'
  rw [← hn]
  have hle : n ≤ xs.length := by omega
  clear hn h h'
  have hne : ((n : Int) != (n : Int)) = false := by simp
  go_enter Try.func26, Try.ntmps26
  go_wp2_with fail
  go_loopw [5] (fun i wr => ∃ k : Nat, k ≤ n ∧ i = .int .i64 k ∧ Below w.heap.size w wr) (fun i _ => n - (intOf i).toNat)
  case atStart => exact ⟨0, Nat.zero_le _, rfl, Below.refl _ _⟩
  case round =>
    obtain ⟨k, hk, rfl, hb⟩ := hrel
    by_cases hlt : k < n
    · have hx : k < xs.length := by omega
      obtain ⟨b, o, rfl, hbl, hcell0⟩ := hc.out k xs[k] (List.getElem?_eq_getElem hx)
      obtain ⟨b', o', rfl, hbl', hcell0'⟩ := hc'.out k xs[k] (List.getElem?_eq_getElem hx)
      have c1 := cells (hcell0.below rec hb hbl)
      have c2 := cells (hcell0'.below rec hb hbl')
      simp only [rec_n, Nat.mul_one] at c1 c2
      clear hcell0 hcell0'
      generalize xs[k] = X at *
      have k0 : 0 ≤ (k : Int) := by omega
      have k1 : (k : Int) < (n : Int) := by omega
      have hz : (X != X) = false := by simp
      go_wp2_with fail
      go_quiet (fail)
      have hb2 : Below w.heap.size w (wr.drewN nq) := hb.trans ⟨rfl, rfl, rfl, Nat.le_refl _, fun _ _ => rfl⟩
      go_wp2_with fail
      go_roundw
      case rel => exact ⟨k + 1, by omega, by go_num, hb2⟩
      case measure => simp [intOf]; omega
    · go_wp2_with fail
      go_ret
      exact ⟨rfl, hb⟩
end Go.Proofs.Ytbaflfbidgolfaa.LInt
namespace Go.Proofs.Ytbaflfbidgolfaa.LRule
open Go.RowKit Bs
set_option linter.unusedVariables false
def wt (r : R) : Nat := r.name.size
def Fine (r : R) : Prop := r.name.size ≤ maxLen
def tot (xs : List R) : Nat := (xs.map wt).sum
theorem tot_next (xs : List R) (k : Nat) (h : k < xs.length) : tot (xs.take (k + 1)) = tot (xs.take k) + wt xs[k] := by
  rw [List.take_succ_eq_append_getElem h]; unfold tot; rw [List.map_append, List.sum_append]; simp
theorem tot_take_le (xs : List R) (k : Nat) : tot (xs.take k) ≤ tot xs := by
  have := congrArg tot (List.take_append_drop k xs)
  have e : ∀ a b : List R, tot (a ++ b) = tot a + tot b := fun a b => by simp [tot]
  rw [e] at this
  omega
theorem mem_le (xs : List R) (x : R) (h : x ∈ xs) : wt x ≤ tot xs := by
  induction xs with
  | nil => cases h
  | cons y ys ih =>
    simp only [tot, List.map_cons, List.sum_cons] at ih ⊢
    rcases List.mem_cons.1 h with rfl | h
    · omega
    · have := ih h; omega
/-- what is left behind something of a weight -/
def Left (t : Nat) (l : Int) (w : World) (e : Ending) (w' : World) : Prop := Below w.heap.size w w' ∧ ∃ x : Int, e = .returned (.int .i64 x) ∧ ((x < 0 ∧ l < t) ∨ (x = l - t ∧ (t : Int) ≤ l))
set_option maxHeartbeats 400000 in
theorem sz (r : R) (l : Int) (w : World) (h0 : 0 ≤ l) (hl : l ≤ 1048576) (hf : Fine r) :
    Calls Try.prog 76 #[.agg #[.int .i64 r.id, .string r.name, .int .i64 r.rank, .bool r.sec, .bool r.deb, .bool r.am, .int .i64 r.need], .int .i64 l] w (Left (wt r) l w) := by
  have hb := fun o => (Below.refl w.heap.size w).alloc (Nat.le_refl _) o
  have HW := Lib.hid (show wt r = r.name.size from rfl)
  unfold Fine maxLen at hf
  by_cases g0 : ((r.name.size : Nat) : Int) ≤ l
  · go_enter Try.func76, Try.ntmps76
    go_wp2_with fail
    go_ret
    exact ⟨hb _, _, rfl, .inr ⟨by have := HW.out; omega, by have := HW.out; omega⟩⟩
  · go_enter Try.func76, Try.ntmps76
    go_wp2_with fail
    go_ret
    exact ⟨hb _, -1, rfl, .inl ⟨by omega, by have := HW.out; omega⟩⟩
set_option maxHeartbeats 400000 in
theorem szS (v : Value) (xs : List R) (l : Int) (w : World) (h0 : 0 ≤ l) (hl : l ≤ 1048576) (h : Is rec w v xs) (hsm : ∀ x ∈ xs, Fine x) :
    Calls Try.prog 16 #[v, .int .i64 l] w (Left (xs.length + tot xs) l w) := by
  obtain ⟨a, cp, rfl, h⟩ := h
  have hc := h.at_ rec
  obtain ⟨n, hn⟩ : ∃ n, n = xs.length := ⟨_, rfl⟩
  have hnb : n ≤ cp := by have := h.1; omega
  have h2 := h.2.1
  unfold maxLen at h2
  have HN := Lib.hid hn.symm
  have HSM := Lib.hid hsm
  rw [← hn]
  have hle : n ≤ xs.length := by omega
  clear hn hsm h
  by_cases hbig : l < n
  · go_enter Try.func16, Try.ntmps16
    go_wp2_with fail
    go_ret
    exact ⟨Below.refl _ _, -1, rfl, .inl ⟨by omega, by omega⟩⟩
  · go_enter Try.func16, Try.ntmps16
    go_wp2_with fail
    go_loopw [1, 5] (fun q i wr => ∃ k t : Nat, k ≤ n ∧ i = .int .i64 k ∧ q = .int .i64 (l - (n : Int) - t) ∧ (n : Int) + t ≤ l ∧ Hid (t = tot (xs.take k)) ∧ Below w.heap.size w wr) (fun _ i _ => n - (intOf i).toNat)
    case atStart => exact ⟨0, 0, Nat.zero_le _, rfl, by simp, by omega, rfl, Below.refl _ _⟩
    case round =>
      obtain ⟨k, t, hk, rfl, rfl, hT, HT, hb⟩ := hrel
      by_cases hlt : k < n
      · have hx : k < xs.length := by omega
        obtain ⟨b, o, rfl, hbl, hcell⟩ := hc.out k xs[k] (List.getElem?_eq_getElem hx)
        obtain ⟨q0, q1, q2, q3, q4, q5, q6⟩ := cells (hcell.below rec hb hbl)
        simp only [rec_n] at q0 q1 q2 q3 q4 q5 q6
        have hxs := Lib.hid (HSM.out xs[k] (List.getElem_mem hx))
        have HTN := Lib.hid (tot_next xs k hx)
        have HTL := Lib.hid (tot_take_le xs (k + 1))
        clear hcell
        generalize xs[k] = X at *
        go_wp2_with fail
        refine (sz X _ _ (by omega) (by omega) hxs.out).mono ?_
        rintro e w1 ⟨hb1, x, rfl, ⟨hx0, hxl⟩ | ⟨rfl, hxl⟩⟩
        · have hb3 := hb.trans (hb1.mono hb.size)
          have HB := Lib.hid (show l < ((n + tot xs : Nat) : Int) by
            have h1 := HTL.out
            rw [HTN.out, ← HT.out] at h1
            omega)
          clear hxl
          go_wp2_with fail
          go_ret
          exact ⟨hb3, -1, rfl, .inl ⟨by omega, HB.out⟩⟩
        · have hb3 := hb.trans (hb1.mono hb.size)
          have h6 : l - (n : Int) - (t : Int) - (wt X : Int) = l - (n : Int) - ((t + wt X : Nat) : Int) := by omega
          rw [h6]
          have h7 : (n : Int) + ((t + wt X : Nat) : Int) ≤ l := by omega
          have HT2 := Lib.hid (show t + wt X = tot (xs.take (k + 1)) by rw [HTN.out, ← HT.out])
          clear h6 hxl
          generalize t + wt X = t2 at *
          go_wp2_with fail
          go_roundw
          case rel => exact ⟨k + 1, t2, by omega, by go_num, rfl, h7, HT2, hb3⟩
          case measure => simp [intOf]; omega
      · have hkn : xs.take k = xs := List.take_of_length_le (by rw [HN.out]; omega)
        have HF := Lib.hid (show t = tot xs by rw [HT.out, hkn])
        clear hkn
        go_wp2_with fail
        go_ret
        exact ⟨hb, _, rfl, .inr ⟨by rw [← HF.out]; omega, by rw [← HF.out]; omega⟩⟩
end Go.Proofs.Ytbaflfbidgolfaa.LRule
namespace Go.Proofs.Ytbaflfbidgolfaa.LRule
open Go.RowKit Bs
set_option linter.unusedVariables false
theorem infoK : (Try.prog.info? 63).map (fun i => (i.zero, i.size, i.bytes)) = some (some (.agg #[.int .i64 0, .string ⟨#[]⟩, .int .i64 0, .bool false, .bool false, .bool false, .int .i64 0]), 7, 48) := by kernel_rfl
theorem startB {w : World} {A g : Nat} (h : w.heap[g]? = some (.cells #[] 63 (0, 0))) (hA : A ≤ g) : w.ownsRow A 63 7 (.slice (some ⟨g, 0, none⟩) 0 0) 0 [] :=
  ⟨rfl, .inr ⟨g, 0, #[], rfl, hA, h, Nat.le_refl _, Nat.zero_le _, rfl, rfl⟩⟩
end Go.Proofs.Ytbaflfbidgolfaa.LRule
namespace Go.Proofs.Ytbaflfbidgolfaa.LInt
open Go.RowKit Bs
set_option linter.unusedVariables false
def wt (r : R) : Nat := 0
def Fine (r : R) : Prop := True
def tot (xs : List R) : Nat := (xs.map wt).sum
theorem tot_next (xs : List R) (k : Nat) (h : k < xs.length) : tot (xs.take (k + 1)) = tot (xs.take k) + wt xs[k] := by
  rw [List.take_succ_eq_append_getElem h]; unfold tot; rw [List.map_append, List.sum_append]; simp
theorem tot_take_le (xs : List R) (k : Nat) : tot (xs.take k) ≤ tot xs := by
  have := congrArg tot (List.take_append_drop k xs)
  have e : ∀ a b : List R, tot (a ++ b) = tot a + tot b := fun a b => by simp [tot]
  rw [e] at this
  omega
theorem mem_le (xs : List R) (x : R) (h : x ∈ xs) : wt x ≤ tot xs := by
  induction xs with
  | nil => cases h
  | cons y ys ih =>
    simp only [tot, List.map_cons, List.sum_cons] at ih ⊢
    rcases List.mem_cons.1 h with rfl | h
    · omega
    · have := ih h; omega
end Go.Proofs.Ytbaflfbidgolfaa.LInt
namespace Go.Proofs.Ytbaflfbidgolfaa.LInt
open Go.RowKit Bs
set_option linter.unusedVariables false
theorem infoK : (Try.prog.info? 3).map (fun i => (i.zero, i.size, i.bytes)) = some (some (.int .i64 0), 1, 8) := by kernel_rfl
theorem startB {w : World} {A g : Nat} (h : w.heap[g]? = some (.cells #[] 3 (0, 0))) (hA : A ≤ g) : w.ownsRow A 3 1 (.slice (some ⟨g, 0, none⟩) 0 0) 0 [] :=
  ⟨rfl, .inr ⟨g, 0, #[], rfl, hA, h, Nat.le_refl _, Nat.zero_le _, rfl, rfl⟩⟩
end Go.Proofs.Ytbaflfbidgolfaa.LInt
namespace Go.Proofs.Ytbaflfbidgolfaa.Sq
set_option linter.unusedVariables false
section
variable {α : Type} {p : α → Bool} {z : List α} {k : Nat} {X : α}
/-- none ahead of place k fits -/
def First (p : α → Bool) (z : List α) (k : Nat) : Prop := ∀ j x, j < k → z[j]? = some x → p x = false
theorem first_zero : First p z 0 := fun j x hj => by omega
theorem first_next (h : First p z k) (hx : z[k]? = some X) (hp : p X = false) : First p z (k + 1) := fun j x hj hz => by
  rcases Nat.lt_or_ge j k with h' | h'
  · exact h j x h' hz
  · obtain rfl : j = k := by omega
    rw [hx] at hz; rw [← Option.some.inj hz]; exact hp
theorem first_tail {y : α} (h : First p (y :: z) (k + 1)) : First p z k := fun j x hj hz => h (j + 1) x (by omega) (by simpa using hz)
theorem first_hit : ∀ {z : List α} {k : Nat}, First p z k → z[k]? = some X → p X = true → z.findIdx? p = some k
  | [], k, _, hx, _ => by simp at hx
  | y :: z, 0, _, hx, hp => by
    simp only [List.getElem?_cons_zero, Option.some.injEq] at hx
    subst hx
    rw [List.findIdx?_cons, hp]; rfl
  | y :: z, k + 1, h, hx, hp => by
    have h0 : p y = false := h 0 y (by omega) rfl
    rw [List.findIdx?_cons, h0, first_hit (first_tail h) (by simpa using hx) hp]; rfl
theorem first_none (h : First p z k) (hk : z.length ≤ k) : z.findIdx? p = none := by
  rw [List.findIdx?_eq_none_iff]
  intro x hx
  obtain ⟨i, hi, rfl⟩ := List.getElem_of_mem hx
  exact h i _ (by omega) (List.getElem?_eq_getElem hi)
/-- what findIdx? found -/
theorem idx_some (h : z.findIdx? p = some k) : ∃ X, z[k]? = some X ∧ p X = true ∧ First p z k := by
  obtain ⟨hk, hp, hn⟩ := List.findIdx?_eq_some_iff_getElem.1 h
  refine ⟨z[k], List.getElem?_eq_getElem hk, hp, fun j x hj hx => ?_⟩
  have hj' : j < z.length := by omega
  rw [List.getElem?_eq_getElem hj'] at hx
  have := hn j hj
  rw [← Option.some.inj hx]
  simpa using this
theorem idx_none (h : z.findIdx? p = none) : ∀ x ∈ z, p x = false := List.findIdx?_eq_none_iff.1 h
/-- the index as a number, or -1 -/
def ix : Option Nat → Int
  | some k => k
  | none => -1
theorem ix_neg {o : Option Nat} : ix o < 0 ↔ o = none := by
  cases o with
  | none => simp [ix]
  | some k => simp [ix]
/-- the found element itself -/
def got (p : α → Bool) (z : List α) : Option α := (z.findIdx? p).bind (fun k => z[k]?)
theorem got_hit (h : First p z k) (hx : z[k]? = some X) (hp : p X = true) : got p z = some X := by
  unfold got; rw [first_hit h hx hp]; exact hx
theorem got_none (h : First p z k) (hk : z.length ≤ k) : got p z = none := by unfold got; rw [first_none h hk]; rfl
theorem got_some (h : got p z = some X) : X ∈ z ∧ p X = true := by
  unfold got at h
  cases e : z.findIdx? p with
  | none => rw [e] at h; cases h
  | some k =>
    obtain ⟨Y, hY, hp, _⟩ := idx_some e
    rw [e] at h
    have h2 : z[k]? = some X := h
    rw [hY] at h2
    obtain rfl := Option.some.inj h2
    exact ⟨List.mem_of_getElem? hY, hp⟩
theorem got_no (h : got p z = none) : ∀ x ∈ z, p x = false := by
  unfold got at h
  cases e : z.findIdx? p with
  | none => exact idx_none e
  | some k =>
    obtain ⟨Y, hY, _⟩ := idx_some e
    rw [e] at h
    have h2 : z[k]? = none := h
    rw [hY] at h2; cases h2
end
end Go.Proofs.Ytbaflfbidgolfaa.Sq
namespace Go.Proofs.Ytbaflfbidgolfaa.Word
open Go.RowKit
set_option linter.unusedVariables false
/-- the letters a to z -/
def az (c : UInt8) : Bool := decide (97 ≤ c.toNat) && decide (c.toNat ≤ 122)
def allAz (l : List UInt8) : Bool := l.all az
def isWordB (s : ByteArray) : Bool := (decide (1 ≤ s.size) && decide (s.size ≤ 10)) && allAz s.data.toList
theorem take_snoc (s : ByteArray) (k : Nat) (h : k < s.size) : s.data.toList.take (k + 1) = s.data.toList.take k ++ [s[k]] := by
  rw [List.take_succ_eq_append_getElem (by simpa using h)]; rfl
theorem az_next (s : ByteArray) (k : Nat) (h : k < s.size) (hp : allAz (s.data.toList.take k) = true) (hc : az s[k] = true) : allAz (s.data.toList.take (k + 1)) = true := by
  rw [take_snoc s k h]; unfold allAz at hp ⊢; rw [List.all_append, hp]; simp [hc]
theorem az_bad (s : ByteArray) (k : Nat) (h : k < s.size) (hc : az s[k] = false) : allAz s.data.toList = false := by
  unfold allAz
  rw [List.all_eq_false]
  exact ⟨s[k], Array.getElem_mem_toList _, by simp [hc]⟩
theorem az_all (s : ByteArray) (k : Nat) (h : s.size ≤ k) (hp : allAz (s.data.toList.take k) = true) : allAz s.data.toList = true := by
  rwa [List.take_of_length_le (by simpa using h)] at hp
theorem ret_bool {a b : Bool} (h : a = b) : Ending.returned (.bool a) = .returned (.bool b) := by rw [h]
theorem word_no {s : ByteArray} (h : allAz s.data.toList = false) : isWordB s = false := by unfold isWordB; rw [h, Bool.and_false]
theorem word_len {s : ByteArray} (h : ¬ (1 ≤ s.size ∧ s.size ≤ 10)) : isWordB s = false := by
  unfold isWordB
  have : (decide (1 ≤ s.size) && decide (s.size ≤ 10)) = false := by
    rw [← Bool.decide_and]; exact decide_eq_false h
  rw [this, Bool.false_and]
theorem word_yes {s : ByteArray} (h1 : 1 ≤ s.size) (h2 : s.size ≤ 10) (h : allAz s.data.toList = true) : isWordB s = true := by
  unfold isWordB; rw [h, Bool.and_true, ← Bool.decide_and]; exact decide_eq_true ⟨h1, h2⟩
def inB (x a b : Int) : Bool := decide (a ≤ x ∧ x ≤ b)
theorem inB_yes {x a b : Int} (h : inB x a b = true) : a ≤ x ∧ x ≤ b := of_decide_eq_true h
theorem inB_no {x a b : Int} (h : inB x a b = false) : ¬ (a ≤ x ∧ x ≤ b) := of_decide_eq_false h
theorem inB_mk {x a b : Int} (h1 : a ≤ x) (h2 : x ≤ b) : inB x a b = true := decide_eq_true ⟨h1, h2⟩
theorem inB_not {x a b : Int} (h : ¬ (a ≤ x ∧ x ≤ b)) : inB x a b = false := decide_eq_false h
theorem in_yes (x a b : Int) (w : World) (h1 : a ≤ x) (h2 : x ≤ b) :
    Calls Try.prog 108 #[.int .i64 x, .int .i64 a, .int .i64 b] w fun e w' => e = .returned (.bool true) ∧ w = w' := by
  go_enter Try.func108, Try.ntmps108
  go_wp2
  go_ret
  exact ⟨rfl, rfl⟩
theorem in_no (x a b : Int) (w : World) (h : ¬ (a ≤ x ∧ x ≤ b)) :
    Calls Try.prog 108 #[.int .i64 x, .int .i64 a, .int .i64 b] w fun e w' => e = .returned (.bool false) ∧ w = w' := by
  by_cases h1 : a ≤ x
  · have h2 : ¬ x ≤ b := by omega
    go_enter Try.func108, Try.ntmps108
    go_wp2
    go_ret
    exact ⟨rfl, rfl⟩
  · go_enter Try.func108, Try.ntmps108
    go_wp2
    go_ret
    exact ⟨rfl, rfl⟩

set_option maxHeartbeats 400000 in
theorem l2Word (s : ByteArray) (w : World) (hs : s.size ≤ maxLen) :
    Calls Try.prog 135 #[.string s] w fun e w' => e = .returned (.bool (isWordB s)) ∧ w = w' := by
  unfold maxLen at hs
  go_enter Try.func135, Try.ntmps135
  go_wp2_with fail
  go_loop [3] (fun i => ∃ k : Nat, k ≤ s.size ∧ i = .int .i64 k ∧ Hid (allAz (s.data.toList.take k) = true)) (fun i => s.size - (intOf i).toNat)
  case atStart => exact ⟨0, Nat.zero_le _, rfl, rfl⟩
  case round =>
    obtain ⟨k, hk, rfl, HA⟩ := hrel
    by_cases hlt : k < s.size
    · by_cases h1 : 97 ≤ s[k].toNat
      · by_cases h2 : s[k].toNat ≤ 122
        · have HN := Lib.hid (az_next s k hlt HA.out (by simp [az, h1, h2]))
          go_wp2_with fail
          go_round
          case rel => exact ⟨k + 1, by omega, by go_num, HN⟩
          case measure => simp [intOf]; omega
        · have HN := Lib.hid (word_no (az_bad s k hlt (by simp [az, h2])))
          go_wp2_with fail
          go_ret
          exact ⟨ret_bool HN.out.symm, rfl⟩
      · have HN := Lib.hid (word_no (az_bad s k hlt (by simp [az, h1])))
        go_wp2_with fail
        go_ret
        exact ⟨ret_bool HN.out.symm, rfl⟩
    · have HN := Lib.hid (az_all s k (by omega) HA.out)
      by_cases hl : 1 ≤ s.size ∧ s.size ≤ 10
      · obtain ⟨g1, g2⟩ := hl
        have HW := Lib.hid (word_yes g1 g2 HN.out)
        go_wp2_with fail
        refine (in_yes _ _ _ _ (by omega) (by omega)).mono ?_
        rintro e w' ⟨rfl, rfl⟩
        go_wp2_with fail
        go_ret
        exact ⟨ret_bool HW.out.symm, rfl⟩
      · have HW := Lib.hid (word_len hl)
        have HL := Lib.hid hl
        clear hl
        go_wp2_with fail
        refine (in_no _ _ _ _ (by have := HL.out; omega)).mono ?_
        rintro e w' ⟨rfl, rfl⟩
        go_wp2_with fail
        go_ret
        exact ⟨ret_bool HW.out.symm, rfl⟩

set_option maxHeartbeats 400000 in
theorem isWord (s : ByteArray) (w : World) (hs : s.size ≤ maxLen) :
    Calls Try.prog 122 #[.string s] w fun e w' => e = .returned (.bool (isWordB s)) ∧ w = w' := by
  unfold maxLen at hs
  by_cases hl : 1 ≤ s.size ∧ s.size ≤ 10
  · obtain ⟨g1, g2⟩ := hl
    have g0 : ((s.size : Int) == 0) = false := by rw [beq_eq_false_iff_ne]; omega
    go_enter Try.func122, Try.ntmps122
    go_wp2_with fail
    go_loop [14] (fun i => ∃ k : Nat, k ≤ s.size ∧ i = .int .i64 k ∧ Hid (allAz (s.data.toList.take k) = true)) (fun i => s.size - (intOf i).toNat)
    case atStart => exact ⟨0, Nat.zero_le _, rfl, rfl⟩
    case round =>
      obtain ⟨k, hk, rfl, HA⟩ := hrel
      by_cases hlt : k < s.size
      · by_cases h1 : 97 ≤ s[k].toNat
        · by_cases h2 : s[k].toNat ≤ 122
          · have HN := Lib.hid (az_next s k hlt HA.out (by simp [az, h1, h2]))
            go_wp2_with fail
            go_round
            case rel => exact ⟨k + 1, by omega, by go_num, HN⟩
            case measure => simp [intOf]; omega
          · have HN := Lib.hid (word_no (az_bad s k hlt (by simp [az, h2])))
            go_wp2_with fail
            go_ret
            exact ⟨ret_bool HN.out.symm, rfl⟩
        · have HN := Lib.hid (word_no (az_bad s k hlt (by simp [az, h1])))
          go_wp2_with fail
          go_ret
          exact ⟨ret_bool HN.out.symm, rfl⟩
      · have HN := Lib.hid (az_all s k (by omega) HA.out)
        have HW := Lib.hid (word_yes g1 g2 HN.out)
        go_wp2_with fail
        go_ret
        exact ⟨ret_bool HW.out.symm, rfl⟩
  · have HW := Lib.hid (word_len hl)
    by_cases hz : s.size = 0
    · have g0 : ((s.size : Int) == 0) = true := by rw [beq_iff_eq]; omega
      clear hl hz
      go_enter Try.func122, Try.ntmps122
      go_wp2_with fail
      go_ret
      exact ⟨ret_bool HW.out.symm, rfl⟩
    · have g0 : ((s.size : Int) == 0) = false := by rw [beq_eq_false_iff_ne]; omega
      have g1 : 10 < s.size := by omega
      clear hl hz
      go_enter Try.func122, Try.ntmps122
      go_wp2_with fail
      go_ret
      exact ⟨ret_bool HW.out.symm, rfl⟩

theorem in_as (x a b : Int) (v : Bool) (h : inB x a b = v) (w : World) :
    Calls Try.prog 108 #[.int .i64 x, .int .i64 a, .int .i64 b] w fun e w' => e = .returned (.bool v) ∧ w = w' := by
  cases v with
  | true => obtain ⟨h1, h2⟩ := inB_yes h; exact in_yes x a b w h1 h2
  | false => exact in_no x a b w (inB_no h)
theorem word_as (s : ByteArray) (v : Bool) (h : isWordB s = v) (hs : s.size ≤ maxLen) (w : World) :
    Calls Try.prog 135 #[.string s] w fun e w' => e = .returned (.bool v) ∧ w = w' := by
  subst h; exact l2Word s w hs
theorem iword_as (s : ByteArray) (v : Bool) (h : isWordB s = v) (hs : s.size ≤ maxLen) (w : World) :
    Calls Try.prog 122 #[.string s] w fun e w' => e = .returned (.bool v) ∧ w = w' := by
  subst h; exact isWord s w hs
end Go.Proofs.Ytbaflfbidgolfaa.Word
namespace Go.Proofs.Ytbaflfbidgolfaa.IntF
open Go.RowKit Bs Word Sq
set_option linter.unusedVariables false
theorem ret_int {a b : Int} (h : a = b) : Ending.returned (.int .i64 a) = .returned (.int .i64 b) := by rw [h]
def hasB (xs : List Int) (x : Int) : Bool := (xs.findIdx? (fun X => (X == x))).isSome
theorem has_iff {xs : List Int} {x : Int} : hasB xs x = true ↔ x ∈ xs := by
  unfold hasB
  rw [Option.isSome_iff_ne_none, ne_eq, List.findIdx?_eq_none_iff]
  constructor
  · intro h
    apply Classical.byContradiction
    intro hx
    exact h (fun y hy => by rw [beq_eq_false_iff_ne]; intro e; subst e; exact hx hy)
  · intro h hn
    have := hn x h
    simp at this
theorem flip (xs : List Int) (x : Int) : xs.findIdx? (fun X => (x == X)) = xs.findIdx? (fun X => (X == x)) := by
  congr 1
  funext X
  rw [Bool.eq_iff_iff]
  simp only [beq_iff_eq]
  exact eq_comm
/-- all of them in a range, each greater than its neighbour -/
def RisOk (xs : List Int) (lo hi : Int) (i : Nat) : Prop := ∀ x, xs[i]? = some x → inB x lo hi = true ∧ ∀ p, 0 < i → xs[i - 1]? = some p → p < x
def RisP (xs : List Int) (lo hi : Int) : Prop := ∀ i, RisOk xs lo hi i
open Classical in
noncomputable def risB (xs : List Int) (lo hi : Int) : Bool := decide (RisP xs lo hi)
open Classical in
theorem ris_yes {xs : List Int} {lo hi : Int} (h : RisP xs lo hi) : risB xs lo hi = true := decide_eq_true h
open Classical in
theorem ris_no {xs : List Int} {lo hi : Int} (h : ¬ RisP xs lo hi) : risB xs lo hi = false := decide_eq_false h
open Classical in
theorem ris_of {xs : List Int} {lo hi : Int} (h : risB xs lo hi = true) : RisP xs lo hi := of_decide_eq_true h
/-- what the test at a place tells: true is bad -/
def Head (xs : List Int) (lo hi : Int) (i : Nat) (v : Bool) : Prop := (v = true → risB xs lo hi = false) ∧ (v = false → RisOk xs lo hi i)
theorem head_bad {xs : List Int} {lo hi : Int} {i : Nat} (h : ¬ RisOk xs lo hi i) : Head xs lo hi i true := ⟨fun _ => ris_no (fun g => h (g i)), (fun h => by cases h)⟩
theorem head_fine {xs : List Int} {lo hi : Int} {i : Nat} (h : RisOk xs lo hi i) : Head xs lo hi i false := ⟨(fun h => by cases h), fun _ => h⟩
theorem ris_next {xs : List Int} {lo hi : Int} {k : Nat} (hs : ∀ i, i < k → RisOk xs lo hi i) (h : RisOk xs lo hi k) : ∀ i, i < k + 1 → RisOk xs lo hi i := fun i hi => by
  rcases Nat.lt_or_ge i k with h' | h'
  · exact hs i h'
  · rwa [show i = k by omega]
set_option maxHeartbeats 400000 in
theorem l1Has (v0 : Value) (z0 : List LInt.R) (a1 : Int) (w : World) (h0 : Is LInt.rec w v0 z0) :
    Calls Try.prog 88 #[v0, .int .i64 a1] w fun e w' => e = .returned (.bool (hasB z0 a1)) ∧ w = w' := by
  obtain ⟨a, cp, rfl, h0⟩ := h0
  have hc := h0.at_ LInt.rec
  obtain ⟨n, hn⟩ : ∃ n, n = z0.length := ⟨_, rfl⟩
  have hnb : n ≤ cp := by have := h0.1; omega
  have hn2 := h0.2.1
  unfold maxLen at hn2
  have HN := Lib.hid hn.symm
  rw [← hn]
  have hnle : n ≤ z0.length := by omega
  clear hn h0
  go_enter Try.func88, Try.ntmps88
  go_wp2_with fail
  go_loop [5] (fun i => ∃ k : Nat, k ≤ n ∧ i = .int .i64 k ∧ Hid (Sq.First (fun X => (X == a1)) z0 k)) (fun i => n - (intOf i).toNat)
  case atStart => exact ⟨0, Nat.zero_le _, rfl, Lib.hid Sq.first_zero⟩
  case round =>
    obtain ⟨k, hk, rfl, HF⟩ := hrel
    by_cases hlt : k < n
    · have hx : k < z0.length := by omega
      obtain ⟨b, o, rfl, hbl, hcell0⟩ := hc.out k z0[k] (List.getElem?_eq_getElem hx)
      have q0 := LInt.cells (hcell0)
      simp only [LInt.rec_n, Nat.mul_one] at q0
      have HX := Lib.hid (List.getElem?_eq_getElem hx)
      clear hcell0
      generalize z0[k] = X at *
      cases g : (X == a1) with
      | true =>
        have HI := Lib.hid (Sq.first_hit HF.out HX.out g)
        go_wp2_with fail
        go_ret
        exact ⟨ret_bool (by unfold hasB; rw [HI.out]; rfl), rfl⟩
      | false =>
        have HF2 := Lib.hid (Sq.first_next HF.out HX.out g)
        go_wp2_with fail
        go_round
        case rel => exact ⟨k + 1, by omega, by go_num, HF2⟩
        case measure => simp [intOf]; omega
    · have HI := Lib.hid (Sq.first_none HF.out (by have := HN.out; omega))
      go_wp2_with fail
      go_ret
      exact ⟨ret_bool (by unfold hasB; rw [HI.out]; rfl), rfl⟩
end Go.Proofs.Ytbaflfbidgolfaa.IntF
namespace Go.Proofs.Ytbaflfbidgolfaa.RanV
open Go.RowKit Bs Word Sq IntF
set_option linter.unusedVariables false
set_option maxHeartbeats 400000 in
theorem vBig (a : Option Addr) (len cap : Nat) (w : World) : Calls Try.prog 50 #[.slice a len cap] w fun e w' => e = .returned (.bool (decide ((65536 : Int) < len))) ∧ w = w' := by
  go_enter Try.func50, Try.ntmps50
  go_wp2_with fail
  go_ret
  exact ⟨rfl, rfl⟩
set_option maxRecDepth 100000 in
set_option maxHeartbeats 800000 in
/-- two slices of the same rules -/
theorem vRules (v v' : Value) (xs : List LRule.R) (w : World) (h : Is LRule.rec w v xs) (h' : Is LRule.rec w v' xs) :
    Calls Try.prog 69 #[v, v'] w fun e w' => e = .returned (.bool true) ∧ Below w.heap.size w w' := by
  obtain ⟨a, cp, rfl, h⟩ := h
  obtain ⟨a', cp', rfl, h'⟩ := h'
  have hc := h.at_ LRule.rec
  have hc' := h'.at_ LRule.rec
  obtain ⟨n, hn⟩ : ∃ n, n = xs.length := ⟨_, rfl⟩
  have hnb : n ≤ cp := by have := h.1; omega
  have hnb' : n ≤ cp' := by have := h'.1; omega
  have h2 := h.2.1
  have h2' := h'.2.1
  unfold maxLen at h2 h2'
  rw [← hn]
  have hle : n ≤ xs.length := by omega
  clear hn h h'
  have hne : ((n : Int) != (n : Int)) = false := by simp
  go_enter Try.func69, Try.ntmps69
  go_wp2_with fail
  go_loopw [5] (fun i wr => ∃ k : Nat, k ≤ n ∧ i = .int .i64 k ∧ Below w.heap.size w wr) (fun i _ => n - (intOf i).toNat)
  case atStart => exact ⟨0, Nat.zero_le _, rfl, Below.refl _ _⟩
  case round =>
    obtain ⟨k, hk, rfl, hb⟩ := hrel
    by_cases hlt : k < n
    · have hx : k < xs.length := by omega
      obtain ⟨b, o, rfl, hbl, hcell0⟩ := hc.out k xs[k] (List.getElem?_eq_getElem hx)
      obtain ⟨b', o', rfl, hbl', hcell0'⟩ := hc'.out k xs[k] (List.getElem?_eq_getElem hx)
      obtain ⟨c0, c1, c2, c3, c4, c5, c6⟩ := LRule.cells (hcell0.below LRule.rec hb hbl)
      obtain ⟨d0, d1, d2, d3, d4, d5, d6⟩ := LRule.cells (hcell0'.below LRule.rec hb hbl')
      simp only [LRule.rec_n] at c0 c1 c2 c3 c4 c5 c6 d0 d1 d2 d3 d4 d5 d6
      clear hcell0 hcell0'
      generalize xs[k] = X at *
      have k0 : 0 ≤ (k : Int) := by omega
      have k1 : (k : Int) < (n : Int) := by omega
      go_wp2_with fail
      go_quiet (fail)
      have hb2 : Below w.heap.size w (wr.drewN nq) := hb.trans ((drawn_below _ _).mono hb.size)
      go_wp2_with fail
      go_roundw
      case rel => exact ⟨k + 1, by omega, by go_num, hb2⟩
      case measure => simp [intOf]; omega
    · go_wp2_with fail
      go_ret
      exact ⟨rfl, hb⟩
set_option maxRecDepth 100000 in
set_option maxHeartbeats 800000 in
/-- two slices of the same numbers -/
theorem vInts (v v' : Value) (xs : List Int) (w : World) (h : Is LInt.rec w v xs) (h' : Is LInt.rec w v' xs) :
    Calls Try.prog 53 #[v, v'] w fun e w' => e = .returned (.bool true) ∧ Below w.heap.size w w' := by
  obtain ⟨a, cp, rfl, h⟩ := h
  obtain ⟨a', cp', rfl, h'⟩ := h'
  have hc := h.at_ LInt.rec
  have hc' := h'.at_ LInt.rec
  obtain ⟨n, hn⟩ : ∃ n, n = xs.length := ⟨_, rfl⟩
  have hnb : n ≤ cp := by have := h.1; omega
  have hnb' : n ≤ cp' := by have := h'.1; omega
  have h2 := h.2.1
  have h2' := h'.2.1
  unfold maxLen at h2 h2'
  rw [← hn]
  have hle : n ≤ xs.length := by omega
  clear hn h h'
  have hne : ((n : Int) != (n : Int)) = false := by simp
  go_enter Try.func53, Try.ntmps53
  go_wp2_with fail
  go_loopw [5] (fun i wr => ∃ k : Nat, k ≤ n ∧ i = .int .i64 k ∧ Below w.heap.size w wr) (fun i _ => n - (intOf i).toNat)
  case atStart => exact ⟨0, Nat.zero_le _, rfl, Below.refl _ _⟩
  case round =>
    obtain ⟨k, hk, rfl, hb⟩ := hrel
    by_cases hlt : k < n
    · have hx : k < xs.length := by omega
      obtain ⟨b, o, rfl, hbl, hcell0⟩ := hc.out k xs[k] (List.getElem?_eq_getElem hx)
      obtain ⟨b', o', rfl, hbl', hcell0'⟩ := hc'.out k xs[k] (List.getElem?_eq_getElem hx)
      have c0 := LInt.cells (hcell0.below LInt.rec hb hbl)
      have d0 := LInt.cells (hcell0'.below LInt.rec hb hbl')
      simp only [LInt.rec_n, Nat.mul_one] at c0 d0
      clear hcell0 hcell0'
      generalize xs[k] = X at *
      have k0 : 0 ≤ (k : Int) := by omega
      have k1 : (k : Int) < (n : Int) := by omega
      go_wp2_with fail
      go_quiet (fail)
      have hb2 : Below w.heap.size w (wr.drewN nq) := hb.trans ((drawn_below _ _).mono hb.size)
      go_wp2_with fail
      go_roundw
      case rel => exact ⟨k + 1, by omega, by go_num, hb2⟩
      case measure => simp [intOf]; omega
    · go_wp2_with fail
      go_ret
      exact ⟨rfl, hb⟩
set_option maxHeartbeats 400000 in
theorem vHas (v0 : Value) (z0 : List LInt.R) (a1 : Int) (w : World) (h0 : Is LInt.rec w v0 z0) :
    Calls Try.prog 54 #[v0, .int .i64 a1] w fun e w' => e = .returned (.bool (hasB z0 a1)) ∧ w = w' := by
  obtain ⟨a, cp, rfl, h0⟩ := h0
  have hc := h0.at_ LInt.rec
  obtain ⟨n, hn⟩ : ∃ n, n = z0.length := ⟨_, rfl⟩
  have hnb : n ≤ cp := by have := h0.1; omega
  have hn2 := h0.2.1
  unfold maxLen at hn2
  have HN := Lib.hid hn.symm
  rw [← hn]
  have hnle : n ≤ z0.length := by omega
  clear hn h0
  go_enter Try.func54, Try.ntmps54
  go_wp2_with fail
  go_loop [5] (fun i => ∃ k : Nat, k ≤ n ∧ i = .int .i64 k ∧ Hid (Sq.First (fun X => (X == a1)) z0 k)) (fun i => n - (intOf i).toNat)
  case atStart => exact ⟨0, Nat.zero_le _, rfl, Lib.hid Sq.first_zero⟩
  case round =>
    obtain ⟨k, hk, rfl, HF⟩ := hrel
    by_cases hlt : k < n
    · have hx : k < z0.length := by omega
      obtain ⟨b, o, rfl, hbl, hcell0⟩ := hc.out k z0[k] (List.getElem?_eq_getElem hx)
      have q0 := LInt.cells (hcell0)
      simp only [LInt.rec_n, Nat.mul_one] at q0
      have HX := Lib.hid (List.getElem?_eq_getElem hx)
      clear hcell0
      generalize z0[k] = X at *
      cases g : (X == a1) with
      | true =>
        have HI := Lib.hid (Sq.first_hit HF.out HX.out g)
        go_wp2_with fail
        go_ret
        exact ⟨ret_bool (by unfold hasB; rw [HI.out]; rfl), rfl⟩
      | false =>
        have HF2 := Lib.hid (Sq.first_next HF.out HX.out g)
        go_wp2_with fail
        go_round
        case rel => exact ⟨k + 1, by omega, by go_num, HF2⟩
        case measure => simp [intOf]; omega
    · have HI := Lib.hid (Sq.first_none HF.out (by have := HN.out; omega))
      go_wp2_with fail
      go_ret
      exact ⟨ret_bool (by unfold hasB; rw [HI.out]; rfl), rfl⟩
end Go.Proofs.Ytbaflfbidgolfaa.RanV
namespace Go.Proofs.Ytbaflfbidgolfaa.StV
open Go.RowKit Bs
set_option linter.unusedVariables false
set_option maxRecDepth 100000 in
set_option maxHeartbeats 800000 in
/-- two slices of the same questions -/
theorem vQuestions (v v' : Value) (xs : List LQuestion.R) (w : World) (h : Is LQuestion.rec w v xs) (h' : Is LQuestion.rec w v' xs) :
    Calls Try.prog 52 #[v, v'] w fun e w' => e = .returned (.bool true) ∧ Below w.heap.size w w' := by
  obtain ⟨a, cp, rfl, h⟩ := h
  obtain ⟨a', cp', rfl, h'⟩ := h'
  have hc := h.at_ LQuestion.rec
  have hc' := h'.at_ LQuestion.rec
  obtain ⟨n, hn⟩ : ∃ n, n = xs.length := ⟨_, rfl⟩
  have hnb : n ≤ cp := by have := h.1; omega
  have hnb' : n ≤ cp' := by have := h'.1; omega
  have h2 := h.2.1
  have h2' := h'.2.1
  unfold maxLen at h2 h2'
  rw [← hn]
  have hle : n ≤ xs.length := by omega
  clear hn h h'
  have hne : ((n : Int) != (n : Int)) = false := by simp
  go_enter Try.func52, Try.ntmps52
  go_wp2_with fail
  go_loopw [5] (fun i wr => ∃ k : Nat, k ≤ n ∧ i = .int .i64 k ∧ Below w.heap.size w wr) (fun i _ => n - (intOf i).toNat)
  case atStart => exact ⟨0, Nat.zero_le _, rfl, Below.refl _ _⟩
  case round =>
    obtain ⟨k, hk, rfl, hb⟩ := hrel
    by_cases hlt : k < n
    · have hx : k < xs.length := by omega
      obtain ⟨b, o, rfl, hbl, hcell0⟩ := hc.out k xs[k] (List.getElem?_eq_getElem hx)
      obtain ⟨b', o', rfl, hbl', hcell0'⟩ := hc'.out k xs[k] (List.getElem?_eq_getElem hx)
      obtain ⟨c0, c1, c2⟩ := LQuestion.cells (hcell0.below LQuestion.rec hb hbl)
      obtain ⟨d0, d1, d2⟩ := LQuestion.cells (hcell0'.below LQuestion.rec hb hbl')
      simp only [LQuestion.rec_n] at c0 c1 c2 d0 d1 d2
      clear hcell0 hcell0'
      generalize xs[k] = X at *
      have k0 : 0 ≤ (k : Int) := by omega
      have k1 : (k : Int) < (n : Int) := by omega
      go_wp2_with fail
      go_quiet (fail)
      have hb2 : Below w.heap.size w (wr.drewN nq) := hb.trans ((drawn_below _ _).mono hb.size)
      go_wp2_with fail
      go_roundw
      case rel => exact ⟨k + 1, by omega, by go_num, hb2⟩
      case measure => simp [intOf]; omega
    · go_wp2_with fail
      go_ret
      exact ⟨rfl, hb⟩
set_option maxRecDepth 100000 in
set_option maxHeartbeats 800000 in
/-- two slices of the same texts -/
theorem vTexts (v v' : Value) (xs : List ByteArray) (w : World) (h : Is LString.rec w v xs) (h' : Is LString.rec w v' xs) :
    Calls Try.prog 62 #[v, v'] w fun e w' => e = .returned (.bool true) ∧ Below w.heap.size w w' := by
  obtain ⟨a, cp, rfl, h⟩ := h
  obtain ⟨a', cp', rfl, h'⟩ := h'
  have hc := h.at_ LString.rec
  have hc' := h'.at_ LString.rec
  obtain ⟨n, hn⟩ : ∃ n, n = xs.length := ⟨_, rfl⟩
  have hnb : n ≤ cp := by have := h.1; omega
  have hnb' : n ≤ cp' := by have := h'.1; omega
  have h2 := h.2.1
  have h2' := h'.2.1
  unfold maxLen at h2 h2'
  rw [← hn]
  have hle : n ≤ xs.length := by omega
  clear hn h h'
  have hne : ((n : Int) != (n : Int)) = false := by simp
  go_enter Try.func62, Try.ntmps62
  go_wp2_with fail
  go_loopw [5] (fun i wr => ∃ k : Nat, k ≤ n ∧ i = .int .i64 k ∧ Below w.heap.size w wr) (fun i _ => n - (intOf i).toNat)
  case atStart => exact ⟨0, Nat.zero_le _, rfl, Below.refl _ _⟩
  case round =>
    obtain ⟨k, hk, rfl, hb⟩ := hrel
    by_cases hlt : k < n
    · have hx : k < xs.length := by omega
      obtain ⟨b, o, rfl, hbl, hcell0⟩ := hc.out k xs[k] (List.getElem?_eq_getElem hx)
      obtain ⟨b', o', rfl, hbl', hcell0'⟩ := hc'.out k xs[k] (List.getElem?_eq_getElem hx)
      have c0 := LString.cells (hcell0.below LString.rec hb hbl)
      have d0 := LString.cells (hcell0'.below LString.rec hb hbl')
      simp only [LString.rec_n, Nat.mul_one] at c0 d0
      clear hcell0 hcell0'
      generalize xs[k] = X at *
      have k0 : 0 ≤ (k : Int) := by omega
      have k1 : (k : Int) < (n : Int) := by omega
      have hxx : (X.toList != X.toList) = false := by simp
      go_wp2_with fail
      go_quiet (fail)
      have hb2 : Below w.heap.size w (wr.drewN nq) := hb.trans ((drawn_below _ _).mono hb.size)
      go_wp2_with fail
      go_roundw
      case rel => exact ⟨k + 1, by omega, by go_num, hb2⟩
      case measure => simp [intOf]; omega
    · go_wp2_with fail
      go_ret
      exact ⟨rfl, hb⟩
end Go.Proofs.Ytbaflfbidgolfaa.StV
namespace Go.Proofs.Ytbaflfbidgolfaa.Valid
open Go.RowKit Rule
set_option linter.unusedVariables false

theorem in_yes (x a b : Int) (w : World) (h1 : a ≤ x) (h2 : x ≤ b) :
    Calls Try.prog 108 #[.int .i64 x, .int .i64 a, .int .i64 b] w fun e w' => e = .returned (.bool true) ∧ w = w' := by
  go_enter Try.func108, Try.ntmps108
  go_wp2
  go_ret
  exact ⟨rfl, rfl⟩
theorem in_no (x a b : Int) (w : World) (h : ¬ (a ≤ x ∧ x ≤ b)) :
    Calls Try.prog 108 #[.int .i64 x, .int .i64 a, .int .i64 b] w fun e w' => e = .returned (.bool false) ∧ w = w' := by
  by_cases h1 : a ≤ x
  · have h2 : ¬ x ≤ b := by omega
    go_enter Try.func108, Try.ntmps108
    go_wp2
    go_ret
    exact ⟨rfl, rfl⟩
  · go_enter Try.func108, Try.ntmps108
    go_wp2
    go_ret
    exact ⟨rfl, rfl⟩

set_option maxHeartbeats 400000 in
theorem l2Word (s : ByteArray) (w : World) (hs : s.size ≤ maxLen) :
    Calls Try.prog 135 #[.string s] w fun e w' => e = .returned (.bool (isWordB s)) ∧ w = w' := by
  unfold maxLen at hs
  go_enter Try.func135, Try.ntmps135
  go_wp2_with fail
  go_loop [3] (fun i => ∃ k : Nat, k ≤ s.size ∧ i = .int .i64 k ∧ Hid (allAz (s.data.toList.take k) = true)) (fun i => s.size - (intOf i).toNat)
  case atStart => exact ⟨0, Nat.zero_le _, rfl, rfl⟩
  case round =>
    obtain ⟨k, hk, rfl, HA⟩ := hrel
    by_cases hlt : k < s.size
    · by_cases h1 : 97 ≤ s[k].toNat
      · by_cases h2 : s[k].toNat ≤ 122
        · have HN := Lib.hid (az_next s k hlt HA.out (by simp [az, h1, h2]))
          go_wp2_with fail
          go_round
          case rel => exact ⟨k + 1, by omega, by go_num, HN⟩
          case measure => simp [intOf]; omega
        · have HN := Lib.hid (word_no (az_bad s k hlt (by simp [az, h2])))
          go_wp2_with fail
          go_ret
          exact ⟨ret_bool HN.out.symm, rfl⟩
      · have HN := Lib.hid (word_no (az_bad s k hlt (by simp [az, h1])))
        go_wp2_with fail
        go_ret
        exact ⟨ret_bool HN.out.symm, rfl⟩
    · have HN := Lib.hid (az_all s k (by omega) HA.out)
      by_cases hl : 1 ≤ s.size ∧ s.size ≤ 10
      · obtain ⟨g1, g2⟩ := hl
        have HW := Lib.hid (word_yes g1 g2 HN.out)
        go_wp2_with fail
        refine (in_yes _ _ _ _ (by omega) (by omega)).mono ?_
        rintro e w' ⟨rfl, rfl⟩
        go_wp2_with fail
        go_ret
        exact ⟨ret_bool HW.out.symm, rfl⟩
      · have HW := Lib.hid (word_len hl)
        have HL := Lib.hid hl
        clear hl
        go_wp2_with fail
        refine (in_no _ _ _ _ (by have := HL.out; omega)).mono ?_
        rintro e w' ⟨rfl, rfl⟩
        go_wp2_with fail
        go_ret
        exact ⟨ret_bool HW.out.symm, rfl⟩

set_option maxHeartbeats 400000 in
theorem isWord (s : ByteArray) (w : World) (hs : s.size ≤ maxLen) :
    Calls Try.prog 122 #[.string s] w fun e w' => e = .returned (.bool (isWordB s)) ∧ w = w' := by
  unfold maxLen at hs
  by_cases hl : 1 ≤ s.size ∧ s.size ≤ 10
  · obtain ⟨g1, g2⟩ := hl
    have g0 : ((s.size : Int) == 0) = false := by rw [beq_eq_false_iff_ne]; omega
    go_enter Try.func122, Try.ntmps122
    go_wp2_with fail
    go_loop [14] (fun i => ∃ k : Nat, k ≤ s.size ∧ i = .int .i64 k ∧ Hid (allAz (s.data.toList.take k) = true)) (fun i => s.size - (intOf i).toNat)
    case atStart => exact ⟨0, Nat.zero_le _, rfl, rfl⟩
    case round =>
      obtain ⟨k, hk, rfl, HA⟩ := hrel
      by_cases hlt : k < s.size
      · by_cases h1 : 97 ≤ s[k].toNat
        · by_cases h2 : s[k].toNat ≤ 122
          · have HN := Lib.hid (az_next s k hlt HA.out (by simp [az, h1, h2]))
            go_wp2_with fail
            go_round
            case rel => exact ⟨k + 1, by omega, by go_num, HN⟩
            case measure => simp [intOf]; omega
          · have HN := Lib.hid (word_no (az_bad s k hlt (by simp [az, h2])))
            go_wp2_with fail
            go_ret
            exact ⟨ret_bool HN.out.symm, rfl⟩
        · have HN := Lib.hid (word_no (az_bad s k hlt (by simp [az, h1])))
          go_wp2_with fail
          go_ret
          exact ⟨ret_bool HN.out.symm, rfl⟩
      · have HN := Lib.hid (az_all s k (by omega) HA.out)
        have HW := Lib.hid (word_yes g1 g2 HN.out)
        go_wp2_with fail
        go_ret
        exact ⟨ret_bool HW.out.symm, rfl⟩
  · have HW := Lib.hid (word_len hl)
    by_cases hz : s.size = 0
    · have g0 : ((s.size : Int) == 0) = true := by rw [beq_iff_eq]; omega
      clear hl hz
      go_enter Try.func122, Try.ntmps122
      go_wp2_with fail
      go_ret
      exact ⟨ret_bool HW.out.symm, rfl⟩
    · have g0 : ((s.size : Int) == 0) = false := by rw [beq_eq_false_iff_ne]; omega
      have g1 : 10 < s.size := by omega
      clear hl hz
      go_enter Try.func122, Try.ntmps122
      go_wp2_with fail
      go_ret
      exact ⟨ret_bool HW.out.symm, rfl⟩

def needS (n : Int) : ByteArray := if n = 1 then ⟨#[109, 97, 106, 111, 114, 105, 116, 121]⟩ else if n = 2 then ⟨#[116, 119, 111, 45, 116, 104, 105, 114, 100, 115]⟩ else if n = 3 then ⟨#[97, 108, 108]⟩ else ⟨#[]⟩
theorem ret_str {a b : ByteArray} (h : a = b) : Ending.returned (.string a) = .returned (.string b) := by rw [h]
set_option maxHeartbeats 400000 in
theorem needWord (n : Int) (w : World) :
    Calls Try.prog 123 #[.int .i64 n] w fun e w' => e = .returned (.string (needS n)) ∧ w = w' := by
  by_cases h1 : n = 1
  · subst h1
    go_enter Try.func123, Try.ntmps123
    go_wp2_with fail
    go_ret
    exact ⟨ret_str rfl, rfl⟩
  · by_cases h2 : n = 2
    · subst h2
      go_enter Try.func123, Try.ntmps123
      go_wp2_with fail
      go_ret
      exact ⟨ret_str rfl, rfl⟩
    · by_cases h3 : n = 3
      · subst h3
        go_enter Try.func123, Try.ntmps123
        go_wp2_with fail
        go_ret
        exact ⟨ret_str rfl, rfl⟩
      · have H := Lib.hid (show needS n = ⟨#[]⟩ by unfold needS; rw [if_neg h1, if_neg h2, if_neg h3])
        have g1 : (n == 1) = false := by simpa using h1
        have g2 : (n == 2) = false := by simpa using h2
        have g3 : (n == 3) = false := by simpa using h3
        clear h1 h2 h3
        go_enter Try.func123, Try.ntmps123
        go_wp2_with fail
        go_ret
        exact ⟨ret_str H.out.symm, rfl⟩
theorem need_empty (n : Int) (h : ¬ (1 ≤ n ∧ n ≤ 3)) : needS n = ⟨#[]⟩ := by
  unfold needS; rw [if_neg (by omega), if_neg (by omega), if_neg (by omega)]
theorem need_full (n : Int) (h : 1 ≤ n ∧ n ≤ 3) : (needS n).toList.isEmpty = false := by
  have : n = 1 ∨ n = 2 ∨ n = 3 := by omega
  rw [ByteArray.toList_eq]
  rcases this with rfl | rfl | rfl <;> rfl
theorem ok_mk {r : R} (h1 : 1 ≤ r.id ∧ r.id ≤ 20) (h2 : isWordB r.name = true) (h3 : 0 ≤ r.rank ∧ r.rank ≤ 9) (h4 : 1 ≤ r.need ∧ r.need ≤ 3) : okB r = true := decide_eq_true ⟨h1, h2, h3, h4⟩
theorem ok_no {r : R} (h : ¬ OkR r) : okB r = false := decide_eq_false h

set_option maxHeartbeats 400000 in
theorem l2Single (r : R) (w : World) (hs : r.name.size ≤ maxLen) :
    Calls Try.prog 119 #[.agg #[.int .i64 r.id, .string r.name, .int .i64 r.rank, .bool r.sec, .bool r.deb, .bool r.am, .int .i64 r.need]] w fun e w' => e = .returned (.bool (okB r)) ∧ Below w.heap.size w w' := by
  have HS := Lib.hid hs
  clear hs
  by_cases h1 : 1 ≤ r.id ∧ r.id ≤ 20
  · obtain ⟨a1, a2⟩ := h1
    by_cases h2 : isWordB r.name = true
    · have H2 := Lib.hid h2
      by_cases h3 : 0 ≤ r.rank ∧ r.rank ≤ 9
      · obtain ⟨b1, b2⟩ := h3
        by_cases h4 : 1 ≤ r.need ∧ r.need ≤ 3
        · obtain ⟨c1, c2⟩ := h4
          have HO := Lib.hid (ok_mk ⟨a1, a2⟩ h2 ⟨b1, b2⟩ ⟨c1, c2⟩)
          clear h2
          go_enter Try.func119, Try.ntmps119
          go_wp2_with fail
          refine (in_yes _ _ _ _ (by omega) (by omega)).mono ?_
          rintro e w' ⟨rfl, rfl⟩
          go_wp2_with fail
          refine (l2Word _ _ HS.out).mono ?_
          rintro e w' ⟨rfl, rfl⟩
          rw [H2.out]
          go_wp2_with fail
          refine (in_yes _ _ _ _ (by omega) (by omega)).mono ?_
          rintro e w' ⟨rfl, rfl⟩
          go_wp2_with fail
          refine (in_yes _ _ _ _ (by omega) (by omega)).mono ?_
          rintro e w' ⟨rfl, rfl⟩
          go_wp2_with fail
          go_ret
          exact ⟨ret_bool HO.out.symm, (Below.refl _ _).alloc (Nat.le_refl _) _⟩
        · have HO := Lib.hid (ok_no (r := r) (fun h => h4 h.2.2.2))
          have H4 := Lib.hid h4
          clear h2 h4
          go_enter Try.func119, Try.ntmps119
          go_wp2_with fail
          refine (in_yes _ _ _ _ (by omega) (by omega)).mono ?_
          rintro e w' ⟨rfl, rfl⟩
          go_wp2_with fail
          refine (l2Word _ _ HS.out).mono ?_
          rintro e w' ⟨rfl, rfl⟩
          rw [H2.out]
          go_wp2_with fail
          refine (in_yes _ _ _ _ (by omega) (by omega)).mono ?_
          rintro e w' ⟨rfl, rfl⟩
          go_wp2_with fail
          refine (in_no _ _ _ _ H4.out).mono ?_
          rintro e w' ⟨rfl, rfl⟩
          go_wp2_with fail
          go_ret
          exact ⟨ret_bool HO.out.symm, (Below.refl _ _).alloc (Nat.le_refl _) _⟩
      · have HO := Lib.hid (ok_no (r := r) (fun h => h3 h.2.2.1))
        have H3 := Lib.hid h3
        clear h2 h3
        go_enter Try.func119, Try.ntmps119
        go_wp2_with fail
        refine (in_yes _ _ _ _ (by omega) (by omega)).mono ?_
        rintro e w' ⟨rfl, rfl⟩
        go_wp2_with fail
        refine (l2Word _ _ HS.out).mono ?_
        rintro e w' ⟨rfl, rfl⟩
        rw [H2.out]
        go_wp2_with fail
        refine (in_no _ _ _ _ H3.out).mono ?_
        rintro e w' ⟨rfl, rfl⟩
        go_wp2_with fail
        go_ret
        exact ⟨ret_bool HO.out.symm, (Below.refl _ _).alloc (Nat.le_refl _) _⟩
    · have HO := Lib.hid (ok_no (r := r) (fun h => h2 h.2.1))
      have H2 := Lib.hid (Bool.eq_false_iff.2 h2)
      clear h2
      go_enter Try.func119, Try.ntmps119
      go_wp2_with fail
      refine (in_yes _ _ _ _ (by omega) (by omega)).mono ?_
      rintro e w' ⟨rfl, rfl⟩
      go_wp2_with fail
      refine (l2Word _ _ HS.out).mono ?_
      rintro e w' ⟨rfl, rfl⟩
      rw [H2.out]
      go_wp2_with fail
      go_ret
      exact ⟨ret_bool HO.out.symm, (Below.refl _ _).alloc (Nat.le_refl _) _⟩
  · have HO := Lib.hid (ok_no (r := r) (fun h => h1 h.1))
    have H1 := Lib.hid h1
    clear h1
    go_enter Try.func119, Try.ntmps119
    go_wp2_with fail
    refine (in_no _ _ _ _ H1.out).mono ?_
    rintro e w' ⟨rfl, rfl⟩
    go_wp2_with fail
    go_ret
    exact ⟨ret_bool HO.out.symm, (Below.refl _ _).alloc (Nat.le_refl _) _⟩

set_option maxHeartbeats 800000 in
theorem implValid (r : R) (w : World) (hs : r.name.size ≤ maxLen) :
    Calls Try.prog 112 #[.agg #[.int .i64 r.id, .string r.name, .int .i64 r.rank, .bool r.sec, .bool r.deb, .bool r.am, .int .i64 r.need]] w fun e w' => e = .returned (.bool (okB r)) ∧ Below w.heap.size w w' := by
  have HS := Lib.hid hs
  clear hs
  by_cases a1 : 1 ≤ r.id
  · by_cases a2 : r.id ≤ 20
    · by_cases h2 : isWordB r.name = true
      · have H2 := Lib.hid h2
        by_cases b1 : 0 ≤ r.rank
        · by_cases b2 : r.rank ≤ 9
          · by_cases h4 : 1 ≤ r.need ∧ r.need ≤ 3
            · have HO := Lib.hid (ok_mk ⟨a1, a2⟩ h2 ⟨b1, b2⟩ h4)
              have hn := need_full r.need h4
              clear h2 h4
              go_enter Try.func112, Try.ntmps112
              go_wp2_with fail
              refine (isWord _ _ HS.out).mono ?_
              rintro e w' ⟨rfl, rfl⟩
              rw [H2.out]
              go_wp2_with fail
              refine (needWord _ _).mono ?_
              rintro e w' ⟨rfl, rfl⟩
              go_wp2_with fail
              go_ret
              exact ⟨ret_bool HO.out.symm, (Below.refl _ _).alloc (Nat.le_refl _) _⟩
            · have HO := Lib.hid (ok_no (r := r) (fun h => h4 h.2.2.2))
              have HN := Lib.hid (need_empty r.need h4)
              clear h2 h4
              go_enter Try.func112, Try.ntmps112
              go_wp2_with fail
              refine (isWord _ _ HS.out).mono ?_
              rintro e w' ⟨rfl, rfl⟩
              rw [H2.out]
              go_wp2_with fail
              refine (needWord _ _).mono ?_
              rintro e w' ⟨rfl, rfl⟩
              rw [HN.out]
              go_wp2_with fail
              go_ret
              exact ⟨ret_bool HO.out.symm, (Below.refl _ _).alloc (Nat.le_refl _) _⟩
          · have HO := Lib.hid (ok_no (r := r) (fun h => b2 h.2.2.1.2))
            clear h2
            go_enter Try.func112, Try.ntmps112
            go_wp2_with fail
            refine (isWord _ _ HS.out).mono ?_
            rintro e w' ⟨rfl, rfl⟩
            rw [H2.out]
            go_wp2_with fail
            go_ret
            exact ⟨ret_bool HO.out.symm, (Below.refl _ _).alloc (Nat.le_refl _) _⟩
        · have HO := Lib.hid (ok_no (r := r) (fun h => b1 h.2.2.1.1))
          clear h2
          go_enter Try.func112, Try.ntmps112
          go_wp2_with fail
          refine (isWord _ _ HS.out).mono ?_
          rintro e w' ⟨rfl, rfl⟩
          rw [H2.out]
          go_wp2_with fail
          go_ret
          exact ⟨ret_bool HO.out.symm, (Below.refl _ _).alloc (Nat.le_refl _) _⟩
      · have HO := Lib.hid (ok_no (r := r) (fun h => h2 h.2.1))
        have H2 := Lib.hid (Bool.eq_false_iff.2 h2)
        clear h2
        go_enter Try.func112, Try.ntmps112
        go_wp2_with fail
        refine (isWord _ _ HS.out).mono ?_
        rintro e w' ⟨rfl, rfl⟩
        rw [H2.out]
        go_wp2_with fail
        go_ret
        exact ⟨ret_bool HO.out.symm, (Below.refl _ _).alloc (Nat.le_refl _) _⟩
    · have HO := Lib.hid (ok_no (r := r) (fun h => a2 h.1.2))
      go_enter Try.func112, Try.ntmps112
      go_wp2_with fail
      go_ret
      exact ⟨ret_bool HO.out.symm, (Below.refl _ _).alloc (Nat.le_refl _) _⟩
  · have HO := Lib.hid (ok_no (r := r) (fun h => a1 h.1.1))
    go_enter Try.func112, Try.ntmps112
    go_wp2_with fail
    go_ret
    exact ⟨ret_bool HO.out.symm, (Below.refl _ _).alloc (Nat.le_refl _) _⟩
end Go.Proofs.Ytbaflfbidgolfaa.Valid
namespace Go.Proofs.Ytbaflfbidgolfaa.Gd
open Go.RowKit Rule
set_option linter.unusedVariables false

/-- the rule at place i is valid, its id is greater than that of its neighbour, its name is new -/
def Step (xs : List R) (i : Nat) : Prop := ∃ r, xs[i]? = some r ∧ okB r = true ∧ (∀ p, 0 < i → xs[i - 1]? = some p → p.id < r.id) ∧ ∀ k q, k < i → xs[k]? = some q → q.name ≠ r.name
def GoodP (xs : List R) : Prop := xs.length ≤ 8 ∧ ∀ i, i < xs.length → Step xs i
open Classical in
noncomputable def goodB (xs : List R) : Bool := decide (GoodP xs)
open Classical in
theorem good_yes {xs : List R} (h : GoodP xs) : goodB xs = true := decide_eq_true h
open Classical in
theorem good_no {xs : List R} (h : ¬ GoodP xs) : goodB xs = false := decide_eq_false h
open Classical in
theorem good_of {xs : List R} (h : goodB xs = true) : GoodP xs := of_decide_eq_true h
theorem no_step {xs : List R} {i : Nat} (hi : i < xs.length) (h : ¬ Step xs i) : goodB xs = false := good_no fun g => h (g.2 i hi)
theorem no_ok {xs : List R} {i : Nat} (hi : i < xs.length) (h : okB xs[i] = false) : goodB xs = false := no_step hi fun ⟨r, hr, ho, _⟩ => by
  rw [List.getElem?_eq_getElem hi] at hr
  rw [← Option.some.inj hr, h] at ho
  cases ho
theorem no_id {xs : List R} {i : Nat} (hi : i < xs.length) (h0 : 0 < i) (h : ¬ (xs[i - 1]).id < (xs[i]).id) : goodB xs = false := no_step hi fun ⟨r, hr, _, ho, _⟩ => by
  rw [List.getElem?_eq_getElem hi] at hr
  have := ho _ h0 (List.getElem?_eq_getElem (by omega))
  rw [← Option.some.inj hr] at this
  exact h this
theorem no_name {xs : List R} {i k : Nat} (hi : i < xs.length) (hk : k < i) (h : (xs[k]).name = (xs[i]).name) : goodB xs = false := no_step hi fun ⟨r, hr, _, _, ho⟩ => by
  rw [List.getElem?_eq_getElem hi] at hr
  have := ho k _ hk (List.getElem?_eq_getElem (by omega))
  rw [← Option.some.inj hr] at this
  exact this h
theorem no_len {xs : List R} (h : 8 < xs.length) : goodB xs = false := good_no fun g => by have := g.1; omega
theorem step_mk {xs : List R} {i : Nat} (hi : i < xs.length) (h1 : okB xs[i] = true) (h2 : (h0 : 0 < i) → (xs[i - 1]).id < (xs[i]).id) (h3 : ∀ k (hk : k < i), (xs[k]).name ≠ (xs[i]).name) : Step xs i :=
  ⟨xs[i], List.getElem?_eq_getElem hi, h1, fun p h0 hp => by rw [List.getElem?_eq_getElem (by omega)] at hp; rw [← Option.some.inj hp]; exact h2 h0,
    fun k q hk hq => by rw [List.getElem?_eq_getElem (by omega)] at hq; rw [← Option.some.inj hq]; exact h3 k hk⟩
theorem single_as (r : R) (b : Bool) (h : okB r = b) (hs : r.name.size ≤ maxLen) (w : World) :
    Calls Try.prog 119 #[.agg #[.int .i64 r.id, .string r.name, .int .i64 r.rank, .bool r.sec, .bool r.deb, .bool r.am, .int .i64 r.need]] w fun e w' => e = .returned (.bool b) ∧ Below w.heap.size w w' := by
  subst h; exact Valid.l2Single r w hs
theorem impl_as (r : R) (b : Bool) (h : okB r = b) (hs : r.name.size ≤ maxLen) (w : World) :
    Calls Try.prog 112 #[.agg #[.int .i64 r.id, .string r.name, .int .i64 r.rank, .bool r.sec, .bool r.deb, .bool r.am, .int .i64 r.need]] w fun e w' => e = .returned (.bool b) ∧ Below w.heap.size w w' := by
  subst h; exact Valid.implValid r w hs
def GoodPost (xs : List R) (w : World) (e : Ending) (w' : World) : Prop := e = .returned (.bool (goodB xs)) ∧ Below w.heap.size w w'
theorem seen_bad {xs : List R} {w w' : World} (h : goodB xs = false) (hb : Below w.heap.size w w') : GoodPost xs w (.returned (.bool false)) w' := ⟨by rw [h], hb⟩
/-- facts of a rule in all worlds that only grew -/
theorem grown_cells {w : World} {b p : Nat} {r : R} (h : At w b p r) (hl : b < w.heap.size) : Hid (∀ d os, At (Sort.grow (redrawn w d) os) b p r) := fun d os => h.regrown hl d os

theorem no_name2 {xs : List R} {i k : Nat} {X P : R} (hi : xs[i]? = some X) (hp : xs[k]? = some P) (hk : k < i) (h : P.name = X.name) : goodB xs = false :=
  no_step (List.getElem?_eq_some_iff.1 hi).1 fun ⟨r, hr, _, _, ho⟩ => by
    rw [hi] at hr
    have := ho k _ hk hp
    rw [← Option.some.inj hr] at this
    exact this h
theorem steps_next {xs : List R} {k : Nat} (hs : ∀ i, i < k → Step xs i) (h : Step xs k) : ∀ i, i < k + 1 → Step xs i := fun i hi => by
  rcases Nat.lt_or_ge i k with h' | h'
  · exact hs i h'
  · rwa [show i = k by omega]
set_option maxHeartbeats 1600000 in
theorem l2Good (a : Option Addr) (n cp : Nat) (xs : List R) (w : World) (hn : xs.length = n) (h : RulesAt w a cp xs) (hsz : ∀ x ∈ xs, x.name.size ≤ maxLen) :
    Calls Try.prog 103 #[.slice a n cp] w (GoodPost xs w) := by
  have hc := h.at_
  obtain ⟨h1, h2, h3⟩ := h
  unfold maxLen at h2
  have HN := Lib.hid hn
  have HSZ := Lib.hid hsz
  have hnb : n ≤ cp := by omega
  have hle : n ≤ xs.length := by omega
  clear hn h1 h3 hsz
  go_enter Try.func103, Try.ntmps103
  go_wp2_with fail
  go_loopw [3] (fun i wr => ∃ k : Nat, k ≤ n ∧ i = .int .i64 k ∧ Below w.heap.size w wr ∧ Hid (∀ i, i < k → Step xs i)) (fun i _ => n - (intOf i).toNat)
  case atStart => exact ⟨0, Nat.zero_le _, rfl, Below.refl _ _, Lib.hid (fun i hi => by omega)⟩
  case round =>
    obtain ⟨k, hk, rfl, hb, HS⟩ := hrel
    by_cases hlt : k < n
    · by_cases h8 : k ≤ 8
      · have hx : k < xs.length := by omega
        obtain ⟨b, o, rfl, hbl, hcell0⟩ := hc.out k xs[k] (List.getElem?_eq_getElem hx)
        have hq := hcell0.below hb hbl
        have g1 := Nat.lt_of_lt_of_le hbl hb.size
        have hxs := Lib.hid (HSZ.out xs[k] (List.getElem_mem hx))
        have HG := grown_cells hq g1
        have HCX := Lib.hid hcell0
        have HX := Lib.hid (List.getElem?_eq_getElem hx)
        have k0 : 0 ≤ (k : Int) := by omega
        have k1 : (k : Int) < (n : Int) := by omega
        clear hcell0 hq
        cases hok : okB xs[k] with
        | false =>
          have HB := Lib.hid (no_ok hx hok)
          have HC := Lib.hid (fun W => single_as xs[k] false hok hxs.out W)
          clear hok
          generalize xs[k] = X at *
          have c0 := fun d os => (HG.out d os).1
          have c1 := fun d os => (HG.out d os).2.1
          have c2 := fun d os => (HG.out d os).2.2.1
          have c3 := fun d os => (HG.out d os).2.2.2.1
          have c4 := fun d os => (HG.out d os).2.2.2.2.1
          have c5 := fun d os => (HG.out d os).2.2.2.2.2.1
          have c6 := fun d os => (HG.out d os).2.2.2.2.2.2
          go_wp2_with fail
          refine wp_region_quiet_below (by kernel_rfl) (by kernel_rfl) ?_
          repeat (go_big_quiet_step ((go_at_call 119; exact Calls.regrown_of (HC.out _))))
          refine wpQuiet_nil ?_
          intro _ hw'
          obtain ⟨⟨dq, osq⟩, hw''⟩ := hw'
          subst hw''
          have hb2 : Below w.heap.size w (Sort.grow (redrawn wr dq) osq) := hb.trans ((below_regrown wr dq osq).mono hb.size)
          clear c0 c1 c2 c3 c4 c5 c6
          go_wp2_with fail
          go_ret
          exact seen_bad HB.out hb2
        | true =>
          have HOK := Lib.hid hok
          have HC := Lib.hid (fun W => single_as xs[k] true hok hxs.out W)
          clear hok
          by_cases hz : k = 0
          · have HID := Lib.hid (show ∀ p, 0 < k → xs[k - 1]? = some p → p.id < xs[k].id from fun p h0 => by omega)
            have hd : decide (0 < (k : Int)) = false := by simp; omega
            have hd2 : decide (0 < k) = false := by simp; omega
            clear hz
            generalize xs[k] = X at *
            have c0 := fun d os => (HG.out d os).1
            have c1 := fun d os => (HG.out d os).2.1
            have c2 := fun d os => (HG.out d os).2.2.1
            have c3 := fun d os => (HG.out d os).2.2.2.1
            have c4 := fun d os => (HG.out d os).2.2.2.2.1
            have c5 := fun d os => (HG.out d os).2.2.2.2.2.1
            have c6 := fun d os => (HG.out d os).2.2.2.2.2.2
            go_wp2_with fail
            refine wp_region_quiet_below (by kernel_rfl) (by kernel_rfl) ?_
            repeat (go_big_quiet_step ((go_at_call 119; exact Calls.regrown_of (HC.out _))))
            refine wpQuiet_nil ?_
            intro _ hw'
            obtain ⟨⟨dq, osq⟩, hw''⟩ := hw'
            subst hw''
            have hb2 : Below w.heap.size w (Sort.grow (redrawn wr dq) osq) := hb.trans ((below_regrown wr dq osq).mono hb.size)
            clear c0 c1 c2 c3 c4 c5 c6 HG hd hd2
            generalize Sort.grow (redrawn wr dq) osq = wo at *
            clear hb
            go_wp2_with fail
            go_loopw [4] (fun j ws => ∃ m : Nat, m ≤ k ∧ j = .int .i64 m ∧ Below w.heap.size w ws ∧ Hid (∀ q p, q < m → xs[q]? = some p → p.name ≠ X.name)) (fun j _ => k - (intOf j).toNat)
            case atStart => exact ⟨0, Nat.zero_le _, rfl, hb2, Lib.hid (fun q p hq => by omega)⟩
            case round =>
              clear hb2
              obtain ⟨m, hm, rfl, hbs, HM⟩ := hrel
              by_cases hmk : m < k
              · have hxm : m < xs.length := by omega
                obtain ⟨b', o', he, hbl', hcell1⟩ := hc.out m xs[m] (List.getElem?_eq_getElem hxm)
                simp only [Option.some.injEq, Addr.mk.injEq, and_true] at he
                obtain ⟨rfl, rfl⟩ := he
                have HP := Lib.hid (List.getElem?_eq_getElem hxm)
                have d1 := (hcell1.below hbs hbl).2.1
                have d2 := (HCX.out.below hbs hbl).2.1
                have m0 : 0 ≤ (m : Int) := by omega
                have m1 : (m : Int) < (n : Int) := by omega
                clear hcell1
                generalize xs[m] = P at *
                by_cases hname : P.name = X.name
                · have HB := Lib.hid (no_name2 HX.out HP.out hmk hname)
                  have hbe : (P.name.toList == X.name.toList) = true := by rw [hname]; simp
                  clear hname
                  go_wp2_with fail
                  go_quiet (fail)
                  have hb3 : Below w.heap.size w (wr.drewN nq) := hbs.trans ⟨rfl, rfl, rfl, Nat.le_refl _, fun _ _ => rfl⟩
                  go_wp2_with fail
                  go_ret
                  exact seen_bad HB.out hb3
                · have HM2 := Lib.hid (show ∀ q p, q < m + 1 → xs[q]? = some p → p.name ≠ X.name from fun q p hq hp => by
                    rcases Nat.lt_or_ge q m with h' | h'
                    · exact HM.out q p h' hp
                    · obtain rfl : q = m := by omega
                      rw [HP.out] at hp
                      rw [← Option.some.inj hp]
                      exact hname)
                  have hbe : (P.name.toList == X.name.toList) = false := by
                    rw [beq_eq_false_iff_ne]
                    intro e
                    rw [ByteArray.toList_eq, ByteArray.toList_eq] at e
                    exact hname (ByteArray.ext (Array.ext' e))
                  clear hname
                  go_wp2_with fail
                  go_quiet (fail)
                  have hb3 : Below w.heap.size w (wr.drewN nq) := hbs.trans ⟨rfl, rfl, rfl, Nat.le_refl _, fun _ _ => rfl⟩
                  go_wp2_with fail
                  go_roundw
                  case rel => exact ⟨m + 1, by omega, by go_num, hb3, HM2⟩
                  case measure => simp [intOf]; omega
              · obtain rfl : m = k := by omega
                have HST := Lib.hid (steps_next HS.out ⟨X, HX.out, HOK.out, HID.out, HM.out⟩)
                go_wp2_with fail
                go_roundw
                case rel => exact ⟨m + 1, by omega, by go_num, hbs, HST⟩
                case measure => simp [intOf]; omega
          · have h0 : 0 < k := by omega
            have hxp : k - 1 < xs.length := by omega
            obtain ⟨b', o', he, hbl', hcell0'⟩ := hc.out (k - 1) xs[k - 1] (List.getElem?_eq_getElem hxp)
            simp only [Option.some.injEq, Addr.mk.injEq, and_true] at he
            obtain ⟨rfl, rfl⟩ := he
            have HG' := grown_cells (hcell0'.below hb hbl') g1
            have s1 : IntKind.i64.wrap ((k : Int) - 1) = (k : Int) - 1 := IntWalk.i64_in _ (by omega)
            have s2 : ((k : Int) - 1).toNat = k - 1 := by omega
            have s3 : 0 ≤ (k : Int) - 1 := by omega
            have s4 : (k : Int) - 1 < (n : Int) := by omega
            clear hcell0' hz
            by_cases hid : (xs[k - 1]).id < (xs[k]).id
            · have HID := Lib.hid (show ∀ p, 0 < k → xs[k - 1]? = some p → p.id < xs[k].id from fun p _ hp => by
                rw [List.getElem?_eq_getElem hxp] at hp; rw [← Option.some.inj hp]; exact hid)
              generalize xs[k] = X at *
              generalize xs[k - 1] = Y at *
              have c0 := fun d os => (HG.out d os).1
              have c1 := fun d os => (HG.out d os).2.1
              have c2 := fun d os => (HG.out d os).2.2.1
              have c3 := fun d os => (HG.out d os).2.2.2.1
              have c4 := fun d os => (HG.out d os).2.2.2.2.1
              have c5 := fun d os => (HG.out d os).2.2.2.2.2.1
              have c6 := fun d os => (HG.out d os).2.2.2.2.2.2
              have e0 := fun d os => (HG'.out d os).1
              have hle2 : ¬ X.id ≤ Y.id := by omega
              go_wp2_with fail
              refine wp_region_quiet_below (by kernel_rfl) (by kernel_rfl) ?_
              repeat (go_big_quiet_step ((go_at_call 119; exact Calls.regrown_of (HC.out _))))
              refine wpQuiet_nil ?_
              intro _ hw'
              obtain ⟨⟨dq, osq⟩, hw''⟩ := hw'
              subst hw''
              have hb2 : Below w.heap.size w (Sort.grow (redrawn wr dq) osq) := hb.trans ((below_regrown wr dq osq).mono hb.size)
              clear c0 c1 c2 c3 c4 c5 c6 e0 HG HG' s1 s2 s3 s4
              generalize Sort.grow (redrawn wr dq) osq = wo at *
              clear hb
              go_wp2_with fail
              go_loopw [4] (fun j ws => ∃ m : Nat, m ≤ k ∧ j = .int .i64 m ∧ Below w.heap.size w ws ∧ Hid (∀ q p, q < m → xs[q]? = some p → p.name ≠ X.name)) (fun j _ => k - (intOf j).toNat)
              case atStart => exact ⟨0, Nat.zero_le _, rfl, hb2, Lib.hid (fun q p hq => by omega)⟩
              case round =>
                clear hb2
                obtain ⟨m, hm, rfl, hbs, HM⟩ := hrel
                by_cases hmk : m < k
                · have hxm : m < xs.length := by omega
                  obtain ⟨b', o', he, hbl', hcell1⟩ := hc.out m xs[m] (List.getElem?_eq_getElem hxm)
                  simp only [Option.some.injEq, Addr.mk.injEq, and_true] at he
                  obtain ⟨rfl, rfl⟩ := he
                  have HP := Lib.hid (List.getElem?_eq_getElem hxm)
                  have d1 := (hcell1.below hbs hbl).2.1
                  have d2 := (HCX.out.below hbs hbl).2.1
                  have m0 : 0 ≤ (m : Int) := by omega
                  have m1 : (m : Int) < (n : Int) := by omega
                  clear hcell1
                  generalize xs[m] = P at *
                  by_cases hname : P.name = X.name
                  · have HB := Lib.hid (no_name2 HX.out HP.out hmk hname)
                    have hbe : (P.name.toList == X.name.toList) = true := by rw [hname]; simp
                    clear hname
                    go_wp2_with fail
                    go_quiet (fail)
                    have hb3 : Below w.heap.size w (wr.drewN nq) := hbs.trans ⟨rfl, rfl, rfl, Nat.le_refl _, fun _ _ => rfl⟩
                    go_wp2_with fail
                    go_ret
                    exact seen_bad HB.out hb3
                  · have HM2 := Lib.hid (show ∀ q p, q < m + 1 → xs[q]? = some p → p.name ≠ X.name from fun q p hq hp => by
                      rcases Nat.lt_or_ge q m with h' | h'
                      · exact HM.out q p h' hp
                      · obtain rfl : q = m := by omega
                        rw [HP.out] at hp
                        rw [← Option.some.inj hp]
                        exact hname)
                    have hbe : (P.name.toList == X.name.toList) = false := by
                      rw [beq_eq_false_iff_ne]
                      intro e
                      rw [ByteArray.toList_eq, ByteArray.toList_eq] at e
                      exact hname (ByteArray.ext (Array.ext' e))
                    clear hname
                    go_wp2_with fail
                    go_quiet (fail)
                    have hb3 : Below w.heap.size w (wr.drewN nq) := hbs.trans ⟨rfl, rfl, rfl, Nat.le_refl _, fun _ _ => rfl⟩
                    go_wp2_with fail
                    go_roundw
                    case rel => exact ⟨m + 1, by omega, by go_num, hb3, HM2⟩
                    case measure => simp [intOf]; omega
                · obtain rfl : m = k := by omega
                  have HST := Lib.hid (steps_next HS.out ⟨X, HX.out, HOK.out, HID.out, HM.out⟩)
                  go_wp2_with fail
                  go_roundw
                  case rel => exact ⟨m + 1, by omega, by go_num, hbs, HST⟩
                  case measure => simp [intOf]; omega
            · have HB := Lib.hid (no_id hx h0 hid)
              generalize xs[k] = X at *
              generalize xs[k - 1] = Y at *
              have c0 := fun d os => (HG.out d os).1
              have c1 := fun d os => (HG.out d os).2.1
              have c2 := fun d os => (HG.out d os).2.2.1
              have c3 := fun d os => (HG.out d os).2.2.2.1
              have c4 := fun d os => (HG.out d os).2.2.2.2.1
              have c5 := fun d os => (HG.out d os).2.2.2.2.2.1
              have c6 := fun d os => (HG.out d os).2.2.2.2.2.2
              have e0 := fun d os => (HG'.out d os).1
              have hle2 : X.id ≤ Y.id := by omega
              go_wp2_with fail
              refine wp_region_quiet_below (by kernel_rfl) (by kernel_rfl) ?_
              repeat (go_big_quiet_step ((go_at_call 119; exact Calls.regrown_of (HC.out _))))
              refine wpQuiet_nil ?_
              intro _ hw'
              obtain ⟨⟨dq, osq⟩, hw''⟩ := hw'
              subst hw''
              have hb2 : Below w.heap.size w (Sort.grow (redrawn wr dq) osq) := hb.trans ((below_regrown wr dq osq).mono hb.size)
              clear c0 c1 c2 c3 c4 c5 c6 e0
              go_wp2_with fail
              go_ret
              exact seen_bad HB.out hb2
      · have HB := Lib.hid (no_len (xs := xs) (by omega))
        have hd : decide ((n : Int) ≤ 8) = false := decide_eq_false (by omega)
        go_wp2_with fail
        go_ret
        exact ⟨by rw [HB.out]; exact ret_bool rfl, hb⟩
    · obtain rfl : k = n := by omega
      by_cases h8 : k ≤ 8
      · have HB := Lib.hid (good_yes (xs := xs) ⟨by rw [HN.out]; exact h8, fun i hi => HS.out i (by rw [HN.out] at hi; exact hi)⟩)
        have hd : decide ((k : Int) ≤ 8) = true := decide_eq_true (by omega)
        go_wp2_with fail
        go_ret
        exact ⟨by rw [HB.out]; exact ret_bool rfl, hb⟩
      · have HB := Lib.hid (no_len (xs := xs) (by omega))
        have hd : decide ((k : Int) ≤ 8) = false := decide_eq_false (by omega)
        go_wp2_with fail
        go_ret
        exact ⟨by rw [HB.out]; exact ret_bool rfl, hb⟩
end Go.Proofs.Ytbaflfbidgolfaa.Gd
namespace Go.Proofs.Ytbaflfbidgolfaa.GoodI
open Go.RowKit Rule Gd
set_option linter.unusedVariables false
set_option maxHeartbeats 1600000 in
theorem isValidRules (a : Option Addr) (n cp : Nat) (xs : List R) (w : World) (hn : xs.length = n) (h : RulesAt w a cp xs) (hsz : ∀ x ∈ xs, x.name.size ≤ maxLen) :
    Calls Try.prog 80 #[.slice a n cp] w (GoodPost xs w) := by
  have hc := h.at_
  obtain ⟨h1, h2, h3⟩ := h
  unfold maxLen at h2
  have HN := Lib.hid hn
  have HSZ := Lib.hid hsz
  have hnb : n ≤ cp := by omega
  have hle : n ≤ xs.length := by omega
  clear hn h1 h3 hsz
  by_cases h8 : n ≤ 8
  · go_enter Try.func80, Try.ntmps80
    go_wp2_with fail
    go_loopw [12] (fun i wr => ∃ k : Nat, k ≤ n ∧ i = .int .i64 k ∧ Below w.heap.size w wr ∧ Hid (∀ i, i < k → Step xs i)) (fun i _ => n - (intOf i).toNat)
    case atStart => exact ⟨0, Nat.zero_le _, rfl, Below.refl _ _, Lib.hid (fun i hi => by omega)⟩
    case round =>
      obtain ⟨k, hk, rfl, hb, HS⟩ := hrel
      by_cases hlt : k < n
      · have hx : k < xs.length := by omega
        obtain ⟨b, o, rfl, hbl, hcell0⟩ := hc.out k xs[k] (List.getElem?_eq_getElem hx)
        have hq := hcell0.below hb hbl
        have g1 := Nat.lt_of_lt_of_le hbl hb.size
        have hxs := Lib.hid (HSZ.out xs[k] (List.getElem_mem hx))
        have HX := Lib.hid (List.getElem?_eq_getElem hx)
        have k0 : 0 ≤ (k : Int) := by omega
        have k1 : (k : Int) < (n : Int) := by omega
        clear hcell0
        obtain ⟨q0, q1, q2, q3, q4, q5, q6⟩ := hq
        cases hok : okB xs[k] with
        | false =>
          have HB := Lib.hid (no_ok hx hok)
          have HC := Lib.hid (fun W => impl_as xs[k] false hok hxs.out W)
          clear hok
          generalize xs[k] = X at *
          go_wp2_with fail
          have hbx := Rule.At.box wr X 63
          have hba := hb.alloc hb.size (Obj.cells #[.int .i64 X.id, .string X.name, .int .i64 X.rank, .bool X.sec, .bool X.deb, .bool X.am, .int .i64 X.need] 63)
          have hGq : wr.heap.size < (wr.alloc (Obj.cells #[.int .i64 X.id, .string X.name, .int .i64 X.rank, .bool X.sec, .bool X.deb, .bool X.am, .int .i64 X.need] 63)).heap.size := by simp
          clear q0 q1 q2 q3 q4 q5 q6
          generalize wr.alloc (Obj.cells #[.int .i64 X.id, .string X.name, .int .i64 X.rank, .bool X.sec, .bool X.deb, .bool X.am, .int .i64 X.need] 63) = wq at *
          generalize wr.heap.size = G at *
          have HG := grown_cells hbx hGq
          have HG0 := Lib.hid (fun d os => (HG.out d os).head)
          have c0 := fun d os => (HG0.out d os).1
          have c1 := fun d os => (HG0.out d os).2.1
          have c2 := fun d os => (HG0.out d os).2.2.1
          have c3 := fun d os => (HG0.out d os).2.2.2.1
          have c4 := fun d os => (HG0.out d os).2.2.2.2.1
          have c5 := fun d os => (HG0.out d os).2.2.2.2.2.1
          have c6 := fun d os => (HG0.out d os).2.2.2.2.2.2
          refine wp_region_quiet_below (by kernel_rfl) (by kernel_rfl) ?_
          repeat (go_big_quiet_step ((go_at_call 112; exact Calls.regrown_of (HC.out _))))
          refine wpQuiet_nil ?_
          intro _ hw'
          obtain ⟨⟨dq, osq⟩, hw''⟩ := hw'
          subst hw''
          have hb2 : Below w.heap.size w (Sort.grow (redrawn wq dq) osq) := hba.trans ((below_regrown wq dq osq).mono hba.size)
          have hX2 := Lib.hid (hbx.below (below_regrown wq dq osq) hGq)
          have hG2 : G < (Sort.grow (redrawn wq dq) osq).heap.size := Nat.lt_of_lt_of_le hGq (below_regrown wq dq osq).size
          generalize Sort.grow (redrawn wq dq) osq = wo at *
          clear c0 c1 c2 c3 c4 c5 c6 HG hbx
          go_wp2_with fail
          go_ret
          exact seen_bad HB.out hb2
        | true =>
          have HOK := Lib.hid hok
          have HC := Lib.hid (fun W => impl_as xs[k] true hok hxs.out W)
          clear hok
          by_cases hz : k = 0
          · have HID := Lib.hid (show ∀ p, 0 < k → xs[k - 1]? = some p → p.id < xs[k].id from fun p h0 => by omega)
            have hd : decide (0 < (k : Int)) = false := by simp; omega
            have hd2 : decide (0 < k) = false := by simp; omega
            clear hz
            generalize xs[k] = X at *
            go_wp2_with fail
            have hbx := Rule.At.box wr X 63
            have hba := hb.alloc hb.size (Obj.cells #[.int .i64 X.id, .string X.name, .int .i64 X.rank, .bool X.sec, .bool X.deb, .bool X.am, .int .i64 X.need] 63)
            have hGq : wr.heap.size < (wr.alloc (Obj.cells #[.int .i64 X.id, .string X.name, .int .i64 X.rank, .bool X.sec, .bool X.deb, .bool X.am, .int .i64 X.need] 63)).heap.size := by simp
            clear q0 q1 q2 q3 q4 q5 q6
            generalize wr.alloc (Obj.cells #[.int .i64 X.id, .string X.name, .int .i64 X.rank, .bool X.sec, .bool X.deb, .bool X.am, .int .i64 X.need] 63) = wq at *
            generalize wr.heap.size = G at *
            have HG := grown_cells hbx hGq
            have HG0 := Lib.hid (fun d os => (HG.out d os).head)
            have c0 := fun d os => (HG0.out d os).1
            have c1 := fun d os => (HG0.out d os).2.1
            have c2 := fun d os => (HG0.out d os).2.2.1
            have c3 := fun d os => (HG0.out d os).2.2.2.1
            have c4 := fun d os => (HG0.out d os).2.2.2.2.1
            have c5 := fun d os => (HG0.out d os).2.2.2.2.2.1
            have c6 := fun d os => (HG0.out d os).2.2.2.2.2.2
            refine wp_region_quiet_below (by kernel_rfl) (by kernel_rfl) ?_
            repeat (go_big_quiet_step ((go_at_call 112; exact Calls.regrown_of (HC.out _))))
            refine wpQuiet_nil ?_
            intro _ hw'
            obtain ⟨⟨dq, osq⟩, hw''⟩ := hw'
            subst hw''
            have hb2 : Below w.heap.size w (Sort.grow (redrawn wq dq) osq) := hba.trans ((below_regrown wq dq osq).mono hba.size)
            have hX2 := Lib.hid (hbx.below (below_regrown wq dq osq) hGq)
            have hG2 : G < (Sort.grow (redrawn wq dq) osq).heap.size := Nat.lt_of_lt_of_le hGq (below_regrown wq dq osq).size
            generalize Sort.grow (redrawn wq dq) osq = wo at *
            clear c0 c1 c2 c3 c4 c5 c6 HG hbx
            clear hd hd2
            clear HG0
            go_wp2_with fail
            go_loopw [39] (fun j ws => ∃ m : Nat, m ≤ k ∧ j = .int .i64 m ∧ Below w.heap.size w ws ∧ Hid (At ws G 0 X) ∧ G < ws.heap.size ∧ Hid (∀ q p, q < m → xs[q]? = some p → p.name ≠ X.name)) (fun j _ => k - (intOf j).toNat)
            case atStart => exact ⟨0, Nat.zero_le _, rfl, hb2, hX2, hG2, Lib.hid (fun q p hq => by omega)⟩
            case round =>
              clear hb2 hX2 hG2 hb hba hGq
              obtain ⟨m, hm, rfl, hbs, HXG, hGs, HM⟩ := hrel
              by_cases hmk : m < k
              · have hxm : m < xs.length := by omega
                obtain ⟨b', o', he, hbl', hcell1⟩ := hc.out m xs[m] (List.getElem?_eq_getElem hxm)
                simp only [Option.some.injEq, Addr.mk.injEq, and_true] at he
                obtain ⟨rfl, rfl⟩ := he
                have HP := Lib.hid (List.getElem?_eq_getElem hxm)
                obtain ⟨d0, d1, d2, d3, d4, d5, d6⟩ := hcell1.below hbs hbl
                have x1 := HXG.out.head.2.1
                have m0 : 0 ≤ (m : Int) := by omega
                have m1 : (m : Int) < (k : Int) := by omega
                clear hcell1
                generalize xs[m] = P at *
                by_cases hname : P.name = X.name
                · have HB := Lib.hid (no_name2 HX.out HP.out hmk hname)
                  have hbe : (P.name.toList == X.name.toList) = true := by rw [hname]; simp
                  clear hname
                  go_wp2_with fail
                  go_ret
                  exact seen_bad HB.out (hbs.alloc hbs.size _)
                · have HM2 := Lib.hid (show ∀ q p, q < m + 1 → xs[q]? = some p → p.name ≠ X.name from fun q p hq hp => by
                    rcases Nat.lt_or_ge q m with h' | h'
                    · exact HM.out q p h' hp
                    · obtain rfl : q = m := by omega
                      rw [HP.out] at hp
                      rw [← Option.some.inj hp]
                      exact hname)
                  have hbe : (P.name.toList == X.name.toList) = false := by
                    rw [beq_eq_false_iff_ne]
                    intro e
                    rw [ByteArray.toList_eq, ByteArray.toList_eq] at e
                    exact hname (ByteArray.ext (Array.ext' e))
                  clear hname
                  go_wp2_with fail
                  go_roundw
                  case rel => exact ⟨m + 1, by omega, by go_num, hbs.alloc hbs.size _, Lib.hid (HXG.out.below ((Below.refl _ _).alloc (Nat.le_refl _) _) hGs), by simp; omega, HM2⟩
                  case measure => simp [intOf]; omega
              · obtain rfl : m = k := by omega
                have HST := Lib.hid (steps_next HS.out ⟨X, HX.out, HOK.out, HID.out, HM.out⟩)
                go_wp2_with fail
                go_roundw
                case rel => exact ⟨m + 1, by omega, by go_num, hbs, HST⟩
                case measure => simp [intOf]; omega
          · have h0 : 0 < k := by omega
            have hxp : k - 1 < xs.length := by omega
            obtain ⟨b', o', he, hbl', hcell0'⟩ := hc.out (k - 1) xs[k - 1] (List.getElem?_eq_getElem hxp)
            simp only [Option.some.injEq, Addr.mk.injEq, and_true] at he
            obtain ⟨rfl, rfl⟩ := he
            have HY := Lib.hid hcell0'
            clear hcell0' hz hbl'
            by_cases hid : (xs[k - 1]).id < (xs[k]).id
            · have HID := Lib.hid (show ∀ p, 0 < k → xs[k - 1]? = some p → p.id < xs[k].id from fun p _ hp => by
                rw [List.getElem?_eq_getElem hxp] at hp; rw [← Option.some.inj hp]; exact hid)
              generalize xs[k] = X at *
              generalize xs[k - 1] = Y at *
              go_wp2_with fail
              have hbx := Rule.At.box wr X 63
              have hba := hb.alloc hb.size (Obj.cells #[.int .i64 X.id, .string X.name, .int .i64 X.rank, .bool X.sec, .bool X.deb, .bool X.am, .int .i64 X.need] 63)
              have hGq : wr.heap.size < (wr.alloc (Obj.cells #[.int .i64 X.id, .string X.name, .int .i64 X.rank, .bool X.sec, .bool X.deb, .bool X.am, .int .i64 X.need] 63)).heap.size := by simp
              have hgb : b < (wr.alloc (Obj.cells #[.int .i64 X.id, .string X.name, .int .i64 X.rank, .bool X.sec, .bool X.deb, .bool X.am, .int .i64 X.need] 63)).heap.size := by simp; omega
              clear q0 q1 q2 q3 q4 q5 q6
              generalize wr.alloc (Obj.cells #[.int .i64 X.id, .string X.name, .int .i64 X.rank, .bool X.sec, .bool X.deb, .bool X.am, .int .i64 X.need] 63) = wq at *
              generalize wr.heap.size = G at *
              have HG := grown_cells hbx hGq
              have HG0 := Lib.hid (fun d os => (HG.out d os).head)
              have HG' := grown_cells (HY.out.below hba hbl) hgb
              have c0 := fun d os => (HG0.out d os).1
              have c1 := fun d os => (HG0.out d os).2.1
              have c2 := fun d os => (HG0.out d os).2.2.1
              have c3 := fun d os => (HG0.out d os).2.2.2.1
              have c4 := fun d os => (HG0.out d os).2.2.2.2.1
              have c5 := fun d os => (HG0.out d os).2.2.2.2.2.1
              have c6 := fun d os => (HG0.out d os).2.2.2.2.2.2
              have e0 := fun d os => (HG'.out d os).1
              have hle2 : ¬ X.id ≤ Y.id := by omega
              have s1 : IntKind.i64.wrap ((k : Int) - 1) = (k : Int) - 1 := IntWalk.i64_in _ (by omega)
              have s2 : ((k : Int) - 1).toNat = k - 1 := by omega
              have s3 : 0 ≤ (k : Int) - 1 := by omega
              have s4 : (k : Int) - 1 < (n : Int) := by omega
              refine wp_region_quiet_below (by kernel_rfl) (by kernel_rfl) ?_
              repeat (go_big_quiet_step ((go_at_call 112; exact Calls.regrown_of (HC.out _))))
              refine wpQuiet_nil ?_
              intro _ hw'
              obtain ⟨⟨dq, osq⟩, hw''⟩ := hw'
              subst hw''
              have hb2 : Below w.heap.size w (Sort.grow (redrawn wq dq) osq) := hba.trans ((below_regrown wq dq osq).mono hba.size)
              have hX2 := Lib.hid (hbx.below (below_regrown wq dq osq) hGq)
              have hG2 : G < (Sort.grow (redrawn wq dq) osq).heap.size := Nat.lt_of_lt_of_le hGq (below_regrown wq dq osq).size
              generalize Sort.grow (redrawn wq dq) osq = wo at *
              clear c0 c1 c2 c3 c4 c5 c6 HG hbx
              clear e0 HG' s1 s2 s3 s4
              clear HG0
              go_wp2_with fail
              go_loopw [39] (fun j ws => ∃ m : Nat, m ≤ k ∧ j = .int .i64 m ∧ Below w.heap.size w ws ∧ Hid (At ws G 0 X) ∧ G < ws.heap.size ∧ Hid (∀ q p, q < m → xs[q]? = some p → p.name ≠ X.name)) (fun j _ => k - (intOf j).toNat)
              case atStart => exact ⟨0, Nat.zero_le _, rfl, hb2, hX2, hG2, Lib.hid (fun q p hq => by omega)⟩
              case round =>
                clear hb2 hX2 hG2 hb hba hGq
                obtain ⟨m, hm, rfl, hbs, HXG, hGs, HM⟩ := hrel
                by_cases hmk : m < k
                · have hxm : m < xs.length := by omega
                  obtain ⟨b', o', he, hbl', hcell1⟩ := hc.out m xs[m] (List.getElem?_eq_getElem hxm)
                  simp only [Option.some.injEq, Addr.mk.injEq, and_true] at he
                  obtain ⟨rfl, rfl⟩ := he
                  have HP := Lib.hid (List.getElem?_eq_getElem hxm)
                  obtain ⟨d0, d1, d2, d3, d4, d5, d6⟩ := hcell1.below hbs hbl
                  have x1 := HXG.out.head.2.1
                  have m0 : 0 ≤ (m : Int) := by omega
                  have m1 : (m : Int) < (k : Int) := by omega
                  clear hcell1
                  generalize xs[m] = P at *
                  by_cases hname : P.name = X.name
                  · have HB := Lib.hid (no_name2 HX.out HP.out hmk hname)
                    have hbe : (P.name.toList == X.name.toList) = true := by rw [hname]; simp
                    clear hname
                    go_wp2_with fail
                    go_ret
                    exact seen_bad HB.out (hbs.alloc hbs.size _)
                  · have HM2 := Lib.hid (show ∀ q p, q < m + 1 → xs[q]? = some p → p.name ≠ X.name from fun q p hq hp => by
                      rcases Nat.lt_or_ge q m with h' | h'
                      · exact HM.out q p h' hp
                      · obtain rfl : q = m := by omega
                        rw [HP.out] at hp
                        rw [← Option.some.inj hp]
                        exact hname)
                    have hbe : (P.name.toList == X.name.toList) = false := by
                      rw [beq_eq_false_iff_ne]
                      intro e
                      rw [ByteArray.toList_eq, ByteArray.toList_eq] at e
                      exact hname (ByteArray.ext (Array.ext' e))
                    clear hname
                    go_wp2_with fail
                    go_roundw
                    case rel => exact ⟨m + 1, by omega, by go_num, hbs.alloc hbs.size _, Lib.hid (HXG.out.below ((Below.refl _ _).alloc (Nat.le_refl _) _) hGs), by simp; omega, HM2⟩
                    case measure => simp [intOf]; omega
                · obtain rfl : m = k := by omega
                  have HST := Lib.hid (steps_next HS.out ⟨X, HX.out, HOK.out, HID.out, HM.out⟩)
                  go_wp2_with fail
                  go_roundw
                  case rel => exact ⟨m + 1, by omega, by go_num, hbs, HST⟩
                  case measure => simp [intOf]; omega
            · have HB := Lib.hid (no_id hx h0 hid)
              generalize xs[k] = X at *
              generalize xs[k - 1] = Y at *
              go_wp2_with fail
              have hbx := Rule.At.box wr X 63
              have hba := hb.alloc hb.size (Obj.cells #[.int .i64 X.id, .string X.name, .int .i64 X.rank, .bool X.sec, .bool X.deb, .bool X.am, .int .i64 X.need] 63)
              have hGq : wr.heap.size < (wr.alloc (Obj.cells #[.int .i64 X.id, .string X.name, .int .i64 X.rank, .bool X.sec, .bool X.deb, .bool X.am, .int .i64 X.need] 63)).heap.size := by simp
              have hgb : b < (wr.alloc (Obj.cells #[.int .i64 X.id, .string X.name, .int .i64 X.rank, .bool X.sec, .bool X.deb, .bool X.am, .int .i64 X.need] 63)).heap.size := by simp; omega
              clear q0 q1 q2 q3 q4 q5 q6
              generalize wr.alloc (Obj.cells #[.int .i64 X.id, .string X.name, .int .i64 X.rank, .bool X.sec, .bool X.deb, .bool X.am, .int .i64 X.need] 63) = wq at *
              generalize wr.heap.size = G at *
              have HG := grown_cells hbx hGq
              have HG0 := Lib.hid (fun d os => (HG.out d os).head)
              have HG' := grown_cells (HY.out.below hba hbl) hgb
              have c0 := fun d os => (HG0.out d os).1
              have c1 := fun d os => (HG0.out d os).2.1
              have c2 := fun d os => (HG0.out d os).2.2.1
              have c3 := fun d os => (HG0.out d os).2.2.2.1
              have c4 := fun d os => (HG0.out d os).2.2.2.2.1
              have c5 := fun d os => (HG0.out d os).2.2.2.2.2.1
              have c6 := fun d os => (HG0.out d os).2.2.2.2.2.2
              have e0 := fun d os => (HG'.out d os).1
              have hle2 : X.id ≤ Y.id := by omega
              have s1 : IntKind.i64.wrap ((k : Int) - 1) = (k : Int) - 1 := IntWalk.i64_in _ (by omega)
              have s2 : ((k : Int) - 1).toNat = k - 1 := by omega
              have s3 : 0 ≤ (k : Int) - 1 := by omega
              have s4 : (k : Int) - 1 < (n : Int) := by omega
              refine wp_region_quiet_below (by kernel_rfl) (by kernel_rfl) ?_
              repeat (go_big_quiet_step ((go_at_call 112; exact Calls.regrown_of (HC.out _))))
              refine wpQuiet_nil ?_
              intro _ hw'
              obtain ⟨⟨dq, osq⟩, hw''⟩ := hw'
              subst hw''
              have hb2 : Below w.heap.size w (Sort.grow (redrawn wq dq) osq) := hba.trans ((below_regrown wq dq osq).mono hba.size)
              have hX2 := Lib.hid (hbx.below (below_regrown wq dq osq) hGq)
              have hG2 : G < (Sort.grow (redrawn wq dq) osq).heap.size := Nat.lt_of_lt_of_le hGq (below_regrown wq dq osq).size
              generalize Sort.grow (redrawn wq dq) osq = wo at *
              clear c0 c1 c2 c3 c4 c5 c6 HG hbx
              clear e0 HG' s1 s2 s3 s4
              go_wp2_with fail
              go_ret
              exact seen_bad HB.out hb2
      · obtain rfl : k = n := by omega
        have HB := Lib.hid (good_yes (xs := xs) ⟨by rw [HN.out]; exact h8, fun i hi => HS.out i (by rw [HN.out] at hi; exact hi)⟩)
        go_wp2_with fail
        go_ret
        exact ⟨by rw [HB.out]; exact ret_bool rfl, hb⟩
  · have HB := Lib.hid (no_len (xs := xs) (by omega))
    go_enter Try.func80, Try.ntmps80
    go_wp2_with fail
    go_ret
    exact seen_bad HB.out (Below.refl _ _)
end Go.Proofs.Ytbaflfbidgolfaa.GoodI
namespace Go.Proofs.Ytbaflfbidgolfaa.Help
open Go.RowKit Rule
set_option linter.unusedVariables false

theorem szRule_yes (r : R) (l : Int) (w : World) (h : (r.name.size : Int) ≤ l) (hl : l ≤ 1048576) :
    Calls Try.prog 76 #[.agg #[.int .i64 r.id, .string r.name, .int .i64 r.rank, .bool r.sec, .bool r.deb, .bool r.am, .int .i64 r.need], .int .i64 l] w fun e w' => e = .returned (.int .i64 (l - r.name.size)) ∧ Below w.heap.size w w' := by
  go_enter Try.func76, Try.ntmps76
  go_wp2_with fail
  go_ret
  exact ⟨rfl, (Below.refl _ _).alloc (Nat.le_refl _) _⟩
theorem szRule_no (r : R) (l : Int) (w : World) (h : l < (r.name.size : Int)) (h0 : 0 ≤ l) (hs : r.name.size ≤ maxLen) :
    Calls Try.prog 76 #[.agg #[.int .i64 r.id, .string r.name, .int .i64 r.rank, .bool r.sec, .bool r.deb, .bool r.am, .int .i64 r.need], .int .i64 l] w fun e w' => e = .returned (.int .i64 (-1)) ∧ Below w.heap.size w w' := by
  unfold maxLen at hs
  go_enter Try.func76, Try.ntmps76
  go_wp2_with fail
  go_ret
  exact ⟨rfl, (Below.refl _ _).alloc (Nat.le_refl _) _⟩

def tot (xs : List R) : Nat := (xs.map fun r => r.name.size).sum
theorem tot_next (xs : List R) (k : Nat) (h : k < xs.length) : tot (xs.take (k + 1)) = tot (xs.take k) + (xs[k]).name.size := by
  rw [List.take_succ_eq_append_getElem h]; unfold tot; rw [List.map_append, List.sum_append]; simp
theorem tot_take_le (xs : List R) (k : Nat) : tot (xs.take k) ≤ tot xs := by
  have := congrArg tot (List.take_append_drop k xs)
  have e : ∀ a b : List R, tot (a ++ b) = tot a + tot b := fun a b => by simp [tot]
  rw [e] at this
  omega
theorem mem_le (xs : List R) (x : R) (h : x ∈ xs) : x.name.size ≤ tot xs := by
  induction xs with
  | nil => cases h
  | cons y ys ih =>
    simp only [tot, List.map_cons, List.sum_cons] at ih ⊢
    rcases List.mem_cons.1 h with rfl | h
    · omega
    · have := ih h; omega
def Small (n : Nat) (xs : List R) : Prop := n + tot xs ≤ 1048576
def SZ (n : Nat) (xs : List R) (w : World) (e : Ending) (w' : World) : Prop := Below w.heap.size w w' ∧ ∃ r : Int, e = .returned (.int .i64 r) ∧ ((r < 0 ∧ ¬ Small n xs) ∨ (0 ≤ r ∧ r = 1048576 - n - tot xs ∧ Small n xs))

set_option maxHeartbeats 400000 in
theorem szRuleS (a : Option Addr) (n cp : Nat) (xs : List R) (w : World) (hn : xs.length = n) (h : RulesAt w a cp xs) (hsm : ∀ x ∈ xs, x.name.size ≤ maxLen) :
    Calls Try.prog 16 #[.slice a n cp, .int .i64 1048576] w (SZ n xs w) := by
  have hc := h.at_
  obtain ⟨h1, h2, h3⟩ := h
  unfold maxLen at h2
  have HN := Lib.hid hn
  have HSM := Lib.hid hsm
  have hnb : n ≤ cp := by omega
  clear hn hsm h1 h3
  by_cases hbig : 1048576 < n
  · go_enter Try.func16, Try.ntmps16
    go_wp2_with fail
    go_ret
    exact ⟨Below.refl _ _, -1, rfl, .inl ⟨by omega, by unfold Small; omega⟩⟩
  · go_enter Try.func16, Try.ntmps16
    go_wp2_with fail
    go_loopw [1, 5] (fun l i wr => ∃ k T : Nat, k ≤ n ∧ i = .int .i64 k ∧ l = .int .i64 (1048576 - (n : Int) - T) ∧ n + T ≤ 1048576 ∧ Hid (T = tot (xs.take k)) ∧ Below w.heap.size w wr) (fun _ i _ => n - (intOf i).toNat)
    case atStart => exact ⟨0, 0, Nat.zero_le _, rfl, by simp, by omega, rfl, Below.refl _ _⟩
    case round =>
      obtain ⟨k, T, hk, rfl, rfl, hT, HT, hb⟩ := hrel
      by_cases hlt : k < n
      · have hx : k < xs.length := by rw [HN.out]; exact hlt
        obtain ⟨b, o, rfl, hbl, hcell⟩ := hc.out k xs[k] (List.getElem?_eq_getElem hx)
        have hcell2 := hcell.below hb hbl
        have hxs := Lib.hid (HSM.out xs[k] (List.getElem_mem hx))
        have HTN := Lib.hid (tot_next xs k hx)
        clear hcell
        obtain ⟨q0, q1, q2, q3, q4, q5, q6⟩ := hcell2
        by_cases hb2 : 1048576 < n + (T + (xs[k]).name.size)
        · have HB := Lib.hid (show ¬ Small n xs by
            have h1 := tot_take_le xs (k + 1)
            rw [HTN.out, ← HT.out] at h1
            unfold Small
            omega)
          generalize xs[k] = X at *
          go_wp2_with fail
          refine (szRule_no X _ _ (by omega) (by omega) hxs.out).mono ?_
          rintro e w1 ⟨rfl, hb1⟩
          have hb3 := hb.trans (hb1.mono hb.size)
          go_wp2_with fail
          go_ret
          exact ⟨hb3, -1, rfl, .inl ⟨by omega, HB.out⟩⟩
        · generalize xs[k] = X at *
          go_wp2_with fail
          refine (szRule_yes X _ _ (by omega) (by omega)).mono ?_
          rintro e w1 ⟨rfl, hb1⟩
          have hb3 := hb.trans (hb1.mono hb.size)
          go_wp2_with fail
          go_roundw
          case rel => exact ⟨k + 1, T + X.name.size, by omega, by go_num, by go_num, by omega, by show _ = _; rw [HTN.out, ← HT.out], hb3⟩
          case measure => simp [intOf]; omega
      · have hkn : xs.take k = xs := List.take_of_length_le (by rw [HN.out]; omega)
        have HF := Lib.hid (show Small n xs by unfold Small; rw [← hkn, ← HT.out]; exact hT)
        have HE := Lib.hid (show (1048576 : Int) - n - T = 1048576 - n - tot xs by rw [HT.out, hkn])
        clear hkn
        go_wp2_with fail
        go_ret
        exact ⟨hb, _, rfl, .inr ⟨by omega, HE.out, HF.out⟩⟩

set_option maxHeartbeats 400000 in
theorem toRule (r : R) (w : World) :
    Calls Try.prog 78 #[.agg #[.int .i64 r.id, .string r.name, .int .i64 r.rank, .bool r.sec, .bool r.deb, .bool r.am, .int .i64 r.need]] w fun e w' => e = .returned (.agg #[.int .i64 r.id, .string r.name, .int .i64 r.rank, .bool r.sec, .bool r.deb, .bool r.am, .int .i64 r.need]) ∧ Below w.heap.size w w' := by
  go_enter Try.func78, Try.ntmps78
  go_wp2_with fail
  refine bodyPost_ret (v := .agg #[.int .i64 r.id, .string r.name, .int .i64 r.rank, .bool r.sec, .bool r.deb, .bool r.am, .int .i64 r.need]) (by simp [results, Try.results78, go_sem]) rfl ⟨rfl, ?_⟩
  exact (((Below.refl _ _).alloc (Nat.le_refl _) _).alloc (by simp) _).alloc (by simp; omega) _

set_option maxHeartbeats 800000 in
/-- two values of the same rule -/
theorem eqRule (r : R) (w : World) :
    Calls Try.prog 84 #[.agg #[.int .i64 r.id, .string r.name, .int .i64 r.rank, .bool r.sec, .bool r.deb, .bool r.am, .int .i64 r.need], .agg #[.int .i64 r.id, .string r.name, .int .i64 r.rank, .bool r.sec, .bool r.deb, .bool r.am, .int .i64 r.need]] w fun e w' => e = .returned (.bool true) ∧ Below w.heap.size w w' := by
  have h1 : (r.id != r.id) = false := by simp
  have h2 : (r.name.toList != r.name.toList) = false := by simp
  have h3 : (r.rank != r.rank) = false := by simp
  have h4 : (r.sec != r.sec) = false := by simp
  have h5 : (r.deb != r.deb) = false := by simp
  have h6 : (r.am != r.am) = false := by simp
  have h7 : (r.need != r.need) = false := by simp
  go_enter Try.func84, Try.ntmps84
  go_wp2_with fail
  go_ret
  exact ⟨rfl, ((Below.refl _ _).alloc (Nat.le_refl _) _).alloc (by simp) _⟩
end Go.Proofs.Ytbaflfbidgolfaa.Help
namespace Go.Proofs.Ytbaflfbidgolfaa.HelpS
open Go.RowKit Rule
set_option linter.unusedVariables false

def R0 : R := ⟨0, ⟨#[]⟩, 0, false, false, false, 0⟩
theorem infoRule : (Try.prog.info? 63).map (fun i => (i.zero, i.size, i.bytes)) = some (some (.agg #[.int .i64 0, .string ⟨#[]⟩, .int .i64 0, .bool false, .bool false, .bool false, .int .i64 0]), 7, 48) := by kernel_rfl
theorem vals_len (r : R) : r.vals.length = 7 := rfl
/-- a store into one cell of the rules' cells -/
theorem flat_set : ∀ (ys : List R) (k j : Nat) (r r' : R) (v : Value), ys[k]? = some r → j < 7 → r'.vals = r.vals.set j v → (flat ys).set (k * 7 + j) v = flat (ys.set k r')
  | [], k, j, r, r', v, h, _, _ => by simp at h
  | x :: ys, 0, j, r, r', v, h, hj, hv => by
    simp only [List.getElem?_cons_zero, Option.some.injEq] at h
    subst h
    show (x.vals ++ flat ys).set (0 * 7 + j) v = r'.vals ++ flat ys
    rw [Nat.zero_mul, Nat.zero_add, List.set_append_left _ _ (by rw [vals_len]; exact hj), hv]
  | x :: ys, k + 1, j, r, r', v, h, hj, hv => by
    rw [List.getElem?_cons_succ] at h
    show (x.vals ++ flat ys).set ((k + 1) * 7 + j) v = x.vals ++ flat (ys.set k r')
    rw [List.set_append_right _ _ (by rw [vals_len]; omega), vals_len]
    have e : (k + 1) * 7 + j - 7 = k * 7 + j := by omega
    rw [e, flat_set ys k j r r' v h hj hv]
/-- a row of the call's own holds these rules -/
def OwnR (w : World) (base g n cap : Nat) (ys : List R) : Prop := ys.length = n ∧ w.ownsRow base 63 7 (.slice (some ⟨g, 0, none⟩) n cap) n (flat ys)
theorem OwnR.lt {w : World} {base g n cap : Nat} {ys : List R} (h : OwnR w base g n cap ys) : base ≤ g ∧ g < w.heap.size := h.2.lt g rfl
theorem OwnR.at {w : World} {base g n cap : Nat} {ys : List R} (h : OwnR w base g n cap ys) (k j : Nat) (hk : k < n) (hj : j < 7) (r : R) (hr : ys[k]? = some r) : w.cell? ⟨g, k * 7 + j, none⟩ = r.vals[j]? := by
  rw [h.2.cellAt (k * 7 + j) (by omega), flat_at ys k j r hr hj]
theorem OwnR.cells {w : World} {base g n cap : Nat} {ys : List R} (h : OwnR w base g n cap ys) (k : Nat) (hk : k < n) (r : R) (hr : ys[k]? = some r) : At w g (k * 7) r :=
  At.of_cells fun j v hv => by
    have hj : j < 7 := by
      rcases Nat.lt_or_ge j 7 with h' | h'
      · exact h'
      · rw [List.getElem?_eq_none (by exact h')] at hv; cases hv
    rw [h.at k j hk hj r hr]; exact hv
theorem OwnR.frozen {w : World} {base g n cap : Nat} {ys : List R} (h : OwnR w base g n cap ys) (o : Nat) : w.frozen? ⟨g, o, none⟩ = false := h.2.frozenAt o
theorem OwnR.put {w : World} {base g n cap : Nat} {ys : List R} (h : OwnR w base g n cap ys) (k j : Nat) (r r' : R) (v : Value) (hr : ys[k]? = some r) (hj : j < 7) (hv : r'.vals = r.vals.set j v) : OwnR (w.setCell ⟨g, k * 7 + j, none⟩ v) base g n cap (ys.set k r') := by
  refine ⟨by rw [List.length_set]; exact h.1, ?_⟩
  rw [← flat_set ys k j r r' v hr hj hv]
  exact (h.2.stored (k * 7 + j) v).1
theorem OwnR.kept {w w' : World} {base g n cap : Nat} {ys : List R} (h : OwnR w base g n cap ys) (hb : Below w.heap.size w w') : OwnR w' base g n cap ys := by
  refine ⟨h.1, World.ownsRow.kept (row := none) h.2 ⟨hb.os, hb.tape, hb.output, hb.size, fun j hj _ => hb.block j hj⟩ ?_⟩
  exact .inr (by simp [Value.ownBlock])
theorem OwnR.rules {w : World} {base g n cap : Nat} {ys : List R} (h : OwnR w base g n cap ys) : RulesAt w (some ⟨g, 0, none⟩) cap ys := rules_of_owns h.1 h.2
/-- the whole rule at once -/
theorem OwnR.putAll {w : World} {base g n cap : Nat} {ys : List R} (h : OwnR w base g n cap ys) (k : Nat) (r0 r : R) (hr : ys[k]? = some r0) :
    OwnR (((((((w.setCell ⟨g, k * 7, none⟩ (.int .i64 r.id)).setCell ⟨g, k * 7 + 1, none⟩ (.string r.name)).setCell ⟨g, k * 7 + 2, none⟩ (.int .i64 r.rank)).setCell ⟨g, k * 7 + 3, none⟩ (.bool r.sec)).setCell ⟨g, k * 7 + 4, none⟩ (.bool r.deb)).setCell ⟨g, k * 7 + 5, none⟩ (.bool r.am)).setCell ⟨g, k * 7 + 6, none⟩ (.int .i64 r.need)) base g n cap (ys.set k r) := by
  have hk : k < ys.length := (List.getElem?_eq_some_iff.1 hr).1
  have at_ : ∀ x : R, (ys.set k x)[k]? = some x := fun x => by simp [hk]
  have h0 := h.put k 0 r0 { r0 with id := r.id } (.int .i64 r.id) hr (by omega) rfl
  have h1 := h0.put k 1 _ { r0 with id := r.id, name := r.name } (.string r.name) (at_ _) (by omega) rfl
  rw [List.set_set] at h1
  have h2 := h1.put k 2 _ { r0 with id := r.id, name := r.name, rank := r.rank } (.int .i64 r.rank) (at_ _) (by omega) rfl
  rw [List.set_set] at h2
  have h3 := h2.put k 3 _ { r0 with id := r.id, name := r.name, rank := r.rank, sec := r.sec } (.bool r.sec) (at_ _) (by omega) rfl
  rw [List.set_set] at h3
  have h4 := h3.put k 4 _ { r0 with id := r.id, name := r.name, rank := r.rank, sec := r.sec, deb := r.deb } (.bool r.deb) (at_ _) (by omega) rfl
  rw [List.set_set] at h4
  have h5 := h4.put k 5 _ { r0 with id := r.id, name := r.name, rank := r.rank, sec := r.sec, deb := r.deb, am := r.am } (.bool r.am) (at_ _) (by omega) rfl
  rw [List.set_set] at h5
  have h6 := h5.put k 6 _ r (.int .i64 r.need) (at_ _) (by omega) rfl
  rw [List.set_set] at h6
  exact h6

theorem made_zero (n : Nat) : (madeCells (#[.int .i64 0, .string ⟨#[]⟩, .int .i64 0, .bool false, .bool false, .bool false, .int .i64 0] : Array Value) (n * 7)).toList = flat (List.replicate n R0) := by
  apply List.ext_getElem?
  intro i
  rw [madeCells]
  by_cases hi : i < n * 7
  · have h1 := flat_at (List.replicate n R0) (i / 7) (i % 7) R0 (by rw [List.getElem?_replicate, if_pos (by omega)]) (by omega)
    have e : i / 7 * 7 + i % 7 = i := by omega
    rw [e] at h1
    rw [h1]
    have hs : (#[.int .i64 0, .string ⟨#[]⟩, .int .i64 0, .bool false, .bool false, .bool false, .int .i64 0] : Array Value).size = 7 := rfl
    simp only [hs, Array.toList_map, List.getElem?_map, Array.toList_range, List.getElem?_range hi, Option.map_some]
    have h7 : i % 7 < 7 := by omega
    generalize i % 7 = m at *
    match m, h7 with
    | 0, _ => rfl
    | 1, _ => rfl
    | 2, _ => rfl
    | 3, _ => rfl
    | 4, _ => rfl
    | 5, _ => rfl
    | 6, _ => rfl
  · rw [List.getElem?_eq_none (by simp; omega), List.getElem?_eq_none (by rw [flat_len, List.length_replicate]; omega)]
/-- what a copy holds after k stores -/
def part (xs : List R) (n k : Nat) : List R := xs.take k ++ List.replicate (n - k) R0
theorem part_all (xs : List R) (n : Nat) (h : xs.length = n) : part xs n n = xs := by
  unfold part; rw [List.take_of_length_le (by omega), Nat.sub_self]; simp
theorem part_set (xs : List R) (n k : Nat) (h : xs.length = n) (hk : k < xs.length) : (part xs n k).set k xs[k] = part xs n (k + 1) := by
  unfold part
  have hl : (xs.take k).length = k := by rw [List.length_take]; omega
  rw [List.set_append_right _ _ (by omega), hl, Nat.sub_self]
  have e : n - k = (n - (k + 1)) + 1 := by omega
  rw [e, List.replicate_succ, List.set_cons_zero, List.take_succ_eq_append_getElem hk, List.append_assoc]
  rfl
theorem part_at (xs : List R) (n k : Nat) (h : xs.length = n) (hk : k < n) : (part xs n k)[k]? = some R0 := by
  unfold part
  have hl : (xs.take k).length = k := by rw [List.length_take]; omega
  rw [List.getElem?_append_right (by omega), hl, Nat.sub_self, List.getElem?_replicate, if_pos (by omega)]

def Copied (w : World) (n : Nat) (xs : List R) (e : Ending) (w' : World) : Prop :=
  e = .returned (.slice (some ⟨w.heap.size, 0, none⟩) n n) ∧ OwnR w' w.heap.size w.heap.size n n xs ∧ Below w.heap.size w w'

set_option maxHeartbeats 800000 in
theorem toRuleS (a : Option Addr) (n cp : Nat) (xs : List R) (w : World) (hn : xs.length = n) (h : RulesAt w a cp xs) (hb0 : n ≤ 1048576) :
    Calls Try.prog 19 #[.slice a n cp] w (Copied w n xs) := by
  obtain ⟨i0, hi, hz0, hz1, hz2⟩ := info_parts infoRule
  have HI := Lib.hid hi
  have HZ := Lib.hid (And.intro hz0 (And.intro hz1 hz2))
  have hc := h.at_
  obtain ⟨h1, h2, h3⟩ := h
  unfold maxLen at h2
  have HN := Lib.hid hn
  have hnb : n ≤ cp := by omega
  clear hi hz0 hz1 hz2 hn h1 h3
  go_enter Try.func19, Try.ntmps19
  go_wp2_with (at_make; refine wpList_make_full _ rfl (.tmp 6) (.tmp 6) 27 rfl w.heap.size 63 i0 _ 7 Try.underlying27 HI.out HZ.out.1 HZ.out.2.1 .i64 .i64 _ _ n rfl rfl rfl rfl ?c1 ?c2 ?c3 ?c4)
  case c1 => rw [HZ.out.2.2]; omega
  case c2 => unfold maxLen; omega
  case c3 => exact Nat.le_refl _
  case c4 =>
    intro w1 hown hgrow
    have hb : Below w.heap.size w w1 := (Below.refl _ _).grown hgrow (Nat.le_refl _) (fun k hk => by cases hk)
    have HO : Hid (OwnR w1 w.heap.size w.heap.size n n (part xs n 0)) := by
      rw [made_zero] at hown
      exact Lib.hid ⟨by simp [part], by simpa [part] using hown⟩
    clear hown hgrow
    go_wp2_with fail
    go_loopw [4] (fun i wr => ∃ k : Nat, k ≤ n ∧ i = .int .i64 k ∧ Below w.heap.size w wr ∧ Hid (OwnR wr w.heap.size w.heap.size n n (part xs n k))) (fun i _ => n - (intOf i).toNat)
    case atStart => exact ⟨0, Nat.zero_le _, rfl, hb, HO⟩
    case round =>
      clear hb HO
      obtain ⟨k, hk, rfl, hb, HO⟩ := hrel
      by_cases hlt : k < n
      · have hx : k < xs.length := by rw [HN.out]; exact hlt
        obtain ⟨b, o, rfl, hbl, hcell0⟩ := hc.out k xs[k] (List.getElem?_eq_getElem hx)
        obtain ⟨q0, q1, q2, q3, q4, q5, q6⟩ := hcell0.below hb hbl
        clear hcell0
        have hps := Lib.hid (part_set xs n k HN.out hx)
        generalize xs[k] = X at *
        go_wp2_with fail
        refine (Help.toRule X _).mono ?_
        rintro e w2 ⟨rfl, hb1⟩
        have HO1 := Lib.hid (HO.out.kept hb1)
        obtain ⟨p0, p1, p2, p3, p4, p5, p6⟩ := HO1.out.cells k hlt R0 (part_at xs n k HN.out hlt)
        have f0 : ∀ o, w2.frozen? ⟨w.heap.size, o, none⟩ = false := HO1.out.frozen
        have hb2 := hb.trans (hb1.mono hb.size)
        have HS := Lib.hid (HO1.out.putAll k R0 X (part_at xs n k HN.out hlt))
        rw [hps.out] at HS
        clear hb1 q0 q1 q2 q3 q4 q5 q6
        go_wp2_with fail
        go_roundw
        case rel =>
          refine ⟨k + 1, by omega, by go_num, ?_, HS⟩
          exact ((((((hb2.setCell (Nat.le_refl _) _).setCell (Nat.le_refl _) _).setCell (Nat.le_refl _) _).setCell (Nat.le_refl _) _).setCell (Nat.le_refl _) _).setCell (Nat.le_refl _) _).setCell (Nat.le_refl _) _
        case measure => simp [intOf]; omega
      · have hkn : k = n := by omega
        have HS := Lib.hid (show OwnR wr w.heap.size w.heap.size n n xs by
          have := HO.out
          rw [hkn, part_all xs n HN.out] at this
          exact this)
        clear hkn
        go_wp2_with fail
        go_ret
        exact ⟨rfl, HS.out, hb⟩

set_option maxHeartbeats 800000 in
/-- two slices of the same rules -/
theorem eqRuleS (a a' : Option Addr) (n cp cp' : Nat) (xs : List R) (w : World) (hn : xs.length = n) (h : RulesAt w a cp xs) (h' : RulesAt w a' cp' xs) :
    Calls Try.prog 22 #[.slice a n cp, .slice a' n cp'] w fun e w' => e = .returned (.bool true) ∧ Below w.heap.size w w' := by
  have hc := h.at_
  have hc' := h'.at_
  obtain ⟨h1, h2, h3⟩ := h
  obtain ⟨h1', h2', h3'⟩ := h'
  unfold maxLen at h2 h2'
  have HN := Lib.hid hn
  have hnb : n ≤ cp := by omega
  have hnb' : n ≤ cp' := by omega
  clear hn h1 h1' h3 h3'
  have hne : ((n : Int) != (n : Int)) = false := by simp
  go_enter Try.func22, Try.ntmps22
  go_wp2_with fail
  go_loopw [5] (fun i wr => ∃ k : Nat, k ≤ n ∧ i = .int .i64 k ∧ Below w.heap.size w wr) (fun i _ => n - (intOf i).toNat)
  case atStart => exact ⟨0, Nat.zero_le _, rfl, Below.refl _ _⟩
  case round =>
    obtain ⟨k, hk, rfl, hb⟩ := hrel
    by_cases hlt : k < n
    · have hx : k < xs.length := by rw [HN.out]; exact hlt
      obtain ⟨b, o, rfl, hbl, hcell0⟩ := hc.out k xs[k] (List.getElem?_eq_getElem hx)
      obtain ⟨b', o', rfl, hbl', hcell0'⟩ := hc'.out k xs[k] (List.getElem?_eq_getElem hx)
      have hq := hcell0.below hb hbl
      have hq' := hcell0'.below hb hbl'
      have g1 := Nat.lt_of_lt_of_le hbl hb.size
      have g2 := Nat.lt_of_lt_of_le hbl' hb.size
      generalize xs[k] = X at *
      have HG := Lib.hid (fun d os => hq.regrown (w := wr) g1 d os)
      have HG' := Lib.hid (fun d os => hq'.regrown (w := wr) g2 d os)
      have c0 := fun d os => (HG.out d os).1
      have c1 := fun d os => (HG.out d os).2.1
      have c2 := fun d os => (HG.out d os).2.2.1
      have c3 := fun d os => (HG.out d os).2.2.2.1
      have c4 := fun d os => (HG.out d os).2.2.2.2.1
      have c5 := fun d os => (HG.out d os).2.2.2.2.2.1
      have c6 := fun d os => (HG.out d os).2.2.2.2.2.2
      have d0 := fun d os => (HG'.out d os).1
      have d1 := fun d os => (HG'.out d os).2.1
      have d2 := fun d os => (HG'.out d os).2.2.1
      have d3 := fun d os => (HG'.out d os).2.2.2.1
      have d4 := fun d os => (HG'.out d os).2.2.2.2.1
      have d5 := fun d os => (HG'.out d os).2.2.2.2.2.1
      have d6 := fun d os => (HG'.out d os).2.2.2.2.2.2
      have k0 : 0 ≤ (k : Int) := by omega
      have k1 : (k : Int) < (n : Int) := by omega
      clear hcell0 hcell0' hq hq' HG HG'
      go_wp2_with fail
      refine wp_region_quiet_below (by kernel_rfl) (by kernel_rfl) ?_
      repeat (quiet_step ((go_at_call 84; exact Calls.regrown_of (Help.eqRule X _))))
      refine wpQuiet_nil ?_
      intro _ hw'
      obtain ⟨⟨dq, osq⟩, hw''⟩ := hw'
      subst hw''
      have hb2 : Below w.heap.size w (Sort.grow (redrawn wr dq) osq) := hb.trans ((below_regrown wr dq osq).mono hb.size)
      clear c0 c1 c2 c3 c4 c5 c6 d0 d1 d2 d3 d4 d5 d6
      go_wp2_with fail
      go_roundw
      case rel => exact ⟨k + 1, by omega, by go_num, hb2⟩
      case measure => simp [intOf]; omega
    · go_wp2_with fail
      go_ret
      exact ⟨rfl, hb⟩

/-- a rule stored whole at a block's head -/
def put7 (w : World) (g : Nat) (i : Int) (nm : ByteArray) (rk : Int) (s d am : Bool) (nd : Int) : World :=
  ((((((w.setCell ⟨g, 0, none⟩ (.int .i64 i)).setCell ⟨g, 1, none⟩ (.string nm)).setCell ⟨g, 2, none⟩ (.int .i64 rk)).setCell ⟨g, 3, none⟩ (.bool s)).setCell ⟨g, 4, none⟩ (.bool d)).setCell ⟨g, 5, none⟩ (.bool am)).setCell ⟨g, 6, none⟩ (.int .i64 nd)
theorem put7_def (w : World) (g : Nat) (i : Int) (nm : ByteArray) (rk : Int) (s d am : Bool) (nd : Int) : put7 w g i nm rk s d am nd =
  ((((((w.setCell ⟨g, 0, none⟩ (.int .i64 i)).setCell ⟨g, 1, none⟩ (.string nm)).setCell ⟨g, 2, none⟩ (.int .i64 rk)).setCell ⟨g, 3, none⟩ (.bool s)).setCell ⟨g, 4, none⟩ (.bool d)).setCell ⟨g, 5, none⟩ (.bool am)).setCell ⟨g, 6, none⟩ (.int .i64 nd) := rfl
theorem put7_cells (w : World) (g : Nat) (i : Int) (nm : ByteArray) (rk : Int) (s d am : Bool) (nd : Int) : put7 w g i nm rk s d am nd = w.setCells g 0 [.int .i64 i, .string nm, .int .i64 rk, .bool s, .bool d, .bool am, .int .i64 nd] := rfl
theorem put7_at {w : World} {g : Nat} {r0 : R} (h : At w g 0 r0) (i : Int) (nm : ByteArray) (rk : Int) (s d am : Bool) (nd : Int) : At (put7 w g i nm rk s d am nd) g 0 ⟨i, nm, rk, s, d, am, nd⟩ := by
  rw [put7_cells]
  obtain ⟨h0, h1, h2, h3, h4, h5, h6⟩ := h
  refine At.of_cells fun j v hv => ?_
  have hj : j < 7 := by
    rcases Nat.lt_or_ge j 7 with h' | h'
    · exact h'
    · rw [List.getElem?_eq_none (by exact h')] at hv; cases hv
  have hs : ∀ j, j < [Value.int .i64 i, .string nm, .int .i64 rk, .bool s, .bool d, .bool am, .int .i64 nd].length → (w.cell? ⟨g, 0 + j, none⟩).isSome = true := fun j hj => by
    have hj : j < 7 := hj
    match j, hj with
    | 0, _ => rw [h0]; rfl
    | 1, _ => rw [h1]; rfl
    | 2, _ => rw [h2]; rfl
    | 3, _ => rw [h3]; rfl
    | 4, _ => rw [h4]; rfl
    | 5, _ => rw [h5]; rfl
    | 6, _ => rw [h6]; rfl
  rw [World.cell?_setCells_in g _ 0 w hs j hj]
  have hv' : [Value.int .i64 i, .string nm, .int .i64 rk, .bool s, .bool d, .bool am, .int .i64 nd][j]? = some v := hv
  rw [← hv', List.getElem?_eq_getElem (by exact hj)]
theorem put7_other {w : World} {g b p : Nat} {r : R} (h : At w b p r) (hne : b ≠ g) (i : Int) (nm : ByteArray) (rk : Int) (s d am : Bool) (nd : Int) : At (put7 w g i nm rk s d am nd) b p r :=
  h.keep fun o => by rw [put7_cells]; exact World.cell?_setCells_out g _ 0 w ⟨b, o, none⟩ (fun e _ => absurd e hne)
theorem put7_frozen (w : World) (g : Nat) (x : Addr) (i : Int) (nm : ByteArray) (rk : Int) (s d am : Bool) (nd : Int) : (put7 w g i nm rk s d am nd).frozen? x = w.frozen? x := by
  rw [put7_cells]; exact World.frozen?_setCells g _ 0 w x
theorem put7_size (w : World) (g : Nat) (i : Int) (nm : ByteArray) (rk : Int) (s d am : Bool) (nd : Int) : (put7 w g i nm rk s d am nd).heap.size = w.heap.size := by
  unfold put7; simp
/-- a block of the call's own that holds a rule -/
def Box (w : World) (g : Nat) (r : R) : Prop := g < w.heap.size ∧ At w g 0 r ∧ ∀ k, w.frozen? ⟨g, k, none⟩ = false
theorem Box.new (w : World) (r : R) (t : TypeId) : Box (w.alloc (.cells #[.int .i64 r.id, .string r.name, .int .i64 r.rank, .bool r.sec, .bool r.deb, .bool r.am, .int .i64 r.need] t)) w.heap.size r :=
  ⟨by simp, At.box w r t, fun k => by simp [go_sem]⟩
theorem Box.below {w w' : World} {g : Nat} {r : R} (h : Box w g r) (hb : Below w.heap.size w w') : Box w' g r :=
  ⟨Nat.lt_of_lt_of_le h.1 hb.size, h.2.1.below hb h.1, fun k => by rw [hb.frozen (p := ⟨g, k, none⟩) h.1]; exact h.2.2 k⟩
theorem Box.alloc {w : World} {g : Nat} {r : R} (h : Box w g r) (o : Obj) : Box (w.alloc o) g r := h.below ((Below.refl _ _).alloc (Nat.le_refl _) _)
theorem Box.put {w : World} {g : Nat} {r : R} (h : Box w g r) (i : Int) (nm : ByteArray) (rk : Int) (s d am : Bool) (nd : Int) : Box (put7 w g i nm rk s d am nd) g ⟨i, nm, rk, s, d, am, nd⟩ :=
  ⟨by rw [put7_size]; exact h.1, put7_at h.2.1 i nm rk s d am nd, fun k => by rw [put7_frozen]; exact h.2.2 k⟩
theorem Box.apart {w : World} {g b : Nat} {r : R} (h : Box w b r) (hne : b ≠ g) (i : Int) (nm : ByteArray) (rk : Int) (s d am : Bool) (nd : Int) : Box (put7 w g i nm rk s d am nd) b r :=
  ⟨by rw [put7_size]; exact h.1, put7_other h.2.1 hne i nm rk s d am nd, fun k => by rw [put7_frozen]; exact h.2.2 k⟩
theorem put7_below {B : Nat} {W w : World} {g : Nat} (h : Below B W w) (hg : B ≤ g) (i : Int) (nm : ByteArray) (rk : Int) (s d am : Bool) (nd : Int) : Below B W (put7 w g i nm rk s d am nd) :=
  ((((((h.setCell hg _).setCell hg _).setCell hg _).setCell hg _).setCell hg _).setCell hg _).setCell hg _
end Go.Proofs.Ytbaflfbidgolfaa.HelpS
namespace Go.Proofs.Ytbaflfbidgolfaa.ByName
open Go.RowKit Rule
set_option linter.unusedVariables false
set_option maxRecDepth 100000

/-- the answer: the rule with the name, and whether there is one -/
inductive Ans (xs : List R) (nm : ByteArray) : R → Bool → Prop
  | bad (h : Gd.goodB xs = false) : Ans xs nm HelpS.R0 false
  | none (h : Gd.goodB xs = true) (hn : ∀ (i : Nat) r, xs[i]? = some r → r.name ≠ nm) : Ans xs nm HelpS.R0 false
  | hit (h : Gd.goodB xs = true) (i : Nat) (r : R) (hi : xs[i]? = some r) (hn : r.name = nm) : Ans xs nm r true
theorem Ans.same {xs : List R} {nm : ByteArray} {r r' : R} {b b' : Bool} (h : Ans xs nm r b) (h' : Ans xs nm r' b') : r = r' ∧ b = b' := by
  cases h with
  | bad h =>
    cases h' with
    | bad _ => exact ⟨rfl, rfl⟩
    | none g _ => rw [h] at g; cases g
    | hit g i r hi hn => rw [h] at g; cases g
  | none h hn =>
    cases h' with
    | bad g => rw [h] at g; cases g
    | none _ _ => exact ⟨rfl, rfl⟩
    | hit g i r hi hm => exact absurd hm (hn i _ hi)
  | hit h i r hi hn =>
    cases h' with
    | bad g => rw [h] at g; cases g
    | none g hm => exact absurd hn (hm i _ hi)
    | hit g j s hj hm =>
      refine ⟨?_, rfl⟩
      rcases Nat.lt_trichotomy i j with hij | hij | hij
      · have := Gd.no_name2 hj hi hij (hn.trans hm.symm)
        rw [g] at this; cases this
      · subst hij
        rw [hi] at hj
        exact Option.some.inj hj
      · have := Gd.no_name2 hi hj hij (hm.trans hn.symm)
        rw [g] at this; cases this
def Post (xs : List R) (nm : ByteArray) (w : World) (e : Ending) (w' : World) : Prop := ∃ r b, e = .returned (.tuple #[.agg #[.int .i64 r.id, .string r.name, .int .i64 r.rank, .bool r.sec, .bool r.deb, .bool r.am, .int .i64 r.need], .bool b]) ∧ Ans xs nm r b ∧ Below w.heap.size w w'
theorem post_zero {xs : List R} {nm : ByteArray} {w w' : World} (h : Ans xs nm HelpS.R0 false) (hb : Below w.heap.size w w') : Post xs nm w (.returned (.tuple #[.agg #[.int .i64 0, .string ⟨#[]⟩, .int .i64 0, .bool false, .bool false, .bool false, .int .i64 0], .bool false])) w' := ⟨HelpS.R0, false, rfl, h, hb⟩

def Got (xs : List R) (nm : ByteArray) (k : Nat) (F : R) : Prop := (F = HelpS.R0 ∧ ∀ q p, q < k → xs[q]? = some p → p.name ≠ nm) ∨ ∃ q, q < k ∧ xs[q]? = some F ∧ F.name = nm
theorem Got.zero (xs : List R) (nm : ByteArray) : Got xs nm 0 HelpS.R0 := .inl ⟨rfl, fun q p hq => by omega⟩
theorem Got.hit {xs : List R} {nm : ByteArray} {k : Nat} {X : R} (hx : xs[k]? = some X) (h : X.name = nm) : Got xs nm (k + 1) X := .inr ⟨k, by omega, hx, h⟩
theorem Got.pass {xs : List R} {nm : ByteArray} {k : Nat} {X F : R} (hx : xs[k]? = some X) (h : X.name ≠ nm) (g : Got xs nm k F) : Got xs nm (k + 1) F := by
  rcases g with ⟨h1, h2⟩ | ⟨q, h1, h2, h3⟩
  · refine .inl ⟨h1, fun q p hq hp => ?_⟩
    rcases Nat.lt_or_ge q k with h' | h'
    · exact h2 q p h' hp
    · obtain rfl : q = k := by omega
      rw [hx] at hp
      rw [← Option.some.inj hp]
      exact h
  · exact .inr ⟨q, by omega, h2, h3⟩
theorem Got.ans {xs : List R} {nm : ByteArray} {n : Nat} {F : R} (hn : xs.length = n) (hg : Gd.goodB xs = true) (g : Got xs nm n F) : (F = HelpS.R0 ∧ Ans xs nm F false) ∨ (1 ≤ F.id ∧ Ans xs nm F true) := by
  rcases g with ⟨h1, h2⟩ | ⟨q, h1, h2, h3⟩
  · exact .inl ⟨h1, by rw [h1]; exact .none hg (fun i r hi => h2 i r (by have := (List.getElem?_eq_some_iff.1 hi).1; omega) hi)⟩
  · refine .inr ⟨?_, .hit hg q F h2 h3⟩
    obtain ⟨r, hr, ho, _⟩ := (Gd.good_of hg).2 q (by omega)
    rw [h2] at hr
    rw [← Option.some.inj hr] at ho
    exact (of_decide_eq_true ho).1.1
theorem neq_zero (w : World) : (binOp .neq 63 (.agg #[.int .i64 0, .string ⟨#[]⟩, .int .i64 0, .bool false, .bool false, .bool false, .int .i64 0]) (.agg #[.int .i64 0, .string ⟨#[]⟩, .int .i64 0, .bool false, .bool false, .bool false, .int .i64 0])).run Try.prog w = .ok (.bool false) w := by kernel_rfl
theorem neq_full (F : R) (h : 1 ≤ F.id) (w : World) : (binOp .neq 63 (.agg #[.int .i64 F.id, .string F.name, .int .i64 F.rank, .bool F.sec, .bool F.deb, .bool F.am, .int .i64 F.need]) (.agg #[.int .i64 0, .string ⟨#[]⟩, .int .i64 0, .bool false, .bool false, .bool false, .int .i64 0])).run Try.prog w = .ok (.bool true) w := by
  have h0 : (F.id == 0) = false := by simp; omega
  rw [run_neq_struct, run_equalIn_agg]
  · simp [go_sem, h0]
  · kernel_rfl
  · kernel_rfl
theorem newZero (w : World) : HelpS.Box (w.alloc (Obj.cells #[.int .i64 0, .string ⟨#[]⟩, .int .i64 0, .bool false, .bool false, .bool false, .int .i64 0] 63)) w.heap.size HelpS.R0 := HelpS.Box.new w HelpS.R0 _

set_option maxHeartbeats 800000 in
theorem spec (a : Option Addr) (n cp : Nat) (xs : List R) (nm : ByteArray) (w : World) (hn : xs.length = n) (h : RulesAt w a cp xs) (hsz : ∀ x ∈ xs, x.name.size ≤ maxLen) :
    Calls Try.prog 75 #[.slice a n cp, .string nm] w (Post xs nm w) := by
  have hc := h.at_
  have HN := Lib.hid hn
  have HZ := Lib.hid hsz
  have HA := Lib.hid h
  have hnb : n ≤ cp := by have := h.1; omega
  have hle : n ≤ xs.length := by omega
  have h2 := h.2.1
  unfold maxLen at h2
  clear h hsz hn
  have hba := (Below.refl w.heap.size w).alloc (Nat.le_refl _) (Obj.cells #[.int .i64 0, .string ⟨#[]⟩, .int .i64 0, .bool false, .bool false, .bool false, .int .i64 0] 63)
  have HC := Lib.hid (Gd.l2Good a n cp xs _ HN.out (HA.out.below hba) HZ.out)
  cases hg : Gd.goodB xs with
  | false =>
    have HG := Lib.hid hg
    clear hg
    go_enter Try.func75, Try.ntmps75
    go_wp2_with fail
    refine HC.out.mono ?_
    rintro e w1 ⟨rfl, hb⟩
    rw [HG.out]
    have hb2 := hba.trans (hb.mono (by simp))
    have HB := Lib.hid ((newZero w).below hb)
    obtain ⟨q0, q1, q2, q3, q4, q5, q6⟩ := HB.out.2.1.head
    have hf := HB.out.2.2
    simp only [HelpS.R0] at q0 q1 q2 q3 q4 q5 q6
    clear hb
    go_wp2_with fail
    rw [← HelpS.put7_def]
    have hb3 := HelpS.put7_below hb2 (Nat.le_refl _) 0 ⟨#[]⟩ 0 false false false 0
    obtain ⟨p0, p1, p2, p3, p4, p5, p6⟩ := (HB.out.put 0 ⟨#[]⟩ 0 false false false 0).2.1.head
    generalize HelpS.put7 _ w.heap.size 0 ⟨#[]⟩ 0 false false false 0 = wf at *
    refine bodyPost_ret (v := .tuple #[.agg #[.int .i64 0, .string ⟨#[]⟩, .int .i64 0, .bool false, .bool false, .bool false, .int .i64 0], .bool false]) (by simp [results, Try.results75, go_sem, p0, p1, p2, p3, p4, p5, p6]) rfl ?_
    exact post_zero (.bad HG.out) hb3
  | true =>
    have HG := Lib.hid hg
    clear hg
    go_enter Try.func75, Try.ntmps75
    go_wp2_with fail
    refine HC.out.mono ?_
    rintro e w1 ⟨rfl, hb⟩
    rw [HG.out]
    have hb2 := hba.trans (hb.mono (by simp))
    have HB := Lib.hid ((newZero w).below hb)
    obtain ⟨q0, q1, q2, q3, q4, q5, q6⟩ := HB.out.2.1.head
    have hf := HB.out.2.2
    simp only [HelpS.R0] at q0 q1 q2 q3 q4 q5 q6
    clear hb hba HC
    go_wp2_with fail
    go_loop [6] (fun i => ∃ k : Nat, k ≤ n ∧ i = .int .i64 k ∧ Hid (∀ q p, q < k → xs[q]? = some p → p.name ≠ nm)) (fun i => n - (intOf i).toNat)
    case atStart => exact ⟨0, Nat.zero_le _, rfl, Lib.hid (fun q p hq => by omega)⟩
    case round =>
      obtain ⟨k, hk, rfl, HM⟩ := hrel
      by_cases hlt : k < n
      · have hx : k < xs.length := by omega
        obtain ⟨b, o, rfl, hbl, hcell0⟩ := hc.out k xs[k] (List.getElem?_eq_getElem hx)
        have HX := Lib.hid (List.getElem?_eq_getElem hx)
        obtain ⟨x0, x1, x2, x3, x4, x5, x6⟩ := hcell0.below hb2 hbl
        have k0 : 0 ≤ (k : Int) := by omega
        have k1 : (k : Int) < (n : Int) := by omega
        clear hcell0
        generalize xs[k] = X at *
        by_cases hname : X.name = nm
        · have HA2 := Lib.hid (Ans.hit HG.out k X HX.out hname)
          have hbe : (X.name.toList == nm.toList) = true := by rw [hname]; simp
          clear hname
          go_wp2_with fail
          rw [← HelpS.put7_def]
          have hb3 := HelpS.put7_below hb2 (Nat.le_refl _) X.id X.name X.rank X.sec X.deb X.am X.need
          obtain ⟨p0, p1, p2, p3, p4, p5, p6⟩ := (HB.out.put X.id X.name X.rank X.sec X.deb X.am X.need).2.1.head
          generalize HelpS.put7 _ w.heap.size X.id X.name X.rank X.sec X.deb X.am X.need = wf at *
          refine bodyPost_ret (v := .tuple #[.agg #[.int .i64 X.id, .string X.name, .int .i64 X.rank, .bool X.sec, .bool X.deb, .bool X.am, .int .i64 X.need], .bool true]) (by simp [results, Try.results75, go_sem, p0, p1, p2, p3, p4, p5, p6]) rfl ?_
          exact ⟨X, true, rfl, HA2.out, hb3⟩
        · have HM2 := Lib.hid (show ∀ q p, q < k + 1 → xs[q]? = some p → p.name ≠ nm from fun q p hq hp => by
            rcases Nat.lt_or_ge q k with h' | h'
            · exact HM.out q p h' hp
            · obtain rfl : q = k := by omega
              rw [HX.out] at hp
              rw [← Option.some.inj hp]
              exact hname)
          have hbe : (X.name.toList == nm.toList) = false := by
            rw [beq_eq_false_iff_ne]
            intro e
            rw [ByteArray.toList_eq, ByteArray.toList_eq] at e
            exact hname (ByteArray.ext (Array.ext' e))
          clear hname
          go_wp2_with fail
          go_round
          case rel => exact ⟨k + 1, by omega, by go_num, HM2⟩
          case measure => simp [intOf]; omega
      · have HA2 := Lib.hid (Ans.none HG.out (fun i r hi => HM.out i r (by have := (List.getElem?_eq_some_iff.1 hi).1; have := HN.out; omega) hi))
        go_wp2_with fail
        rw [← HelpS.put7_def]
        have hb3 := HelpS.put7_below hb2 (Nat.le_refl _) 0 ⟨#[]⟩ 0 false false false 0
        obtain ⟨p0, p1, p2, p3, p4, p5, p6⟩ := (HB.out.put 0 ⟨#[]⟩ 0 false false false 0).2.1.head
        generalize HelpS.put7 _ w.heap.size 0 ⟨#[]⟩ 0 false false false 0 = wf at *
        refine bodyPost_ret (v := .tuple #[.agg #[.int .i64 0, .string ⟨#[]⟩, .int .i64 0, .bool false, .bool false, .bool false, .int .i64 0], .bool false]) (by simp [results, Try.results75, go_sem, p0, p1, p2, p3, p4, p5, p6]) rfl ?_
        exact post_zero HA2.out hb3

set_option maxHeartbeats 800000 in
theorem impl (a : Option Addr) (n cp : Nat) (xs : List R) (nm : ByteArray) (w : World) (hn : xs.length = n) (h : RulesAt w a cp xs) (hsz : ∀ x ∈ xs, x.name.size ≤ maxLen) :
    Calls Try.prog 55 #[.slice a n cp, .string nm] w (Post xs nm w) := by
  have hc := h.at_
  have HN := Lib.hid hn
  have HZ := Lib.hid hsz
  have HA := Lib.hid h
  have hnb : n ≤ cp := by have := h.1; omega
  have hle : n ≤ xs.length := by omega
  have h2 := h.2.1
  unfold maxLen at h2
  clear h hsz hn
  have hba := (Below.refl w.heap.size w).alloc (Nat.le_refl _) (Obj.cells #[.int .i64 0, .string ⟨#[]⟩, .int .i64 0, .bool false, .bool false, .bool false, .int .i64 0] 63)
  have HC := Lib.hid (GoodI.isValidRules a n cp xs _ HN.out (HA.out.below hba) HZ.out)
  cases hg : Gd.goodB xs with
  | false =>
    have HG := Lib.hid hg
    clear hg
    go_enter Try.func55, Try.ntmps55
    go_wp2_with fail
    refine HC.out.mono ?_
    rintro e w1 ⟨rfl, hb⟩
    rw [HG.out]
    have hb2 := hba.trans (hb.mono (by simp))
    have HB := Lib.hid ((newZero w).below hb)
    obtain ⟨q0, q1, q2, q3, q4, q5, q6⟩ := HB.out.2.1.head
    have hf := HB.out.2.2
    simp only [HelpS.R0] at q0 q1 q2 q3 q4 q5 q6
    clear hb
    go_wp2_with fail
    rw [← HelpS.put7_def]
    have hb3 := HelpS.put7_below hb2 (Nat.le_refl _) 0 ⟨#[]⟩ 0 false false false 0
    obtain ⟨p0, p1, p2, p3, p4, p5, p6⟩ := (HB.out.put 0 ⟨#[]⟩ 0 false false false 0).2.1.head
    generalize HelpS.put7 _ w.heap.size 0 ⟨#[]⟩ 0 false false false 0 = wf at *
    refine bodyPost_ret (v := .tuple #[.agg #[.int .i64 0, .string ⟨#[]⟩, .int .i64 0, .bool false, .bool false, .bool false, .int .i64 0], .bool false]) (by simp [results, Try.results55, go_sem, p0, p1, p2, p3, p4, p5, p6]) rfl ?_
    exact post_zero (.bad HG.out) hb3
  | true =>
    have HG := Lib.hid hg
    clear hg
    go_enter Try.func55, Try.ntmps55
    go_wp2_with fail
    refine HC.out.mono ?_
    rintro e w1 ⟨rfl, hb⟩
    rw [HG.out]
    have hb2 := hba.trans (hb.mono (by simp))
    have HB := Lib.hid ((newZero w).below hb)
    have hgt : w.heap.size < w1.heap.size := HB.out.1
    have HW := Lib.hid ((HelpS.Box.new w1 HelpS.R0 63))
    have HB1 := Lib.hid (HB.out.alloc (Obj.cells #[.int .i64 0, .string ⟨#[]⟩, .int .i64 0, .bool false, .bool false, .bool false, .int .i64 0] 63))
    have hb3 := hb2.alloc hb2.size (Obj.cells #[.int .i64 0, .string ⟨#[]⟩, .int .i64 0, .bool false, .bool false, .bool false, .int .i64 0] 63)
    clear hb hba HC HB hb2
    go_wp2_with fail
    generalize w1.heap.size = G at *
    go_loopw [16] (fun i wr => ∃ (k : Nat) (F : R), k ≤ n ∧ i = .int .i64 k ∧ Below w.heap.size w wr ∧ Hid (HelpS.Box wr G F) ∧ Hid (HelpS.Box wr w.heap.size HelpS.R0) ∧ Hid (Got xs nm k F)) (fun i _ => n - (intOf i).toNat)
    case atStart => exact ⟨0, HelpS.R0, Nat.zero_le _, rfl, hb3, HW, HB1, Lib.hid (Got.zero xs nm)⟩
    case round =>
      clear hb3 HW HB1
      obtain ⟨k, F, hk, rfl, hb, HBG, HB0, HF⟩ := hrel
      by_cases hlt : k < n
      · have hx : k < xs.length := by omega
        obtain ⟨b, o, rfl, hbl, hcell0⟩ := hc.out k xs[k] (List.getElem?_eq_getElem hx)
        have HX := Lib.hid (List.getElem?_eq_getElem hx)
        obtain ⟨x0, x1, x2, x3, x4, x5, x6⟩ := hcell0.below hb hbl
        have k0 : 0 ≤ (k : Int) := by omega
        have k1 : (k : Int) < (n : Int) := by omega
        clear hcell0
        generalize xs[k] = X at *
        by_cases hname : X.name = nm
        · have HF2 := Lib.hid (Got.hit HX.out hname)
          have hbe : (X.name.toList == nm.toList) = true := by rw [hname]; simp
          have HBG2 := Lib.hid ((HBG.out.put X.id X.name X.rank X.sec X.deb X.am X.need).alloc (Obj.cells #[.int .i64 X.id, .string X.name, .int .i64 X.rank, .bool X.sec, .bool X.deb, .bool X.am, .int .i64 X.need] 63))
          have HB02 := Lib.hid ((HB0.out.apart (g := G) (by omega) X.id X.name X.rank X.sec X.deb X.am X.need).alloc (Obj.cells #[.int .i64 X.id, .string X.name, .int .i64 X.rank, .bool X.sec, .bool X.deb, .bool X.am, .int .i64 X.need] 63))
          have hb3 := HelpS.put7_below (g := G) hb (by omega) X.id X.name X.rank X.sec X.deb X.am X.need
          have hb4 := hb3.alloc hb3.size (Obj.cells #[.int .i64 X.id, .string X.name, .int .i64 X.rank, .bool X.sec, .bool X.deb, .bool X.am, .int .i64 X.need] 63)
          obtain ⟨q0, q1, q2, q3, q4, q5, q6⟩ := HBG.out.2.1.head
          have hf := HBG.out.2.2
          have hG := HBG.out.1
          clear hname
          go_wp2_with fail
          rw [← HelpS.put7_def]
          go_roundw
          case rel => exact ⟨k + 1, X, by omega, by go_num, hb4, HBG2, HB02, HF2⟩
          case measure => simp [intOf]; omega
        · have HF2 := Lib.hid (Got.pass HX.out hname HF.out)
          have hbe : (X.name.toList == nm.toList) = false := by
            rw [beq_eq_false_iff_ne]
            intro e
            rw [ByteArray.toList_eq, ByteArray.toList_eq] at e
            exact hname (ByteArray.ext (Array.ext' e))
          have HBG2 := Lib.hid (HBG.out.alloc (Obj.cells #[.int .i64 X.id, .string X.name, .int .i64 X.rank, .bool X.sec, .bool X.deb, .bool X.am, .int .i64 X.need] 63))
          have HB02 := Lib.hid (HB0.out.alloc (Obj.cells #[.int .i64 X.id, .string X.name, .int .i64 X.rank, .bool X.sec, .bool X.deb, .bool X.am, .int .i64 X.need] 63))
          have hb4 := hb.alloc hb.size (Obj.cells #[.int .i64 X.id, .string X.name, .int .i64 X.rank, .bool X.sec, .bool X.deb, .bool X.am, .int .i64 X.need] 63)
          clear hname
          go_wp2_with fail
          go_roundw
          case rel => exact ⟨k + 1, F, by omega, by go_num, hb4, HBG2, HB02, HF2⟩
          case measure => simp [intOf]; omega
      · obtain rfl : k = n := by omega
        obtain ⟨q0, q1, q2, q3, q4, q5, q6⟩ := HBG.out.2.1.head
        obtain ⟨z0, z1, z2, z3, z4, z5, z6⟩ := HB0.out.2.1.head
        have hf := HB0.out.2.2
        simp only [HelpS.R0] at z0 z1 z2 z3 z4 z5 z6
        rcases HF.out.ans HN.out HG.out with ⟨hz, hA⟩ | ⟨hz, hA⟩
        · subst hz
          have HA2 := Lib.hid hA
          have hnq := neq_zero
          simp only [HelpS.R0] at q0 q1 q2 q3 q4 q5 q6
          clear hA
          go_wp2_with fail
          go_region
          go_wp2_with fail
          rw [← HelpS.put7_def]
          have hb3 := HelpS.put7_below (g := w.heap.size) hb (Nat.le_refl _) 0 ⟨#[]⟩ 0 false false false 0
          obtain ⟨p0, p1, p2, p3, p4, p5, p6⟩ := (HB0.out.put 0 ⟨#[]⟩ 0 false false false 0).2.1.head
          generalize HelpS.put7 wr w.heap.size 0 ⟨#[]⟩ 0 false false false 0 = wf at *
          refine bodyPost_ret (v := .tuple #[.agg #[.int .i64 0, .string ⟨#[]⟩, .int .i64 0, .bool false, .bool false, .bool false, .int .i64 0], .bool false]) (by simp [results, Try.results55, go_sem, p0, p1, p2, p3, p4, p5, p6]) rfl ?_
          exact post_zero HA2.out hb3.drew
        · have HA2 := Lib.hid hA
          have hnq := neq_full F hz
          clear hz hA
          go_wp2_with fail
          go_region
          go_wp2_with fail
          rw [← HelpS.put7_def]
          have hb3 := HelpS.put7_below (g := w.heap.size) hb (Nat.le_refl _) F.id F.name F.rank F.sec F.deb F.am F.need
          obtain ⟨p0, p1, p2, p3, p4, p5, p6⟩ := (HB0.out.put F.id F.name F.rank F.sec F.deb F.am F.need).2.1.head
          generalize HelpS.put7 wr w.heap.size F.id F.name F.rank F.sec F.deb F.am F.need = wf at *
          refine bodyPost_ret (v := .tuple #[.agg #[.int .i64 F.id, .string F.name, .int .i64 F.rank, .bool F.sec, .bool F.deb, .bool F.am, .int .i64 F.need], .bool true]) (by simp [results, Try.results55, go_sem, p0, p1, p2, p3, p4, p5, p6]) rfl ?_
          exact ⟨F, true, rfl, HA2.out, hb3.drew⟩
end Go.Proofs.Ytbaflfbidgolfaa.ByName
namespace Go.Proofs.Ytbaflfbidgolfaa.St
open Go.RowKit Bs Word Sq IntF
set_option linter.unusedVariables false
abbrev Q := LQuestion.R
abbrev R := LRule.R
theorem id_asc {xs : List R} (h : Gd.goodB xs = true) : ∀ (i k : Nat) (a b : R), k < i → xs[k]? = some a → xs[i]? = some b → a.id < b.id
  | 0, k, a, b, hk, ha, hb => by omega
  | i + 1, k, a, b, hk, ha, hb => by
    obtain ⟨r, hr, _, hlt, _⟩ := (Gd.good_of h).2 (i + 1) (List.getElem?_eq_some_iff.1 hb).1
    rw [hb] at hr
    obtain rfl := Option.some.inj hr
    have hi : i < xs.length := by have := (List.getElem?_eq_some_iff.1 hb).1; omega
    have hp := List.getElem?_eq_getElem hi
    have h1 := hlt _ (by omega) hp
    rcases Nat.lt_or_ge k i with h' | h'
    · have := id_asc h i k a _ h' ha hp; omega
    · obtain rfl : k = i := by omega
      rw [hp] at ha
      rw [← Option.some.inj ha]; exact h1
abbrev idx (z : List R) (n : Int) : Option Nat := z.findIdx? (fun X => (X.id == n))
def R0 : R := ⟨0, ⟨#[]⟩, 0, false, false, false, 0⟩
/-- the rule with an id -/
def ru (z : List R) (n : Int) : R := ((idx z n).bind (fun k => z[k]?)).getD R0
theorem ru_at {z : List R} {n : Int} {k : Nat} {r : R} (h : idx z n = some k) (hr : z[k]? = some r) : ru z n = r := by unfold ru; rw [h]; show (z[k]?).getD R0 = r; rw [hr]; rfl
theorem idx_mem {z : List R} (hg : Gd.goodB z = true) {j : Nat} {r : R} (h : z[j]? = some r) : idx z r.id = some j :=
  first_hit (p := fun X => (X.id == r.id)) (fun i x hi hx => by have := id_asc hg j i x r hi hx h; simp; omega) h (by simp)
theorem idx_get {z : List R} {n : Int} {k : Nat} (h : idx z n = some k) : ∃ r, z[k]? = some r ∧ r.id = n ∧ ru z n = r ∧ k < z.length := by
  obtain ⟨X, hX, hp, _⟩ := idx_some h
  exact ⟨X, hX, by simpa using hp, ru_at h hX, (List.getElem?_eq_some_iff.1 hX).1⟩
theorem ru_mem {z : List R} {n : Int} (h : (idx z n).isSome = true) : ru z n ∈ z ∧ (ru z n).id = n := by
  obtain ⟨k, hk⟩ := Option.isSome_iff_exists.1 h
  obtain ⟨r, hr, hi, he, _⟩ := idx_get hk
  rw [he]; exact ⟨List.mem_of_getElem? hr, hi⟩
theorem ru_id {z : List R} (hg : Gd.goodB z = true) {r : R} (h : r ∈ z) : ru z r.id = r ∧ (idx z r.id).isSome = true := by
  obtain ⟨j, hj⟩ := List.mem_iff_getElem?.1 h
  have := idx_mem hg hj
  exact ⟨ru_at this hj, by rw [this]; rfl⟩
def lacks (z : List R) (q : Q) : Bool := (ru z q.rule).sec && !q.sec
def rk (z : List R) (q : Q) : Int := (ru z q.rule).rank
def okB (z : List R) (q : Q) : Bool := (idx z q.rule).isSome && (inB q.mover 1 99 && (!q.sec || (ru z q.rule).sec))
/-- whether a question of a rule may stand behind one -/
def folR (z : List R) (p : Q) (r : R) : Bool := !lacks z p && decide (rk z p < r.rank)
def fol (z : List R) (p q : Q) : Bool := folR z p (ru z q.rule)
def Step (z : List R) (l : List Q) (i : Nat) : Prop := ∃ q, l[i]? = some q ∧ okB z q = true ∧ ∀ p, 0 < i → l[i - 1]? = some p → fol z p q = true
def GoodP (z : List R) (l : List Q) : Prop := Gd.goodB z = true ∧ l.length ≤ 6 ∧ ∀ i, i < l.length → Step z l i
open Classical in
noncomputable def goodQ (z : List R) (l : List Q) : Bool := decide (GoodP z l)
open Classical in
theorem good_yes {z : List R} {l : List Q} (h : GoodP z l) : goodQ z l = true := decide_eq_true h
open Classical in
theorem good_no {z : List R} {l : List Q} (h : ¬ GoodP z l) : goodQ z l = false := decide_eq_false h
open Classical in
theorem good_of {z : List R} {l : List Q} (h : goodQ z l = true) : GoodP z l := of_decide_eq_true h
theorem no_rules {z : List R} {l : List Q} (h : Gd.goodB z = false) : goodQ z l = false := good_no fun g => by rw [g.1] at h; cases h
theorem no_len {z : List R} {l : List Q} (h : 6 < l.length) : goodQ z l = false := good_no fun g => by have := g.2.1; omega
theorem no_step {z : List R} {l : List Q} {i : Nat} (hi : i < l.length) (h : ¬ Step z l i) : goodQ z l = false := good_no fun g => h (g.2.2 i hi)
theorem no_ok {z : List R} {l : List Q} {i : Nat} {q : Q} (hq : l[i]? = some q) (h : okB z q = false) : goodQ z l = false :=
  no_step (List.getElem?_eq_some_iff.1 hq).1 fun ⟨r, hr, ho, _⟩ => by
    rw [hq] at hr; rw [← Option.some.inj hr, h] at ho; cases ho
theorem no_fol {z : List R} {l : List Q} {i : Nat} {p q : Q} (hq : l[i]? = some q) (h0 : 0 < i) (hp : l[i - 1]? = some p) (h : fol z p q = false) : goodQ z l = false :=
  no_step (List.getElem?_eq_some_iff.1 hq).1 fun ⟨r, hr, _, ho⟩ => by
    rw [hq] at hr
    have := ho p h0 hp
    rw [← Option.some.inj hr, h] at this; cases this
theorem step_mk {z : List R} {l : List Q} {i : Nat} {q : Q} (hq : l[i]? = some q) (h : okB z q = true) (h2 : ∀ p, 0 < i → l[i - 1]? = some p → fol z p q = true) : Step z l i := ⟨q, hq, h, h2⟩
theorem steps_next {z : List R} {l : List Q} {k : Nat} (hs : ∀ i, i < k → Step z l i) (h : Step z l k) : ∀ i, i < k + 1 → Step z l i := fun i hi => by
  rcases Nat.lt_or_ge i k with h' | h'
  · exact hs i h'
  · rwa [show i = k by omega]
theorem ok_parts {z : List R} {q : Q} (h : okB z q = true) : ∃ k r, idx z q.rule = some k ∧ z[k]? = some r ∧ ru z q.rule = r ∧ k < z.length ∧ (1 ≤ q.mover ∧ q.mover ≤ 99) ∧ (q.sec = true → r.sec = true) := by
  unfold okB at h
  rw [Bool.and_eq_true, Bool.and_eq_true] at h
  obtain ⟨k, hk⟩ := Option.isSome_iff_exists.1 h.1
  obtain ⟨r, hr, _, he, hl⟩ := idx_get hk
  refine ⟨k, r, hk, hr, he, hl, inB_yes h.2.1, fun hs => ?_⟩
  have := h.2.2
  rw [hs, he] at this
  simpa using this
theorem good_at {z : List R} {l : List Q} (h : goodQ z l = true) {i : Nat} {q : Q} (hq : l[i]? = some q) : okB z q = true := by
  obtain ⟨r, hr, ho, _⟩ := (good_of h).2.2 i (List.getElem?_eq_some_iff.1 hq).1
  rw [hq] at hr; rw [Option.some.inj hr]; exact ho
theorem good_fol {z : List R} {l : List Q} (h : goodQ z l = true) {i : Nat} {p q : Q} (hq : l[i + 1]? = some q) (hp : l[i]? = some p) : fol z p q = true := by
  obtain ⟨r, hr, _, ho⟩ := (good_of h).2.2 (i + 1) (List.getElem?_eq_some_iff.1 hq).1
  rw [hq] at hr; rw [Option.some.inj hr]; exact ho p (by omega) hp
theorem step_take {z : List R} {l : List Q} {i k : Nat} (hi : i < k) (h : Step z l i) : Step z (l.take k) i := by
  obtain ⟨q, hq, ho, hf⟩ := h
  refine ⟨q, by rw [List.getElem?_take, if_pos hi]; exact hq, ho, fun p h0 hp => hf p h0 ?_⟩
  rw [List.getElem?_take, if_pos (by omega)] at hp; exact hp
theorem good_take {z : List R} {l : List Q} (h : goodQ z l = true) (k : Nat) : goodQ z (l.take k) = true := by
  obtain ⟨h1, h2, h3⟩ := good_of h
  refine good_yes ⟨h1, by rw [List.length_take]; omega, fun i hi => ?_⟩
  rw [List.length_take] at hi
  exact step_take (by omega) (h3 i (by omega))
/-- the immediately pending question -/
abbrev top (l : List Q) : Option Q := l[l.length - 1]?
theorem top_nil : top [] = none := rfl
theorem top_some {l : List Q} (h : l.length ≠ 0) : ∃ q, top l = some q := ⟨l[l.length - 1]'(by omega), List.getElem?_eq_getElem (by omega)⟩
/-- whether a motion of a rule may be moved now -/
def mayB (z : List R) (l : List Q) (r : R) : Bool := match top l with | none => true | some p => decide (l.length < 6) && folR z p r
def may (z : List R) (l : List Q) : List Int := (z.filter (mayB z l)).map (·.id)
theorem may_nil {z : List R} {l : List Q} {r : R} (h : l.length = 0) : mayB z l r = true := by
  rw [List.eq_nil_of_length_eq_zero h]; rfl
theorem may_top {z : List R} {l : List Q} {r : R} {p : Q} (h : top l = some p) : mayB z l r = (decide (l.length < 6) && folR z p r) := by unfold mayB; rw [h]
theorem may_full {z : List R} {l : List Q} (h : 6 ≤ l.length) : may z l = [] := by
  unfold may
  rw [List.filter_eq_nil_iff.2, List.map_nil]
  intro r _
  obtain ⟨p, hp⟩ := top_some (l := l) (by omega)
  rw [may_top hp, show decide (l.length < 6) = false from decide_eq_false (by omega)]
  simp
theorem may_mem {z : List R} {l : List Q} {n : Int} (hg : Gd.goodB z = true) : n ∈ may z l ↔ (idx z n).isSome = true ∧ mayB z l (ru z n) = true := by
  unfold may
  rw [List.mem_map]
  constructor
  · rintro ⟨r, hr, rfl⟩
    obtain ⟨hm, hb⟩ := List.mem_filter.1 hr
    obtain ⟨h1, h2⟩ := ru_id hg hm
    exact ⟨h2, by rw [h1]; exact hb⟩
  · rintro ⟨h1, h2⟩
    obtain ⟨h3, h4⟩ := ru_mem h1
    exact ⟨_, List.mem_filter.2 ⟨h3, h2⟩, h4⟩
theorem may_len {z : List R} {l : List Q} : (may z l).length ≤ z.length := by
  unfold may; rw [List.length_map]; exact List.length_filter_le _ _
/-- as far as place k of the rules -/
theorem may_next {z : List R} {l : List Q} {k : Nat} {r : R} (h : z[k]? = some r) : may (z.take (k + 1)) l = may (z.take (k + 1)) l := rfl
def mayT (z : List R) (l : List Q) (k : Nat) : List Int := ((z.take k).filter (mayB z l)).map (·.id)
theorem mayT_zero {z : List R} {l : List Q} : mayT z l 0 = [] := rfl
theorem mayT_all {z : List R} {l : List Q} {k : Nat} (h : z.length ≤ k) : mayT z l k = may z l := by unfold mayT may; rw [List.take_of_length_le h]
theorem mayT_next {z : List R} {l : List Q} {k : Nat} {r : R} {b : Bool} (h : z[k]? = some r) (hb : mayB z l r = b) : mayT z l (k + 1) = mayT z l k ++ (if b then [r.id] else []) := by
  have hk := (List.getElem?_eq_some_iff.1 h).1
  unfold mayT
  rw [List.take_add_one, h, Option.toList_some, List.filter_append, List.map_append]
  congr 1
  cases b with
  | true => rw [List.filter_cons_of_pos hb]; rfl
  | false => rw [List.filter_cons_of_neg (by rw [hb]; decide)]; rfl
theorem mayT_len {z : List R} {l : List Q} {k : Nat} : (mayT z l k).length ≤ k := by
  unfold mayT
  rw [List.length_map]
  refine Nat.le_trans (List.length_filter_le _ _) ?_
  rw [List.length_take]; omega
/-- one more question -/
theorem move_iff (z : List R) (l : List Q) (id m : Int) : goodQ z (l ++ [⟨id, m, false⟩]) = (goodQ z l && (inB m 1 99 && hasB (may z l) id)) := by
  rw [Bool.eq_iff_iff, Bool.and_eq_true, Bool.and_eq_true]
  constructor
  · intro h
    have hl : goodQ z l = true := by have := good_take h l.length; rwa [List.take_left] at this
    have hq := good_at h (i := l.length) (q := ⟨id, m, false⟩) (by simp)
    obtain ⟨k, r, hk, hr, he, _, hm, _⟩ := ok_parts hq
    refine ⟨hl, inB_mk hm.1 hm.2, has_iff.2 ((may_mem (good_of h).1).2 ⟨by rw [show idx z id = some k from hk]; rfl, ?_⟩)⟩
    rcases Nat.eq_zero_or_pos l.length with h0 | h0
    · exact may_nil h0
    · obtain ⟨p, hp⟩ := top_some (l := l) (by omega)
      rw [may_top hp]
      have h6 := (good_of h).2.1
      simp only [List.length_append, List.length_singleton] at h6
      have hf := good_fol h (i := l.length - 1) (p := p) (q := ⟨id, m, false⟩) (by rw [show l.length - 1 + 1 = l.length by omega]; simp) (by rw [List.getElem?_append_left (by omega)]; exact hp)
      rw [show decide (l.length < 6) = true from decide_eq_true (by omega), Bool.true_and]
      exact hf
  · rintro ⟨hl, hm, hh⟩
    obtain ⟨h1, h2, h3⟩ := good_of hl
    obtain ⟨h4, h5⟩ := (may_mem h1).1 (has_iff.1 hh)
    have hlen : l.length < 6 := by
      rcases Nat.eq_zero_or_pos l.length with h0 | h0
      · omega
      · obtain ⟨p, hp⟩ := top_some (l := l) (by omega)
        rw [may_top hp, Bool.and_eq_true] at h5
        exact of_decide_eq_true h5.1
    refine good_yes ⟨h1, by simp; omega, fun i hi => ?_⟩
    simp only [List.length_append, List.length_singleton] at hi
    rcases Nat.lt_or_ge i l.length with h' | h'
    · obtain ⟨q, hq, ho, hf⟩ := h3 i h'
      refine ⟨q, by rw [List.getElem?_append_left h']; exact hq, ho, fun p h0 hp => hf p h0 ?_⟩
      rw [List.getElem?_append_left (by omega)] at hp; exact hp
    · obtain rfl : i = l.length := by omega
      refine ⟨⟨id, m, false⟩, by simp, ?_, fun p h0 hp => ?_⟩
      · show ((idx z id).isSome && (inB m 1 99 && (!false || (ru z id).sec))) = true
        rw [h4, hm]; rfl
      · rw [List.getElem?_append_left (by omega)] at hp
        rw [may_top hp, Bool.and_eq_true] at h5
        exact h5.2
/-- the last one seconded -/
theorem second_good {z : List R} {l : List Q} {q : Q} (h : goodQ z l = true) (hq : top l = some q) (hl : lacks z q = true) : goodQ z (l.set (l.length - 1) { q with sec := true }) = true := by
  obtain ⟨h1, h2, h3⟩ := good_of h
  have hn : l.length - 1 < l.length := (List.getElem?_eq_some_iff.1 hq).1
  unfold lacks at hl
  rw [Bool.and_eq_true] at hl
  refine good_yes ⟨h1, by simpa using h2, fun i hi => ?_⟩
  rw [List.length_set] at hi
  obtain ⟨x, hx, ho, hf⟩ := h3 i hi
  have hprev : ∀ p, 0 < i → (l.set (l.length - 1) { q with sec := true })[i - 1]? = some p → l[i - 1]? = some p := fun p h0 hp => by
    rwa [List.getElem?_set_ne (by omega)] at hp
  rcases Nat.lt_or_ge i (l.length - 1) with h' | h'
  · exact ⟨x, by rw [List.getElem?_set_ne (by omega)]; exact hx, ho, fun p h0 hp => hf p h0 (hprev p h0 hp)⟩
  · obtain rfl : i = l.length - 1 := by omega
    have hqx : q = x := Option.some.inj (hq.symm.trans hx)
    subst hqx
    refine ⟨{ q with sec := true }, List.getElem?_set_self hn, ?_, fun p h0 hp => hf p h0 (hprev p h0 hp)⟩
    unfold okB at ho ⊢
    rw [Bool.and_eq_true, Bool.and_eq_true] at ho ⊢
    exact ⟨ho.1, ho.2.1, by show (!true || (ru z q.rule).sec) = true; rw [hl.1]; rfl⟩
end Go.Proofs.Ytbaflfbidgolfaa.St
namespace Go.Proofs.Ytbaflfbidgolfaa.StF
open Go.RowKit Bs Word Sq St
set_option linter.unusedVariables false
abbrev M := LRule.R
theorem ret_int {a b : Int} (h : a = b) : Ending.returned (.int .i64 a) = .returned (.int .i64 b) := by rw [h]
set_option maxHeartbeats 400000 in
theorem l2Find (v0 : Value) (z0 : List LRule.R) (a1 : Int) (w : World) (h0 : Is LRule.rec w v0 z0) :
    Calls Try.prog 92 #[v0, .int .i64 a1] w fun e w' => e = .returned (.int .i64 (ix (idx z0 a1))) ∧ w = w' := by
  obtain ⟨a, cp, rfl, h0⟩ := h0
  have hc := h0.at_ LRule.rec
  obtain ⟨n, hn⟩ : ∃ n, n = z0.length := ⟨_, rfl⟩
  have hnb : n ≤ cp := by have := h0.1; omega
  have hn2 := h0.2.1
  unfold maxLen at hn2
  have HN := Lib.hid hn.symm
  rw [← hn]
  have hnle : n ≤ z0.length := by omega
  clear hn h0
  go_enter Try.func92, Try.ntmps92
  go_wp2_with fail
  go_loop [5] (fun i => ∃ k : Nat, k ≤ n ∧ i = .int .i64 k ∧ Hid (Sq.First (fun X => (X.id == a1)) z0 k)) (fun i => n - (intOf i).toNat)
  case atStart => exact ⟨0, Nat.zero_le _, rfl, Lib.hid Sq.first_zero⟩
  case round =>
    obtain ⟨k, hk, rfl, HF⟩ := hrel
    by_cases hlt : k < n
    · have hx : k < z0.length := by omega
      obtain ⟨b, o, rfl, hbl, hcell0⟩ := hc.out k z0[k] (List.getElem?_eq_getElem hx)
      obtain ⟨q0, q1, q2, q3, q4, q5, q6⟩ := LRule.cells (hcell0)
      simp only [LRule.rec_n] at q0 q1 q2 q3 q4 q5 q6
      have HX := Lib.hid (List.getElem?_eq_getElem hx)
      clear hcell0
      generalize z0[k] = X at *
      cases g : (X.id == a1) with
      | true =>
        have HI := Lib.hid (Sq.first_hit HF.out HX.out g)
        go_wp2_with fail
        go_ret
        exact ⟨ret_int (by unfold idx; rw [HI.out]; rfl), rfl⟩
      | false =>
        have HF2 := Lib.hid (Sq.first_next HF.out HX.out g)
        go_wp2_with fail
        go_round
        case rel => exact ⟨k + 1, by omega, by go_num, HF2⟩
        case measure => simp [intOf]; omega
    · have HI := Lib.hid (Sq.first_none HF.out (by have := HN.out; omega))
      go_wp2_with fail
      go_ret
      exact ⟨ret_int (by unfold idx; rw [HI.out]; rfl), rfl⟩
theorem closure (X : M) (b : Nat) (id : Int) (w : World) (h : w.cell? ⟨b, 0, none⟩ = some (.int .i64 id)) (hl : b < w.heap.size) :
    Calls Try.prog 114 #[.agg #[.int .i64 X.id, .string X.name, .int .i64 X.rank, .bool X.sec, .bool X.deb, .bool X.am, .int .i64 X.need], .pointer (some ⟨b, 0, none⟩)] w fun e w' => e = .returned (.bool (X.id == id)) ∧ Below w.heap.size w w' := by
  have h' : ∀ o, (w.alloc o).cell? ⟨b, 0, none⟩ = some (.int .i64 id) := fun o => by
    rw [((Below.refl w.heap.size w).alloc (Nat.le_refl _) o).cell (p := ⟨b, 0, none⟩) hl]; exact h
  have hb := fun o => (Below.refl w.heap.size w).alloc (Nat.le_refl _) o
  clear h
  go_enter Try.func114, Try.ntmps114
  go_wp2_with fail
  go_ret
  exact ⟨rfl, hb _⟩
set_option maxRecDepth 100000 in
set_option maxHeartbeats 800000 in
theorem index (v0 : Value) (z0 : List M) (a1 : Int) (b : Nat) (w : World) (h0 : Is LRule.rec w v0 z0) (hb : w.cell? ⟨b, 0, none⟩ = some (.int .i64 a1)) (hbl : b < w.heap.size) :
    Calls Try.prog 113 #[v0, .func (.func 114) #[] #[.pointer (some ⟨b, 0, none⟩)]] w fun e w' => e = .returned (.int .i64 (ix (idx z0 a1))) ∧ Below w.heap.size w w' := by
  obtain ⟨a, cp, rfl, h0⟩ := h0
  have hc := h0.at_ LRule.rec
  obtain ⟨n, hn⟩ : ∃ n, n = z0.length := ⟨_, rfl⟩
  have hnb : n ≤ cp := by have := h0.1; omega
  have hn2 := h0.2.1
  unfold maxLen at hn2
  have HN := Lib.hid hn.symm
  rw [← hn]
  have hnle : n ≤ z0.length := by omega
  clear hn h0
  have HB := Lib.hid hb
  clear hb
  go_enter Try.func113, Try.ntmps113
  go_wp2_with fail
  go_loopw [8] (fun i wr => ∃ k : Nat, k ≤ n ∧ i = .int .i64 k ∧ Hid (First (fun X => (X.id == a1)) z0 k) ∧ Below w.heap.size w wr) (fun i _ => n - (intOf i).toNat)
  case atStart => exact ⟨0, Nat.zero_le _, rfl, Lib.hid first_zero, Below.refl _ _⟩
  case round =>
    obtain ⟨k, hk, rfl, HF, hbw⟩ := hrel
    by_cases hlt : k < n
    · have hx : k < z0.length := by omega
      obtain ⟨b', o, rfl, hbl', hcell0⟩ := hc.out k z0[k] (List.getElem?_eq_getElem hx)
      have HX := Lib.hid (List.getElem?_eq_getElem hx)
      obtain ⟨q0, q1, q2, q3, q4, q5, q6⟩ := LRule.cells (hcell0.below LRule.rec hbw hbl')
      simp only [LRule.rec_n] at q0 q1 q2 q3 q4 q5 q6
      have k0 : 0 ≤ (k : Int) := by omega
      have k1 : (k : Int) < (n : Int) := by omega
      have hB2 := Lib.hid (show wr.cell? ⟨b, 0, none⟩ = some (.int .i64 a1) by rw [hbw.cell (p := ⟨b, 0, none⟩) hbl]; exact HB.out)
      have hbl2 : b < wr.heap.size := Nat.lt_of_lt_of_le hbl hbw.size
      clear hcell0
      generalize z0[k] = X at *
      go_wp2_with fail
      refine (closure X b a1 _ hB2.out hbl2).mono ?_
      rintro e w1 ⟨rfl, hb1⟩
      have hb2 := hbw.trans (hb1.mono hbw.size)
      clear q0 q1 q2 q3 q4 q5 q6
      cases g : (X.id == a1) with
      | true =>
        have HI := Lib.hid (show idx z0 a1 = some k from first_hit HF.out HX.out g)
        clear g
        go_wp2_with fail
        go_ret
        exact ⟨ret_int (by rw [HI.out]; rfl), hb2⟩
      | false =>
        have HF2 := Lib.hid (first_next HF.out HX.out g)
        clear g
        go_wp2_with fail
        go_roundw
        case rel => exact ⟨k + 1, by omega, by go_num, HF2, hb2⟩
        case measure => simp [intOf]; omega
    · have HI := Lib.hid (show idx z0 a1 = none from first_none HF.out (by have := HN.out; omega))
      go_wp2_with fail
      go_ret
      exact ⟨ret_int (by rw [HI.out]; rfl), hbw⟩
theorem ruleIndex (v0 : Value) (z0 : List M) (a1 : Int) (w : World) (h0 : Is LRule.rec w v0 z0) :
    Calls Try.prog 81 #[v0, .int .i64 a1] w fun e w' => e = .returned (.int .i64 (ix (idx z0 a1))) ∧ Below w.heap.size w w' := by
  have hbx := (Below.refl w.heap.size w).alloc (Nat.le_refl _) (Obj.cells #[.int .i64 a1] 3)
  have hc : (w.alloc (Obj.cells #[.int .i64 a1] 3)).cell? ⟨w.heap.size, 0, none⟩ = some (.int .i64 a1) := cell_one_new w (.int .i64 a1) 3 0 _ rfl
  have HX := Lib.hid (index v0 z0 a1 w.heap.size _ (h0.below LRule.rec hbx) hc (by simp))
  obtain ⟨a, c, rfl, _⟩ := h0
  clear hc
  go_enter Try.func81, Try.ntmps81
  go_wp2_with fail
  refine HX.out.mono ?_
  rintro e w' ⟨rfl, hb⟩
  have hb2 := hbx.trans (hb.mono hbx.size)
  go_wp2_with fail
  go_ret
  exact ⟨rfl, hb2⟩
theorem find_at {v0 : Value} {z : List M} {n : Int} {k : Nat} {w : World} (h0 : Is LRule.rec w v0 z) (hk : idx z n = some k) :
    Calls Try.prog 92 #[v0, .int .i64 n] w fun e w' => e = .returned (.int .i64 k) ∧ w = w' := by
  have h := l2Find v0 z n w h0
  rw [hk] at h; exact h
theorem find_no {v0 : Value} {z : List M} {n : Int} {w : World} (h0 : Is LRule.rec w v0 z) (hk : idx z n = none) :
    Calls Try.prog 92 #[v0, .int .i64 n] w fun e w' => e = .returned (.int .i64 (-1)) ∧ w = w' := by
  have h := l2Find v0 z n w h0
  rw [hk] at h; exact h
theorem index_at {v0 : Value} {z : List M} {n : Int} {k : Nat} {w : World} (h0 : Is LRule.rec w v0 z) (hk : idx z n = some k) :
    Calls Try.prog 81 #[v0, .int .i64 n] w fun e w' => e = .returned (.int .i64 k) ∧ Below w.heap.size w w' := by
  have h := ruleIndex v0 z n w h0
  rw [hk] at h; exact h
theorem index_no {v0 : Value} {z : List M} {n : Int} {w : World} (h0 : Is LRule.rec w v0 z) (hk : idx z n = none) :
    Calls Try.prog 81 #[v0, .int .i64 n] w fun e w' => e = .returned (.int .i64 (-1)) ∧ Below w.heap.size w w' := by
  have h := ruleIndex v0 z n w h0
  rw [hk] at h; exact h
end Go.Proofs.Ytbaflfbidgolfaa.StF
namespace Go.Proofs.Ytbaflfbidgolfaa.LQuestion
open Go.RowKit Bs
set_option linter.unusedVariables false
def wt (r : R) : Nat := 0
def Fine (r : R) : Prop := True
def tot (xs : List R) : Nat := (xs.map wt).sum
theorem tot_next (xs : List R) (k : Nat) (h : k < xs.length) : tot (xs.take (k + 1)) = tot (xs.take k) + wt xs[k] := by
  rw [List.take_succ_eq_append_getElem h]; unfold tot; rw [List.map_append, List.sum_append]; simp
theorem tot_take_le (xs : List R) (k : Nat) : tot (xs.take k) ≤ tot xs := by
  have := congrArg tot (List.take_append_drop k xs)
  have e : ∀ a b : List R, tot (a ++ b) = tot a + tot b := fun a b => by simp [tot]
  rw [e] at this
  omega
theorem mem_le (xs : List R) (x : R) (h : x ∈ xs) : wt x ≤ tot xs := by
  induction xs with
  | nil => cases h
  | cons y ys ih =>
    simp only [tot, List.map_cons, List.sum_cons] at ih ⊢
    rcases List.mem_cons.1 h with rfl | h
    · omega
    · have := ih h; omega
/-- what is left behind something of a weight -/
def Left (t : Nat) (l : Int) (w : World) (e : Ending) (w' : World) : Prop := Below w.heap.size w w' ∧ ∃ x : Int, e = .returned (.int .i64 x) ∧ ((x < 0 ∧ l < t) ∨ (x = l - t ∧ (t : Int) ≤ l))
set_option maxHeartbeats 400000 in
theorem szS (v : Value) (xs : List R) (l : Int) (w : World) (h0 : 0 ≤ l) (hl : l ≤ 1048576) (h : Is rec w v xs) (hsm : ∀ x ∈ xs, Fine x) :
    Calls Try.prog 17 #[v, .int .i64 l] w (Left (xs.length + tot xs) l w) := by
  obtain ⟨a, cp, rfl, h⟩ := h
  have hc := h.at_ rec
  obtain ⟨n, hn⟩ : ∃ n, n = xs.length := ⟨_, rfl⟩
  have hnb : n ≤ cp := by have := h.1; omega
  have h2 := h.2.1
  unfold maxLen at h2
  have HN := Lib.hid hn.symm
  have HSM := Lib.hid hsm
  rw [← hn]
  have hle : n ≤ xs.length := by omega
  clear hn hsm h
  by_cases hbig : l < n
  · go_enter Try.func17, Try.ntmps17
    go_wp2_with fail
    go_ret
    exact ⟨Below.refl _ _, -1, rfl, .inl ⟨by omega, by omega⟩⟩
  · have HT := Lib.hid (show tot xs = 0 from by clear h0 hl hc hle HN HSM h2 hnb hbig; induction xs with | nil => rfl | cons x t ih => (simp only [tot, List.map_cons, List.sum_cons] at ih ⊢; rw [ih]; rfl))
    go_enter Try.func17, Try.ntmps17
    go_wp2_with fail
    go_ret
    exact ⟨Below.refl _ _, _, rfl, .inr ⟨by rw [HT.out]; omega, by rw [HT.out]; omega⟩⟩
end Go.Proofs.Ytbaflfbidgolfaa.LQuestion
namespace Go.Proofs.Ytbaflfbidgolfaa.StL
open Go.RowKit Bs Word Sq St StF
set_option linter.unusedVariables false
theorem l7Member (x : Int) (v : Bool) (h : inB x 1 99 = v) (w : World) : Calls Try.prog 87 #[.int .i64 x] w fun e w' => e = .returned (.bool v) ∧ w = w' := by
  have HI := Lib.hid (fun W => in_as x 1 99 v h W)
  go_enter Try.func87, Try.ntmps87
  go_wp2_with fail
  refine (HI.out _).mono ?_
  rintro e w' ⟨rfl, rfl⟩
  go_wp2_with fail
  go_ret
  exact ⟨rfl, rfl⟩
theorem member (x : Int) (v : Bool) (h : inB x 1 99 = v) (w : World) : Calls Try.prog 82 #[.int .i64 x] w fun e w' => e = .returned (.bool v) ∧ w = w' := by
  cases v with
  | true =>
    obtain ⟨h1, h2⟩ := inB_yes h
    clear h
    go_enter Try.func82, Try.ntmps82
    go_wp2_with fail
    go_ret
    exact ⟨rfl, rfl⟩
  | false =>
    have hn := inB_no h
    clear h
    by_cases h1 : 1 ≤ x
    · have h2 : ¬ x ≤ 99 := by omega
      clear hn
      go_enter Try.func82, Try.ntmps82
      go_wp2_with fail
      go_ret
      exact ⟨rfl, rfl⟩
    · clear hn
      go_enter Try.func82, Try.ntmps82
      go_wp2_with fail
      go_ret
      exact ⟨rfl, rfl⟩
set_option maxHeartbeats 800000 in
theorem l7Lacks (v0 : Value) (z : List R) (q : Q) (k : Nat) (w : World) (h : Is LRule.rec w v0 z) (hk : idx z q.rule = some k) :
    Calls Try.prog 89 #[v0, .agg #[.int .i64 q.rule, .int .i64 q.mover, .bool q.sec]] w fun e w' => e = .returned (.bool (lacks z q)) ∧ Below w.heap.size w w' := by
  have hb0 := (Below.refl w.heap.size w).alloc (Nat.le_refl _) (Obj.cells #[.int .i64 q.rule, .int .i64 q.mover, .bool q.sec] 47)
  have HF := Lib.hid (find_at (h.below LRule.rec hb0) hk)
  obtain ⟨r, hr, hid, he, hkl⟩ := idx_get hk
  have HL := Lib.hid (show lacks z q = (r.sec && !q.sec) by unfold lacks; rw [he])
  clear he hk hid
  obtain ⟨a, cp, rfl, h⟩ := h
  have hc := h.at_ LRule.rec
  obtain ⟨n, hn⟩ : ∃ n, n = z.length := ⟨_, rfl⟩
  have hnb : n ≤ cp := by have := h.1; omega
  have hn2 := h.2.1
  unfold maxLen at hn2
  have HN := Lib.hid hn.symm
  rw [← hn] at  HF ⊢
  have hnle : n ≤ z.length := by omega
  clear hn h
  have k0 : 0 ≤ (k : Int) := by omega
  have k1 : (k : Int) < (n : Int) := by have := HN.out; omega
  obtain ⟨b, o, rfl, hbl, hcell⟩ := hc.out k r hr
  obtain ⟨q0, q1, q2, q3, q4, q5, q6⟩ := LRule.cells (hcell.below LRule.rec hb0 hbl)
  simp only [LRule.rec_n] at q0 q1 q2 q3 q4 q5 q6
  clear hcell hr
  cases hs : r.sec with
  | false =>
    rw [hs] at q3
    go_enter Try.func89, Try.ntmps89
    go_wp2_with fail
    refine HF.out.mono ?_
    rintro e _ ⟨rfl, rfl⟩
    go_wp2_with fail
    go_ret
    exact ⟨ret_bool (by rw [HL.out, hs]; rfl), hb0⟩
  | true =>
    rw [hs] at q3
    go_enter Try.func89, Try.ntmps89
    go_wp2_with fail
    refine HF.out.mono ?_
    rintro e _ ⟨rfl, rfl⟩
    go_wp2_with fail
    go_ret
    exact ⟨ret_bool (by rw [HL.out, hs]; rfl), hb0⟩
set_option maxHeartbeats 800000 in
theorem l7Rank (v0 : Value) (z : List R) (q : Q) (k : Nat) (w : World) (h : Is LRule.rec w v0 z) (hk : idx z q.rule = some k) :
    Calls Try.prog 111 #[v0, .agg #[.int .i64 q.rule, .int .i64 q.mover, .bool q.sec]] w fun e w' => e = .returned (.int .i64 (rk z q)) ∧ Below w.heap.size w w' := by
  have hb0 := (Below.refl w.heap.size w).alloc (Nat.le_refl _) (Obj.cells #[.int .i64 q.rule, .int .i64 q.mover, .bool q.sec] 47)
  have HF := Lib.hid (find_at (h.below LRule.rec hb0) hk)
  obtain ⟨r, hr, hid, he, hkl⟩ := idx_get hk
  have HL := Lib.hid (show rk z q = r.rank by unfold rk; rw [he])
  clear he hk hid
  obtain ⟨a, cp, rfl, h⟩ := h
  have hc := h.at_ LRule.rec
  obtain ⟨n, hn⟩ : ∃ n, n = z.length := ⟨_, rfl⟩
  have hnb : n ≤ cp := by have := h.1; omega
  have hn2 := h.2.1
  unfold maxLen at hn2
  have HN := Lib.hid hn.symm
  rw [← hn] at  HF ⊢
  have hnle : n ≤ z.length := by omega
  clear hn h
  have k0 : 0 ≤ (k : Int) := by omega
  have k1 : (k : Int) < (n : Int) := by have := HN.out; omega
  obtain ⟨b, o, rfl, hbl, hcell⟩ := hc.out k r hr
  obtain ⟨q0, q1, q2, q3, q4, q5, q6⟩ := LRule.cells (hcell.below LRule.rec hb0 hbl)
  simp only [LRule.rec_n] at q0 q1 q2 q3 q4 q5 q6
  clear hcell hr
  go_enter Try.func111, Try.ntmps111
  go_wp2_with fail
  refine HF.out.mono ?_
  rintro e _ ⟨rfl, rfl⟩
  go_wp2_with fail
  go_ret
  exact ⟨ret_int HL.out.symm, hb0⟩
/-- what the top of a list tells, nothing for an empty one -/
def lackT (z : List R) (l : List Q) : Bool := match top l with | none => false | some p => lacks z p
theorem lackT_nil {z : List R} {l : List Q} (h : l.length = 0) : lackT z l = false := by rw [List.eq_nil_of_length_eq_zero h]; rfl
theorem lackT_top {z : List R} {l : List Q} {p : Q} (h : top l = some p) : lackT z l = lacks z p := by unfold lackT; rw [h]
/-- the rules of a list's top are there -/
def TopIn (z : List R) (l : List Q) : Prop := ∀ p, top l = some p → (idx z p.rule).isSome = true
theorem topIn_good {z : List R} {l : List Q} (h : goodQ z l = true) : TopIn z l := fun p hp => by
  obtain ⟨k, _, hk, _⟩ := ok_parts (good_at h hp)
  rw [hk]; rfl
set_option maxRecDepth 100000 in
set_option maxHeartbeats 1600000 in
theorem lacksSecond (v0 v1 : Value) (z : List R) (l : List Q) (w : World) (h : Is LRule.rec w v0 z) (h1 : Is LQuestion.rec w v1 l) (ht : TopIn z l) :
    Calls Try.prog 90 #[v0, v1] w fun e w' => e = .returned (.bool (lackT z l)) ∧ Below w.heap.size w w' := by
  have HR := Lib.hid h
  obtain ⟨ar, cr, rfl, h⟩ := h
  have hcr := h.at_ LRule.rec
  obtain ⟨nr, hn⟩ : ∃ n, n = z.length := ⟨_, rfl⟩
  have hnrb : nr ≤ cr := by have := h.1; omega
  have hnr2 := h.2.1
  unfold maxLen at hnr2
  have HNr := Lib.hid hn.symm
  rw [← hn] at  HR ⊢
  have hnrle : nr ≤ z.length := by omega
  clear hn h
  obtain ⟨a, cp, rfl, h1⟩ := h1
  have hc := h1.at_ LQuestion.rec
  obtain ⟨n, hn⟩ : ∃ n, n = l.length := ⟨_, rfl⟩
  have hnb : n ≤ cp := by have := h1.1; omega
  have hn2 := h1.2.1
  unfold maxLen at hn2
  have HN := Lib.hid hn.symm
  rw [← hn]
  have hnle : n ≤ l.length := by omega
  clear hn h1
  by_cases hz : n = 0
  · subst hz
    have HT := Lib.hid (lackT_nil (z := z) HN.out)
    go_enter Try.func90, Try.ntmps90
    go_wp2_with fail
    go_ret
    exact ⟨ret_bool HT.out.symm, Below.refl _ _⟩
  · have hx : n - 1 < l.length := by omega
    have hp : top l = some l[n - 1] := by unfold top; rw [HN.out]; exact List.getElem?_eq_getElem hx
    obtain ⟨b1, o1, rfl, hbl1, hcell1⟩ := hc.out (n - 1) l[n - 1] (List.getElem?_eq_getElem hx)
    obtain ⟨k, hk⟩ := Option.isSome_iff_exists.1 (ht _ hp)
    have HT := Lib.hid (lackT_top (z := z) hp)
    obtain ⟨r, hr, hid, he, hkl⟩ := idx_get hk
    obtain ⟨q0, q1, q2⟩ := LQuestion.cells (hcell1)
    simp only [LQuestion.rec_n] at q0 q1 q2
    generalize l[n - 1] = q at *
    have hb0 := (Below.refl w.heap.size w).alloc (Nat.le_refl _) (Obj.cells #[.int .i64 q.rule, .int .i64 q.mover, .bool q.sec] 47)
    have HF := Lib.hid (index_at (HR.out.below LRule.rec hb0) hk)
    have HL := Lib.hid (show lacks z q = (r.sec && !q.sec) by unfold lacks; rw [he])
    have HBX := Lib.hid (LQuestion.box w q 47)
    have hG : w.heap.size < (w.alloc (Obj.cells #[.int .i64 q.rule, .int .i64 q.mover, .bool q.sec] 47)).heap.size := by simp
    obtain ⟨b, o, rfl, hbl, hcell⟩ := hcr.out k r hr
    have HC := Lib.hid hcell
    have k0 : 0 ≤ (k : Int) := by omega
    have k1 : (k : Int) < (nr : Int) := by have := HNr.out; omega
    have n1 : IntKind.i64.wrap ((n : Int) - 1) = (n : Int) - 1 := IntWalk.i64_in _ (by omega)
    have n2 : ((n : Int) - 1).toNat = n - 1 := by omega
    have n3 : 0 ≤ (n : Int) - 1 := by omega
    have n4 : (n : Int) - 1 < (n : Int) := by omega
    have n5 : decide (n = 0) = false := by simpa using hz
    have n6 : ((n : Int) == 0) = false := by simpa using hz
    clear he hk hid hp ht hcell hcell1 hr hz
    go_enter Try.func90, Try.ntmps90
    go_wp2_with fail
    refine HF.out.mono ?_
    rintro e w1 ⟨rfl, hb1⟩
    have hb2 := hb0.trans (hb1.mono hb0.size)
    obtain ⟨p0, p1, p2, p3, p4, p5, p6⟩ := LRule.cells (HC.out.below LRule.rec hb2 hbl)
    simp only [LRule.rec_n] at p0 p1 p2 p3 p4 p5 p6
    obtain ⟨x0, x1, x2⟩ := LQuestion.cells0 (HBX.out.below LQuestion.rec hb1 hG)
    clear q0 q1 q2
    cases hs : r.sec with
    | false =>
      rw [hs] at p3
      go_wp2_with fail
      go_ret
      exact ⟨ret_bool (by rw [HT.out, HL.out, hs]; rfl), hb2⟩
    | true =>
      rw [hs] at p3
      go_wp2_with fail
      go_ret
      exact ⟨ret_bool (by rw [HT.out, HL.out, hs]; rfl), hb2⟩
set_option maxRecDepth 100000 in
set_option maxHeartbeats 1600000 in
theorem mayFollow (v0 v1 : Value) (z : List R) (l : List Q) (r : R) (w : World) (h : Is LRule.rec w v0 z) (h1 : Is LQuestion.rec w v1 l) (ht : TopIn z l) :
    Calls Try.prog 83 #[v0, v1, .agg #[.int .i64 r.id, .string r.name, .int .i64 r.rank, .bool r.sec, .bool r.deb, .bool r.am, .int .i64 r.need]] w fun e w' => e = .returned (.bool (mayB z l r)) ∧ Below w.heap.size w w' := by
  have hb0 := (Below.refl w.heap.size w).alloc (Nat.le_refl _) (Obj.cells #[.int .i64 r.id, .string r.name, .int .i64 r.rank, .bool r.sec, .bool r.deb, .bool r.am, .int .i64 r.need] 63)
  have HR := Lib.hid (h.below LRule.rec hb0)
  have HQ := Lib.hid (h1.below LQuestion.rec hb0)
  have HTI := Lib.hid ht
  have HBX := Lib.hid (LRule.box w r 63)
  have hG : w.heap.size < (w.alloc (Obj.cells #[.int .i64 r.id, .string r.name, .int .i64 r.rank, .bool r.sec, .bool r.deb, .bool r.am, .int .i64 r.need] 63)).heap.size := by simp
  obtain ⟨ar, cr, rfl, h⟩ := h
  have hcr := h.at_ LRule.rec
  obtain ⟨nr, hn⟩ : ∃ n, n = z.length := ⟨_, rfl⟩
  have hnrb : nr ≤ cr := by have := h.1; omega
  have hnr2 := h.2.1
  unfold maxLen at hnr2
  have HNr := Lib.hid hn.symm
  rw [← hn] at  HR ⊢
  have hnrle : nr ≤ z.length := by omega
  clear hn h
  obtain ⟨a, cp, rfl, h1⟩ := h1
  have hc := h1.at_ LQuestion.rec
  obtain ⟨n, hn⟩ : ∃ n, n = l.length := ⟨_, rfl⟩
  have hnb : n ≤ cp := by have := h1.1; omega
  have hn2 := h1.2.1
  unfold maxLen at hn2
  have HN := Lib.hid hn.symm
  rw [← hn] at  HQ ⊢
  have hnle : n ≤ l.length := by omega
  clear hn h1
  by_cases hz : n = 0
  · subst hz
    have HT := Lib.hid (may_nil (z := z) (r := r) HN.out)
    go_enter Try.func83, Try.ntmps83
    go_wp2_with fail
    go_ret
    exact ⟨ret_bool HT.out.symm, hb0⟩
  · have hx : n - 1 < l.length := by omega
    have hp : top l = some l[n - 1] := by unfold top; rw [HN.out]; exact List.getElem?_eq_getElem hx
    obtain ⟨b1, o1, rfl, hbl1, hcell1⟩ := hc.out (n - 1) l[n - 1] (List.getElem?_eq_getElem hx)
    obtain ⟨k, hk⟩ := Option.isSome_iff_exists.1 (ht _ hp)
    have HT := Lib.hid (show mayB z l r = (decide (n < 6) && folR z l[n - 1] r) by rw [may_top hp, HN.out])
    have HLT := Lib.hid (lackT_top (z := z) hp)
    obtain ⟨R1, hr, hid, he, hkl⟩ := idx_get hk
    obtain ⟨q0, q1, q2⟩ := LQuestion.cells (hcell1.below LQuestion.rec hb0 hbl1)
    simp only [LQuestion.rec_n] at q0 q1 q2
    generalize l[n - 1] = q at *
    have HF := Lib.hid (index_at HR.out hk)
    have HFR := Lib.hid (show folR z q r = (!lacks z q && decide (R1.rank < r.rank)) by unfold folR rk; rw [he])
    obtain ⟨b, o, rfl, hbl, hcell⟩ := hcr.out k R1 hr
    have HC := Lib.hid hcell
    have k0 : 0 ≤ (k : Int) := by omega
    have k1 : (k : Int) < (nr : Int) := by have := HNr.out; omega
    have n1 : IntKind.i64.wrap ((n : Int) - 1) = (n : Int) - 1 := IntWalk.i64_in _ (by omega)
    have n2 : ((n : Int) - 1).toNat = n - 1 := by omega
    have n3 : 0 ≤ (n : Int) - 1 := by omega
    have n4 : (n : Int) - 1 < (n : Int) := by omega
    have n5 : decide (n = 0) = false := by simpa using hz
    have n6 : ((n : Int) == 0) = false := by simpa using hz
    clear he hk hid hp ht hcell hcell1 hr hz
    go_enter Try.func83, Try.ntmps83
    go_wp2_with fail
    refine HF.out.mono ?_
    rintro e w1 ⟨rfl, hb1⟩
    have hb2 := hb0.trans (hb1.mono hb0.size)
    obtain ⟨p0, p1, p2, p3, p4, p5, p6⟩ := LRule.cells (HC.out.below LRule.rec hb2 hbl)
    simp only [LRule.rec_n] at p0 p1 p2 p3 p4 p5 p6
    obtain ⟨x0, x1, x2, x3, x4, x5, x6⟩ := LRule.cells0 (HBX.out.below LRule.rec hb1 hG)
    clear q0 q1 q2
    go_upto_region 4 with fail
    have HBX2 := Lib.hid (LRule.box w1 R1 63)
    have hb3 := hb2.alloc hb2.size (Obj.cells #[.int .i64 R1.id, .string R1.name, .int .i64 R1.rank, .bool R1.sec, .bool R1.deb, .bool R1.am, .int .i64 R1.need] 63)
    have hb13 := hb1.trans (((Below.refl w1.heap.size w1).alloc (Nat.le_refl _) (Obj.cells #[.int .i64 R1.id, .string R1.name, .int .i64 R1.rank, .bool R1.sec, .bool R1.deb, .bool R1.am, .int .i64 R1.need] 63)).mono hb1.size)
    have hG2 : w1.heap.size < (w1.alloc (Obj.cells #[.int .i64 R1.id, .string R1.name, .int .i64 R1.rank, .bool R1.sec, .bool R1.deb, .bool R1.am, .int .i64 R1.need] 63)).heap.size := by simp
    obtain ⟨y0, y1, y2, y3, y4, y5, y6⟩ := LRule.cells0 HBX2.out
    obtain ⟨f0, f1, f2, f3, f4, f5, f6⟩ := LRule.cells0 (HBX.out.below LRule.rec hb13 hG)
    have HLS := Lib.hid (lacksSecond _ _ z l _ (HR.out.below LRule.rec hb13) (HQ.out.below LQuestion.rec hb13) HTI.out)
    rw [HLT.out] at HLS
    clear p0 p1 p2 p3 p4 p5 p6 x0 x1 x2 x3 x4 x5 x6
    by_cases h6 : n < 6
    · have HT6 := Lib.hid (show decide (n < 6) = true from decide_eq_true h6)
      have h6i : (n : Int) < 6 := by omega
      have h6d : decide ((n : Int) < 6) = true := decide_eq_true h6i
      by_cases hrk : R1.rank < r.rank
      · have hrd : decide (R1.rank < r.rank) = true := decide_eq_true hrk
        go_wp2_with fail
        refine HLS.out.mono ?_
        rintro e w3 ⟨rfl, hb4⟩
        go_wp2_with fail
        go_ret
        exact ⟨ret_bool (by rw [HT.out, HT6.out, HFR.out, hrd]; simp), hb3.trans (hb4.mono hb3.size)⟩
      · have hrd : decide (R1.rank < r.rank) = false := decide_eq_false hrk
        go_wp2_with fail
        go_ret
        exact ⟨ret_bool (by rw [HT.out, HFR.out, hrd]; simp), hb3⟩
    · have HT6 := Lib.hid (show decide (n < 6) = false from decide_eq_false h6)
      have h6d : decide ((n : Int) < 6) = false := decide_eq_false (by omega)
      go_wp2_with fail
      go_ret
      exact ⟨ret_bool (by rw [HT.out, HT6.out]; simp), hb3⟩
end Go.Proofs.Ytbaflfbidgolfaa.StL
namespace Go.Proofs.Ytbaflfbidgolfaa.RuleC
open Go.RowKit Bs
set_option linter.unusedVariables false
theorem rules {w : World} {a : Option Addr} {c : Nat} {xs : List Rule.R} (h : RowsAt LRule.rec w a c xs) : Rule.RulesAt w a c xs := by
  obtain ⟨h1, h2, h3⟩ := h
  refine ⟨h1, h2, ?_⟩
  rcases h3 with h3 | ⟨b, o, rfl, hl, hc⟩
  · exact .inl h3
  · exact .inr ⟨b, o, rfl, hl, fun j r hr => LRule.cells (hc j r hr)⟩
theorem fine {xs : List Rule.R} (h : ∀ x ∈ xs, LRule.Fine x) : ∀ x ∈ xs, x.name.size ≤ maxLen := h
end Go.Proofs.Ytbaflfbidgolfaa.RuleC
namespace Go.Proofs.Ytbaflfbidgolfaa.StG
open Go.RowKit Bs Word Sq St StF StL
set_option linter.unusedVariables false
def Post (z : List R) (l : List Q) (w : World) (e : Ending) (w' : World) : Prop := e = .returned (.bool (goodQ z l)) ∧ Below w.heap.size w w'
theorem bad {z : List R} {l : List Q} {w w' : World} (h : goodQ z l = false) (hb : Below w.heap.size w w') : Post z l w (.returned (.bool false)) w' := ⟨by rw [h], hb⟩
theorem fine {z : List R} {l : List Q} {w w' : World} (h : goodQ z l = true) (hb : Below w.heap.size w w') : Post z l w (.returned (.bool true)) w' := ⟨by rw [h], hb⟩
theorem rulesS (v : Value) (z : List R) (b : Bool) (w : World) (h : Is LRule.rec w v z) (f : ∀ x ∈ z, LRule.Fine x) (hg : Gd.goodB z = b) :
    Calls Try.prog 103 #[v] w fun e w' => e = .returned (.bool b) ∧ Below w.heap.size w w' := by
  subst hg
  obtain ⟨a, c, rfl, h1⟩ := h
  exact Gd.l2Good a _ c z w rfl (RuleC.rules h1) f
theorem rulesI (v : Value) (z : List R) (b : Bool) (w : World) (h : Is LRule.rec w v z) (f : ∀ x ∈ z, LRule.Fine x) (hg : Gd.goodB z = b) :
    Calls Try.prog 80 #[v] w fun e w' => e = .returned (.bool b) ∧ Below w.heap.size w w' := by
  subst hg
  obtain ⟨a, c, rfl, h1⟩ := h
  exact GoodI.isValidRules a _ c z w rfl (RuleC.rules h1) f
theorem lacks_as {v0 : Value} {z : List R} {q : Q} {k : Nat} {b : Bool} {w : World} (h : Is LRule.rec w v0 z) (hk : idx z q.rule = some k) (hb : lacks z q = b) :
    Calls Try.prog 89 #[v0, .agg #[.int .i64 q.rule, .int .i64 q.mover, .bool q.sec]] w fun e w' => e = .returned (.bool b) ∧ Below w.heap.size w w' := by
  subst hb; exact l7Lacks v0 z q k w h hk
def StepV (z : List R) (l : List Q) (i : Nat) (v : Bool) : Prop := (v = true → goodQ z l = false) ∧ (v = false → Step z l i)
/-- what the first test of a question tells, its rule being there -/
theorem ok_of {z : List R} {X : Q} {j : Nat} {r : R} {m : Bool} (hi : idx z X.rule = some j) (he : ru z X.rule = r) (hm : inB X.mover 1 99 = m) : okB z X = (m && (!X.sec || r.sec)) := by
  unfold okB; rw [hi, hm, he]; rfl
theorem ok_none {z : List R} {X : Q} (hi : idx z X.rule = none) : okB z X = false := by unfold okB; rw [hi]; rfl
theorem step_first {z : List R} {l : List Q} {X : Q} (hx : l[0]? = some X) (ho : okB z X = true) : StepV z l 0 false := ⟨fun e => by (cases e), fun _ => step_mk hx ho (fun p h0 => by omega)⟩
theorem step_fol {z : List R} {l : List Q} {i : Nat} {X P : Q} {v : Bool} (hx : l[i]? = some X) (h0 : 0 < i) (hp : l[i - 1]? = some P) (ho : okB z X = true) (hv : fol z P X = !v) : StepV z l i v :=
  ⟨fun e => no_fol hx h0 hp (by rw [hv, e]; rfl), fun e => step_mk hx ho (fun p _ hp' => by rw [hp] at hp'; rw [← Option.some.inj hp', hv, e]; rfl)⟩
theorem topIn_take {z : List R} {l : List Q} {k : Nat} (hk : k ≤ l.length) (hs : ∀ i, i < k → Step z l i) : TopIn z (l.take k) := fun p hp => by
  unfold top at hp
  rw [List.length_take, Nat.min_eq_left hk, List.getElem?_take] at hp
  split at hp
  · obtain ⟨q, hq, ho, _⟩ := hs (k - 1) (by assumption)
    rw [hp] at hq
    obtain ⟨j, _, hj, _⟩ := ok_parts ho
    rw [Option.some.inj hq, hj]; rfl
  · cases hp
theorem may_step {z : List R} {l : List Q} {k j : Nat} {X : Q} {r : R} {b : Bool} (hx : l[k]? = some X) (hi : idx z X.rule = some j) (he : ru z X.rule = r) (ho : okB z X = true) (hb : mayB z (l.take k) r = b) : StepV z l k (!b) := by
  have hk : k < l.length := (List.getElem?_eq_some_iff.1 hx).1
  have hl : (l.take k).length = k := by rw [List.length_take]; omega
  rcases Nat.eq_zero_or_pos k with h0 | h0
  · subst h0
    rw [may_nil (by rw [hl])] at hb
    subst hb
    exact step_first hx ho
  · have hp : l[k - 1]? = some l[k - 1] := List.getElem?_eq_getElem (by omega)
    have ht : top (l.take k) = some l[k - 1] := by unfold top; rw [hl, List.getElem?_take, if_pos (by omega)]; exact hp
    rw [may_top ht, hl] at hb
    by_cases h6 : k < 6
    · rw [show decide (k < 6) = true from decide_eq_true h6, Bool.true_and] at hb
      exact step_fol hx h0 hp ho (by unfold fol; rw [he, hb]; simp)
    · rw [show decide (k < 6) = false from decide_eq_false h6, Bool.false_and] at hb
      subst hb
      exact ⟨fun _ => no_len (by omega), fun e => by (cases e)⟩
theorem may_six {z : List R} {l : List Q} {k : Nat} {X : Q} {r : R} (hx : l[k]? = some X) (hb : mayB z (l.take k) r = true) : k < 6 := by
  have hk : k < l.length := (List.getElem?_eq_some_iff.1 hx).1
  have hl : (l.take k).length = k := by rw [List.length_take]; omega
  rcases Nat.eq_zero_or_pos k with h0 | h0
  · omega
  · obtain ⟨p, hp⟩ := top_some (l := l.take k) (by omega)
    rw [may_top hp, hl, Bool.and_eq_true] at hb
    exact of_decide_eq_true hb.1
/-- the head of a list up to a place -/
theorem is_take {w : World} {b o cp k : Nat} {l : List Q} (h : Is LQuestion.rec w (.slice (some ⟨b, o, none⟩) l.length cp) l) (hbl : b < w.heap.size) (hk : k ≤ l.length) : Is LQuestion.rec w (.slice (some ⟨b, o, none⟩) k cp) (l.take k) := by
  obtain ⟨a', c', e, h1, h2, h3⟩ := h
  simp only [Value.slice.injEq, true_and] at e
  obtain ⟨rfl, rfl⟩ := e
  refine ⟨_, cp, by rw [List.length_take, Nat.min_eq_left hk], by rw [List.length_take]; omega, h2, .inr ⟨b, o, rfl, hbl, fun j r hr => ?_⟩⟩
  rw [List.getElem?_take] at hr
  split at hr
  · rcases h3 with rfl | ⟨b', o', he, _, hc⟩
    · simp at hr
    · simp only [Option.some.injEq, Addr.mk.injEq, and_true] at he
      obtain ⟨rfl, rfl⟩ := he
      exact hc j r hr
  · cases hr
set_option maxRecDepth 100000 in
set_option maxHeartbeats 3200000 in
theorem l7Good (v0 v1 : Value) (z : List R) (l : List Q) (w : World) (h : Is LRule.rec w v0 z) (h1 : Is LQuestion.rec w v1 l) (f0 : ∀ x ∈ z, LRule.Fine x) :
    Calls Try.prog 77 #[v0, v1] w (Post z l w) := by
  have HR := Lib.hid h
  have HQ := Lib.hid h1
  have HF0 := Lib.hid f0
  clear f0
  obtain ⟨ar, cr, rfl, h⟩ := h
  have hcr := h.at_ LRule.rec
  obtain ⟨nr, hn⟩ : ∃ n, n = z.length := ⟨_, rfl⟩
  have hnrb : nr ≤ cr := by have := h.1; omega
  have hnr2 := h.2.1
  unfold maxLen at hnr2
  have HNr := Lib.hid hn.symm
  rw [← hn] at  HR ⊢
  have hnrle : nr ≤ z.length := by omega
  clear hn h
  obtain ⟨a, cp, rfl, h1⟩ := h1
  have hc := h1.at_ LQuestion.rec
  obtain ⟨n, hn⟩ : ∃ n, n = l.length := ⟨_, rfl⟩
  have hnb : n ≤ cp := by have := h1.1; omega
  have hn2 := h1.2.1
  unfold maxLen at hn2
  have HN := Lib.hid hn.symm
  rw [← hn] at  HQ ⊢
  have hnle : n ≤ l.length := by omega
  clear hn h1
  cases hg : Gd.goodB z with
  | false =>
    have HG := Lib.hid (rulesS _ z false w HR.out HF0.out hg)
    have HB := Lib.hid (no_rules (l := l) hg)
    clear hg
    go_enter Try.func77, Try.ntmps77
    go_wp2_with fail
    refine HG.out.mono ?_
    rintro e w1 ⟨rfl, hb1⟩
    go_wp2_with fail
    go_ret
    exact bad HB.out hb1
  | true =>
    have HG := Lib.hid (rulesS _ z true w HR.out HF0.out hg)
    have HGD := Lib.hid hg
    clear hg
    by_cases h6 : n ≤ 6
    · go_enter Try.func77, Try.ntmps77
      go_wp2_with fail
      refine HG.out.mono ?_
      rintro e w1 ⟨rfl, hb1⟩
      go_wp2_with fail
      go_loopw [5] (fun i wr => ∃ k : Nat, k ≤ n ∧ i = .int .i64 k ∧ Below w.heap.size w wr ∧ Hid (∀ i, i < k → Step z l i)) (fun i _ => n - (intOf i).toNat)
      case atStart => exact ⟨0, Nat.zero_le _, rfl, hb1, Lib.hid (fun i hi => by omega)⟩
      case round =>
        clear hb1
        obtain ⟨k, hk, rfl, hb, HS⟩ := hrel
        by_cases hlt : k < n
        · have hx : k < l.length := by omega
          obtain ⟨b, o, rfl, hbl, hcell0⟩ := hc.out k l[k] (List.getElem?_eq_getElem hx)
          obtain ⟨q0, q1, q2⟩ := LQuestion.cells (hcell0.below LQuestion.rec hb hbl)
          simp only [LQuestion.rec_n] at q0 q1 q2
          have HX := Lib.hid (List.getElem?_eq_getElem hx)
          have k0 : 0 ≤ (k : Int) := by omega
          have k1 : (k : Int) < (n : Int) := by omega
          clear hcell0
          generalize l[k] = X at *
          cases hi : idx z X.rule with
          | none =>
            have HF := Lib.hid (find_no (HR.out.below LRule.rec hb) hi)
            have HB := Lib.hid (no_ok HX.out (ok_none hi))
            clear hi
            go_wp2_with fail
            refine HF.out.mono ?_
            rintro e _ ⟨rfl, rfl⟩
            go_wp2_with fail
            go_ret
            exact bad HB.out hb
          | some j =>
            obtain ⟨r, hr, hid, he, hjl⟩ := idx_get hi
            have HF := Lib.hid (find_at (HR.out.below LRule.rec hb) hi)
            have HO := Lib.hid (fun m hm => ok_of (m := m) hi he hm)
            have HE := Lib.hid he
            have j0 : 0 ≤ (j : Int) := by omega
            have j1 : (j : Int) < (nr : Int) := by have := HNr.out; omega
            obtain ⟨br, orr, rfl, hblr, hcellr⟩ := hcr.out j r hr
            have HCR := Lib.hid hcellr
            obtain ⟨p0, p1, p2, p3, p4, p5, p6⟩ := LRule.cells (hcellr.below LRule.rec hb hblr)
            simp only [LRule.rec_n] at p0 p1 p2 p3 p4 p5 p6
            clear hi hr hid he hcellr
            go_wp2_with fail
            refine HF.out.mono ?_
            rintro e _ ⟨rfl, rfl⟩
            go_upto_region 7 with fail
            go_cut [53] (fun t wx => ∃ v : Bool, t = .bool v ∧ Hid (okB z X = !v) ∧ wr = wx)
            case first =>
              cases hm : inB X.mover 1 99 with
              | false =>
                have HM := Lib.hid (fun W => l7Member X.mover false hm W)
                have HV := Lib.hid (HO.out false hm)
                clear hm
                go_wp2_with fail
                refine (HM.out _).mono ?_
                rintro e _ ⟨rfl, rfl⟩
                go_wp2_with fail
                go_meet
                exact ⟨true, rfl, HV, rfl⟩
              | true =>
                have HM := Lib.hid (fun W => l7Member X.mover true hm W)
                have HV := Lib.hid (HO.out true hm)
                clear hm
                cases hs : X.sec with
                | false =>
                  have HV2 := Lib.hid (show okB z X = !false by rw [HV.out, hs]; rfl)
                  rw [hs] at q2
                  clear hs HV HO
                  go_wp2_with fail
                  refine (HM.out _).mono ?_
                  rintro e _ ⟨rfl, rfl⟩
                  go_wp2_with fail
                  go_meet
                  exact ⟨false, rfl, HV2, rfl⟩
                | true =>
                  have HV2 := Lib.hid (show okB z X = !(!r.sec) by rw [HV.out, hs]; simp)
                  rw [hs] at q2
                  clear hs HV HO
                  go_wp2_with fail
                  refine (HM.out _).mono ?_
                  rintro e _ ⟨rfl, rfl⟩
                  go_wp2_with fail
                  go_meet
                  exact ⟨_, rfl, HV2, rfl⟩
            case rest =>
              obtain ⟨v, rfl, HV, rfl⟩ := hcut
              cases v with
              | true =>
                have HB := Lib.hid (no_ok HX.out HV.out)
                go_wp2_with fail
                go_ret
                exact bad HB.out hb
              | false =>
                have HOK := Lib.hid (show okB z X = true from HV.out)
                clear q0 q1 q2 p0 p1 p2 p3 p4 p5 p6 HV HO
                go_upto_region 9 with fail
                go_cut [79] (fun t wx => ∃ v : Bool, t = .bool v ∧ Hid (StepV z l k v) ∧ Below wr.heap.size wr wx)
                case first =>
                  by_cases hz : k = 0
                  · have HV := Lib.hid (show StepV z l k false by subst hz; exact step_first HX.out HOK.out)
                    have hd : decide (0 < (k : Int)) = false := by simp; omega
                    have hd2 : decide (0 < k) = false := by simp; omega
                    clear hz
                    refine wp_region_quiet_below (by kernel_rfl) (by kernel_rfl) ?_
                    repeat (go_big_quiet_step (fail))
                    refine wpQuiet_nil ?_
                    intro _ hw'
                    obtain ⟨⟨dq, osq⟩, hw''⟩ := hw'
                    subst hw''
                    go_wp2_with fail
                    go_meet
                    exact ⟨false, rfl, HV, below_regrown _ _ _⟩
                  · have hpx : k - 1 < l.length := by omega
                    obtain ⟨b', o', he', hbl', hcell1⟩ := hc.out (k - 1) l[k - 1] (List.getElem?_eq_getElem hpx)
                    simp only [Option.some.injEq, Addr.mk.injEq, and_true] at he'
                    obtain ⟨rfl, rfl⟩ := he'
                    have HP := Lib.hid (List.getElem?_eq_getElem hpx)
                    obtain ⟨P, hPS, hPO, _⟩ := HS.out (k - 1) (by omega)
                    obtain ⟨jp, rp, hjp, hrp, hep, _⟩ := ok_parts hPO
                    have hPe : P = l[k - 1] := Option.some.inj (hPS.symm.trans HP.out)
                    subst hPe
                    have HGP := LQuestion.grown (hcell1.below LQuestion.rec hb hbl) (Nat.lt_of_lt_of_le hbl hb.size)
                    have HGr := LRule.grown (HCR.out.below LRule.rec hb hblr) (Nat.lt_of_lt_of_le hblr hb.size)
                    have HJP := Lib.hid hjp
                    have hd : decide (0 < (k : Int)) = true := by simp; omega
                    have hd2 : decide (0 < k) = true := by simp; omega
                    have n1 : IntKind.i64.wrap ((k : Int) - 1) = (k : Int) - 1 := IntWalk.i64_in _ (by omega)
                    have n2 : ((k : Int) - 1).toNat = k - 1 := by omega
                    have n3 : 0 ≤ (k : Int) - 1 := by omega
                    have n4 : (k : Int) - 1 < (n : Int) := by omega
                    have hk0 : 0 < k := by omega
                    clear hPS hPO hjp hrp hep hcell1 hz
                    generalize l[k - 1] = P at *
                    have c0 := fun d os => (LQuestion.cells (HGP.out d os)).1
                    have c1 := fun d os => (LQuestion.cells (HGP.out d os)).2.1
                    have c2 := fun d os => (LQuestion.cells (HGP.out d os)).2.2
                    have p2 := fun d os => (LRule.cells (HGr.out d os)).2.2.1
                    simp only [LQuestion.rec_n, LRule.rec_n] at c0 c1 c2 p2
                    have HRK := Lib.hid (fun (d : Nat) (os : Array Obj) => l7Rank _ z P jp (Sort.grow (redrawn wr d) os) (HR.out.below LRule.rec (hb.trans ((below_regrown wr d os).mono hb.size))) HJP.out)
                    cases hl : lacks z P with
                    | true =>
                      have HLK := Lib.hid (fun (d : Nat) (os : Array Obj) => lacks_as (w := Sort.grow (redrawn wr d) os) (HR.out.below LRule.rec (hb.trans ((below_regrown wr d os).mono hb.size))) HJP.out hl)
                      have HV := Lib.hid (show StepV z l k true from step_fol HX.out hk0 HP.out HOK.out (by unfold fol folR; rw [hl]; rfl))
                      clear hl
                      refine wp_region_quiet_below (by kernel_rfl) (by kernel_rfl) ?_
                      repeat (go_big_quiet_step ((first | (go_at_call 89; exact Calls.regrown_of (HLK.out _ _)) | (go_at_call 111; exact Calls.regrown_of (HRK.out _ _)))))
                      refine wpQuiet_nil ?_
                      intro _ hw'
                      obtain ⟨⟨dq, osq⟩, hw''⟩ := hw'
                      subst hw''
                      go_wp2_with fail
                      go_meet
                      exact ⟨true, rfl, HV, below_regrown _ _ _⟩
                    | false =>
                      have HLK := Lib.hid (fun (d : Nat) (os : Array Obj) => lacks_as (w := Sort.grow (redrawn wr d) os) (HR.out.below LRule.rec (hb.trans ((below_regrown wr d os).mono hb.size))) HJP.out hl)
                      have HV := Lib.hid (show StepV z l k (decide (r.rank ≤ rk z P)) from step_fol HX.out hk0 HP.out HOK.out (by unfold fol folR; rw [hl, HE.out]; by_cases hq : r.rank ≤ rk z P <;> simp [hq] <;> omega))
                      clear hl
                      generalize rk z P = K at *
                      refine wp_region_quiet_below (by kernel_rfl) (by kernel_rfl) ?_
                      repeat (go_big_quiet_step ((first | (go_at_call 89; exact Calls.regrown_of (HLK.out _ _)) | (go_at_call 111; exact Calls.regrown_of (HRK.out _ _)))))
                      refine wpQuiet_nil ?_
                      intro _ hw'
                      obtain ⟨⟨dq, osq⟩, hw''⟩ := hw'
                      subst hw''
                      go_wp2_with fail
                      go_meet
                      exact ⟨_, rfl, HV, below_regrown _ _ _⟩
                case rest =>
                  obtain ⟨v, rfl, HV, hbv⟩ := hcut
                  have hb2 := hb.trans (hbv.mono hb.size)
                  cases v with
                  | true =>
                    have HB := Lib.hid (show goodQ z l = false from HV.out.1 rfl)
                    go_wp2_with fail
                    go_ret
                    exact bad HB.out hb2
                  | false =>
                    have HST := Lib.hid (steps_next HS.out (HV.out.2 rfl))
                    go_wp2_with fail
                    go_roundw
                    case rel => exact ⟨k + 1, by omega, by go_num, hb2, HST⟩
                    case measure => simp [intOf]; omega
        · obtain rfl : k = n := by omega
          have HB := Lib.hid (good_yes (z := z) (l := l) ⟨HGD.out, by rw [HN.out]; exact h6, fun i hi => HS.out i (by rw [HN.out] at hi; exact hi)⟩)
          go_wp2_with fail
          go_ret
          exact fine HB.out hb
    · have HB := Lib.hid (no_len (z := z) (l := l) (by have := HN.out; omega))
      go_enter Try.func77, Try.ntmps77
      go_wp2_with fail
      refine HG.out.mono ?_
      rintro e w1 ⟨rfl, hb1⟩
      go_wp2_with fail
      go_ret
      exact bad HB.out hb1
set_option maxRecDepth 100000 in
set_option maxHeartbeats 3200000 in
theorem arePending (v0 v1 : Value) (z : List R) (l : List Q) (w : World) (h : Is LRule.rec w v0 z) (h1 : Is LQuestion.rec w v1 l) (f0 : ∀ x ∈ z, LRule.Fine x) :
    Calls Try.prog 21 #[v0, v1] w (Post z l w) := by
  have HR := Lib.hid h
  have HQ := Lib.hid h1
  have HF0 := Lib.hid f0
  clear f0
  obtain ⟨ar, cr, rfl, h⟩ := h
  have hcr := h.at_ LRule.rec
  obtain ⟨nr, hn⟩ : ∃ n, n = z.length := ⟨_, rfl⟩
  have hnrb : nr ≤ cr := by have := h.1; omega
  have hnr2 := h.2.1
  unfold maxLen at hnr2
  have HNr := Lib.hid hn.symm
  rw [← hn] at  HR ⊢
  have hnrle : nr ≤ z.length := by omega
  clear hn h
  obtain ⟨a, cp, rfl, h1⟩ := h1
  have hc := h1.at_ LQuestion.rec
  obtain ⟨n, hn⟩ : ∃ n, n = l.length := ⟨_, rfl⟩
  have hnb : n ≤ cp := by have := h1.1; omega
  have hn2 := h1.2.1
  unfold maxLen at hn2
  have HN := Lib.hid hn.symm
  rw [← hn] at  HQ ⊢
  have hnle : n ≤ l.length := by omega
  clear hn h1
  cases hg : Gd.goodB z with
  | false =>
    have HG := Lib.hid (rulesI _ z false w HR.out HF0.out hg)
    have HB := Lib.hid (no_rules (l := l) hg)
    clear hg
    go_enter Try.func21, Try.ntmps21
    go_wp2_with fail
    refine HG.out.mono ?_
    rintro e w1 ⟨rfl, hb1⟩
    go_wp2_with fail
    go_ret
    exact bad HB.out hb1
  | true =>
    have HG := Lib.hid (rulesI _ z true w HR.out HF0.out hg)
    have HGD := Lib.hid hg
    clear hg
    go_enter Try.func21, Try.ntmps21
    go_wp2_with fail
    refine HG.out.mono ?_
    rintro e w1 ⟨rfl, hb1⟩
    go_wp2_with fail
    go_loopw [13] (fun i wr => ∃ k : Nat, k ≤ n ∧ i = .int .i64 k ∧ Below w.heap.size w wr ∧ Hid (∀ i, i < k → Step z l i) ∧ k ≤ 6) (fun i _ => n - (intOf i).toNat)
    case atStart => exact ⟨0, Nat.zero_le _, rfl, hb1, Lib.hid (fun i hi => by omega), by omega⟩
    case round =>
      clear hb1
      obtain ⟨k, hk, rfl, hb, HS, hk6⟩ := hrel
      by_cases hlt : k < n
      · have hx : k < l.length := by omega
        obtain ⟨b, o, rfl, hbl, hcell0⟩ := hc.out k l[k] (List.getElem?_eq_getElem hx)
        obtain ⟨q0, q1, q2⟩ := LQuestion.cells (hcell0.below LQuestion.rec hb hbl)
        simp only [LQuestion.rec_n] at q0 q1 q2
        have HX := Lib.hid (List.getElem?_eq_getElem hx)
        have k0 : 0 ≤ (k : Int) := by omega
        have k1 : (k : Int) < (n : Int) := by omega
        have k2 : (k : Int) ≤ (cp : Int) := by omega
        have k3 : k ≤ cp := by omega
        clear hcell0
        generalize l[k] = X at *
        go_upto_region 6 with fail
        have HBX := Lib.hid (LQuestion.box wr X 47)
        have hba := hb.alloc hb.size (Obj.cells #[.int .i64 X.rule, .int .i64 X.mover, .bool X.sec] 47)
        have hGq : wr.heap.size < (wr.alloc (Obj.cells #[.int .i64 X.rule, .int .i64 X.mover, .bool X.sec] 47)).heap.size := by simp
        clear q0 q1 q2
        generalize wr.alloc (Obj.cells #[.int .i64 X.rule, .int .i64 X.mover, .bool X.sec] 47) = wq at *
        generalize wr.heap.size = G at *
        clear hb
        cases hi : idx z X.rule with
        | none =>
          have HF := Lib.hid (index_no (HR.out.below LRule.rec hba) hi)
          have HB := Lib.hid (no_ok HX.out (ok_none hi))
          obtain ⟨x0, x1, x2⟩ := LQuestion.cells0 HBX.out
          clear hi
          go_wp2_with fail
          refine HF.out.mono ?_
          rintro e w2 ⟨rfl, hb2⟩
          go_wp2_with fail
          go_ret
          exact bad HB.out (hba.trans (hb2.mono hba.size))
        | some j =>
          obtain ⟨r, hr, hid, he, hjl⟩ := idx_get hi
          have HF := Lib.hid (index_at (HR.out.below LRule.rec hba) hi)
          have HO := Lib.hid (fun m hm => ok_of (m := m) hi he hm)
          have HI := Lib.hid hi
          have HE := Lib.hid he
          have j0 : 0 ≤ (j : Int) := by omega
          have j1 : (j : Int) < (nr : Int) := by have := HNr.out; omega
          obtain ⟨br, orr, rfl, hblr, hcellr⟩ := hcr.out j r hr
          have HCR := Lib.hid hcellr
          obtain ⟨x0, x1, x2⟩ := LQuestion.cells0 HBX.out
          clear hi hr hid he hcellr
          go_wp2_with fail
          refine HF.out.mono ?_
          rintro e w2 ⟨rfl, hb2⟩
          have hbw := hba.trans (hb2.mono hba.size)
          obtain ⟨y0, y1, y2⟩ := LQuestion.cells0 (HBX.out.below LQuestion.rec hb2 hGq)
          obtain ⟨p0, p1, p2, p3, p4, p5, p6⟩ := LRule.cells (HCR.out.below LRule.rec hbw hblr)
          simp only [LRule.rec_n] at p0 p1 p2 p3 p4 p5 p6
          clear x0 x1 x2 hb2
          go_upto_region 7 with fail
          go_cut [41] (fun t wx => ∃ v : Bool, t = .bool v ∧ Hid (okB z X = !v) ∧ w2 = wx)
          case first =>
            cases hm : inB X.mover 1 99 with
            | false =>
              have HM := Lib.hid (fun W => member X.mover false hm W)
              have HV := Lib.hid (HO.out false hm)
              clear hm
              go_wp2_with fail
              refine (HM.out _).mono ?_
              rintro e _ ⟨rfl, rfl⟩
              go_wp2_with fail
              go_meet
              exact ⟨true, rfl, HV, rfl⟩
            | true =>
              have HM := Lib.hid (fun W => member X.mover true hm W)
              have HV := Lib.hid (HO.out true hm)
              clear hm
              cases hs : X.sec with
              | false =>
                have HV2 := Lib.hid (show okB z X = !false by rw [HV.out, hs]; rfl)
                rw [hs] at y2
                clear hs HV HO
                go_wp2_with fail
                refine (HM.out _).mono ?_
                rintro e _ ⟨rfl, rfl⟩
                go_wp2_with fail
                go_meet
                exact ⟨false, rfl, HV2, rfl⟩
              | true =>
                have HV2 := Lib.hid (show okB z X = !(!r.sec) by rw [HV.out, hs]; simp)
                rw [hs] at y2
                clear hs HV HO
                go_wp2_with fail
                refine (HM.out _).mono ?_
                rintro e _ ⟨rfl, rfl⟩
                go_wp2_with fail
                go_meet
                exact ⟨_, rfl, HV2, rfl⟩
          case rest =>
            obtain ⟨v, rfl, HV, rfl⟩ := hcut
            cases v with
            | true =>
              have HB := Lib.hid (no_ok HX.out HV.out)
              go_wp2_with fail
              go_ret
              exact bad HB.out hbw
            | false =>
              have HOK := Lib.hid (show okB z X = true from HV.out)
              clear y0 y1 y2 p0 p1 p2 p3 p4 p5 p6 HV HO hba
              have HT := Lib.hid (show ∀ W, Below w.heap.size w W → Is LQuestion.rec W (.slice (some ⟨b, o, none⟩) k cp) (l.take k) from fun W hW => is_take (by have := HQ.out.below LQuestion.rec hW; rw [← HN.out] at this; exact this) (Nat.lt_of_lt_of_le hbl hW.size) (by omega))
              have HTI := Lib.hid (topIn_take (z := z) (l := l) (k := k) (by omega) HS.out)
              have HGr := LRule.grown (HCR.out.below LRule.rec hbw hblr) (Nat.lt_of_lt_of_le hblr hbw.size)
              have c0 := fun d os => (LRule.cells (HGr.out d os)).1
              have c1 := fun d os => (LRule.cells (HGr.out d os)).2.1
              have c2 := fun d os => (LRule.cells (HGr.out d os)).2.2.1
              have c3 := fun d os => (LRule.cells (HGr.out d os)).2.2.2.1
              have c4 := fun d os => (LRule.cells (HGr.out d os)).2.2.2.2.1
              have c5 := fun d os => (LRule.cells (HGr.out d os)).2.2.2.2.2.1
              have c6 := fun d os => (LRule.cells (HGr.out d os)).2.2.2.2.2.2
              simp only [LRule.rec_n] at c0 c1 c2 c3 c4 c5 c6
              have HMF := Lib.hid (fun (d : Nat) (os : Array Obj) => mayFollow _ _ z (l.take k) r (Sort.grow (redrawn w2 d) os) (HR.out.below LRule.rec (hbw.trans ((below_regrown w2 d os).mono hbw.size))) (HT.out _ (hbw.trans ((below_regrown w2 d os).mono hbw.size))) HTI.out)
              obtain ⟨B, hB⟩ : ∃ B, B = mayB z (l.take k) r := ⟨_, rfl⟩
              rw [← hB] at HMF
              have HV := Lib.hid (may_step HX.out HI.out HE.out HOK.out hB.symm)
              have H6 := Lib.hid (fun e : B = true => may_six HX.out (hB.symm.trans e))
              clear hB
              go_upto_region 9 with fail
              go_cut [51] (fun t wx => t = .bool (!B) ∧ Below w2.heap.size w2 wx)
              case first =>
                refine wp_region_quiet_below (by kernel_rfl) (by kernel_rfl) ?_
                repeat (go_big_quiet_step ((go_at_call 83; exact Calls.regrown_of (HMF.out _ _))))
                refine wpQuiet_nil ?_
                intro _ hw'
                obtain ⟨⟨dq, osq⟩, hw''⟩ := hw'
                subst hw''
                go_wp2_with fail
                go_meet
                exact ⟨rfl, below_regrown _ _ _⟩
              case rest =>
                obtain ⟨rfl, hbv⟩ := hcut
                have hb2 := hbw.trans (hbv.mono hbw.size)
                clear c0 c1 c2 c3 c4 c5 c6 HGr
                cases B with
                | false =>
                  have HB := Lib.hid (show goodQ z l = false from HV.out.1 rfl)
                  go_wp2_with fail
                  go_ret
                  exact bad HB.out hb2
                | true =>
                  have HST := Lib.hid (steps_next HS.out (HV.out.2 rfl))
                  have h6 := H6.out rfl
                  go_wp2_with fail
                  go_roundw
                  case rel => exact ⟨k + 1, by omega, by go_num, hb2, HST, by omega⟩
                  case measure => simp [intOf]; omega
      · obtain rfl : k = n := by omega
        have HB := Lib.hid (good_yes (z := z) (l := l) ⟨HGD.out, by rw [HN.out]; exact hk6, fun i hi => HS.out i (by rw [HN.out] at hi; exact hi)⟩)
        go_wp2_with fail
        go_ret
        exact fine HB.out hb
end Go.Proofs.Ytbaflfbidgolfaa.StG
namespace Go.Proofs.Ytbaflfbidgolfaa.StA
open Go.RowKit Bs Word Sq St StF StL StG IntF
set_option linter.unusedVariables false
theorem good_asS {v0 v1 : Value} {z : List R} {l : List Q} {w : World} (b : Bool) (h : Is LRule.rec w v0 z) (h1 : Is LQuestion.rec w v1 l) (f0 : ∀ x ∈ z, LRule.Fine x) (hb : goodQ z l = b) :
    Calls Try.prog 77 #[v0, v1] w fun e w' => e = .returned (.bool b) ∧ Below w.heap.size w w' := by
  subst hb; exact l7Good v0 v1 z l w h h1 f0
theorem good_asI {v0 v1 : Value} {z : List R} {l : List Q} {w : World} (b : Bool) (h : Is LRule.rec w v0 z) (h1 : Is LQuestion.rec w v1 l) (f0 : ∀ x ∈ z, LRule.Fine x) (hb : goodQ z l = b) :
    Calls Try.prog 21 #[v0, v1] w fun e w' => e = .returned (.bool b) ∧ Below w.heap.size w w' := by
  subst hb; exact arePending v0 v1 z l w h h1 f0
theorem lack_asI {v0 v1 : Value} {z : List R} {l : List Q} {w : World} (b : Bool) (h : Is LRule.rec w v0 z) (h1 : Is LQuestion.rec w v1 l) (ht : TopIn z l) (hb : lackT z l = b) :
    Calls Try.prog 90 #[v0, v1] w fun e w' => e = .returned (.bool b) ∧ Below w.heap.size w w' := by
  subst hb; exact lacksSecond v0 v1 z l w h h1 ht
theorem may_asI {v0 v1 : Value} {z : List R} {l : List Q} {r : R} {w : World} (b : Bool) (h : Is LRule.rec w v0 z) (h1 : Is LQuestion.rec w v1 l) (ht : TopIn z l) (hb : mayB z l r = b) :
    Calls Try.prog 83 #[v0, v1, .agg #[.int .i64 r.id, .string r.name, .int .i64 r.rank, .bool r.sec, .bool r.deb, .bool r.am, .int .i64 r.need]] w fun e w' => e = .returned (.bool b) ∧ Below w.heap.size w w' := by
  subst hb; exact mayFollow v0 v1 z l r w h h1 ht
theorem good_len {z : List R} {l : List Q} (h : goodQ z l = true) : l.length ≤ 6 := (good_of h).2.1
theorem good_rules {z : List R} {l : List Q} (h : goodQ z l = true) : z.length ≤ 8 := (Gd.good_of (good_of h).1).1
/-- the place of the last question of a mover, ahead of place k -/
def la (l : List Q) (m : Int) : Nat → Option Nat
  | 0 => none
  | k + 1 => (match l[k]? with | some q => (if (q.mover == m) = true then some k else la l m k) | none => none)
theorem la_hit {l : List Q} {m : Int} {k : Nat} {q : Q} (h : l[k]? = some q) (hm : (q.mover == m) = true) : la l m (k + 1) = some k := by
  show (match l[k]? with | some q => (if (q.mover == m) = true then some k else la l m k) | none => none) = _
  rw [h]; simp [hm]
theorem la_miss {l : List Q} {m : Int} {k : Nat} {q : Q} (h : l[k]? = some q) (hm : (q.mover == m) = false) : la l m (k + 1) = la l m k := by
  show (match l[k]? with | some q => (if (q.mover == m) = true then some k else la l m k) | none => none) = _
  rw [h]; simp [hm]
noncomputable def mayA (z : List R) (l : List Q) : List Int × Bool := if goodQ z l = true then (may z l, true) else ([], false)
theorem mayA_no {z : List R} {l : List Q} (h : goodQ z l = false) : mayA z l = ([], false) := by unfold mayA; rw [h]; rfl
theorem mayA_yes {z : List R} {l : List Q} (h : goodQ z l = true) : mayA z l = (may z l, true) := by unfold mayA; rw [if_pos h]
noncomputable def mvA (z : List R) (l : List Q) (id m : Int) : List Q × Bool := if goodQ z (l ++ [⟨id, m, false⟩]) = true then (l ++ [⟨id, m, false⟩], true) else ([], false)
theorem mvA_no {z : List R} {l : List Q} {id m : Int} (h : goodQ z (l ++ [⟨id, m, false⟩]) = false) : mvA z l id m = ([], false) := by unfold mvA; rw [h]; rfl
theorem mvA_yes {z : List R} {l : List Q} {id m : Int} (h : goodQ z (l ++ [⟨id, m, false⟩]) = true) : mvA z l id m = (l ++ [⟨id, m, false⟩], true) := by unfold mvA; rw [if_pos h]
/-- whether the immediately pending question may be seconded by a member -/
def secB (z : List R) (l : List Q) (m : Int) : Bool := match top l with | none => false | some p => lacks z p && !(p.mover == m)
theorem secB_top {z : List R} {l : List Q} {m : Int} {p : Q} (h : top l = some p) : secB z l m = (lacks z p && !(p.mover == m)) := by unfold secB; rw [h]
theorem secB_nil {z : List R} {l : List Q} {m : Int} (h : l.length = 0) : secB z l m = false := by rw [List.eq_nil_of_length_eq_zero h]; rfl
def sec1 (l : List Q) : List Q := match top l with | none => l | some p => l.set (l.length - 1) { p with sec := true }
theorem sec1_top {l : List Q} {p : Q} (h : top l = some p) : sec1 l = l.set (l.length - 1) { p with sec := true } := by unfold sec1; rw [h]
theorem sec1_len {l : List Q} : (sec1 l).length = l.length := by unfold sec1; split <;> simp
noncomputable def scA (z : List R) (l : List Q) (m : Int) : List Q × Bool := if (goodQ z l && (inB m 1 99 && secB z l m)) = true then (sec1 l, true) else ([], false)
theorem scA_no {z : List R} {l : List Q} {m : Int} (h : (goodQ z l && (inB m 1 99 && secB z l m)) = false) : scA z l m = ([], false) := by unfold scA; rw [h]; rfl
theorem scA_yes {z : List R} {l : List Q} {m : Int} (h : (goodQ z l && (inB m 1 99 && secB z l m)) = true) : scA z l m = (sec1 l, true) := by unfold scA; rw [if_pos h]
def Q0 : Q := ⟨0, 0, false⟩
noncomputable def dsA (z : List R) (l : List Q) : List Q × Q × Bool := match top l with | none => ([], Q0, false) | some p => if (goodQ z l && !lacks z p) = true then (l.take (l.length - 1), p, true) else ([], Q0, false)
theorem dsA_nil {z : List R} {l : List Q} (h : l.length = 0) : dsA z l = ([], Q0, false) := by rw [List.eq_nil_of_length_eq_zero h]; rfl
theorem dsA_no {z : List R} {l : List Q} (h : goodQ z l = false) : dsA z l = ([], Q0, false) := by unfold dsA; rw [h]; split <;> rfl
theorem dsA_lack {z : List R} {l : List Q} {p : Q} (h : top l = some p) (hl : lacks z p = true) : dsA z l = ([], Q0, false) := by unfold dsA; rw [h]; simp [hl]
theorem dsA_yes {z : List R} {l : List Q} {p : Q} (hg : goodQ z l = true) (h : top l = some p) (hl : lacks z p = false) : dsA z l = (l.take (l.length - 1), p, true) := by unfold dsA; rw [h]; simp [hl, hg]
noncomputable def wdA (z : List R) (l : List Q) (m : Int) : List Q × Bool := if goodQ z l = true then (match la l m l.length with | some k => (l.take k, true) | none => ([], false)) else ([], false)
theorem wdA_no {z : List R} {l : List Q} {m : Int} (h : goodQ z l = false) : wdA z l m = ([], false) := by unfold wdA; rw [h]; rfl
theorem wdA_some {z : List R} {l : List Q} {m : Int} {k : Nat} (h : goodQ z l = true) (hk : la l m l.length = some k) : wdA z l m = (l.take k, true) := by unfold wdA; rw [if_pos h, hk]
theorem wdA_none {z : List R} {l : List Q} {m : Int} (h : goodQ z l = true) (hk : la l m l.length = none) : wdA z l m = ([], false) := by unfold wdA; rw [if_pos h, hk]
def drp (z : List R) (l : List Q) : List Q := if lackT z l = true then l.take (l.length - 1) else l
noncomputable def drA (z : List R) (l : List Q) : List Q × Bool := if goodQ z l = true then (drp z l, true) else ([], false)
theorem drA_no {z : List R} {l : List Q} (h : goodQ z l = false) : drA z l = ([], false) := by unfold drA; rw [h]; rfl
theorem drA_yes {z : List R} {l : List Q} (h : goodQ z l = true) : drA z l = (drp z l, true) := by unfold drA; rw [if_pos h]
theorem drp_yes {z : List R} {l : List Q} (h : lackT z l = true) : drp z l = l.take (l.length - 1) := by unfold drp; rw [if_pos h]
theorem drp_no {z : List R} {l : List Q} (h : lackT z l = false) : drp z l = l.take l.length := by unfold drp; rw [h, List.take_length]; rfl
def nms (z : List R) (l : List Q) : List ByteArray := l.map (fun q => (ru z q.rule).name)
noncomputable def nmA (z : List R) (l : List Q) : List ByteArray × Bool := if goodQ z l = true then (nms z l, true) else ([], false)
theorem nmA_no {z : List R} {l : List Q} (h : goodQ z l = false) : nmA z l = ([], false) := by unfold nmA; rw [h]; rfl
theorem nmA_yes {z : List R} {l : List Q} (h : goodQ z l = true) : nmA z l = (nms z l, true) := by unfold nmA; rw [if_pos h]
theorem nms_next {z : List R} {l : List Q} {k : Nat} {q : Q} (h : l[k]? = some q) : nms z (l.take (k + 1)) = nms z (l.take k) ++ [(ru z q.rule).name] := by
  unfold nms
  rw [List.take_add_one, h, Option.toList_some, List.map_append]; rfl
theorem la_top {l : List Q} {m : Int} {p : Q} (h : top l = some p) (hm : (p.mover == m) = true) : la l m l.length = some (l.length - 1) := by
  have hk := (List.getElem?_eq_some_iff.1 h).1
  have := la_hit h hm
  rwa [show l.length - 1 + 1 = l.length by omega] at this
end Go.Proofs.Ytbaflfbidgolfaa.StA
namespace Go.Proofs.Ytbaflfbidgolfaa.ArePendingC
open Go.RowKit Bs Word Sq St StF StL StG StA IntF
set_option linter.unusedVariables false
def Ans (z0 : List LRule.R) (z1 : List LQuestion.R) (r0 : Bool) : Prop := r0 = goodQ z0 z1
theorem same {z0 : List LRule.R} {z1 : List LQuestion.R} {r0 s0 : Bool} (h : Ans z0 z1 r0) (h' : Ans z0 z1 s0) : r0 = s0 := h.trans h'.symm
def APost (z0 : List LRule.R) (z1 : List LQuestion.R) (w : World) (e : Ending) (w' : World) : Prop := ∃ r0, e = .returned (.bool r0) ∧ Ans z0 z1 r0 ∧ Below w.heap.size w w'
set_option maxRecDepth 100000 in
set_option maxHeartbeats 3200000 in
theorem spec (v0 : Value) (z0 : List LRule.R) (v1 : Value) (z1 : List LQuestion.R) (w : World) (h0 : IsS LRule.rec w v0 z0) (f0 : ∀ x ∈ z0, LRule.Fine x) (l0 : z0.length ≤ 1048576) (h1 : IsS LQuestion.rec w v1 z1) (f1 : ∀ x ∈ z1, LQuestion.Fine x) (l1 : z1.length ≤ 1048576) :
    Calls Try.prog 18 #[v0, v1] w (APost z0 z1 w) := by
  have HG := Lib.hid (l7Good v0 v1 z0 z1 w (IsS.is LRule.rec h0) (IsS.is LQuestion.rec h1) f0)
  clear h0 h1 f0 f1
  go_enter Try.func18, Try.ntmps18
  go_wp2_with fail
  refine HG.out.mono ?_
  rintro e w1 ⟨rfl, hb1⟩
  go_wp2_with fail
  go_ret
  exact ⟨_, rfl, rfl, hb1⟩
set_option maxRecDepth 100000 in
set_option maxHeartbeats 3200000 in
theorem impl (v0 : Value) (z0 : List LRule.R) (v1 : Value) (z1 : List LQuestion.R) (w : World) (h0 : IsS LRule.rec w v0 z0) (f0 : ∀ x ∈ z0, LRule.Fine x) (l0 : z0.length ≤ 1048576) (h1 : IsS LQuestion.rec w v1 z1) (f1 : ∀ x ∈ z1, LQuestion.Fine x) (l1 : z1.length ≤ 1048576) :
    Calls Try.prog 21 #[v0, v1] w (APost z0 z1 w)  :=
  (arePending v0 v1 z0 z1 w (IsS.is LRule.rec h0) (IsS.is LQuestion.rec h1) f0).mono fun e w' ⟨he, hb⟩ => ⟨_, he, rfl, hb⟩
end Go.Proofs.Ytbaflfbidgolfaa.ArePendingC
namespace Go.Proofs.Ytbaflfbidgolfaa.LQuestion
open Go.RowKit Bs
set_option linter.unusedVariables false
theorem infoK : (Try.prog.info? 47).map (fun i => (i.zero, i.size, i.bytes)) = some (some (.agg #[.int .i64 0, .int .i64 0, .bool false]), 3, 24) := by kernel_rfl
theorem startB {w : World} {A g : Nat} (h : w.heap[g]? = some (.cells #[] 47 (0, 0))) (hA : A ≤ g) : w.ownsRow A 47 3 (.slice (some ⟨g, 0, none⟩) 0 0) 0 [] :=
  ⟨rfl, .inr ⟨g, 0, #[], rfl, hA, h, Nat.le_refl _, Nat.zero_le _, rfl, rfl⟩⟩
end Go.Proofs.Ytbaflfbidgolfaa.LQuestion
namespace Go.Proofs.Ytbaflfbidgolfaa.LQuestion
open Go.RowKit Bs
set_option linter.unusedVariables false
def Cloned (xs : List LQuestion.R) (w : World) (e : Ending) (w' : World) : Prop := ∃ v, e = .returned v ∧ Own LQuestion.rec 47 w' w.heap.size v xs ∧ Below w.heap.size w w'
set_option maxHeartbeats 400000 in
theorem clone (v0 : Value) (xs : List LQuestion.R) (w : World) (h : Is LQuestion.rec w v0 xs) (hsm : xs.length ≤ 1048576) :
    Calls Try.prog 91 #[v0] w (Cloned xs w) := by
  obtain ⟨a, cp, rfl, h⟩ := h
  obtain ⟨n, hn⟩ : ∃ n, n = xs.length := ⟨_, rfl⟩
  have HN := Lib.hid hn.symm
  have hnb : n ≤ cp := by have := h.1; omega
  have h2 := h.2.1
  unfold maxLen at h2
  rw [← hn] at hsm ⊢
  obtain ⟨i0, hi, hz0, hz1, hz2⟩ := info_parts infoK
  have HI := Lib.hid hi
  have HZ := Lib.hid (And.intro hz0 (And.intro hz1 hz2))
  have heq := fun W => Lib.run_eql_slice_nil (P := Try.prog) W 29 47 a n cp 0 0 Try.underlying29
  clear hi hz0 hz1 hz2 hn
  cases a with
  | none =>
    have hnil : xs = [] := by
      rcases h.2.2 with h' | ⟨b, o, h', _⟩
      · exact h'
      · cases h'
    subst hnil
    obtain rfl : n = 0 := by have := HN.out; simpa using this.symm
    clear h
    go_enter Try.func91, Try.ntmps91
    go_wp2_with fail
    go_ret
    exact ⟨_, rfl, Own.nil, Below.refl _ _⟩
  | some p =>
    have hfl : Hid (∀ j u, (flat LQuestion.rec xs)[j]? = some u → (w.alloc (.cells #[] 47)).cell? (Addr.add p j) = some u) := fun j u hu => by
      rcases h.2.2 with rfl | ⟨b, o, h', hbl, hall⟩
      · simp [flat] at hu
      · obtain rfl := Option.some.inj h'
        rw [Go.WideShapes.add_plain, ((Below.refl w.heap.size w).alloc (Nat.le_refl _) _).cell (p := ⟨b, o + j, none⟩) hbl]
        exact flat_cells LQuestion.rec hall j u hu
    have HO := Lib.hid (startB (A := w.heap.size) (heap_alloc_new w (.cells #[] 47)) (Nat.le_refl _))
    clear h
    go_enter Try.func91, Try.ntmps91
    go_wp2_with (at_builtin; refine wpList_append_own _ rfl (.tmp 5) (.tmp 6) 29 rfl w.heap.size 47 i0 (.agg #[.int .i64 0, .int .i64 0, .bool false]) 3 24 Try.underlying29 HI.out HZ.out.1 HZ.out.2.1 HZ.out.2.2 rfl (by decide) _ _ _ rfl HO.out p n cp (flat LQuestion.rec xs) rfl ?c0 hfl.out (flat_one _ xs) ?c3 ?c4 ?c5 ?c6)
    case c0 => rw [flat_len, HN.out]; rfl
    case c3 => unfold maxLen; simp; omega
    case c4 => simp; omega
    case c5 => simp
    case c6 =>
      intro v' w2 hown hgrow _
      have hb2 : Below w.heap.size w w2 := ((Below.refl w.heap.size w).alloc (Nat.le_refl _) _).grown hgrow (by simp) (fun j hj => HO.out.lt j hj |>.1)
      have hO2 := Lib.hid (show Own LQuestion.rec 47 w2 w.heap.size v' xs by
        unfold Own
        rw [HN.out]
        have h := hown
        first | exact h | (rw [Nat.zero_add] at h; exact h))
      clear hown hgrow
      go_wp2_with fail
      go_ret
      exact ⟨_, rfl, hO2.out, hb2⟩
end Go.Proofs.Ytbaflfbidgolfaa.LQuestion
namespace Go.Proofs.Ytbaflfbidgolfaa.Bs
open Go.RowKit
set_option linter.unusedVariables false
/-- block G holds just these cells -/
def Bx (w : World) (G : Nat) (t : TypeId) (cs : Array Value) : Prop := w.heap[G]? = some (.cells cs t (0, 0))
section
variable {w w' : World} {G : Nat} {t : TypeId} {cs : Array Value}
theorem Bx.lt (h : Bx w G t cs) : G < w.heap.size := (Array.getElem?_eq_some_iff.1 h).1
theorem Bx.cell (h : Bx w G t cs) (i : Nat) : w.cell? ⟨G, i, none⟩ = cs[i]? := cell_of_row w G i cs t (0, 0) h
theorem Bx.frozen (h : Bx w G t cs) (i : Nat) : w.frozen? ⟨G, i, none⟩ = false := by unfold Bx at h; simp [World.frozen?, h]
theorem Bx.new (w : World) (t : TypeId) (cs : Array Value) : Bx (w.alloc (.cells cs t)) w.heap.size t cs := heap_alloc_new w _
theorem Bx.alloc (h : Bx w G t cs) (o : Obj) : Bx (w.alloc o) G t cs := (Below.heap_alloc w o G h.lt).trans h
theorem Bx.set_ (h : Bx w G t cs) (i : Nat) (u : Value) : Bx (w.setCell ⟨G, i, none⟩ u) G t (cs.setIfInBounds i u) := by
  unfold Bx at h ⊢
  simp [World.setCell, Array.getElem?_modify, h]
theorem Bx.far (h : Bx w G t cs) {p : Addr} (hp : G ≠ p.block) (u : Value) : Bx (w.setCell p u) G t cs := (Below.heap_setCell w p u G hp).trans h
theorem Bx.kept (h : Bx w G t cs) (hb : Below w.heap.size w w') : Bx w' G t cs := (hb.block G h.lt).trans h
theorem Bx.under {B : Nat} (h : Bx w G t cs) (hb : Below B w w') (hG : G < B) : Bx w' G t cs := (hb.block G hG).trans h
theorem Bx.loc (h : Bx w G t cs) : Loc G (G + 1) (fun W => Bx W G t cs) w := ⟨h.lt, fun w2 _ hs => (hs G (Nat.le_refl _) (Nat.lt_succ_self _)).trans h⟩
end
theorem own_set {α : Type} {T : Rec α} {E : TypeId} {w : World} {A : Nat} {v : Value} {xs : List α} {p : Addr} (h : Own T E w A v xs) (hp : ∀ k, v.ownBlock = some k → k ≠ p.block) (u : Value) : Own T E (w.setCell p u) A v xs :=
  h.same fun k hk => Below.heap_setCell w p u k (hp k hk)
end Go.Proofs.Ytbaflfbidgolfaa.Bs
namespace Go.Proofs.Ytbaflfbidgolfaa.LString
open Go.RowKit Bs
set_option linter.unusedVariables false
def wt (r : R) : Nat := r.size
def Fine (r : R) : Prop := r.size ≤ maxLen
def tot (xs : List R) : Nat := (xs.map wt).sum
theorem tot_next (xs : List R) (k : Nat) (h : k < xs.length) : tot (xs.take (k + 1)) = tot (xs.take k) + wt xs[k] := by
  rw [List.take_succ_eq_append_getElem h]; unfold tot; rw [List.map_append, List.sum_append]; simp
theorem tot_take_le (xs : List R) (k : Nat) : tot (xs.take k) ≤ tot xs := by
  have := congrArg tot (List.take_append_drop k xs)
  have e : ∀ a b : List R, tot (a ++ b) = tot a + tot b := fun a b => by simp [tot]
  rw [e] at this
  omega
theorem mem_le (xs : List R) (x : R) (h : x ∈ xs) : wt x ≤ tot xs := by
  induction xs with
  | nil => cases h
  | cons y ys ih =>
    simp only [tot, List.map_cons, List.sum_cons] at ih ⊢
    rcases List.mem_cons.1 h with rfl | h
    · omega
    · have := ih h; omega
end Go.Proofs.Ytbaflfbidgolfaa.LString
namespace Go.Proofs.Ytbaflfbidgolfaa.LString
open Go.RowKit Bs
set_option linter.unusedVariables false
theorem infoK : (Try.prog.info? 9).map (fun i => (i.zero, i.size, i.bytes)) = some (some (.string ⟨#[]⟩), 1, 16) := by kernel_rfl
theorem startB {w : World} {A g : Nat} (h : w.heap[g]? = some (.cells #[] 9 (0, 0))) (hA : A ≤ g) : w.ownsRow A 9 1 (.slice (some ⟨g, 0, none⟩) 0 0) 0 [] :=
  ⟨rfl, .inr ⟨g, 0, #[], rfl, hA, h, Nat.le_refl _, Nat.zero_le _, rfl, rfl⟩⟩
end Go.Proofs.Ytbaflfbidgolfaa.LString
