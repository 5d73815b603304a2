/- The data of the claim: records in memory, words, slices of the call's own, the cursor: texts joined by program. No condition. -/
import Derived.Test.YtclpdpfnlmfogaaDoorRows
import Derived.WalkKit
import Derived.ProofKit
import Derived.OpenShut
import Derived.Lib.ItoaNum
import Derived.Lib.LaidTab
import Derived.Lib.TrailingZeros
import Derived.LaidLaws
import Derived.Stop.LaidErr
import Derived.WalkSpells
import Derived.WalkSmall
import Derived.Lib.Hide
import Derived.Lib.QuietBelow
import Derived.Deep.QuietTactic
import Derived.Deep.Fields
import Derived.BigQuiet
import Derived.IntWalk
import Derived.WalkLawsBesides
import Derived.Laws.IdiomCopy
import Derived.Deep.RegionHeld3
import Derived.Maps.AppendAt
import Derived.Shelf.Spec.TrailingZeros
import Derived.Deep.AppendLies
import Derived.Deep.DrawnRows
import Derived.Laws.Bits64b
namespace Go.Proofs.YtclpdpfnlmfogaaDoor.Frame
open Go.ChangeShapes Go.WideShapes Go.ChangeAt Go.RowKit
theorem own : ownKnob Tryd.prog.godebug = none := by kernel_rfl
theorem laidOut : laidOutB Tryd.prog = true := by kernel_rfl
/-- A slice of integers that came in: nil, or a row of cap cells that hold the numbers zs (all of them, up to the capacity). -/
def IsRow (k : IntKind) (w : World) (a : Option Addr) (len cap : Nat) (zs : List Int) : Prop :=
  (a = none ∧ len = 0 ∧ cap = 0 ∧ zs = []) ∨
  ∃ x, a = some x ∧ len ≤ cap ∧ cap ≤ maxLen ∧ zs.length = cap ∧ (∀ i, i < zs.length → w.cell? (x.add i) = some (.int k (zs.getD i 0))) ∧ ∀ n ∈ zs, (Lit.int k n).wf = true
/-- A slice of strings that came in. -/
def IsStrs (w : World) (a : Option Addr) (len cap : Nat) (ss : List ByteArray) : Prop :=
  (a = none ∧ len = 0 ∧ cap = 0 ∧ ss = []) ∨
  ∃ x, a = some x ∧ len ≤ cap ∧ cap ≤ maxLen ∧ ss.length = cap ∧ (∀ i, i < ss.length → w.cell? (x.add i) = some (.string (ss.getD i ByteArray.empty))) ∧ ∀ s ∈ ss, s.size ≤ maxLen
end Go.Proofs.YtclpdpfnlmfogaaDoor.Frame
namespace Go.Proofs.YtclpdpfnlmfogaaDoor.Laid
open Go.ChangeShapes Go.WideShapes Go.ChangeAt Go.RowKit

theorem own : ownKnob Tryd.prog.godebug = none := by kernel_rfl

/-- The sentinel error holds an interface value that is not nil. -/
def Err (name : String) (W : World) : Prop := ∃ tp p, W.var? Tryd.prog name = some #[.iface tp p]
/-- A world that is as it was below its size holds the variables that it held. -/
theorem var_below {P : Program} {W W' : World} {n : String} {cs : Array Value} (hb : Below W.heap.size W W') (h : W.var? P n = some cs) : W'.var? P n = some cs := by
  unfold World.var? at h ⊢
  cases hg : P.globalNamed n with
  | none => simp [hg] at h
  | some g =>
    simp only [hg, Option.bind_some] at h ⊢
    have hlt : g < W.heap.size := by
      rcases Nat.lt_or_ge g W.heap.size with h' | h'
      · exact h'
      · simp [Array.getElem?_eq_none h'] at h
    rw [hb.block g hlt]
    exact h
theorem Err.below {n : String} {W W' : World} (h : Err n W) (hb : Below W.heap.size W W') : Err n W' := by
  obtain ⟨tp, p, e⟩ := h
  exact ⟨tp, p, var_below hb e⟩
theorem gT64 : Tryd.prog.globalNamed "math/bits.deBruijn64tab" = some 1 := by kernel_rfl
theorem gT64Type : (Tryd.prog.globals[1]?).map (·.type) = some 138 := by kernel_rfl
theorem cellsT64 : Tryd.prog.cellsOf 138 = 64 := by kernel_rfl
theorem cellsU8 : Tryd.prog.cellsOf 5 = 1 := by kernel_rfl
theorem t64Data {H : Type} : (Rows.laid_math_bits_deBruijn64tab : DataW H) = Lib.tabData .u8 (Lib.deBruijn64tab.map Int.ofNat) := by kernel_rfl
def T64 (W : World) : Prop := Lib.TabIs Tryd.prog W "math/bits.deBruijn64tab" .u8 (Lib.deBruijn64tab.map Int.ofNat)
theorem t64_of {W : World} {r : List (String × DataW Unit)} (h : laidMet Tryd.prog (("math/bits.deBruijn64tab", Rows.laid_math_bits_deBruijn64tab) :: r) W) : T64 W := by
  rw [t64Data] at h
  exact Lib.tabIs_of_head gT64 gT64Type Tryd.underlying138 Tryd.underlying5 cellsU8 cellsT64 h
theorem T64.below {W W' : World} (h : T64 W) (hb : Below W.heap.size W W') : T64 W' := var_below hb h
theorem T64.cell {W : World} (h : T64 W) (i : Nat) (hi : i < 64) : W.cell? ⟨1, i, none⟩ = some (.int .u8 (Lib.deBruijn64tab.getD i 0 : Nat)) := by
  have hl : i < (Lib.deBruijn64tab.map Int.ofNat).length := by rw [List.length_map]; exact hi
  rw [Lib.TabIs.cell h gT64 i hl]
  have hi2 : i < Lib.deBruijn64tab.length := hi
  simp only [List.getD_eq_getElem?_getD, List.getElem?_map, List.getElem?_eq_getElem hi2, Option.map_some, Option.getD_some]
  rfl

/-- The settled world, the listed variables holding what their initialisers lay. -/
noncomputable def laidWorld (os : Os) : World :=
  let w0 := World.holding Tryd.prog os ⟨#[], #[], []⟩
  { w0 with heap := w0.heap
    |>.modify 0 (fun | .cells _ t frozen => .cells #[.int .u8 0, .int .u8 1, .int .u8 28, .int .u8 2, .int .u8 29, .int .u8 14, .int .u8 24, .int .u8 3, .int .u8 30, .int .u8 22, .int .u8 20, .int .u8 15, .int .u8 25, .int .u8 17, .int .u8 4, .int .u8 8, .int .u8 31, .int .u8 27, .int .u8 13, .int .u8 23, .int .u8 21, .int .u8 19, .int .u8 16, .int .u8 7, .int .u8 26, .int .u8 12, .int .u8 18, .int .u8 6, .int .u8 11, .int .u8 5, .int .u8 10, .int .u8 9] t frozen | o => o)
    |>.modify 1 (fun | .cells _ t frozen => .cells #[.int .u8 0, .int .u8 1, .int .u8 56, .int .u8 2, .int .u8 57, .int .u8 49, .int .u8 28, .int .u8 3, .int .u8 61, .int .u8 58, .int .u8 42, .int .u8 50, .int .u8 38, .int .u8 29, .int .u8 17, .int .u8 4, .int .u8 62, .int .u8 47, .int .u8 59, .int .u8 36, .int .u8 45, .int .u8 43, .int .u8 51, .int .u8 22, .int .u8 53, .int .u8 39, .int .u8 33, .int .u8 30, .int .u8 24, .int .u8 18, .int .u8 12, .int .u8 5, .int .u8 63, .int .u8 55, .int .u8 48, .int .u8 27, .int .u8 60, .int .u8 41, .int .u8 37, .int .u8 16, .int .u8 46, .int .u8 35, .int .u8 44, .int .u8 21, .int .u8 52, .int .u8 32, .int .u8 23, .int .u8 11, .int .u8 54, .int .u8 26, .int .u8 40, .int .u8 15, .int .u8 34, .int .u8 20, .int .u8 31, .int .u8 10, .int .u8 25, .int .u8 14, .int .u8 19, .int .u8 9, .int .u8 13, .int .u8 8, .int .u8 7, .int .u8 6] t frozen | o => o) }
end Go.Proofs.YtclpdpfnlmfogaaDoor.Laid
namespace Go.Proofs.YtclpdpfnlmfogaaDoor.Bs
open Go.RowKit
set_option linter.unusedVariables false

/-- nothing has turned but the blocks from A up to B; blocks may have been laid -/
structure Apart (A B : Nat) (w w' : World) : Prop where
  os : w'.os = w.os
  tape : w'.tape = w.tape
  output : w'.output = w.output
  size : w.heap.size ≤ w'.heap.size
  block : ∀ k, k < w.heap.size → (k < A ∨ B ≤ k) → w'.heap[k]? = w.heap[k]?
theorem Apart.refl (A B : Nat) (w : World) : Apart A B w w := ⟨rfl, rfl, rfl, Nat.le_refl _, fun _ _ _ => rfl⟩
theorem Apart.trans {A B : Nat} {a b c : World} (h : Apart A B a b) (k : Apart A B b c) : Apart A B a c :=
  ⟨k.os.trans h.os, k.tape.trans h.tape, k.output.trans h.output, Nat.le_trans h.size k.size, fun i hi hn => (k.block i (Nat.lt_of_lt_of_le hi h.size) hn).trans (h.block i hi hn)⟩
theorem Apart.of_below {A B : Nat} {a b : World} (h : Below a.heap.size a b) : Apart A B a b := ⟨h.os, h.tape, h.output, h.size, fun j hj _ => h.block j hj⟩
theorem Apart.of_below_low {A : Nat} {a b : World} (h : Below A a b) : Apart A a.heap.size a b := ⟨h.os, h.tape, h.output, h.size, fun j hj hn => h.block j (by omega)⟩
theorem Apart.wide {A B A' B' : Nat} {a b : World} (h : Apart A B a b) (hA : A' ≤ A) (hB : B ≤ B') : Apart A' B' a b := ⟨h.os, h.tape, h.output, h.size, fun j hj hn => h.block j hj (by omega)⟩
theorem Apart.below {A B B' : Nat} {a b : World} (h : Apart A B a b) (hB : B' ≤ A) (hz : B' ≤ a.heap.size) : Below B' a b :=
  ⟨h.os, h.tape, h.output, h.size, fun k hk => h.block k (by omega) (.inl (by omega))⟩
theorem Apart.set {A B : Nat} {a b : World} (h : Apart A B a b) {p : Addr} (hA : A ≤ p.block) (hB : p.block < B) (v : Value) : Apart A B a (b.setCell p v) :=
  h.trans ⟨rfl, rfl, rfl, by simp, fun k _ hk => heap_setCell_other b p k v (by omega)⟩
theorem Apart.alloc {A B : Nat} {a b : World} (h : Apart A B a b) (o : Obj) : Apart A B a (b.alloc o) := h.trans (Apart.of_below ((Below.refl _ _).alloc (Nat.le_refl _) o))
theorem Apart.on {A B : Nat} {a b c : World} (h : Apart A B a b) (hb : Below b.heap.size b c) : Apart A B a c := h.trans (Apart.of_below hb)

/-- a fact that hangs on the blocks from A up to B alone -/
structure Loc (A B : Nat) (P : World → Prop) (w : World) : Prop where
  le : B ≤ w.heap.size
  all : ∀ w' : World, B ≤ w'.heap.size → (∀ j, A ≤ j → j < B → w'.heap[j]? = w.heap[j]?) → P w'
section
variable {A B : Nat} {P : World → Prop} {w w' : World}
theorem Loc.now (h : Loc A B P w) : P w := h.all w h.le fun _ _ _ => rfl
theorem Loc.same (h : Loc A B P w) (hz : B ≤ w'.heap.size) (hs : ∀ j, A ≤ j → j < B → w'.heap[j]? = w.heap[j]?) : Loc A B P w' :=
  ⟨hz, fun w2 h2 hs2 => h.all w2 h2 fun j h1 h3 => (hs2 j h1 h3).trans (hs j h1 h3)⟩
theorem Loc.kept (h : Loc A B P w) (hb : Below w.heap.size w w') : Loc A B P w' :=
  h.same (Nat.le_trans h.le hb.size) fun j _ hj => hb.block j (Nat.lt_of_lt_of_le hj h.le)
theorem Loc.under {C : Nat} (h : Loc A B P w) (hb : Below C w w') (hC : B ≤ C) : Loc A B P w' :=
  h.same (Nat.le_trans h.le hb.size) fun j _ hj => hb.block j (by omega)
theorem Loc.apart {A' B' : Nat} (h : Loc A B P w) (ha : Apart A' B' w w') (hd : B ≤ A' ∨ B' ≤ A) : Loc A B P w' :=
  h.same (Nat.le_trans h.le ha.size) fun j h1 h2 => ha.block j (by have := h.le; omega) (by omega)
theorem Loc.alloc (h : Loc A B P w) (o : Obj) : Loc A B P (w.alloc o) := h.kept ((Below.refl _ _).alloc (Nat.le_refl _) o)
theorem Loc.imp {Q : World → Prop} (h : Loc A B P w) (hi : ∀ W, P W → Q W) : Loc A B Q w := ⟨h.le, fun w2 h2 hs => hi _ (h.all w2 h2 hs)⟩
end

theorem cell_lt {w : World} {p : Addr} {v : Value} (h : w.cell? p = some v) : p.block < w.heap.size := by
  rcases Nat.lt_or_ge p.block w.heap.size with h' | h'
  · exact h'
  · simp [World.cell?, Array.getElem?_eq_none h'] at h

/-- a type of records: how many cells, which values -/
structure Rec (α : Type) where
  n : Nat
  vals : α → List Value
  len : ∀ a, (vals a).length = n
  pos : 0 < n
  one : ∀ a, ∀ u ∈ vals a, u.oneCell' = true
section
variable {α : Type} (T : Rec α)
def flat (xs : List α) : List Value := xs.flatMap T.vals
theorem flat_cons (x : α) (xs : List α) : flat T (x :: xs) = T.vals x ++ flat T xs := rfl
theorem flat_len : ∀ xs : List α, (flat T xs).length = xs.length * T.n
  | [] => by simp [flat]
  | x :: xs => by rw [flat_cons, List.length_append, flat_len xs, List.length_cons, T.len, Nat.add_mul, Nat.one_mul, Nat.add_comm]
theorem flat_append (xs ys : List α) : flat T (xs ++ ys) = flat T xs ++ flat T ys := by simp [flat]
theorem flat_one (xs : List α) : ∀ u ∈ flat T xs, u.oneCell' = true := by
  intro u hu
  obtain ⟨r, _, hr⟩ := List.mem_flatMap.1 hu
  exact T.one r u hr
theorem flat_at : ∀ (xs : List α) (k j : Nat) (r : α), xs[k]? = some r → j < T.n → (flat T xs)[k * T.n + j]? = (T.vals r)[j]?
  | [], k, j, r, h, _ => by simp at h
  | x :: xs, 0, j, r, h, hj => by
    simp only [List.getElem?_cons_zero, Option.some.injEq] at h
    subst h
    rw [flat_cons, Nat.zero_mul, Nat.zero_add, List.getElem?_append_left (by rw [T.len]; exact hj)]
  | x :: xs, k + 1, j, r, h, hj => by
    rw [List.getElem?_cons_succ] at h
    have e0 : (k + 1) * T.n = k * T.n + T.n := Nat.succ_mul k T.n
    rw [flat_cons, List.getElem?_append_right (by rw [T.len, e0]; omega), T.len]
    have e : (k + 1) * T.n + j - T.n = k * T.n + j := by rw [e0]; omega
    rw [e]
    exact flat_at xs k j r h hj
theorem flat_set : ∀ (ys : List α) (k j : Nat) (r r' : α) (v : Value), ys[k]? = some r → j < T.n → T.vals r' = (T.vals r).set j v → (flat T ys).set (k * T.n + j) v = flat T (ys.set k r')
  | [], k, j, r, r', v, h, _, _ => by simp at h
  | x :: ys, 0, j, r, r', v, h, hj, hv => by
    simp only [List.getElem?_cons_zero, Option.some.injEq] at h
    subst h
    show (T.vals x ++ flat T ys).set (0 * T.n + j) v = T.vals r' ++ flat T ys
    rw [Nat.zero_mul, Nat.zero_add, List.set_append_left _ _ (by rw [T.len]; exact hj), hv]
  | x :: ys, k + 1, j, r, r', v, h, hj, hv => by
    rw [List.getElem?_cons_succ] at h
    show (T.vals x ++ flat T ys).set ((k + 1) * T.n + j) v = T.vals x ++ flat T (ys.set k r')
    have e0 : (k + 1) * T.n = k * T.n + T.n := Nat.succ_mul k T.n
    rw [List.set_append_right _ _ (by rw [T.len, e0]; omega), T.len]
    have e : (k + 1) * T.n + j - T.n = k * T.n + j := by rw [e0]; omega
    rw [e, flat_set ys k j r r' v h hj hv]
/-- the cells of a record at a place -/
def At (w : World) (b p : Nat) (r : α) : Prop := ∀ j v, (T.vals r)[j]? = some v → w.cell? ⟨b, p + j, none⟩ = some v
theorem At.keep {w w' : World} {b p : Nat} {r : α} (h : At T w b p r) (hk : ∀ o, w'.cell? ⟨b, o, none⟩ = w.cell? ⟨b, o, none⟩) : At T w' b p r := fun j v hv => by rw [hk]; exact h j v hv
theorem At.below {w w' : World} {b p B : Nat} {r : α} (h : At T w b p r) (hb : Below B w w') (hl : b < B) : At T w' b p r := h.keep T fun o => hb.cell (p := ⟨b, o, none⟩) hl
/-- a slice of records lies in memory -/
def RowsAt (w : World) (a : Option Addr) (c : Nat) (xs : List α) : Prop :=
  xs.length ≤ c ∧ c ≤ maxLen ∧ (xs = [] ∨ ∃ b o, a = some ⟨b, o, none⟩ ∧ b < w.heap.size ∧ ∀ j r, xs[j]? = some r → At T w b (o + j * T.n) r)
theorem RowsAt.below {w w' : World} {a : Option Addr} {c : Nat} {xs : List α} (h : RowsAt T w a c xs) (hb : Below w.heap.size w w') : RowsAt T w' a c xs := by
  obtain ⟨h1, h2, h3⟩ := h
  refine ⟨h1, h2, ?_⟩
  rcases h3 with h3 | ⟨b, o, rfl, hlt, hc⟩
  · exact .inl h3
  · exact .inr ⟨b, o, rfl, Nat.lt_of_lt_of_le hlt hb.size, fun j r hr => (hc j r hr).below T hb hlt⟩
/-- the record at a place: where it lies -/
theorem RowsAt.at_ {w : World} {a : Option Addr} {c : Nat} {xs : List α} (h : RowsAt T w a c xs) : Hid (∀ j r, xs[j]? = some r → ∃ b o, a = some ⟨b, o, none⟩ ∧ b < w.heap.size ∧ At T w b (o + j * T.n) r) := by
  obtain ⟨_, _, h3⟩ := h
  intro j r hr
  rcases h3 with rfl | ⟨b, o, rfl, hl, hc⟩
  · simp at hr
  · exact ⟨b, o, rfl, hl, hc j r hr⟩
/-- a slice value that reads as these records -/
def Is (w : World) (v : Value) (xs : List α) : Prop := ∃ a c, v = .slice a xs.length c ∧ RowsAt T w a c xs
theorem Is.below {w w' : World} {v : Value} {xs : List α} (h : Is T w v xs) (hb : Below w.heap.size w w') : Is T w' v xs := by
  obtain ⟨a, c, e, h⟩ := h
  exact ⟨a, c, e, h.below T hb⟩
/-- a slice value, not nil, that reads as these records -/
def IsS (w : World) (v : Value) (xs : List α) : Prop := ∃ b o c, v = .slice (some ⟨b, o, none⟩) xs.length c ∧ b < w.heap.size ∧ xs.length ≤ c ∧ c ≤ maxLen ∧ ∀ j r, xs[j]? = some r → At T w b (o + j * T.n) r
theorem IsS.is {w : World} {v : Value} {xs : List α} (h : IsS T w v xs) : Is T w v xs := by
  obtain ⟨b, o, c, e, hb, h1, h2, h3⟩ := h
  exact ⟨_, c, e, h1, h2, .inr ⟨b, o, rfl, hb, h3⟩⟩
/-- all cells of a slice, one by one -/
theorem flat_cells {w : World} {b o : Nat} {xs : List α} (h : ∀ j r, xs[j]? = some r → At T w b (o + j * T.n) r) : ∀ j u, (flat T xs)[j]? = some u → w.cell? ⟨b, o + j, none⟩ = some u := by
  intro j u hu
  have hj : j < xs.length * T.n := by rw [← flat_len]; exact (List.getElem?_eq_some_iff.1 hu).1
  have hp := T.pos
  have hx : j / T.n < xs.length := (Nat.div_lt_iff_lt_mul hp).2 hj
  have hr := List.getElem?_eq_getElem hx
  have hm : j % T.n < T.n := Nat.mod_lt _ hp
  have hf := flat_at T xs (j / T.n) (j % T.n) _ hr hm
  have e : j / T.n * T.n + j % T.n = j := Nat.div_add_mod' j T.n
  rw [e, hu] at hf
  have := h _ _ hr (j % T.n) u hf.symm
  rwa [show o + j / T.n * T.n + j % T.n = o + j by rw [Nat.add_assoc, e]] at this
/-- a slice value of the call's own, its block at A or above, that holds these records -/
def Own (E : TypeId) (w : World) (A : Nat) (v : Value) (xs : List α) : Prop := w.ownsRow A E T.n v xs.length (flat T xs)
variable {T} {E : TypeId} {w w' : World} {A B : Nat} {v : Value} {xs : List α}
theorem Own.shape (h : Own T E w A v xs) : (v = .slice none 0 0 ∧ xs = []) ∨ ∃ g cap, v = .slice (some ⟨g, 0, none⟩) xs.length cap ∧ A ≤ g ∧ g < w.heap.size ∧ xs.length ≤ cap ∧ cap ≤ maxLen := by
  rcases h.2 with ⟨h', hz⟩ | ⟨g, cap, cur, h', hbg, hg, hnc, hcm, _, _⟩
  · exact .inl ⟨h', List.eq_nil_of_length_eq_zero hz⟩
  · exact .inr ⟨g, cap, h', hbg, (Array.getElem?_eq_some_iff.1 hg).1, hnc, hcm⟩
theorem Own.same (h : Own T E w A v xs) (hs : ∀ k, v.ownBlock = some k → w'.heap[k]? = w.heap[k]?) : Own T E w' A v xs := by
  refine ⟨h.1, ?_⟩
  rcases h.2 with hn | ⟨g, cap, cur, rfl, hbg, hgg, rest⟩
  · exact .inl hn
  · refine .inr ⟨g, cap, cur, rfl, hbg, ?_, rest⟩
    rw [hs g rfl]
    exact hgg
theorem Own.kept (h : Own T E w A v xs) (hb : Below w.heap.size w w') : Own T E w' A v xs := h.same fun k hk => hb.block k (h.lt k hk).2
theorem Own.low {A' : Nat} (h : Own T E w A v xs) (hA : A' ≤ A) : Own T E w A' v xs := by
  refine ⟨h.1, ?_⟩
  rcases h.2 with hn | ⟨g, cap, cur, rfl, hbg, rest⟩
  · exact .inl hn
  · exact .inr ⟨g, cap, cur, rfl, Nat.le_trans hA hbg, rest⟩
theorem Own.alloc (h : Own T E w A v xs) (o : Obj) : Own T E (w.alloc o) A v xs := h.kept ((Below.refl _ _).alloc (Nat.le_refl _) o)
/-- an empty slice that was just built -/
theorem Own.start (h : A ≤ w.heap.size) : Own T E (w.alloc (.cells #[] E)) A (.slice (some ⟨w.heap.size, 0, none⟩) 0 0) [] := by
  refine ⟨by simp [flat], .inr ⟨w.heap.size, 0, #[], rfl, h, ?_, Nat.le_refl _, Nat.zero_le _, by simp, by simp [flat]⟩⟩
  show (w.heap.push _)[w.heap.size]? = _
  rw [Array.getElem?_push, if_pos rfl]
theorem Own.nil : Own T E w A (.slice none 0 0) [] := ⟨by simp [flat], .inl ⟨rfl, rfl⟩⟩
theorem Own.is (h : Own T E w A v xs) : Is T w v xs := by
  rcases h.shape with ⟨rfl, rfl⟩ | ⟨g, cap, rfl, _, hlt, hc, hm⟩
  · exact ⟨none, 0, rfl, Nat.le_refl _, Nat.zero_le _, .inl rfl⟩
  · refine ⟨_, cap, rfl, hc, hm, .inr ⟨g, 0, rfl, hlt, fun j r hr i u hu => ?_⟩⟩
    have hi : i < T.n := by rw [← T.len r]; exact (List.getElem?_eq_some_iff.1 hu).1
    have hcell := World.ownsRow.cells h (g := g) rfl (j * T.n + i) u (by rw [flat_at T xs j i r hr hi]; exact hu)
    rw [Go.WideShapes.add_plain] at hcell
    rw [show 0 + j * T.n + i = 0 + (j * T.n + i) by omega]
    exact hcell
theorem Own.isS (h : Own T E w A v xs) (hv : ∃ g, v.ownBlock = some g) : IsS T w v xs := by
  obtain ⟨g0, hg0⟩ := hv
  rcases h.shape with ⟨rfl, rfl⟩ | ⟨g, cap, rfl, _, hlt, hc, hm⟩
  · cases hg0
  · refine ⟨g, 0, cap, rfl, hlt, hc, hm, fun j r hr i u hu => ?_⟩
    have hi : i < T.n := by rw [← T.len r]; exact (List.getElem?_eq_some_iff.1 hu).1
    have hcell := World.ownsRow.cells h (g := g) rfl (j * T.n + i) u (by rw [flat_at T xs j i r hr hi]; exact hu)
    rw [Go.WideShapes.add_plain] at hcell
    rw [show 0 + j * T.n + i = 0 + (j * T.n + i) by omega]
    exact hcell
theorem Own.rows {g n cap : Nat} (hn : xs.length = n) (h : Own T E w A (.slice (some ⟨g, 0, none⟩) n cap) xs) : RowsAt T w (some ⟨g, 0, none⟩) cap xs := by
  obtain ⟨a, c, e, hr⟩ := h.is
  simp only [Value.slice.injEq] at e
  obtain ⟨rfl, _, rfl⟩ := e
  exact hr
/-- the cells of a record of the row -/
theorem Own.at_ {g n cap : Nat} (h : Own T E w A (.slice (some ⟨g, 0, none⟩) n cap) xs) (k : Nat) (r : α) (hr : xs[k]? = some r) : At T w g (k * T.n) r := fun i u hu => by
  have hi : i < T.n := by rw [← T.len r]; exact (List.getElem?_eq_some_iff.1 hu).1
  have hcell := World.ownsRow.cells h (g := g) rfl (k * T.n + i) u (by rw [flat_at T xs k i r hr hi]; exact hu)
  rw [Go.WideShapes.add_plain] at hcell
  rw [show k * T.n + i = 0 + (k * T.n + i) by omega]
  exact hcell
theorem Own.frozen {g n cap : Nat} (hn : xs.length = n) (h : Own T E w A (.slice (some ⟨g, 0, none⟩) n cap) xs) (o : Nat) : w.frozen? ⟨g, o, none⟩ = false := by
  subst hn
  exact World.ownsRow.frozenAt h o
/-- a store into one cell -/
theorem Own.put {g n cap : Nat} (hn : xs.length = n) (h : Own T E w A (.slice (some ⟨g, 0, none⟩) n cap) xs) (k j : Nat) (r r' : α) (u : Value) (hr : xs[k]? = some r) (hj : j < T.n) (hv : T.vals r' = (T.vals r).set j u) :
    Own T E (w.setCell ⟨g, k * T.n + j, none⟩ u) A (.slice (some ⟨g, 0, none⟩) n cap) (xs.set k r') := by
  subst hn
  unfold Own
  rw [← flat_set T xs k j r r' u hr hj hv, List.length_set]
  exact (World.ownsRow.stored h (k * T.n + j) u).1
/-- made by an append of one record that lies somewhere -/
theorem Own.next {n : Nat} {news : List α} (h : w.ownsRow A E T.n v (xs.length + news.length) (flat T xs ++ flat T news)) : Own T E w A v (xs ++ news) := by
  unfold Own
  rw [List.length_append, flat_append]
  exact h
/-- an owned value whose block lies between A and B -/
def OwnB (T : Rec α) (E : TypeId) (A B : Nat) (v : Value) (xs : List α) (w : World) : Prop := Own T E w A v xs ∧ ∀ k, v.ownBlock = some k → k < B
theorem Own.loc (h : Own T E w A v xs) : Loc A w.heap.size (OwnB T E A w.heap.size v xs) w :=
  ⟨Nat.le_refl _, fun w' hz hs => ⟨h.same fun k hk => hs k (h.lt k hk).1 (h.lt k hk).2, fun k hk => (h.lt k hk).2⟩⟩
theorem OwnB.loc (h : OwnB T E A B v xs w) (hB : B ≤ w.heap.size) : Loc A B (OwnB T E A B v xs) w :=
  ⟨hB, fun w' hz hs => ⟨h.1.same fun k hk => hs k (h.1.lt k hk).1 (h.2 k hk), h.2⟩⟩
/-- what came in -/
theorem Is.loc (h : Is T w v xs) : Loc 0 w.heap.size (fun W => Is T W v xs) w := by
  refine ⟨Nat.le_refl _, fun w' hz hs => ?_⟩
  obtain ⟨a, c, e, h1, h2, h3⟩ := h
  refine ⟨a, c, e, h1, h2, ?_⟩
  rcases h3 with h3 | ⟨b, o, rfl, hlt, hc⟩
  · exact .inl h3
  · refine .inr ⟨b, o, rfl, Nat.lt_of_lt_of_le hlt hz, fun j r hr => (hc j r hr).keep T fun p => ?_⟩
    exact World.cell?_of_block (a := ⟨b, p, none⟩) (hs b (Nat.zero_le _) hlt)
end
theorem boxLoc {α : Type} (T : Rec α) {w : World} {o : Obj} {r : α} (h : At T (w.alloc o) w.heap.size 0 r) : Loc w.heap.size (w.heap.size + 1) (fun W => At T W w.heap.size 0 r) (w.alloc o) :=
  ⟨by simp, fun w' hz hs => h.keep T fun p => World.cell?_of_block (a := ⟨w.heap.size, p, none⟩) (hs _ (Nat.le_refl _) (Nat.lt_succ_self _))⟩
/-- an append to a slice of the call's own, as a step of a region that draws its order -/
theorem step_append {P : Program} {w : World} {ops : Array Oper} {o : Oper} {a : Act} {K : Act → World → Prop} {Q : Exit → Act → World → Prop} {E : Prop} (hgd : o.guard = none) (s x : Operand) (t : TypeId)
    (ho : o.op = .call { callee := .builtin .append, args := #[s, x], argTypes := #[t, t] })
    (base : Nat) (e : TypeId) (i : TypeInfo) (z : Value) (size bytes : Nat) (ht : P.underlying t = some (.slice e)) (hi : P.info? e = some i) (hz : i.zero = some z)
    (hsize : i.size = size) (hby : i.bytes = bytes) (hzs : z.cells.size = size) (hsz : 0 < size)
    (v : Value) (n : Nat) (xs : List Value) (hs : a.eval s = v) (hown : w.ownsRow base e size v n xs)
    (ad : Addr) (m c : Nat) (news : List Value) (hx : a.eval x = .slice (some ad) m c) (hl : news.length = m * size) (hnews : ∀ j u, news[j]? = some u → w.cell? (ad.add j) = some u) (h1 : ∀ u ∈ news, u.oneCell' = true)
    (h63 : n + m ≤ maxLen) (hbytes : (n + m) * bytes ≤ 140737488355328) (hbase : base ≤ w.heap.size)
    (h : ∀ v' w', w'.ownsRow base e size v' (n + m) (xs ++ news) → w.grownBy w' v.ownBlock → K (a.put o.dst v') w') :
    if Region.wanted o (yielded ops a.tmps) = true then Oper.wp P o a w K Q else E := by
  have hw : Region.wanted o (yielded ops a.tmps) = true := by simp [Region.wanted, hgd]
  rw [if_pos hw]
  exact wp_append_own w s x t ho base e i z size bytes ht hi hz hsize hby hzs hsz v n xs hs hown ad m c news hx hl hnews h1 h63 hbytes hbase fun v' w' h2 h3 _ => h v' w' h2 h3
theorem ret_true : Ending.returned (.bool true) = .returned (.bool true) := rfl
/-- a callee that leaves the world alone, met in a quiet region -/
theorem quiet_eq {P : Program} {f : FuncId} {args : Array Value} {w : World} {n : Nat} {v : Value}
    (h : Calls P f args (w.drewN n) fun e w' => e = .returned v ∧ w.drewN n = w') : Calls P f args (w.drewN n) fun e w'' => e = .returned v ∧ ∃ m, w'' = w.drewN m :=
  h.mono fun _ _ ⟨he, hm⟩ => ⟨he, n, hm.symm⟩
/-- the same in a region where memory may be made -/
theorem regrown_eq {P : Program} {f : FuncId} {args : Array Value} {w : World} {d : Nat} {os : Array Obj} {v : Value}
    (h : Calls P f args (Sort.grow (redrawn w d) os) fun e w' => e = .returned v ∧ Sort.grow (redrawn w d) os = w') : Calls P f args (Sort.grow (redrawn w d) os) fun e w'' => e = .returned v ∧ ∃ p : Regrown, w'' = Sort.grow (redrawn w p.d) p.os :=
  Calls.regrown_of (h.mono fun _ _ ⟨he, hm⟩ => ⟨he, by rw [← hm]; exact Below.refl _ _⟩)
theorem drawn_below (w : World) (n : Nat) : Below w.heap.size w (w.drewN n) := ⟨rfl, rfl, rfl, Nat.le_refl _, fun _ _ => rfl⟩
/-- the head of a slice, and its rest -/
theorem IsS.take {α : Type} (T : Rec α) {w : World} {b o n c k : Nat} {z : List α} (h : IsS T w (.slice (some ⟨b, o, none⟩) n c) z) (hk : k ≤ n) : IsS T w (.slice (some ⟨b, o, none⟩) k c) (z.take k) := by
  obtain ⟨b', o', c', e, hbl, h1, h2, h3⟩ := h
  simp only [Value.slice.injEq, Option.some.injEq, Addr.mk.injEq, and_true] at e
  obtain ⟨⟨rfl, rfl⟩, rfl, rfl⟩ := e
  refine ⟨b, o, c, by rw [List.length_take, Nat.min_eq_left hk], hbl, by rw [List.length_take, Nat.min_eq_left hk]; omega, h2, fun i r hr => h3 i r ?_⟩
  rw [List.getElem?_take] at hr
  split at hr
  · exact hr
  · cases hr
theorem IsS.drop {α : Type} (T : Rec α) {w : World} {b o n c k : Nat} {z : List α} (t : Option Addr) (ht : t = if c = k then some ⟨b, o, none⟩ else some ⟨b, o + k * T.n, none⟩) (h : IsS T w (.slice (some ⟨b, o, none⟩) n c) z) (hk : k ≤ n) (m3 c3 : Nat) (hm3 : m3 = n - k) (hc3 : c3 = c - k) : IsS T w (.slice t m3 c3) (z.drop k) := by
  subst hm3 hc3
  obtain ⟨b', o', c', e, hbl, h1, h2, h3⟩ := h
  simp only [Value.slice.injEq, Option.some.injEq, Addr.mk.injEq, and_true] at e
  obtain ⟨⟨rfl, rfl⟩, rfl, rfl⟩ := e
  by_cases hck : c = k
  · rw [if_pos hck] at ht
    subst ht
    refine ⟨b, o, c - k, by rw [List.length_drop], hbl, by rw [List.length_drop]; omega, by unfold maxLen at h2 ⊢; omega, fun i r hr => ?_⟩
    rw [List.drop_eq_nil_of_le (by omega)] at hr
    simp at hr
  · rw [if_neg hck] at ht
    subst ht
    refine ⟨b, o + k * T.n, c - k, by rw [List.length_drop], hbl, by rw [List.length_drop]; omega, by unfold maxLen at h2 ⊢; omega, fun i r hr => ?_⟩
    have h := h3 (k + i) r (by rw [List.getElem?_drop] at hr; exact hr)
    rwa [Nat.add_mul, ← Nat.add_assoc] at h
theorem IsS.below {α : Type} (T : Rec α) {w w' : World} {v : Value} {z : List α} (h : IsS T w v z) (hb : Below w.heap.size w w') : IsS T w' v z := by
  obtain ⟨b, o, c, e, hbl, h1, h2, h3⟩ := h
  exact ⟨b, o, c, e, Nat.lt_of_lt_of_le hbl hb.size, h1, h2, fun j r hr => (h3 j r hr).below T hb hbl⟩
/-- a slice of one record that lies at a block's head -/
theorem IsS.unit {α : Type} (T : Rec α) {w : World} {g : Nat} {x : α} (hg : g < w.heap.size) (h : At T w g 0 x) : IsS T w (.slice (some ⟨g, 0, none⟩) 1 1) [x] := by
  refine ⟨g, 0, 1, rfl, hg, Nat.le_refl _, by unfold maxLen; omega, fun i r hr => ?_⟩
  match i, hr with
  | 0, hr =>
    simp only [List.getElem?_cons_zero, Option.some.injEq] at hr
    subst hr
    rw [Nat.zero_mul]
    exact h
  | i + 1, hr => simp at hr
theorem alloc_two (W : World) (o1 o2 : Obj) : ((W.alloc o1).alloc o2).heap[W.heap.size + 1]? = some o2 := by simpa using heap_alloc_new (W.alloc o1) o2
theorem alloc_old (W : World) (o1 o2 : Obj) : ((W.alloc o1).alloc o2).heap[W.heap.size]? = some o1 := (Below.heap_alloc _ _ _ (by simp)).trans (heap_alloc_new _ _)
theorem ite_slice (c : Prop) [Decidable c] (x y : Addr) (n m : Nat) : Value.slice (if c then some x else some y) n m = .slice (some (if c then x else y)) n m := by split <;> rfl
theorem own_in {w : World} {A : Nat} {e : TypeId} {size n : Nat} {v : Value} {xs : List Value} (h : w.ownsRow A e size v (0 + n) ([] ++ xs)) : w.ownsRow A e size v n xs := by
  rwa [Nat.zero_add, List.nil_append] at h
theorem own_ge {B g n c k : Nat} (hj : (Value.slice (some ⟨g, 0, none⟩) n c).ownBlock = some k) (h : B ≤ g) : B ≤ k := by
  simp only [Value.ownBlock, Option.some.injEq] at hj
  omega
theorem IsS.flatCells {α : Type} (T : Rec α) {w : World} {b o n c : Nat} {z : List α} (h : IsS T w (.slice (some ⟨b, o, none⟩) n c) z) : ∀ j u, (flat T z)[j]? = some u → w.cell? (Addr.add ⟨b, o, none⟩ j) = some u := fun j u hu => by
  obtain ⟨b', o', c', e, hbl, h1, h2, h3⟩ := h
  simp only [Value.slice.injEq, Option.some.injEq, Addr.mk.injEq, and_true] at e
  obtain ⟨⟨rfl, rfl⟩, rfl, rfl⟩ := e
  rw [Go.WideShapes.add_plain]
  exact flat_cells T h3 j u hu
theorem own_of {α : Type} (T : Rec α) {E : TypeId} {w : World} {A cnt : Nat} {v : Value} {cells : List Value} {xs : List α} (h : w.ownsRow A E T.n v cnt cells) (hc : xs.length = cnt) (hf : flat T xs = cells) : Own T E w A v xs := by
  unfold Own; rw [hc, hf]; exact h
end Go.Proofs.YtclpdpfnlmfogaaDoor.Bs
namespace Go.Proofs.YtclpdpfnlmfogaaDoor.Bs
open Go.RowKit
set_option linter.unusedVariables false
/-- block G holds just these cells -/
def Bx (w : World) (G : Nat) (t : TypeId) (cs : Array Value) : Prop := w.heap[G]? = some (.cells cs t (0, 0))
section
variable {w w' : World} {G : Nat} {t : TypeId} {cs : Array Value}
theorem Bx.lt (h : Bx w G t cs) : G < w.heap.size := (Array.getElem?_eq_some_iff.1 h).1
theorem Bx.cell (h : Bx w G t cs) (i : Nat) : w.cell? ⟨G, i, none⟩ = cs[i]? := cell_of_row w G i cs t (0, 0) h
theorem Bx.frozen (h : Bx w G t cs) (i : Nat) : w.frozen? ⟨G, i, none⟩ = false := by unfold Bx at h; simp [World.frozen?, h]
theorem Bx.new (w : World) (t : TypeId) (cs : Array Value) : Bx (w.alloc (.cells cs t)) w.heap.size t cs := heap_alloc_new w _
theorem Bx.alloc (h : Bx w G t cs) (o : Obj) : Bx (w.alloc o) G t cs := (Below.heap_alloc w o G h.lt).trans h
theorem Bx.set_ (h : Bx w G t cs) (i : Nat) (u : Value) : Bx (w.setCell ⟨G, i, none⟩ u) G t (cs.setIfInBounds i u) := by
  unfold Bx at h ⊢
  simp [World.setCell, Array.getElem?_modify, h]
theorem Bx.far (h : Bx w G t cs) {p : Addr} (hp : G ≠ p.block) (u : Value) : Bx (w.setCell p u) G t cs := (Below.heap_setCell w p u G hp).trans h
theorem Bx.kept (h : Bx w G t cs) (hb : Below w.heap.size w w') : Bx w' G t cs := (hb.block G h.lt).trans h
theorem Bx.under {B : Nat} (h : Bx w G t cs) (hb : Below B w w') (hG : G < B) : Bx w' G t cs := (hb.block G hG).trans h
theorem Bx.loc (h : Bx w G t cs) : Loc G (G + 1) (fun W => Bx W G t cs) w := ⟨h.lt, fun w2 _ hs => (hs G (Nat.le_refl _) (Nat.lt_succ_self _)).trans h⟩
end
theorem own_set {α : Type} {T : Rec α} {E : TypeId} {w : World} {A : Nat} {v : Value} {xs : List α} {p : Addr} (h : Own T E w A v xs) (hp : ∀ k, v.ownBlock = some k → k ≠ p.block) (u : Value) : Own T E (w.setCell p u) A v xs :=
  h.same fun k hk => Below.heap_setCell w p u k (hp k hk)
end Go.Proofs.YtclpdpfnlmfogaaDoor.Bs
namespace Go.Proofs.YtclpdpfnlmfogaaDoor.Bs
open Go.RowKit
set_option linter.unusedVariables false
section
variable {α : Type} {T : Rec α} {E : TypeId} {w w' : World} {A B : Nat} {v : Value} {xs : List α}
/-- nil, or a slice that reads as these records -/
def IsQ (T : Rec α) (w : World) (v : Value) (xs : List α) : Prop := (v = .slice none 0 0 ∧ xs = []) ∨ IsS T w v xs
theorem IsQ.is (h : IsQ T w v xs) : Is T w v xs := by
  rcases h with ⟨rfl, rfl⟩ | h
  · exact ⟨none, 0, rfl, Nat.le_refl _, Nat.zero_le _, .inl rfl⟩
  · exact h.is
theorem IsQ.below (h : IsQ T w v xs) (hb : Below w.heap.size w w') : IsQ T w' v xs := by
  rcases h with h | h
  · exact .inl h
  · exact .inr (IsS.below _ h hb)
theorem Own.isQ (h : Own T E w A v xs) : IsQ T w v xs := by
  rcases h.shape with h' | ⟨g, cap, e, _⟩
  · exact .inl h'
  · exact .inr (h.isS ⟨g, by rw [e]; rfl⟩)
theorem own_slice (h : Own T E w A v xs) : ∃ a n c, v = .slice a n c := by
  rcases h.shape with ⟨rfl, _⟩ | ⟨g, c, rfl, _⟩
  · exact ⟨_, _, _, rfl⟩
  · exact ⟨_, _, _, rfl⟩
/-- two values that lie in different blocks -/
def Dist (s t : Value) : Prop := ∀ k, s.ownBlock = some k → t.ownBlock ≠ some k
theorem dist_none {s : Value} : Dist (.slice none 0 0) s := fun k h => by cases h
theorem dist_none' {s : Value} : Dist s (.slice none 0 0) := fun k _ h => by cases h
theorem Dist.of_lt {s t : Value} {m : Nat} (hs : ∀ k, s.ownBlock = some k → k < m) (ht : ∀ k, t.ownBlock = some k → m ≤ k) : Dist s t := fun k h1 h2 => by
  have := hs k h1; have := ht k h2; omega
theorem Dist.of_gt {s t : Value} {m : Nat} (hs : ∀ k, s.ownBlock = some k → m ≤ k) (ht : ∀ k, t.ownBlock = some k → k < m) : Dist s t := fun k h1 h2 => by
  have := hs k h1; have := ht k h2; omega
theorem Dist.symm {s t : Value} (h : Dist s t) : Dist t s := fun k h1 h2 => h k h2 h1
theorem is_low {a : Option Addr} {c b o : Nat} (h : RowsAt T w a c xs) (e : a = some ⟨b, o, none⟩) (hne : xs ≠ []) : b < w.heap.size := by
  rcases h.2.2 with h' | ⟨b', o', e', hl, _⟩
  · exact absurd h' hne
  · rw [e] at e'
    simp only [Option.some.injEq, Addr.mk.injEq, and_true] at e'
    rw [e'.1]; exact hl
theorem is_set {a : Option Addr} {c n : Nat} (h : Is T w (.slice a n c) xs) (G i : Nat) (u : Value) (hq : ∀ b o, a = some ⟨b, o, none⟩ → xs ≠ [] → b ≠ G) : Is T (w.setCell ⟨G, i, none⟩ u) (.slice a n c) xs := by
  obtain ⟨a', c', e, h1, h2, h3⟩ := h
  simp only [Value.slice.injEq] at e
  obtain ⟨rfl, rfl, rfl⟩ := e
  refine ⟨_, _, rfl, h1, h2, ?_⟩
  by_cases hx : xs = []
  · exact .inl hx
  rcases h3 with h3 | ⟨b, o, rfl, hlt, hc⟩
  · exact .inl h3
  · refine .inr ⟨b, o, rfl, by simpa using hlt, fun j r hr => (hc j r hr).keep T fun p => ?_⟩
    have hb := hq b o rfl hx
    exact World.cell?_of_block (a := ⟨b, p, none⟩) (Below.heap_setCell w ⟨G, i, none⟩ u b hb)
/-- the narrowest range of blocks round an own slice -/
theorem own_tight {Bd : Nat} (hBd : Bd ≤ w.heap.size) (h : OwnB T E A Bd v xs w) : ∃ A' B', (A' ≤ B') ∧ (A ≤ A' ∨ A' = B') ∧ (B' ≤ Bd) ∧ OwnB T E A' B' v xs w ∧ ((∃ k, v.ownBlock = some k ∧ A' = k ∧ B' = k + 1) ∨ (v.ownBlock = none ∧ A' = B')) := by
  rcases h.1.shape with ⟨rfl, rfl⟩ | ⟨g, cap, rfl, hg1, hg2, _⟩
  · exact ⟨0, 0, Nat.le_refl _, .inr rfl, Nat.zero_le _, ⟨Own.nil, fun k hk => by cases hk⟩, .inr ⟨rfl, rfl⟩⟩
  · refine ⟨g, g + 1, Nat.le_succ _, .inl hg1, h.2 g rfl, ⟨?_, fun k hk => by cases hk; exact Nat.lt_succ_self _⟩, .inl ⟨g, rfl, rfl, rfl⟩⟩
    refine ⟨h.1.1, ?_⟩
    rcases h.1.2 with ⟨h', _⟩ | ⟨g', cap', cur, e, _, rest⟩
    · cases h'
    · simp only [Value.slice.injEq, Option.some.injEq, Addr.mk.injEq, and_true] at e
      obtain ⟨rfl, _, rfl⟩ := e
      exact .inr ⟨_, _, cur, rfl, Nat.le_refl _, rest⟩
theorem tight_apart {s t : Value} {A1 B1 A2 B2 : Nat} (hd : Dist s t) (h1 : (∃ k, s.ownBlock = some k ∧ A1 = k ∧ B1 = k + 1) ∨ (s.ownBlock = none ∧ A1 = B1)) (h2 : (∃ k, t.ownBlock = some k ∧ A2 = k ∧ B2 = k + 1) ∨ (t.ownBlock = none ∧ A2 = B2)) : B1 ≤ A2 ∨ B2 ≤ A1 := by
  rcases h1 with ⟨k, hk, rfl, rfl⟩ | ⟨_, rfl⟩ <;> rcases h2 with ⟨l, hl, rfl, rfl⟩ | ⟨_, rfl⟩
  · have : A1 ≠ A2 := fun e => hd A1 hk (by rw [hl, e])
    omega
  · omega
  · omega
  · omega
theorem apart_wide {A' B' Bd : Nat} {a b : World} (h : Apart A' B' a b) (hA : A ≤ A' ∨ A' = B') (hn : A' ≤ B') (hB : B' ≤ Bd) : Apart A Bd a b :=
  ⟨h.os, h.tape, h.output, h.size, fun j hj hn => h.block j hj (by omega)⟩
theorem own_wide {A' B' : Nat} (h : OwnB T E A' B' v xs w) (hA : A ≤ A' ∨ A' = B') : Own T E w A v xs := by
  rcases hA with hA | rfl
  · exact h.1.low hA
  · rcases h.1.shape with ⟨rfl, rfl⟩ | ⟨g, cap, rfl, hg1, _⟩
    · exact Own.nil
    · have := h.2 g rfl; omega
theorem IsQ.loc (h : IsQ T w v xs) : Loc 0 w.heap.size (fun W => IsQ T W v xs) w := by
  refine ⟨Nat.le_refl _, fun w' hz hs => ?_⟩
  rcases h with h | ⟨b, o, c, rfl, hb, h1, h2, h3⟩
  · exact .inl h
  · exact .inr ⟨b, o, c, rfl, Nat.lt_of_lt_of_le hb hz, h1, h2, fun j r hr => (h3 j r hr).keep T fun p => World.cell?_of_block (a := ⟨b, p, none⟩) (hs b (Nat.zero_le _) hb)⟩
end
end Go.Proofs.YtclpdpfnlmfogaaDoor.Bs
namespace Go.Proofs.YtclpdpfnlmfogaaDoor.LString
open Go.RowKit Bs
set_option linter.unusedVariables false
abbrev R := ByteArray
def vals (r : R) : List Value := [.string r]
/-- one value as a type of records -/
def rec : Rec R := ⟨1, vals, fun _ => rfl, by decide, fun r u hu => by
  simp only [vals, List.mem_cons, List.not_mem_nil, or_false] at hu
  rcases hu with rfl
  rfl⟩
theorem rec_n : rec.n = 1 := rfl
theorem info : (Tryd.prog.info? 9).map (fun i => (i.zero, i.size)) = some (some (.string ⟨#[]⟩), 1) := by kernel_rfl
theorem cells {w : World} {b p : Nat} {r : R} (h : At rec w b p r) : w.cell? ⟨b, p, none⟩ = some (.string r) := h 0 _ rfl
theorem at_of {w : World} {b p : Nat} {r : R} (h0 : w.cell? ⟨b, p, none⟩ = some (.string r)) : At rec w b p r := fun j v hv => by
  have hj : j < 1 := (List.getElem?_eq_some_iff.1 hv).1
  obtain rfl : j = 0 := by omega
  rw [← hv]; exact h0
/-- facts of a value in all worlds that only grew -/
theorem grown {w : World} {b p : Nat} {r : R} (h : At rec w b p r) (hl : b < w.heap.size) : Hid (∀ d os, At rec (Sort.grow (redrawn w d) os) b p r) := fun d os => h.below rec (below_regrown w d os) hl
theorem flat_eq (xs : List R) : flat rec xs = xs.map (fun r => .string r) := by
  induction xs with
  | nil => rfl
  | cons x xs ih => rw [flat_cons, ih]; rfl
def zero : R := ⟨#[]⟩
theorem made_zero (n : Nat) : (madeCells (#[.string ⟨#[]⟩] : Array Value) n).toList = flat rec (List.replicate n zero) := by
  apply List.ext_getElem?
  intro i
  rw [madeCells, flat_eq]
  by_cases hi : i < n
  · simp only [Array.toList_map, List.getElem?_map, Array.toList_range, List.getElem?_range hi, Option.map_some, List.getElem?_replicate, if_pos hi]
    have h1 : i % (#[.string ⟨#[]⟩] : Array Value).size = 0 := Nat.mod_one i
    rw [h1]
    rfl
  · rw [List.getElem?_eq_none (by simp; omega), List.getElem?_eq_none (by simp; omega)]
/-- what a copy holds after k stores -/
def part (xs : List R) (n k : Nat) : List R := xs.take k ++ List.replicate (n - k) zero
theorem part_len (xs : List R) (n k : Nat) (h : xs.length = n) (hk : k ≤ n) : (part xs n k).length = n := by simp [part]; omega
theorem part_zero (xs : List R) (n : Nat) : part xs n 0 = List.replicate n zero := by simp [part]
theorem part_all (xs : List R) (n : Nat) (h : xs.length = n) : part xs n n = xs := by
  unfold part; rw [List.take_of_length_le (by omega), Nat.sub_self]; simp
theorem part_set (xs : List R) (n k : Nat) (h : xs.length = n) (hk : k < xs.length) : (part xs n k).set k xs[k] = part xs n (k + 1) := by
  unfold part
  have hl : (xs.take k).length = k := by rw [List.length_take]; omega
  rw [List.set_append_right _ _ (by omega), hl, Nat.sub_self]
  have e : n - k = (n - (k + 1)) + 1 := by omega
  rw [e, List.replicate_succ, List.set_cons_zero, List.take_succ_eq_append_getElem hk, List.append_assoc]
  rfl
theorem part_at (xs : List R) (n k : Nat) (h : xs.length = n) (hk : k < n) : (part xs n k)[k]? = some zero := by
  unfold part
  have hl : (xs.take k).length = k := by rw [List.length_take]; omega
  rw [List.getElem?_append_right (by omega), hl, Nat.sub_self, List.getElem?_replicate, if_pos (by omega)]
abbrev OwnR (w : World) (A g n cap : Nat) (ys : List R) : Prop := Own rec 9 w A (.slice (some ⟨g, 0, none⟩) n cap) ys
/-- a store of one value -/
theorem putAll {w : World} {A g n cap : Nat} {ys : List R} (hn : ys.length = n) (h : OwnR w A g n cap ys) (k : Nat) (r0 r : R) (hr : ys[k]? = some r0) :
    OwnR (w.setCell ⟨g, k, none⟩ (.string r)) A g n cap (ys.set k r) := by
  have h0 := Own.put hn h k 0 r0 r (.string r) hr (by decide) rfl
  rw [rec_n, Nat.mul_one, Nat.add_zero] at h0
  exact h0
end Go.Proofs.YtclpdpfnlmfogaaDoor.LString
namespace Go.Proofs.YtclpdpfnlmfogaaDoor.LProposal
open Go.RowKit Bs
set_option linter.unusedVariables false
structure R where
  id : Int
  kind : Int
  pos : Int
  count : Int
  words : List LString.R
  weight : Int
def Is (w : World) (v : Value) (r : R) : Prop := ∃ s4, v = .agg #[.int .i64 r.id, .int .i64 r.kind, .int .i64 r.pos, .int .i64 r.count, s4, .int .i64 r.weight] ∧ Bs.Is LString.rec w s4 r.words
def IsQ (w : World) (v : Value) (r : R) : Prop := ∃ s4, v = .agg #[.int .i64 r.id, .int .i64 r.kind, .int .i64 r.pos, .int .i64 r.count, s4, .int .i64 r.weight] ∧ Bs.IsQ LString.rec w s4 r.words
def IsS (w : World) (v : Value) (r : R) : Prop := ∃ s4, v = .agg #[.int .i64 r.id, .int .i64 r.kind, .int .i64 r.pos, .int .i64 r.count, s4, .int .i64 r.weight] ∧ Bs.IsS LString.rec w s4 r.words
def Own (w : World) (A : Nat) (v : Value) (r : R) : Prop := ∃ s4, v = .agg #[.int .i64 r.id, .int .i64 r.kind, .int .i64 r.pos, .int .i64 r.count, s4, .int .i64 r.weight] ∧ Bs.Own LString.rec 9 w A s4 r.words
/-- the slices' blocks lie below B -/
def Bnd (B : Nat) (v : Value) : Prop := ∀ x0 x1 x2 x3 s4 x5, v = .agg #[x0, x1, x2, x3, s4, x5] → (∀ k, s4.ownBlock = some k → k < B)
def NotNil (v : Value) : Prop := ∃ x0 x1 x2 x3 s4 x5, v = .agg #[x0, x1, x2, x3, s4, x5] ∧ (∃ g, s4.ownBlock = some g)
def OwnB (A B : Nat) (v : Value) (r : R) (w : World) : Prop := Own w A v r ∧ Bnd B v
section
variable {w w' : World} {A B : Nat} {v : Value} {r : R}
theorem IsS.is (h : IsS w v r) : Is w v r := by
  obtain ⟨s4, e, h4⟩ := h
  exact ⟨s4, e, Bs.IsS.is _ h4⟩
theorem IsS.isQ (h : IsS w v r) : IsQ w v r := by
  obtain ⟨s4, e, h4⟩ := h
  exact ⟨s4, e, .inr h4⟩
theorem IsQ.is (h : IsQ w v r) : Is w v r := by
  obtain ⟨s4, e, h4⟩ := h
  exact ⟨s4, e, Bs.IsQ.is h4⟩
theorem Own.is (h : Own w A v r) : Is w v r := by
  obtain ⟨s4, e, h4⟩ := h
  exact ⟨s4, e, Bs.Own.is h4⟩
theorem Own.isQ (h : Own w A v r) : IsQ w v r := by
  obtain ⟨s4, e, h4⟩ := h
  exact ⟨s4, e, Bs.Own.isQ h4⟩
theorem Own.isS (h : Own w A v r) (hv : NotNil v) : IsS w v r := by
  obtain ⟨s4, rfl, h4⟩ := h
  obtain ⟨tx0, tx1, tx2, tx3, ts4, tx5, e, ⟨g4, k4⟩⟩ := hv
  refine ⟨s4, rfl, Bs.Own.isS h4 ⟨g4, ?_⟩⟩
  · simp only [Value.agg.injEq, Array.mk.injEq, List.cons.injEq, and_true] at e
    obtain ⟨rfl, rfl, rfl, rfl, rfl, rfl⟩ := e
    exact k4
theorem Is.below (h : Is w v r) (hb : Below w.heap.size w w') : Is w' v r := by
  obtain ⟨s4, e, h4⟩ := h
  exact ⟨s4, e, Bs.Is.below _ h4 hb⟩
theorem IsQ.below (h : IsQ w v r) (hb : Below w.heap.size w w') : IsQ w' v r := by
  obtain ⟨s4, e, h4⟩ := h
  exact ⟨s4, e, Bs.IsQ.below h4 hb⟩
theorem IsS.below (h : IsS w v r) (hb : Below w.heap.size w w') : IsS w' v r := by
  obtain ⟨s4, e, h4⟩ := h
  exact ⟨s4, e, Bs.IsS.below _ h4 hb⟩
theorem Own.kept (h : Own w A v r) (hb : Below w.heap.size w w') : Own w' A v r := by
  obtain ⟨s4, e, h4⟩ := h
  exact ⟨s4, e, Bs.Own.kept h4 hb⟩
theorem Own.low {A' : Nat} (h : Own w A v r) (hA : A' ≤ A) : Own w A' v r := by
  obtain ⟨s4, e, h4⟩ := h
  exact ⟨s4, e, Bs.Own.low h4 hA⟩
theorem bnd_of {s4 : Value} (h : (∀ k, s4.ownBlock = some k → k < B)) (hv : v = .agg #[.int .i64 r.id, .int .i64 r.kind, .int .i64 r.pos, .int .i64 r.count, s4, .int .i64 r.weight]) : Bnd B v := by
  subst hv
  intro tx0 tx1 tx2 tx3 ts4 tx5 e
  simp only [Value.agg.injEq, Array.mk.injEq, List.cons.injEq, and_true] at e
  obtain ⟨rfl, rfl, rfl, rfl, rfl, rfl⟩ := e
  exact h
theorem Own.loc (h : Own w A v r) : Bs.Loc A w.heap.size (OwnB A w.heap.size v r) w := by
  obtain ⟨s4, e, h4⟩ := h
  refine ⟨Nat.le_refl _, fun w2 hz hs => ?_⟩
  have o4 := (Bs.Own.loc h4).all w2 hz hs
  exact ⟨⟨s4, e, o4.1⟩, bnd_of (o4.2) e⟩
theorem Is.loc (h : Is w v r) : Bs.Loc 0 w.heap.size (fun W => Is W v r) w := by
  obtain ⟨s4, e, h4⟩ := h
  exact ⟨Nat.le_refl _, fun w2 hz hs => ⟨s4, e, (Bs.Is.loc h4).all w2 hz hs⟩⟩
theorem OwnB.slices (h : OwnB A B v r w) : ∃ s4, v = .agg #[.int .i64 r.id, .int .i64 r.kind, .int .i64 r.pos, .int .i64 r.count, s4, .int .i64 r.weight] ∧ Bs.OwnB LString.rec 9 A B s4 r.words w := by
  obtain ⟨⟨s4, e, h4⟩, hB⟩ := h
  have hB := hB _ _ _ _ _ _ e
  have b4 := hB
  exact ⟨s4, e, ⟨h4, b4⟩⟩
theorem OwnB.loc (h : OwnB A B v r w) (hB : B ≤ w.heap.size) : Bs.Loc A B (OwnB A B v r) w := by
  obtain ⟨s4, e, h4⟩ := OwnB.slices h
  exact ⟨hB, fun w2 hz hs => ⟨⟨s4, e, ((Bs.OwnB.loc h4 hB).all w2 hz hs).1⟩, h.2⟩⟩
theorem Own.form (h : Own w A v r) : ∃ a4 n4 c4, v = .agg #[.int .i64 r.id, .int .i64 r.kind, .int .i64 r.pos, .int .i64 r.count, .slice a4 n4 c4, .int .i64 r.weight] := by
  obtain ⟨s4, rfl, h4⟩ := h
  obtain ⟨a4, n4, c4, rfl⟩ := own_slice h4
  exact ⟨_, _, _, rfl⟩
theorem Own.zero : Own w A (.agg #[.int .i64 0, .int .i64 0, .int .i64 0, .int .i64 0, .slice none 0 0, .int .i64 0]) ⟨0, 0, 0, 0, [], 0⟩ := ⟨_, rfl, Bs.Own.nil⟩
end
end Go.Proofs.YtclpdpfnlmfogaaDoor.LProposal
namespace Go.Proofs.YtclpdpfnlmfogaaDoor.LAmendment
open Go.RowKit Bs
set_option linter.unusedVariables false
structure R where
  kind : Int
  pos : Int
  count : Int
  words : List LString.R
def Is (w : World) (v : Value) (r : R) : Prop := ∃ s3, v = .agg #[.int .i64 r.kind, .int .i64 r.pos, .int .i64 r.count, s3] ∧ Bs.Is LString.rec w s3 r.words
def IsQ (w : World) (v : Value) (r : R) : Prop := ∃ s3, v = .agg #[.int .i64 r.kind, .int .i64 r.pos, .int .i64 r.count, s3] ∧ Bs.IsQ LString.rec w s3 r.words
def IsS (w : World) (v : Value) (r : R) : Prop := ∃ s3, v = .agg #[.int .i64 r.kind, .int .i64 r.pos, .int .i64 r.count, s3] ∧ Bs.IsS LString.rec w s3 r.words
def Own (w : World) (A : Nat) (v : Value) (r : R) : Prop := ∃ s3, v = .agg #[.int .i64 r.kind, .int .i64 r.pos, .int .i64 r.count, s3] ∧ Bs.Own LString.rec 9 w A s3 r.words
/-- the slices' blocks lie below B -/
def Bnd (B : Nat) (v : Value) : Prop := ∀ x0 x1 x2 s3, v = .agg #[x0, x1, x2, s3] → (∀ k, s3.ownBlock = some k → k < B)
def NotNil (v : Value) : Prop := ∃ x0 x1 x2 s3, v = .agg #[x0, x1, x2, s3] ∧ (∃ g, s3.ownBlock = some g)
def OwnB (A B : Nat) (v : Value) (r : R) (w : World) : Prop := Own w A v r ∧ Bnd B v
section
variable {w w' : World} {A B : Nat} {v : Value} {r : R}
theorem IsS.is (h : IsS w v r) : Is w v r := by
  obtain ⟨s3, e, h3⟩ := h
  exact ⟨s3, e, Bs.IsS.is _ h3⟩
theorem IsS.isQ (h : IsS w v r) : IsQ w v r := by
  obtain ⟨s3, e, h3⟩ := h
  exact ⟨s3, e, .inr h3⟩
theorem IsQ.is (h : IsQ w v r) : Is w v r := by
  obtain ⟨s3, e, h3⟩ := h
  exact ⟨s3, e, Bs.IsQ.is h3⟩
theorem Own.is (h : Own w A v r) : Is w v r := by
  obtain ⟨s3, e, h3⟩ := h
  exact ⟨s3, e, Bs.Own.is h3⟩
theorem Own.isQ (h : Own w A v r) : IsQ w v r := by
  obtain ⟨s3, e, h3⟩ := h
  exact ⟨s3, e, Bs.Own.isQ h3⟩
theorem Own.isS (h : Own w A v r) (hv : NotNil v) : IsS w v r := by
  obtain ⟨s3, rfl, h3⟩ := h
  obtain ⟨tx0, tx1, tx2, ts3, e, ⟨g3, k3⟩⟩ := hv
  refine ⟨s3, rfl, Bs.Own.isS h3 ⟨g3, ?_⟩⟩
  · simp only [Value.agg.injEq, Array.mk.injEq, List.cons.injEq, and_true] at e
    obtain ⟨rfl, rfl, rfl, rfl⟩ := e
    exact k3
theorem Is.below (h : Is w v r) (hb : Below w.heap.size w w') : Is w' v r := by
  obtain ⟨s3, e, h3⟩ := h
  exact ⟨s3, e, Bs.Is.below _ h3 hb⟩
theorem IsQ.below (h : IsQ w v r) (hb : Below w.heap.size w w') : IsQ w' v r := by
  obtain ⟨s3, e, h3⟩ := h
  exact ⟨s3, e, Bs.IsQ.below h3 hb⟩
theorem IsS.below (h : IsS w v r) (hb : Below w.heap.size w w') : IsS w' v r := by
  obtain ⟨s3, e, h3⟩ := h
  exact ⟨s3, e, Bs.IsS.below _ h3 hb⟩
theorem Own.kept (h : Own w A v r) (hb : Below w.heap.size w w') : Own w' A v r := by
  obtain ⟨s3, e, h3⟩ := h
  exact ⟨s3, e, Bs.Own.kept h3 hb⟩
theorem Own.low {A' : Nat} (h : Own w A v r) (hA : A' ≤ A) : Own w A' v r := by
  obtain ⟨s3, e, h3⟩ := h
  exact ⟨s3, e, Bs.Own.low h3 hA⟩
theorem bnd_of {s3 : Value} (h : (∀ k, s3.ownBlock = some k → k < B)) (hv : v = .agg #[.int .i64 r.kind, .int .i64 r.pos, .int .i64 r.count, s3]) : Bnd B v := by
  subst hv
  intro tx0 tx1 tx2 ts3 e
  simp only [Value.agg.injEq, Array.mk.injEq, List.cons.injEq, and_true] at e
  obtain ⟨rfl, rfl, rfl, rfl⟩ := e
  exact h
theorem Own.loc (h : Own w A v r) : Bs.Loc A w.heap.size (OwnB A w.heap.size v r) w := by
  obtain ⟨s3, e, h3⟩ := h
  refine ⟨Nat.le_refl _, fun w2 hz hs => ?_⟩
  have o3 := (Bs.Own.loc h3).all w2 hz hs
  exact ⟨⟨s3, e, o3.1⟩, bnd_of (o3.2) e⟩
theorem Is.loc (h : Is w v r) : Bs.Loc 0 w.heap.size (fun W => Is W v r) w := by
  obtain ⟨s3, e, h3⟩ := h
  exact ⟨Nat.le_refl _, fun w2 hz hs => ⟨s3, e, (Bs.Is.loc h3).all w2 hz hs⟩⟩
theorem OwnB.slices (h : OwnB A B v r w) : ∃ s3, v = .agg #[.int .i64 r.kind, .int .i64 r.pos, .int .i64 r.count, s3] ∧ Bs.OwnB LString.rec 9 A B s3 r.words w := by
  obtain ⟨⟨s3, e, h3⟩, hB⟩ := h
  have hB := hB _ _ _ _ e
  have b3 := hB
  exact ⟨s3, e, ⟨h3, b3⟩⟩
theorem OwnB.loc (h : OwnB A B v r w) (hB : B ≤ w.heap.size) : Bs.Loc A B (OwnB A B v r) w := by
  obtain ⟨s3, e, h3⟩ := OwnB.slices h
  exact ⟨hB, fun w2 hz hs => ⟨⟨s3, e, ((Bs.OwnB.loc h3 hB).all w2 hz hs).1⟩, h.2⟩⟩
theorem Own.form (h : Own w A v r) : ∃ a3 n3 c3, v = .agg #[.int .i64 r.kind, .int .i64 r.pos, .int .i64 r.count, .slice a3 n3 c3] := by
  obtain ⟨s3, rfl, h3⟩ := h
  obtain ⟨a3, n3, c3, rfl⟩ := own_slice h3
  exact ⟨_, _, _, rfl⟩
theorem Own.zero : Own w A (.agg #[.int .i64 0, .int .i64 0, .int .i64 0, .slice none 0 0]) ⟨0, 0, 0, []⟩ := ⟨_, rfl, Bs.Own.nil⟩
end
end Go.Proofs.YtclpdpfnlmfogaaDoor.LAmendment
namespace Go.Proofs.YtclpdpfnlmfogaaDoor.LString
open Go.RowKit Bs
set_option linter.unusedVariables false
def wt (r : R) : Nat := r.size
def Fine (r : R) : Prop := r.size ≤ maxLen
def tot (xs : List R) : Nat := (xs.map wt).sum
theorem tot_next (xs : List R) (k : Nat) (h : k < xs.length) : tot (xs.take (k + 1)) = tot (xs.take k) + wt xs[k] := by
  rw [List.take_succ_eq_append_getElem h]; unfold tot; rw [List.map_append, List.sum_append]; simp
theorem tot_take_le (xs : List R) (k : Nat) : tot (xs.take k) ≤ tot xs := by
  have := congrArg tot (List.take_append_drop k xs)
  have e : ∀ a b : List R, tot (a ++ b) = tot a + tot b := fun a b => by simp [tot]
  rw [e] at this
  omega
theorem mem_le (xs : List R) (x : R) (h : x ∈ xs) : wt x ≤ tot xs := by
  induction xs with
  | nil => cases h
  | cons y ys ih =>
    simp only [tot, List.map_cons, List.sum_cons] at ih ⊢
    rcases List.mem_cons.1 h with rfl | h
    · omega
    · have := ih h; omega
end Go.Proofs.YtclpdpfnlmfogaaDoor.LString
namespace Go.Proofs.YtclpdpfnlmfogaaDoor.LString
open Go.RowKit Bs
set_option linter.unusedVariables false
/-- what is left behind something of a weight -/
def Left (t : Nat) (l : Int) (w : World) (e : Ending) (w' : World) : Prop := Below w.heap.size w w' ∧ ∃ x : Int, e = .returned (.int .i64 x) ∧ ((x < 0 ∧ l < t) ∨ (x = l - t ∧ (t : Int) ≤ l))
set_option maxHeartbeats 800000 in
theorem szS (v : Value) (xs : List R) (l : Int) (w : World) (h0 : 0 ≤ l) (hl : l ≤ 1048576) (h : Is rec w v xs) (hsm : ∀ x ∈ xs, Fine x) :
    Calls Tryd.prog 37 #[v, .int .i64 l] w (Left (xs.length + tot xs) l w) := by
  obtain ⟨a, cp, rfl, h⟩ := h
  have hc := h.at_ rec
  obtain ⟨n, hn⟩ : ∃ n, n = xs.length := ⟨_, rfl⟩
  have hnb : n ≤ cp := by have := h.1; omega
  have h2 := h.2.1
  unfold maxLen at h2
  have HN := Lib.hid hn.symm
  have HSM := Lib.hid hsm
  rw [← hn]
  have hle : n ≤ xs.length := by omega
  clear hn hsm h
  by_cases hbig : l < n
  · go_enter Tryd.func37, Tryd.ntmps37
    go_wp2_with fail
    go_ret
    exact ⟨Below.refl _ _, -1, rfl, .inl ⟨by omega, by omega⟩⟩
  · go_enter Tryd.func37, Tryd.ntmps37
    go_wp2_with fail
    go_loop [1, 5] (fun q i => ∃ k t : Nat, k ≤ n ∧ i = .int .i64 k ∧ q = .int .i64 (l - (n : Int) - t) ∧ (n : Int) + t ≤ l ∧ Hid (t = tot (xs.take k))) (fun _ i => n - (intOf i).toNat)
    case atStart => exact ⟨0, 0, Nat.zero_le _, rfl, by simp, by omega, rfl⟩
    case round =>
      obtain ⟨k, t, hk, rfl, rfl, hT, HT⟩ := hrel
      by_cases hlt : k < n
      · have hx : k < xs.length := by omega
        obtain ⟨b, o, rfl, hbl, hcell⟩ := hc.out k xs[k] (List.getElem?_eq_getElem hx)
        have q0 := cells hcell
        simp only [rec_n, Nat.mul_one] at q0
        have hxs := HSM.out xs[k] (List.getElem_mem hx)
        unfold Fine maxLen at hxs
        have HTN := Lib.hid (tot_next xs k hx)
        have HTL := Lib.hid (tot_take_le xs (k + 1))
        clear hcell
        by_cases hb2 : l < n + (t + wt xs[k] : Nat)
        · have HB := Lib.hid (show l < ((n + tot xs : Nat) : Int) by
            have h1 := HTL.out
            rw [HTN.out, ← HT.out] at h1
            omega)
          unfold wt at hb2
          generalize xs[k] = X at *
          go_wp2_with fail
          go_ret
          exact ⟨Below.refl _ _, -1, rfl, .inl ⟨by omega, HB.out⟩⟩
        · have HT2 := Lib.hid (show t + wt xs[k] = tot (xs.take (k + 1)) by rw [HTN.out, ← HT.out])
          unfold wt at hb2 HT2
          generalize xs[k] = X at *
          go_wp2_with fail
          go_round
          case rel => exact ⟨k + 1, t + X.size, by omega, by go_num, by go_num, by omega, HT2⟩
          case measure => simp [intOf]; omega
      · have hkn : xs.take k = xs := List.take_of_length_le (by rw [HN.out]; omega)
        have HF := Lib.hid (show t = tot xs by rw [HT.out, hkn])
        clear hkn
        go_wp2_with fail
        go_ret
        exact ⟨Below.refl _ _, _, rfl, .inr ⟨by rw [← HF.out]; omega, by rw [← HF.out]; omega⟩⟩
end Go.Proofs.YtclpdpfnlmfogaaDoor.LString
namespace Go.Proofs.YtclpdpfnlmfogaaDoor.LAmendment
open Go.RowKit Bs
set_option linter.unusedVariables false
def Fine (r : R) : Prop := (∀ x ∈ r.words, LString.Fine x)
def wt (r : R) : Nat := (r.words.length + LString.tot r.words)
def Left (t : Nat) (l : Int) (w : World) (e : Ending) (w' : World) : Prop := Below w.heap.size w w' ∧ ∃ x : Int, e = .returned (.int .i64 x) ∧ ((x < 0 ∧ l < t) ∨ (x = l - t ∧ (t : Int) ≤ l))
set_option maxRecDepth 100000 in
set_option maxHeartbeats 800000 in
theorem sz (v : Value) (r : R) (l : Int) (w : World) (h0 : 0 ≤ l) (hl : l ≤ 1048576) (h : Is w v r) (hf : Fine r) :
    Calls Tryd.prog 106 #[v, .int .i64 l] w (Left (wt r) l w) := by
  obtain ⟨s3, rfl, h3⟩ := h
  obtain ⟨a3, cp3, rfl, h3⟩ := h3
  obtain ⟨W0, hW⟩ : ∃ W : World, W = w.alloc (.cells #[.int .i64 r.kind, .int .i64 r.pos, .int .i64 r.count, .slice a3 r.words.length cp3] 97) := ⟨_, rfl⟩
  have hb0 : Below w.heap.size w W0 := by rw [hW]; exact (Below.refl _ _).alloc (Nat.le_refl _) _
  have BX0 := Lib.hid (show Bx W0 w.heap.size 97 #[.int .i64 r.kind, .int .i64 r.pos, .int .i64 r.count, .slice a3 r.words.length cp3] by rw [hW]; exact Bx.new _ _ _)
  have HI3 := Lib.hid (Bs.Is.below _ ⟨a3, cp3, rfl, h3⟩ hb0)
  clear h3
  have HF := Lib.hid hf
  clear hf
  have HWT := Lib.hid (show wt r = (r.words.length + LString.tot r.words) from rfl)
  obtain ⟨t3, ht3⟩ : ∃ t, t = r.words.length + LString.tot r.words := ⟨_, rfl⟩
  have HT3 := Lib.hid ht3.symm
  rw [show Left (wt r) l w = Left (t3) l w by rw [HWT.out, ← ht3]]
  clear HWT
  have hbT := hb0
  clear ht3
  go_enter Tryd.func106, Tryd.ntmps106
  go_wp2_with fail
  rw [← hW]
  clear hW hb0
  refine (LString.szS _ r.words _ W0 (by omega) (by omega) HI3.out HF.out).mono ?_
  rintro e W1 ⟨hb1, x, rfl, hx⟩
  rw [HT3.out] at hx
  have hz1 := hb1.size
  rcases hx with ⟨hx0, hxl⟩ | ⟨rfl, hxl⟩
  · have hb2 := hbT.trans (hb1.mono hbT.size)
    have HX := Lib.hid hxl
    clear hxl
    go_wp2_with fail
    go_ret
    exact ⟨hb2, -1, rfl, .inl ⟨by omega, by have := HX.out; omega⟩⟩
  replace hbT := hbT.trans (hb1.mono hbT.size)
  clear hb1
  go_wp2_with fail
  go_ret
  exact ⟨hbT, _, rfl, .inr ⟨by omega, by omega⟩⟩
end Go.Proofs.YtclpdpfnlmfogaaDoor.LAmendment
namespace Go.Proofs.YtclpdpfnlmfogaaDoor.LProposal
open Go.RowKit Bs
set_option linter.unusedVariables false
abbrev ch (r : R) : LAmendment.R := ⟨r.kind, r.pos, r.count, r.words⟩
def Fine (r : R) : Prop := (∀ x ∈ r.words, LString.Fine x)
def wt (r : R) : Nat := (r.words.length + LString.tot r.words)
theorem is_ch {w : World} {s : Value} {r : R} (h : Bs.Is LString.rec w s r.words) : LAmendment.Is w (.agg #[.int .i64 r.kind, .int .i64 r.pos, .int .i64 r.count, s]) (ch r) := ⟨_, rfl, h⟩
def Left (t : Nat) (l : Int) (w : World) (e : Ending) (w' : World) : Prop := Below w.heap.size w w' ∧ ∃ x : Int, e = .returned (.int .i64 x) ∧ ((x < 0 ∧ l < t) ∨ (x = l - t ∧ (t : Int) ≤ l))
set_option maxRecDepth 100000 in
set_option maxHeartbeats 1600000 in
theorem sz (v : Value) (r : R) (l : Int) (w : World) (h0 : 0 ≤ l) (hl : l ≤ 1048576) (h : Is w v r) (hf : Fine r) :
    Calls Tryd.prog 83 #[v, .int .i64 l] w (Left (wt r) l w) := by
  obtain ⟨s4, rfl, h4⟩ := h
  obtain ⟨a4, cp4, rfl, h4⟩ := h4
  obtain ⟨W0, hW⟩ : ∃ W : World, W = w.alloc (.cells #[.int .i64 r.id, .int .i64 r.kind, .int .i64 r.pos, .int .i64 r.count, .slice a4 r.words.length cp4, .int .i64 r.weight] 99) := ⟨_, rfl⟩
  have hb0 : Below w.heap.size w W0 := by rw [hW]; exact (Below.refl _ _).alloc (Nat.le_refl _) _
  have BX0 := Lib.hid (show Bx W0 w.heap.size 99 #[.int .i64 r.id, .int .i64 r.kind, .int .i64 r.pos, .int .i64 r.count, .slice a4 r.words.length cp4, .int .i64 r.weight] by rw [hW]; exact Bx.new _ _ _)
  have HI4 := Lib.hid (is_ch (r := r) (Bs.Is.below _ ⟨a4, cp4, rfl, h4⟩ hb0))
  clear h4
  have HF := Lib.hid (show LAmendment.Fine (ch r) from hf)
  clear hf
  obtain ⟨t3, ht3⟩ : ∃ t, t = LAmendment.wt (ch r) := ⟨_, rfl⟩
  have HT3 := Lib.hid ht3.symm
  rw [show Left (wt r) l w = Left t3 l w by rw [ht3]; rfl]
  have hbT := hb0
  clear ht3
  go_enter Tryd.func83, Tryd.ntmps83
  go_wp2_with fail
  rw [← hW]
  clear hW hb0
  refine (LAmendment.sz _ (ch r) _ W0 (by omega) (by omega) HI4.out HF.out).mono ?_
  rintro e W1 ⟨hb1, x, rfl, hx⟩
  rw [HT3.out] at hx
  have hz1 := hb1.size
  rcases hx with ⟨hx0, hxl⟩ | ⟨rfl, hxl⟩
  · have hb2 := hbT.trans (hb1.mono hbT.size)
    have HX := Lib.hid hxl
    clear hxl
    go_wp2_with fail
    go_ret
    exact ⟨hb2, -1, rfl, .inl ⟨by omega, by have := HX.out; omega⟩⟩
  replace hbT := hbT.trans (hb1.mono hbT.size)
  clear hb1
  go_wp2_with fail
  go_ret
  exact ⟨hbT, _, rfl, .inr ⟨by omega, by omega⟩⟩
end Go.Proofs.YtclpdpfnlmfogaaDoor.LProposal
namespace Go.Proofs.YtclpdpfnlmfogaaDoor.Word
open Go.RowKit
set_option linter.unusedVariables false
/-- the letters a to z -/
def az (c : UInt8) : Bool := decide (97 ≤ c.toNat) && decide (c.toNat ≤ 122)
def allAz (l : List UInt8) : Bool := l.all az
def isWordB (s : ByteArray) : Bool := (decide (1 ≤ s.size) && decide (s.size ≤ 10)) && allAz s.data.toList
theorem take_snoc (s : ByteArray) (k : Nat) (h : k < s.size) : s.data.toList.take (k + 1) = s.data.toList.take k ++ [s[k]] := by
  rw [List.take_succ_eq_append_getElem (by simpa using h)]; rfl
theorem az_next (s : ByteArray) (k : Nat) (h : k < s.size) (hp : allAz (s.data.toList.take k) = true) (hc : az s[k] = true) : allAz (s.data.toList.take (k + 1)) = true := by
  rw [take_snoc s k h]; unfold allAz at hp ⊢; rw [List.all_append, hp]; simp [hc]
theorem az_bad (s : ByteArray) (k : Nat) (h : k < s.size) (hc : az s[k] = false) : allAz s.data.toList = false := by
  unfold allAz
  rw [List.all_eq_false]
  exact ⟨s[k], Array.getElem_mem_toList _, by simp [hc]⟩
theorem az_all (s : ByteArray) (k : Nat) (h : s.size ≤ k) (hp : allAz (s.data.toList.take k) = true) : allAz s.data.toList = true := by
  rwa [List.take_of_length_le (by simpa using h)] at hp
theorem ret_bool {a b : Bool} (h : a = b) : Ending.returned (.bool a) = .returned (.bool b) := by rw [h]
theorem word_no {s : ByteArray} (h : allAz s.data.toList = false) : isWordB s = false := by unfold isWordB; rw [h, Bool.and_false]
theorem word_len {s : ByteArray} (h : ¬ (1 ≤ s.size ∧ s.size ≤ 10)) : isWordB s = false := by
  unfold isWordB
  have : (decide (1 ≤ s.size) && decide (s.size ≤ 10)) = false := by
    rw [← Bool.decide_and]; exact decide_eq_false h
  rw [this, Bool.false_and]
theorem word_yes {s : ByteArray} (h1 : 1 ≤ s.size) (h2 : s.size ≤ 10) (h : allAz s.data.toList = true) : isWordB s = true := by
  unfold isWordB; rw [h, Bool.and_true, ← Bool.decide_and]; exact decide_eq_true ⟨h1, h2⟩
def inB (x a b : Int) : Bool := decide (a ≤ x ∧ x ≤ b)
theorem inB_yes {x a b : Int} (h : inB x a b = true) : a ≤ x ∧ x ≤ b := of_decide_eq_true h
theorem inB_no {x a b : Int} (h : inB x a b = false) : ¬ (a ≤ x ∧ x ≤ b) := of_decide_eq_false h
theorem inB_mk {x a b : Int} (h1 : a ≤ x) (h2 : x ≤ b) : inB x a b = true := decide_eq_true ⟨h1, h2⟩
theorem inB_not {x a b : Int} (h : ¬ (a ≤ x ∧ x ≤ b)) : inB x a b = false := decide_eq_false h
theorem in_yes (x a b : Int) (w : World) (h1 : a ≤ x) (h2 : x ≤ b) :
    Calls Tryd.prog 93 #[.int .i64 x, .int .i64 a, .int .i64 b] w fun e w' => e = .returned (.bool true) ∧ w = w' := by
  go_enter Tryd.func93, Tryd.ntmps93
  go_wp2
  go_ret
  exact ⟨rfl, rfl⟩
theorem in_no (x a b : Int) (w : World) (h : ¬ (a ≤ x ∧ x ≤ b)) :
    Calls Tryd.prog 93 #[.int .i64 x, .int .i64 a, .int .i64 b] w fun e w' => e = .returned (.bool false) ∧ w = w' := by
  by_cases h1 : a ≤ x
  · have h2 : ¬ x ≤ b := by omega
    go_enter Tryd.func93, Tryd.ntmps93
    go_wp2
    go_ret
    exact ⟨rfl, rfl⟩
  · go_enter Tryd.func93, Tryd.ntmps93
    go_wp2
    go_ret
    exact ⟨rfl, rfl⟩

set_option maxHeartbeats 400000 in
theorem l2Word (s : ByteArray) (w : World) (hs : s.size ≤ maxLen) :
    Calls Tryd.prog 110 #[.string s] w fun e w' => e = .returned (.bool (isWordB s)) ∧ w = w' := by
  unfold maxLen at hs
  go_enter Tryd.func110, Tryd.ntmps110
  go_wp2_with fail
  go_loop [3] (fun i => ∃ k : Nat, k ≤ s.size ∧ i = .int .i64 k ∧ Hid (allAz (s.data.toList.take k) = true)) (fun i => s.size - (intOf i).toNat)
  case atStart => exact ⟨0, Nat.zero_le _, rfl, rfl⟩
  case round =>
    obtain ⟨k, hk, rfl, HA⟩ := hrel
    by_cases hlt : k < s.size
    · by_cases h1 : 97 ≤ s[k].toNat
      · by_cases h2 : s[k].toNat ≤ 122
        · have HN := Lib.hid (az_next s k hlt HA.out (by simp [az, h1, h2]))
          go_wp2_with fail
          go_round
          case rel => exact ⟨k + 1, by omega, by go_num, HN⟩
          case measure => simp [intOf]; omega
        · have HN := Lib.hid (word_no (az_bad s k hlt (by simp [az, h2])))
          go_wp2_with fail
          go_ret
          exact ⟨ret_bool HN.out.symm, rfl⟩
      · have HN := Lib.hid (word_no (az_bad s k hlt (by simp [az, h1])))
        go_wp2_with fail
        go_ret
        exact ⟨ret_bool HN.out.symm, rfl⟩
    · have HN := Lib.hid (az_all s k (by omega) HA.out)
      by_cases hl : 1 ≤ s.size ∧ s.size ≤ 10
      · obtain ⟨g1, g2⟩ := hl
        have HW := Lib.hid (word_yes g1 g2 HN.out)
        go_wp2_with fail
        refine (in_yes _ _ _ _ (by omega) (by omega)).mono ?_
        rintro e w' ⟨rfl, rfl⟩
        go_wp2_with fail
        go_ret
        exact ⟨ret_bool HW.out.symm, rfl⟩
      · have HW := Lib.hid (word_len hl)
        have HL := Lib.hid hl
        clear hl
        go_wp2_with fail
        refine (in_no _ _ _ _ (by have := HL.out; omega)).mono ?_
        rintro e w' ⟨rfl, rfl⟩
        go_wp2_with fail
        go_ret
        exact ⟨ret_bool HW.out.symm, rfl⟩

set_option maxHeartbeats 400000 in
theorem isWord (s : ByteArray) (w : World) (hs : s.size ≤ maxLen) :
    Calls Tryd.prog 122 #[.string s] w fun e w' => e = .returned (.bool (isWordB s)) ∧ w = w' := by
  unfold maxLen at hs
  by_cases hl : 1 ≤ s.size ∧ s.size ≤ 10
  · obtain ⟨g1, g2⟩ := hl
    have g0 : ((s.size : Int) == 0) = false := by rw [beq_eq_false_iff_ne]; omega
    go_enter Tryd.func122, Tryd.ntmps122
    go_wp2_with fail
    go_loop [14] (fun i => ∃ k : Nat, k ≤ s.size ∧ i = .int .i64 k ∧ Hid (allAz (s.data.toList.take k) = true)) (fun i => s.size - (intOf i).toNat)
    case atStart => exact ⟨0, Nat.zero_le _, rfl, rfl⟩
    case round =>
      obtain ⟨k, hk, rfl, HA⟩ := hrel
      by_cases hlt : k < s.size
      · by_cases h1 : 97 ≤ s[k].toNat
        · by_cases h2 : s[k].toNat ≤ 122
          · have HN := Lib.hid (az_next s k hlt HA.out (by simp [az, h1, h2]))
            go_wp2_with fail
            go_round
            case rel => exact ⟨k + 1, by omega, by go_num, HN⟩
            case measure => simp [intOf]; omega
          · have HN := Lib.hid (word_no (az_bad s k hlt (by simp [az, h2])))
            go_wp2_with fail
            go_ret
            exact ⟨ret_bool HN.out.symm, rfl⟩
        · have HN := Lib.hid (word_no (az_bad s k hlt (by simp [az, h1])))
          go_wp2_with fail
          go_ret
          exact ⟨ret_bool HN.out.symm, rfl⟩
      · have HN := Lib.hid (az_all s k (by omega) HA.out)
        have HW := Lib.hid (word_yes g1 g2 HN.out)
        go_wp2_with fail
        go_ret
        exact ⟨ret_bool HW.out.symm, rfl⟩
  · have HW := Lib.hid (word_len hl)
    by_cases hz : s.size = 0
    · have g0 : ((s.size : Int) == 0) = true := by rw [beq_iff_eq]; omega
      clear hl hz
      go_enter Tryd.func122, Tryd.ntmps122
      go_wp2_with fail
      go_ret
      exact ⟨ret_bool HW.out.symm, rfl⟩
    · have g0 : ((s.size : Int) == 0) = false := by rw [beq_eq_false_iff_ne]; omega
      have g1 : 10 < s.size := by omega
      clear hl hz
      go_enter Tryd.func122, Tryd.ntmps122
      go_wp2_with fail
      go_ret
      exact ⟨ret_bool HW.out.symm, rfl⟩

theorem in_as (x a b : Int) (v : Bool) (h : inB x a b = v) (w : World) :
    Calls Tryd.prog 93 #[.int .i64 x, .int .i64 a, .int .i64 b] w fun e w' => e = .returned (.bool v) ∧ w = w' := by
  cases v with
  | true => obtain ⟨h1, h2⟩ := inB_yes h; exact in_yes x a b w h1 h2
  | false => exact in_no x a b w (inB_no h)
theorem word_as (s : ByteArray) (v : Bool) (h : isWordB s = v) (hs : s.size ≤ maxLen) (w : World) :
    Calls Tryd.prog 110 #[.string s] w fun e w' => e = .returned (.bool v) ∧ w = w' := by
  subst h; exact l2Word s w hs
theorem iword_as (s : ByteArray) (v : Bool) (h : isWordB s = v) (hs : s.size ≤ maxLen) (w : World) :
    Calls Tryd.prog 122 #[.string s] w fun e w' => e = .returned (.bool v) ∧ w = w' := by
  subst h; exact isWord s w hs
end Go.Proofs.YtclpdpfnlmfogaaDoor.Word
namespace Go.Proofs.YtclpdpfnlmfogaaDoor.Am
open Go.RowKit Bs Word
set_option linter.unusedVariables false
abbrev M := LAmendment.R
abbrev T := List ByteArray
def wordsB (l : T) (most : Nat) : Bool := decide (l.length ≤ most) && l.all isWordB
def textB (l : T) : Bool := wordsB l 20
/-- kind, number of words struck, words put in -/
def kindB (k c : Int) (n : Nat) : Bool :=
  if k = 1 then decide (c = 0) && decide (0 < n) else if k = 2 then inB c 1 5 && decide (n = 0) else if k = 3 then inB c 1 5 && decide (0 < n) else false
def good (a : M) : Bool := inB a.pos 0 20 && (wordsB a.words 5 && kindB a.kind a.count a.words.length)
theorem words_len {l : T} {m : Nat} (h : wordsB l m = true) : l.length ≤ m := by
  unfold wordsB at h; rw [Bool.and_eq_true] at h; exact of_decide_eq_true h.1
theorem words_all {l : T} {m : Nat} (h : wordsB l m = true) : ∀ x ∈ l, isWordB x = true := by
  unfold wordsB at h; rw [Bool.and_eq_true] at h; exact List.all_eq_true.1 h.2
theorem words_mk {l : T} {m : Nat} (h1 : l.length ≤ m) (h2 : ∀ x ∈ l, isWordB x = true) : wordsB l m = true := by
  unfold wordsB; rw [decide_eq_true h1, List.all_eq_true.2 h2]; rfl
theorem words_long {l : T} {m : Nat} (h : ¬ l.length ≤ m) : wordsB l m = false := by unfold wordsB; rw [decide_eq_false h]; rfl
theorem words_bad {l : T} {m k : Nat} {x : ByteArray} (hx : l[k]? = some x) (h : isWordB x = false) : wordsB l m = false := by
  unfold wordsB
  rw [Bool.and_eq_false_iff]
  refine .inr (List.all_eq_false.2 ⟨x, List.mem_of_getElem? hx, by rw [h]; decide⟩)
theorem words_split {l : T} {m : Nat} (h : wordsB l m = false) (h1 : l.length ≤ m) : ∃ x ∈ l, isWordB x = false := by
  unfold wordsB at h
  rw [decide_eq_true h1, Bool.true_and] at h
  obtain ⟨x, hx, h⟩ := List.all_eq_false.1 h
  exact ⟨x, hx, by simpa using h⟩
/-- all words up to place k -/
def Upto (l : T) (k : Nat) : Prop := ∀ i x, i < k → l[i]? = some x → isWordB x = true
theorem upto_zero (l : T) : Upto l 0 := fun i x h => by omega
theorem upto_next {l : T} {k : Nat} {x : ByteArray} (h : Upto l k) (hx : l[k]? = some x) (hw : isWordB x = true) : Upto l (k + 1) := fun i y hi hy => by
  rcases Nat.lt_or_ge i k with h' | h'
  · exact h i y h' hy
  · obtain rfl : i = k := by omega
    rw [hx] at hy; rw [← Option.some.inj hy]; exact hw
theorem upto_all {l : T} {k m : Nat} (h : Upto l k) (hk : l.length ≤ k) (hm : l.length ≤ m) : wordsB l m = true := words_mk hm fun x hx => by
  obtain ⟨i, hi, rfl⟩ := List.getElem_of_mem hx
  exact h i _ (by omega) (List.getElem?_eq_getElem hi)
theorem words_size {l : T} {m : Nat} (h : wordsB l m = true) : ∀ x ∈ l, x.size ≤ 10 := fun x hx => by
  have := words_all h x hx
  unfold isWordB at this
  rw [Bool.and_eq_true, Bool.and_eq_true] at this
  exact of_decide_eq_true this.1.2
theorem kind_cases {k c : Int} {n : Nat} (h : kindB k c n = true) : (k = 1 ∧ c = 0 ∧ 0 < n) ∨ (k = 2 ∧ (1 ≤ c ∧ c ≤ 5) ∧ n = 0) ∨ (k = 3 ∧ (1 ≤ c ∧ c ≤ 5) ∧ 0 < n) := by
  unfold kindB at h
  split at h
  · rw [Bool.and_eq_true] at h; exact .inl ⟨by assumption, of_decide_eq_true h.1, of_decide_eq_true h.2⟩
  · split at h
    · rw [Bool.and_eq_true] at h; exact .inr (.inl ⟨by assumption, inB_yes h.1, of_decide_eq_true h.2⟩)
    · split at h
      · rw [Bool.and_eq_true] at h; exact .inr (.inr ⟨by assumption, inB_yes h.1, of_decide_eq_true h.2⟩)
      · cases h
theorem good_parts {a : M} (h : good a = true) : (0 ≤ a.pos ∧ a.pos ≤ 20) ∧ wordsB a.words 5 = true ∧ kindB a.kind a.count a.words.length = true ∧ (0 ≤ a.count ∧ a.count ≤ 5) := by
  unfold good at h
  rw [Bool.and_eq_true, Bool.and_eq_true] at h
  refine ⟨inB_yes h.1, h.2.1, h.2.2, ?_⟩
  rcases kind_cases h.2.2 with ⟨_, h0, _⟩ | ⟨_, h0, _⟩ | ⟨_, h0, _⟩
  · omega
  · omega
  · omega
theorem good_lens {a : M} (h : good a = true) : a.words.length ≤ 5 := words_len (good_parts h).2.1
theorem good1 {a : M} (h : inB a.pos 0 20 = false) : good a = false := by unfold good; rw [h]; rfl
theorem good2 {a : M} (h : wordsB a.words 5 = false) : good a = false := by unfold good; rw [h]; simp
theorem good3 {a : M} (h1 : inB a.pos 0 20 = true) (h2 : wordsB a.words 5 = true) : good a = kindB a.kind a.count a.words.length := by unfold good; rw [h1, h2]; simp
theorem good_kind {a : M} (h1 : inB a.pos 0 20 = true) (h : kindB a.kind a.count a.words.length = false) : good a = false := by unfold good; rw [h]; simp
/-- the words that an amendment strikes -/
def cut (t : T) (a : M) : T := (t.drop a.pos.toNat).take a.count.toNat
def fitsN (t : T) (a : M) : Bool := decide (a.pos + a.count ≤ t.length) && decide ((t.length : Int) - a.count + a.words.length ≤ 20)
def fits (t : T) (a : M) : Bool := fitsN t a && !decide (cut t a = a.words)
def apply (t : T) (a : M) : T := t.take a.pos.toNat ++ a.words ++ t.drop (a.pos.toNat + a.count.toNat)
def mkKind (p c : Int) (ws : T) : M := ⟨if c = 0 then 1 else if ws.length = 0 then 2 else 3, p, c, ws⟩
def inverse (t : T) (a : M) : M := mkKind a.pos a.words.length (cut t a)
def zeroM : M := ⟨0, 0, 0, []⟩
theorem fits_parts {t : T} {a : M} (h : fits t a = true) : a.pos + a.count ≤ t.length ∧ (t.length : Int) - a.count + a.words.length ≤ 20 ∧ cut t a ≠ a.words := by
  unfold fits fitsN at h
  rw [Bool.and_eq_true, Bool.and_eq_true] at h
  exact ⟨of_decide_eq_true h.1.1, of_decide_eq_true h.1.2, by simpa using h.2⟩
theorem fits1 {t : T} {a : M} (h : ¬ a.pos + a.count ≤ t.length) : fits t a = false := by unfold fits fitsN; rw [decide_eq_false h]; rfl
theorem fits2 {t : T} {a : M} (h : ¬ (t.length : Int) - a.count + a.words.length ≤ 20) : fits t a = false := by unfold fits fitsN; rw [decide_eq_false h]; simp
theorem fits3 {t : T} {a : M} (h1 : a.pos + a.count ≤ t.length) (h2 : (t.length : Int) - a.count + a.words.length ≤ 20) : fits t a = !decide (cut t a = a.words) := by
  unfold fits fitsN; rw [decide_eq_true h1, decide_eq_true h2]; simp
theorem cut_len {t : T} {a : M} (h0 : 0 ≤ a.pos) (hc : 0 ≤ a.count) (h1 : a.pos + a.count ≤ t.length) : (cut t a).length = a.count.toNat := by
  unfold cut; rw [List.length_take, List.length_drop]; omega
theorem apply_len {t : T} {a : M} (h0 : 0 ≤ a.pos) (hc : 0 ≤ a.count) (h1 : a.pos + a.count ≤ t.length) : ((apply t a).length : Int) = t.length - a.count + a.words.length := by
  unfold apply; rw [List.length_append, List.length_append, List.length_take, List.length_drop]; omega
/-- the text made by an amendment that fits is a text -/
theorem apply_text {t : T} {a : M} (ht : textB t = true) (ha : good a = true) (h : fits t a = true) : textB (apply t a) = true := by
  obtain ⟨h1, h2, _⟩ := fits_parts h
  obtain ⟨hp, hw, _, hc⟩ := good_parts ha
  refine words_mk (by have := apply_len hp.1 hc.1 h1; omega) fun x hx => ?_
  unfold apply at hx
  rcases List.mem_append.1 hx with hx | hx
  · rcases List.mem_append.1 hx with hx | hx
    · exact words_all ht x (List.mem_of_mem_take hx)
    · exact words_all hw x hx
  · exact words_all ht x (List.mem_of_mem_drop hx)
theorem cut_words {t : T} {a : M} (ht : textB t = true) : ∀ x ∈ cut t a, isWordB x = true := fun x hx => words_all ht x (List.mem_of_mem_drop (List.mem_of_mem_take hx))
theorem kind_mk {c : Int} {n : Nat} (h0 : 0 ≤ c) (h5 : c ≤ 5) (hn : n ≤ 5) (h : c ≠ 0 ∨ n ≠ 0) : kindB (if c = 0 then 1 else if n = 0 then 2 else 3) c n = true := by
  unfold kindB
  by_cases hc : c = 0
  · subst hc
    simp
    omega
  · rw [if_neg hc]
    by_cases hz : n = 0
    · subst hz
      simp [inB]
      omega
    · rw [if_neg hz]
      simp [inB]
      omega
theorem mk_good {p c : Int} {ws : T} (hp : 0 ≤ p ∧ p ≤ 20) (hw : wordsB ws 5 = true) (h0 : 0 ≤ c) (h5 : c ≤ 5) (h : c ≠ 0 ∨ ws.length ≠ 0) : good (mkKind p c ws) = true := by
  unfold good mkKind
  rw [Bool.and_eq_true, Bool.and_eq_true]
  exact ⟨inB_mk hp.1 hp.2, hw, kind_mk h0 h5 (words_len hw) h⟩
theorem mk_self {a : M} (h : good a = true) : mkKind a.pos a.count a.words = a := by
  obtain ⟨k, p, c, ws⟩ := a
  have hk := kind_cases (good_parts h).2.2.1
  unfold mkKind
  simp only [LAmendment.R.mk.injEq, and_true]
  rcases hk with ⟨h1, h2, h3⟩ | ⟨h1, h2, h3⟩ | ⟨h1, h2, h3⟩
  · simp only at h1 h2; rw [if_pos h2]; exact h1.symm
  · simp only at h1 h2 h3; rw [if_neg (by omega), if_pos h3]; exact h1.symm
  · simp only at h1 h2 h3; rw [if_neg (by omega), if_neg (by omega)]; exact h1.symm
/-- the inverse is valid -/
theorem inverse_good {t : T} {a : M} (ht : textB t = true) (ha : good a = true) (h : fits t a = true) : good (inverse t a) = true := by
  obtain ⟨h1, h2, _⟩ := fits_parts h
  obtain ⟨hp, hw, hk, hc⟩ := good_parts ha
  have hl := cut_len hp.1 hc.1 h1
  have hwl := words_len hw
  refine mk_good hp (words_mk (by omega) (cut_words ht)) (by omega) (by omega) ?_
  rcases kind_cases hk with ⟨_, h4, h5⟩ | ⟨_, h4, h5⟩ | ⟨_, h4, h5⟩
  · left; omega
  · right; omega
  · left; omega
/-- the inverse fits the amended text and leads back -/
theorem inverse_cut {t : T} {a : M} (hp : 0 ≤ a.pos) (hc : 0 ≤ a.count) (h1 : a.pos + a.count ≤ t.length) : cut (apply t a) (inverse t a) = a.words := by
  have hl : (t.take a.pos.toNat).length = a.pos.toNat := by rw [List.length_take]; omega
  unfold cut apply inverse mkKind
  simp only [Int.toNat_natCast]
  rw [List.append_assoc, List.drop_append_of_le_length (by omega), List.drop_of_length_le (by omega), List.nil_append, List.take_append_of_le_length (Nat.le_refl _), List.take_of_length_le (Nat.le_refl _)]
theorem inverse_back {t : T} {a : M} (hp : 0 ≤ a.pos) (hc : 0 ≤ a.count) (h1 : a.pos + a.count ≤ t.length) : apply (apply t a) (inverse t a) = t := by
  have hl : (t.take a.pos.toNat).length = a.pos.toNat := by rw [List.length_take]; omega
  have hl2 : (t.take a.pos.toNat ++ a.words).length = a.pos.toNat + a.words.length := by rw [List.length_append]; omega
  have e1 : (apply t a).take a.pos.toNat = t.take a.pos.toNat := by unfold apply; rw [List.append_assoc]; exact List.take_left' hl
  have e2 : (apply t a).drop (a.pos.toNat + a.words.length) = t.drop (a.pos.toNat + a.count.toNat) := List.drop_left' hl2
  show (apply t a).take a.pos.toNat ++ cut t a ++ (apply t a).drop (a.pos.toNat + (a.words.length : Int).toNat) = t
  rw [Int.toNat_natCast, e1, e2]
  unfold cut
  rw [← List.drop_drop, List.append_assoc, List.take_append_drop, List.take_append_drop]
theorem inverse_fits {t : T} {a : M} (ht : textB t = true) (ha : good a = true) (h : fits t a = true) : fits (apply t a) (inverse t a) = true := by
  obtain ⟨h1, h2, h3⟩ := fits_parts h
  obtain ⟨hp, hw, hk, hc⟩ := good_parts ha
  have hl := apply_len hp.1 hc.1 h1
  have hlc := cut_len hp.1 hc.1 h1
  have htl := words_len ht
  have e : cut (apply t a) (inverse t a) = a.words := inverse_cut hp.1 hc.1 h1
  rw [fits3]
  · rw [e]
    simp only [Bool.not_eq_true', decide_eq_false_iff_not]
    exact fun h => h3 h.symm
  · show a.pos + (a.words.length : Int) ≤ _
    omega
  · show _ - (a.words.length : Int) + ((cut t a).length : Int) ≤ 20
    omega
end Go.Proofs.YtclpdpfnlmfogaaDoor.Am
namespace Go.Proofs.YtclpdpfnlmfogaaDoor.Cf
open Go.RowKit Bs Word Am
set_option linter.unusedVariables false
abbrev P := LProposal.R
abbrev ch := LProposal.ch
def mostI (a b : Int) : Int := if b < a then a else b
def leastI (a b : Int) : Int := if a < b then a else b
def insB (a : M) : Bool := decide (0 < a.words.length)
def insideB (p : Int) (a : M) : Bool := decide (a.pos < p) && decide (p < a.pos + a.count)
def overB (a b : M) : Bool := decide (mostI a.pos b.pos < leastI (a.pos + a.count) (b.pos + b.count))
def confB (a b : M) : Bool := overB a b || ((insB a && insideB a.pos b || insB b && insideB b.pos a) || (insB a && insB b && decide (a.pos = b.pos)))
def progB (a b : M) : Bool :=
  if a.pos = b.pos then (decide (0 < a.count) && decide (0 < b.count)) || (decide (0 < a.words.length) && decide (0 < b.words.length))
  else if b.pos < a.pos then decide (a.pos < b.pos + b.count) else decide (b.pos < a.pos + a.count)
theorem good_shape {a : M} (h : good a = true) : (a.count = 0 ∧ 0 < a.words.length) ∨ (1 ≤ a.count ∧ a.words.length = 0) ∨ (1 ≤ a.count ∧ 0 < a.words.length) := by
  rcases kind_cases (good_parts h).2.2.1 with ⟨_, h1, h2⟩ | ⟨_, h1, h2⟩ | ⟨_, h1, h2⟩
  · exact .inl ⟨h1, h2⟩
  · exact .inr (.inl ⟨h1.1, h2⟩)
  · exact .inr (.inr ⟨h1.1, h2⟩)
theorem conf_iff (a b : M) : confB a b = true ↔ (mostI a.pos b.pos < leastI (a.pos + a.count) (b.pos + b.count) ∨ (0 < a.words.length ∧ b.pos < a.pos ∧ a.pos < b.pos + b.count) ∨ (0 < b.words.length ∧ a.pos < b.pos ∧ b.pos < a.pos + a.count) ∨ (0 < a.words.length ∧ 0 < b.words.length ∧ a.pos = b.pos)) := by
  unfold confB overB insB insideB
  simp only [Bool.or_eq_true, Bool.and_eq_true, decide_eq_true_eq]
  constructor
  · rintro (h | (⟨h1, h2, h3⟩ | ⟨h1, h2, h3⟩) | ⟨⟨h1, h2⟩, h3⟩)
    · exact .inl h
    · exact .inr (.inl ⟨h1, h2, h3⟩)
    · exact .inr (.inr (.inl ⟨h1, h2, h3⟩))
    · exact .inr (.inr (.inr ⟨h1, h2, h3⟩))
  · rintro (h | ⟨h1, h2, h3⟩ | ⟨h1, h2, h3⟩ | ⟨h1, h2, h3⟩)
    · exact .inl h
    · exact .inr (.inl (.inl ⟨h1, h2, h3⟩))
    · exact .inr (.inl (.inr ⟨h1, h2, h3⟩))
    · exact .inr (.inr ⟨⟨h1, h2⟩, h3⟩)
theorem prog_iff (a b : M) : progB a b = true ↔ (a.pos = b.pos ∧ ((0 < a.count ∧ 0 < b.count) ∨ (0 < a.words.length ∧ 0 < b.words.length))) ∨ (b.pos < a.pos ∧ a.pos < b.pos + b.count) ∨ (a.pos < b.pos ∧ b.pos < a.pos + a.count) := by
  unfold progB
  split
  · simp only [Bool.or_eq_true, Bool.and_eq_true, decide_eq_true_eq]; omega
  · split
    · simp only [decide_eq_true_eq]; omega
    · simp only [decide_eq_true_eq]; omega
/-- the program's test and the model's, at valid amendments -/
theorem conf_prog {a b : M} (ha : good a = true) (hb : good b = true) : progB a b = confB a b := by
  rw [Bool.eq_iff_iff, prog_iff, conf_iff]
  unfold mostI leastI
  rcases good_shape ha with h1 | h1 | h1 <;> rcases good_shape hb with h2 | h2 | h2 <;> (split <;> split <;> omega)
theorem prog_symm (a b : M) : progB a b = progB b a := by
  rw [Bool.eq_iff_iff, prog_iff, prog_iff]; omega
theorem conf_symm {a b : M} (ha : good a = true) (hb : good b = true) : confB a b = confB b a := by rw [← conf_prog ha hb, prog_symm, conf_prog hb ha]
theorem conf_over {a b : M} (h : overB a b = true) : confB a b = true := by unfold confB; rw [h]; rfl
theorem conf_in {a b : M} (h0 : overB a b = false) (h : (insB a && insideB a.pos b || insB b && insideB b.pos a) = true) : confB a b = true := by unfold confB; rw [h0, h]; rfl
theorem conf_last {a b : M} (h0 : overB a b = false) (h : (insB a && insideB a.pos b || insB b && insideB b.pos a) = false) : confB a b = (insB a && insB b && decide (a.pos = b.pos)) := by unfold confB; rw [h0, h]; rfl
/-- a list of proposals for a text -/
def okP (t : T) (p : P) : Bool := inB p.id 1 99 && (inB p.weight 1 100 && (good (ch p) && fits t (ch p)))
def listB (t : T) : Int → List P → Bool
  | _, [] => true
  | b, x :: xs => (okP t x && decide (b < x.id)) && listB t x.id xs
def propsB (t : T) (l : List P) : Bool := (textB t && decide (l.length ≤ 8)) && listB t 0 l
def prevId (l : List P) (k : Nat) : Int := if k = 0 then 0 else ((l[k - 1]?).map (·.id)).getD 0
theorem prev_zero (l : List P) : prevId l 0 = 0 := rfl
theorem prev_next {l : List P} {k : Nat} {x : P} (h : l[k]? = some x) : prevId l (k + 1) = x.id := by
  unfold prevId; rw [if_neg (by omega), Nat.add_sub_cancel, h]; rfl
/-- what is left to be tested at place k -/
def LeftP (t : T) (l : List P) (k : Nat) : Prop := listB t 0 l = listB t (prevId l k) (l.drop k)
theorem left_zero (t : T) (l : List P) : LeftP t l 0 := by unfold LeftP; rw [prev_zero]; rfl
theorem left_here {t : T} {l : List P} {k : Nat} {x : P} (h : LeftP t l k) (hx : l[k]? = some x) : listB t 0 l = ((okP t x && decide (prevId l k < x.id)) && listB t x.id (l.drop (k + 1))) := by
  have hk : k < l.length := (List.getElem?_eq_some_iff.1 hx).1
  rw [List.getElem?_eq_getElem hk] at hx
  unfold LeftP at h
  rw [h, List.drop_eq_getElem_cons hk, Option.some.inj hx]
  rfl
theorem left_next {t : T} {l : List P} {k : Nat} {x : P} (h : LeftP t l k) (hx : l[k]? = some x) (h1 : okP t x = true) (h2 : prevId l k < x.id) : LeftP t l (k + 1) := by
  unfold LeftP
  rw [left_here h hx, h1, decide_eq_true h2, prev_next hx]
  rfl
theorem left_bad {t : T} {l : List P} {k : Nat} {x : P} (h : LeftP t l k) (hx : l[k]? = some x) (h1 : okP t x = false) : listB t 0 l = false := by rw [left_here h hx, h1]; rfl
theorem left_bad2 {t : T} {l : List P} {k : Nat} {x : P} (h : LeftP t l k) (hx : l[k]? = some x) (h2 : ¬ prevId l k < x.id) : listB t 0 l = false := by rw [left_here h hx, decide_eq_false h2, Bool.and_false]; rfl
theorem left_end {t : T} {l : List P} {k : Nat} (h : LeftP t l k) (hk : l.length ≤ k) : listB t 0 l = true := by
  unfold LeftP at h; rw [h, List.drop_of_length_le hk]; rfl
theorem ok1 {t : T} {p : P} (h : inB p.id 1 99 = false) : okP t p = false := by unfold okP; rw [h]; rfl
theorem ok2 {t : T} {p : P} (h : inB p.weight 1 100 = false) : okP t p = false := by unfold okP; rw [h]; simp
theorem ok3 {t : T} {p : P} (h : good (ch p) = false) : okP t p = false := by unfold okP; rw [h]; simp
theorem ok4 {t : T} {p : P} (h : fits t (ch p) = false) : okP t p = false := by unfold okP; rw [h]; simp
theorem ok5 {t : T} {p : P} (h1 : inB p.id 1 99 = true) (h2 : inB p.weight 1 100 = true) (h3 : good (ch p) = true) (h4 : fits t (ch p) = true) : okP t p = true := by unfold okP; rw [h1, h2, h3, h4]; rfl
theorem ok_parts {t : T} {p : P} (h : okP t p = true) : inB p.id 1 99 = true ∧ inB p.weight 1 100 = true ∧ good (ch p) = true ∧ fits t (ch p) = true := by
  unfold okP at h; simp only [Bool.and_eq_true] at h; exact ⟨h.1, h.2.1, h.2.2.1, h.2.2.2⟩
theorem prev_pos {t : T} {l : List P} {k : Nat} (h : ∀ i x, i < k → l[i]? = some x → okP t x = true) (hk : k ≤ l.length) (hk0 : 0 < k) : 1 ≤ prevId l k := by
  obtain ⟨m, rfl⟩ : ∃ m, k = m + 1 := ⟨k - 1, by omega⟩
  have hm := List.getElem?_eq_getElem (show m < l.length by omega)
  rw [prev_next hm]
  exact (inB_yes (ok_parts (h m _ (by omega) hm)).1).1
theorem list_all : ∀ {t : T} {l : List P} {b : Int}, listB t b l = true → ∀ x ∈ l, okP t x = true
  | t, [], b, _, x, hx => by cases hx
  | t, y :: ys, b, h, x, hx => by
    unfold listB at h
    rw [Bool.and_eq_true, Bool.and_eq_true] at h
    rcases List.mem_cons.1 hx with rfl | hx
    · exact h.1.1
    · exact list_all h.2 x hx
theorem list_above : ∀ {t : T} {l : List P} {b : Int}, listB t b l = true → ∀ x ∈ l, b < x.id
  | t, [], b, _, x, hx => by cases hx
  | t, y :: ys, b, h, x, hx => by
    unfold listB at h
    rw [Bool.and_eq_true, Bool.and_eq_true] at h
    have hy := of_decide_eq_true h.1.2
    rcases List.mem_cons.1 hx with rfl | hx
    · exact hy
    · have := list_above h.2 x hx; omega
theorem list_asc : ∀ {t : T} {l : List P} {b : Int}, listB t b l = true → l.Pairwise (fun x y => x.id < y.id)
  | t, [], b, _ => List.Pairwise.nil
  | t, y :: ys, b, h => by
    unfold listB at h
    rw [Bool.and_eq_true, Bool.and_eq_true] at h
    exact List.Pairwise.cons (fun x hx => list_above h.2 x hx) (list_asc h.2)
theorem props_parts {t : T} {l : List P} (h : propsB t l = true) : textB t = true ∧ l.length ≤ 8 ∧ listB t 0 l = true := by
  unfold propsB at h; rw [Bool.and_eq_true, Bool.and_eq_true] at h; exact ⟨h.1.1, of_decide_eq_true h.1.2, h.2⟩
theorem props_mk {t : T} {l : List P} (h1 : textB t = true) (h2 : l.length ≤ 8) : propsB t l = listB t 0 l := by unfold propsB; rw [h1, decide_eq_true h2]; rfl
theorem props1 {t : T} {l : List P} (h1 : textB t = false) : propsB t l = false := by unfold propsB; rw [h1]; rfl
theorem props2 {t : T} {l : List P} (h2 : ¬ l.length ≤ 8) : propsB t l = false := by unfold propsB; rw [decide_eq_false h2]; simp
theorem props_all {t : T} {l : List P} (h : propsB t l = true) : ∀ x ∈ l, okP t x = true := list_all (props_parts h).2.2
theorem props_good {t : T} {l : List P} (h : propsB t l = true) : ∀ x ∈ l, good (ch x) = true := fun x hx => (ok_parts (props_all h x hx)).2.2.1
theorem fine_ch {p : P} (h : LProposal.Fine p) : LAmendment.Fine (ch p) := h
end Go.Proofs.YtclpdpfnlmfogaaDoor.Cf
namespace Go.Proofs.YtclpdpfnlmfogaaDoor.AmA
open Go.RowKit Bs Word Am
set_option linter.unusedVariables false
set_option maxRecDepth 100000 in
set_option maxHeartbeats 1600000 in
theorem l9Words (v : Value) (l : T) (m : Nat) (w : World) (h0 : Is LString.rec w v l) (f0 : ∀ x ∈ l, LString.Fine x) (hm : m ≤ 1000) :
    Calls Tryd.prog 94 #[v, .int .i64 m] w fun e w' => e = .returned (.bool (wordsB l m)) ∧ w = w' := by
  obtain ⟨a, cp, rfl, h0⟩ := h0
  have hc := h0.at_ LString.rec
  obtain ⟨n, hn⟩ : ∃ n, n = l.length := ⟨_, rfl⟩
  have hnb : n ≤ cp := by have := h0.1; omega
  have h2 := h0.2.1
  unfold maxLen at h2
  have HN := Lib.hid hn.symm
  have HF := Lib.hid f0
  rw [← hn]
  have hle : n ≤ l.length := by omega
  clear hn h0 f0
  have HNl := Lib.hid (fun h : ¬ n ≤ m => words_long (l := l) (m := m) (by have := HN.out; omega))
  go_enter Tryd.func94, Tryd.ntmps94
  go_wp2_with fail
  go_loop [5] (fun i => ∃ k : Nat, k ≤ n ∧ k ≤ m + 1 ∧ i = .int .i64 k ∧ Hid (Upto l k)) (fun i => n - (intOf i).toNat)
  case atStart => exact ⟨0, Nat.zero_le _, Nat.zero_le _, rfl, Lib.hid (upto_zero l)⟩
  case round =>
    obtain ⟨k, hk, hkm, rfl, HU⟩ := hrel
    by_cases hlt : k < n
    · by_cases hm2 : k ≤ m
      · have hx : k < l.length := by omega
        obtain ⟨b, o, rfl, hbl, hcell⟩ := hc.out k l[k] (List.getElem?_eq_getElem hx)
        have q0 := LString.cells hcell
        simp only [LString.rec_n, Nat.mul_one] at q0
        have HX := Lib.hid (List.getElem?_eq_getElem hx)
        have HW := Lib.hid (Word.l2Word l[k] w (HF.out _ (List.getElem_mem hx)))
        clear hcell
        generalize l[k] = X at *
        have k0 : 0 ≤ (k : Int) := by omega
        have k1 : (k : Int) < (n : Int) := by omega
        go_wp2_with fail
        refine HW.out.mono ?_
        rintro e _ ⟨rfl, rfl⟩
        cases hw : isWordB X with
        | true =>
          have HU2 := Lib.hid (upto_next HU.out HX.out hw)
          go_wp2_with fail
          go_round
          case rel => exact ⟨k + 1, by omega, by omega, by go_num, HU2⟩
          case measure => simp [intOf]; omega
        | false =>
          have HB := Lib.hid (words_bad (m := m) HX.out hw)
          go_wp2_with fail
          go_ret
          exact ⟨ret_bool HB.out.symm, rfl⟩
      · have HB := Lib.hid (HNl.out (by omega))
        have c1 : ¬ n ≤ m := by omega
        go_wp2_with fail
        go_ret
        exact ⟨ret_bool (by rw [HB.out]), rfl⟩
    · have HB := Lib.hid (fun h : n ≤ m => upto_all (m := m) HU.out (by have := HN.out; omega) (by have := HN.out; omega))
      have HD := Lib.hid (show wordsB l m = decide (n ≤ m) by
        by_cases h : n ≤ m
        · rw [HB.out h, decide_eq_true h]
        · rw [HNl.out h, decide_eq_false h])
      go_wp2_with fail
      go_ret
      exact ⟨ret_bool (by rw [HD.out]), rfl⟩
theorem l9Text (v : Value) (l : T) (w : World) (h0 : Is LString.rec w v l) (f0 : ∀ x ∈ l, LString.Fine x) :
    Calls Tryd.prog 73 #[v] w fun e w' => e = .returned (.bool (textB l)) ∧ w = w' := by
  have HC := Lib.hid (l9Words v l 20 w h0 f0 (by decide))
  clear h0 f0
  go_enter Tryd.func73, Tryd.ntmps73
  go_wp2_with fail
  refine HC.out.mono ?_
  rintro e _ ⟨rfl, rfl⟩
  go_wp2_with fail
  go_ret
  exact ⟨rfl, rfl⟩
def rangeB (l : T) (lo hi : Nat) : Bool := decide (lo ≤ l.length) && wordsB l hi
theorem range_long {l : T} {lo hi : Nat} (h : ¬ (lo ≤ l.length ∧ l.length ≤ hi)) : rangeB l lo hi = false := by
  unfold rangeB
  by_cases h1 : lo ≤ l.length
  · rw [words_long (fun h2 => h ⟨h1, h2⟩)]; simp
  · rw [decide_eq_false h1]; rfl
theorem range_in {l : T} {lo hi : Nat} (h : lo ≤ l.length) : rangeB l lo hi = wordsB l hi := by unfold rangeB; rw [decide_eq_true h]; rfl
set_option maxRecDepth 100000 in
set_option maxHeartbeats 1600000 in
theorem areWords (v : Value) (l : T) (lo hi : Nat) (w : World) (h0 : Is LString.rec w v l) (f0 : ∀ x ∈ l, LString.Fine x) (hlo : lo ≤ 1000) (hm : hi ≤ 1000) :
    Calls Tryd.prog 102 #[v, .int .i64 lo, .int .i64 hi] w fun e w' => e = .returned (.bool (rangeB l lo hi)) ∧ w = w' := by
  obtain ⟨a, cp, rfl, h0⟩ := h0
  have hc := h0.at_ LString.rec
  obtain ⟨n, hn⟩ : ∃ n, n = l.length := ⟨_, rfl⟩
  have hnb : n ≤ cp := by have := h0.1; omega
  have h2 := h0.2.1
  unfold maxLen at h2
  have HN := Lib.hid hn.symm
  have HF := Lib.hid f0
  rw [← hn]
  have hle : n ≤ l.length := by omega
  clear hn h0 f0
  by_cases c1 : n < lo
  · have HB := Lib.hid (range_long (l := l) (lo := lo) (hi := hi) (by have := HN.out; omega))
    go_enter Tryd.func102, Tryd.ntmps102
    go_wp2_with fail
    go_ret
    exact ⟨ret_bool HB.out.symm, rfl⟩
  by_cases c2 : hi < n
  · have HB := Lib.hid (range_long (l := l) (lo := lo) (hi := hi) (by have := HN.out; omega))
    go_enter Tryd.func102, Tryd.ntmps102
    go_wp2_with fail
    go_ret
    exact ⟨ret_bool HB.out.symm, rfl⟩
  have HR := Lib.hid (range_in (l := l) (lo := lo) (hi := hi) (by have := HN.out; omega))
  go_enter Tryd.func102, Tryd.ntmps102
  go_wp2_with fail
  go_loop [21] (fun i => ∃ k : Nat, k ≤ n ∧ i = .int .i64 k ∧ Hid (Upto l k)) (fun i => n - (intOf i).toNat)
  case atStart => exact ⟨0, Nat.zero_le _, rfl, Lib.hid (upto_zero l)⟩
  case round =>
    obtain ⟨k, hk, rfl, HU⟩ := hrel
    by_cases hlt : k < n
    · have hx : k < l.length := by omega
      obtain ⟨b, o, rfl, hbl, hcell⟩ := hc.out k l[k] (List.getElem?_eq_getElem hx)
      have q0 := LString.cells hcell
      simp only [LString.rec_n, Nat.mul_one] at q0
      have HX := Lib.hid (List.getElem?_eq_getElem hx)
      have HW := Lib.hid (Word.isWord l[k] w (HF.out _ (List.getElem_mem hx)))
      clear hcell
      generalize l[k] = X at *
      have k0 : 0 ≤ (k : Int) := by omega
      have k1 : (k : Int) < (n : Int) := by omega
      go_wp2_with fail
      refine HW.out.mono ?_
      rintro e _ ⟨rfl, rfl⟩
      cases hw : isWordB X with
      | true =>
        have HU2 := Lib.hid (upto_next HU.out HX.out hw)
        go_wp2_with fail
        go_round
        case rel => exact ⟨k + 1, by omega, by go_num, HU2⟩
        case measure => simp [intOf]; omega
      | false =>
        have HB := Lib.hid (words_bad (m := hi) HX.out hw)
        go_wp2_with fail
        go_ret
        exact ⟨ret_bool (HR.out.trans HB.out).symm, rfl⟩
    · have HB := Lib.hid (upto_all (m := hi) HU.out (by have := HN.out; omega) (by have := HN.out; omega))
      go_wp2_with fail
      go_ret
      exact ⟨ret_bool (HR.out.trans HB.out).symm, rfl⟩
theorem isText (v : Value) (l : T) (w : World) (h0 : Is LString.rec w v l) (f0 : ∀ x ∈ l, LString.Fine x) :
    Calls Tryd.prog 70 #[v] w fun e w' => e = .returned (.bool (textB l)) ∧ w = w' := by
  have HC := Lib.hid (areWords v l 0 20 w h0 f0 (by decide) (by decide))
  have HR := Lib.hid (show rangeB l 0 20 = textB l from range_in (Nat.zero_le _))
  clear h0 f0
  go_enter Tryd.func70, Tryd.ntmps70
  go_wp2_with fail
  refine HC.out.mono ?_
  rintro e _ ⟨rfl, rfl⟩
  go_wp2_with fail
  go_ret
  exact ⟨ret_bool HR.out, rfl⟩
theorem isPhrase (v : Value) (l : T) (w : World) (h0 : Is LString.rec w v l) (f0 : ∀ x ∈ l, LString.Fine x) :
    Calls Tryd.prog 92 #[v] w fun e w' => e = .returned (.bool (rangeB l 1 5)) ∧ w = w' := by
  have HC := Lib.hid (areWords v l 1 5 w h0 f0 (by decide) (by decide))
  clear h0 f0
  go_enter Tryd.func92, Tryd.ntmps92
  go_wp2_with fail
  refine HC.out.mono ?_
  rintro e _ ⟨rfl, rfl⟩
  go_wp2_with fail
  go_ret
  exact ⟨rfl, rfl⟩
end Go.Proofs.YtclpdpfnlmfogaaDoor.AmA
namespace Go.Proofs.YtclpdpfnlmfogaaDoor.AmG
open Go.RowKit Bs Word Am AmA
set_option linter.unusedVariables false
theorem open_is {w : World} {v : Value} {r : M} (h : LAmendment.Is w v r) : ∃ (a3 : Option Addr) (n3 c3 : Nat), v = .agg #[.int .i64 r.kind, .int .i64 r.pos, .int .i64 r.count, .slice a3 n3 c3] ∧ Hid (r.words.length = n3) ∧ n3 ≤ c3 ∧ c3 ≤ 9223372036854775807 ∧ Hid (Bs.Is LString.rec w (.slice a3 n3 c3) r.words) := by
  obtain ⟨s3, rfl, a, c, rfl, h⟩ := h
  have h2 := h.2.1
  unfold maxLen at h2
  exact ⟨a, _, c, rfl, rfl, h.1, h2, ⟨_, _, rfl, h⟩⟩
theorem kind1 {c : Int} {n : Nat} : kindB 1 c n = (decide (c = 0) && decide (0 < n)) := rfl
theorem kind2 {c : Int} {n : Nat} : kindB 2 c n = (inB c 1 5 && decide (n = 0)) := rfl
theorem kind3 {c : Int} {n : Nat} : kindB 3 c n = (inB c 1 5 && decide (0 < n)) := rfl
theorem kind0 {k c : Int} {n : Nat} (h1 : k ≠ 1) (h2 : k ≠ 2) (h3 : k ≠ 3) : kindB k c n = false := by unfold kindB; rw [if_neg h1, if_neg h2, if_neg h3]
set_option maxRecDepth 100000 in
set_option maxHeartbeats 1600000 in
theorem l9Good (v0 : Value) (r : M) (w : World) (h0 : LAmendment.Is w v0 r) (f0 : LAmendment.Fine r) :
    Calls Tryd.prog 55 #[v0] w fun e w' => e = .returned (.bool (good r)) ∧ Below w.heap.size w w' := by
  obtain ⟨a3, n3, c3, rfl, HN3, hb3, hm3, HIW0⟩ := open_is h0
  clear h0
  obtain ⟨W, hW⟩ : ∃ W : World, W = w.alloc (Obj.cells #[.int .i64 r.kind, .int .i64 r.pos, .int .i64 r.count, .slice a3 n3 c3] 26) := ⟨_, rfl⟩
  have hb : Below w.heap.size w W := by rw [hW]; exact (Below.refl _ _).alloc (Nat.le_refl _) _
  have B0 := Lib.hid (show Bx W w.heap.size 26 #[.int .i64 r.kind, .int .i64 r.pos, .int .i64 r.count, .slice a3 n3 c3] by rw [hW]; exact Bx.new _ _ _)
  have HC := Lib.hid (l9Words _ r.words 5 W (Bs.Is.below _ HIW0.out hb) f0 (by decide))
  have q0 := B0.out.cell 0
  have q1 := B0.out.cell 1
  have q2 := B0.out.cell 2
  have q3 := B0.out.cell 3
  simp only [List.getElem?_toArray, List.getElem?_cons_zero, List.getElem?_cons_succ] at q0 q1 q2 q3
  cases g1 : inB r.pos 0 20 with
  | false =>
    have HG := Lib.hid (good1 g1)
    have HL := Lib.hid (inB_no g1)
    clear g1
    go_enter Tryd.func55, Tryd.ntmps55
    go_wp2_with fail
    rw [← hW]
    clear hW
    refine (in_no _ _ _ _ HL.out).mono ?_
    rintro e _ ⟨rfl, rfl⟩
    go_wp2_with fail
    go_ret
    exact ⟨ret_bool HG.out.symm, hb⟩
  | true =>
  obtain ⟨p1, p2⟩ := inB_yes g1
  cases g2 : wordsB r.words 5 with
  | false =>
    have HG := Lib.hid (good2 g2)
    rw [g2] at HC
    clear g1 g2
    go_enter Tryd.func55, Tryd.ntmps55
    go_wp2_with fail
    rw [← hW]
    clear hW
    refine (in_yes _ _ _ _ p1 p2).mono ?_
    rintro e _ ⟨rfl, rfl⟩
    go_wp2_with fail
    refine HC.out.mono ?_
    rintro e _ ⟨rfl, rfl⟩
    go_wp2_with fail
    go_ret
    exact ⟨ret_bool HG.out.symm, hb⟩
  | true =>
  have HG := Lib.hid (show good r = kindB r.kind r.count n3 by rw [good3 g1 g2, HN3.out])
  rw [g2] at HC
  clear g1 g2
  go_enter Tryd.func55, Tryd.ntmps55
  go_wp2_with fail
  rw [← hW]
  clear hW
  refine (in_yes _ _ _ _ p1 p2).mono ?_
  rintro e _ ⟨rfl, rfl⟩
  go_wp2_with fail
  refine HC.out.mono ?_
  rintro e _ ⟨rfl, rfl⟩
  by_cases k1 : r.kind = 1
  · have HK := Lib.hid (show good r = (decide (r.count = 0) && decide (0 < n3)) by rw [HG.out, k1]; rfl)
    have e1 : (r.kind == 1) = true := by simp [k1]
    clear k1
    by_cases d0 : r.count = 0
    · have HK2 := Lib.hid (show good r = decide (0 < n3) by rw [HK.out, decide_eq_true d0]; rfl)
      have e2 : (r.count == 0) = true := by simp [d0]
      clear d0
      go_wp2_with fail
      go_ret
      exact ⟨ret_bool HK2.out.symm, hb⟩
    · have HK2 := Lib.hid (show good r = false by rw [HK.out, decide_eq_false d0]; rfl)
      have e2 : (r.count == 0) = false := by simp [d0]
      clear d0
      go_wp2_with fail
      go_ret
      exact ⟨ret_bool HK2.out.symm, hb⟩
  have e1 : (r.kind == 1) = false := by simp [k1]
  by_cases k2 : r.kind = 2
  · have HK := Lib.hid (show good r = (inB r.count 1 5 && decide (n3 = 0)) by rw [HG.out, k2]; rfl)
    have e2 : (r.kind == 2) = true := by simp [k2]
    clear k1 k2
    go_wp2_with fail
    cases g3 : inB r.count 1 5 with
    | false =>
      have HK2 := Lib.hid (show good r = false by rw [HK.out, g3]; rfl)
      refine (in_no _ _ _ _ (inB_no g3)).mono ?_
      rintro e _ ⟨rfl, rfl⟩
      go_wp2_with fail
      go_ret
      exact ⟨ret_bool HK2.out.symm, hb⟩
    | true =>
      have HK2 := Lib.hid (show good r = decide (n3 = 0) by rw [HK.out, g3]; rfl)
      refine (in_yes _ _ _ _ (inB_yes g3).1 (inB_yes g3).2).mono ?_
      rintro e _ ⟨rfl, rfl⟩
      clear g3
      by_cases z : n3 = 0
      · have e3 : ((n3 : Int) == 0) = true := by simp [z]
        have HK3 := Lib.hid (show good r = true by rw [HK2.out, decide_eq_true z])
        clear z
        go_wp2_with fail
        go_ret
        exact ⟨ret_bool HK3.out.symm, hb⟩
      · have e3 : ((n3 : Int) == 0) = false := by simp [z]
        have HK3 := Lib.hid (show good r = false by rw [HK2.out, decide_eq_false z])
        clear z
        go_wp2_with fail
        go_ret
        exact ⟨ret_bool HK3.out.symm, hb⟩
  have e2 : (r.kind == 2) = false := by simp [k2]
  by_cases k3 : r.kind = 3
  · have HK := Lib.hid (show good r = (inB r.count 1 5 && decide (0 < n3)) by rw [HG.out, k3]; rfl)
    have e3 : (r.kind == 3) = true := by simp [k3]
    clear k1 k2 k3
    go_wp2_with fail
    cases g3 : inB r.count 1 5 with
    | false =>
      have HK2 := Lib.hid (show good r = false by rw [HK.out, g3]; rfl)
      refine (in_no _ _ _ _ (inB_no g3)).mono ?_
      rintro e _ ⟨rfl, rfl⟩
      go_wp2_with fail
      go_ret
      exact ⟨ret_bool HK2.out.symm, hb⟩
    | true =>
      have HK2 := Lib.hid (show good r = decide (0 < n3) by rw [HK.out, g3]; rfl)
      refine (in_yes _ _ _ _ (inB_yes g3).1 (inB_yes g3).2).mono ?_
      rintro e _ ⟨rfl, rfl⟩
      clear g3
      go_wp2_with fail
      go_ret
      exact ⟨ret_bool HK2.out.symm, hb⟩
  have e3 : (r.kind == 3) = false := by simp [k3]
  have HK := Lib.hid (show good r = false by rw [HG.out]; exact kind0 k1 k2 k3)
  clear k1 k2 k3
  go_wp2_with fail
  go_ret
  exact ⟨ret_bool HK.out.symm, hb⟩
theorem pos_out {r : M} (h : r.pos < 0 ∨ 20 < r.pos) : good r = false := good1 (inB_not (by omega))
/-- the program tests the words only where the kind wants some -/
theorem good_ins {r : M} (h1 : 0 ≤ r.pos) (h2 : r.pos ≤ 20) (k : r.kind = 1) (c : r.count = 0) : good r = rangeB r.words 1 5 := by
  unfold good rangeB
  rw [inB_mk h1 h2, k, c, Bool.true_and, kind1, decide_eq_true rfl, Bool.true_and, Bool.and_comm]
  rfl
theorem good_ins0 {r : M} (h1 : 0 ≤ r.pos) (h2 : r.pos ≤ 20) (k : r.kind = 1) (c : r.count ≠ 0) : good r = false := good_kind (inB_mk h1 h2) (by rw [k, kind1, decide_eq_false c]; rfl)
theorem words_nil {l : T} {m : Nat} (h : l.length = 0) : wordsB l m = true := by
  rw [List.eq_nil_of_length_eq_zero h]; unfold wordsB; simp
theorem good_str {r : M} (h1 : 0 ≤ r.pos) (h2 : r.pos ≤ 20) (k : r.kind = 2) (c : inB r.count 1 5 = true) : good r = decide (r.words.length = 0) := by
  unfold good
  rw [inB_mk h1 h2, k, kind2, c, Bool.true_and, Bool.true_and]
  by_cases h : r.words.length = 0
  · rw [words_nil h, decide_eq_true h]; rfl
  · rw [decide_eq_false h]; simp
theorem good_str0 {r : M} (h1 : 0 ≤ r.pos) (h2 : r.pos ≤ 20) (k : r.kind = 2) (c : inB r.count 1 5 = false) : good r = false := good_kind (inB_mk h1 h2) (by rw [k, kind2, c]; rfl)
theorem good_rep {r : M} (h1 : 0 ≤ r.pos) (h2 : r.pos ≤ 20) (k : r.kind = 3) (c : inB r.count 1 5 = true) : good r = rangeB r.words 1 5 := by
  unfold good rangeB
  rw [inB_mk h1 h2, k, kind3, c, Bool.true_and, Bool.true_and, Bool.and_comm]
  rfl
theorem good_rep0 {r : M} (h1 : 0 ≤ r.pos) (h2 : r.pos ≤ 20) (k : r.kind = 3) (c : inB r.count 1 5 = false) : good r = false := good_kind (inB_mk h1 h2) (by rw [k, kind3, c]; rfl)
theorem good_no {r : M} (h1 : 0 ≤ r.pos) (h2 : r.pos ≤ 20) (k1 : r.kind ≠ 1) (k2 : r.kind ≠ 2) (k3 : r.kind ≠ 3) : good r = false := good_kind (inB_mk h1 h2) (kind0 k1 k2 k3)
set_option maxRecDepth 100000 in
set_option maxHeartbeats 1600000 in
theorem isValid (v0 : Value) (r : M) (w : World) (h0 : LAmendment.Is w v0 r) (f0 : LAmendment.Fine r) :
    Calls Tryd.prog 54 #[v0] w fun e w' => e = .returned (.bool (good r)) ∧ Below w.heap.size w w' := by
  obtain ⟨a3, n3, c3, rfl, HN3, hb3, hm3, HIW0⟩ := open_is h0
  clear h0
  obtain ⟨W, hW⟩ : ∃ W : World, W = w.alloc (Obj.cells #[.int .i64 r.kind, .int .i64 r.pos, .int .i64 r.count, .slice a3 n3 c3] 26) := ⟨_, rfl⟩
  have hb : Below w.heap.size w W := by rw [hW]; exact (Below.refl _ _).alloc (Nat.le_refl _) _
  have B0 := Lib.hid (show Bx W w.heap.size 26 #[.int .i64 r.kind, .int .i64 r.pos, .int .i64 r.count, .slice a3 n3 c3] by rw [hW]; exact Bx.new _ _ _)
  have HC := Lib.hid (isPhrase _ r.words W (Bs.Is.below _ HIW0.out hb) f0)
  have q0 := B0.out.cell 0
  have q1 := B0.out.cell 1
  have q2 := B0.out.cell 2
  have q3 := B0.out.cell 3
  simp only [List.getElem?_toArray, List.getElem?_cons_zero, List.getElem?_cons_succ] at q0 q1 q2 q3
  by_cases p1 : r.pos < 0
  · have HG := Lib.hid (pos_out (.inl p1))
    go_enter Tryd.func54, Tryd.ntmps54
    go_wp2_with fail
    rw [← hW]
    clear hW
    go_ret
    exact ⟨ret_bool HG.out.symm, hb⟩
  by_cases p2 : 20 < r.pos
  · have HG := Lib.hid (pos_out (.inr p2))
    go_enter Tryd.func54, Tryd.ntmps54
    go_wp2_with fail
    rw [← hW]
    clear hW
    go_ret
    exact ⟨ret_bool HG.out.symm, hb⟩
  have p0 : 0 ≤ r.pos := by omega
  have p20 : r.pos ≤ 20 := by omega
  by_cases k1 : r.kind = 1
  · have e1 : (r.kind == 1) = true := by simp [k1]
    by_cases d0 : r.count = 0
    · have HG := Lib.hid (good_ins p0 p20 k1 d0)
      have e2 : (r.count == 0) = true := by simp [d0]
      have s1 : ¬ 1 ≤ r.count := by omega
      clear k1 d0
      go_enter Tryd.func54, Tryd.ntmps54
      go_wp2_with fail
      rw [← hW]
      clear hW
      refine HC.out.mono ?_
      rintro e _ ⟨rfl, rfl⟩
      go_wp2_with fail
      go_ret
      exact ⟨ret_bool HG.out.symm, hb⟩
    · have HG := Lib.hid (good_ins0 p0 p20 k1 d0)
      have e2 : (r.count == 0) = false := by simp [d0]
      clear k1 d0
      by_cases s1 : 1 ≤ r.count
      · go_enter Tryd.func54, Tryd.ntmps54
        go_wp2_with fail
        rw [← hW]
        clear hW
        go_ret
        exact ⟨ret_bool HG.out.symm, hb⟩
      · go_enter Tryd.func54, Tryd.ntmps54
        go_wp2_with fail
        rw [← hW]
        clear hW
        go_ret
        exact ⟨ret_bool HG.out.symm, hb⟩
  have e1 : (r.kind == 1) = false := by simp [k1]
  by_cases k2 : r.kind = 2
  · have e2 : (r.kind == 2) = true := by simp [k2]
    by_cases s1 : 1 ≤ r.count
    · by_cases s2 : r.count ≤ 5
      · have HG := Lib.hid (good_str p0 p20 k2 (inB_mk s1 s2))
        rw [HN3.out] at HG
        clear k1 k2
        by_cases z : n3 = 0
        · have e3 : ((n3 : Int) == 0) = true := by simp [z]
          have HK3 := Lib.hid (show good r = true by rw [HG.out, decide_eq_true z])
          clear z
          go_enter Tryd.func54, Tryd.ntmps54
          go_wp2_with fail
          rw [← hW]
          clear hW
          go_ret
          exact ⟨ret_bool HK3.out.symm, hb⟩
        · have e3 : ((n3 : Int) == 0) = false := by simp [z]
          have HK3 := Lib.hid (show good r = false by rw [HG.out, decide_eq_false z])
          clear z
          go_enter Tryd.func54, Tryd.ntmps54
          go_wp2_with fail
          rw [← hW]
          clear hW
          go_ret
          exact ⟨ret_bool HK3.out.symm, hb⟩
      · have HG := Lib.hid (good_str0 p0 p20 k2 (inB_not (by omega)))
        clear k1 k2
        go_enter Tryd.func54, Tryd.ntmps54
        go_wp2_with fail
        rw [← hW]
        clear hW
        go_ret
        exact ⟨ret_bool HG.out.symm, hb⟩
    · have HG := Lib.hid (good_str0 p0 p20 k2 (inB_not (by omega)))
      clear k1 k2
      go_enter Tryd.func54, Tryd.ntmps54
      go_wp2_with fail
      rw [← hW]
      clear hW
      go_ret
      exact ⟨ret_bool HG.out.symm, hb⟩
  have e2 : (r.kind == 2) = false := by simp [k2]
  by_cases k3 : r.kind = 3
  · have e3 : (r.kind == 3) = true := by simp [k3]
    by_cases s1 : 1 ≤ r.count
    · by_cases s2 : r.count ≤ 5
      · have HG := Lib.hid (good_rep p0 p20 k3 (inB_mk s1 s2))
        clear k1 k2 k3
        go_enter Tryd.func54, Tryd.ntmps54
        go_wp2_with fail
        rw [← hW]
        clear hW
        refine HC.out.mono ?_
        rintro e _ ⟨rfl, rfl⟩
        go_wp2_with fail
        go_ret
        exact ⟨ret_bool HG.out.symm, hb⟩
      · have HG := Lib.hid (good_rep0 p0 p20 k3 (inB_not (by omega)))
        clear k1 k2 k3
        go_enter Tryd.func54, Tryd.ntmps54
        go_wp2_with fail
        rw [← hW]
        clear hW
        go_ret
        exact ⟨ret_bool HG.out.symm, hb⟩
    · have HG := Lib.hid (good_rep0 p0 p20 k3 (inB_not (by omega)))
      clear k1 k2 k3
      go_enter Tryd.func54, Tryd.ntmps54
      go_wp2_with fail
      rw [← hW]
      clear hW
      go_ret
      exact ⟨ret_bool HG.out.symm, hb⟩
  have e3 : (r.kind == 3) = false := by simp [k3]
  have HG := Lib.hid (good_no p0 p20 k1 k2 k3)
  clear k1 k2 k3
  by_cases s1 : 1 ≤ r.count
  · go_enter Tryd.func54, Tryd.ntmps54
    go_wp2_with fail
    rw [← hW]
    clear hW
    go_ret
    exact ⟨ret_bool HG.out.symm, hb⟩
  · go_enter Tryd.func54, Tryd.ntmps54
    go_wp2_with fail
    rw [← hW]
    clear hW
    go_ret
    exact ⟨ret_bool HG.out.symm, hb⟩
end Go.Proofs.YtclpdpfnlmfogaaDoor.AmG
namespace Go.Proofs.YtclpdpfnlmfogaaDoor.Bs
open Go.RowKit
theorem wpAnyH_weak {P : Program} {md : Region.Mode} {ops : Array Oper} {Q : Exit → Act → World → Prop} {S S' : World → Prop} (hS : ∀ w, S' w → S w) : ∀ (fuel : Nat) (listed : Array Bool) (a : Act) (w : World), wpAnyH P md ops Q S' fuel listed a w → wpAnyH P md ops Q S fuel listed a w
  | 0, _, _, _, h => h
  | fuel + 1, _, _, _, h => ⟨h.1, fun i hi => wpOp_mono (fun a' w' h' => ⟨hS _ h'.1, wpAnyH_weak hS fuel _ a' w' h'.2⟩) (h.2 i hi)⟩
theorem wpAnyH_into {P : Program} {md : Region.Mode} {ops : Array Oper} {Q : Exit → Act → World → Prop} {S S' : World → Prop} {fuel : Nat} {listed : Array Bool} {a : Act} {w : World} (hS : ∀ w, S' w → S w) (h' : S' w) (h : S' w → wpAnyH P md ops Q S' fuel listed a w) : wpAnyH P md ops Q S fuel listed a w := wpAnyH_weak hS _ _ _ _ (h h')
end Go.Proofs.YtclpdpfnlmfogaaDoor.Bs
namespace Go.Proofs.YtclpdpfnlmfogaaDoor.Bs
open Go.RowKit
set_option linter.unusedVariables false
theorem step_append_at {P : Program} {w : World} {ops : Array Oper} {o : Oper} {a : Act} {K : Act → World → Prop} {Q : Exit → Act → World → Prop} {E : Prop} (hgd : o.guard = none) (s x : Operand) (t : TypeId)
    (ho : o.op = .call { callee := .builtin .append, args := #[s, x], argTypes := #[t, t] })
    (base : Nat) (e : TypeId) (i : TypeInfo) (z : Value) (size bytes : Nat) (ht : P.underlying t = some (.slice e)) (hi : P.info? e = some i) (hz : i.zero = some z)
    (hsize : i.size = size) (hby : i.bytes = bytes) (hzs : z.cells.size = size) (hsz : 0 < size)
    (v : Value) (n : Nat) (xs : List Value) (hs : a.eval s = v) (hown : w.ownsRow base e size v n xs)
    (ad : Addr) (m c : Nat) (news : List Value) (hx : a.eval x = .slice (some ad) m c) (hl : news.length = m * size) (hnews : ∀ j u, news[j]? = some u → w.cell? (ad.add j) = some u) (h1 : ∀ u ∈ news, u.oneCell' = true)
    (h63 : n + m ≤ maxLen) (hbytes : (n + m) * bytes ≤ 140737488355328) (hbase : base ≤ w.heap.size)
    (h : ∀ v' w', w'.ownsRow base e size v' (n + m) (xs ++ news) → w.grownBy w' v.ownBlock → (v'.ownBlock = v.ownBlock ∨ v'.ownBlock = some w.heap.size) → K (a.put o.dst v') w') :
    if Region.wanted o (yielded ops a.tmps) = true then Oper.wp P o a w K Q else E := by
  have hw : Region.wanted o (yielded ops a.tmps) = true := by simp [Region.wanted, hgd]
  rw [if_pos hw]
  obtain ⟨v', w', hr, h2, h3, h4, h5⟩ := run_append_own_at (P := P) w base t o.type e i z size bytes ht hi hz hsize hby hzs hsz v n xs hown ad m c news hl hnews h1 h63 hbytes hbase
  unfold Oper.wp execOp
  simp only [ho, resolve, invoke, builtin, Sem.run_bind, Sem.run_pure, Result.andThen_ok, List.map_toArray, List.map_cons, List.map_nil, hs, hx, hr]
  exact h v' w' h2 h3 h5
/-- what an append leaves alone -/
theorem Bx.grownBy {w w' : World} {G : Nat} {t : TypeId} {cs : Array Value} {r : Option Nat} (h : Bx w G t cs) (hg : w.grownBy w' r) (hne : r ≠ some G) : Bx w' G t cs := (hg.block G h.lt (fun e => hne e.symm)).trans h
theorem ne_next {w : World} {v v' : Value} {G : Nat} (h : v.ownBlock ≠ some G) (hG : G < w.heap.size) (hat : v'.ownBlock = v.ownBlock ∨ v'.ownBlock = some w.heap.size) : v'.ownBlock ≠ some G := fun e => by
  rcases hat with h' | h'
  · exact h (by rw [← h']; exact e)
  · rw [e] at h'
    have := Option.some.inj h'
    omega
theorem row_slice {w : World} {A E n cnt : Nat} {v : Value} {cs : List Value} (h : w.ownsRow A E n v cnt cs) : ∃ a c, v = .slice a cnt c := by
  rcases h.2 with ⟨h', hz⟩ | ⟨g, cap, cur, h', _⟩
  · exact ⟨_, _, by rw [h', hz]⟩
  · exact ⟨_, _, h'⟩
theorem own_alloc {w : World} {A E n cnt : Nat} {v : Value} {cs : List Value} (h : w.ownsRow A E n v cnt cs) (o : Obj) : w.ownsRow A E n v cnt cs → (w.alloc o).ownsRow A E n v cnt cs := fun h => h.alloc o
end Go.Proofs.YtclpdpfnlmfogaaDoor.Bs
namespace Go.Proofs.YtclpdpfnlmfogaaDoor.CfM
open Go.RowKit Bs Word Am Cf
set_option linter.unusedVariables false
/-- whether the proposals i and j conflict -/
def cf (l : List P) (i j : Nat) : Bool := match l[i]?, l[j]? with
  | some a, some b => confB (ch a) (ch b)
  | _, _ => false
theorem cf_at {l : List P} {i j : Nat} {a b : P} (hi : l[i]? = some a) (hj : l[j]? = some b) : cf l i j = confB (ch a) (ch b) := by unfold cf; rw [hi, hj]
theorem cf_symm {l : List P} (h : ∀ x ∈ l, good (ch x) = true) (i j : Nat) : cf l i j = cf l j i := by
  unfold cf
  cases hi : l[i]? with
  | none => cases l[j]? <;> rfl
  | some a =>
    cases hj : l[j]? with
    | none => rfl
    | some b => exact conf_symm (h a (List.mem_of_getElem? hi)) (h b (List.mem_of_getElem? hj))
def idAt (l : List P) (i : Nat) : Int := ((l[i]?).map (·.id)).getD 0
theorem id_at {l : List P} {i : Nat} {a : P} (h : l[i]? = some a) : idAt l i = a.id := by unfold idAt; rw [h]; rfl
/-- a set of indices below n as a number -/
def mask (f : Nat → Bool) : Nat → Nat
  | 0 => 0
  | n + 1 => mask f n ||| (if f n = true then 1 <<< n else 0)
theorem mask_lt (f : Nat → Bool) : ∀ n, mask f n < 2 ^ n
  | 0 => by simp [mask]
  | n + 1 => by
    unfold mask
    have h := mask_lt f n
    refine Nat.or_lt_two_pow (by rw [Nat.pow_succ]; omega) ?_
    split
    · rw [Nat.shiftLeft_eq, Nat.one_mul, Nat.pow_succ]
      have := Nat.two_pow_pos n
      omega
    · exact Nat.two_pow_pos _
theorem mask_bit (f : Nat → Bool) : ∀ n j, (mask f n).testBit j = (decide (j < n) && f j)
  | 0, j => by simp [mask]
  | n + 1, j => by
    unfold mask
    rw [Nat.testBit_or, mask_bit f n j]
    by_cases hf : f n = true
    · rw [if_pos hf, Nat.shiftLeft_eq, Nat.one_mul, Nat.testBit_two_pow]
      by_cases e : n = j
      · subst e; simp [hf]
      · have : decide (j < n + 1) = decide (j < n) := decide_eq_decide.2 (by omega)
        rw [this, decide_eq_false e, Bool.or_false]
    · rw [if_neg hf]
      by_cases e : n = j
      · subst e; simp [hf]
      · have : decide (j < n + 1) = decide (j < n) := decide_eq_decide.2 (by omega)
        rw [this]; simp
theorem mask_step {f : Nat → Bool} {n : Nat} (h : f n = true) : mask f (n + 1) = mask f n ||| 1 <<< n := by
  show mask f n ||| (if f n = true then 1 <<< n else 0) = _; rw [if_pos h]
theorem mask_skip {f : Nat → Bool} {n : Nat} (h : f n = false) : mask f (n + 1) = mask f n := by
  show mask f n ||| (if f n = true then 1 <<< n else 0) = _; rw [h]; simp
/-- the program's set of rivals -/
def rivB (l : List P) (i j : Nat) : Bool := cf l i j && decide (i ≠ j)
def riv (l : List P) (i : Nat) : Nat := mask (rivB l i) l.length
theorem riv_lt {l : List P} (h : l.length ≤ 8) (i : Nat) : riv l i < 256 := Nat.lt_of_lt_of_le (mask_lt _ _) (show 2 ^ l.length ≤ 2 ^ 8 from Nat.pow_le_pow_right (by decide) h)
theorem mask_small (f : Nat → Bool) {n : Nat} (h : n ≤ 8) : mask f n < 256 := Nat.lt_of_lt_of_le (mask_lt _ _) (show 2 ^ n ≤ 2 ^ 8 from Nat.pow_le_pow_right (by decide) h)
theorem riv_bit (l : List P) (i j : Nat) : (riv l i).testBit j = rivB l i j := by
  unfold riv
  rw [mask_bit]
  by_cases h : j < l.length
  · rw [decide_eq_true h, Bool.true_and]
  · rw [decide_eq_false h, Bool.false_and]
    unfold rivB cf
    rw [List.getElem?_eq_none (Nat.le_of_not_lt h)]
    cases l[i]? <;> rfl
def rivs (l : List P) : List Nat := (List.range l.length).map (riv l)
theorem rivs_len (l : List P) : (rivs l).length = l.length := by simp [rivs]
theorem rivs_at {l : List P} {i : Nat} (h : i < l.length) : (rivs l)[i]? = some (riv l i) := by simp [rivs, List.getElem?_range h]
/-- no rivals, no bit -/
theorem riv_zero (l : List P) (i : Nat) : riv l i = 0 ↔ ∀ j, j < l.length → rivB l i j = false := by
  constructor
  · intro h j hj
    rw [← riv_bit, h]; simp
  · intro h
    apply Nat.eq_of_testBit_eq
    intro j
    rw [riv_bit, Nat.zero_testBit]
    by_cases hj : j < l.length
    · exact h j hj
    · unfold rivB cf
      rw [List.getElem?_eq_none (Nat.le_of_not_lt hj)]
      cases l[i]? <;> rfl
/-- which proposals conflict with no other one -/
def freeTo (l : List P) (i k : Nat) : Bool := (List.range k).all fun j => i == j || !cf l i j
theorem freeTo_zero (l : List P) (i : Nat) : freeTo l i 0 = true := rfl
theorem freeTo_next (l : List P) (i k : Nat) : freeTo l i (k + 1) = (freeTo l i k && (i == k || !cf l i k)) := by
  unfold freeTo; rw [List.range_succ, List.all_append]; simp
def freeAt (l : List P) (i : Nat) : Bool := freeTo l i l.length
theorem free_riv (l : List P) (i : Nat) : freeAt l i = decide (riv l i = 0) := by
  rw [Bool.eq_iff_iff, decide_eq_true_eq, riv_zero]
  unfold freeAt freeTo
  rw [List.all_eq_true]
  constructor
  · intro h j hj
    have := h j (List.mem_range.2 hj)
    unfold rivB
    by_cases e : i = j
    · subst e; simp
    · have e2 : (i == j) = false := by simp [e]
      rw [e2, Bool.false_or] at this
      rw [show cf l i j = false by simpa using this]; rfl
  · intro h j hj
    have := h j (List.mem_range.1 hj)
    unfold rivB at this
    by_cases e : i = j
    · subst e; simp
    · rw [decide_eq_true e, Bool.and_true] at this
      rw [this]; simp
def freeIds (l : List P) (k : Nat) : List Int := ((List.range k).filter (freeAt l)).map (idAt l)
def free (l : List P) : List Int := freeIds l l.length
theorem freeIds_zero (l : List P) : freeIds l 0 = [] := rfl
theorem freeIds_yes {l : List P} {k : Nat} {a : P} (ha : l[k]? = some a) (h : freeAt l k = true) : freeIds l (k + 1) = freeIds l k ++ [a.id] := by
  unfold freeIds; rw [List.range_succ, List.filter_append, List.map_append]; simp [h, id_at ha]
theorem freeIds_no {l : List P} {k : Nat} (h : freeAt l k = false) : freeIds l (k + 1) = freeIds l k := by
  unfold freeIds; rw [List.range_succ, List.filter_append, List.map_append]; simp [h]
theorem freeIds_len (l : List P) (k : Nat) : (freeIds l k).length ≤ k := by
  unfold freeIds; rw [List.length_map]
  have := List.length_filter_le (freeAt l) (List.range k)
  rwa [List.length_range] at this
/-- the indices in a set, ascending -/
def bitsL (x n : Nat) : List Nat := (List.range n).filter x.testBit
theorem bits_lt {x n j : Nat} (h : j ∈ bitsL x n) : j < n := List.mem_range.1 (List.mem_filter.1 h).1
theorem bits_len (x n : Nat) : (bitsL x n).length ≤ n := by
  have := List.length_filter_le x.testBit (List.range n)
  rwa [List.length_range] at this
end Go.Proofs.YtclpdpfnlmfogaaDoor.CfM
namespace Go.Proofs.YtclpdpfnlmfogaaDoor.LSet
open Go.RowKit Bs
set_option linter.unusedVariables false
abbrev R := Nat
def vals (r : R) : List Value := [.int .u64 (r : Nat)]
/-- one value as a type of records -/
def rec : Rec R := ⟨1, vals, fun _ => rfl, by decide, fun r u hu => by
  simp only [vals, List.mem_cons, List.not_mem_nil, or_false] at hu
  rcases hu with rfl
  rfl⟩
theorem rec_n : rec.n = 1 := rfl
theorem info : (Tryd.prog.info? 90).map (fun i => (i.zero, i.size)) = some (some (.int .u64 0), 1) := by kernel_rfl
theorem cells {w : World} {b p : Nat} {r : R} (h : At rec w b p r) : w.cell? ⟨b, p, none⟩ = some (.int .u64 (r : Nat)) := h 0 _ rfl
theorem at_of {w : World} {b p : Nat} {r : R} (h0 : w.cell? ⟨b, p, none⟩ = some (.int .u64 (r : Nat))) : At rec w b p r := fun j v hv => by
  have hj : j < 1 := (List.getElem?_eq_some_iff.1 hv).1
  obtain rfl : j = 0 := by omega
  rw [← hv]; exact h0
/-- facts of a value in all worlds that only grew -/
theorem grown {w : World} {b p : Nat} {r : R} (h : At rec w b p r) (hl : b < w.heap.size) : Hid (∀ d os, At rec (Sort.grow (redrawn w d) os) b p r) := fun d os => h.below rec (below_regrown w d os) hl
theorem flat_eq (xs : List R) : flat rec xs = xs.map (fun r => .int .u64 (r : Nat)) := by
  induction xs with
  | nil => rfl
  | cons x xs ih => rw [flat_cons, ih]; rfl
def zero : R := 0
theorem made_zero (n : Nat) : (madeCells (#[.int .u64 0] : Array Value) n).toList = flat rec (List.replicate n zero) := by
  apply List.ext_getElem?
  intro i
  rw [madeCells, flat_eq]
  by_cases hi : i < n
  · simp only [Array.toList_map, List.getElem?_map, Array.toList_range, List.getElem?_range hi, Option.map_some, List.getElem?_replicate, if_pos hi]
    have h1 : i % (#[.int .u64 0] : Array Value).size = 0 := Nat.mod_one i
    rw [h1]
    rfl
  · rw [List.getElem?_eq_none (by simp; omega), List.getElem?_eq_none (by simp; omega)]
/-- what a copy holds after k stores -/
def part (xs : List R) (n k : Nat) : List R := xs.take k ++ List.replicate (n - k) zero
theorem part_len (xs : List R) (n k : Nat) (h : xs.length = n) (hk : k ≤ n) : (part xs n k).length = n := by simp [part]; omega
theorem part_zero (xs : List R) (n : Nat) : part xs n 0 = List.replicate n zero := by simp [part]
theorem part_all (xs : List R) (n : Nat) (h : xs.length = n) : part xs n n = xs := by
  unfold part; rw [List.take_of_length_le (by omega), Nat.sub_self]; simp
theorem part_set (xs : List R) (n k : Nat) (h : xs.length = n) (hk : k < xs.length) : (part xs n k).set k xs[k] = part xs n (k + 1) := by
  unfold part
  have hl : (xs.take k).length = k := by rw [List.length_take]; omega
  rw [List.set_append_right _ _ (by omega), hl, Nat.sub_self]
  have e : n - k = (n - (k + 1)) + 1 := by omega
  rw [e, List.replicate_succ, List.set_cons_zero, List.take_succ_eq_append_getElem hk, List.append_assoc]
  rfl
theorem part_at (xs : List R) (n k : Nat) (h : xs.length = n) (hk : k < n) : (part xs n k)[k]? = some zero := by
  unfold part
  have hl : (xs.take k).length = k := by rw [List.length_take]; omega
  rw [List.getElem?_append_right (by omega), hl, Nat.sub_self, List.getElem?_replicate, if_pos (by omega)]
abbrev OwnR (w : World) (A g n cap : Nat) (ys : List R) : Prop := Own rec 90 w A (.slice (some ⟨g, 0, none⟩) n cap) ys
/-- a store of one value -/
theorem putAll {w : World} {A g n cap : Nat} {ys : List R} (hn : ys.length = n) (h : OwnR w A g n cap ys) (k : Nat) (r0 r : R) (hr : ys[k]? = some r0) :
    OwnR (w.setCell ⟨g, k, none⟩ (.int .u64 (r : Nat))) A g n cap (ys.set k r) := by
  have h0 := Own.put hn h k 0 r0 r (.int .u64 (r : Nat)) hr (by decide) rfl
  rw [rec_n, Nat.mul_one, Nat.add_zero] at h0
  exact h0
end Go.Proofs.YtclpdpfnlmfogaaDoor.LSet
namespace Go.Proofs.YtclpdpfnlmfogaaDoor.CfN
open Go.RowKit Bs Word Am Cf CfM
set_option linter.unusedVariables false
/-- without its lowest bit -/
def rest (x : Nat) : Nat := x &&& (x - 1)
theorem low_form {x : Nat} (h0 : x ≠ 0) (h : x < 18446744073709551616) : ∃ m, x = 2 ^ (Lib.ctz 64 x + 1) * m + 2 ^ Lib.ctz 64 x := by
  obtain ⟨m, e, _⟩ := Lib.ctzFrom_spec 64 x (by omega) h
  refine ⟨m, ?_⟩
  have hc : Lib.ctz 64 x = Lib.ctzFrom 64 x := by unfold Lib.ctz; rw [if_neg h0]
  rw [hc]
  generalize Lib.ctzFrom 64 x = c at e
  rw [e, Nat.pow_succ, Nat.mul_add, Nat.mul_one, Nat.mul_assoc]
theorem low_bit {x : Nat} (h0 : x ≠ 0) (h : x < 18446744073709551616) (j : Nat) : (j < Lib.ctz 64 x → x.testBit j = false) ∧ (j = Lib.ctz 64 x → x.testBit j = true) ∧ (rest x).testBit j = (decide (Lib.ctz 64 x < j) && x.testBit j) := by
  obtain ⟨m, e⟩ := low_form h0 h
  generalize Lib.ctz 64 x = c at *
  have hp := Nat.two_pow_pos c
  have hp2 : 2 ^ c < 2 ^ (c + 1) := by rw [Nat.pow_succ]; omega
  have e2 : x - 1 = 2 ^ (c + 1) * m + (2 ^ c - 1) := by omega
  have b1 : x.testBit j = if j < c + 1 then decide (c = j) else m.testBit (j - (c + 1)) := by
    rw [e, Nat.testBit_two_pow_mul_add m hp2 j, Nat.testBit_two_pow]
  have b2 : (x - 1).testBit j = if j < c + 1 then decide (j < c) else m.testBit (j - (c + 1)) := by
    rw [e2, Nat.testBit_two_pow_mul_add m (show 2 ^ c - 1 < 2 ^ (c + 1) by omega) j, Nat.testBit_two_pow_sub_one]
  refine ⟨fun hj => ?_, fun hj => ?_, ?_⟩
  · rw [b1, if_pos (by omega)]; exact decide_eq_false (by omega)
  · rw [b1, if_pos (by omega)]; exact decide_eq_true hj.symm
  · unfold rest
    rw [Nat.testBit_and, b2, b1]
    by_cases hj : j < c + 1
    · rw [if_pos hj, if_pos hj, decide_eq_false (show ¬ c < j by omega), Bool.false_and]
      by_cases hc : c = j
      · rw [decide_eq_false (show ¬ j < c by omega), Bool.and_false]
      · rw [decide_eq_false hc, Bool.false_and]
    · rw [if_neg hj, if_neg hj, decide_eq_true (show c < j by omega)]; simp
theorem rest_le (x : Nat) : rest x ≤ x := Nat.and_le_left
theorem rest_lt {x : Nat} (h0 : x ≠ 0) (h : x < 18446744073709551616) : rest x < x := by
  have h1 := (low_bit h0 h (Lib.ctz 64 x)).2.1 rfl
  have h2 := (low_bit h0 h (Lib.ctz 64 x)).2.2
  rw [decide_eq_false (Nat.lt_irrefl _), Bool.false_and] at h2
  have h3 := rest_le x
  rcases Nat.lt_or_ge (rest x) x with h4 | h4
  · exact h4
  · have : rest x = x := by omega
    rw [this, h1] at h2
    cases h2
theorem low_lt {x n : Nat} (h0 : x ≠ 0) (h : x < 18446744073709551616) (hn : x < 2 ^ n) : Lib.ctz 64 x < n := by
  obtain ⟨m, e⟩ := low_form h0 h
  have h1 : 2 ^ Lib.ctz 64 x ≤ x := by omega
  have h2 : 2 ^ Lib.ctz 64 x < 2 ^ n := by omega
  exact (Nat.pow_lt_pow_iff_right (by decide)).1 h2
theorem bits_cons {x n : Nat} (h0 : x ≠ 0) (h : x < 18446744073709551616) (hn : x < 2 ^ n) : bitsL x n = Lib.ctz 64 x :: bitsL (rest x) n := by
  have hc := low_lt h0 h hn
  have hb := low_bit h0 h
  generalize Lib.ctz 64 x = c at *
  unfold bitsL
  have hs : List.range n = List.range' 0 c ++ c :: List.range' (c + 1) (n - (c + 1)) := by
    rw [List.range_eq_range', ← List.range'_succ, show n = c + (n - (c + 1) + 1) by omega, ← List.range'_append_1, Nat.zero_add]
    congr 2
    omega
  rw [hs, List.filter_append, List.filter_append, List.filter_cons, List.filter_cons]
  have e1 : (List.range' 0 c).filter x.testBit = [] := List.filter_eq_nil_iff.2 fun j hj => by
    have := List.mem_range'_1.1 hj
    rw [(hb j).1 (by omega)]; simp
  have e2 : (List.range' 0 c).filter (rest x).testBit = [] := List.filter_eq_nil_iff.2 fun j hj => by
    have := List.mem_range'_1.1 hj
    rw [(hb j).2.2, decide_eq_false (by omega)]; simp
  have e3 : (List.range' (c + 1) (n - (c + 1))).filter (rest x).testBit = (List.range' (c + 1) (n - (c + 1))).filter x.testBit := List.filter_congr fun j hj => by
    have := List.mem_range'_1.1 hj
    rw [(hb j).2.2, decide_eq_true (by omega), Bool.true_and]
  rw [e1, e2, e3, (hb c).2.1 rfl, (hb c).2.2, decide_eq_false (Nat.lt_irrefl _)]
  simp
theorem bits_zero (n : Nat) : bitsL 0 n = [] := List.filter_eq_nil_iff.2 fun j _ => by simp
def ints (js : List Nat) : List Int := js.map fun (j : Nat) => (j : Int)
theorem ints_len (js : List Nat) : (ints js).length = js.length := by simp [ints]
theorem ints_at {js : List Nat} {m k : Nat} (h : js[m]? = some k) : (ints js)[m]? = some (k : Int) := by simp [ints, h]
theorem ints_snoc (js : List Nat) (j : Nat) : ints (js ++ [j]) = ints js ++ [(j : Int)] := by simp [ints]
end Go.Proofs.YtclpdpfnlmfogaaDoor.CfN
namespace Go.Proofs.YtclpdpfnlmfogaaDoor.Tz
open Go.RowKit
set_option linter.unusedVariables false
set_option maxHeartbeats 1000000 in
theorem tz_core (x k idx : Nat) (w : World) (hx0 : ((x : Int) == 0) = false)
    (key : IntKind.u64.wrap (bits BinOp.and IntKind.u64 (x : Int) (IntKind.u64.wrap (-(x : Int))) * 285870213051353865) / 288230376151711744 = (idx : Int))
    (hi : idx < 64) (hk : k < 64) (hcell : w.cell? ⟨1, idx, none⟩ = some (.int .u8 k)) :
    Calls Tryd.prog 124 #[.int .u64 x] w fun e w' => e = .returned (.int .i64 k) ∧ w = w' := by
  go_enter Tryd.func124, Tryd.ntmps124
  go_wp2_with (simp only [key])
  go_ret
  exact ⟨rfl, rfl⟩
theorem tz64 (x : Nat) (hx : x < 18446744073709551616) (hx0 : x ≠ 0) (w : World) (hT : Laid.T64 w) :
    Calls Tryd.prog 124 #[.int .u64 x] w fun e w' => e = .returned (.int .i64 (Lib.ctz 64 x)) ∧ w = w' := by
  obtain ⟨hlow, hk⟩ := Lib.lowest_bit 64 x hx0 hx
  obtain ⟨hi, htab⟩ := Lib.deBruijn64_at _ hk
  have hcell := hT.cell _ hi
  rw [htab] at hcell
  exact tz_core x _ _ w (by simp; omega) (tz64_key x _ hx hx0 hlow) hi hk hcell
theorem tz (x : Nat) (hx : x < 18446744073709551616) (hx0 : x ≠ 0) (w : World) (hT : Laid.T64 w) :
    Calls Tryd.prog 104 #[.int .u64 x] w fun e w' => e = .returned (.int .i64 (Lib.ctz 64 x)) ∧ w = w' := by
  have HC := Lib.hid (tz64 x hx hx0 w hT)
  have hw : IntKind.u64.wrap (x : Int) = (x : Int) := by rw [IntKind.wrap_u64]; omega
  go_enter Tryd.func104, Tryd.ntmps104
  go_wp2_with fail
  refine HC.out.mono ?_
  rintro e w' ⟨rfl, rfl⟩
  go_wp2_with fail
  go_ret
  exact ⟨rfl, rfl⟩
end Go.Proofs.YtclpdpfnlmfogaaDoor.Tz
namespace Go.Proofs.YtclpdpfnlmfogaaDoor.LInt
open Go.RowKit Bs
set_option linter.unusedVariables false
abbrev R := Int
def vals (r : R) : List Value := [.int .i64 r]
/-- one value as a type of records -/
def rec : Rec R := ⟨1, vals, fun _ => rfl, by decide, fun r u hu => by
  simp only [vals, List.mem_cons, List.not_mem_nil, or_false] at hu
  rcases hu with rfl
  rfl⟩
theorem rec_n : rec.n = 1 := rfl
theorem info : (Tryd.prog.info? 3).map (fun i => (i.zero, i.size)) = some (some (.int .i64 0), 1) := by kernel_rfl
theorem cells {w : World} {b p : Nat} {r : R} (h : At rec w b p r) : w.cell? ⟨b, p, none⟩ = some (.int .i64 r) := h 0 _ rfl
theorem at_of {w : World} {b p : Nat} {r : R} (h0 : w.cell? ⟨b, p, none⟩ = some (.int .i64 r)) : At rec w b p r := fun j v hv => by
  have hj : j < 1 := (List.getElem?_eq_some_iff.1 hv).1
  obtain rfl : j = 0 := by omega
  rw [← hv]; exact h0
/-- facts of a value in all worlds that only grew -/
theorem grown {w : World} {b p : Nat} {r : R} (h : At rec w b p r) (hl : b < w.heap.size) : Hid (∀ d os, At rec (Sort.grow (redrawn w d) os) b p r) := fun d os => h.below rec (below_regrown w d os) hl
theorem flat_eq (xs : List R) : flat rec xs = xs.map (fun r => .int .i64 r) := by
  induction xs with
  | nil => rfl
  | cons x xs ih => rw [flat_cons, ih]; rfl
def zero : R := 0
theorem made_zero (n : Nat) : (madeCells (#[.int .i64 0] : Array Value) n).toList = flat rec (List.replicate n zero) := by
  apply List.ext_getElem?
  intro i
  rw [madeCells, flat_eq]
  by_cases hi : i < n
  · simp only [Array.toList_map, List.getElem?_map, Array.toList_range, List.getElem?_range hi, Option.map_some, List.getElem?_replicate, if_pos hi]
    have h1 : i % (#[.int .i64 0] : Array Value).size = 0 := Nat.mod_one i
    rw [h1]
    rfl
  · rw [List.getElem?_eq_none (by simp; omega), List.getElem?_eq_none (by simp; omega)]
/-- what a copy holds after k stores -/
def part (xs : List R) (n k : Nat) : List R := xs.take k ++ List.replicate (n - k) zero
theorem part_len (xs : List R) (n k : Nat) (h : xs.length = n) (hk : k ≤ n) : (part xs n k).length = n := by simp [part]; omega
theorem part_zero (xs : List R) (n : Nat) : part xs n 0 = List.replicate n zero := by simp [part]
theorem part_all (xs : List R) (n : Nat) (h : xs.length = n) : part xs n n = xs := by
  unfold part; rw [List.take_of_length_le (by omega), Nat.sub_self]; simp
theorem part_set (xs : List R) (n k : Nat) (h : xs.length = n) (hk : k < xs.length) : (part xs n k).set k xs[k] = part xs n (k + 1) := by
  unfold part
  have hl : (xs.take k).length = k := by rw [List.length_take]; omega
  rw [List.set_append_right _ _ (by omega), hl, Nat.sub_self]
  have e : n - k = (n - (k + 1)) + 1 := by omega
  rw [e, List.replicate_succ, List.set_cons_zero, List.take_succ_eq_append_getElem hk, List.append_assoc]
  rfl
theorem part_at (xs : List R) (n k : Nat) (h : xs.length = n) (hk : k < n) : (part xs n k)[k]? = some zero := by
  unfold part
  have hl : (xs.take k).length = k := by rw [List.length_take]; omega
  rw [List.getElem?_append_right (by omega), hl, Nat.sub_self, List.getElem?_replicate, if_pos (by omega)]
abbrev OwnR (w : World) (A g n cap : Nat) (ys : List R) : Prop := Own rec 3 w A (.slice (some ⟨g, 0, none⟩) n cap) ys
/-- a store of one value -/
theorem putAll {w : World} {A g n cap : Nat} {ys : List R} (hn : ys.length = n) (h : OwnR w A g n cap ys) (k : Nat) (r0 r : R) (hr : ys[k]? = some r0) :
    OwnR (w.setCell ⟨g, k, none⟩ (.int .i64 r)) A g n cap (ys.set k r) := by
  have h0 := Own.put hn h k 0 r0 r (.int .i64 r) hr (by decide) rfl
  rw [rec_n, Nat.mul_one, Nat.add_zero] at h0
  exact h0
end Go.Proofs.YtclpdpfnlmfogaaDoor.LInt
namespace Go.Proofs.YtclpdpfnlmfogaaDoor.LInt
open Go.RowKit Bs
set_option linter.unusedVariables false
def wt (r : R) : Nat := 0
def Fine (r : R) : Prop := True
def tot (xs : List R) : Nat := (xs.map wt).sum
theorem tot_next (xs : List R) (k : Nat) (h : k < xs.length) : tot (xs.take (k + 1)) = tot (xs.take k) + wt xs[k] := by
  rw [List.take_succ_eq_append_getElem h]; unfold tot; rw [List.map_append, List.sum_append]; simp
theorem tot_take_le (xs : List R) (k : Nat) : tot (xs.take k) ≤ tot xs := by
  have := congrArg tot (List.take_append_drop k xs)
  have e : ∀ a b : List R, tot (a ++ b) = tot a + tot b := fun a b => by simp [tot]
  rw [e] at this
  omega
theorem mem_le (xs : List R) (x : R) (h : x ∈ xs) : wt x ≤ tot xs := by
  induction xs with
  | nil => cases h
  | cons y ys ih =>
    simp only [tot, List.map_cons, List.sum_cons] at ih ⊢
    rcases List.mem_cons.1 h with rfl | h
    · omega
    · have := ih h; omega
end Go.Proofs.YtclpdpfnlmfogaaDoor.LInt
namespace Go.Proofs.YtclpdpfnlmfogaaDoor.LInt
open Go.RowKit Bs
set_option linter.unusedVariables false
theorem infoK : (Tryd.prog.info? 3).map (fun i => (i.zero, i.size, i.bytes)) = some (some (.int .i64 0), 1, 8) := by kernel_rfl
theorem startB {w : World} {A g : Nat} (h : w.heap[g]? = some (.cells #[] 3 (0, 0))) (hA : A ≤ g) : w.ownsRow A 3 1 (.slice (some ⟨g, 0, none⟩) 0 0) 0 [] :=
  ⟨rfl, .inr ⟨g, 0, #[], rfl, hA, h, Nat.le_refl _, Nat.zero_le _, rfl, rfl⟩⟩
end Go.Proofs.YtclpdpfnlmfogaaDoor.LInt
namespace Go.Proofs.YtclpdpfnlmfogaaDoor.CfJ
open Go.RowKit Bs Word Am Cf CfM CfN
set_option linter.unusedVariables false
set_option maxRecDepth 100000 in
set_option maxHeartbeats 1600000 in
theorem indicesIn (x n : Nat) (w : World) (hn : n ≤ 8) (hx : x < 2 ^ n) (hT : Laid.T64 w) :
    Calls Tryd.prog 77 #[.int .u64 x] w fun e w' => ∃ g c, e = .returned (.slice (some ⟨g, 0, none⟩) (bitsL x n).length c) ∧ Own LInt.rec 3 w' w.heap.size (.slice (some ⟨g, 0, none⟩) (bitsL x n).length c) (ints (bitsL x n)) ∧ Below w.heap.size w w' := by
  obtain ⟨i9, hi, hz0, hz1, hz2⟩ := info_parts LInt.infoK
  have HI9 := Lib.hid hi
  have HZ9 := Lib.hid (And.intro hz0 (And.intro hz1 hz2))
  clear hi hz0 hz1 hz2
  have h8 : x < 256 := Nat.lt_of_lt_of_le hx (show 2 ^ n ≤ 2 ^ 8 from Nat.pow_le_pow_right (by decide) hn)
  have HX := Lib.hid hx
  have HTL := Lib.hid hT
  clear hT hx
  have HO := Lib.hid (Own.start (T := LInt.rec) (E := 3) (w := w) (Nat.le_refl _))
  have hb := (Below.refl w.heap.size w).alloc (Nat.le_refl _) (Obj.cells #[] 3)
  go_enter Tryd.func77, Tryd.ntmps77
  go_wp2_with fail
  go_loopw [3, 4] (fun so r wr => ∃ (y : Nat) (js : List Nat) (o : Value), o = so ∧ r = .int .u64 (y : Nat) ∧ y ≤ x ∧ js.length ≤ 64 ∧ Hid (js ++ bitsL y n = bitsL x n) ∧ Hid (Own LInt.rec 3 wr w.heap.size o (ints js)) ∧ Hid (∃ g, o.ownBlock = some g) ∧ Below w.heap.size w wr) (fun _ r _ => (intOf r).toNat)
  case atStart => exact ⟨x, [], _, rfl, rfl, Nat.le_refl _, by simp, Lib.hid rfl, HO, Lib.hid ⟨_, rfl⟩, hb⟩
  case round =>
    clear HO hb
    obtain ⟨y, js, ov, rfl, rfl, hyx, hjl, HJ, HO, HNN, hb⟩ := hrel
    by_cases hy : y = 0
    · subst hy
      have HE := Lib.hid (show js = bitsL x n by have h := HJ.out; rwa [bits_zero, List.append_nil] at h)
      have e1 : (((0 : Nat) : Int) != 0) = false := rfl
      go_wp2_with fail
      go_ret
      obtain ⟨g0, hg0⟩ := HNN.out
      have ho := HO.out
      rw [HE.out] at ho
      rcases ho.shape with ⟨rfl, _⟩ | ⟨g, c, rfl, _⟩
      · cases hg0
      · rw [ints_len] at ho ⊢
        exact ⟨g, c, rfl, ho, hb⟩
    · have e1 : ((y : Int) != 0) = true := bne_iff_ne.2 (by omega)
      have hy64 : y < 18446744073709551616 := by omega
      have HC := Lib.hid (Tz.tz y hy64 hy wr (Laid.T64.below HTL.out hb))
      have HB := Lib.hid (bits_cons hy hy64 (show y < 2 ^ n from Nat.lt_of_le_of_lt hyx HX.out))
      have HLT := Lib.hid (rest_lt hy hy64)
      have s1 : IntKind.u64.wrap ((y : Int) - 1) = ((y - 1 : Nat) : Int) := by rw [IntKind.wrap_u64]; omega
      have s2 := bits_and_u64_nat y (y - 1) hy64 (by omega)
      have hsz := hb.size
      have HJL := Lib.hid (show js.length + 1 ≤ 64 by
        have h := congrArg List.length HJ.out
        rw [HB.out, List.length_append, List.length_cons] at h
        have := bits_len x n
        omega)
      have hil := ints_len js
      have hjl2 : (ints js).length ≤ 64 := by omega
      clear hy hil
      go_wp2_with fail
      refine HC.out.mono ?_
      rintro e _ ⟨rfl, rfl⟩
      rw [show y &&& (y - 1) = rest y from rfl] at s2
      generalize Lib.ctz 64 y = C at *
      generalize rest y = Y at *
      go_wp2_with (at_builtin; refine wpList_append_own_at _ rfl (.tmp 13) (.tmp 16) 48 rfl w.heap.size 3 i9 (.int .i64 0) 1 8 Tryd.underlying48 HI9.out HZ9.out.1 HZ9.out.2.1 HZ9.out.2.2 rfl (by decide) _ _ _ rfl (Own.kept HO.out (by (repeat (first | assumption | exact Below.refl _ _ | refine Below.drew ?_ | refine Below.setCell ?_ (by first | (simp; done) | (simp; omega) | omega) _ | refine Below.alloc ?_ (by first | (simp; done) | (simp; omega) | omega) _)))) ⟨_, 0, none⟩ 1 1 [.int .i64 (C : Int)] rfl rfl ?c1 ?c2 ?c3 ?c4 ?c5 ?c6)
      try (case c1 => first | exact World.news_of_block (heap_alloc_new _ _) | exact World.news_of_block (alloc_two _ _ _))
      case c2 => first | rfl | (intro u hu; simp only [List.mem_cons, List.not_mem_nil, or_false] at hu; subst hu; rfl)
      case c3 => unfold maxLen; omega
      case c4 => omega
      case c5 => first | (simp; done) | (simp; omega) | omega
      case c6 =>
        intro v' w4 hown' hgrow hnn hat
        have hb3 : Below w.heap.size w w4 := Below.grown (by (repeat (first | assumption | exact Below.refl _ _ | refine Below.drew ?_ | refine Below.setCell ?_ (by first | (simp; done) | (simp; omega) | omega) _ | refine Below.alloc ?_ (by first | (simp; done) | (simp; omega) | omega) _))) hgrow (by first | (simp; done) | (simp; omega) | omega) (fun j hj => (HO.out.lt j hj).1)
        have HO2 := Lib.hid (show Own LInt.rec 3 w4 w.heap.size v' (ints (js ++ [C])) from own_of LInt.rec hown' (by rw [ints_snoc]; simp) (by rw [ints_snoc, flat_append]; rfl))
        have HN2 := Lib.hid (show ∃ g, v'.ownBlock = some g from by
          rcases hat with e | e
          · rw [e]; exact HNN.out
          · exact ⟨_, e⟩)
        have HJ2 := Lib.hid (show (js ++ [C]) ++ bitsL Y n = bitsL x n by rw [List.append_assoc]; show js ++ (C :: bitsL Y n) = _; rw [← HB.out]; exact HJ.out)
        have hjl3 := HJL.out
        clear hown' hgrow hat hnn
        go_wp2_with fail
        go_roundw
        case rel => exact ⟨Y, js ++ [C], _, rfl, rfl, by have := HLT.out; omega, by simp; omega, HJ2, HO2, HN2, hb3⟩
        case measure => have := HLT.out; simp [intOf]; omega
end Go.Proofs.YtclpdpfnlmfogaaDoor.CfJ
namespace Go.Proofs.YtclpdpfnlmfogaaDoor.LIntA2
open Go.RowKit Bs
set_option linter.unusedVariables false

structure R where
  a : Int
  b : Int
def vals (r : R) : List Value := [.int .i64 r.a, .int .i64 r.b]
/-- the struct as a type of records -/
def rec : Rec R := ⟨2, vals, fun _ => rfl, by decide, fun r u hu => by
  simp only [vals, List.mem_cons, List.not_mem_nil, or_false] at hu
  rcases hu with rfl | rfl <;> rfl⟩
theorem rec_n : rec.n = 2 := rfl
theorem info : (Tryd.prog.info? 55).map (fun i => (i.zero, i.size)) = some (some (.agg #[.int .i64 0, .int .i64 0]), 2) := by kernel_rfl
theorem cells {w : World} {b p : Nat} {r : R} (h : At rec w b p r) : w.cell? ⟨b, p, none⟩ = some (.int .i64 r.a) ∧ w.cell? ⟨b, p + 1, none⟩ = some (.int .i64 r.b) :=
  ⟨h 0 _ rfl, h 1 _ rfl⟩
theorem cells0 {w : World} {b : Nat} {r : R} (h : At rec w b 0 r) : w.cell? ⟨b, 0, none⟩ = some (.int .i64 r.a) ∧ w.cell? ⟨b, 1, none⟩ = some (.int .i64 r.b) := by
  have := cells h
  simpa only [Nat.zero_add] using this
theorem at_of {w : World} {b p : Nat} {r : R} (h0 : w.cell? ⟨b, p, none⟩ = some (.int .i64 r.a)) (h1 : w.cell? ⟨b, p + 1, none⟩ = some (.int .i64 r.b)) : At rec w b p r := fun j v hv => by
  have hj : j < 2 := (List.getElem?_eq_some_iff.1 hv).1
  match j, hj with
  | 0, _ => rw [← hv]; exact h0
  | 1, _ => rw [← hv]; exact h1
/-- a record that was boxed -/
theorem box (w : World) (r : R) (t : TypeId) : At rec (w.alloc (.cells #[.int .i64 r.a, .int .i64 r.b] t)) w.heap.size 0 r := at_of (by simp [go_sem]) (by simp [go_sem])
/-- facts of a record in all worlds that only grew -/
theorem grown {w : World} {b p : Nat} {r : R} (h : At rec w b p r) (hl : b < w.heap.size) : Hid (∀ d os, At rec (Sort.grow (redrawn w d) os) b p r) := fun d os => h.below rec (below_regrown w d os) hl
def zero : R := ⟨0, 0⟩
theorem made_zero (n : Nat) : (madeCells (#[.int .i64 0, .int .i64 0] : Array Value) (n * 2)).toList = flat rec (List.replicate n zero) := by
  apply List.ext_getElem?
  intro i
  rw [madeCells]
  by_cases hi : i < n * 2
  · have h1 := flat_at rec (List.replicate n zero) (i / 2) (i % 2) zero (by rw [List.getElem?_replicate, if_pos (by omega)]) (by rw [rec_n]; omega)
    have e : i / 2 * 2 + i % 2 = i := by omega
    rw [rec_n, e] at h1
    rw [h1]
    have hs : (#[.int .i64 0, .int .i64 0] : Array Value).size = 2 := rfl
    simp only [hs, Array.toList_map, List.getElem?_map, Array.toList_range, List.getElem?_range hi, Option.map_some]
    have h7 : i % 2 < 2 := by omega
    generalize i % 2 = m at *
    match m, h7 with
    | 0, _ => rfl
    | 1, _ => rfl
  · rw [List.getElem?_eq_none (by simp; omega), List.getElem?_eq_none (by rw [flat_len, List.length_replicate, rec_n]; omega)]
/-- what a copy holds after k stores -/
def part (xs : List R) (n k : Nat) : List R := xs.take k ++ List.replicate (n - k) zero
theorem part_len (xs : List R) (n k : Nat) (h : xs.length = n) (hk : k ≤ n) : (part xs n k).length = n := by simp [part]; omega
theorem part_zero (xs : List R) (n : Nat) : part xs n 0 = List.replicate n zero := by simp [part]
theorem part_all (xs : List R) (n : Nat) (h : xs.length = n) : part xs n n = xs := by
  unfold part; rw [List.take_of_length_le (by omega), Nat.sub_self]; simp
theorem part_set (xs : List R) (n k : Nat) (h : xs.length = n) (hk : k < xs.length) : (part xs n k).set k xs[k] = part xs n (k + 1) := by
  unfold part
  have hl : (xs.take k).length = k := by rw [List.length_take]; omega
  rw [List.set_append_right _ _ (by omega), hl, Nat.sub_self]
  have e : n - k = (n - (k + 1)) + 1 := by omega
  rw [e, List.replicate_succ, List.set_cons_zero, List.take_succ_eq_append_getElem hk, List.append_assoc]
  rfl
theorem part_at (xs : List R) (n k : Nat) (h : xs.length = n) (hk : k < n) : (part xs n k)[k]? = some zero := by
  unfold part
  have hl : (xs.take k).length = k := by rw [List.length_take]; omega
  rw [List.getElem?_append_right (by omega), hl, Nat.sub_self, List.getElem?_replicate, if_pos (by omega)]
abbrev OwnR (w : World) (A g n cap : Nat) (ys : List R) : Prop := Own rec 55 w A (.slice (some ⟨g, 0, none⟩) n cap) ys
/-- a store of some fields, one after the other -/
theorem putAll {w : World} {A g n cap : Nat} {ys : List R} (hn : ys.length = n) (h : OwnR w A g n cap ys) (k : Nat) (r0 r : R) (hr : ys[k]? = some r0) :
    OwnR ((w.setCell ⟨g, k * 2, none⟩ (.int .i64 r.a)).setCell ⟨g, k * 2 + 1, none⟩ (.int .i64 r.b)) A g n cap (ys.set k r) := by
  have hk : k < ys.length := (List.getElem?_eq_some_iff.1 hr).1
  have at_ : ∀ x : R, (ys.set k x)[k]? = some x := fun x => by simp [hk]
  have hl : ∀ x : R, (ys.set k x).length = n := fun x => by rw [List.length_set]; exact hn
  have h0 := Own.put hn h k 0 r0 ({ r0 with a := r.a }) (.int .i64 r.a) hr (by decide) rfl
  have h1 := Own.put (hl _) h0 k 1 _ (r) (.int .i64 r.b) (at_ _) (by decide) rfl
  rw [List.set_set] at h1
  exact h1
end Go.Proofs.YtclpdpfnlmfogaaDoor.LIntA2
namespace Go.Proofs.YtclpdpfnlmfogaaDoor.CfQ
open Go.RowKit Bs Word Am Cf CfM
set_option linter.unusedVariables false
/-- the pairs that conflict -/
def pr (l : List P) (i k : Nat) : LIntA2.R := ⟨idAt l i, idAt l k⟩
def rowTo (l : List P) (i k : Nat) : List LIntA2.R := ((List.range k).filter fun j => decide (i < j) && cf l i j).map (pr l i)
def row (l : List P) (i : Nat) : List LIntA2.R := rowTo l i l.length
def rows (l : List P) (i : Nat) : List LIntA2.R := (List.range i).flatMap (row l)
def pairs (l : List P) : List LIntA2.R := rows l l.length
theorem rows_next (l : List P) (i : Nat) : rows l (i + 1) = rows l i ++ row l i := by unfold rows; rw [List.range_succ, List.flatMap_append]; simp
theorem rowTo_begin (l : List P) (i : Nat) : rowTo l i (i + 1) = [] := by
  unfold rowTo
  rw [List.filter_eq_nil_iff.2]
  · rfl
  · intro j hj
    have := List.mem_range.1 hj
    rw [decide_eq_false (by omega)]; simp
theorem rowTo_yes {l : List P} {i k : Nat} {a b : P} (ha : l[i]? = some a) (hb : l[k]? = some b) (h0 : i < k) (h : cf l i k = true) : rowTo l i (k + 1) = rowTo l i k ++ [⟨a.id, b.id⟩] := by
  unfold rowTo; rw [List.range_succ, List.filter_append, List.map_append]; simp [h, h0, pr, id_at ha, id_at hb]
theorem rowTo_no {l : List P} {i k : Nat} (h : cf l i k = false) : rowTo l i (k + 1) = rowTo l i k := by
  unfold rowTo; rw [List.range_succ, List.filter_append, List.map_append]; simp [h]
theorem rowTo_len (l : List P) (i k : Nat) : (rowTo l i k).length ≤ k := by
  unfold rowTo; rw [List.length_map]
  have := List.length_filter_le (fun j => decide (i < j) && cf l i j) (List.range k)
  rwa [List.length_range] at this
theorem rows_len (l : List P) : ∀ i, (rows l i).length ≤ i * l.length
  | 0 => by simp [rows]
  | i + 1 => by
    rw [rows_next, List.length_append, Nat.add_mul]
    have := rows_len l i
    have := rowTo_len l i l.length
    unfold row
    omega
def upTo (l : List P) (i : Nat) (js : List Nat) : List LIntA2.R := (js.filter fun j => decide (i < j)).map (pr l i)
theorem row_bits (l : List P) (i : Nat) : row l i = upTo l i (bitsL (riv l i) l.length) := by
  unfold row rowTo upTo bitsL
  rw [List.filter_filter]
  congr 1
  apply List.filter_congr
  intro j hj
  rw [riv_bit]
  unfold rivB
  by_cases h : i < j
  · rw [decide_eq_true h, decide_eq_true (show i ≠ j by omega)]; simp
  · rw [decide_eq_false h]; simp
theorem upTo_yes {l : List P} {i k : Nat} {js : List Nat} {a b : P} {m : Nat} (ha : l[i]? = some a) (hm : js[m]? = some k) (hb : l[k]? = some b) (h : i < k) : upTo l i (js.take (m + 1)) = upTo l i (js.take m) ++ [⟨a.id, b.id⟩] := by
  have hl : m < js.length := (List.getElem?_eq_some_iff.1 hm).1
  rw [List.getElem?_eq_getElem hl] at hm
  unfold upTo
  rw [List.take_succ_eq_append_getElem hl, List.filter_append, List.map_append, Option.some.inj hm]
  simp [h, pr, id_at ha, id_at hb]
theorem upTo_no {l : List P} {i k : Nat} {js : List Nat} {m : Nat} (hm : js[m]? = some k) (h : ¬ i < k) : upTo l i (js.take (m + 1)) = upTo l i (js.take m) := by
  have hl : m < js.length := (List.getElem?_eq_some_iff.1 hm).1
  rw [List.getElem?_eq_getElem hl] at hm
  unfold upTo
  rw [List.take_succ_eq_append_getElem hl, List.filter_append, List.map_append, Option.some.inj hm]
  simp [h]
theorem upTo_len (l : List P) (i : Nat) (js : List Nat) : (upTo l i js).length ≤ js.length := by
  unfold upTo; rw [List.length_map]; exact List.length_filter_le _ _
end Go.Proofs.YtclpdpfnlmfogaaDoor.CfQ
namespace Go.Proofs.YtclpdpfnlmfogaaDoor.LIntA2
open Go.RowKit Bs
set_option linter.unusedVariables false
def wt (r : R) : Nat := 0
def Fine (r : R) : Prop := True
def tot (xs : List R) : Nat := (xs.map wt).sum
theorem tot_next (xs : List R) (k : Nat) (h : k < xs.length) : tot (xs.take (k + 1)) = tot (xs.take k) + wt xs[k] := by
  rw [List.take_succ_eq_append_getElem h]; unfold tot; rw [List.map_append, List.sum_append]; simp
theorem tot_take_le (xs : List R) (k : Nat) : tot (xs.take k) ≤ tot xs := by
  have := congrArg tot (List.take_append_drop k xs)
  have e : ∀ a b : List R, tot (a ++ b) = tot a + tot b := fun a b => by simp [tot]
  rw [e] at this
  omega
theorem mem_le (xs : List R) (x : R) (h : x ∈ xs) : wt x ≤ tot xs := by
  induction xs with
  | nil => cases h
  | cons y ys ih =>
    simp only [tot, List.map_cons, List.sum_cons] at ih ⊢
    rcases List.mem_cons.1 h with rfl | h
    · omega
    · have := ih h; omega
/-- what is left behind something of a weight -/
def Left (t : Nat) (l : Int) (w : World) (e : Ending) (w' : World) : Prop := Below w.heap.size w w' ∧ ∃ x : Int, e = .returned (.int .i64 x) ∧ ((x < 0 ∧ l < t) ∨ (x = l - t ∧ (t : Int) ≤ l))
end Go.Proofs.YtclpdpfnlmfogaaDoor.LIntA2
namespace Go.Proofs.YtclpdpfnlmfogaaDoor.LIntA2
open Go.RowKit Bs
set_option linter.unusedVariables false
theorem infoK : (Tryd.prog.info? 55).map (fun i => (i.zero, i.size, i.bytes)) = some (some (.agg #[.int .i64 0, .int .i64 0]), 2, 16) := by kernel_rfl
theorem startB {w : World} {A g : Nat} (h : w.heap[g]? = some (.cells #[] 55 (0, 0))) (hA : A ≤ g) : w.ownsRow A 55 2 (.slice (some ⟨g, 0, none⟩) 0 0) 0 [] :=
  ⟨rfl, .inr ⟨g, 0, #[], rfl, hA, h, Nat.le_refl _, Nat.zero_le _, rfl, rfl⟩⟩
end Go.Proofs.YtclpdpfnlmfogaaDoor.LIntA2
namespace Go.Proofs.YtclpdpfnlmfogaaDoor.CmpI
open Go.RowKit Bs
set_option linter.unusedVariables false
def cmpI (a b : Int) : Int := if a < b then -1 else if b < a then 1 else 0
theorem isNaN (a : Int) (w : World) : Calls Tryd.prog 100 #[.int .i64 a] w fun e w' => e = .returned (.bool false) ∧ w = w' := by
  have h : (a != a) = false := by simp
  go_enter Tryd.func100, Tryd.ntmps100
  go_wp2_with fail
  go_ret
  exact ⟨by simp [go_sem], rfl⟩
theorem compare (a b : Int) (w : World) : Calls Tryd.prog 68 #[.int .i64 a, .int .i64 b] w fun e w' => e = .returned (.int .i64 (cmpI a b)) ∧ w = w' := by
  by_cases h1 : a < b
  · have HC := Lib.hid (show cmpI a b = -1 by unfold cmpI; rw [if_pos h1])
    go_enter Tryd.func68, Tryd.ntmps68
    go_wp2_with fail
    refine (isNaN _ _).mono ?_
    rintro e _ ⟨rfl, rfl⟩
    go_wp2_with fail
    refine (isNaN _ _).mono ?_
    rintro e _ ⟨rfl, rfl⟩
    go_wp2_with fail
    go_ret
    exact ⟨by rw [HC.out]; rfl, rfl⟩
  · by_cases h2 : b < a
    · have HC := Lib.hid (show cmpI a b = 1 by unfold cmpI; rw [if_neg h1, if_pos h2])
      go_enter Tryd.func68, Tryd.ntmps68
      go_wp2_with fail
      refine (isNaN _ _).mono ?_
      rintro e _ ⟨rfl, rfl⟩
      go_wp2_with fail
      refine (isNaN _ _).mono ?_
      rintro e _ ⟨rfl, rfl⟩
      go_wp2_with fail
      go_ret
      exact ⟨by rw [HC.out]; rfl, rfl⟩
    · have HC := Lib.hid (show cmpI a b = 0 by unfold cmpI; rw [if_neg h1, if_neg h2])
      go_enter Tryd.func68, Tryd.ntmps68
      go_wp2_with fail
      refine (isNaN _ _).mono ?_
      rintro e _ ⟨rfl, rfl⟩
      go_wp2_with fail
      refine (isNaN _ _).mono ?_
      rintro e _ ⟨rfl, rfl⟩
      go_wp2_with fail
      go_ret
      exact ⟨by rw [HC.out]; rfl, rfl⟩
theorem cmp_neg {a b : Int} : cmpI a b < 0 ↔ a < b := by
  unfold cmpI
  split
  · simp; assumption
  · split <;> simp <;> omega
theorem cmp_zero {a b : Int} : cmpI a b = 0 ↔ a = b := by
  unfold cmpI
  split
  · simp; omega
  · split
    · simp; omega
    · simp; omega
end Go.Proofs.YtclpdpfnlmfogaaDoor.CmpI
namespace Go.Proofs.YtclpdpfnlmfogaaDoor.LString
open Go.RowKit Bs
set_option linter.unusedVariables false
theorem infoK : (Tryd.prog.info? 9).map (fun i => (i.zero, i.size, i.bytes)) = some (some (.string ⟨#[]⟩), 1, 16) := by kernel_rfl
theorem startB {w : World} {A g : Nat} (h : w.heap[g]? = some (.cells #[] 9 (0, 0))) (hA : A ≤ g) : w.ownsRow A 9 1 (.slice (some ⟨g, 0, none⟩) 0 0) 0 [] :=
  ⟨rfl, .inr ⟨g, 0, #[], rfl, hA, h, Nat.le_refl _, Nat.zero_le _, rfl, rfl⟩⟩
end Go.Proofs.YtclpdpfnlmfogaaDoor.LString
