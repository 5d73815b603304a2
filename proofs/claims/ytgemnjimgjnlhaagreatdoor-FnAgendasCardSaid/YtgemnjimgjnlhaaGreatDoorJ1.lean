/- The data of the claim: records in memory, words, slices of the call's own, the cursor: texts joined by program. No condition. -/
import Derived.Test.YtgemnjimgjnlhaaGreatDoorRows
import Derived.WalkKit
import Derived.ProofKit
import Derived.OpenShut
import Derived.Lib.ItoaNum
import Derived.Lib.LaidTab
import Derived.Lib.TrailingZeros
import Derived.LaidLaws
import Derived.Stop.LaidErr
import Derived.WalkSpells
import Derived.WalkSmall
import Derived.Lib.Hide
import Derived.Lib.QuietBelow
import Derived.Deep.QuietTactic
import Derived.Deep.Fields
import Derived.BigQuiet
import Derived.IntWalk
import Derived.WalkLawsBesides
import Derived.Laws.IdiomCopy
import Derived.Deep.RegionHeld3
import Derived.Deep.AppendLies
import Derived.Deep.DrawnRows
import Derived.Deep.DeepCutAuto
import Derived.Lib.MinMax
import Derived.Maps.AppendAt
import Derived.RegionTactic
namespace Go.Proofs.YtgemnjimgjnlhaaGreatDoor.Frame
open Go.ChangeShapes Go.WideShapes Go.ChangeAt Go.RowKit
theorem own : ownKnob Tryz.prog.godebug = none := by kernel_rfl
theorem laidOut : laidOutB Tryz.prog = true := by kernel_rfl
/-- A slice of integers that came in: nil, or a row of cap cells that hold the numbers zs (all of them, up to the capacity). -/
def IsRow (k : IntKind) (w : World) (a : Option Addr) (len cap : Nat) (zs : List Int) : Prop :=
  (a = none ∧ len = 0 ∧ cap = 0 ∧ zs = []) ∨
  ∃ x, a = some x ∧ len ≤ cap ∧ cap ≤ maxLen ∧ zs.length = cap ∧ (∀ i, i < zs.length → w.cell? (x.add i) = some (.int k (zs.getD i 0))) ∧ ∀ n ∈ zs, (Lit.int k n).wf = true
/-- A slice of strings that came in. -/
def IsStrs (w : World) (a : Option Addr) (len cap : Nat) (ss : List ByteArray) : Prop :=
  (a = none ∧ len = 0 ∧ cap = 0 ∧ ss = []) ∨
  ∃ x, a = some x ∧ len ≤ cap ∧ cap ≤ maxLen ∧ ss.length = cap ∧ (∀ i, i < ss.length → w.cell? (x.add i) = some (.string (ss.getD i ByteArray.empty))) ∧ ∀ s ∈ ss, s.size ≤ maxLen
end Go.Proofs.YtgemnjimgjnlhaaGreatDoor.Frame
namespace Go.Proofs.YtgemnjimgjnlhaaGreatDoor.Laid
open Go.ChangeShapes Go.WideShapes Go.ChangeAt Go.RowKit

theorem own : ownKnob Tryz.prog.godebug = none := by kernel_rfl
theorem gPow : Tryz.prog.globalNamed "internal/strconv.uint64pow10" = some 1 := by kernel_rfl
theorem gPowType : (Tryz.prog.globals[1]?).map (·.type) = some 157 := by kernel_rfl
theorem cellsPow : Tryz.prog.cellsOf 157 = 20 := by kernel_rfl
theorem cellsU64 : Tryz.prog.cellsOf 61 = 1 := by kernel_rfl
theorem powData {H : Type} : (Rows.laid_internal_strconv_uint64pow10 : DataW H) = Lib.tabData .u64 Lib.pow10Tab := by kernel_rfl

def Pow (W : World) : Prop := Lib.TabIs Tryz.prog W "internal/strconv.uint64pow10" .u64 Lib.pow10Tab
theorem pow_of {W : World} {r : List (String × DataW Unit)} (h : laidMet Tryz.prog (("internal/strconv.uint64pow10", Rows.laid_internal_strconv_uint64pow10) :: r) W) : Pow W := by
  rw [powData] at h
  exact Lib.tabIs_of_head gPow gPowType Tryz.underlying157 Tryz.underlying61 cellsU64 cellsPow h
/-- The sentinel error holds an interface value that is not nil. -/
def Err (name : String) (W : World) : Prop := ∃ tp p, W.var? Tryz.prog name = some #[.iface tp p]
/-- A world that is as it was below its size holds the variables that it held. -/
theorem var_below {P : Program} {W W' : World} {n : String} {cs : Array Value} (hb : Below W.heap.size W W') (h : W.var? P n = some cs) : W'.var? P n = some cs := by
  unfold World.var? at h ⊢
  cases hg : P.globalNamed n with
  | none => simp [hg] at h
  | some g =>
    simp only [hg, Option.bind_some] at h ⊢
    have hlt : g < W.heap.size := by
      rcases Nat.lt_or_ge g W.heap.size with h' | h'
      · exact h'
      · simp [Array.getElem?_eq_none h'] at h
    rw [hb.block g hlt]
    exact h
theorem Pow.below {W W' : World} (h : Pow W) (hb : Below W.heap.size W W') : Pow W' := var_below hb h
theorem Err.below {n : String} {W W' : World} (h : Err n W) (hb : Below W.heap.size W W') : Err n W' := by
  obtain ⟨tp, p, e⟩ := h
  exact ⟨tp, p, var_below hb e⟩
theorem gT64 : Tryz.prog.globalNamed "math/bits.deBruijn64tab" = some 5 := by kernel_rfl
theorem gT64Type : (Tryz.prog.globals[5]?).map (·.type) = some 175 := by kernel_rfl
theorem cellsT64 : Tryz.prog.cellsOf 175 = 64 := by kernel_rfl
theorem cellsU8 : Tryz.prog.cellsOf 5 = 1 := by kernel_rfl
theorem t64Data {H : Type} : (Rows.laid_math_bits_deBruijn64tab : DataW H) = Lib.tabData .u8 (Lib.deBruijn64tab.map Int.ofNat) := by kernel_rfl
def T64 (W : World) : Prop := Lib.TabIs Tryz.prog W "math/bits.deBruijn64tab" .u8 (Lib.deBruijn64tab.map Int.ofNat)
theorem t64_of {W : World} {r : List (String × DataW Unit)} (h : laidMet Tryz.prog (("math/bits.deBruijn64tab", Rows.laid_math_bits_deBruijn64tab) :: r) W) : T64 W := by
  rw [t64Data] at h
  exact Lib.tabIs_of_head gT64 gT64Type Tryz.underlying175 Tryz.underlying5 cellsU8 cellsT64 h
theorem T64.below {W W' : World} (h : T64 W) (hb : Below W.heap.size W W') : T64 W' := var_below hb h
theorem T64.cell {W : World} (h : T64 W) (i : Nat) (hi : i < 64) : W.cell? ⟨5, i, none⟩ = some (.int .u8 (Lib.deBruijn64tab.getD i 0 : Nat)) := by
  have hl : i < (Lib.deBruijn64tab.map Int.ofNat).length := by rw [List.length_map]; exact hi
  rw [Lib.TabIs.cell h gT64 i hl]
  have hi2 : i < Lib.deBruijn64tab.length := hi
  simp only [List.getD_eq_getElem?_getD, List.getElem?_map, List.getElem?_eq_getElem hi2, Option.map_some, Option.getD_some]
  rfl
theorem gES : Tryz.prog.globalNamed "strconv.ErrSyntax" = some 2 := by kernel_rfl
theorem gESType : (Tryz.prog.globals[2]?).map (·.type) = some 115 := by kernel_rfl
theorem gER : Tryz.prog.globalNamed "strconv.ErrRange" = some 3 := by kernel_rfl
theorem gERType : (Tryz.prog.globals[3]?).map (·.type) = some 115 := by kernel_rfl
theorem star : "*" ++ "errors.errorString" = "*errors.errorString" := by decide
theorem rowES (u : TypeId) (h : Tryz.prog.typeName? 3 u = some "*errors.errorString") : u = 171 :=
  typeName_ptr_named (nm := "errors.errorString") (by rw [star]; kernel_rfl) (by kernel_rfl) (by decide) u (by rw [star]; exact h)
theorem cellsES : Tryz.prog.cellsOf 173 = 1 := by kernel_rfl
theorem cellsStr : Tryz.prog.cellsOf 9 = 1 := by kernel_rfl
theorem syntax_of {W : World} {r : List (String × DataW Unit)} (h : laidMet Tryz.prog (("strconv.ErrSyntax", Rows.laid_strconv_ErrSyntax) :: r) W) : Err "strconv.ErrSyntax" W := by
  obtain ⟨a0, s0, hv0, -, -, -⟩ := laid_sentinel h gES gESType Tryz.underlying115 rowES Tryz.underlying171 Tryz.underlying173 rfl rfl Tryz.underlying9 cellsES cellsStr
  exact ⟨_, _, hv0⟩
theorem range_of {W : World} {r : List (String × DataW Unit)} (h : laidMet Tryz.prog (("strconv.ErrRange", Rows.laid_strconv_ErrRange) :: r) W) : Err "strconv.ErrRange" W := by
  obtain ⟨a0, s0, hv0, -, -, -⟩ := laid_sentinel h gER gERType Tryz.underlying115 rowES Tryz.underlying171 Tryz.underlying173 rfl rfl Tryz.underlying9 cellsES cellsStr
  exact ⟨_, _, hv0⟩

/-- So many blocks has the settled world. -/
noncomputable def low : Nat := (World.holding Tryz.prog default ⟨#[], #[], []⟩).heap.size
abbrev synS : ByteArray := { data := #[105, 110, 118, 97, 108, 105, 100, 32, 115, 121, 110, 116, 97, 120] }
abbrev rngS : ByteArray := { data := #[118, 97, 108, 117, 101, 32, 111, 117, 116, 32, 111, 102, 32, 114, 97, 110, 103, 101] }
/-- The settled world, the listed variables holding what their initialisers lay. -/
noncomputable def laidWorld (os : Os) : World :=
  let w0 := World.holding Tryz.prog os ⟨#[.cells #[.string synS] 173, .cells #[.string rngS] 173], #[], []⟩
  { w0 with heap := w0.heap
    |>.modify 2 (fun | .cells _ t frozen => .cells #[.iface 171 (.pointer (some ⟨low, 0, none⟩))] t frozen | o => o)
    |>.modify 3 (fun | .cells _ t frozen => .cells #[.iface 171 (.pointer (some ⟨low + 1, 0, none⟩))] t frozen | o => o)
    |>.modify 1 (fun | .cells _ t frozen => .cells #[.int .u64 1, .int .u64 10, .int .u64 100, .int .u64 1000, .int .u64 10000, .int .u64 100000, .int .u64 1000000, .int .u64 10000000, .int .u64 100000000, .int .u64 1000000000, .int .u64 10000000000, .int .u64 100000000000, .int .u64 1000000000000, .int .u64 10000000000000, .int .u64 100000000000000, .int .u64 1000000000000000, .int .u64 10000000000000000, .int .u64 100000000000000000, .int .u64 1000000000000000000, .int .u64 10000000000000000000] t frozen | o => o)
    |>.modify 4 (fun | .cells _ t frozen => .cells #[.int .u8 0, .int .u8 1, .int .u8 28, .int .u8 2, .int .u8 29, .int .u8 14, .int .u8 24, .int .u8 3, .int .u8 30, .int .u8 22, .int .u8 20, .int .u8 15, .int .u8 25, .int .u8 17, .int .u8 4, .int .u8 8, .int .u8 31, .int .u8 27, .int .u8 13, .int .u8 23, .int .u8 21, .int .u8 19, .int .u8 16, .int .u8 7, .int .u8 26, .int .u8 12, .int .u8 18, .int .u8 6, .int .u8 11, .int .u8 5, .int .u8 10, .int .u8 9] t frozen | o => o)
    |>.modify 5 (fun | .cells _ t frozen => .cells #[.int .u8 0, .int .u8 1, .int .u8 56, .int .u8 2, .int .u8 57, .int .u8 49, .int .u8 28, .int .u8 3, .int .u8 61, .int .u8 58, .int .u8 42, .int .u8 50, .int .u8 38, .int .u8 29, .int .u8 17, .int .u8 4, .int .u8 62, .int .u8 47, .int .u8 59, .int .u8 36, .int .u8 45, .int .u8 43, .int .u8 51, .int .u8 22, .int .u8 53, .int .u8 39, .int .u8 33, .int .u8 30, .int .u8 24, .int .u8 18, .int .u8 12, .int .u8 5, .int .u8 63, .int .u8 55, .int .u8 48, .int .u8 27, .int .u8 60, .int .u8 41, .int .u8 37, .int .u8 16, .int .u8 46, .int .u8 35, .int .u8 44, .int .u8 21, .int .u8 52, .int .u8 32, .int .u8 23, .int .u8 11, .int .u8 54, .int .u8 26, .int .u8 40, .int .u8 15, .int .u8 34, .int .u8 20, .int .u8 31, .int .u8 10, .int .u8 25, .int .u8 14, .int .u8 19, .int .u8 9, .int .u8 13, .int .u8 8, .int .u8 7, .int .u8 6] t frozen | o => o) }
end Go.Proofs.YtgemnjimgjnlhaaGreatDoor.Laid
namespace Go.Proofs.YtgemnjimgjnlhaaGreatDoor.Bs
open Go.RowKit
set_option linter.unusedVariables false

/-- nothing has turned but the blocks from A up to B; blocks may have been laid -/
structure Apart (A B : Nat) (w w' : World) : Prop where
  os : w'.os = w.os
  tape : w'.tape = w.tape
  output : w'.output = w.output
  size : w.heap.size ≤ w'.heap.size
  block : ∀ k, k < w.heap.size → (k < A ∨ B ≤ k) → w'.heap[k]? = w.heap[k]?
theorem Apart.refl (A B : Nat) (w : World) : Apart A B w w := ⟨rfl, rfl, rfl, Nat.le_refl _, fun _ _ _ => rfl⟩
theorem Apart.trans {A B : Nat} {a b c : World} (h : Apart A B a b) (k : Apart A B b c) : Apart A B a c :=
  ⟨k.os.trans h.os, k.tape.trans h.tape, k.output.trans h.output, Nat.le_trans h.size k.size, fun i hi hn => (k.block i (Nat.lt_of_lt_of_le hi h.size) hn).trans (h.block i hi hn)⟩
theorem Apart.of_below {A B : Nat} {a b : World} (h : Below a.heap.size a b) : Apart A B a b := ⟨h.os, h.tape, h.output, h.size, fun j hj _ => h.block j hj⟩
theorem Apart.of_below_low {A : Nat} {a b : World} (h : Below A a b) : Apart A a.heap.size a b := ⟨h.os, h.tape, h.output, h.size, fun j hj hn => h.block j (by omega)⟩
theorem Apart.wide {A B A' B' : Nat} {a b : World} (h : Apart A B a b) (hA : A' ≤ A) (hB : B ≤ B') : Apart A' B' a b := ⟨h.os, h.tape, h.output, h.size, fun j hj hn => h.block j hj (by omega)⟩
theorem Apart.below {A B B' : Nat} {a b : World} (h : Apart A B a b) (hB : B' ≤ A) (hz : B' ≤ a.heap.size) : Below B' a b :=
  ⟨h.os, h.tape, h.output, h.size, fun k hk => h.block k (by omega) (.inl (by omega))⟩
theorem Apart.set {A B : Nat} {a b : World} (h : Apart A B a b) {p : Addr} (hA : A ≤ p.block) (hB : p.block < B) (v : Value) : Apart A B a (b.setCell p v) :=
  h.trans ⟨rfl, rfl, rfl, by simp, fun k _ hk => heap_setCell_other b p k v (by omega)⟩
theorem Apart.alloc {A B : Nat} {a b : World} (h : Apart A B a b) (o : Obj) : Apart A B a (b.alloc o) := h.trans (Apart.of_below ((Below.refl _ _).alloc (Nat.le_refl _) o))
theorem Apart.on {A B : Nat} {a b c : World} (h : Apart A B a b) (hb : Below b.heap.size b c) : Apart A B a c := h.trans (Apart.of_below hb)

/-- a fact that hangs on the blocks from A up to B alone -/
structure Loc (A B : Nat) (P : World → Prop) (w : World) : Prop where
  le : B ≤ w.heap.size
  all : ∀ w' : World, B ≤ w'.heap.size → (∀ j, A ≤ j → j < B → w'.heap[j]? = w.heap[j]?) → P w'
section
variable {A B : Nat} {P : World → Prop} {w w' : World}
theorem Loc.now (h : Loc A B P w) : P w := h.all w h.le fun _ _ _ => rfl
theorem Loc.same (h : Loc A B P w) (hz : B ≤ w'.heap.size) (hs : ∀ j, A ≤ j → j < B → w'.heap[j]? = w.heap[j]?) : Loc A B P w' :=
  ⟨hz, fun w2 h2 hs2 => h.all w2 h2 fun j h1 h3 => (hs2 j h1 h3).trans (hs j h1 h3)⟩
theorem Loc.kept (h : Loc A B P w) (hb : Below w.heap.size w w') : Loc A B P w' :=
  h.same (Nat.le_trans h.le hb.size) fun j _ hj => hb.block j (Nat.lt_of_lt_of_le hj h.le)
theorem Loc.under {C : Nat} (h : Loc A B P w) (hb : Below C w w') (hC : B ≤ C) : Loc A B P w' :=
  h.same (Nat.le_trans h.le hb.size) fun j _ hj => hb.block j (by omega)
theorem Loc.apart {A' B' : Nat} (h : Loc A B P w) (ha : Apart A' B' w w') (hd : B ≤ A' ∨ B' ≤ A) : Loc A B P w' :=
  h.same (Nat.le_trans h.le ha.size) fun j h1 h2 => ha.block j (by have := h.le; omega) (by omega)
theorem Loc.alloc (h : Loc A B P w) (o : Obj) : Loc A B P (w.alloc o) := h.kept ((Below.refl _ _).alloc (Nat.le_refl _) o)
theorem Loc.imp {Q : World → Prop} (h : Loc A B P w) (hi : ∀ W, P W → Q W) : Loc A B Q w := ⟨h.le, fun w2 h2 hs => hi _ (h.all w2 h2 hs)⟩
end

theorem cell_lt {w : World} {p : Addr} {v : Value} (h : w.cell? p = some v) : p.block < w.heap.size := by
  rcases Nat.lt_or_ge p.block w.heap.size with h' | h'
  · exact h'
  · simp [World.cell?, Array.getElem?_eq_none h'] at h

/-- a type of records: how many cells, which values -/
structure Rec (α : Type) where
  n : Nat
  vals : α → List Value
  len : ∀ a, (vals a).length = n
  pos : 0 < n
  one : ∀ a, ∀ u ∈ vals a, u.oneCell' = true
section
variable {α : Type} (T : Rec α)
def flat (xs : List α) : List Value := xs.flatMap T.vals
theorem flat_cons (x : α) (xs : List α) : flat T (x :: xs) = T.vals x ++ flat T xs := rfl
theorem flat_len : ∀ xs : List α, (flat T xs).length = xs.length * T.n
  | [] => by simp [flat]
  | x :: xs => by rw [flat_cons, List.length_append, flat_len xs, List.length_cons, T.len, Nat.add_mul, Nat.one_mul, Nat.add_comm]
theorem flat_append (xs ys : List α) : flat T (xs ++ ys) = flat T xs ++ flat T ys := by simp [flat]
theorem flat_one (xs : List α) : ∀ u ∈ flat T xs, u.oneCell' = true := by
  intro u hu
  obtain ⟨r, _, hr⟩ := List.mem_flatMap.1 hu
  exact T.one r u hr
theorem flat_at : ∀ (xs : List α) (k j : Nat) (r : α), xs[k]? = some r → j < T.n → (flat T xs)[k * T.n + j]? = (T.vals r)[j]?
  | [], k, j, r, h, _ => by simp at h
  | x :: xs, 0, j, r, h, hj => by
    simp only [List.getElem?_cons_zero, Option.some.injEq] at h
    subst h
    rw [flat_cons, Nat.zero_mul, Nat.zero_add, List.getElem?_append_left (by rw [T.len]; exact hj)]
  | x :: xs, k + 1, j, r, h, hj => by
    rw [List.getElem?_cons_succ] at h
    have e0 : (k + 1) * T.n = k * T.n + T.n := Nat.succ_mul k T.n
    rw [flat_cons, List.getElem?_append_right (by rw [T.len, e0]; omega), T.len]
    have e : (k + 1) * T.n + j - T.n = k * T.n + j := by rw [e0]; omega
    rw [e]
    exact flat_at xs k j r h hj
theorem flat_set : ∀ (ys : List α) (k j : Nat) (r r' : α) (v : Value), ys[k]? = some r → j < T.n → T.vals r' = (T.vals r).set j v → (flat T ys).set (k * T.n + j) v = flat T (ys.set k r')
  | [], k, j, r, r', v, h, _, _ => by simp at h
  | x :: ys, 0, j, r, r', v, h, hj, hv => by
    simp only [List.getElem?_cons_zero, Option.some.injEq] at h
    subst h
    show (T.vals x ++ flat T ys).set (0 * T.n + j) v = T.vals r' ++ flat T ys
    rw [Nat.zero_mul, Nat.zero_add, List.set_append_left _ _ (by rw [T.len]; exact hj), hv]
  | x :: ys, k + 1, j, r, r', v, h, hj, hv => by
    rw [List.getElem?_cons_succ] at h
    show (T.vals x ++ flat T ys).set ((k + 1) * T.n + j) v = T.vals x ++ flat T (ys.set k r')
    have e0 : (k + 1) * T.n = k * T.n + T.n := Nat.succ_mul k T.n
    rw [List.set_append_right _ _ (by rw [T.len, e0]; omega), T.len]
    have e : (k + 1) * T.n + j - T.n = k * T.n + j := by rw [e0]; omega
    rw [e, flat_set ys k j r r' v h hj hv]
/-- the cells of a record at a place -/
def At (w : World) (b p : Nat) (r : α) : Prop := ∀ j v, (T.vals r)[j]? = some v → w.cell? ⟨b, p + j, none⟩ = some v
theorem At.keep {w w' : World} {b p : Nat} {r : α} (h : At T w b p r) (hk : ∀ o, w'.cell? ⟨b, o, none⟩ = w.cell? ⟨b, o, none⟩) : At T w' b p r := fun j v hv => by rw [hk]; exact h j v hv
theorem At.below {w w' : World} {b p B : Nat} {r : α} (h : At T w b p r) (hb : Below B w w') (hl : b < B) : At T w' b p r := h.keep T fun o => hb.cell (p := ⟨b, o, none⟩) hl
/-- a slice of records lies in memory -/
def RowsAt (w : World) (a : Option Addr) (c : Nat) (xs : List α) : Prop :=
  xs.length ≤ c ∧ c ≤ maxLen ∧ (xs = [] ∨ ∃ b o, a = some ⟨b, o, none⟩ ∧ b < w.heap.size ∧ ∀ j r, xs[j]? = some r → At T w b (o + j * T.n) r)
theorem RowsAt.below {w w' : World} {a : Option Addr} {c : Nat} {xs : List α} (h : RowsAt T w a c xs) (hb : Below w.heap.size w w') : RowsAt T w' a c xs := by
  obtain ⟨h1, h2, h3⟩ := h
  refine ⟨h1, h2, ?_⟩
  rcases h3 with h3 | ⟨b, o, rfl, hlt, hc⟩
  · exact .inl h3
  · exact .inr ⟨b, o, rfl, Nat.lt_of_lt_of_le hlt hb.size, fun j r hr => (hc j r hr).below T hb hlt⟩
/-- the record at a place: where it lies -/
theorem RowsAt.at_ {w : World} {a : Option Addr} {c : Nat} {xs : List α} (h : RowsAt T w a c xs) : Hid (∀ j r, xs[j]? = some r → ∃ b o, a = some ⟨b, o, none⟩ ∧ b < w.heap.size ∧ At T w b (o + j * T.n) r) := by
  obtain ⟨_, _, h3⟩ := h
  intro j r hr
  rcases h3 with rfl | ⟨b, o, rfl, hl, hc⟩
  · simp at hr
  · exact ⟨b, o, rfl, hl, hc j r hr⟩
/-- a slice value that reads as these records -/
def Is (w : World) (v : Value) (xs : List α) : Prop := ∃ a c, v = .slice a xs.length c ∧ RowsAt T w a c xs
theorem Is.below {w w' : World} {v : Value} {xs : List α} (h : Is T w v xs) (hb : Below w.heap.size w w') : Is T w' v xs := by
  obtain ⟨a, c, e, h⟩ := h
  exact ⟨a, c, e, h.below T hb⟩
/-- a slice value, not nil, that reads as these records -/
def IsS (w : World) (v : Value) (xs : List α) : Prop := ∃ b o c, v = .slice (some ⟨b, o, none⟩) xs.length c ∧ b < w.heap.size ∧ xs.length ≤ c ∧ c ≤ maxLen ∧ ∀ j r, xs[j]? = some r → At T w b (o + j * T.n) r
theorem IsS.is {w : World} {v : Value} {xs : List α} (h : IsS T w v xs) : Is T w v xs := by
  obtain ⟨b, o, c, e, hb, h1, h2, h3⟩ := h
  exact ⟨_, c, e, h1, h2, .inr ⟨b, o, rfl, hb, h3⟩⟩
/-- all cells of a slice, one by one -/
theorem flat_cells {w : World} {b o : Nat} {xs : List α} (h : ∀ j r, xs[j]? = some r → At T w b (o + j * T.n) r) : ∀ j u, (flat T xs)[j]? = some u → w.cell? ⟨b, o + j, none⟩ = some u := by
  intro j u hu
  have hj : j < xs.length * T.n := by rw [← flat_len]; exact (List.getElem?_eq_some_iff.1 hu).1
  have hp := T.pos
  have hx : j / T.n < xs.length := (Nat.div_lt_iff_lt_mul hp).2 hj
  have hr := List.getElem?_eq_getElem hx
  have hm : j % T.n < T.n := Nat.mod_lt _ hp
  have hf := flat_at T xs (j / T.n) (j % T.n) _ hr hm
  have e : j / T.n * T.n + j % T.n = j := Nat.div_add_mod' j T.n
  rw [e, hu] at hf
  have := h _ _ hr (j % T.n) u hf.symm
  rwa [show o + j / T.n * T.n + j % T.n = o + j by rw [Nat.add_assoc, e]] at this
/-- a slice value of the call's own, its block at A or above, that holds these records -/
def Own (E : TypeId) (w : World) (A : Nat) (v : Value) (xs : List α) : Prop := w.ownsRow A E T.n v xs.length (flat T xs)
variable {T} {E : TypeId} {w w' : World} {A B : Nat} {v : Value} {xs : List α}
theorem Own.shape (h : Own T E w A v xs) : (v = .slice none 0 0 ∧ xs = []) ∨ ∃ g cap, v = .slice (some ⟨g, 0, none⟩) xs.length cap ∧ A ≤ g ∧ g < w.heap.size ∧ xs.length ≤ cap ∧ cap ≤ maxLen := by
  rcases h.2 with ⟨h', hz⟩ | ⟨g, cap, cur, h', hbg, hg, hnc, hcm, _, _⟩
  · exact .inl ⟨h', List.eq_nil_of_length_eq_zero hz⟩
  · exact .inr ⟨g, cap, h', hbg, (Array.getElem?_eq_some_iff.1 hg).1, hnc, hcm⟩
theorem Own.same (h : Own T E w A v xs) (hs : ∀ k, v.ownBlock = some k → w'.heap[k]? = w.heap[k]?) : Own T E w' A v xs := by
  refine ⟨h.1, ?_⟩
  rcases h.2 with hn | ⟨g, cap, cur, rfl, hbg, hgg, rest⟩
  · exact .inl hn
  · refine .inr ⟨g, cap, cur, rfl, hbg, ?_, rest⟩
    rw [hs g rfl]
    exact hgg
theorem Own.kept (h : Own T E w A v xs) (hb : Below w.heap.size w w') : Own T E w' A v xs := h.same fun k hk => hb.block k (h.lt k hk).2
theorem Own.low {A' : Nat} (h : Own T E w A v xs) (hA : A' ≤ A) : Own T E w A' v xs := by
  refine ⟨h.1, ?_⟩
  rcases h.2 with hn | ⟨g, cap, cur, rfl, hbg, rest⟩
  · exact .inl hn
  · exact .inr ⟨g, cap, cur, rfl, Nat.le_trans hA hbg, rest⟩
theorem Own.alloc (h : Own T E w A v xs) (o : Obj) : Own T E (w.alloc o) A v xs := h.kept ((Below.refl _ _).alloc (Nat.le_refl _) o)
/-- an empty slice that was just built -/
theorem Own.start (h : A ≤ w.heap.size) : Own T E (w.alloc (.cells #[] E)) A (.slice (some ⟨w.heap.size, 0, none⟩) 0 0) [] := by
  refine ⟨by simp [flat], .inr ⟨w.heap.size, 0, #[], rfl, h, ?_, Nat.le_refl _, Nat.zero_le _, by simp, by simp [flat]⟩⟩
  show (w.heap.push _)[w.heap.size]? = _
  rw [Array.getElem?_push, if_pos rfl]
theorem Own.nil : Own T E w A (.slice none 0 0) [] := ⟨by simp [flat], .inl ⟨rfl, rfl⟩⟩
theorem Own.is (h : Own T E w A v xs) : Is T w v xs := by
  rcases h.shape with ⟨rfl, rfl⟩ | ⟨g, cap, rfl, _, hlt, hc, hm⟩
  · exact ⟨none, 0, rfl, Nat.le_refl _, Nat.zero_le _, .inl rfl⟩
  · refine ⟨_, cap, rfl, hc, hm, .inr ⟨g, 0, rfl, hlt, fun j r hr i u hu => ?_⟩⟩
    have hi : i < T.n := by rw [← T.len r]; exact (List.getElem?_eq_some_iff.1 hu).1
    have hcell := World.ownsRow.cells h (g := g) rfl (j * T.n + i) u (by rw [flat_at T xs j i r hr hi]; exact hu)
    rw [Go.WideShapes.add_plain] at hcell
    rw [show 0 + j * T.n + i = 0 + (j * T.n + i) by omega]
    exact hcell
theorem Own.isS (h : Own T E w A v xs) (hv : ∃ g, v.ownBlock = some g) : IsS T w v xs := by
  obtain ⟨g0, hg0⟩ := hv
  rcases h.shape with ⟨rfl, rfl⟩ | ⟨g, cap, rfl, _, hlt, hc, hm⟩
  · cases hg0
  · refine ⟨g, 0, cap, rfl, hlt, hc, hm, fun j r hr i u hu => ?_⟩
    have hi : i < T.n := by rw [← T.len r]; exact (List.getElem?_eq_some_iff.1 hu).1
    have hcell := World.ownsRow.cells h (g := g) rfl (j * T.n + i) u (by rw [flat_at T xs j i r hr hi]; exact hu)
    rw [Go.WideShapes.add_plain] at hcell
    rw [show 0 + j * T.n + i = 0 + (j * T.n + i) by omega]
    exact hcell
theorem Own.rows {g n cap : Nat} (hn : xs.length = n) (h : Own T E w A (.slice (some ⟨g, 0, none⟩) n cap) xs) : RowsAt T w (some ⟨g, 0, none⟩) cap xs := by
  obtain ⟨a, c, e, hr⟩ := h.is
  simp only [Value.slice.injEq] at e
  obtain ⟨rfl, _, rfl⟩ := e
  exact hr
/-- the cells of a record of the row -/
theorem Own.at_ {g n cap : Nat} (h : Own T E w A (.slice (some ⟨g, 0, none⟩) n cap) xs) (k : Nat) (r : α) (hr : xs[k]? = some r) : At T w g (k * T.n) r := fun i u hu => by
  have hi : i < T.n := by rw [← T.len r]; exact (List.getElem?_eq_some_iff.1 hu).1
  have hcell := World.ownsRow.cells h (g := g) rfl (k * T.n + i) u (by rw [flat_at T xs k i r hr hi]; exact hu)
  rw [Go.WideShapes.add_plain] at hcell
  rw [show k * T.n + i = 0 + (k * T.n + i) by omega]
  exact hcell
theorem Own.frozen {g n cap : Nat} (hn : xs.length = n) (h : Own T E w A (.slice (some ⟨g, 0, none⟩) n cap) xs) (o : Nat) : w.frozen? ⟨g, o, none⟩ = false := by
  subst hn
  exact World.ownsRow.frozenAt h o
/-- a store into one cell -/
theorem Own.put {g n cap : Nat} (hn : xs.length = n) (h : Own T E w A (.slice (some ⟨g, 0, none⟩) n cap) xs) (k j : Nat) (r r' : α) (u : Value) (hr : xs[k]? = some r) (hj : j < T.n) (hv : T.vals r' = (T.vals r).set j u) :
    Own T E (w.setCell ⟨g, k * T.n + j, none⟩ u) A (.slice (some ⟨g, 0, none⟩) n cap) (xs.set k r') := by
  subst hn
  unfold Own
  rw [← flat_set T xs k j r r' u hr hj hv, List.length_set]
  exact (World.ownsRow.stored h (k * T.n + j) u).1
/-- made by an append of one record that lies somewhere -/
theorem Own.next {n : Nat} {news : List α} (h : w.ownsRow A E T.n v (xs.length + news.length) (flat T xs ++ flat T news)) : Own T E w A v (xs ++ news) := by
  unfold Own
  rw [List.length_append, flat_append]
  exact h
/-- an owned value whose block lies between A and B -/
def OwnB (T : Rec α) (E : TypeId) (A B : Nat) (v : Value) (xs : List α) (w : World) : Prop := Own T E w A v xs ∧ ∀ k, v.ownBlock = some k → k < B
theorem Own.loc (h : Own T E w A v xs) : Loc A w.heap.size (OwnB T E A w.heap.size v xs) w :=
  ⟨Nat.le_refl _, fun w' hz hs => ⟨h.same fun k hk => hs k (h.lt k hk).1 (h.lt k hk).2, fun k hk => (h.lt k hk).2⟩⟩
theorem OwnB.loc (h : OwnB T E A B v xs w) (hB : B ≤ w.heap.size) : Loc A B (OwnB T E A B v xs) w :=
  ⟨hB, fun w' hz hs => ⟨h.1.same fun k hk => hs k (h.1.lt k hk).1 (h.2 k hk), h.2⟩⟩
/-- what came in -/
theorem Is.loc (h : Is T w v xs) : Loc 0 w.heap.size (fun W => Is T W v xs) w := by
  refine ⟨Nat.le_refl _, fun w' hz hs => ?_⟩
  obtain ⟨a, c, e, h1, h2, h3⟩ := h
  refine ⟨a, c, e, h1, h2, ?_⟩
  rcases h3 with h3 | ⟨b, o, rfl, hlt, hc⟩
  · exact .inl h3
  · refine .inr ⟨b, o, rfl, Nat.lt_of_lt_of_le hlt hz, fun j r hr => (hc j r hr).keep T fun p => ?_⟩
    exact World.cell?_of_block (a := ⟨b, p, none⟩) (hs b (Nat.zero_le _) hlt)
end
theorem boxLoc {α : Type} (T : Rec α) {w : World} {o : Obj} {r : α} (h : At T (w.alloc o) w.heap.size 0 r) : Loc w.heap.size (w.heap.size + 1) (fun W => At T W w.heap.size 0 r) (w.alloc o) :=
  ⟨by simp, fun w' hz hs => h.keep T fun p => World.cell?_of_block (a := ⟨w.heap.size, p, none⟩) (hs _ (Nat.le_refl _) (Nat.lt_succ_self _))⟩
/-- an append to a slice of the call's own, as a step of a region that draws its order -/
theorem step_append {P : Program} {w : World} {ops : Array Oper} {o : Oper} {a : Act} {K : Act → World → Prop} {Q : Exit → Act → World → Prop} {E : Prop} (hgd : o.guard = none) (s x : Operand) (t : TypeId)
    (ho : o.op = .call { callee := .builtin .append, args := #[s, x], argTypes := #[t, t] })
    (base : Nat) (e : TypeId) (i : TypeInfo) (z : Value) (size bytes : Nat) (ht : P.underlying t = some (.slice e)) (hi : P.info? e = some i) (hz : i.zero = some z)
    (hsize : i.size = size) (hby : i.bytes = bytes) (hzs : z.cells.size = size) (hsz : 0 < size)
    (v : Value) (n : Nat) (xs : List Value) (hs : a.eval s = v) (hown : w.ownsRow base e size v n xs)
    (ad : Addr) (m c : Nat) (news : List Value) (hx : a.eval x = .slice (some ad) m c) (hl : news.length = m * size) (hnews : ∀ j u, news[j]? = some u → w.cell? (ad.add j) = some u) (h1 : ∀ u ∈ news, u.oneCell' = true)
    (h63 : n + m ≤ maxLen) (hbytes : (n + m) * bytes ≤ 140737488355328) (hbase : base ≤ w.heap.size)
    (h : ∀ v' w', w'.ownsRow base e size v' (n + m) (xs ++ news) → w.grownBy w' v.ownBlock → K (a.put o.dst v') w') :
    if Region.wanted o (yielded ops a.tmps) = true then Oper.wp P o a w K Q else E := by
  have hw : Region.wanted o (yielded ops a.tmps) = true := by simp [Region.wanted, hgd]
  rw [if_pos hw]
  exact wp_append_own w s x t ho base e i z size bytes ht hi hz hsize hby hzs hsz v n xs hs hown ad m c news hx hl hnews h1 h63 hbytes hbase fun v' w' h2 h3 _ => h v' w' h2 h3
theorem ret_true : Ending.returned (.bool true) = .returned (.bool true) := rfl
/-- a callee that leaves the world alone, met in a quiet region -/
theorem quiet_eq {P : Program} {f : FuncId} {args : Array Value} {w : World} {n : Nat} {v : Value}
    (h : Calls P f args (w.drewN n) fun e w' => e = .returned v ∧ w.drewN n = w') : Calls P f args (w.drewN n) fun e w'' => e = .returned v ∧ ∃ m, w'' = w.drewN m :=
  h.mono fun _ _ ⟨he, hm⟩ => ⟨he, n, hm.symm⟩
/-- the same in a region where memory may be made -/
theorem regrown_eq {P : Program} {f : FuncId} {args : Array Value} {w : World} {d : Nat} {os : Array Obj} {v : Value}
    (h : Calls P f args (Sort.grow (redrawn w d) os) fun e w' => e = .returned v ∧ Sort.grow (redrawn w d) os = w') : Calls P f args (Sort.grow (redrawn w d) os) fun e w'' => e = .returned v ∧ ∃ p : Regrown, w'' = Sort.grow (redrawn w p.d) p.os :=
  Calls.regrown_of (h.mono fun _ _ ⟨he, hm⟩ => ⟨he, by rw [← hm]; exact Below.refl _ _⟩)
theorem drawn_below (w : World) (n : Nat) : Below w.heap.size w (w.drewN n) := ⟨rfl, rfl, rfl, Nat.le_refl _, fun _ _ => rfl⟩
/-- the head of a slice, and its rest -/
theorem IsS.take {α : Type} (T : Rec α) {w : World} {b o n c k : Nat} {z : List α} (h : IsS T w (.slice (some ⟨b, o, none⟩) n c) z) (hk : k ≤ n) : IsS T w (.slice (some ⟨b, o, none⟩) k c) (z.take k) := by
  obtain ⟨b', o', c', e, hbl, h1, h2, h3⟩ := h
  simp only [Value.slice.injEq, Option.some.injEq, Addr.mk.injEq, and_true] at e
  obtain ⟨⟨rfl, rfl⟩, rfl, rfl⟩ := e
  refine ⟨b, o, c, by rw [List.length_take, Nat.min_eq_left hk], hbl, by rw [List.length_take, Nat.min_eq_left hk]; omega, h2, fun i r hr => h3 i r ?_⟩
  rw [List.getElem?_take] at hr
  split at hr
  · exact hr
  · cases hr
theorem IsS.drop {α : Type} (T : Rec α) {w : World} {b o n c k : Nat} {z : List α} (t : Option Addr) (ht : t = if c = k then some ⟨b, o, none⟩ else some ⟨b, o + k * T.n, none⟩) (h : IsS T w (.slice (some ⟨b, o, none⟩) n c) z) (hk : k ≤ n) (m3 c3 : Nat) (hm3 : m3 = n - k) (hc3 : c3 = c - k) : IsS T w (.slice t m3 c3) (z.drop k) := by
  subst hm3 hc3
  obtain ⟨b', o', c', e, hbl, h1, h2, h3⟩ := h
  simp only [Value.slice.injEq, Option.some.injEq, Addr.mk.injEq, and_true] at e
  obtain ⟨⟨rfl, rfl⟩, rfl, rfl⟩ := e
  by_cases hck : c = k
  · rw [if_pos hck] at ht
    subst ht
    refine ⟨b, o, c - k, by rw [List.length_drop], hbl, by rw [List.length_drop]; omega, by unfold maxLen at h2 ⊢; omega, fun i r hr => ?_⟩
    rw [List.drop_eq_nil_of_le (by omega)] at hr
    simp at hr
  · rw [if_neg hck] at ht
    subst ht
    refine ⟨b, o + k * T.n, c - k, by rw [List.length_drop], hbl, by rw [List.length_drop]; omega, by unfold maxLen at h2 ⊢; omega, fun i r hr => ?_⟩
    have h := h3 (k + i) r (by rw [List.getElem?_drop] at hr; exact hr)
    rwa [Nat.add_mul, ← Nat.add_assoc] at h
theorem IsS.below {α : Type} (T : Rec α) {w w' : World} {v : Value} {z : List α} (h : IsS T w v z) (hb : Below w.heap.size w w') : IsS T w' v z := by
  obtain ⟨b, o, c, e, hbl, h1, h2, h3⟩ := h
  exact ⟨b, o, c, e, Nat.lt_of_lt_of_le hbl hb.size, h1, h2, fun j r hr => (h3 j r hr).below T hb hbl⟩
/-- a slice of one record that lies at a block's head -/
theorem IsS.unit {α : Type} (T : Rec α) {w : World} {g : Nat} {x : α} (hg : g < w.heap.size) (h : At T w g 0 x) : IsS T w (.slice (some ⟨g, 0, none⟩) 1 1) [x] := by
  refine ⟨g, 0, 1, rfl, hg, Nat.le_refl _, by unfold maxLen; omega, fun i r hr => ?_⟩
  match i, hr with
  | 0, hr =>
    simp only [List.getElem?_cons_zero, Option.some.injEq] at hr
    subst hr
    rw [Nat.zero_mul]
    exact h
  | i + 1, hr => simp at hr
theorem alloc_two (W : World) (o1 o2 : Obj) : ((W.alloc o1).alloc o2).heap[W.heap.size + 1]? = some o2 := by simpa using heap_alloc_new (W.alloc o1) o2
theorem alloc_old (W : World) (o1 o2 : Obj) : ((W.alloc o1).alloc o2).heap[W.heap.size]? = some o1 := (Below.heap_alloc _ _ _ (by simp)).trans (heap_alloc_new _ _)
theorem ite_slice (c : Prop) [Decidable c] (x y : Addr) (n m : Nat) : Value.slice (if c then some x else some y) n m = .slice (some (if c then x else y)) n m := by split <;> rfl
theorem own_in {w : World} {A : Nat} {e : TypeId} {size n : Nat} {v : Value} {xs : List Value} (h : w.ownsRow A e size v (0 + n) ([] ++ xs)) : w.ownsRow A e size v n xs := by
  rwa [Nat.zero_add, List.nil_append] at h
theorem own_ge {B g n c k : Nat} (hj : (Value.slice (some ⟨g, 0, none⟩) n c).ownBlock = some k) (h : B ≤ g) : B ≤ k := by
  simp only [Value.ownBlock, Option.some.injEq] at hj
  omega
theorem IsS.flatCells {α : Type} (T : Rec α) {w : World} {b o n c : Nat} {z : List α} (h : IsS T w (.slice (some ⟨b, o, none⟩) n c) z) : ∀ j u, (flat T z)[j]? = some u → w.cell? (Addr.add ⟨b, o, none⟩ j) = some u := fun j u hu => by
  obtain ⟨b', o', c', e, hbl, h1, h2, h3⟩ := h
  simp only [Value.slice.injEq, Option.some.injEq, Addr.mk.injEq, and_true] at e
  obtain ⟨⟨rfl, rfl⟩, rfl, rfl⟩ := e
  rw [Go.WideShapes.add_plain]
  exact flat_cells T h3 j u hu
theorem own_of {α : Type} (T : Rec α) {E : TypeId} {w : World} {A cnt : Nat} {v : Value} {cells : List Value} {xs : List α} (h : w.ownsRow A E T.n v cnt cells) (hc : xs.length = cnt) (hf : flat T xs = cells) : Own T E w A v xs := by
  unfold Own; rw [hc, hf]; exact h
end Go.Proofs.YtgemnjimgjnlhaaGreatDoor.Bs
namespace Go.Proofs.YtgemnjimgjnlhaaGreatDoor.LAgendaItem
open Go.RowKit Bs
set_option linter.unusedVariables false

structure R where
  id : Int
  title : ByteArray
  mins : Int
  time : Int
def vals (r : R) : List Value := [.int .i64 r.id, .string r.title, .int .i64 r.mins, .int .i64 r.time]
/-- the struct as a type of records -/
def rec : Rec R := ⟨4, vals, fun _ => rfl, by decide, fun r u hu => by
  simp only [vals, List.mem_cons, List.not_mem_nil, or_false] at hu
  rcases hu with rfl | rfl | rfl | rfl <;> rfl⟩
theorem rec_n : rec.n = 4 := rfl
theorem info : (Tryz.prog.info? 52).map (fun i => (i.zero, i.size)) = some (some (.agg #[.int .i64 0, .string ⟨#[]⟩, .int .i64 0, .int .i64 0]), 4) := by kernel_rfl
theorem cells {w : World} {b p : Nat} {r : R} (h : At rec w b p r) : w.cell? ⟨b, p, none⟩ = some (.int .i64 r.id) ∧ w.cell? ⟨b, p + 1, none⟩ = some (.string r.title) ∧ w.cell? ⟨b, p + 2, none⟩ = some (.int .i64 r.mins) ∧ w.cell? ⟨b, p + 3, none⟩ = some (.int .i64 r.time) :=
  ⟨h 0 _ rfl, h 1 _ rfl, h 2 _ rfl, h 3 _ rfl⟩
theorem cells0 {w : World} {b : Nat} {r : R} (h : At rec w b 0 r) : w.cell? ⟨b, 0, none⟩ = some (.int .i64 r.id) ∧ w.cell? ⟨b, 1, none⟩ = some (.string r.title) ∧ w.cell? ⟨b, 2, none⟩ = some (.int .i64 r.mins) ∧ w.cell? ⟨b, 3, none⟩ = some (.int .i64 r.time) := by
  have := cells h
  simpa only [Nat.zero_add] using this
theorem at_of {w : World} {b p : Nat} {r : R} (h0 : w.cell? ⟨b, p, none⟩ = some (.int .i64 r.id)) (h1 : w.cell? ⟨b, p + 1, none⟩ = some (.string r.title)) (h2 : w.cell? ⟨b, p + 2, none⟩ = some (.int .i64 r.mins)) (h3 : w.cell? ⟨b, p + 3, none⟩ = some (.int .i64 r.time)) : At rec w b p r := fun j v hv => by
  have hj : j < 4 := (List.getElem?_eq_some_iff.1 hv).1
  match j, hj with
  | 0, _ => rw [← hv]; exact h0
  | 1, _ => rw [← hv]; exact h1
  | 2, _ => rw [← hv]; exact h2
  | 3, _ => rw [← hv]; exact h3
/-- a record that was boxed -/
theorem box (w : World) (r : R) (t : TypeId) : At rec (w.alloc (.cells #[.int .i64 r.id, .string r.title, .int .i64 r.mins, .int .i64 r.time] t)) w.heap.size 0 r := at_of (by simp [go_sem]) (by simp [go_sem]) (by simp [go_sem]) (by simp [go_sem])
/-- facts of a record in all worlds that only grew -/
theorem grown {w : World} {b p : Nat} {r : R} (h : At rec w b p r) (hl : b < w.heap.size) : Hid (∀ d os, At rec (Sort.grow (redrawn w d) os) b p r) := fun d os => h.below rec (below_regrown w d os) hl
def zero : R := ⟨0, ⟨#[]⟩, 0, 0⟩
theorem made_zero (n : Nat) : (madeCells (#[.int .i64 0, .string ⟨#[]⟩, .int .i64 0, .int .i64 0] : Array Value) (n * 4)).toList = flat rec (List.replicate n zero) := by
  apply List.ext_getElem?
  intro i
  rw [madeCells]
  by_cases hi : i < n * 4
  · have h1 := flat_at rec (List.replicate n zero) (i / 4) (i % 4) zero (by rw [List.getElem?_replicate, if_pos (by omega)]) (by rw [rec_n]; omega)
    have e : i / 4 * 4 + i % 4 = i := by omega
    rw [rec_n, e] at h1
    rw [h1]
    have hs : (#[.int .i64 0, .string ⟨#[]⟩, .int .i64 0, .int .i64 0] : Array Value).size = 4 := rfl
    simp only [hs, Array.toList_map, List.getElem?_map, Array.toList_range, List.getElem?_range hi, Option.map_some]
    have h7 : i % 4 < 4 := by omega
    generalize i % 4 = m at *
    match m, h7 with
    | 0, _ => rfl
    | 1, _ => rfl
    | 2, _ => rfl
    | 3, _ => rfl
  · rw [List.getElem?_eq_none (by simp; omega), List.getElem?_eq_none (by rw [flat_len, List.length_replicate, rec_n]; omega)]
/-- what a copy holds after k stores -/
def part (xs : List R) (n k : Nat) : List R := xs.take k ++ List.replicate (n - k) zero
theorem part_len (xs : List R) (n k : Nat) (h : xs.length = n) (hk : k ≤ n) : (part xs n k).length = n := by simp [part]; omega
theorem part_zero (xs : List R) (n : Nat) : part xs n 0 = List.replicate n zero := by simp [part]
theorem part_all (xs : List R) (n : Nat) (h : xs.length = n) : part xs n n = xs := by
  unfold part; rw [List.take_of_length_le (by omega), Nat.sub_self]; simp
theorem part_set (xs : List R) (n k : Nat) (h : xs.length = n) (hk : k < xs.length) : (part xs n k).set k xs[k] = part xs n (k + 1) := by
  unfold part
  have hl : (xs.take k).length = k := by rw [List.length_take]; omega
  rw [List.set_append_right _ _ (by omega), hl, Nat.sub_self]
  have e : n - k = (n - (k + 1)) + 1 := by omega
  rw [e, List.replicate_succ, List.set_cons_zero, List.take_succ_eq_append_getElem hk, List.append_assoc]
  rfl
theorem part_at (xs : List R) (n k : Nat) (h : xs.length = n) (hk : k < n) : (part xs n k)[k]? = some zero := by
  unfold part
  have hl : (xs.take k).length = k := by rw [List.length_take]; omega
  rw [List.getElem?_append_right (by omega), hl, Nat.sub_self, List.getElem?_replicate, if_pos (by omega)]
abbrev OwnR (w : World) (A g n cap : Nat) (ys : List R) : Prop := Own rec 52 w A (.slice (some ⟨g, 0, none⟩) n cap) ys
/-- a store of some fields, one after the other -/
theorem putAll {w : World} {A g n cap : Nat} {ys : List R} (hn : ys.length = n) (h : OwnR w A g n cap ys) (k : Nat) (r0 r : R) (hr : ys[k]? = some r0) :
    OwnR ((((w.setCell ⟨g, k * 4, none⟩ (.int .i64 r.id)).setCell ⟨g, k * 4 + 1, none⟩ (.string r.title)).setCell ⟨g, k * 4 + 2, none⟩ (.int .i64 r.mins)).setCell ⟨g, k * 4 + 3, none⟩ (.int .i64 r.time)) A g n cap (ys.set k r) := by
  have hk : k < ys.length := (List.getElem?_eq_some_iff.1 hr).1
  have at_ : ∀ x : R, (ys.set k x)[k]? = some x := fun x => by simp [hk]
  have hl : ∀ x : R, (ys.set k x).length = n := fun x => by rw [List.length_set]; exact hn
  have h0 := Own.put hn h k 0 r0 ({ r0 with id := r.id }) (.int .i64 r.id) hr (by decide) rfl
  have h1 := Own.put (hl _) h0 k 1 _ ({ r0 with id := r.id, title := r.title }) (.string r.title) (at_ _) (by decide) rfl
  rw [List.set_set] at h1
  have h2 := Own.put (hl _) h1 k 2 _ ({ r0 with id := r.id, title := r.title, mins := r.mins }) (.int .i64 r.mins) (at_ _) (by decide) rfl
  rw [List.set_set] at h2
  have h3 := Own.put (hl _) h2 k 3 _ (r) (.int .i64 r.time) (at_ _) (by decide) rfl
  rw [List.set_set] at h3
  exact h3
end Go.Proofs.YtgemnjimgjnlhaaGreatDoor.LAgendaItem
namespace Go.Proofs.YtgemnjimgjnlhaaGreatDoor.LInt
open Go.RowKit Bs
set_option linter.unusedVariables false
abbrev R := Int
def vals (r : R) : List Value := [.int .i64 r]
/-- one value as a type of records -/
def rec : Rec R := ⟨1, vals, fun _ => rfl, by decide, fun r u hu => by
  simp only [vals, List.mem_cons, List.not_mem_nil, or_false] at hu
  rcases hu with rfl
  rfl⟩
theorem rec_n : rec.n = 1 := rfl
theorem info : (Tryz.prog.info? 3).map (fun i => (i.zero, i.size)) = some (some (.int .i64 0), 1) := by kernel_rfl
theorem cells {w : World} {b p : Nat} {r : R} (h : At rec w b p r) : w.cell? ⟨b, p, none⟩ = some (.int .i64 r) := h 0 _ rfl
theorem at_of {w : World} {b p : Nat} {r : R} (h0 : w.cell? ⟨b, p, none⟩ = some (.int .i64 r)) : At rec w b p r := fun j v hv => by
  have hj : j < 1 := (List.getElem?_eq_some_iff.1 hv).1
  obtain rfl : j = 0 := by omega
  rw [← hv]; exact h0
/-- facts of a value in all worlds that only grew -/
theorem grown {w : World} {b p : Nat} {r : R} (h : At rec w b p r) (hl : b < w.heap.size) : Hid (∀ d os, At rec (Sort.grow (redrawn w d) os) b p r) := fun d os => h.below rec (below_regrown w d os) hl
theorem flat_eq (xs : List R) : flat rec xs = xs.map (fun r => .int .i64 r) := by
  induction xs with
  | nil => rfl
  | cons x xs ih => rw [flat_cons, ih]; rfl
def zero : R := 0
theorem made_zero (n : Nat) : (madeCells (#[.int .i64 0] : Array Value) n).toList = flat rec (List.replicate n zero) := by
  apply List.ext_getElem?
  intro i
  rw [madeCells, flat_eq]
  by_cases hi : i < n
  · simp only [Array.toList_map, List.getElem?_map, Array.toList_range, List.getElem?_range hi, Option.map_some, List.getElem?_replicate, if_pos hi]
    have h1 : i % (#[.int .i64 0] : Array Value).size = 0 := Nat.mod_one i
    rw [h1]
    rfl
  · rw [List.getElem?_eq_none (by simp; omega), List.getElem?_eq_none (by simp; omega)]
/-- what a copy holds after k stores -/
def part (xs : List R) (n k : Nat) : List R := xs.take k ++ List.replicate (n - k) zero
theorem part_len (xs : List R) (n k : Nat) (h : xs.length = n) (hk : k ≤ n) : (part xs n k).length = n := by simp [part]; omega
theorem part_zero (xs : List R) (n : Nat) : part xs n 0 = List.replicate n zero := by simp [part]
theorem part_all (xs : List R) (n : Nat) (h : xs.length = n) : part xs n n = xs := by
  unfold part; rw [List.take_of_length_le (by omega), Nat.sub_self]; simp
theorem part_set (xs : List R) (n k : Nat) (h : xs.length = n) (hk : k < xs.length) : (part xs n k).set k xs[k] = part xs n (k + 1) := by
  unfold part
  have hl : (xs.take k).length = k := by rw [List.length_take]; omega
  rw [List.set_append_right _ _ (by omega), hl, Nat.sub_self]
  have e : n - k = (n - (k + 1)) + 1 := by omega
  rw [e, List.replicate_succ, List.set_cons_zero, List.take_succ_eq_append_getElem hk, List.append_assoc]
  rfl
theorem part_at (xs : List R) (n k : Nat) (h : xs.length = n) (hk : k < n) : (part xs n k)[k]? = some zero := by
  unfold part
  have hl : (xs.take k).length = k := by rw [List.length_take]; omega
  rw [List.getElem?_append_right (by omega), hl, Nat.sub_self, List.getElem?_replicate, if_pos (by omega)]
abbrev OwnR (w : World) (A g n cap : Nat) (ys : List R) : Prop := Own rec 3 w A (.slice (some ⟨g, 0, none⟩) n cap) ys
/-- a store of one value -/
theorem putAll {w : World} {A g n cap : Nat} {ys : List R} (hn : ys.length = n) (h : OwnR w A g n cap ys) (k : Nat) (r0 r : R) (hr : ys[k]? = some r0) :
    OwnR (w.setCell ⟨g, k, none⟩ (.int .i64 r)) A g n cap (ys.set k r) := by
  have h0 := Own.put hn h k 0 r0 r (.int .i64 r) hr (by decide) rfl
  rw [rec_n, Nat.mul_one, Nat.add_zero] at h0
  exact h0
end Go.Proofs.YtgemnjimgjnlhaaGreatDoor.LInt
namespace Go.Proofs.YtgemnjimgjnlhaaGreatDoor.LInt
open Go.RowKit Bs
set_option linter.unusedVariables false
def wt (r : R) : Nat := 0
def Fine (r : R) : Prop := True
def tot (xs : List R) : Nat := (xs.map wt).sum
theorem tot_next (xs : List R) (k : Nat) (h : k < xs.length) : tot (xs.take (k + 1)) = tot (xs.take k) + wt xs[k] := by
  rw [List.take_succ_eq_append_getElem h]; unfold tot; rw [List.map_append, List.sum_append]; simp
theorem tot_take_le (xs : List R) (k : Nat) : tot (xs.take k) ≤ tot xs := by
  have := congrArg tot (List.take_append_drop k xs)
  have e : ∀ a b : List R, tot (a ++ b) = tot a + tot b := fun a b => by simp [tot]
  rw [e] at this
  omega
theorem mem_le (xs : List R) (x : R) (h : x ∈ xs) : wt x ≤ tot xs := by
  induction xs with
  | nil => cases h
  | cons y ys ih =>
    simp only [tot, List.map_cons, List.sum_cons] at ih ⊢
    rcases List.mem_cons.1 h with rfl | h
    · omega
    · have := ih h; omega
end Go.Proofs.YtgemnjimgjnlhaaGreatDoor.LInt
namespace Go.Proofs.YtgemnjimgjnlhaaGreatDoor.LInt
open Go.RowKit Bs
set_option linter.unusedVariables false
theorem infoK : (Tryz.prog.info? 3).map (fun i => (i.zero, i.size, i.bytes)) = some (some (.int .i64 0), 1, 8) := by kernel_rfl
theorem startB {w : World} {A g : Nat} (h : w.heap[g]? = some (.cells #[] 3 (0, 0))) (hA : A ≤ g) : w.ownsRow A 3 1 (.slice (some ⟨g, 0, none⟩) 0 0) 0 [] :=
  ⟨rfl, .inr ⟨g, 0, #[], rfl, hA, h, Nat.le_refl _, Nat.zero_le _, rfl, rfl⟩⟩
end Go.Proofs.YtgemnjimgjnlhaaGreatDoor.LInt
namespace Go.Proofs.YtgemnjimgjnlhaaGreatDoor.LAgendaItem
open Go.RowKit Bs
set_option linter.unusedVariables false
def wt (r : R) : Nat := r.title.size
def Fine (r : R) : Prop := r.title.size ≤ maxLen
def tot (xs : List R) : Nat := (xs.map wt).sum
theorem tot_next (xs : List R) (k : Nat) (h : k < xs.length) : tot (xs.take (k + 1)) = tot (xs.take k) + wt xs[k] := by
  rw [List.take_succ_eq_append_getElem h]; unfold tot; rw [List.map_append, List.sum_append]; simp
theorem tot_take_le (xs : List R) (k : Nat) : tot (xs.take k) ≤ tot xs := by
  have := congrArg tot (List.take_append_drop k xs)
  have e : ∀ a b : List R, tot (a ++ b) = tot a + tot b := fun a b => by simp [tot]
  rw [e] at this
  omega
theorem mem_le (xs : List R) (x : R) (h : x ∈ xs) : wt x ≤ tot xs := by
  induction xs with
  | nil => cases h
  | cons y ys ih =>
    simp only [tot, List.map_cons, List.sum_cons] at ih ⊢
    rcases List.mem_cons.1 h with rfl | h
    · omega
    · have := ih h; omega
/-- what is left behind something of a weight -/
def Left (t : Nat) (l : Int) (w : World) (e : Ending) (w' : World) : Prop := Below w.heap.size w w' ∧ ∃ x : Int, e = .returned (.int .i64 x) ∧ ((x < 0 ∧ l < t) ∨ (x = l - t ∧ (t : Int) ≤ l))
end Go.Proofs.YtgemnjimgjnlhaaGreatDoor.LAgendaItem
namespace Go.Proofs.YtgemnjimgjnlhaaGreatDoor.LAgendaItem
open Go.RowKit Bs
set_option linter.unusedVariables false
theorem infoK : (Tryz.prog.info? 52).map (fun i => (i.zero, i.size, i.bytes)) = some (some (.agg #[.int .i64 0, .string ⟨#[]⟩, .int .i64 0, .int .i64 0]), 4, 40) := by kernel_rfl
theorem startB {w : World} {A g : Nat} (h : w.heap[g]? = some (.cells #[] 52 (0, 0))) (hA : A ≤ g) : w.ownsRow A 52 4 (.slice (some ⟨g, 0, none⟩) 0 0) 0 [] :=
  ⟨rfl, .inr ⟨g, 0, #[], rfl, hA, h, Nat.le_refl _, Nat.zero_le _, rfl, rfl⟩⟩
end Go.Proofs.YtgemnjimgjnlhaaGreatDoor.LAgendaItem
namespace Go.Proofs.YtgemnjimgjnlhaaGreatDoor.AgV
open Go.RowKit Bs
set_option linter.unusedVariables false
set_option maxHeartbeats 400000 in
theorem rBig (a : Option Addr) (len cap : Nat) (w : World) : Calls Tryz.prog 18 #[.slice a len cap] w fun e w' => e = .returned (.bool (decide ((65536 : Int) < len))) ∧ w = w' := by
  go_enter Tryz.func18, Tryz.ntmps18
  go_wp2_with fail
  go_ret
  exact ⟨rfl, rfl⟩
set_option maxRecDepth 100000 in
set_option maxHeartbeats 800000 in
/-- two slices of the same items -/
theorem rAgendas (v v' : Value) (xs : List LAgendaItem.R) (w : World) (h : Is LAgendaItem.rec w v xs) (h' : Is LAgendaItem.rec w v' xs) :
    Calls Tryz.prog 33 #[v, v'] w fun e w' => e = .returned (.bool true) ∧ Below w.heap.size w w' := by
  obtain ⟨a, cp, rfl, h⟩ := h
  obtain ⟨a', cp', rfl, h'⟩ := h'
  have hc := h.at_ LAgendaItem.rec
  have hc' := h'.at_ LAgendaItem.rec
  obtain ⟨n, hn⟩ : ∃ n, n = xs.length := ⟨_, rfl⟩
  have hnb : n ≤ cp := by have := h.1; omega
  have hnb' : n ≤ cp' := by have := h'.1; omega
  have h2 := h.2.1
  have h2' := h'.2.1
  unfold maxLen at h2 h2'
  rw [← hn]
  have hle : n ≤ xs.length := by omega
  clear hn h h'
  have hne : ((n : Int) != (n : Int)) = false := by simp
  go_enter Tryz.func33, Tryz.ntmps33
  go_wp2_with fail
  go_loopw [5] (fun i wr => ∃ k : Nat, k ≤ n ∧ i = .int .i64 k ∧ Below w.heap.size w wr) (fun i _ => n - (intOf i).toNat)
  case atStart => exact ⟨0, Nat.zero_le _, rfl, Below.refl _ _⟩
  case round =>
    obtain ⟨k, hk, rfl, hb⟩ := hrel
    by_cases hlt : k < n
    · have hx : k < xs.length := by omega
      obtain ⟨b, o, rfl, hbl, hcell0⟩ := hc.out k xs[k] (List.getElem?_eq_getElem hx)
      obtain ⟨b', o', rfl, hbl', hcell0'⟩ := hc'.out k xs[k] (List.getElem?_eq_getElem hx)
      obtain ⟨c0, c1, c2, c3⟩ := LAgendaItem.cells (hcell0.below LAgendaItem.rec hb hbl)
      obtain ⟨d0, d1, d2, d3⟩ := LAgendaItem.cells (hcell0'.below LAgendaItem.rec hb hbl')
      simp only [LAgendaItem.rec_n] at c0 c1 c2 c3 d0 d1 d2 d3
      clear hcell0 hcell0'
      generalize xs[k] = X at *
      have k0 : 0 ≤ (k : Int) := by omega
      have k1 : (k : Int) < (n : Int) := by omega
      go_wp2_with fail
      go_quiet (fail)
      have hb2 : Below w.heap.size w (wr.drewN nq) := hb.trans ((drawn_below _ _).mono hb.size)
      go_wp2_with fail
      go_roundw
      case rel => exact ⟨k + 1, by omega, by go_num, hb2⟩
      case measure => simp [intOf]; omega
    · go_wp2_with fail
      go_ret
      exact ⟨rfl, hb⟩
set_option maxRecDepth 100000 in
set_option maxHeartbeats 800000 in
/-- two slices of the same numbers -/
theorem rInts (v v' : Value) (xs : List Int) (w : World) (h : Is LInt.rec w v xs) (h' : Is LInt.rec w v' xs) :
    Calls Tryz.prog 22 #[v, v'] w fun e w' => e = .returned (.bool true) ∧ Below w.heap.size w w' := by
  obtain ⟨a, cp, rfl, h⟩ := h
  obtain ⟨a', cp', rfl, h'⟩ := h'
  have hc := h.at_ LInt.rec
  have hc' := h'.at_ LInt.rec
  obtain ⟨n, hn⟩ : ∃ n, n = xs.length := ⟨_, rfl⟩
  have hnb : n ≤ cp := by have := h.1; omega
  have hnb' : n ≤ cp' := by have := h'.1; omega
  have h2 := h.2.1
  have h2' := h'.2.1
  unfold maxLen at h2 h2'
  rw [← hn]
  have hle : n ≤ xs.length := by omega
  clear hn h h'
  have hne : ((n : Int) != (n : Int)) = false := by simp
  go_enter Tryz.func22, Tryz.ntmps22
  go_wp2_with fail
  go_loopw [5] (fun i wr => ∃ k : Nat, k ≤ n ∧ i = .int .i64 k ∧ Below w.heap.size w wr) (fun i _ => n - (intOf i).toNat)
  case atStart => exact ⟨0, Nat.zero_le _, rfl, Below.refl _ _⟩
  case round =>
    obtain ⟨k, hk, rfl, hb⟩ := hrel
    by_cases hlt : k < n
    · have hx : k < xs.length := by omega
      obtain ⟨b, o, rfl, hbl, hcell0⟩ := hc.out k xs[k] (List.getElem?_eq_getElem hx)
      obtain ⟨b', o', rfl, hbl', hcell0'⟩ := hc'.out k xs[k] (List.getElem?_eq_getElem hx)
      have c0 := LInt.cells (hcell0.below LInt.rec hb hbl)
      have d0 := LInt.cells (hcell0'.below LInt.rec hb hbl')
      simp only [LInt.rec_n, Nat.mul_one] at c0 d0
      clear hcell0 hcell0'
      generalize xs[k] = X at *
      have k0 : 0 ≤ (k : Int) := by omega
      have k1 : (k : Int) < (n : Int) := by omega
      go_wp2_with fail
      go_quiet (fail)
      have hb2 : Below w.heap.size w (wr.drewN nq) := hb.trans ((drawn_below _ _).mono hb.size)
      go_wp2_with fail
      go_roundw
      case rel => exact ⟨k + 1, by omega, by go_num, hb2⟩
      case measure => simp [intOf]; omega
    · go_wp2_with fail
      go_ret
      exact ⟨rfl, hb⟩
end Go.Proofs.YtgemnjimgjnlhaaGreatDoor.AgV
namespace Go.Proofs.YtgemnjimgjnlhaaGreatDoor.Word
open Go.RowKit
set_option linter.unusedVariables false
/-- the letters a to z -/
def az (c : UInt8) : Bool := decide (97 ≤ c.toNat) && decide (c.toNat ≤ 122)
def allAz (l : List UInt8) : Bool := l.all az
def isWordB (s : ByteArray) : Bool := (decide (1 ≤ s.size) && decide (s.size ≤ 10)) && allAz s.data.toList
theorem take_snoc (s : ByteArray) (k : Nat) (h : k < s.size) : s.data.toList.take (k + 1) = s.data.toList.take k ++ [s[k]] := by
  rw [List.take_succ_eq_append_getElem (by simpa using h)]; rfl
theorem az_next (s : ByteArray) (k : Nat) (h : k < s.size) (hp : allAz (s.data.toList.take k) = true) (hc : az s[k] = true) : allAz (s.data.toList.take (k + 1)) = true := by
  rw [take_snoc s k h]; unfold allAz at hp ⊢; rw [List.all_append, hp]; simp [hc]
theorem az_bad (s : ByteArray) (k : Nat) (h : k < s.size) (hc : az s[k] = false) : allAz s.data.toList = false := by
  unfold allAz
  rw [List.all_eq_false]
  exact ⟨s[k], Array.getElem_mem_toList _, by simp [hc]⟩
theorem az_all (s : ByteArray) (k : Nat) (h : s.size ≤ k) (hp : allAz (s.data.toList.take k) = true) : allAz s.data.toList = true := by
  rwa [List.take_of_length_le (by simpa using h)] at hp
theorem ret_bool {a b : Bool} (h : a = b) : Ending.returned (.bool a) = .returned (.bool b) := by rw [h]
theorem word_no {s : ByteArray} (h : allAz s.data.toList = false) : isWordB s = false := by unfold isWordB; rw [h, Bool.and_false]
theorem word_len {s : ByteArray} (h : ¬ (1 ≤ s.size ∧ s.size ≤ 10)) : isWordB s = false := by
  unfold isWordB
  have : (decide (1 ≤ s.size) && decide (s.size ≤ 10)) = false := by
    rw [← Bool.decide_and]; exact decide_eq_false h
  rw [this, Bool.false_and]
theorem word_yes {s : ByteArray} (h1 : 1 ≤ s.size) (h2 : s.size ≤ 10) (h : allAz s.data.toList = true) : isWordB s = true := by
  unfold isWordB; rw [h, Bool.and_true, ← Bool.decide_and]; exact decide_eq_true ⟨h1, h2⟩
def inB (x a b : Int) : Bool := decide (a ≤ x ∧ x ≤ b)
theorem inB_yes {x a b : Int} (h : inB x a b = true) : a ≤ x ∧ x ≤ b := of_decide_eq_true h
theorem inB_no {x a b : Int} (h : inB x a b = false) : ¬ (a ≤ x ∧ x ≤ b) := of_decide_eq_false h
theorem inB_mk {x a b : Int} (h1 : a ≤ x) (h2 : x ≤ b) : inB x a b = true := decide_eq_true ⟨h1, h2⟩
theorem inB_not {x a b : Int} (h : ¬ (a ≤ x ∧ x ≤ b)) : inB x a b = false := decide_eq_false h
theorem in_yes (x a b : Int) (w : World) (h1 : a ≤ x) (h2 : x ≤ b) :
    Calls Tryz.prog 97 #[.int .i64 x, .int .i64 a, .int .i64 b] w fun e w' => e = .returned (.bool true) ∧ w = w' := by
  go_enter Tryz.func97, Tryz.ntmps97
  go_wp2
  go_ret
  exact ⟨rfl, rfl⟩
theorem in_no (x a b : Int) (w : World) (h : ¬ (a ≤ x ∧ x ≤ b)) :
    Calls Tryz.prog 97 #[.int .i64 x, .int .i64 a, .int .i64 b] w fun e w' => e = .returned (.bool false) ∧ w = w' := by
  by_cases h1 : a ≤ x
  · have h2 : ¬ x ≤ b := by omega
    go_enter Tryz.func97, Tryz.ntmps97
    go_wp2
    go_ret
    exact ⟨rfl, rfl⟩
  · go_enter Tryz.func97, Tryz.ntmps97
    go_wp2
    go_ret
    exact ⟨rfl, rfl⟩

set_option maxHeartbeats 400000 in
theorem l2Word (s : ByteArray) (w : World) (hs : s.size ≤ maxLen) :
    Calls Tryz.prog 105 #[.string s] w fun e w' => e = .returned (.bool (isWordB s)) ∧ w = w' := by
  unfold maxLen at hs
  go_enter Tryz.func105, Tryz.ntmps105
  go_wp2_with fail
  go_loop [3] (fun i => ∃ k : Nat, k ≤ s.size ∧ i = .int .i64 k ∧ Hid (allAz (s.data.toList.take k) = true)) (fun i => s.size - (intOf i).toNat)
  case atStart => exact ⟨0, Nat.zero_le _, rfl, rfl⟩
  case round =>
    obtain ⟨k, hk, rfl, HA⟩ := hrel
    by_cases hlt : k < s.size
    · by_cases h1 : 97 ≤ s[k].toNat
      · by_cases h2 : s[k].toNat ≤ 122
        · have HN := Lib.hid (az_next s k hlt HA.out (by simp [az, h1, h2]))
          go_wp2_with fail
          go_round
          case rel => exact ⟨k + 1, by omega, by go_num, HN⟩
          case measure => simp [intOf]; omega
        · have HN := Lib.hid (word_no (az_bad s k hlt (by simp [az, h2])))
          go_wp2_with fail
          go_ret
          exact ⟨ret_bool HN.out.symm, rfl⟩
      · have HN := Lib.hid (word_no (az_bad s k hlt (by simp [az, h1])))
        go_wp2_with fail
        go_ret
        exact ⟨ret_bool HN.out.symm, rfl⟩
    · have HN := Lib.hid (az_all s k (by omega) HA.out)
      by_cases hl : 1 ≤ s.size ∧ s.size ≤ 10
      · obtain ⟨g1, g2⟩ := hl
        have HW := Lib.hid (word_yes g1 g2 HN.out)
        go_wp2_with fail
        refine (in_yes _ _ _ _ (by omega) (by omega)).mono ?_
        rintro e w' ⟨rfl, rfl⟩
        go_wp2_with fail
        go_ret
        exact ⟨ret_bool HW.out.symm, rfl⟩
      · have HW := Lib.hid (word_len hl)
        have HL := Lib.hid hl
        clear hl
        go_wp2_with fail
        refine (in_no _ _ _ _ (by have := HL.out; omega)).mono ?_
        rintro e w' ⟨rfl, rfl⟩
        go_wp2_with fail
        go_ret
        exact ⟨ret_bool HW.out.symm, rfl⟩

set_option maxHeartbeats 400000 in
theorem isWord (s : ByteArray) (w : World) (hs : s.size ≤ maxLen) :
    Calls Tryz.prog 107 #[.string s] w fun e w' => e = .returned (.bool (isWordB s)) ∧ w = w' := by
  unfold maxLen at hs
  by_cases hl : 1 ≤ s.size ∧ s.size ≤ 10
  · obtain ⟨g1, g2⟩ := hl
    have g0 : ((s.size : Int) == 0) = false := by rw [beq_eq_false_iff_ne]; omega
    go_enter Tryz.func107, Tryz.ntmps107
    go_wp2_with fail
    go_loop [14] (fun i => ∃ k : Nat, k ≤ s.size ∧ i = .int .i64 k ∧ Hid (allAz (s.data.toList.take k) = true)) (fun i => s.size - (intOf i).toNat)
    case atStart => exact ⟨0, Nat.zero_le _, rfl, rfl⟩
    case round =>
      obtain ⟨k, hk, rfl, HA⟩ := hrel
      by_cases hlt : k < s.size
      · by_cases h1 : 97 ≤ s[k].toNat
        · by_cases h2 : s[k].toNat ≤ 122
          · have HN := Lib.hid (az_next s k hlt HA.out (by simp [az, h1, h2]))
            go_wp2_with fail
            go_round
            case rel => exact ⟨k + 1, by omega, by go_num, HN⟩
            case measure => simp [intOf]; omega
          · have HN := Lib.hid (word_no (az_bad s k hlt (by simp [az, h2])))
            go_wp2_with fail
            go_ret
            exact ⟨ret_bool HN.out.symm, rfl⟩
        · have HN := Lib.hid (word_no (az_bad s k hlt (by simp [az, h1])))
          go_wp2_with fail
          go_ret
          exact ⟨ret_bool HN.out.symm, rfl⟩
      · have HN := Lib.hid (az_all s k (by omega) HA.out)
        have HW := Lib.hid (word_yes g1 g2 HN.out)
        go_wp2_with fail
        go_ret
        exact ⟨ret_bool HW.out.symm, rfl⟩
  · have HW := Lib.hid (word_len hl)
    by_cases hz : s.size = 0
    · have g0 : ((s.size : Int) == 0) = true := by rw [beq_iff_eq]; omega
      clear hl hz
      go_enter Tryz.func107, Tryz.ntmps107
      go_wp2_with fail
      go_ret
      exact ⟨ret_bool HW.out.symm, rfl⟩
    · have g0 : ((s.size : Int) == 0) = false := by rw [beq_eq_false_iff_ne]; omega
      have g1 : 10 < s.size := by omega
      clear hl hz
      go_enter Tryz.func107, Tryz.ntmps107
      go_wp2_with fail
      go_ret
      exact ⟨ret_bool HW.out.symm, rfl⟩

theorem in_as (x a b : Int) (v : Bool) (h : inB x a b = v) (w : World) :
    Calls Tryz.prog 97 #[.int .i64 x, .int .i64 a, .int .i64 b] w fun e w' => e = .returned (.bool v) ∧ w = w' := by
  cases v with
  | true => obtain ⟨h1, h2⟩ := inB_yes h; exact in_yes x a b w h1 h2
  | false => exact in_no x a b w (inB_no h)
theorem word_as (s : ByteArray) (v : Bool) (h : isWordB s = v) (hs : s.size ≤ maxLen) (w : World) :
    Calls Tryz.prog 105 #[.string s] w fun e w' => e = .returned (.bool v) ∧ w = w' := by
  subst h; exact l2Word s w hs
theorem iword_as (s : ByteArray) (v : Bool) (h : isWordB s = v) (hs : s.size ≤ maxLen) (w : World) :
    Calls Tryz.prog 107 #[.string s] w fun e w' => e = .returned (.bool v) ∧ w = w' := by
  subst h; exact isWord s w hs
end Go.Proofs.YtgemnjimgjnlhaaGreatDoor.Word
namespace Go.Proofs.YtgemnjimgjnlhaaGreatDoor.Ag
open Go.RowKit Bs Word
set_option linter.unusedVariables false

abbrev M := LAgendaItem.R
def okT (t : Int) : Bool := (t == -1) || inB t 0 1439
def okB (r : M) : Bool := ((inB r.id 1 99 && isWordB r.title) && inB r.mins 1 240) && okT r.time
/-- the later one r does not go with the earlier one p -/
def clash (p r : M) : Bool := p.id == r.id
def HeadOk (xs : List M) (i : Nat) : Prop := ∃ r, xs[i]? = some r ∧ okB r = true
def Step (xs : List M) (i : Nat) : Prop := HeadOk xs i ∧ ∀ k q r, k < i → xs[k]? = some q → xs[i]? = some r → clash q r = false
def GoodP (xs : List M) : Prop := xs.length ≤ 10 ∧ ∀ i, i < xs.length → Step xs i
open Classical in
noncomputable def goodB (xs : List M) : Bool := decide (GoodP xs)
open Classical in
theorem good_yes {xs : List M} (h : GoodP xs) : goodB xs = true := decide_eq_true h
open Classical in
theorem good_no {xs : List M} (h : ¬ GoodP xs) : goodB xs = false := decide_eq_false h
open Classical in
theorem good_of {xs : List M} (h : goodB xs = true) : GoodP xs := of_decide_eq_true h
theorem no_len {xs : List M} (h : 10 < xs.length) : goodB xs = false := good_no fun g => by have := g.1; omega
theorem no_ok {xs : List M} {i : Nat} {r : M} (hr : xs[i]? = some r) (h : okB r = false) : goodB xs = false := good_no fun g => by
  obtain ⟨⟨r', hr', ho⟩, _⟩ := g.2 i (List.getElem?_eq_some_iff.1 hr).1
  rw [hr] at hr'; rw [← Option.some.inj hr', h] at ho; cases ho
theorem no_clash {xs : List M} {i k : Nat} {r q : M} (hr : xs[i]? = some r) (hk : k < i) (hq : xs[k]? = some q) (h : clash q r = true) : goodB xs = false := good_no fun g => by
  have := (g.2 i (List.getElem?_eq_some_iff.1 hr).1).2 k q r hk hq hr
  rw [h] at this; cases this
theorem steps_next {xs : List M} {k : Nat} (hs : ∀ i, i < k → Step xs i) (h : Step xs k) : ∀ i, i < k + 1 → Step xs i := fun i hi => by
  rcases Nat.lt_or_ge i k with h' | h'
  · exact hs i h'
  · rwa [show i = k by omega]
theorem clash_next {xs : List M} {m : Nat} {X P : M} (h : ∀ j q, j < m → xs[j]? = some q → clash q X = false) (hp : xs[m]? = some P) (hc : clash P X = false) : ∀ j q, j < m + 1 → xs[j]? = some q → clash q X = false := fun j q hj hq => by
  rcases Nat.lt_or_ge j m with h' | h'
  · exact h j q h' hq
  · obtain rfl : j = m := by omega
    rw [hp] at hq; rw [← Option.some.inj hq]; exact hc
theorem step_mk {xs : List M} {k : Nat} {X : M} (hx : xs[k]? = some X) (h1 : HeadOk xs k) (h2 : ∀ j q, j < k → xs[j]? = some q → clash q X = false) : Step xs k :=
  ⟨h1, fun j q r hj hq hr => by rw [hx] at hr; rw [← Option.some.inj hr]; exact h2 j q hj hq⟩
theorem ok_parts {r : M} (h : okB r = true) : (1 ≤ r.id ∧ r.id ≤ 99) ∧ isWordB r.title = true ∧ (1 ≤ r.mins ∧ r.mins ≤ 240) ∧ (-1 ≤ r.time ∧ r.time ≤ 1439) := by
  unfold okB okT at h
  simp only [Bool.and_eq_true, Bool.or_eq_true, beq_iff_eq] at h
  refine ⟨inB_yes h.1.1.1, h.1.1.2, inB_yes h.1.2, ?_⟩
  rcases h.2 with h | h
  · omega
  · have := inB_yes h; omega
/-- what a good list's items are like -/
theorem good_at {xs : List M} (h : goodB xs = true) {k : Nat} {X : M} (hx : xs[k]? = some X) : okB X = true := by
  obtain ⟨⟨r, hr, ho⟩, _⟩ := (good_of h).2 k (List.getElem?_eq_some_iff.1 hx).1
  rw [hx] at hr; rw [Option.some.inj hr]; exact ho
theorem good_len {xs : List M} (h : goodB xs = true) : xs.length ≤ 10 := (good_of h).1

theorem l5Minute (x : Int) (w : World) : Calls Tryz.prog 102 #[.int .i64 x] w fun e w' => e = .returned (.bool (inB x 0 1439)) ∧ w = w' := by
  have HI := Lib.hid (fun W => in_as x 0 1439 _ rfl W)
  go_enter Tryz.func102, Tryz.ntmps102
  go_wp2_with fail
  refine (HI.out _).mono ?_
  rintro e w' ⟨rfl, rfl⟩
  go_wp2_with fail
  go_ret
  exact ⟨rfl, rfl⟩
theorem isMinute (x : Int) (w : World) : Calls Tryz.prog 65 #[.int .i64 x] w fun e w' => e = .returned (.bool (inB x 0 1439)) ∧ w = w' := by
  by_cases h0 : 0 ≤ x
  · have HD := Lib.hid (show decide (x < 1440) = inB x 0 1439 by unfold inB; by_cases h : x < 1440 <;> simp [h, h0] <;> omega)
    go_enter Tryz.func65, Tryz.ntmps65
    go_wp2_with fail
    go_ret
    exact ⟨ret_bool HD.out, rfl⟩
  · have HD := Lib.hid (show inB x 0 1439 = false from inB_not (fun h => h0 h.1))
    go_enter Tryz.func65, Tryz.ntmps65
    go_wp2_with fail
    go_ret
    exact ⟨ret_bool HD.out.symm, rfl⟩
theorem min_as (x : Int) (v : Bool) (h : inB x 0 1439 = v) (w : World) : Calls Tryz.prog 102 #[.int .i64 x] w fun e w' => e = .returned (.bool v) ∧ w = w' := by
  subst h; exact l5Minute x w
theorem imin_as (x : Int) (v : Bool) (h : inB x 0 1439 = v) (w : World) : Calls Tryz.prog 65 #[.int .i64 x] w fun e w' => e = .returned (.bool v) ∧ w = w' := by
  subst h; exact isMinute x w
set_option maxHeartbeats 800000 in
theorem isValidItem (r : M) (w : World) (hs : r.title.size ≤ maxLen) :
    Calls Tryz.prog 72 #[.agg #[.int .i64 r.id, .string r.title, .int .i64 r.mins, .int .i64 r.time]] w fun e w' => e = .returned (.bool (okB r)) ∧ Below w.heap.size w w' := by
  have HS := Lib.hid hs
  have hb := (Below.refl w.heap.size w).alloc (Nat.le_refl _) (Obj.cells #[.int .i64 r.id, .string r.title, .int .i64 r.mins, .int .i64 r.time] 52)
  clear hs
  by_cases a1 : 1 ≤ r.id
  · by_cases a2 : r.id ≤ 99
    · cases h2 : isWordB r.title with
      | false =>
        have HO := Lib.hid (show okB r = false by unfold okB; rw [h2, Bool.and_false]; rfl)
        have HW := Lib.hid (fun W => iword_as r.title false h2 HS.out W)
        clear h2
        go_enter Tryz.func72, Tryz.ntmps72
        go_wp2_with fail
        refine (HW.out _).mono ?_
        rintro e w' ⟨rfl, rfl⟩
        go_wp2_with fail
        go_ret
        exact ⟨ret_bool HO.out.symm, hb⟩
      | true =>
        have HW := Lib.hid (fun W => iword_as r.title true h2 HS.out W)
        have h3 : (inB r.id 1 99 && isWordB r.title) = true := by rw [inB_mk a1 a2, h2]; rfl
        clear h2
        by_cases b1 : 1 ≤ r.mins
        · by_cases b2 : r.mins ≤ 240
          · cases c1 : (r.time == -1) with
            | true =>
              have HO := Lib.hid (show okB r = true by unfold okB okT; rw [h3, inB_mk b1 b2, c1]; rfl)
              clear h3
              go_enter Tryz.func72, Tryz.ntmps72
              go_wp2_with fail
              refine (HW.out _).mono ?_
              rintro e w' ⟨rfl, rfl⟩
              go_wp2_with fail
              go_ret
              exact ⟨ret_bool HO.out.symm, hb⟩
            | false =>
              have HO := Lib.hid (show okB r = inB r.time 0 1439 by unfold okB okT; rw [h3, inB_mk b1 b2, c1]; rfl)
              clear h3
              go_enter Tryz.func72, Tryz.ntmps72
              go_wp2_with fail
              refine (HW.out _).mono ?_
              rintro e w' ⟨rfl, rfl⟩
              go_wp2_with fail
              refine (isMinute _ _).mono ?_
              rintro e w' ⟨rfl, rfl⟩
              go_wp2_with fail
              go_ret
              exact ⟨ret_bool HO.out.symm, hb⟩
          · have HO := Lib.hid (show okB r = false by unfold okB; rw [inB_not (x := r.mins) (fun h => b2 h.2), Bool.and_false]; rfl)
            clear h3
            go_enter Tryz.func72, Tryz.ntmps72
            go_wp2_with fail
            refine (HW.out _).mono ?_
            rintro e w' ⟨rfl, rfl⟩
            go_wp2_with fail
            go_ret
            exact ⟨ret_bool HO.out.symm, hb⟩
        · have HO := Lib.hid (show okB r = false by unfold okB; rw [inB_not (x := r.mins) (fun h => b1 h.1), Bool.and_false]; rfl)
          clear h3
          go_enter Tryz.func72, Tryz.ntmps72
          go_wp2_with fail
          refine (HW.out _).mono ?_
          rintro e w' ⟨rfl, rfl⟩
          go_wp2_with fail
          go_ret
          exact ⟨ret_bool HO.out.symm, hb⟩
    · have HO := Lib.hid (show okB r = false by unfold okB; rw [inB_not (x := r.id) (fun h => a2 h.2)]; rfl)
      go_enter Tryz.func72, Tryz.ntmps72
      go_wp2_with fail
      go_ret
      exact ⟨ret_bool HO.out.symm, hb⟩
  · have HO := Lib.hid (show okB r = false by unfold okB; rw [inB_not (x := r.id) (fun h => a1 h.1)]; rfl)
    go_enter Tryz.func72, Tryz.ntmps72
    go_wp2_with fail
    go_ret
    exact ⟨ret_bool HO.out.symm, hb⟩
end Go.Proofs.YtgemnjimgjnlhaaGreatDoor.Ag
namespace Go.Proofs.YtgemnjimgjnlhaaGreatDoor.AgG
open Go.RowKit Bs Word Ag
set_option linter.unusedVariables false
def Post (xs : List M) (w : World) (e : Ending) (w' : World) : Prop := e = .returned (.bool (goodB xs)) ∧ Below w.heap.size w w'
theorem bad {xs : List M} {w w' : World} (h : goodB xs = false) (hb : Below w.heap.size w w') : Post xs w (.returned (.bool false)) w' := ⟨by rw [h], hb⟩
def Head (xs : List M) (i : Nat) (v : Bool) : Prop := (v = true → goodB xs = false) ∧ (v = false → HeadOk xs i)
theorem head_of {xs : List M} {i : Nat} {X : M} (h : xs[i]? = some X) : Head xs i (!(okB X)) := ⟨fun e => no_ok h (by simpa using e), fun e => ⟨X, h, by simpa using e⟩⟩
set_option maxRecDepth 100000 in
set_option maxHeartbeats 1600000 in
theorem l5Good (v : Value) (xs : List M) (w : World) (h : Is LAgendaItem.rec w v xs) (hsz : ∀ x ∈ xs, LAgendaItem.Fine x) :
    Calls Tryz.prog 70 #[v] w (Post xs w) := by
  obtain ⟨a, cp, rfl, h⟩ := h
  have hc := h.at_ LAgendaItem.rec
  obtain ⟨n, hn⟩ : ∃ n, n = xs.length := ⟨_, rfl⟩
  have hnb : n ≤ cp := by have := h.1; omega
  have h2 := h.2.1
  unfold maxLen at h2
  have HN := Lib.hid hn.symm
  have HSZ := Lib.hid hsz
  rw [← hn]
  have hle : n ≤ xs.length := by omega
  clear hn h hsz
  go_enter Tryz.func70, Tryz.ntmps70
  go_wp2_with fail
  go_loopw [3] (fun i wr => ∃ k : Nat, k ≤ n ∧ i = .int .i64 k ∧ Below w.heap.size w wr ∧ Hid (∀ i, i < k → Step xs i)) (fun i _ => n - (intOf i).toNat)
  case atStart => exact ⟨0, Nat.zero_le _, rfl, Below.refl _ _, Lib.hid (fun i hi => by omega)⟩
  case round =>
    obtain ⟨k, hk, rfl, hb, HS⟩ := hrel
    by_cases hlt : k < n
    · have hx : k < xs.length := by omega
      obtain ⟨b, o, rfl, hbl, hcell0⟩ := hc.out k xs[k] (List.getElem?_eq_getElem hx)
      obtain ⟨q0, q1, q2, q3⟩ := LAgendaItem.cells (hcell0.below LAgendaItem.rec hb hbl)
      simp only [LAgendaItem.rec_n] at q0 q1 q2 q3
      have hxs := Lib.hid (HSZ.out xs[k] (List.getElem_mem hx))
      have HX := Lib.hid (List.getElem?_eq_getElem hx)
      clear hcell0
      generalize xs[k] = X at *
      go_upto_region 5 with fail
      have HBX := Lib.hid (LAgendaItem.box wr X 52)
      have hba := hb.alloc hb.size (Obj.cells #[.int .i64 X.id, .string X.title, .int .i64 X.mins, .int .i64 X.time] 52)
      have hGq : wr.heap.size < (wr.alloc (Obj.cells #[.int .i64 X.id, .string X.title, .int .i64 X.mins, .int .i64 X.time] 52)).heap.size := by simp
      clear q0 q1 q2 q3
      generalize wr.alloc (Obj.cells #[.int .i64 X.id, .string X.title, .int .i64 X.mins, .int .i64 X.time] 52) = wq at *
      have hGl : w.heap.size ≤ wr.heap.size := hb.size
      generalize wr.heap.size = G at *
      clear hb
      go_cut [42] (fun t wx => ∃ v : Bool, t = .bool v ∧ Hid (Head xs k v) ∧ Below wq.heap.size wq wx)
      case first =>
        obtain ⟨x0, x1, x2, x3⟩ := LAgendaItem.cells0 HBX.out
        have k0 : 0 ≤ (k : Int) := by omega
        have k1 : (k : Int) < (n : Int) := by omega
        have H1 := Lib.hid (fun (x a b : Int) (W : World) => in_as x a b _ rfl W)
        have H2 := Lib.hid (fun W => word_as X.title _ rfl hxs.out W)
        have H4 := Lib.hid (fun (W : World) => l5Minute X.time W)
        have HV := Lib.hid (show Head xs k _ from head_of HX.out)
        cases g1 : inB X.id 1 99 with
        | false =>
          have HW := Lib.hid (show Head xs k true by have h := HV.out; unfold okB okT at h; simpa [g1] using h)
          clear HV
          go_wp2_with fail
          refine (H1.out X.id 1 99 _).mono ?_
          rintro e _ ⟨rfl, rfl⟩
          rw [g1]
          go_wp2_with fail
          go_meet
          exact ⟨_, rfl, HW, Below.refl _ _⟩
        | true =>
          cases g2 : isWordB X.title with
          | false =>
            have HW := Lib.hid (show Head xs k true by have h := HV.out; unfold okB okT at h; simpa [g1, g2] using h)
            clear HV
            go_wp2_with fail
            refine (H1.out X.id 1 99 _).mono ?_
            rintro e _ ⟨rfl, rfl⟩
            rw [g1]
            go_wp2_with fail
            refine (H2.out _).mono ?_
            rintro e _ ⟨rfl, rfl⟩
            rw [g2]
            go_wp2_with fail
            go_meet
            exact ⟨_, rfl, HW, Below.refl _ _⟩
          | true =>
            cases g3 : inB X.mins 1 240 with
            | false =>
              have HW := Lib.hid (show Head xs k true by have h := HV.out; unfold okB okT at h; simpa [g1, g2, g3] using h)
              clear HV
              go_wp2_with fail
              refine (H1.out X.id 1 99 _).mono ?_
              rintro e _ ⟨rfl, rfl⟩
              rw [g1]
              go_wp2_with fail
              refine (H2.out _).mono ?_
              rintro e _ ⟨rfl, rfl⟩
              rw [g2]
              go_wp2_with fail
              refine (H1.out X.mins 1 240 _).mono ?_
              rintro e _ ⟨rfl, rfl⟩
              rw [g3]
              go_wp2_with fail
              go_meet
              exact ⟨_, rfl, HW, Below.refl _ _⟩
            | true =>
              cases g4 : (X.time != -1) with
              | false =>
                have g5 : (X.time == -1) = true := by simpa using g4
                have HW := Lib.hid (show Head xs k false by have h := HV.out; unfold okB okT at h; simpa [g1, g2, g3, g5] using h)
                clear HV
                go_wp2_with fail
                refine (H1.out X.id 1 99 _).mono ?_
                rintro e _ ⟨rfl, rfl⟩
                rw [g1]
                go_wp2_with fail
                refine (H2.out _).mono ?_
                rintro e _ ⟨rfl, rfl⟩
                rw [g2]
                go_wp2_with fail
                refine (H1.out X.mins 1 240 _).mono ?_
                rintro e _ ⟨rfl, rfl⟩
                rw [g3]
                go_wp2_with fail
                go_meet
                exact ⟨_, rfl, HW, Below.refl _ _⟩
              | true =>
                have g5 : (X.time == -1) = false := by simpa using g4
                have HW := Lib.hid (show Head xs k (!(inB X.time 0 1439)) by have h := HV.out; unfold okB okT at h; simpa [g1, g2, g3, g5] using h)
                clear HV
                go_wp2_with fail
                refine (H1.out X.id 1 99 _).mono ?_
                rintro e _ ⟨rfl, rfl⟩
                rw [g1]
                go_wp2_with fail
                refine (H2.out _).mono ?_
                rintro e _ ⟨rfl, rfl⟩
                rw [g2]
                go_wp2_with fail
                refine (H1.out X.mins 1 240 _).mono ?_
                rintro e _ ⟨rfl, rfl⟩
                rw [g3]
                go_wp2_with fail
                refine (H4.out _).mono ?_
                rintro e _ ⟨rfl, rfl⟩
                go_wp2_with fail
                go_meet
                exact ⟨_, rfl, HW, Below.refl _ _⟩
      case rest =>
        obtain ⟨v, rfl, HV, hbv⟩ := hcut
        have hb2 := hba.trans (hbv.mono hba.size)
        have HBX2 := Lib.hid (HBX.out.below LAgendaItem.rec hbv hGq)
        have hG2 : G < wc.heap.size := Nat.lt_of_lt_of_le hGq hbv.size
        cases v with
        | true =>
          have HB := Lib.hid (show goodB xs = false from HV.out.1 rfl)
          go_wp2_with fail
          go_ret
          exact bad HB.out hb2
        | false =>
          have HH := Lib.hid (show HeadOk xs k from HV.out.2 rfl)
          clear hba hbv HV HBX hGq
          go_wp2_with fail
          go_loopw [5] (fun j ws => ∃ m : Nat, m ≤ k ∧ j = .int .i64 m ∧ Below w.heap.size w ws ∧ Hid (At LAgendaItem.rec ws G 0 X) ∧ G < ws.heap.size ∧ Hid (∀ q p, q < m → xs[q]? = some p → clash p X = false)) (fun j _ => k - (intOf j).toNat)
          case atStart => exact ⟨0, Nat.zero_le _, rfl, hb2, HBX2, hG2, Lib.hid (fun q p hq => by omega)⟩
          case round =>
            clear hb2 HBX2 hG2
            obtain ⟨m, hm, rfl, hbs, HXG, hGs, HM⟩ := hrel
            by_cases hmk : m < k
            · have hxm : m < xs.length := by omega
              obtain ⟨b', o', he, hbl', hcell1⟩ := hc.out m xs[m] (List.getElem?_eq_getElem hxm)
              simp only [Option.some.injEq, Addr.mk.injEq, and_true] at he
              obtain ⟨rfl, rfl⟩ := he
              have HP := Lib.hid (List.getElem?_eq_getElem hxm)
              obtain ⟨d0, d1, d2, d3⟩ := LAgendaItem.cells (hcell1.below LAgendaItem.rec hbs hbl)
              simp only [LAgendaItem.rec_n] at d0 d1 d2 d3
              obtain ⟨x0, x1, x2, x3⟩ := LAgendaItem.cells0 HXG.out
              clear hcell1
              generalize xs[m] = P at *
              have m0 : 0 ≤ (m : Int) := by omega
              have m1 : (m : Int) < (n : Int) := by omega
              go_wp2_with fail
              go_cut [55] (fun t wx => ∃ v : Bool, t = .bool v ∧ Hid (clash P X = v) ∧ Below wr.heap.size wr wx)
              case first =>
                have HV := Lib.hid (show clash P X = (P.id == X.id) from rfl)
                go_quiet (fail)
                go_wp2_with fail
                go_meet
                exact ⟨_, rfl, HV, drawn_below _ _⟩
              case rest =>
                obtain ⟨v, rfl, HV, hbv⟩ := hcut
                have hbt := hbs.trans (hbv.mono hbs.size)
                have HXG2 := Lib.hid (HXG.out.below LAgendaItem.rec hbv hGs)
                have hGt : G < wc.heap.size := Nat.lt_of_lt_of_le hGs hbv.size
                cases v with
                | true =>
                  have HB := Lib.hid (no_clash HX.out hmk HP.out HV.out)
                  go_wp2_with fail
                  go_ret
                  exact bad HB.out hbt
                | false =>
                  have HM2 := Lib.hid (clash_next HM.out HP.out HV.out)
                  go_wp2_with fail
                  go_roundw
                  case rel => exact ⟨m + 1, by omega, by go_num, hbt, HXG2, hGt, HM2⟩
                  case measure => simp [intOf]; omega
            · obtain rfl : m = k := by omega
              have HST := Lib.hid (steps_next HS.out (step_mk HX.out HH.out HM.out))
              go_wp2_with fail
              go_roundw
              case rel => exact ⟨m + 1, by omega, by go_num, hbs, HST⟩
              case measure => simp [intOf]; omega
    · obtain rfl : k = n := by omega
      have HS2 := Lib.hid (show ∀ i, i < xs.length → Step xs i from fun i hi => HS.out i (by rw [HN.out] at hi; exact hi))
      have HD := Lib.hid (show decide ((k : Int) ≤ 10) = goodB xs by
        by_cases h12 : k ≤ 10
        · rw [good_yes ⟨by rw [HN.out]; exact h12, HS2.out⟩]; exact decide_eq_true (by omega)
        · rw [no_len (by rw [HN.out]; omega)]; exact decide_eq_false (by omega))
      go_wp2_with fail
      go_ret
      exact ⟨ret_bool HD.out, hb⟩
end Go.Proofs.YtgemnjimgjnlhaaGreatDoor.AgG
namespace Go.Proofs.YtgemnjimgjnlhaaGreatDoor.AgT
open Go.RowKit Bs Word Ag
set_option linter.unusedVariables false
/-- when the last one ends -/
def fin (s : Int) (xs : List M) : Int := xs.foldl (fun n x => max n x.time + x.mins) s
/-- what f tells of each item and its begin, in order -/
def run (f : Int → M → List Int) (s : Int) : List M → List Int
  | [] => []
  | x :: xs => f (max s x.time) x ++ run f (max s x.time + x.mins) xs
def begs (s : Int) (xs : List M) : List Int := run (fun b _ => [b]) s xs
def late (s : Int) (xs : List M) : List Int := run (fun b x => if (x.time != -1 && decide (x.time < b)) = true then [x.id] else []) s xs
def till (e s : Int) (xs : List M) : List Int := run (fun b x => if b + x.mins ≤ e then [x.id] else []) s xs
def mins (xs : List M) : Int := xs.foldl (fun n x => n + x.mins) 0
theorem take_snoc {xs : List M} {k : Nat} {X : M} (h : xs[k]? = some X) : xs.take (k + 1) = xs.take k ++ [X] := by
  obtain ⟨hk, rfl⟩ := List.getElem?_eq_some_iff.1 h
  exact List.take_succ_eq_append_getElem hk
theorem fin_app (s : Int) (xs ys : List M) : fin s (xs ++ ys) = fin (fin s xs) ys := List.foldl_append
theorem run_app (f : Int → M → List Int) : ∀ (xs : List M) (s : Int) (ys : List M), run f s (xs ++ ys) = run f s xs ++ run f (fin s xs) ys
  | [], s, ys => rfl
  | x :: xs, s, ys => by
    show f _ x ++ run f _ (xs ++ ys) = (f _ x ++ run f _ xs) ++ run f (fin _ xs) ys
    rw [run_app f xs, List.append_assoc]
theorem fin_next {s : Int} {xs : List M} {k : Nat} {X : M} (h : xs[k]? = some X) : fin s (xs.take (k + 1)) = max (fin s (xs.take k)) X.time + X.mins := by
  rw [take_snoc h, fin_app]; rfl
theorem run_next {f : Int → M → List Int} {s : Int} {xs : List M} {k : Nat} {X : M} (h : xs[k]? = some X) : run f s (xs.take (k + 1)) = run f s (xs.take k) ++ f (max (fin s (xs.take k)) X.time) X := by
  rw [take_snoc h, run_app]
  show _ ++ (f _ X ++ []) = _
  rw [List.append_nil]
theorem mins_next {xs : List M} {k : Nat} {X : M} (h : xs[k]? = some X) : mins (xs.take (k + 1)) = mins (xs.take k) + X.mins := by
  rw [take_snoc h]; unfold mins; rw [List.foldl_append]; rfl
theorem begs_len : ∀ (xs : List M) (s : Int), (begs s xs).length = xs.length
  | [], s => rfl
  | x :: xs, s => by
    show ([_] ++ begs _ xs).length = _
    rw [List.length_append, begs_len xs, List.length_cons, List.length_cons, List.length_nil]; omega
theorem begs_at {s : Int} {xs : List M} {k : Nat} {X : M} (h : xs[k]? = some X) : (begs s xs)[k]? = some (max (fin s (xs.take k)) X.time) := by
  have hk : k < xs.length := (List.getElem?_eq_some_iff.1 h).1
  have e : begs s xs = begs s (xs.take (k + 1)) ++ run (fun b _ => [b]) (fin s (xs.take (k + 1))) (xs.drop (k + 1)) := by
    conv => lhs; rw [← List.take_append_drop (k + 1) xs]
    exact run_app _ _ _ _
  have e2 : begs s (xs.take (k + 1)) = begs s (xs.take k) ++ [max (fin s (xs.take k)) X.time] := run_next h
  have hl : (begs s (xs.take k)).length = k := by rw [begs_len, List.length_take]; omega
  rw [e, e2, List.append_assoc, List.getElem?_append_right (by omega), hl, Nat.sub_self]
  rfl
/-- in a good list nothing grows great -/
theorem fin_small {s : Int} {xs : List M} (hg : goodB xs = true) (h0 : 0 ≤ s) (h1 : s ≤ 1439) : ∀ k, k ≤ xs.length → 0 ≤ fin s (xs.take k) ∧ fin s (xs.take k) ≤ 1439 + 240 * (k : Int)
  | 0, _ => by simp only [List.take_zero]; show 0 ≤ s ∧ s ≤ _; omega
  | k + 1, hk => by
    obtain ⟨i1, i2⟩ := fin_small hg h0 h1 k (by omega)
    have hx := List.getElem?_eq_getElem (show k < xs.length by omega)
    obtain ⟨_, _, m, t⟩ := ok_parts (good_at hg hx)
    rw [fin_next hx]
    omega
theorem mins_small {xs : List M} (hg : goodB xs = true) : ∀ k, k ≤ xs.length → 0 ≤ mins (xs.take k) ∧ mins (xs.take k) ≤ 240 * (k : Int)
  | 0, _ => by simp only [List.take_zero]; show (0 : Int) ≤ 0 ∧ (0 : Int) ≤ _; omega
  | k + 1, hk => by
    obtain ⟨i1, i2⟩ := mins_small hg k (by omega)
    have hx := List.getElem?_eq_getElem (show k < xs.length by omega)
    obtain ⟨_, _, m, t⟩ := ok_parts (good_at hg hx)
    rw [mins_next hx]
    omega
theorem begin_small {s : Int} {xs : List M} {k : Nat} {X : M} (hg : goodB xs = true) (h0 : 0 ≤ s) (h1 : s ≤ 1439) (hx : xs[k]? = some X) : 0 ≤ max (fin s (xs.take k)) X.time ∧ max (fin s (xs.take k)) X.time ≤ 4000 := by
  have hk : k < xs.length := (List.getElem?_eq_some_iff.1 hx).1
  have := fin_small hg h0 h1 k (by omega)
  have h10 := good_len hg
  obtain ⟨_, _, m, t⟩ := ok_parts (good_at hg hx)
  omega
theorem run_len (f : Int → M → List Int) (hf : ∀ b x, (f b x).length ≤ 1) : ∀ (xs : List M) (s : Int), (run f s xs).length ≤ xs.length
  | [], s => Nat.le_refl _
  | x :: xs, s => by
    show (f _ x ++ run f _ xs).length ≤ _
    rw [List.length_append, List.length_cons]
    have := run_len f hf xs (max s x.time + x.mins)
    have := hf (max s x.time) x
    omega
/-- what is asked of an agenda and a minute -/
noncomputable def askB (xs : List M) (s : Int) : Bool := goodB xs && inB s 0 1439
end Go.Proofs.YtgemnjimgjnlhaaGreatDoor.AgT
namespace Go.Proofs.YtgemnjimgjnlhaaGreatDoor.AgS
open Go.RowKit Bs Word Ag AgT
set_option linter.unusedVariables false
theorem l1Most (a b : Int) (w : World) : Calls Tryz.prog 103 #[.int .i64 a, .int .i64 b] w fun e w' => e = .returned (.int .i64 (max a b)) ∧ w = w' := by
  by_cases h : b < a
  · have HM := Lib.hid (show max a b = a by omega)
    go_enter Tryz.func103, Tryz.ntmps103
    go_wp2_with fail
    go_ret
    exact ⟨by rw [HM.out]; rfl, rfl⟩
  · have HM := Lib.hid (show max a b = b by omega)
    go_enter Tryz.func103, Tryz.ntmps103
    go_wp2_with fail
    go_ret
    exact ⟨by rw [HM.out]; rfl, rfl⟩
theorem l5Asked (v : Value) (xs : List M) (s : Int) (w : World) (h : Is LAgendaItem.rec w v xs) (hsz : ∀ x ∈ xs, LAgendaItem.Fine x) :
    Calls Tryz.prog 66 #[v, .int .i64 s] w fun e w' => e = .returned (.bool (askB xs s)) ∧ Below w.heap.size w w' := by
  have HG := Lib.hid (AgG.l5Good v xs w h hsz)
  obtain ⟨a, c, rfl, _⟩ := h
  clear hsz
  cases hg : goodB xs with
  | false =>
    have HA := Lib.hid (show askB xs s = false by unfold askB; rw [hg]; rfl)
    rw [show AgG.Post xs w = fun e w' => e = .returned (.bool false) ∧ Below w.heap.size w w' by unfold AgG.Post; rw [hg]] at HG
    clear hg
    go_enter Tryz.func66, Tryz.ntmps66
    go_wp2_with fail
    refine HG.out.mono ?_
    rintro e w1 ⟨rfl, hb1⟩
    go_wp2_with fail
    go_ret
    exact ⟨ret_bool HA.out.symm, hb1⟩
  | true =>
    have HA := Lib.hid (show askB xs s = inB s 0 1439 by unfold askB; rw [hg]; rfl)
    rw [show AgG.Post xs w = fun e w' => e = .returned (.bool true) ∧ Below w.heap.size w w' by unfold AgG.Post; rw [hg]] at HG
    clear hg
    go_enter Tryz.func66, Tryz.ntmps66
    go_wp2_with fail
    refine HG.out.mono ?_
    rintro e w1 ⟨rfl, hb1⟩
    go_wp2_with fail
    refine (l5Minute _ _).mono ?_
    rintro e w2 ⟨rfl, rfl⟩
    go_wp2_with fail
    go_ret
    exact ⟨ret_bool HA.out.symm, hb1⟩
def TPost (xs : List M) (s : Int) (w : World) (e : Ending) (w' : World) : Prop := ∃ v, e = .returned (.tuple #[v, .int .i64 (fin s xs)]) ∧ Own LInt.rec 3 w' w.heap.size v (begs s xs) ∧ Below w.heap.size w w'
set_option maxRecDepth 100000 in
set_option maxHeartbeats 1600000 in
theorem l5Times (v : Value) (xs : List M) (s : Int) (w : World) (h : Is LAgendaItem.rec w v xs) (hg : goodB xs = true) (s0 : 0 ≤ s) (s1 : s ≤ 1439) :
    Calls Tryz.prog 67 #[v, .int .i64 s] w (TPost xs s w) := by
  obtain ⟨a, cp, rfl, h⟩ := h
  have hc := h.at_ LAgendaItem.rec
  obtain ⟨n, hn⟩ : ∃ n, n = xs.length := ⟨_, rfl⟩
  have hnb : n ≤ cp := by have := h.1; omega
  have hn2 := h.2.1
  unfold maxLen at hn2
  have HN := Lib.hid hn.symm
  rw [← hn]
  have hnle : n ≤ xs.length := by omega
  clear hn h
  have HGd := Lib.hid hg
  have h10 : n ≤ 10 := by have := good_len hg; have := HN.out; omega
  clear hg
  obtain ⟨i9, hi, hz0, hz1, hz2⟩ := info_parts LInt.infoK
  have HI9 := Lib.hid hi
  have HZ9 := Lib.hid (And.intro hz0 (And.intro hz1 hz2))
  clear hi hz0 hz1 hz2
  have hb0 := (Below.refl w.heap.size w).alloc (Nat.le_refl _) (Obj.cells #[] 3)
  have HO0 := Lib.hid (Own.start (T := LInt.rec) (E := 3) (w := w) (Nat.le_refl _))
  go_enter Tryz.func67, Tryz.ntmps67
  go_wp2_with fail
  go_loopw [6, 7, 8] (fun so sn i wr => ∃ (k : Nat) (o : Value) (zs : List Int) (t : Int), o = so ∧ Value.int .i64 t = sn ∧ k ≤ n ∧ i = .int .i64 k ∧ Hid (zs = begs s (xs.take k)) ∧ Hid (t = fin s (xs.take k)) ∧ zs.length ≤ k ∧ Hid (Own LInt.rec 3 wr w.heap.size o zs) ∧ Below w.heap.size w wr) (fun _ _ i _ => n - (intOf i).toNat)
  case atStart => exact ⟨0, _, [], s, rfl, rfl, Nat.zero_le _, rfl, Lib.hid rfl, Lib.hid rfl, Nat.le_refl _, HO0, hb0⟩
  case round =>
    clear HO0 hb0
    obtain ⟨k, o, zs, t, rfl, rfl, hk, rfl, HZ, HT, hzl, HO, hb⟩ := hrel
    by_cases hlt : k < n
    · have hx : k < xs.length := by omega
      obtain ⟨b, o', rfl, hbl, hcell0⟩ := hc.out k xs[k] (List.getElem?_eq_getElem hx)
      obtain ⟨q0, q1, q2, q3⟩ := LAgendaItem.cells (hcell0.below LAgendaItem.rec hb hbl)
      simp only [LAgendaItem.rec_n] at q0 q1 q2 q3
      have HX := Lib.hid (List.getElem?_eq_getElem hx)
      have HK := Lib.hid (hcell0)
      clear hcell0
      generalize xs[k] = X at *
      obtain ⟨_, _, ⟨m0, m1⟩, ⟨t0, t1⟩⟩ := ok_parts (good_at HGd.out HX.out)
      obtain ⟨f0, f1⟩ := begin_small HGd.out s0 s1 HX.out
      rw [← HT.out] at f0 f1
      obtain ⟨B, hB⟩ : ∃ B, B = max t X.time := ⟨_, rfl⟩
      rw [← hB] at f0 f1
      have HB := Lib.hid hB
      clear hB
      have HZ2 := Lib.hid (show zs ++ [B] = begs s (xs.take (k + 1)) by rw [HB.out, HZ.out, HT.out]; exact (run_next HX.out).symm)
      have HT2 := Lib.hid (show B + X.mins = fin s (xs.take (k + 1)) by rw [HB.out, HT.out]; exact (fin_next HX.out).symm)
      have s2 : IntKind.i64.wrap (B + X.mins) = B + X.mins := IntWalk.i64_in _ (by omega)
      have k0 : 0 ≤ (k : Int) := by omega
      have k1 : (k : Int) < (n : Int) := by omega
      go_wp2_with fail
      refine (l1Most t X.time _).mono ?_
      rintro e _ ⟨rfl, rfl⟩
      rw [← HB.out]
      have hsz := hb.size
      go_wp2_with (at_builtin; refine wpList_append_own _ rfl (.tmp 24) (.tmp 26) 45 rfl w.heap.size 3 i9 (.int .i64 0) 1 8 Tryz.underlying45 HI9.out HZ9.out.1 HZ9.out.2.1 HZ9.out.2.2 rfl (by decide) _ _ _ rfl (Own.kept HO.out (by (repeat (first | assumption | exact Below.refl _ _ | refine Below.drew ?_ | refine Below.setCell ?_ (by first | (simp; done) | (simp; omega) | omega) _ | refine Below.alloc ?_ (by first | (simp; done) | (simp; omega) | omega) _)))) ⟨_, 0, none⟩ 1 1 [.int .i64 B] rfl rfl ?c1 ?c2 ?c3 ?c4 ?c5 ?c6)
      try (case c1 => first | exact World.news_of_block (heap_alloc_new _ _) | exact World.news_of_block (alloc_two _ _ _))
      case c2 => first | rfl | (intro u hu; simp only [List.mem_cons, List.not_mem_nil, or_false] at hu; subst hu; rfl)
      case c3 => unfold maxLen; omega
      case c4 => omega
      case c5 => first | (simp; done) | (simp; omega) | omega
      case c6 =>
        intro v' w4 hown' hgrow _
        have hb3 : Below w.heap.size w w4 := Below.grown (by (repeat (first | assumption | exact Below.refl _ _ | refine Below.drew ?_ | refine Below.setCell ?_ (by first | (simp; done) | (simp; omega) | omega) _ | refine Below.alloc ?_ (by first | (simp; done) | (simp; omega) | omega) _))) hgrow (by first | (simp; done) | (simp; omega) | omega) (fun j hj => (HO.out.lt j hj).1)
        have HO2 := Lib.hid (show Own LInt.rec 3 w4 w.heap.size v' (zs ++ [B]) from own_of LInt.rec hown' (by simp) (by rw [flat_append]; rfl))
        clear hown' hgrow
        obtain ⟨q0, q1, q2, q3⟩ := LAgendaItem.cells (HK.out.below LAgendaItem.rec hb3 hbl)
        simp only [LAgendaItem.rec_n] at q0 q1 q2 q3
        go_wp2_with fail
        go_roundw
        case rel => exact ⟨k + 1, _, _, _, rfl, rfl, by omega, by go_num, HZ2, HT2, by simp; omega, HO2, hb3⟩
        case measure => simp [intOf]; omega
    · obtain rfl : k = n := by omega
      have HE := Lib.hid (show Own LInt.rec 3 wr w.heap.size o (begs s xs) by have h := HO.out; rw [HZ.out, List.take_of_length_le (by have := HN.out; omega)] at h; exact h)
      have HF := Lib.hid (show t = fin s xs by have h := HT.out; rw [List.take_of_length_le (by have := HN.out; omega)] at h; exact h)
      go_wp2_with fail
      go_ret2
      exact ⟨_, by rw [← HF.out]; rfl, HE.out, hb⟩
end Go.Proofs.YtgemnjimgjnlhaaGreatDoor.AgS
namespace Go.Proofs.YtgemnjimgjnlhaaGreatDoor.Sq
set_option linter.unusedVariables false
section
variable {α : Type} {p : α → Bool} {z : List α} {k : Nat} {X : α}
/-- none ahead of place k fits -/
def First (p : α → Bool) (z : List α) (k : Nat) : Prop := ∀ j x, j < k → z[j]? = some x → p x = false
theorem first_zero : First p z 0 := fun j x hj => by omega
theorem first_next (h : First p z k) (hx : z[k]? = some X) (hp : p X = false) : First p z (k + 1) := fun j x hj hz => by
  rcases Nat.lt_or_ge j k with h' | h'
  · exact h j x h' hz
  · obtain rfl : j = k := by omega
    rw [hx] at hz; rw [← Option.some.inj hz]; exact hp
theorem first_tail {y : α} (h : First p (y :: z) (k + 1)) : First p z k := fun j x hj hz => h (j + 1) x (by omega) (by simpa using hz)
theorem first_hit : ∀ {z : List α} {k : Nat}, First p z k → z[k]? = some X → p X = true → z.findIdx? p = some k
  | [], k, _, hx, _ => by simp at hx
  | y :: z, 0, _, hx, hp => by
    simp only [List.getElem?_cons_zero, Option.some.injEq] at hx
    subst hx
    rw [List.findIdx?_cons, hp]; rfl
  | y :: z, k + 1, h, hx, hp => by
    have h0 : p y = false := h 0 y (by omega) rfl
    rw [List.findIdx?_cons, h0, first_hit (first_tail h) (by simpa using hx) hp]; rfl
theorem first_none (h : First p z k) (hk : z.length ≤ k) : z.findIdx? p = none := by
  rw [List.findIdx?_eq_none_iff]
  intro x hx
  obtain ⟨i, hi, rfl⟩ := List.getElem_of_mem hx
  exact h i _ (by omega) (List.getElem?_eq_getElem hi)
/-- what findIdx? found -/
theorem idx_some (h : z.findIdx? p = some k) : ∃ X, z[k]? = some X ∧ p X = true ∧ First p z k := by
  obtain ⟨hk, hp, hn⟩ := List.findIdx?_eq_some_iff_getElem.1 h
  refine ⟨z[k], List.getElem?_eq_getElem hk, hp, fun j x hj hx => ?_⟩
  have hj' : j < z.length := by omega
  rw [List.getElem?_eq_getElem hj'] at hx
  have := hn j hj
  rw [← Option.some.inj hx]
  simpa using this
theorem idx_none (h : z.findIdx? p = none) : ∀ x ∈ z, p x = false := List.findIdx?_eq_none_iff.1 h
/-- the index as a number, or -1 -/
def ix : Option Nat → Int
  | some k => k
  | none => -1
theorem ix_neg {o : Option Nat} : ix o < 0 ↔ o = none := by
  cases o with
  | none => simp [ix]
  | some k => simp [ix]
/-- the found element itself -/
def got (p : α → Bool) (z : List α) : Option α := (z.findIdx? p).bind (fun k => z[k]?)
theorem got_hit (h : First p z k) (hx : z[k]? = some X) (hp : p X = true) : got p z = some X := by
  unfold got; rw [first_hit h hx hp]; exact hx
theorem got_none (h : First p z k) (hk : z.length ≤ k) : got p z = none := by unfold got; rw [first_none h hk]; rfl
theorem got_some (h : got p z = some X) : X ∈ z ∧ p X = true := by
  unfold got at h
  cases e : z.findIdx? p with
  | none => rw [e] at h; cases h
  | some k =>
    obtain ⟨Y, hY, hp, _⟩ := idx_some e
    rw [e] at h
    have h2 : z[k]? = some X := h
    rw [hY] at h2
    obtain rfl := Option.some.inj h2
    exact ⟨List.mem_of_getElem? hY, hp⟩
theorem got_no (h : got p z = none) : ∀ x ∈ z, p x = false := by
  unfold got at h
  cases e : z.findIdx? p with
  | none => exact idx_none e
  | some k =>
    obtain ⟨Y, hY, _⟩ := idx_some e
    rw [e] at h
    have h2 : z[k]? = none := h
    rw [hY] at h2; cases h2
end
end Go.Proofs.YtgemnjimgjnlhaaGreatDoor.Sq
namespace Go.Proofs.YtgemnjimgjnlhaaGreatDoor.AgF
open Go.RowKit Bs Word Ag Sq
set_option linter.unusedVariables false
theorem ret_int {a b : Int} (h : a = b) : Ending.returned (.int .i64 a) = .returned (.int .i64 b) := by rw [h]
abbrev idx (z : List M) (n : Int) : Option Nat := z.findIdx? (fun X => X.id == n)
theorem closure (X : M) (b : Nat) (id : Int) (w : World) (h : w.cell? ⟨b, 0, none⟩ = some (.int .i64 id)) (hl : b < w.heap.size) :
    Calls Tryz.prog 109 #[.agg #[.int .i64 X.id, .string X.title, .int .i64 X.mins, .int .i64 X.time], .pointer (some ⟨b, 0, none⟩)] w fun e w' => e = .returned (.bool (X.id == id)) ∧ Below w.heap.size w w' := by
  have h' : ∀ o, (w.alloc o).cell? ⟨b, 0, none⟩ = some (.int .i64 id) := fun o => by
    rw [((Below.refl w.heap.size w).alloc (Nat.le_refl _) o).cell (p := ⟨b, 0, none⟩) hl]; exact h
  have hb := fun o => (Below.refl w.heap.size w).alloc (Nat.le_refl _) o
  clear h
  go_enter Tryz.func109, Tryz.ntmps109
  go_wp2_with fail
  go_ret
  exact ⟨rfl, hb _⟩
set_option maxRecDepth 100000 in
set_option maxHeartbeats 800000 in
theorem index (v0 : Value) (z0 : List M) (a1 : Int) (b : Nat) (w : World) (h0 : Is LAgendaItem.rec w v0 z0) (hb : w.cell? ⟨b, 0, none⟩ = some (.int .i64 a1)) (hbl : b < w.heap.size) :
    Calls Tryz.prog 108 #[v0, .func (.func 109) #[] #[.pointer (some ⟨b, 0, none⟩)]] w fun e w' => e = .returned (.int .i64 (ix (idx z0 a1))) ∧ Below w.heap.size w w' := by
  obtain ⟨a, cp, rfl, h0⟩ := h0
  have hc := h0.at_ LAgendaItem.rec
  obtain ⟨n, hn⟩ : ∃ n, n = z0.length := ⟨_, rfl⟩
  have hnb : n ≤ cp := by have := h0.1; omega
  have hn2 := h0.2.1
  unfold maxLen at hn2
  have HN := Lib.hid hn.symm
  rw [← hn]
  have hnle : n ≤ z0.length := by omega
  clear hn h0
  have HB := Lib.hid hb
  clear hb
  go_enter Tryz.func108, Tryz.ntmps108
  go_wp2_with fail
  go_loopw [8] (fun i wr => ∃ k : Nat, k ≤ n ∧ i = .int .i64 k ∧ Hid (First (fun X => (X.id == a1)) z0 k) ∧ Below w.heap.size w wr) (fun i _ => n - (intOf i).toNat)
  case atStart => exact ⟨0, Nat.zero_le _, rfl, Lib.hid first_zero, Below.refl _ _⟩
  case round =>
    obtain ⟨k, hk, rfl, HF, hbw⟩ := hrel
    by_cases hlt : k < n
    · have hx : k < z0.length := by omega
      obtain ⟨b', o, rfl, hbl', hcell0⟩ := hc.out k z0[k] (List.getElem?_eq_getElem hx)
      have HX := Lib.hid (List.getElem?_eq_getElem hx)
      obtain ⟨q0, q1, q2, q3⟩ := LAgendaItem.cells (hcell0.below LAgendaItem.rec hbw hbl')
      simp only [LAgendaItem.rec_n] at q0 q1 q2 q3
      have k0 : 0 ≤ (k : Int) := by omega
      have k1 : (k : Int) < (n : Int) := by omega
      have hB2 := Lib.hid (show wr.cell? ⟨b, 0, none⟩ = some (.int .i64 a1) by rw [hbw.cell (p := ⟨b, 0, none⟩) hbl]; exact HB.out)
      have hbl2 : b < wr.heap.size := Nat.lt_of_lt_of_le hbl hbw.size
      clear hcell0
      generalize z0[k] = X at *
      go_wp2_with fail
      refine (closure X b a1 _ hB2.out hbl2).mono ?_
      rintro e w1 ⟨rfl, hb1⟩
      have hb2 := hbw.trans (hb1.mono hbw.size)
      clear q0 q1 q2 q3
      cases g : (X.id == a1) with
      | true =>
        have HI := Lib.hid (show idx z0 a1 = some k from first_hit HF.out HX.out g)
        clear g
        go_wp2_with fail
        go_ret
        exact ⟨ret_int (by rw [HI.out]; rfl), hb2⟩
      | false =>
        have HF2 := Lib.hid (first_next HF.out HX.out g)
        clear g
        go_wp2_with fail
        go_roundw
        case rel => exact ⟨k + 1, by omega, by go_num, HF2, hb2⟩
        case measure => simp [intOf]; omega
    · have HI := Lib.hid (show idx z0 a1 = none from first_none HF.out (by have := HN.out; omega))
      go_wp2_with fail
      go_ret
      exact ⟨ret_int (by rw [HI.out]; rfl), hbw⟩
theorem itemIndex (v0 : Value) (z0 : List M) (a1 : Int) (w : World) (h0 : Is LAgendaItem.rec w v0 z0) :
    Calls Tryz.prog 73 #[v0, .int .i64 a1] w fun e w' => e = .returned (.int .i64 (ix (idx z0 a1))) ∧ Below w.heap.size w w' := by
  have hbx := (Below.refl w.heap.size w).alloc (Nat.le_refl _) (Obj.cells #[.int .i64 a1] 3)
  have hc : (w.alloc (Obj.cells #[.int .i64 a1] 3)).cell? ⟨w.heap.size, 0, none⟩ = some (.int .i64 a1) := cell_one_new w (.int .i64 a1) 3 0 _ rfl
  have HX := Lib.hid (index v0 z0 a1 w.heap.size _ (h0.below LAgendaItem.rec hbx) hc (by simp))
  obtain ⟨a, c, rfl, _⟩ := h0
  clear hc
  go_enter Tryz.func73, Tryz.ntmps73
  go_wp2_with fail
  refine HX.out.mono ?_
  rintro e w' ⟨rfl, hb⟩
  have hb2 := hbx.trans (hb.mono hbx.size)
  go_wp2_with fail
  go_ret
  exact ⟨rfl, hb2⟩
/-- the head of a list up to a place that exists -/
theorem is_take {w : World} {b o cp k : Nat} {z : List M} (h : RowsAt LAgendaItem.rec w (some ⟨b, o, none⟩) cp z) (hbl : b < w.heap.size) (hk : k ≤ z.length) : Is LAgendaItem.rec w (.slice (some ⟨b, o, none⟩) k cp) (z.take k) := by
  obtain ⟨h1, h2, h3⟩ := h
  refine ⟨_, cp, by rw [List.length_take, Nat.min_eq_left hk], by rw [List.length_take]; omega, h2, .inr ⟨b, o, rfl, hbl, fun j r hr => ?_⟩⟩
  rw [List.getElem?_take] at hr
  split at hr
  · rcases h3 with rfl | ⟨b', o', he, _, hc⟩
    · simp at hr
    · simp only [Option.some.injEq, Addr.mk.injEq, and_true] at he
      obtain ⟨rfl, rfl⟩ := he
      exact hc j r hr
  · cases hr
/-- an Id ahead of a place, or none -/
theorem idx_take_some {z : List M} {k j : Nat} {n : Int} (h : idx (z.take k) n = some j) : ∃ q, j < k ∧ z[j]? = some q ∧ q.id = n := by
  obtain ⟨X, hX, hp, _⟩ := idx_some h
  rw [List.getElem?_take] at hX
  split at hX
  · exact ⟨X, by assumption, hX, by simpa using hp⟩
  · cases hX
theorem idx_take_none {z : List M} {k : Nat} {n : Int} (h : idx (z.take k) n = none) : ∀ j q, j < k → z[j]? = some q → (q.id == n) = false := fun j q hj hq =>
  idx_none h q (List.mem_of_getElem? (i := j) (by rw [List.getElem?_take, if_pos hj]; exact hq))
end Go.Proofs.YtgemnjimgjnlhaaGreatDoor.AgF
namespace Go.Proofs.YtgemnjimgjnlhaaGreatDoor.AgI
open Go.RowKit Bs Word Ag AgG AgF Sq
set_option linter.unusedVariables false
theorem valid_as (r : M) (v : Bool) (h : okB r = v) (hs : r.title.size ≤ maxLen) (w : World) :
    Calls Tryz.prog 72 #[.agg #[.int .i64 r.id, .string r.title, .int .i64 r.mins, .int .i64 r.time]] w fun e w' => e = .returned (.bool v) ∧ Below w.heap.size w w' := by
  subst h; exact isValidItem r w hs
def StepV (xs : List M) (i : Nat) (v : Bool) : Prop := (v = true → goodB xs = false) ∧ (v = false → Step xs i)
set_option maxRecDepth 100000 in
set_option maxHeartbeats 1600000 in
theorem isValidAgenda (v : Value) (xs : List M) (w : World) (h : Is LAgendaItem.rec w v xs) (hsz : ∀ x ∈ xs, LAgendaItem.Fine x) :
    Calls Tryz.prog 31 #[v] w (Post xs w) := by
  obtain ⟨a, cp, rfl, h⟩ := h
  have hc := h.at_ LAgendaItem.rec
  have HR := Lib.hid h
  obtain ⟨n, hn⟩ : ∃ n, n = xs.length := ⟨_, rfl⟩
  have hnb : n ≤ cp := by have := h.1; omega
  have h2 := h.2.1
  unfold maxLen at h2
  have HN := Lib.hid hn.symm
  have HSZ := Lib.hid hsz
  rw [← hn]
  have hle : n ≤ xs.length := by omega
  clear hn h hsz
  by_cases h8 : n ≤ 10
  · go_enter Tryz.func31, Tryz.ntmps31
    go_wp2_with fail
    go_loopw [10] (fun i wr => ∃ k : Nat, k ≤ n ∧ i = .int .i64 k ∧ Below w.heap.size w wr ∧ Hid (∀ i, i < k → Step xs i)) (fun i _ => n - (intOf i).toNat)
    case atStart => exact ⟨0, Nat.zero_le _, rfl, Below.refl _ _, Lib.hid (fun i hi => by omega)⟩
    case round =>
      obtain ⟨k, hk, rfl, hb, HS⟩ := hrel
      by_cases hlt : k < n
      · have hx : k < xs.length := by omega
        obtain ⟨b, o, rfl, hbl, hcell0⟩ := hc.out k xs[k] (List.getElem?_eq_getElem hx)
        obtain ⟨q0, q1, q2, q3⟩ := LAgendaItem.cells (hcell0.below LAgendaItem.rec hb hbl)
        simp only [LAgendaItem.rec_n] at q0 q1 q2 q3
        have hxs := Lib.hid (HSZ.out xs[k] (List.getElem_mem hx))
        have HX := Lib.hid (List.getElem?_eq_getElem hx)
        clear hcell0
        generalize xs[k] = X at *
        go_wp2_with fail
        have HBX := Lib.hid (LAgendaItem.box wr X 52)
        have hba := hb.alloc hb.size (Obj.cells #[.int .i64 X.id, .string X.title, .int .i64 X.mins, .int .i64 X.time] 52)
        have hGq : wr.heap.size < (wr.alloc (Obj.cells #[.int .i64 X.id, .string X.title, .int .i64 X.mins, .int .i64 X.time] 52)).heap.size := by simp
        clear q0 q1 q2 q3
        generalize wr.alloc (Obj.cells #[.int .i64 X.id, .string X.title, .int .i64 X.mins, .int .i64 X.time] 52) = wq at *
        have hGl : w.heap.size ≤ wr.heap.size := hb.size
        generalize wr.heap.size = G at *
        clear hb
        have HT := Lib.hid (show ∀ W, Below w.heap.size w W → Is LAgendaItem.rec W (.slice (some ⟨b, o, none⟩) k cp) (xs.take k) from fun W hW => is_take (HR.out.below LAgendaItem.rec hW) (Nat.lt_of_lt_of_le hbl hW.size) (by omega))
        go_cut [26] (fun t wx => ∃ v : Bool, t = .bool v ∧ Hid (StepV xs k v) ∧ Below wq.heap.size wq wx)
        case first =>
          have HG := LAgendaItem.grown HBX.out hGq
          have c0 := fun d os => (LAgendaItem.cells0 (HG.out d os)).1
          have c1 := fun d os => (LAgendaItem.cells0 (HG.out d os)).2.1
          have c2 := fun d os => (LAgendaItem.cells0 (HG.out d os)).2.2.1
          have c3 := fun d os => (LAgendaItem.cells0 (HG.out d os)).2.2.2
          have k0 : 0 ≤ (k : Int) := by omega
          have k1 : (k : Int) < (n : Int) := by omega
          have k2 : (k : Int) ≤ (cp : Int) := by omega
          have k3 : k ≤ cp := by omega
          have HII := Lib.hid (fun (d : Nat) (os : Array Obj) => itemIndex _ _ X.id (Sort.grow (redrawn wq d) os) (HT.out (Sort.grow (redrawn wq d) os) (hba.trans ((below_regrown wq d os).mono hba.size))))
          cases hok : okB X with
          | false =>
            have HV := Lib.hid (show StepV xs k true from ⟨fun _ => no_ok HX.out hok, fun e => by cases e⟩)
            have HC := Lib.hid (fun W => valid_as X false hok hxs.out W)
            clear hok
            refine wp_region_quiet_below (by kernel_rfl) (by kernel_rfl) ?_
            repeat (go_big_quiet_step ((first | (go_at_call 72; exact Calls.regrown_of (HC.out _)) | (go_at_call 73; exact Calls.regrown_of (HII.out _ _)))))
            refine wpQuiet_nil ?_
            intro _ hw'
            obtain ⟨⟨dq, osq⟩, hw''⟩ := hw'
            subst hw''
            go_wp2_with fail
            go_meet
            exact ⟨true, rfl, HV, below_regrown _ _ _⟩
          | true =>
            have HC := Lib.hid (fun W => valid_as X true hok hxs.out W)
            cases hi : idx (xs.take k) X.id with
            | some j =>
              have HV := Lib.hid (show StepV xs k true from ⟨fun _ => by obtain ⟨q, hj, hq, he⟩ := idx_take_some hi; exact no_clash HX.out hj hq (by unfold clash; rw [he]; simp), fun e => by cases e⟩)
              have e2 : decide (0 ≤ ix (idx (xs.take k) X.id)) = true := by rw [hi]; unfold ix; simp
              clear hok hi
              generalize ix (idx (xs.take k) X.id) = J at *
              refine wp_region_quiet_below (by kernel_rfl) (by kernel_rfl) ?_
              repeat (go_big_quiet_step ((first | (go_at_call 72; exact Calls.regrown_of (HC.out _)) | (go_at_call 73; exact Calls.regrown_of (HII.out _ _)))))
              refine wpQuiet_nil ?_
              intro _ hw'
              obtain ⟨⟨dq, osq⟩, hw''⟩ := hw'
              subst hw''
              go_wp2_with fail
              go_meet
              exact ⟨true, rfl, HV, below_regrown _ _ _⟩
            | none =>
              have HV := Lib.hid (show StepV xs k false from ⟨fun e => by (cases e), fun _ => step_mk HX.out ⟨X, HX.out, hok⟩ (fun j q hj hq => idx_take_none hi j q hj hq)⟩)
              have e2 : decide (0 ≤ ix (idx (xs.take k) X.id)) = false := by rw [hi]; unfold ix; simp
              clear hok hi
              generalize ix (idx (xs.take k) X.id) = J at *
              refine wp_region_quiet_below (by kernel_rfl) (by kernel_rfl) ?_
              repeat (go_big_quiet_step ((first | (go_at_call 72; exact Calls.regrown_of (HC.out _)) | (go_at_call 73; exact Calls.regrown_of (HII.out _ _)))))
              refine wpQuiet_nil ?_
              intro _ hw'
              obtain ⟨⟨dq, osq⟩, hw''⟩ := hw'
              subst hw''
              go_wp2_with fail
              go_meet
              exact ⟨false, rfl, HV, below_regrown _ _ _⟩
        case rest =>
          obtain ⟨v, rfl, HV, hbv⟩ := hcut
          have hb2 := hba.trans (hbv.mono hba.size)
          cases v with
          | true =>
            have HB := Lib.hid (show goodB xs = false from HV.out.1 rfl)
            go_wp2_with fail
            go_ret
            exact bad HB.out hb2
          | false =>
            have HST := Lib.hid (steps_next HS.out (HV.out.2 rfl))
            go_wp2_with fail
            go_roundw
            case rel => exact ⟨k + 1, by omega, by go_num, hb2, HST⟩
            case measure => simp [intOf]; omega
      · obtain rfl : k = n := by omega
        have HB := Lib.hid (good_yes (xs := xs) ⟨by rw [HN.out]; exact h8, fun i hi => HS.out i (by rw [HN.out] at hi; exact hi)⟩)
        go_wp2_with fail
        go_ret
        exact ⟨by rw [HB.out]; exact ret_bool rfl, hb⟩
  · have HB := Lib.hid (no_len (xs := xs) (by have := HN.out; omega))
    go_enter Tryz.func31, Tryz.ntmps31
    go_wp2_with fail
    go_ret
    exact bad HB.out (Below.refl _ _)
end Go.Proofs.YtgemnjimgjnlhaaGreatDoor.AgI
namespace Go.Proofs.YtgemnjimgjnlhaaGreatDoor.ItemTimesC
open Go.RowKit Bs Word Ag AgT AgS
set_option linter.unusedVariables false
noncomputable def tA (z : List M) (s : Int) : List Int × Bool := if askB z s = true then (begs s z, true) else ([], false)
theorem t_no {z : List M} {s : Int} (h : askB z s = false) : tA z s = ([], false) := by unfold tA; rw [h]; rfl
theorem t_yes {z : List M} {s : Int} (h : askB z s = true) : tA z s = (begs s z, true) := by unfold tA; rw [if_pos h]
theorem ask_parts {z : List M} {s : Int} (h : askB z s = true) : goodB z = true ∧ 0 ≤ s ∧ s ≤ 1439 := by
  unfold askB at h
  rw [Bool.and_eq_true] at h
  exact ⟨h.1, inB_yes h.2⟩
def Ans (z0 : List LAgendaItem.R) (a1 : Int) (r0 : List Int) (r1 : Bool) : Prop := tA z0 a1 = (r0, r1)
theorem same {z0 : List LAgendaItem.R} {a1 : Int} {r0 s0 : List Int} {r1 s1 : Bool} (h : Ans z0 a1 r0 r1) (h' : Ans z0 a1 s0 s1) : r0 = s0 ∧ r1 = s1 := by have := h.symm.trans h'; simpa using this
theorem len0 {z0 : List LAgendaItem.R} {a1 : Int} {r0 : List Int} {r1 : Bool} (h : Ans z0 a1 r0 r1) : r0.length ≤ 1048576 := by
  unfold Ans tA at h
  split at h
  · rename_i hg
    simp only [Prod.mk.injEq] at h
    have := good_len (ask_parts hg).1
    rw [← h.1, begs_len]; omega
  · simp only [Prod.mk.injEq] at h; rw [← h.1]; simp
def Post (z0 : List LAgendaItem.R) (a1 : Int) (w : World) (e : Ending) (w' : World) : Prop := ∃ v0 r0 r1, e = .returned (.tuple #[v0, .bool r1]) ∧ Ans z0 a1 r0 r1 ∧ Own LInt.rec 3 w' w.heap.size v0 r0 ∧ Below w.heap.size w w'
set_option maxRecDepth 100000 in
theorem spec (v0 : Value) (z0 : List LAgendaItem.R) (a1 : Int) (w : World) (h0 : IsS LAgendaItem.rec w v0 z0) (f0 : ∀ x ∈ z0, LAgendaItem.Fine x) (l0 : z0.length ≤ 1048576) :
    Calls Tryz.prog 21 #[v0, .int .i64 a1] w (Post z0 a1 w) := by
  have h1 := IsS.is LAgendaItem.rec h0
  have HI := Lib.hid h1
  have HA := Lib.hid (l5Asked v0 z0 a1 w h1 f0)
  obtain ⟨b, o, cp, rfl, _⟩ := h0
  clear h1 f0
  cases hg : askB z0 a1 with
  | false =>
    have HAn := Lib.hid (t_no hg)
    rw [hg] at HA
    clear hg
    go_enter Tryz.func21, Tryz.ntmps21
    go_wp2_with fail
    refine HA.out.mono ?_
    rintro e w1 ⟨rfl, hb1⟩
    have hb2 := hb1.alloc hb1.size (Obj.cells #[] 3)
    have HO := Lib.hid (Own.start (T := LInt.rec) (E := 3) (w := w1) hb1.size)
    go_wp2_with fail
    go_ret2
    exact ⟨_, [], false, rfl, HAn.out, HO.out, hb2⟩
  | true =>
    have HAn := Lib.hid (t_yes hg)
    obtain ⟨hgd, s0, s1⟩ := ask_parts hg
    have HG := Lib.hid hgd
    rw [hg] at HA
    clear hg hgd
    go_enter Tryz.func21, Tryz.ntmps21
    go_wp2_with fail
    refine HA.out.mono ?_
    rintro e w1 ⟨rfl, hb1⟩
    have HI1 := Lib.hid (HI.out.below LAgendaItem.rec hb1)
    go_wp2_with fail
    refine (l5Times _ z0 a1 _ HI1.out HG.out s0 s1).mono ?_
    rintro e w2 ⟨v, rfl, ho, hb2⟩
    have HO := Lib.hid (ho.low hb1.size)
    have hb3 := hb1.trans (hb2.mono hb1.size)
    clear ho hb2
    go_wp2_with fail
    go_ret2
    exact ⟨_, _, true, rfl, HAn.out, HO.out, hb3⟩

set_option maxRecDepth 100000 in
set_option maxHeartbeats 1600000 in
theorem implI (v0 : Value) (z0 : List LAgendaItem.R) (a1 : Int) (w : World) (h : Is LAgendaItem.rec w v0 z0) (f0 : ∀ x ∈ z0, LAgendaItem.Fine x) :
    Calls Tryz.prog 20 #[v0, .int .i64 a1] w (Post z0 a1 w) := by
  have HV := Lib.hid (AgI.isValidAgenda v0 z0 w h f0)
  obtain ⟨a, cp, rfl, h⟩ := h
  have hc := h.at_ LAgendaItem.rec
  obtain ⟨n, hn⟩ : ∃ n, n = z0.length := ⟨_, rfl⟩
  have hnb : n ≤ cp := by have := h.1; omega
  have hn2 := h.2.1
  unfold maxLen at hn2
  have HN := Lib.hid hn.symm
  rw [← hn] at HV ⊢
  have hnle : n ≤ z0.length := by omega
  clear hn h
  clear f0
  have go1 : ∀ g, goodB z0 = g → AgG.Post z0 w = fun e w' => e = .returned (.bool g) ∧ Below w.heap.size w w' := fun g hg => by unfold AgG.Post; rw [hg]
  obtain ⟨i9, hi, hz0, hz1, hz2⟩ := info_parts LInt.infoK
  have HI9 := Lib.hid hi
  have HZ9 := Lib.hid (And.intro hz0 (And.intro hz1 hz2))
  clear hi hz0 hz1 hz2
  cases hg : goodB z0 with
  | false =>
    have HAn := Lib.hid (t_no (z := z0) (s := a1) (show askB z0 a1 = false by unfold askB; rw [hg]; rfl))
    rw [go1 _ hg] at HV
    clear hg go1
    go_enter Tryz.func20, Tryz.ntmps20
    go_wp2_with fail
    refine HV.out.mono ?_
    rintro e w1 ⟨rfl, hb1⟩
    have hb2 := hb1.alloc hb1.size (Obj.cells #[] 3)
    have HO := Lib.hid (Own.start (T := LInt.rec) (E := 3) (w := w1) hb1.size)
    go_wp2_with fail
    go_ret2
    exact ⟨_, [], false, rfl, HAn.out, HO.out, hb2⟩
  | true =>
    rw [go1 _ hg] at HV
    clear go1
    cases hm : inB a1 0 1439 with
    | false =>
      have HAn := Lib.hid (t_no (z := z0) (s := a1) (show askB z0 a1 = false by unfold askB; rw [hm, Bool.and_false]))
      have HM := Lib.hid (fun W => imin_as a1 false hm W)
      clear hg hm
      go_enter Tryz.func20, Tryz.ntmps20
      go_wp2_with fail
      refine HV.out.mono ?_
      rintro e w1 ⟨rfl, hb1⟩
      go_wp2_with fail
      refine (HM.out _).mono ?_
      rintro e _ ⟨rfl, rfl⟩
      have hb2 := hb1.alloc hb1.size (Obj.cells #[] 3)
      have HO := Lib.hid (Own.start (T := LInt.rec) (E := 3) (w := w1) hb1.size)
      go_wp2_with fail
      go_ret2
      exact ⟨_, [], false, rfl, HAn.out, HO.out, hb2⟩
    | true =>
      have hask : askB z0 a1 = true := by unfold askB; rw [hg, hm]; rfl
      have HAn := Lib.hid (t_yes hask)
      obtain ⟨_, s0, s1⟩ := ask_parts hask
      have HM := Lib.hid (fun W => imin_as a1 true hm W)
      have HGd := Lib.hid hg
      have h10 : n ≤ 10 := by have := good_len hg; have := HN.out; omega
      clear hg hm hask
      go_enter Tryz.func20, Tryz.ntmps20
      go_wp2_with fail
      refine HV.out.mono ?_
      rintro e w1 ⟨rfl, hb1⟩
      go_wp2_with fail
      refine (HM.out _).mono ?_
      rintro e _ ⟨rfl, rfl⟩
      have hb2 := hb1.alloc hb1.size (Obj.cells #[] 3)
      have HO0 := Lib.hid (Own.start (T := LInt.rec) (E := 3) (w := w1) hb1.size)
      clear hb1
      go_wp2_with fail
      go_loopw [6, 7, 23] (fun so sn i wr => ∃ (k : Nat) (o : Value) (zs : List Int) (t : Int), o = so ∧ Value.int .i64 t = sn ∧ k ≤ n ∧ i = .int .i64 k ∧ Hid (zs = begs a1 (z0.take k)) ∧ Hid (t = fin a1 (z0.take k)) ∧ zs.length ≤ k ∧ Hid (Own LInt.rec 3 wr w.heap.size o zs) ∧ Below w.heap.size w wr) (fun _ _ i _ => n - (intOf i).toNat)
      case atStart => exact ⟨0, _, [], a1, rfl, rfl, Nat.zero_le _, rfl, Lib.hid rfl, Lib.hid rfl, Nat.le_refl _, HO0, hb2⟩
      case round =>
        clear HO0 hb2
        obtain ⟨k, o, zs, t, rfl, rfl, hk, rfl, HZ, HT, hzl, HO, hb⟩ := hrel
        by_cases hlt : k < n
        · have hx : k < z0.length := by omega
          obtain ⟨b, o', rfl, hbl, hcell0⟩ := hc.out k z0[k] (List.getElem?_eq_getElem hx)
          obtain ⟨q0, q1, q2, q3⟩ := LAgendaItem.cells (hcell0.below LAgendaItem.rec hb hbl)
          simp only [LAgendaItem.rec_n] at q0 q1 q2 q3
          have HX := Lib.hid (List.getElem?_eq_getElem hx)
          clear hcell0
          generalize z0[k] = X at *
          obtain ⟨_, _, ⟨m0, m1⟩, ⟨t0, t1⟩⟩ := ok_parts (good_at HGd.out HX.out)
          obtain ⟨f0, f1⟩ := begin_small HGd.out s0 s1 HX.out
          rw [← HT.out] at f0 f1
          obtain ⟨B, hB⟩ : ∃ B, B = max t X.time := ⟨_, rfl⟩
          rw [← hB] at f0 f1
          have HZ2 := Lib.hid (show zs ++ [B] = begs a1 (z0.take (k + 1)) by rw [hB, HZ.out, HT.out]; exact (run_next HX.out).symm)
          have HT2 := Lib.hid (show B + X.mins = fin a1 (z0.take (k + 1)) by rw [hB, HT.out]; exact (fin_next HX.out).symm)
          have s2 : IntKind.i64.wrap (B + X.mins) = B + X.mins := IntWalk.i64_in _ (by omega)
          have HB := Lib.hid hB
          clear hB
          have k0 : 0 ≤ (k : Int) := by omega
          have k1 : (k : Int) < (n : Int) := by omega
          go_upto_region 8 with fail
          have HBX := Lib.hid (LAgendaItem.box wr X 52)
          have hba := hb.alloc hb.size (Obj.cells #[.int .i64 X.id, .string X.title, .int .i64 X.mins, .int .i64 X.time] 52)
          have hGq : wr.heap.size < (wr.alloc (Obj.cells #[.int .i64 X.id, .string X.title, .int .i64 X.mins, .int .i64 X.time] 52)).heap.size := by simp
          have HO1 := Lib.hid (HO.out.alloc (Obj.cells #[.int .i64 X.id, .string X.title, .int .i64 X.mins, .int .i64 X.time] 52))
          have HL := Lib.hid (fun g hg => (HO.out.lt g hg).2)
          have hGl : w.heap.size ≤ wr.heap.size := hb.size
          clear q0 q1 q2 q3 HO hb
          generalize wr.alloc (Obj.cells #[.int .i64 X.id, .string X.title, .int .i64 X.mins, .int .i64 X.time] 52) = wq at *
          generalize wr.heap.size = G at *
          have HO := HO1
          clear HO1
          obtain ⟨x0, x1, x2, x3⟩ := LAgendaItem.cells0 HBX.out
          have hsz := hba.size
          go_upto_region 9 with fail
          rw [← HB.out]
          go_wp2_with (at_builtin; refine wpList_append_own _ rfl (.tmp 31) (.tmp 33) 45 rfl w.heap.size 3 i9 (.int .i64 0) 1 8 Tryz.underlying45 HI9.out HZ9.out.1 HZ9.out.2.1 HZ9.out.2.2 rfl (by decide) _ _ _ rfl (Own.kept HO.out (by (repeat (first | assumption | exact Below.refl _ _ | refine Below.drew ?_ | refine Below.setCell ?_ (by first | (simp; done) | (simp; omega) | omega) _ | refine Below.alloc ?_ (by first | (simp; done) | (simp; omega) | omega) _)))) ⟨_, 0, none⟩ 1 1 [.int .i64 B] rfl rfl ?c1 ?c2 ?c3 ?c4 ?c5 ?c6)
          try (case c1 => first | exact World.news_of_block (heap_alloc_new _ _) | exact World.news_of_block (alloc_two _ _ _))
          case c2 => first | rfl | (intro u hu; simp only [List.mem_cons, List.not_mem_nil, or_false] at hu; subst hu; rfl)
          case c3 => unfold maxLen; omega
          case c4 => omega
          case c5 => first | (simp; done) | (simp; omega) | omega
          case c6 =>
            intro v' w4 hown' hgrow _
            have hb3 : Below w.heap.size w w4 := Below.grown (by (repeat (first | assumption | exact Below.refl _ _ | refine Below.drew ?_ | refine Below.setCell ?_ (by first | (simp; done) | (simp; omega) | omega) _ | refine Below.alloc ?_ (by first | (simp; done) | (simp; omega) | omega) _))) hgrow (by first | (simp; done) | (simp; omega) | omega) (fun j hj => (HO.out.lt j hj).1)
            have HO2 := Lib.hid (show Own LInt.rec 3 w4 w.heap.size v' (zs ++ [B]) from own_of LInt.rec hown' (by simp) (by rw [flat_append]; rfl))
            clear hown'
            have HBX4 := Lib.hid (show At LAgendaItem.rec w4 G 0 X from (HBX.out.below LAgendaItem.rec ((Below.refl wq.heap.size wq).alloc (Nat.le_refl _) _) hGq).keep LAgendaItem.rec (fun p => World.cell?_of_block (a := ⟨G, p, none⟩) (hgrow.block G (by simp; omega) (fun e => by have := HL.out _ e.symm; omega))))
            clear hgrow x0 x1 x2 x3
            obtain ⟨x0, x1, x2, x3⟩ := LAgendaItem.cells0 HBX4.out
            go_wp2_with fail
            go_roundw
            case rel => exact ⟨k + 1, _, _, _, rfl, rfl, by omega, by go_num, HZ2, HT2, by simp; omega, HO2, hb3⟩
            case measure => simp [intOf]; omega
        · obtain rfl : k = n := by omega
          have HE := Lib.hid (show Own LInt.rec 3 wr w.heap.size o (begs a1 z0) by have h := HO.out; rw [HZ.out, List.take_of_length_le (by have := HN.out; omega)] at h; exact h)
          go_wp2_with fail
          go_ret2
          exact ⟨_, _, true, rfl, HAn.out, HE.out, hb⟩
theorem impl (v0 : Value) (z0 : List LAgendaItem.R) (a1 : Int) (w : World) (h0 : IsS LAgendaItem.rec w v0 z0) (f0 : ∀ x ∈ z0, LAgendaItem.Fine x) (l0 : z0.length ≤ 1048576) :
    Calls Tryz.prog 20 #[v0, .int .i64 a1] w (Post z0 a1 w) := implI v0 z0 a1 w (IsS.is LAgendaItem.rec h0) f0
end Go.Proofs.YtgemnjimgjnlhaaGreatDoor.ItemTimesC
namespace Go.Proofs.YtgemnjimgjnlhaaGreatDoor.AgP
open Go.RowKit Bs Word Ag AgT
set_option linter.unusedVariables false
def pick (p : Int → M → Bool) (s : Int) (xs : List M) : List Int := run (fun b x => if p b x = true then [x.id] else []) s xs
def lateT (b : Int) (X : M) : Bool := X.time != -1 && decide (X.time < b)
def tillT (e b : Int) (X : M) : Bool := decide (b + X.mins ≤ e)
theorem pick_yes {p : Int → M → Bool} {s : Int} {xs : List M} {k : Nat} {X : M} {zs : List Int} {b : Int} (hz : zs = pick p s (xs.take k)) (h : xs[k]? = some X) (hb : b = max (fin s (xs.take k)) X.time) (hp : p b X = true) : zs ++ [X.id] = pick p s (xs.take (k + 1)) := by
  unfold pick at hz ⊢
  rw [run_next h, ← hb, if_pos hp, hz]
theorem pick_no {p : Int → M → Bool} {s : Int} {xs : List M} {k : Nat} {X : M} {zs : List Int} {b : Int} (hz : zs = pick p s (xs.take k)) (h : xs[k]? = some X) (hb : b = max (fin s (xs.take k)) X.time) (hp : p b X = false) : zs = pick p s (xs.take (k + 1)) := by
  unfold pick at hz ⊢
  rw [run_next h, ← hb, if_neg (by rw [hp]; simp), hz, List.append_nil]
theorem pick_len (p : Int → M → Bool) (s : Int) (xs : List M) : (pick p s xs).length ≤ xs.length := by
  unfold pick
  exact run_len _ (fun b x => by split <;> simp) xs s
theorem own_rows {α : Type} {T : Rec α} {E : TypeId} {w : World} {A n c : Nat} {a : Option Addr} {xs : List α} (h : Own T E w A (.slice a n c) xs) : RowsAt T w a c xs := by
  obtain ⟨a', c', e, hr⟩ := h.is
  simp only [Value.slice.injEq] at e
  obtain ⟨rfl, _, rfl⟩ := e
  exact hr
theorem own_form {α : Type} {T : Rec α} {E : TypeId} {w : World} {A : Nat} {v : Value} {xs : List α} (h : Own T E w A v xs) : ∃ a c, v = .slice a xs.length c := by
  obtain ⟨a, c, e, _⟩ := h.is
  exact ⟨a, c, e⟩
theorem fin_all {s : Int} {xs : List M} {n : Nat} (hn : xs.length = n) : fin s (xs.take n) = fin s xs := by rw [List.take_of_length_le (by omega)]
end Go.Proofs.YtgemnjimgjnlhaaGreatDoor.AgP
namespace Go.Proofs.YtgemnjimgjnlhaaGreatDoor.AgW
open Go.RowKit Bs Word Ag AgT AgP
set_option linter.unusedVariables false
theorem mins_at {xs : List M} (hg : goodB xs = true) {k : Nat} {X : M} (h : xs[k]? = some X) : 1 ≤ X.mins ∧ X.mins ≤ 240 ∧ -1 ≤ X.time ∧ X.time ≤ 1439 := by
  obtain ⟨_, _, m, t⟩ := ok_parts (good_at hg h)
  omega
/-- no minute is lost: the start and all minutes are at most the end -/
theorem fin_mins {s : Int} {xs : List M} (hg : goodB xs = true) : ∀ k, k ≤ xs.length → s + mins (xs.take k) ≤ fin s (xs.take k)
  | 0, _ => by simp only [List.take_zero]; show s + 0 ≤ s; omega
  | k + 1, hk => by
    have ih := fin_mins (s := s) hg k (by omega)
    have hx := List.getElem?_eq_getElem (show k < xs.length by omega)
    rw [fin_next hx, mins_next hx]
    omega
theorem idle_pos {s : Int} {xs : List M} (hg : goodB xs = true) : 0 ≤ fin s xs - s - mins xs := by
  have h := fin_mins (s := s) hg xs.length (Nat.le_refl _)
  rw [List.take_length] at h
  omega
theorem start_le {s : Int} {xs : List M} (hg : goodB xs = true) : ∀ k, k ≤ xs.length → s ≤ fin s (xs.take k) := fun k hk => by
  have h := fin_mins (s := s) hg k hk
  have h2 := mins_small hg k hk
  omega
theorem fin_step {s : Int} {xs : List M} (hg : goodB xs = true) {k : Nat} (hk : k < xs.length) : fin s (xs.take k) ≤ fin s (xs.take (k + 1)) := by
  have hx := List.getElem?_eq_getElem hk
  have := mins_at hg hx
  rw [fin_next hx]
  omega
theorem fin_mono {s : Int} {xs : List M} (hg : goodB xs = true) : ∀ (d k : Nat), k + d ≤ xs.length → fin s (xs.take k) ≤ fin s (xs.take (k + d))
  | 0, k, _ => Int.le_refl _
  | d + 1, k, h => Int.le_trans (fin_mono hg d k (by omega)) (fin_step hg (by omega))
/-- the begin of an item: not before the start, not before its time, not before the end of the one ahead -/
theorem beg_start {s : Int} {xs : List M} (hg : goodB xs = true) {k : Nat} {X : M} {b : Int} (hx : xs[k]? = some X) (hb : (begs s xs)[k]? = some b) : s ≤ b ∧ X.time ≤ b := by
  have hk := (List.getElem?_eq_some_iff.1 hx).1
  rw [begs_at hx] at hb
  obtain rfl := Option.some.inj hb
  have := start_le (s := s) hg k (by omega)
  omega
theorem beg_next {s : Int} {xs : List M} {k : Nat} {X Y : M} {b c : Int} (hx : xs[k]? = some X) (hy : xs[k + 1]? = some Y) (hb : (begs s xs)[k]? = some b) (hc : (begs s xs)[k + 1]? = some c) : b + X.mins ≤ c := by
  rw [begs_at hx] at hb
  rw [begs_at hy, fin_next hx] at hc
  obtain rfl := Option.some.inj hb
  obtain rfl := Option.some.inj hc
  omega
/-- until the end all items are done -/
theorem till_all {s : Int} {xs : List M} (hg : goodB xs = true) : (till (fin s xs) s xs).length = xs.length := by
  have key : ∀ k, k ≤ xs.length → (till (fin s xs) s (xs.take k)).length = k := fun k => by
    induction k with
    | zero => intro _; simp only [List.take_zero]; rfl
    | succ k ih =>
      intro hk
      have hx := List.getElem?_eq_getElem (show k < xs.length by omega)
      have h1 : fin s (xs.take (k + 1)) ≤ fin s xs := by
        have h := fin_mono (s := s) hg (xs.length - (k + 1)) (k + 1) (by omega)
        rw [show k + 1 + (xs.length - (k + 1)) = xs.length by omega, List.take_length] at h
        exact h
      rw [fin_next hx] at h1
      have e : till (fin s xs) s (xs.take (k + 1)) = till (fin s xs) s (xs.take k) ++ (if max (fin s (xs.take k)) xs[k].time + xs[k].mins ≤ fin s xs then [xs[k].id] else []) := run_next hx
      rw [e, if_pos h1, List.length_append, ih (by omega)]
      rfl
  have h := key xs.length (Nat.le_refl _)
  rw [List.take_length] at h
  exact h
theorem pick_till (e s : Int) (xs : List M) : pick (tillT e) s xs = till e s xs := by
  unfold pick till tillT
  congr 1
  funext b x
  by_cases h : b + x.mins ≤ e
  · rw [if_pos h, if_pos (decide_eq_true h)]
  · rw [if_neg h, if_neg (by rw [decide_eq_false h]; decide)]
theorem pick_all {s : Int} {xs : List M} (hg : goodB xs = true) : (pick (tillT (fin s xs)) s xs).length = xs.length := by rw [pick_till]; exact till_all hg
/-- the law's sum: idle minutes and all minutes -/
theorem sum_end {s : Int} {xs : List M} : s + ((fin s xs - s - mins xs) + mins xs) = fin s xs := by omega
theorem sum_next {i : Int} {xs : List M} {k : Nat} {X : M} (h : xs[k]? = some X) : i + mins (xs.take k) + X.mins = i + mins (xs.take (k + 1)) := by
  rw [mins_next h]; omega
theorem end_small {s : Int} {xs : List M} (hg : goodB xs = true) (h0 : 0 ≤ s) (h1 : s ≤ 1439) : 0 ≤ fin s xs ∧ fin s xs ≤ 4000 := by
  have h := fin_small hg h0 h1 xs.length (Nat.le_refl _)
  have := good_len hg
  rw [List.take_length] at h
  omega
end Go.Proofs.YtgemnjimgjnlhaaGreatDoor.AgW
namespace Go.Proofs.YtgemnjimgjnlhaaGreatDoor.Cur
open Go.RowKit
set_option linter.unusedVariables false

theorem cell_lt {w : World} {p : Addr} {v : Value} (h : w.cell? p = some v) : p.block < w.heap.size := by
  rcases Nat.lt_or_ge p.block w.heap.size with h' | h'
  · exact h'
  · simp [World.cell?, Array.getElem?_eq_none h'] at h

/-- The bytes of the code that the reader reads, in a block other than the reader's. -/
def CodeAt (w : World) (B : Nat) (a : Option Addr) (len : Nat) : Prop :=
  len = 0 ∨ ∃ b off, a = some ⟨b, off, none⟩ ∧ b < B ∧ b < w.heap.size ∧ ∀ j, j < len → ∃ z : Int, w.cell? ⟨b, off + j, none⟩ = some (.int .u8 z) ∧ 0 ≤ z ∧ z ≤ 255
/-- Block B is a reader at place k. -/
def CurAt (w : World) (B k : Nat) : Prop :=
  ∃ a len cap seed, w.heap[B]? = some (.cells #[.slice a len cap, .int .i64 (k : Int), .int .u64 seed] 63 (0, 0)) ∧ len ≤ 65536 ∧ k ≤ 1000000 ∧ CodeAt w B a len

def Blk (w : World) (B : Nat) (v : Value) (k : Int) (seed : Int) : Prop := w.heap[B]? = some (.cells #[v, .int .i64 k, .int .u64 seed] 63 (0, 0))
theorem Blk.lt {w : World} {B : Nat} {v : Value} {k seed : Int} (h : Blk w B v k seed) : B < w.heap.size := (Array.getElem?_eq_some_iff.1 h).1
theorem Blk.c0 {w : World} {B : Nat} {v : Value} {k seed : Int} (h : Blk w B v k seed) : w.cell? ⟨B, 0, none⟩ = some v := by simp [World.cell?, show w.heap[B]? = _ from h]
theorem Blk.c1 {w : World} {B : Nat} {v : Value} {k seed : Int} (h : Blk w B v k seed) : w.cell? ⟨B, 1, none⟩ = some (.int .i64 k) := by simp [World.cell?, show w.heap[B]? = _ from h]
theorem Blk.c2 {w : World} {B : Nat} {v : Value} {k seed : Int} (h : Blk w B v k seed) : w.cell? ⟨B, 2, none⟩ = some (.int .u64 seed) := by simp [World.cell?, show w.heap[B]? = _ from h]
theorem Blk.fr {w : World} {B : Nat} {v : Value} {k seed : Int} (h : Blk w B v k seed) (o : Nat) : w.frozen? ⟨B, o, none⟩ = false := by simp [World.frozen?, show w.heap[B]? = _ from h]
theorem Blk.set1 {w : World} {B : Nat} {v : Value} {k seed : Int} (h : Blk w B v k seed) (k' : Int) : Blk (w.setCell ⟨B, 1, none⟩ (.int .i64 k')) B v k' seed := heap_setCell_same w B 1 _ 63 _ h
theorem Blk.set2 {w : World} {B : Nat} {v : Value} {k seed : Int} (h : Blk w B v k seed) (s' : Int) : Blk (w.setCell ⟨B, 2, none⟩ (.int .u64 s')) B v k s' := heap_setCell_same w B 2 _ 63 _ h
theorem grown_set (w : World) (B o : Nat) (v : Value) : w.grownBy (w.setCell ⟨B, o, none⟩ v) (some B) :=
  ⟨rfl, rfl, rfl, by simp [World.setCell], fun k _ hk => Below.heap_setCell w ⟨B, o, none⟩ v k (fun e => hk (by rw [e]))⟩
theorem grown_drew (w : World) (m : Nat) (r : Option Nat) : w.grownBy (w.drewN m) r := ⟨rfl, rfl, rfl, Nat.le_refl _, fun _ _ _ => rfl⟩
theorem grown_trans {a b c : World} {r : Option Nat} (h : a.grownBy b r) (k : b.grownBy c r) : a.grownBy c r :=
  ⟨k.os.trans h.os, k.tape.trans h.tape, k.output.trans h.output, Nat.le_trans h.size k.size, fun i hi hr => (k.block i (Nat.lt_of_lt_of_le hi h.size) hr).trans (h.block i hi hr)⟩
def NextPost (w : World) (B : Nat) (v : Value) (k : Nat) (e : Ending) (w' : World) : Prop :=
  ∃ r s' : Int, e = .returned (.int .i64 r) ∧ 0 ≤ r ∧ r ≤ 255 ∧ Blk w' B v ((k + 1 : Nat) : Int) s' ∧ w.grownBy w' (some B)

/-- a number that a uint64 holds -/
def U64 (s : Int) : Prop := 0 ≤ s ∧ s ≤ 18446744073709551615
theorem u64_wrap (n : Int) : U64 (IntKind.u64.wrap n) := by unfold U64; rw [IntKind.wrap_u64]; omega
theorem and255 (s : Int) (h : U64 s) : 0 ≤ wrap64 (bits BinOp.and IntKind.u64 (s / 1099511627776) 255) ∧ wrap64 (bits BinOp.and IntKind.u64 (s / 1099511627776) 255) ≤ 255 := by
  unfold U64 at h
  have h0 : 0 ≤ s / 1099511627776 := by omega
  have h1 : s / 1099511627776 < 18446744073709551616 := by omega
  generalize s / 1099511627776 = E at h0 h1
  have hb := bits_and_u64_nat E.toNat 255 (by omega) (by omega)
  have he : ((E.toNat : Nat) : Int) = E := Int.toNat_of_nonneg h0
  rw [he] at hb
  have hl : E.toNat &&& 255 ≤ 255 := Nat.and_le_right
  have e2 : bits BinOp.and IntKind.u64 E 255 = ((E.toNat &&& 255 : Nat) : Int) := hb
  rw [e2]
  unfold wrap64
  omega

set_option maxHeartbeats 400000 in
theorem next_out (B k len cap : Nat) (a : Option Addr) (seed : Int) (w : World) (h : Blk w B (.slice a len cap) k seed) (hl : len ≤ 65536) (hk : k ≤ 1000000) (hlt : ¬ k < len) :
    Calls Tryz.prog 116 #[.pointer (some ⟨B, 0, none⟩)] w (NextPost w B (.slice a len cap) k) := by
  have HB := Lib.hid h
  have h0 := h.c0
  have h1 := h.c1
  have h2 := h.c2
  have f1 := h.fr 1
  have f2 := h.fr 2
  clear h
  go_enter Tryz.func116, Tryz.ntmps116
  go_wp2_with fail
  go_quiet (fail)
  go_wp2_with fail
  have hs2 := u64_wrap (IntKind.u64.wrap (IntKind.u64.wrap (seed * 6364136223846793005)) + 909909)
  generalize hs : IntKind.u64.wrap (IntKind.u64.wrap (IntKind.u64.wrap (seed * 6364136223846793005)) + 909909) = s2 at hs2 ⊢
  clear hs
  have HB2 : Blk (((w.drewN nq).setCell ⟨B, 1, none⟩ (.int .i64 ((k : Int) + 1))).setCell ⟨B, 2, none⟩ (.int .u64 s2)) B (.slice a len cap) ((k : Int) + 1) s2 := (Blk.set1 (w := w.drewN nq) HB.out _).set2 _
  have hg : w.grownBy (((w.drewN nq).setCell ⟨B, 1, none⟩ (.int .i64 ((k : Int) + 1))).setCell ⟨B, 2, none⟩ (.int .u64 s2)) (some B) := grown_trans (grown_trans (grown_drew w nq _) (grown_set _ _ _ _)) (grown_set _ _ _ _)
  generalize ((w.drewN nq).setCell ⟨B, 1, none⟩ (.int .i64 ((k : Int) + 1))).setCell ⟨B, 2, none⟩ (.int .u64 s2) = W2 at *
  have g0 := HB2.c0
  have g1 := HB2.c1
  have g2 := HB2.c2
  have HB3 := Lib.hid HB2
  clear HB2 h0 h1 h2 f1 f2
  go_quiet (fail)
  go_wp2_with fail
  go_ret
  exact ⟨_, s2, rfl, (and255 s2 hs2).1, (and255 s2 hs2).2, HB3.out, grown_trans hg (grown_drew _ _ _)⟩

set_option maxHeartbeats 400000 in
theorem next_on (B k len cap b off : Nat) (seed z : Int) (w : World) (h : Blk w B (.slice (some ⟨b, off, none⟩) len cap) k seed) (hl : len ≤ 65536) (hlt : k < len) (hz : w.cell? ⟨b, off + k, none⟩ = some (.int .u8 z)) (z0 : 0 ≤ z) (z1 : z ≤ 255) :
    Calls Tryz.prog 116 #[.pointer (some ⟨B, 0, none⟩)] w (NextPost w B (.slice (some ⟨b, off, none⟩) len cap) k) := by
  have HB := Lib.hid h
  have h0 := h.c0
  have h1 := h.c1
  have h2 := h.c2
  have f1 := h.fr 1
  have f2 := h.fr 2
  have k0 : 0 ≤ (k : Int) := by omega
  have k1 : (k : Int) < (len : Int) := by omega
  have hw : IntKind.i64.wrap z = z := IntWalk.i64_in _ (by omega)
  clear h
  go_enter Tryz.func116, Tryz.ntmps116
  go_wp2_with fail
  go_quiet (fail)
  obtain ⟨m1, rfl⟩ : ∃ m1, m1 = nq := ⟨_, rfl⟩
  go_wp2_with fail
  go_quiet (fail)
  clear hw hz
  go_wp2_with fail
  generalize hs : IntKind.u64.wrap (IntKind.u64.wrap (IntKind.u64.wrap (seed * 6364136223846793005) + z) + 909909) = s2
  clear hs
  have HB2 : Blk (((w.drewN (m1 + nq)).setCell ⟨B, 1, none⟩ (.int .i64 ((k : Int) + 1))).setCell ⟨B, 2, none⟩ (.int .u64 s2)) B (.slice (some ⟨b, off, none⟩) len cap) ((k : Int) + 1) s2 := (Blk.set1 (w := w.drewN (m1 + nq)) HB.out _).set2 _
  have hg : w.grownBy (((w.drewN (m1 + nq)).setCell ⟨B, 1, none⟩ (.int .i64 ((k : Int) + 1))).setCell ⟨B, 2, none⟩ (.int .u64 s2)) (some B) := grown_trans (grown_trans (grown_drew w (m1 + nq) _) (grown_set _ _ _ _)) (grown_set _ _ _ _)
  generalize ((w.drewN (m1 + nq)).setCell ⟨B, 1, none⟩ (.int .i64 ((k : Int) + 1))).setCell ⟨B, 2, none⟩ (.int .u64 s2) = W2 at *
  have g0 := HB2.c0
  have g1 := HB2.c1
  have g2 := HB2.c2
  have HB3 := Lib.hid HB2
  clear HB2 h0 h1 h2 f1 f2
  go_quiet (fail)
  go_wp2_with fail
  go_ret
  exact ⟨_, s2, rfl, z0, z1, HB3.out, grown_trans hg (grown_drew _ _ _)⟩

/-- what a world that is as it was but for the reader's block keeps -/
theorem CodeAt.grown {w w' : World} {B : Nat} {a : Option Addr} {len : Nat} (h : CodeAt w B a len) (hg : w.grownBy w' (some B)) : CodeAt w' B a len := by
  rcases h with h | ⟨b, off, rfl, hne, hlt, hc⟩
  · exact .inl h
  · refine .inr ⟨b, off, rfl, hne, Nat.lt_of_lt_of_le hlt hg.size, fun j hj => ?_⟩
    obtain ⟨z, hz, h0, h1⟩ := hc j hj
    exact ⟨z, by rw [World.cell?_of_block (hg.block b hlt (by intro e; have := Option.some.inj e; omega))]; exact hz, h0, h1⟩

/-- what a step of the reader answers and leaves -/
def Step (w : World) (B k : Nat) (hi : Int) (e : Ending) (w' : World) : Prop := ∃ r : Int, e = .returned (.int .i64 r) ∧ 0 ≤ r ∧ r ≤ hi ∧ CurAt w' B k ∧ w.grownBy w' (some B)
theorem next (B k : Nat) (w : World) (h : CurAt w B k) (hk : k < 1000000) : Calls Tryz.prog 116 #[.pointer (some ⟨B, 0, none⟩)] w (Step w B (k + 1) 255) := by
  obtain ⟨a, len, cap, seed, hB, hl, _, hc⟩ := h
  have fin : ∀ e w', NextPost w B (.slice a len cap) k e w' → Step w B (k + 1) 255 e w' := fun e w' ⟨r, s', he, h0, h1, hb, hg⟩ => ⟨r, he, h0, h1, ⟨a, len, cap, s', hb, hl, by omega, hc.grown hg⟩, hg⟩
  by_cases hlt : k < len
  · rcases hc with h0 | ⟨b, off, rfl, hne, hbl, hcc⟩
    · omega
    · obtain ⟨z, hz, z0, z1⟩ := hcc k hlt
      exact (next_on B k len cap b off seed z w hB hl hlt hz z0 z1).mono fin
  · exact (next_out B k len cap a seed w hB hl (by omega) hlt).mono fin

/-- Block B is a reader that has read at most m bytes. -/
def Cur (w : World) (B m : Nat) : Prop := ∃ k, k ≤ m ∧ CurAt w B k
theorem Cur.mono {w : World} {B m m' : Nat} (h : Cur w B m) (hm : m ≤ m') : Cur w B m' := by
  obtain ⟨k, hk, hc⟩ := h
  exact ⟨k, by omega, hc⟩
theorem Cur.lt {w : World} {B m : Nat} (h : Cur w B m) : B < w.heap.size := by
  obtain ⟨k, _, a, len, cap, seed, hB, _⟩ := h
  exact Blk.lt (w := w) (B := B) (v := .slice a len cap) (k := k) (seed := seed) hB
theorem grown_refl (w : World) (r : Option Nat) : w.grownBy w r := ⟨rfl, rfl, rfl, Nat.le_refl _, fun _ _ _ => rfl⟩
/-- a world that keeps the reader's block keeps the reader -/
theorem Cur.kept {w w' : World} {B m : Nat} (h : Cur w B m) (hb : Below w.heap.size w w') : Cur w' B m := by
  obtain ⟨k, hk, a, len, cap, seed, hB, hl, hk2, hc⟩ := h
  have hlt : B < w.heap.size := Blk.lt (w := w) (B := B) (v := .slice a len cap) (k := k) (seed := seed) hB
  refine ⟨k, hk, a, len, cap, seed, (hb.block B hlt).trans hB, hl, hk2, ?_⟩
  exact hc.grown ⟨hb.os, hb.tape, hb.output, hb.size, fun j hj _ => hb.block j hj⟩

theorem CodeAt.below {w w' : World} {B : Nat} {a : Option Addr} {len : Nat} (h : CodeAt w B a len) (hb : Below (B + 1) w w') : CodeAt w' B a len := by
  rcases h with h | ⟨b, off, rfl, hne, hlt, hc⟩
  · exact .inl h
  · refine .inr ⟨b, off, rfl, hne, Nat.lt_of_lt_of_le hlt hb.size, fun j hj => ?_⟩
    obtain ⟨z, hz, h0, h1⟩ := hc j hj
    exact ⟨z, by rw [hb.cell (p := ⟨b, off + j, none⟩) (by show b < B + 1; omega)]; exact hz, h0, h1⟩
/-- a world that keeps all up to the reader's block keeps the reader -/
theorem Cur.keptB {w w' : World} {B m : Nat} (h : Cur w B m) (hb : Below (B + 1) w w') : Cur w' B m := by
  obtain ⟨k, hk, a, len, cap, seed, hB, hl, hk2, hc⟩ := h
  exact ⟨k, hk, a, len, cap, seed, (hb.block B (by omega)).trans hB, hl, hk2, hc.below hb⟩
/-- a row of strings is not the reader's block -/
theorem Cur.not_row {w : World} {B m base n : Nat} {v : Value} {xs : List Value} (h : Cur w B m) (hr : w.ownsRow base 9 1 v n xs) : v.ownBlock ≠ some B := by
  obtain ⟨k, _, a, len, cap, seed, hB, _⟩ := h
  rcases hr.2 with ⟨rfl, _⟩ | ⟨g, cp, cur, rfl, _, hgb, _⟩
  · simp [Value.ownBlock]
  · intro e
    obtain rfl : g = B := by simpa [Value.ownBlock] using e
    rw [hB] at hgb
    simp at hgb

def Picks (w : World) (B m : Nat) (hi : Int) (e : Ending) (w' : World) : Prop := ∃ r : Int, e = .returned (.int .i64 r) ∧ 0 ≤ r ∧ r ≤ hi ∧ Cur w' B m ∧ w.grownBy w' (some B)
set_option maxHeartbeats 400000 in
theorem pick (B m : Nat) (n : Int) (w : World) (h : Cur w B m) (hm : m < 900000) (h0 : 1 ≤ n) (h1 : n ≤ 60000) : Calls Tryz.prog 78 #[.pointer (some ⟨B, 0, none⟩), .int .i64 n] w (Picks w B (m + 2) (n - 1)) := by
  obtain ⟨k, hk, hc⟩ := h
  by_cases hn : n ≤ 1
  · have HC := Lib.hid hc
    clear hc
    go_enter Tryz.func78, Tryz.ntmps78
    go_wp2_with fail
    go_ret
    exact ⟨0, rfl, by omega, by omega, ⟨k, by omega, HC.out⟩, grown_refl _ _⟩
  · have HC := Lib.hid hc
    clear hc
    by_cases hb : 200 < n
    · go_enter Tryz.func78, Tryz.ntmps78
      go_wp2_with fail
      refine (next B k _ HC.out (by omega)).mono ?_
      rintro e w1 ⟨r, rfl, r0, r1, hc1, hg1⟩
      have HC1 := Lib.hid hc1
      clear hc1 HC
      go_wp2_with fail
      refine (next B (k + 1) _ HC1.out (by omega)).mono ?_
      rintro e w2 ⟨r2, rfl, r20, r21, hc2, hg2⟩
      have HC2 := Lib.hid hc2
      have hg := grown_trans hg1 hg2
      clear hc2 HC1 hg1 hg2
      go_wp2_with fail
      go_ret
      exact ⟨_, rfl, Int.emod_nonneg _ (by omega), by have := Int.emod_lt_of_pos (r * 256 + r2) (show 0 < n by omega); omega, ⟨k + 1 + 1, by omega, HC2.out⟩, hg⟩
    · go_enter Tryz.func78, Tryz.ntmps78
      go_wp2_with fail
      refine (next B k _ HC.out (by omega)).mono ?_
      rintro e w1 ⟨r, rfl, r0, r1, hc1, hg1⟩
      have HC1 := Lib.hid hc1
      clear hc1 HC
      go_wp2_with fail
      go_ret
      exact ⟨_, rfl, Int.emod_nonneg _ (by omega), by have := Int.emod_lt_of_pos r (show 0 < n by omega); omega, ⟨k + 1, by omega, HC1.out⟩, hg1⟩

def Ones (w : World) (B m : Nat) (e : Ending) (w' : World) : Prop := ∃ r : Bool, e = .returned (.bool r) ∧ Cur w' B m ∧ w.grownBy w' (some B)
set_option maxHeartbeats 400000 in
theorem one (B m : Nat) (n : Int) (w : World) (h : Cur w B m) (hm : m < 900000) (h0 : 1 ≤ n) (h1 : n ≤ 60000) : Calls Tryz.prog 61 #[.pointer (some ⟨B, 0, none⟩), .int .i64 n] w (Ones w B (m + 2)) := by
  have HC := Lib.hid h
  clear h
  go_enter Tryz.func61, Tryz.ntmps61
  go_wp2_with fail
  refine (pick B m n _ HC.out hm h0 h1).mono ?_
  rintro e w1 ⟨r, rfl, r0, r1, hc1, hg1⟩
  have HC1 := Lib.hid hc1
  clear hc1 HC
  go_wp2_with fail
  go_ret
  exact ⟨_, rfl, HC1.out, hg1⟩

/-- 'of' answers one of the strings. -/
def Ofs (w : World) (B m : Nat) (xs : List ByteArray) (e : Ending) (w' : World) : Prop := ∃ x, x ∈ xs ∧ e = .returned (.string x) ∧ Cur w' B m ∧ w.grownBy w' (some B)
set_option maxHeartbeats 400000 in
theorem of_any (B m g o n cap : Nat) (xs : List ByteArray) (w : World) (h : Cur w B m) (hm : m < 900000) (hn : xs.length = n) (h0 : 1 ≤ n) (h1 : n ≤ 60000) (hcap : n ≤ cap) (hgB : g ≠ B) (hgl : g < w.heap.size)
    (hc : ∀ j x, xs[j]? = some x → w.cell? ⟨g, o + j, none⟩ = some (.string x)) :
    Calls Tryz.prog 79 #[.pointer (some ⟨B, 0, none⟩), .slice (some ⟨g, o, none⟩) n cap] w (Ofs w B (m + 2) xs) := by
  have HC := Lib.hid h
  have HX := Lib.hid hc
  have HN := Lib.hid hn
  clear h hc hn
  go_enter Tryz.func79, Tryz.ntmps79
  go_wp2_with fail
  refine (pick B m n _ HC.out hm (by omega) (by omega)).mono ?_
  rintro e w1 ⟨r, rfl, r0, r1, hc1, hg1⟩
  obtain ⟨i, rfl⟩ := Int.eq_ofNat_of_zero_le r0
  have hi : i < xs.length := by rw [HN.out]; omega
  have hcell : w1.cell? ⟨g, o + i, none⟩ = some (.string xs[i]) := by
    rw [World.cell?_of_block (hg1.block g hgl (by intro e; exact hgB (Option.some.inj e)))]
    exact HX.out i _ (List.getElem?_eq_getElem hi)
  have HM := Lib.hid (List.getElem_mem hi)
  have HC1 := Lib.hid hc1
  clear hc1 HC
  generalize xs[i] = X at *
  go_wp2_with fail
  go_ret
  exact ⟨X, HM.out, rfl, HC1.out, hg1⟩
end Go.Proofs.YtgemnjimgjnlhaaGreatDoor.Cur
namespace Go.Proofs.YtgemnjimgjnlhaaGreatDoor.Draw
open Go.RowKit Cur
set_option linter.unusedVariables false

/-- A new reader over a code that came in. -/
theorem cur_new {w : World} {a : Option Addr} {len cap : Nat} {zs : List Int} (h : Frame.IsRow .u8 w a len cap zs) (hl : len ≤ 65536) :
    Cur (w.alloc (.cells #[.slice a len cap, .int .i64 0, .int .u64 0] 63)) w.heap.size 0 := by
  refine ⟨0, Nat.le_refl _, a, len, cap, 0, (by show (w.heap.push _)[w.heap.size]? = _; rw [Array.getElem?_push, if_pos rfl]; rfl), hl, by omega, ?_⟩
  rcases h with ⟨rfl, rfl, rfl, rfl⟩ | ⟨x, rfl, h1, h2, h3, h4, h5⟩
  · exact .inl rfl
  · by_cases h0 : len = 0
    · exact .inl h0
    · obtain ⟨b, off, spot⟩ := x
      have hspot : spot = none := by simpa [Addr.add] using World.cell?_spot (h4 0 (by omega))
      subst hspot
      have hb : b < w.heap.size := cell_lt (h4 0 (by omega))
      refine .inr ⟨b, off, rfl, by omega, by simp; omega, fun j hj => ?_⟩
      have hz := h4 j (by omega)
      have hw := h5 (zs.getD j 0) (by rw [List.getD_eq_getElem?_getD, List.getElem?_eq_getElem (by omega)]; exact List.getElem_mem _)
      refine ⟨zs.getD j 0, ?_, ?_, ?_⟩
      · rw [World.cell?_alloc_past _ _ _ hb, ← Go.WideShapes.add_plain]
        exact hz
      · exact (bounds_u8 hw).1
      · exact (bounds_u8 hw).2

theorem lit_cells (w : World) (xs : List ByteArray) (j : Nat) (x : ByteArray) (h : xs[j]? = some x) : (w.alloc (.cells (xs.map Value.string).toArray 9)).cell? ⟨w.heap.size, 0 + j, none⟩ = some (.string x) := by
  rw [Nat.zero_add, World.cell?_alloc_at _ _ _ _ rfl]
  show (xs.map Value.string).toArray[j]? = _
  rw [List.getElem?_toArray, List.getElem?_map, h]
  rfl
theorem grown_alloc (w : World) (o : Obj) (r : Option Nat) : w.grownBy (w.alloc o) r := World.grownBy_alloc w o r

/-- 'c.of([]string{..})' at a literal that has just been laid. -/
theorem of_lit (B m : Nat) (xs : List ByteArray) (w : World) (h : Cur w B m) (hm : m < 900000) (h0 : 1 ≤ xs.length) (h1 : xs.length ≤ 60000) :
    Calls Tryz.prog 79 #[.pointer (some ⟨B, 0, none⟩), .slice (some ⟨w.heap.size, 0, none⟩) xs.length xs.length] (w.alloc (.cells (xs.map Value.string).toArray 9)) (Ofs w B (m + 2) xs) := by
  have hlt := h.lt
  refine (of_any B m w.heap.size 0 xs.length xs.length xs _ (h.kept ((Below.refl _ _).alloc (Nat.le_refl _) _)) hm rfl h0 h1 (Nat.le_refl _) (by omega) (by simp) (fun j x hx => lit_cells w xs j x hx)).mono ?_
  rintro e w' ⟨x, hx, he, hc, hg⟩
  exact ⟨x, hx, he, hc, grown_trans (grown_alloc w _ _) hg⟩
theorem small_of (xs : List ByteArray) (k : Nat) (h : xs.all (fun x => decide (x.size ≤ k)) = true) (x : ByteArray) (hx : x ∈ xs) : x.size ≤ k := of_decide_eq_true (List.all_eq_true.1 h x hx)

def Str (w : World) (B m k : Nat) (e : Ending) (w' : World) : Prop := ∃ x : ByteArray, e = .returned (.string x) ∧ x.size ≤ k ∧ Cur w' B m ∧ w.grownBy w' (some B)
/-- what a reader of the call's own leaves -/
theorem below_cur {w w' : World} {o : Obj} (hg : (w.alloc o).grownBy w' (some w.heap.size)) : Below w.heap.size w w' :=
  ((Below.refl _ w).alloc (Nat.le_refl _) o).grown hg (by simp) (fun j hj => by cases hj; exact Nat.le_refl _)
end Go.Proofs.YtgemnjimgjnlhaaGreatDoor.Draw
namespace Go.Proofs.YtgemnjimgjnlhaaGreatDoor.Draw
open Go.RowKit Cur
set_option linter.unusedVariables false

def Ints (w : World) (B m : Nat) (xs : List Int) (e : Ending) (w' : World) : Prop := ∃ x, x ∈ xs ∧ e = .returned (.int .i64 x) ∧ Cur w' B m ∧ w.grownBy w' (some B)
set_option maxHeartbeats 400000 in
theorem among_any (B m g o n cap : Nat) (xs : List Int) (w : World) (h : Cur w B m) (hm : m < 900000) (hn : xs.length = n) (h0 : 1 ≤ n) (h1 : n ≤ 60000) (hcap : n ≤ cap) (hgB : g ≠ B) (hgl : g < w.heap.size)
    (hc : ∀ j x, xs[j]? = some x → w.cell? ⟨g, o + j, none⟩ = some (.int .i64 x)) :
    Calls Tryz.prog 100 #[.pointer (some ⟨B, 0, none⟩), .slice (some ⟨g, o, none⟩) n cap] w (Ints w B (m + 2) xs) := by
  have HC := Lib.hid h
  have HX := Lib.hid hc
  have HN := Lib.hid hn
  clear h hc hn
  go_enter Tryz.func100, Tryz.ntmps100
  go_wp2_with fail
  refine (pick B m n _ HC.out hm (by omega) (by omega)).mono ?_
  rintro e w1 ⟨r, rfl, r0, r1, hc1, hg1⟩
  obtain ⟨i, rfl⟩ := Int.eq_ofNat_of_zero_le r0
  have hi : i < xs.length := by rw [HN.out]; omega
  have hcell : w1.cell? ⟨g, o + i, none⟩ = some (.int .i64 xs[i]) := by
    rw [World.cell?_of_block (hg1.block g hgl (by intro e; exact hgB (Option.some.inj e)))]
    exact HX.out i _ (List.getElem?_eq_getElem hi)
  have HM := Lib.hid (List.getElem_mem hi)
  have HC1 := Lib.hid hc1
  clear hc1 HC
  generalize xs[i] = X at *
  go_wp2_with fail
  go_ret
  exact ⟨X, HM.out, rfl, HC1.out, hg1⟩
theorem lit_ints (w : World) (xs : List Int) (j : Nat) (x : Int) (h : xs[j]? = some x) : (w.alloc (.cells (xs.map (Value.int .i64)).toArray 3)).cell? ⟨w.heap.size, 0 + j, none⟩ = some (.int .i64 x) := by
  rw [Nat.zero_add, World.cell?_alloc_at _ _ _ _ rfl]
  show (xs.map (Value.int .i64)).toArray[j]? = _
  rw [List.getElem?_toArray, List.getElem?_map, h]
  rfl
theorem among_lit (B m : Nat) (xs : List Int) (w : World) (h : Cur w B m) (hm : m < 900000) (h0 : 1 ≤ xs.length) (h1 : xs.length ≤ 60000) :
    Calls Tryz.prog 100 #[.pointer (some ⟨B, 0, none⟩), .slice (some ⟨w.heap.size, 0, none⟩) xs.length xs.length] (w.alloc (.cells (xs.map (Value.int .i64)).toArray 3)) (Ints w B (m + 2) xs) := by
  have hlt := h.lt
  refine (among_any B m w.heap.size 0 xs.length xs.length xs _ (h.kept ((Below.refl _ _).alloc (Nat.le_refl _) _)) hm rfl h0 h1 (Nat.le_refl _) (by omega) (by simp) (fun j x hx => lit_ints w xs j x hx)).mono ?_
  rintro e w' ⟨x, hx, he, hc, hg⟩
  exact ⟨x, hx, he, hc, grown_trans (grown_alloc w _ _) hg⟩
end Go.Proofs.YtgemnjimgjnlhaaGreatDoor.Draw
namespace Go.Proofs.YtgemnjimgjnlhaaGreatDoor.Draw
open Go.RowKit Cur Bs
set_option linter.unusedVariables false
/-- block G holds just these cells -/
def Bx (w : World) (G : Nat) (t : TypeId) (cs : Array Value) : Prop := w.heap[G]? = some (.cells cs t (0, 0))
section
variable {w w' : World} {G : Nat} {t : TypeId} {cs : Array Value}
theorem Bx.lt (h : Bx w G t cs) : G < w.heap.size := (Array.getElem?_eq_some_iff.1 h).1
theorem Bx.cell (h : Bx w G t cs) (i : Nat) : w.cell? ⟨G, i, none⟩ = cs[i]? := cell_of_row w G i cs t (0, 0) h
theorem Bx.frozen (h : Bx w G t cs) (i : Nat) : w.frozen? ⟨G, i, none⟩ = false := by unfold Bx at h; simp [World.frozen?, h]
theorem Bx.new (w : World) (t : TypeId) (cs : Array Value) : Bx (w.alloc (.cells cs t)) w.heap.size t cs := heap_alloc_new w _
theorem Bx.alloc (h : Bx w G t cs) (o : Obj) : Bx (w.alloc o) G t cs := (Below.heap_alloc w o G h.lt).trans h
theorem Bx.set_ (h : Bx w G t cs) (i : Nat) (u : Value) : Bx (w.setCell ⟨G, i, none⟩ u) G t (cs.setIfInBounds i u) := by
  unfold Bx at h ⊢
  simp [World.setCell, Array.getElem?_modify, h]
theorem Bx.far (h : Bx w G t cs) {p : Addr} (hp : G ≠ p.block) (u : Value) : Bx (w.setCell p u) G t cs := (Below.heap_setCell w p u G hp).trans h
theorem Bx.grown {B : Nat} (h : Bx w G t cs) (hg : w.grownBy w' (some B)) (hne : G ≠ B) : Bx w' G t cs := (hg.block G h.lt (fun e => hne (Option.some.inj e))).trans h
end
theorem cur_alloc {w : World} {B m : Nat} (h : Cur w B m) (o : Obj) : Cur (w.alloc o) B m := h.kept ((Below.refl _ _).alloc (Nat.le_refl _) o)
theorem cur_set {w : World} {B m : Nat} (h : Cur w B m) {p : Addr} (hp : B < p.block) (u : Value) : Cur (w.setCell p u) B m := h.keptB ⟨rfl, rfl, rfl, by simp, fun k hk => Below.heap_setCell w p u k (by omega)⟩
/-- an owned slice behind the reader's block -/
theorem own_grown {α : Type} {T : Rec α} {E : TypeId} {w w' : World} {A B : Nat} {v : Value} {xs : List α} (h : Own T E w A v xs) (hg : w.grownBy w' (some B)) (hA : B < A) : Own T E w' A v xs :=
  h.same fun k hk => hg.block k (h.lt k hk).2 (fun e => by have := (h.lt k hk).1; have := Option.some.inj e; omega)
theorem own_set {α : Type} {T : Rec α} {E : TypeId} {w : World} {A : Nat} {v : Value} {xs : List α} {p : Addr} (h : Own T E w A v xs) (hp : ∀ k, v.ownBlock = some k → k ≠ p.block) (u : Value) : Own T E (w.setCell p u) A v xs :=
  h.same fun k hk => Below.heap_setCell w p u k (hp k hk)
theorem grown_size {w w' : World} {r : Option Nat} (h : w.grownBy w' r) : w.heap.size ≤ w'.heap.size := h.size
theorem grown_setN (w : World) (p : Addr) (v : Value) (n B : Nat) (hn : n ≤ p.block) (w0 : World) (h : w0.grownBy w (some B)) (h0 : w0.heap.size ≤ p.block) : w0.grownBy (w.setCell p v) (some B) :=
  ⟨h.os, h.tape, h.output, by simpa using h.size, fun k hk hne => (Below.heap_setCell w p v k (by omega)).trans (h.block k hk hne)⟩
theorem grown_of_below {w0 w w' : World} {B : Nat} (h : w0.grownBy w (some B)) (hb : Below w.heap.size w w') : w0.grownBy w' (some B) :=
  grown_trans h ⟨hb.os, hb.tape, hb.output, hb.size, fun k hk _ => hb.block k hk⟩
/-- an append to an owned slice: what the reader's caller sees -/
theorem grown_own {w0 w w' : World} {B : Nat} {r : Option Nat} (h : w0.grownBy w (some B)) (hg : w.grownBy w' r) (hr : ∀ k, r = some k → w0.heap.size ≤ k) : w0.grownBy w' (some B) :=
  ⟨hg.os.trans h.os, hg.tape.trans h.tape, hg.output.trans h.output, Nat.le_trans h.size hg.size, fun k hk hne => (hg.block k (Nat.lt_of_lt_of_le hk h.size) (fun e => by have := hr k e.symm; omega)).trans (h.block k hk hne)⟩
theorem cur_own {w w' : World} {B m : Nat} {r : Option Nat} (h : Cur w B m) (hg : w.grownBy w' r) (hr : ∀ k, r = some k → B < k) : Cur w' B m :=
  h.keptB ⟨hg.os, hg.tape, hg.output, hg.size, fun k hk => hg.block k (Nat.lt_of_lt_of_le hk (by have := h.lt; omega)) (fun e => by have := hr k e.symm; omega)⟩
theorem among_at (B m g : Nat) (xs : List Int) (w : World) (hg : g = w.heap.size) (h : Cur w B m) (hm : m < 900000) (h0 : 1 ≤ xs.length) (h1 : xs.length ≤ 60000) :
    Calls Tryz.prog 100 #[.pointer (some ⟨B, 0, none⟩), .slice (some ⟨g, 0, none⟩) xs.length xs.length] (w.alloc (.cells (xs.map (Value.int .i64)).toArray 3)) (Ints w B (m + 2) xs) := by
  subst hg; exact among_lit B m xs w h hm h0 h1
end Go.Proofs.YtgemnjimgjnlhaaGreatDoor.Draw
namespace Go.Proofs.YtgemnjimgjnlhaaGreatDoor.Draw
open Go.RowKit Cur Bs
set_option linter.unusedVariables false
/-- the cursor lies at B; since the world w0 nothing but it has turned, and blocks were laid -/
structure Live (B m : Nat) (w0 w : World) : Prop where
  cur : Cur w B m
  grown : w0.grownBy w (some B)
  low : B < w0.heap.size
section
variable {B m m' : Nat} {w0 w w' : World}
theorem Live.start (h : Cur w B m) : Live B m w w := ⟨h, grown_refl _ _, h.lt⟩
theorem Live.size (h : Live B m w0 w) : w0.heap.size ≤ w.heap.size := h.grown.size
theorem Live.draw (h : Live B m w0 w) (hc : Cur w' B m') (hg : w.grownBy w' (some B)) : Live B m' w0 w' := ⟨hc, grown_trans h.grown hg, h.low⟩
theorem Live.mono (h : Live B m w0 w) (hm : m ≤ m') : Live B m' w0 w := ⟨h.cur.mono hm, h.grown, h.low⟩
theorem Live.alloc (h : Live B m w0 w) (o : Obj) : Live B m w0 (w.alloc o) := ⟨cur_alloc h.cur o, grown_trans h.grown (grown_alloc w o (some B)), h.low⟩
theorem Live.kept (h : Live B m w0 w) (hb : Below w.heap.size w w') : Live B m w0 w' := ⟨h.cur.kept hb, grown_of_below h.grown hb, h.low⟩
theorem Live.set (h : Live B m w0 w) {p : Addr} (hp : w0.heap.size ≤ p.block) (u : Value) : Live B m w0 (w.setCell p u) :=
  ⟨cur_set h.cur (p := p) (Nat.lt_of_lt_of_le h.low hp) u, grown_setN w p u w0.heap.size B hp w0 h.grown (Nat.le_trans (Nat.le_refl _) hp), h.low⟩
theorem Live.own (h : Live B m w0 w) {r : Option Nat} (hg : w.grownBy w' r) (hr : ∀ k, r = some k → w0.heap.size ≤ k) : Live B m w0 w' :=
  ⟨cur_own h.cur hg (fun k hk => Nat.lt_of_lt_of_le h.low (hr k hk)), grown_own h.grown hg hr, h.low⟩
/-- what the caller sees -/
theorem Live.post (h : Live B m w0 w) (hm : m ≤ m') : Cur w B m' ∧ w0.grownBy w (some B) := ⟨h.cur.mono hm, h.grown⟩
theorem Bx.draw {G : Nat} {t : TypeId} {cs : Array Value} (h : Bx w G t cs) (hg : w.grownBy w' (some B)) (hG : w0.heap.size ≤ G) (hL : B < w0.heap.size) : Bx w' G t cs := h.grown hg (by omega)
theorem Bx.keptB {G : Nat} {t : TypeId} {cs : Array Value} (h : Bx w G t cs) (hb : Below w.heap.size w w') : Bx w' G t cs := (hb.block G h.lt).trans h
theorem Bx.own {G g n c : Nat} {t : TypeId} {cs : Array Value} (h : Bx w G t cs) (hg : w.grownBy w' (Value.slice (some ⟨g, 0, none⟩) n c).ownBlock) (hne : g ≠ G) : Bx w' G t cs :=
  (hg.block G h.lt (fun e => hne (Option.some.inj e).symm)).trans h
end
theorem among_pre (B m g n : Nat) (xs : List Int) (w : World) (h : Cur w B m) (hm : m < 900000) (hx : Bx w g 3 (xs.map (Value.int .i64)).toArray) (hgB : g ≠ B) (h0 : 1 ≤ n) (hn : n ≤ xs.length) (h1 : xs.length ≤ 1000) :
    Calls Tryz.prog 100 #[.pointer (some ⟨B, 0, none⟩), .slice (some ⟨g, 0, none⟩) n xs.length] w (Ints w B (m + 2) xs) := by
  refine (among_any B m g 0 n xs.length (xs.take n) w h hm (by rw [List.length_take]; omega) h0 (by omega) hn hgB hx.lt (fun j x hj => ?_)).mono ?_
  · have hj2 : xs[j]? = some x := by
      rw [List.getElem?_take] at hj
      split at hj
      · exact hj
      · cases hj
    rw [Nat.zero_add, hx.cell, List.getElem?_toArray, List.getElem?_map, hj2]
    rfl
  · rintro e w' ⟨x, hx, he, hc, hg⟩
    exact ⟨x, List.mem_of_mem_take hx, he, hc, hg⟩
end Go.Proofs.YtgemnjimgjnlhaaGreatDoor.Draw
namespace Go.Proofs.YtgemnjimgjnlhaaGreatDoor.Draw
open Go.RowKit Cur Bs
set_option linter.unusedVariables false
def words : List ByteArray := [⟨#[109, 97, 105, 110]⟩, ⟨#[116, 97, 98, 108, 101]⟩, ⟨#[97, 100, 106, 111, 117, 114, 110]⟩, ⟨#[97, 109, 101, 110, 100]⟩, ⟨#[114, 101, 99, 101, 115, 115]⟩, ⟨#[114, 101, 102, 101, 114]⟩, ⟨#[108, 105, 109, 105, 116]⟩, ⟨#[99, 97, 108, 108]⟩, ⟨#[97]⟩, ⟨#[98, 121, 108, 97, 119, 115]⟩]
set_option maxHeartbeats 400000 in
theorem word (B m : Nat) (w : World) (h : Cur w B m) (hm : m < 900000) : Calls Tryz.prog 126 #[.pointer (some ⟨B, 0, none⟩)] w (Str w B (m + 2) 10) := by
  have HC := Lib.hid h
  clear h
  go_enter Tryz.func126, Tryz.ntmps126
  go_wp2_with fail
  refine (of_lit B m words w HC.out hm (by decide) (by decide)).mono ?_
  rintro e w1 ⟨x, hx, rfl, hc1, hg1⟩
  have hs := small_of words 10 (by decide +kernel) x hx
  have HC1 := Lib.hid hc1
  clear hc1 hx HC
  go_wp2_with fail
  go_ret
  exact ⟨x, rfl, hs, HC1.out, hg1⟩
end Go.Proofs.YtgemnjimgjnlhaaGreatDoor.Draw
namespace Go.Proofs.YtgemnjimgjnlhaaGreatDoor.Draw
open Go.RowKit Cur Bs
set_option linter.unusedVariables false
theorem eq_yes {a b : ByteArray} (h : (a.toList == b.toList) = true) : a = b := by
  have h1 : a.toList = b.toList := by simpa using h
  rw [ByteArray.toList_eq, ByteArray.toList_eq] at h1
  apply ByteArray.ext
  exact Array.toList_inj.1 h1
def Spoils (w : World) (B m n : Nat) (e : Ending) (w' : World) : Prop := ∃ s : ByteArray, e = .returned (.string s) ∧ s.size ≤ n ∧ Cur w' B m ∧ w.grownBy w' (some B)
set_option maxRecDepth 100000 in
set_option maxHeartbeats 1600000 in
theorem spoilt (B m : Nat) (t u : ByteArray) (w : World) (h : Cur w B m) (hm : m < 700000) (ht : t.size ≤ 60000) (h0 : 1 ≤ u.size) (h1 : u.size ≤ 60000) :
    Calls Tryz.prog 62 #[.pointer (some ⟨B, 0, none⟩), .string t, .string u] w (Spoils w B (m + 10) (t.size + 1)) := by
  have HC := Lib.hid h
  clear h
  have u0 : (1 : Int) ≤ (u.size : Int) := by omega
  by_cases hz : t = ⟨#[]⟩
  · subst hz
    go_enter Tryz.func62, Tryz.ntmps62
    go_wp2_with fail
    go_ret
    exact ⟨_, rfl, by simp [ByteArray.size_extract]; omega, HC.out.mono (by omega), grown_refl _ _⟩
  · have hpos : 0 < t.size := by
      rcases Nat.eq_zero_or_pos t.size with h | h
      · exact absurd (ByteArray.size_eq_zero_iff.1 h) hz
      · exact h
    have hl : (t.toList == []) = false := by
      cases hh : t.toList == [] with
      | false => rfl
      | true => exact absurd (eq_yes (b := ⟨#[]⟩) (by rw [hh.symm]; simp)) hz
    go_enter Tryz.func62, Tryz.ntmps62
    go_wp2_with fail
    refine (pick B m (t.size : Int) w HC.out (by omega) (by omega) (by omega)).mono ?_
    rintro e w1 ⟨i, rfl, i0, i1, hc1, hg1⟩
    obtain ⟨i, rfl⟩ := Int.eq_ofNat_of_zero_le i0
    have hi : i < t.size := by omega
    replace HC := Lib.hid hc1
    clear hc1 i0 i1
    go_wp2_with fail
    refine (pick B _ (u.size : Int) _ HC.out (by omega) (by omega) (by omega)).mono ?_
    rintro e w2 ⟨j, rfl, j0, j1, hc2, hg2⟩
    obtain ⟨j, rfl⟩ := Int.eq_ofNat_of_zero_le j0
    have hj : j < u.size := by omega
    have hju : (u.extract j u.size).size = u.size - j := by simp [ByteArray.size_extract]
    have hj2 : 1 ≤ u.size - j := by omega
    replace HC := Lib.hid hc2
    have hg12 := grown_trans hg1 hg2
    clear hc2 j0 j1 hg1 hg2
    go_upto_region 5 with fail
    go_wp2_with fail
    refine (pick B _ 3 _ HC.out (by omega) (by omega) (by omega)).mono ?_
    rintro e w3 ⟨r, rfl, r0, r1, hc3, hg3⟩
    replace HC := Lib.hid (hc3.mono (m' := m + 10) (by omega))
    have hg := grown_trans hg12 hg3
    clear hc3 hg12 hg3
    have s1 : IntKind.i64.wrap ((i : Int) + 1) = (i : Int) + 1 := IntWalk.i64_in _ (by omega)
    have hi1 : (i : Int) ≤ (t.size : Int) := by omega
    have hi2 : (i : Int) + 1 ≤ (t.size : Int) := by omega
    by_cases e0 : r = 0
    · subst e0
      skip
      go_upto_region 7 with fail
      go_quiet (fail)
      have HCq := Lib.hid (HC.out.kept (drawn_below _ nq))
      have hgq := grown_of_below hg (drawn_below _ nq)
      clear HC
      go_wp2_with fail
      go_ret
      exact ⟨_, rfl, by simp [ByteArray.size_append, ByteArray.size_extract]; omega, HCq.out, hgq⟩
    · have b0 : (r == 0) = false := by simp [e0]
      by_cases e1 : r = 1
      · subst e1
        skip
        go_upto_region 9 with fail
        go_quiet (fail)
        have HCq := Lib.hid (HC.out.kept (drawn_below _ nq))
        have hgq := grown_of_below hg (drawn_below _ nq)
        clear HC
        go_wp2_with fail
        go_ret
        exact ⟨_, rfl, by simp [ByteArray.size_append, ByteArray.size_extract]; omega, HCq.out, hgq⟩
      · have b1 : (r == 1) = false := by simp [e1]
        skip
        go_upto_region 10 with fail
        go_quiet (fail)
        have HCq := Lib.hid (HC.out.kept (drawn_below _ nq))
        have hgq := grown_of_below hg (drawn_below _ nq)
        clear HC
        go_wp2_with fail
        go_ret
        exact ⟨_, rfl, by simp [ByteArray.size_append, ByteArray.size_extract]; omega, HCq.out, hgq⟩
end Go.Proofs.YtgemnjimgjnlhaaGreatDoor.Draw
namespace Go.Proofs.YtgemnjimgjnlhaaGreatDoor.Bs
open Go.RowKit
theorem wpAnyH_weak {P : Program} {md : Region.Mode} {ops : Array Oper} {Q : Exit → Act → World → Prop} {S S' : World → Prop} (hS : ∀ w, S' w → S w) : ∀ (fuel : Nat) (listed : Array Bool) (a : Act) (w : World), wpAnyH P md ops Q S' fuel listed a w → wpAnyH P md ops Q S fuel listed a w
  | 0, _, _, _, h => h
  | fuel + 1, _, _, _, h => ⟨h.1, fun i hi => wpOp_mono (fun a' w' h' => ⟨hS _ h'.1, wpAnyH_weak hS fuel _ a' w' h'.2⟩) (h.2 i hi)⟩
theorem wpAnyH_into {P : Program} {md : Region.Mode} {ops : Array Oper} {Q : Exit → Act → World → Prop} {S S' : World → Prop} {fuel : Nat} {listed : Array Bool} {a : Act} {w : World} (hS : ∀ w, S' w → S w) (h' : S' w) (h : S' w → wpAnyH P md ops Q S' fuel listed a w) : wpAnyH P md ops Q S fuel listed a w := wpAnyH_weak hS _ _ _ _ (h h')
end Go.Proofs.YtgemnjimgjnlhaaGreatDoor.Bs
