/- The data of the claim: records in memory, words, slices of the call's own, the cursor: texts joined by program. No condition. -/
import Derived.Test.YtankaffhapcnaaaDoorRows
import Derived.WalkKit
import Derived.ProofKit
import Derived.OpenShut
import Derived.Lib.ItoaNum
import Derived.Lib.LaidTab
import Derived.Lib.TrailingZeros
import Derived.LaidLaws
import Derived.Stop.LaidErr
import Derived.WalkSpells
import Derived.WalkSmall
import Derived.Lib.Hide
import Derived.Lib.QuietBelow
import Derived.Deep.QuietTactic
import Derived.BigQuiet
import Derived.WalkLawsBesides
import Derived.Lib.ItoaLen
import Derived.IntWalk
import Derived.Deep.Fields
import Derived.Laws.IdiomCopy
import Derived.Deep.RegionHeld3
import Derived.Deep.DeepCutAuto
import Derived.Deep.DrawnRows
import Derived.Lib.IndexMore
import Derived.Lib.IndexBytes
import Derived.Lib.IndexLaws
import Derived.Lib.AtoiAll
import Derived.Lib.AtoiTie
import Derived.Lib.Join
import Derived.Lib.Strings
import Derived.Deep.AppendLies
namespace Go.Proofs.YtankaffhapcnaaaDoor.Frame
open Go.ChangeShapes Go.WideShapes Go.ChangeAt Go.RowKit
theorem own : ownKnob Tryd.prog.godebug = none := by kernel_rfl
theorem laidOut : laidOutB Tryd.prog = true := by kernel_rfl
/-- A slice of integers that came in: nil, or a row of cap cells that hold the numbers zs (all of them, up to the capacity). -/
def IsRow (k : IntKind) (w : World) (a : Option Addr) (len cap : Nat) (zs : List Int) : Prop :=
  (a = none ∧ len = 0 ∧ cap = 0 ∧ zs = []) ∨
  ∃ x, a = some x ∧ len ≤ cap ∧ cap ≤ maxLen ∧ zs.length = cap ∧ (∀ i, i < zs.length → w.cell? (x.add i) = some (.int k (zs.getD i 0))) ∧ ∀ n ∈ zs, (Lit.int k n).wf = true
/-- A slice of strings that came in. -/
def IsStrs (w : World) (a : Option Addr) (len cap : Nat) (ss : List ByteArray) : Prop :=
  (a = none ∧ len = 0 ∧ cap = 0 ∧ ss = []) ∨
  ∃ x, a = some x ∧ len ≤ cap ∧ cap ≤ maxLen ∧ ss.length = cap ∧ (∀ i, i < ss.length → w.cell? (x.add i) = some (.string (ss.getD i ByteArray.empty))) ∧ ∀ s ∈ ss, s.size ≤ maxLen
end Go.Proofs.YtankaffhapcnaaaDoor.Frame
namespace Go.Proofs.YtankaffhapcnaaaDoor.Laid
open Go.ChangeShapes Go.WideShapes Go.ChangeAt Go.RowKit

theorem own : ownKnob Tryd.prog.godebug = none := by kernel_rfl
theorem gPow : Tryd.prog.globalNamed "internal/strconv.uint64pow10" = some 0 := by kernel_rfl
theorem gPowType : (Tryd.prog.globals[0]?).map (·.type) = some 94 := by kernel_rfl
theorem cellsPow : Tryd.prog.cellsOf 94 = 20 := by kernel_rfl
theorem cellsU64 : Tryd.prog.cellsOf 50 = 1 := by kernel_rfl
theorem powData {H : Type} : (Rows.laid_internal_strconv_uint64pow10 : DataW H) = Lib.tabData .u64 Lib.pow10Tab := by kernel_rfl

def Pow (W : World) : Prop := Lib.TabIs Tryd.prog W "internal/strconv.uint64pow10" .u64 Lib.pow10Tab
theorem pow_of {W : World} {r : List (String × DataW Unit)} (h : laidMet Tryd.prog (("internal/strconv.uint64pow10", Rows.laid_internal_strconv_uint64pow10) :: r) W) : Pow W := by
  rw [powData] at h
  exact Lib.tabIs_of_head gPow gPowType Tryd.underlying94 Tryd.underlying50 cellsU64 cellsPow h
/-- The sentinel error holds an interface value that is not nil. -/
def Err (name : String) (W : World) : Prop := ∃ tp p, W.var? Tryd.prog name = some #[.iface tp p]
/-- A world that is as it was below its size holds the variables that it held. -/
theorem var_below {P : Program} {W W' : World} {n : String} {cs : Array Value} (hb : Below W.heap.size W W') (h : W.var? P n = some cs) : W'.var? P n = some cs := by
  unfold World.var? at h ⊢
  cases hg : P.globalNamed n with
  | none => simp [hg] at h
  | some g =>
    simp only [hg, Option.bind_some] at h ⊢
    have hlt : g < W.heap.size := by
      rcases Nat.lt_or_ge g W.heap.size with h' | h'
      · exact h'
      · simp [Array.getElem?_eq_none h'] at h
    rw [hb.block g hlt]
    exact h
theorem Pow.below {W W' : World} (h : Pow W) (hb : Below W.heap.size W W') : Pow W' := var_below hb h
theorem Err.below {n : String} {W W' : World} (h : Err n W) (hb : Below W.heap.size W W') : Err n W' := by
  obtain ⟨tp, p, e⟩ := h
  exact ⟨tp, p, var_below hb e⟩
theorem gT64 : Tryd.prog.globalNamed "math/bits.deBruijn64tab" = some 4 := by kernel_rfl
theorem gT64Type : (Tryd.prog.globals[4]?).map (·.type) = some 111 := by kernel_rfl
theorem cellsT64 : Tryd.prog.cellsOf 111 = 64 := by kernel_rfl
theorem cellsU8 : Tryd.prog.cellsOf 5 = 1 := by kernel_rfl
theorem t64Data {H : Type} : (Rows.laid_math_bits_deBruijn64tab : DataW H) = Lib.tabData .u8 (Lib.deBruijn64tab.map Int.ofNat) := by kernel_rfl
def T64 (W : World) : Prop := Lib.TabIs Tryd.prog W "math/bits.deBruijn64tab" .u8 (Lib.deBruijn64tab.map Int.ofNat)
theorem t64_of {W : World} {r : List (String × DataW Unit)} (h : laidMet Tryd.prog (("math/bits.deBruijn64tab", Rows.laid_math_bits_deBruijn64tab) :: r) W) : T64 W := by
  rw [t64Data] at h
  exact Lib.tabIs_of_head gT64 gT64Type Tryd.underlying111 Tryd.underlying5 cellsU8 cellsT64 h
theorem T64.below {W W' : World} (h : T64 W) (hb : Below W.heap.size W W') : T64 W' := var_below hb h
theorem T64.cell {W : World} (h : T64 W) (i : Nat) (hi : i < 64) : W.cell? ⟨4, i, none⟩ = some (.int .u8 (Lib.deBruijn64tab.getD i 0 : Nat)) := by
  have hl : i < (Lib.deBruijn64tab.map Int.ofNat).length := by rw [List.length_map]; exact hi
  rw [Lib.TabIs.cell h gT64 i hl]
  have hi2 : i < Lib.deBruijn64tab.length := hi
  simp only [List.getD_eq_getElem?_getD, List.getElem?_map, List.getElem?_eq_getElem hi2, Option.map_some, Option.getD_some]
  rfl
theorem gES : Tryd.prog.globalNamed "strconv.ErrSyntax" = some 1 := by kernel_rfl
theorem gESType : (Tryd.prog.globals[1]?).map (·.type) = some 64 := by kernel_rfl
theorem gER : Tryd.prog.globalNamed "strconv.ErrRange" = some 2 := by kernel_rfl
theorem gERType : (Tryd.prog.globals[2]?).map (·.type) = some 64 := by kernel_rfl
theorem star : "*" ++ "errors.errorString" = "*errors.errorString" := by decide
theorem rowES (u : TypeId) (h : Tryd.prog.typeName? 3 u = some "*errors.errorString") : u = 107 :=
  typeName_ptr_named (nm := "errors.errorString") (by rw [star]; kernel_rfl) (by kernel_rfl) (by decide) u (by rw [star]; exact h)
theorem cellsES : Tryd.prog.cellsOf 109 = 1 := by kernel_rfl
theorem cellsStr : Tryd.prog.cellsOf 9 = 1 := by kernel_rfl
theorem syntax_of {W : World} {r : List (String × DataW Unit)} (h : laidMet Tryd.prog (("strconv.ErrSyntax", Rows.laid_strconv_ErrSyntax) :: r) W) : Err "strconv.ErrSyntax" W := by
  obtain ⟨a0, s0, hv0, -, -, -⟩ := laid_sentinel h gES gESType Tryd.underlying64 rowES Tryd.underlying107 Tryd.underlying109 rfl rfl Tryd.underlying9 cellsES cellsStr
  exact ⟨_, _, hv0⟩
theorem range_of {W : World} {r : List (String × DataW Unit)} (h : laidMet Tryd.prog (("strconv.ErrRange", Rows.laid_strconv_ErrRange) :: r) W) : Err "strconv.ErrRange" W := by
  obtain ⟨a0, s0, hv0, -, -, -⟩ := laid_sentinel h gER gERType Tryd.underlying64 rowES Tryd.underlying107 Tryd.underlying109 rfl rfl Tryd.underlying9 cellsES cellsStr
  exact ⟨_, _, hv0⟩

/-- So many blocks has the settled world. -/
noncomputable def low : Nat := (World.holding Tryd.prog default ⟨#[], #[], []⟩).heap.size
abbrev synS : ByteArray := { data := #[105, 110, 118, 97, 108, 105, 100, 32, 115, 121, 110, 116, 97, 120] }
abbrev rngS : ByteArray := { data := #[118, 97, 108, 117, 101, 32, 111, 117, 116, 32, 111, 102, 32, 114, 97, 110, 103, 101] }
/-- The settled world, the listed variables holding what their initialisers lay. -/
noncomputable def laidWorld (os : Os) : World :=
  let w0 := World.holding Tryd.prog os ⟨#[.cells #[.string synS] 109, .cells #[.string rngS] 109], #[], []⟩
  { w0 with heap := w0.heap
    |>.modify 1 (fun | .cells _ t frozen => .cells #[.iface 107 (.pointer (some ⟨low, 0, none⟩))] t frozen | o => o)
    |>.modify 2 (fun | .cells _ t frozen => .cells #[.iface 107 (.pointer (some ⟨low + 1, 0, none⟩))] t frozen | o => o)
    |>.modify 0 (fun | .cells _ t frozen => .cells #[.int .u64 1, .int .u64 10, .int .u64 100, .int .u64 1000, .int .u64 10000, .int .u64 100000, .int .u64 1000000, .int .u64 10000000, .int .u64 100000000, .int .u64 1000000000, .int .u64 10000000000, .int .u64 100000000000, .int .u64 1000000000000, .int .u64 10000000000000, .int .u64 100000000000000, .int .u64 1000000000000000, .int .u64 10000000000000000, .int .u64 100000000000000000, .int .u64 1000000000000000000, .int .u64 10000000000000000000] t frozen | o => o)
    |>.modify 3 (fun | .cells _ t frozen => .cells #[.int .u8 0, .int .u8 1, .int .u8 28, .int .u8 2, .int .u8 29, .int .u8 14, .int .u8 24, .int .u8 3, .int .u8 30, .int .u8 22, .int .u8 20, .int .u8 15, .int .u8 25, .int .u8 17, .int .u8 4, .int .u8 8, .int .u8 31, .int .u8 27, .int .u8 13, .int .u8 23, .int .u8 21, .int .u8 19, .int .u8 16, .int .u8 7, .int .u8 26, .int .u8 12, .int .u8 18, .int .u8 6, .int .u8 11, .int .u8 5, .int .u8 10, .int .u8 9] t frozen | o => o)
    |>.modify 4 (fun | .cells _ t frozen => .cells #[.int .u8 0, .int .u8 1, .int .u8 56, .int .u8 2, .int .u8 57, .int .u8 49, .int .u8 28, .int .u8 3, .int .u8 61, .int .u8 58, .int .u8 42, .int .u8 50, .int .u8 38, .int .u8 29, .int .u8 17, .int .u8 4, .int .u8 62, .int .u8 47, .int .u8 59, .int .u8 36, .int .u8 45, .int .u8 43, .int .u8 51, .int .u8 22, .int .u8 53, .int .u8 39, .int .u8 33, .int .u8 30, .int .u8 24, .int .u8 18, .int .u8 12, .int .u8 5, .int .u8 63, .int .u8 55, .int .u8 48, .int .u8 27, .int .u8 60, .int .u8 41, .int .u8 37, .int .u8 16, .int .u8 46, .int .u8 35, .int .u8 44, .int .u8 21, .int .u8 52, .int .u8 32, .int .u8 23, .int .u8 11, .int .u8 54, .int .u8 26, .int .u8 40, .int .u8 15, .int .u8 34, .int .u8 20, .int .u8 31, .int .u8 10, .int .u8 25, .int .u8 14, .int .u8 19, .int .u8 9, .int .u8 13, .int .u8 8, .int .u8 7, .int .u8 6] t frozen | o => o) }
end Go.Proofs.YtankaffhapcnaaaDoor.Laid
namespace Go.Proofs.YtankaffhapcnaaaDoor.Rule
open Go.RowKit
set_option linter.unusedVariables false

structure R where
  id : Int
  name : ByteArray
  rank : Int
  sec : Bool
  deb : Bool
  am : Bool
  need : Int
def R.vals (r : R) : List Value := [.int .i64 r.id, .string r.name, .int .i64 r.rank, .bool r.sec, .bool r.deb, .bool r.am, .int .i64 r.need]
/-- the cells of several rules, one behind the other -/
def flat (xs : List R) : List Value := xs.flatMap R.vals
theorem flat_len : ∀ xs : List R, (flat xs).length = xs.length * 7
  | [] => rfl
  | x :: xs => by
    show (x.vals ++ flat xs).length = _
    rw [List.length_append, flat_len xs, List.length_cons, Nat.add_mul, Nat.one_mul, Nat.add_comm]
    rfl
theorem flat_append (xs ys : List R) : flat (xs ++ ys) = flat xs ++ flat ys := by simp [flat]
theorem flat_at : ∀ (xs : List R) (k j : Nat) (r : R), xs[k]? = some r → j < 7 → (flat xs)[k * 7 + j]? = r.vals[j]?
  | [], k, j, r, h, _ => by simp at h
  | x :: xs, 0, j, r, h, hj => by
    simp only [List.getElem?_cons_zero, Option.some.injEq] at h
    subst h
    show (x.vals ++ flat xs)[0 * 7 + j]? = _
    rw [Nat.zero_mul, Nat.zero_add, List.getElem?_append_left (by simpa [R.vals] using hj)]
  | x :: xs, k + 1, j, r, h, hj => by
    rw [List.getElem?_cons_succ] at h
    show (x.vals ++ flat xs)[(k + 1) * 7 + j]? = _
    have hl : x.vals.length = 7 := rfl
    rw [List.getElem?_append_right (by rw [hl]; omega), hl]
    have e : (k + 1) * 7 + j - 7 = k * 7 + j := by omega
    rw [e]
    exact flat_at xs k j r h hj
theorem flat_take (xs : List R) (k : Nat) : flat (xs.take k) = (flat xs).take (k * 7) := by
  induction xs generalizing k with
  | nil => simp [flat]
  | cons x xs ih =>
    cases k with
    | zero => simp [flat]
    | succ k =>
      rw [List.take_succ_cons]
      show x.vals ++ flat (xs.take k) = (x.vals ++ flat xs).take _
      have hl : x.vals.length = 7 := rfl
      rw [ih, List.take_append, List.take_of_length_le (l := x.vals) (by rw [hl]; omega), hl]
      congr 2
      omega
/-- the seven cells of a rule -/
def At (w : World) (b p : Nat) (r : R) : Prop :=
  w.cell? ⟨b, p, none⟩ = some (.int .i64 r.id) ∧ w.cell? ⟨b, p + 1, none⟩ = some (.string r.name) ∧ w.cell? ⟨b, p + 2, none⟩ = some (.int .i64 r.rank) ∧
  w.cell? ⟨b, p + 3, none⟩ = some (.bool r.sec) ∧ w.cell? ⟨b, p + 4, none⟩ = some (.bool r.deb) ∧ w.cell? ⟨b, p + 5, none⟩ = some (.bool r.am) ∧ w.cell? ⟨b, p + 6, none⟩ = some (.int .i64 r.need)
theorem At.keep {w w' : World} {b p : Nat} {r : R} (h : At w b p r) (hk : ∀ o, w'.cell? ⟨b, o, none⟩ = w.cell? ⟨b, o, none⟩) : At w' b p r := by
  unfold At at h ⊢
  simp only [hk]
  exact h
theorem At.below {w w' : World} {b p B : Nat} {r : R} (h : At w b p r) (hb : Below B w w') (hl : b < B) : At w' b p r := h.keep fun o => hb.cell (p := ⟨b, o, none⟩) hl
theorem At.regrown {w : World} {b p : Nat} {r : R} (h : At w b p r) (hl : b < w.heap.size) (d : Nat) (os : Array Obj) : At (Sort.grow (redrawn w d) os) b p r := h.below (below_regrown w d os) hl
theorem At.of_cells {w : World} {b p : Nat} {r : R} (h : ∀ j v, r.vals[j]? = some v → w.cell? ⟨b, p + j, none⟩ = some v) : At w b p r :=
  ⟨h 0 _ rfl, h 1 _ rfl, h 2 _ rfl, h 3 _ rfl, h 4 _ rfl, h 5 _ rfl, h 6 _ rfl⟩
/-- the cells of a rule that lies at a block's head -/
theorem At.head {w : World} {b : Nat} {r : R} (h : At w b 0 r) : w.cell? ⟨b, 0, none⟩ = some (.int .i64 r.id) ∧ w.cell? ⟨b, 1, none⟩ = some (.string r.name) ∧ w.cell? ⟨b, 2, none⟩ = some (.int .i64 r.rank) ∧
  w.cell? ⟨b, 3, none⟩ = some (.bool r.sec) ∧ w.cell? ⟨b, 4, none⟩ = some (.bool r.deb) ∧ w.cell? ⟨b, 5, none⟩ = some (.bool r.am) ∧ w.cell? ⟨b, 6, none⟩ = some (.int .i64 r.need) := by
  unfold At at h
  simpa only [Nat.zero_add] using h
/-- a rule that was boxed -/
theorem At.box (w : World) (r : R) (t : TypeId) : At (w.alloc (.cells #[.int .i64 r.id, .string r.name, .int .i64 r.rank, .bool r.sec, .bool r.deb, .bool r.am, .int .i64 r.need] t)) w.heap.size 0 r := by
  unfold At
  simp [go_sem]
theorem cell_lt {w : World} {p : Addr} {v : Value} (h : w.cell? p = some v) : p.block < w.heap.size := by
  rcases Nat.lt_or_ge p.block w.heap.size with h' | h'
  · exact h'
  · simp [World.cell?, Array.getElem?_eq_none h'] at h

/-- A slice of rules lies in memory. -/
def RulesAt (w : World) (a : Option Addr) (c : Nat) (xs : List R) : Prop :=
  xs.length ≤ c ∧ c ≤ maxLen ∧ (xs = [] ∨ ∃ b o, a = some ⟨b, o, none⟩ ∧ b < w.heap.size ∧ ∀ j r, xs[j]? = some r → At w b (o + j * 7) r)
theorem RulesAt.below {w w' : World} {a : Option Addr} {c : Nat} {xs : List R} (h : RulesAt w a c xs) (hb : Below w.heap.size w w') : RulesAt w' a c xs := by
  obtain ⟨h1, h2, h3⟩ := h
  refine ⟨h1, h2, ?_⟩
  rcases h3 with h3 | ⟨b, o, rfl, hlt, hc⟩
  · exact .inl h3
  · exact .inr ⟨b, o, rfl, Nat.lt_of_lt_of_le hlt hb.size, fun j r hr => (hc j r hr).below hb hlt⟩
/-- the rule at a place: where it lies -/
theorem RulesAt.at_ {w : World} {a : Option Addr} {c : Nat} {xs : List R} (h : RulesAt w a c xs) : Hid (∀ j r, xs[j]? = some r → ∃ b o, a = some ⟨b, o, none⟩ ∧ b < w.heap.size ∧ At w b (o + j * 7) r) := by
  obtain ⟨_, _, h3⟩ := h
  intro j r hr
  rcases h3 with rfl | ⟨b, o, rfl, hl, hc⟩
  · simp at hr
  · exact ⟨b, o, rfl, hl, hc j r hr⟩
/-- A row of rules of the call's own is a slice of rules in memory. -/
theorem rules_of_owns {w : World} {base E n cap : Nat} {a : Option Addr} {xs : List R} (hn : xs.length = n) (h : w.ownsRow base E 7 (.slice a n cap) n (flat xs)) : RulesAt w a cap xs := by
  rcases h.2 with ⟨h', h0⟩ | ⟨g, cap', cur, h', _, hg, hnc, hcm, _, _⟩
  · simp only [Value.slice.injEq] at h'
    obtain ⟨rfl, rfl, rfl⟩ := h'
    exact ⟨by omega, Nat.zero_le _, .inl (List.eq_nil_of_length_eq_zero hn)⟩
  · simp only [Value.slice.injEq, true_and] at h'
    obtain ⟨rfl, rfl⟩ := h'
    refine ⟨by omega, hcm, .inr ⟨g, 0, rfl, (Array.getElem?_eq_some_iff.1 hg).1, fun j r hr => At.of_cells fun i v hv => ?_⟩⟩
    have hi : i < 7 := by
      rcases Nat.lt_or_ge i 7 with h7 | h7
      · exact h7
      · rw [List.getElem?_eq_none (by exact h7)] at hv; cases hv
    have hc := h.cells (g := g) rfl (j * 7 + i) v (by rw [flat_at xs j i r hr hi]; exact hv)
    rw [Go.WideShapes.add_plain] at hc
    rw [show 0 + j * 7 + i = 0 + (j * 7 + i) by omega]
    exact hc

/-- the letters a to z -/
def az (c : UInt8) : Bool := decide (97 ≤ c.toNat) && decide (c.toNat ≤ 122)
def allAz (l : List UInt8) : Bool := l.all az
def isWordB (s : ByteArray) : Bool := (decide (1 ≤ s.size) && decide (s.size ≤ 10)) && allAz s.data.toList
def OkR (r : R) : Prop := (1 ≤ r.id ∧ r.id ≤ 20) ∧ isWordB r.name = true ∧ (0 ≤ r.rank ∧ r.rank ≤ 9) ∧ (1 ≤ r.need ∧ r.need ≤ 3)
instance (r : R) : Decidable (OkR r) := by unfold OkR; infer_instance
def okB (r : R) : Bool := decide (OkR r)
theorem take_snoc (s : ByteArray) (k : Nat) (h : k < s.size) : s.data.toList.take (k + 1) = s.data.toList.take k ++ [s[k]] := by
  rw [List.take_succ_eq_append_getElem (by simpa using h)]; rfl
theorem az_next (s : ByteArray) (k : Nat) (h : k < s.size) (hp : allAz (s.data.toList.take k) = true) (hc : az s[k] = true) : allAz (s.data.toList.take (k + 1)) = true := by
  rw [take_snoc s k h]; unfold allAz at hp ⊢; rw [List.all_append, hp]; simp [hc]
theorem az_bad (s : ByteArray) (k : Nat) (h : k < s.size) (hc : az s[k] = false) : allAz s.data.toList = false := by
  unfold allAz
  rw [List.all_eq_false]
  exact ⟨s[k], Array.getElem_mem_toList _, by simp [hc]⟩
theorem az_all (s : ByteArray) (k : Nat) (h : s.size ≤ k) (hp : allAz (s.data.toList.take k) = true) : allAz s.data.toList = true := by
  rwa [List.take_of_length_le (by simpa using h)] at hp
theorem ret_bool {a b : Bool} (h : a = b) : Ending.returned (.bool a) = .returned (.bool b) := by rw [h]
theorem word_no {s : ByteArray} (h : allAz s.data.toList = false) : isWordB s = false := by unfold isWordB; rw [h, Bool.and_false]
theorem word_len {s : ByteArray} (h : ¬ (1 ≤ s.size ∧ s.size ≤ 10)) : isWordB s = false := by
  unfold isWordB
  have : (decide (1 ≤ s.size) && decide (s.size ≤ 10)) = false := by
    rw [← Bool.decide_and]; exact decide_eq_false h
  rw [this, Bool.false_and]
theorem word_yes {s : ByteArray} (h1 : 1 ≤ s.size) (h2 : s.size ≤ 10) (h : allAz s.data.toList = true) : isWordB s = true := by
  unfold isWordB; rw [h, Bool.and_true, ← Bool.decide_and]; exact decide_eq_true ⟨h1, h2⟩
end Go.Proofs.YtankaffhapcnaaaDoor.Rule
namespace Go.Proofs.YtankaffhapcnaaaDoor.Valid
open Go.RowKit Rule
set_option linter.unusedVariables false

theorem in_yes (x a b : Int) (w : World) (h1 : a ≤ x) (h2 : x ≤ b) :
    Calls Tryd.prog 43 #[.int .i64 x, .int .i64 a, .int .i64 b] w fun e w' => e = .returned (.bool true) ∧ w = w' := by
  go_enter Tryd.func43, Tryd.ntmps43
  go_wp2
  go_ret
  exact ⟨rfl, rfl⟩
theorem in_no (x a b : Int) (w : World) (h : ¬ (a ≤ x ∧ x ≤ b)) :
    Calls Tryd.prog 43 #[.int .i64 x, .int .i64 a, .int .i64 b] w fun e w' => e = .returned (.bool false) ∧ w = w' := by
  by_cases h1 : a ≤ x
  · have h2 : ¬ x ≤ b := by omega
    go_enter Tryd.func43, Tryd.ntmps43
    go_wp2
    go_ret
    exact ⟨rfl, rfl⟩
  · go_enter Tryd.func43, Tryd.ntmps43
    go_wp2
    go_ret
    exact ⟨rfl, rfl⟩

set_option maxHeartbeats 400000 in
theorem l2Word (s : ByteArray) (w : World) (hs : s.size ≤ maxLen) :
    Calls Tryd.prog 44 #[.string s] w fun e w' => e = .returned (.bool (isWordB s)) ∧ w = w' := by
  unfold maxLen at hs
  go_enter Tryd.func44, Tryd.ntmps44
  go_wp2_with fail
  go_loop [3] (fun i => ∃ k : Nat, k ≤ s.size ∧ i = .int .i64 k ∧ Hid (allAz (s.data.toList.take k) = true)) (fun i => s.size - (intOf i).toNat)
  case atStart => exact ⟨0, Nat.zero_le _, rfl, rfl⟩
  case round =>
    obtain ⟨k, hk, rfl, HA⟩ := hrel
    by_cases hlt : k < s.size
    · by_cases h1 : 97 ≤ s[k].toNat
      · by_cases h2 : s[k].toNat ≤ 122
        · have HN := Lib.hid (az_next s k hlt HA.out (by simp [az, h1, h2]))
          go_wp2_with fail
          go_round
          case rel => exact ⟨k + 1, by omega, by go_num, HN⟩
          case measure => simp [intOf]; omega
        · have HN := Lib.hid (word_no (az_bad s k hlt (by simp [az, h2])))
          go_wp2_with fail
          go_ret
          exact ⟨ret_bool HN.out.symm, rfl⟩
      · have HN := Lib.hid (word_no (az_bad s k hlt (by simp [az, h1])))
        go_wp2_with fail
        go_ret
        exact ⟨ret_bool HN.out.symm, rfl⟩
    · have HN := Lib.hid (az_all s k (by omega) HA.out)
      by_cases hl : 1 ≤ s.size ∧ s.size ≤ 10
      · obtain ⟨g1, g2⟩ := hl
        have HW := Lib.hid (word_yes g1 g2 HN.out)
        go_wp2_with fail
        refine (in_yes _ _ _ _ (by omega) (by omega)).mono ?_
        rintro e w' ⟨rfl, rfl⟩
        go_wp2_with fail
        go_ret
        exact ⟨ret_bool HW.out.symm, rfl⟩
      · have HW := Lib.hid (word_len hl)
        have HL := Lib.hid hl
        clear hl
        go_wp2_with fail
        refine (in_no _ _ _ _ (by have := HL.out; omega)).mono ?_
        rintro e w' ⟨rfl, rfl⟩
        go_wp2_with fail
        go_ret
        exact ⟨ret_bool HW.out.symm, rfl⟩

set_option maxHeartbeats 400000 in
theorem isWord (s : ByteArray) (w : World) (hs : s.size ≤ maxLen) :
    Calls Tryd.prog 28 #[.string s] w fun e w' => e = .returned (.bool (isWordB s)) ∧ w = w' := by
  unfold maxLen at hs
  by_cases hl : 1 ≤ s.size ∧ s.size ≤ 10
  · obtain ⟨g1, g2⟩ := hl
    have g0 : ((s.size : Int) == 0) = false := by rw [beq_eq_false_iff_ne]; omega
    go_enter Tryd.func28, Tryd.ntmps28
    go_wp2_with fail
    go_loop [14] (fun i => ∃ k : Nat, k ≤ s.size ∧ i = .int .i64 k ∧ Hid (allAz (s.data.toList.take k) = true)) (fun i => s.size - (intOf i).toNat)
    case atStart => exact ⟨0, Nat.zero_le _, rfl, rfl⟩
    case round =>
      obtain ⟨k, hk, rfl, HA⟩ := hrel
      by_cases hlt : k < s.size
      · by_cases h1 : 97 ≤ s[k].toNat
        · by_cases h2 : s[k].toNat ≤ 122
          · have HN := Lib.hid (az_next s k hlt HA.out (by simp [az, h1, h2]))
            go_wp2_with fail
            go_round
            case rel => exact ⟨k + 1, by omega, by go_num, HN⟩
            case measure => simp [intOf]; omega
          · have HN := Lib.hid (word_no (az_bad s k hlt (by simp [az, h2])))
            go_wp2_with fail
            go_ret
            exact ⟨ret_bool HN.out.symm, rfl⟩
        · have HN := Lib.hid (word_no (az_bad s k hlt (by simp [az, h1])))
          go_wp2_with fail
          go_ret
          exact ⟨ret_bool HN.out.symm, rfl⟩
      · have HN := Lib.hid (az_all s k (by omega) HA.out)
        have HW := Lib.hid (word_yes g1 g2 HN.out)
        go_wp2_with fail
        go_ret
        exact ⟨ret_bool HW.out.symm, rfl⟩
  · have HW := Lib.hid (word_len hl)
    by_cases hz : s.size = 0
    · have g0 : ((s.size : Int) == 0) = true := by rw [beq_iff_eq]; omega
      clear hl hz
      go_enter Tryd.func28, Tryd.ntmps28
      go_wp2_with fail
      go_ret
      exact ⟨ret_bool HW.out.symm, rfl⟩
    · have g0 : ((s.size : Int) == 0) = false := by rw [beq_eq_false_iff_ne]; omega
      have g1 : 10 < s.size := by omega
      clear hl hz
      go_enter Tryd.func28, Tryd.ntmps28
      go_wp2_with fail
      go_ret
      exact ⟨ret_bool HW.out.symm, rfl⟩

def needS (n : Int) : ByteArray := if n = 1 then ⟨#[109, 97, 106, 111, 114, 105, 116, 121]⟩ else if n = 2 then ⟨#[116, 119, 111, 45, 116, 104, 105, 114, 100, 115]⟩ else if n = 3 then ⟨#[97, 108, 108]⟩ else ⟨#[]⟩
theorem ret_str {a b : ByteArray} (h : a = b) : Ending.returned (.string a) = .returned (.string b) := by rw [h]
set_option maxHeartbeats 400000 in
theorem needWord (n : Int) (w : World) :
    Calls Tryd.prog 22 #[.int .i64 n] w fun e w' => e = .returned (.string (needS n)) ∧ w = w' := by
  by_cases h1 : n = 1
  · subst h1
    go_enter Tryd.func22, Tryd.ntmps22
    go_wp2_with fail
    go_ret
    exact ⟨ret_str rfl, rfl⟩
  · by_cases h2 : n = 2
    · subst h2
      go_enter Tryd.func22, Tryd.ntmps22
      go_wp2_with fail
      go_ret
      exact ⟨ret_str rfl, rfl⟩
    · by_cases h3 : n = 3
      · subst h3
        go_enter Tryd.func22, Tryd.ntmps22
        go_wp2_with fail
        go_ret
        exact ⟨ret_str rfl, rfl⟩
      · have H := Lib.hid (show needS n = ⟨#[]⟩ by unfold needS; rw [if_neg h1, if_neg h2, if_neg h3])
        have g1 : (n == 1) = false := by simpa using h1
        have g2 : (n == 2) = false := by simpa using h2
        have g3 : (n == 3) = false := by simpa using h3
        clear h1 h2 h3
        go_enter Tryd.func22, Tryd.ntmps22
        go_wp2_with fail
        go_ret
        exact ⟨ret_str H.out.symm, rfl⟩
theorem need_empty (n : Int) (h : ¬ (1 ≤ n ∧ n ≤ 3)) : needS n = ⟨#[]⟩ := by
  unfold needS; rw [if_neg (by omega), if_neg (by omega), if_neg (by omega)]
theorem need_full (n : Int) (h : 1 ≤ n ∧ n ≤ 3) : (needS n).toList.isEmpty = false := by
  have : n = 1 ∨ n = 2 ∨ n = 3 := by omega
  rw [ByteArray.toList_eq]
  rcases this with rfl | rfl | rfl <;> rfl
theorem ok_mk {r : R} (h1 : 1 ≤ r.id ∧ r.id ≤ 20) (h2 : isWordB r.name = true) (h3 : 0 ≤ r.rank ∧ r.rank ≤ 9) (h4 : 1 ≤ r.need ∧ r.need ≤ 3) : okB r = true := decide_eq_true ⟨h1, h2, h3, h4⟩
theorem ok_no {r : R} (h : ¬ OkR r) : okB r = false := decide_eq_false h

set_option maxHeartbeats 400000 in
theorem l2Single (r : R) (w : World) (hs : r.name.size ≤ maxLen) :
    Calls Tryd.prog 26 #[.agg #[.int .i64 r.id, .string r.name, .int .i64 r.rank, .bool r.sec, .bool r.deb, .bool r.am, .int .i64 r.need]] w fun e w' => e = .returned (.bool (okB r)) ∧ Below w.heap.size w w' := by
  have HS := Lib.hid hs
  clear hs
  by_cases h1 : 1 ≤ r.id ∧ r.id ≤ 20
  · obtain ⟨a1, a2⟩ := h1
    by_cases h2 : isWordB r.name = true
    · have H2 := Lib.hid h2
      by_cases h3 : 0 ≤ r.rank ∧ r.rank ≤ 9
      · obtain ⟨b1, b2⟩ := h3
        by_cases h4 : 1 ≤ r.need ∧ r.need ≤ 3
        · obtain ⟨c1, c2⟩ := h4
          have HO := Lib.hid (ok_mk ⟨a1, a2⟩ h2 ⟨b1, b2⟩ ⟨c1, c2⟩)
          clear h2
          go_enter Tryd.func26, Tryd.ntmps26
          go_wp2_with fail
          refine (in_yes _ _ _ _ (by omega) (by omega)).mono ?_
          rintro e w' ⟨rfl, rfl⟩
          go_wp2_with fail
          refine (l2Word _ _ HS.out).mono ?_
          rintro e w' ⟨rfl, rfl⟩
          rw [H2.out]
          go_wp2_with fail
          refine (in_yes _ _ _ _ (by omega) (by omega)).mono ?_
          rintro e w' ⟨rfl, rfl⟩
          go_wp2_with fail
          refine (in_yes _ _ _ _ (by omega) (by omega)).mono ?_
          rintro e w' ⟨rfl, rfl⟩
          go_wp2_with fail
          go_ret
          exact ⟨ret_bool HO.out.symm, (Below.refl _ _).alloc (Nat.le_refl _) _⟩
        · have HO := Lib.hid (ok_no (r := r) (fun h => h4 h.2.2.2))
          have H4 := Lib.hid h4
          clear h2 h4
          go_enter Tryd.func26, Tryd.ntmps26
          go_wp2_with fail
          refine (in_yes _ _ _ _ (by omega) (by omega)).mono ?_
          rintro e w' ⟨rfl, rfl⟩
          go_wp2_with fail
          refine (l2Word _ _ HS.out).mono ?_
          rintro e w' ⟨rfl, rfl⟩
          rw [H2.out]
          go_wp2_with fail
          refine (in_yes _ _ _ _ (by omega) (by omega)).mono ?_
          rintro e w' ⟨rfl, rfl⟩
          go_wp2_with fail
          refine (in_no _ _ _ _ H4.out).mono ?_
          rintro e w' ⟨rfl, rfl⟩
          go_wp2_with fail
          go_ret
          exact ⟨ret_bool HO.out.symm, (Below.refl _ _).alloc (Nat.le_refl _) _⟩
      · have HO := Lib.hid (ok_no (r := r) (fun h => h3 h.2.2.1))
        have H3 := Lib.hid h3
        clear h2 h3
        go_enter Tryd.func26, Tryd.ntmps26
        go_wp2_with fail
        refine (in_yes _ _ _ _ (by omega) (by omega)).mono ?_
        rintro e w' ⟨rfl, rfl⟩
        go_wp2_with fail
        refine (l2Word _ _ HS.out).mono ?_
        rintro e w' ⟨rfl, rfl⟩
        rw [H2.out]
        go_wp2_with fail
        refine (in_no _ _ _ _ H3.out).mono ?_
        rintro e w' ⟨rfl, rfl⟩
        go_wp2_with fail
        go_ret
        exact ⟨ret_bool HO.out.symm, (Below.refl _ _).alloc (Nat.le_refl _) _⟩
    · have HO := Lib.hid (ok_no (r := r) (fun h => h2 h.2.1))
      have H2 := Lib.hid (Bool.eq_false_iff.2 h2)
      clear h2
      go_enter Tryd.func26, Tryd.ntmps26
      go_wp2_with fail
      refine (in_yes _ _ _ _ (by omega) (by omega)).mono ?_
      rintro e w' ⟨rfl, rfl⟩
      go_wp2_with fail
      refine (l2Word _ _ HS.out).mono ?_
      rintro e w' ⟨rfl, rfl⟩
      rw [H2.out]
      go_wp2_with fail
      go_ret
      exact ⟨ret_bool HO.out.symm, (Below.refl _ _).alloc (Nat.le_refl _) _⟩
  · have HO := Lib.hid (ok_no (r := r) (fun h => h1 h.1))
    have H1 := Lib.hid h1
    clear h1
    go_enter Tryd.func26, Tryd.ntmps26
    go_wp2_with fail
    refine (in_no _ _ _ _ H1.out).mono ?_
    rintro e w' ⟨rfl, rfl⟩
    go_wp2_with fail
    go_ret
    exact ⟨ret_bool HO.out.symm, (Below.refl _ _).alloc (Nat.le_refl _) _⟩

set_option maxHeartbeats 800000 in
theorem implValid (r : R) (w : World) (hs : r.name.size ≤ maxLen) :
    Calls Tryd.prog 9 #[.agg #[.int .i64 r.id, .string r.name, .int .i64 r.rank, .bool r.sec, .bool r.deb, .bool r.am, .int .i64 r.need]] w fun e w' => e = .returned (.bool (okB r)) ∧ Below w.heap.size w w' := by
  have HS := Lib.hid hs
  clear hs
  by_cases a1 : 1 ≤ r.id
  · by_cases a2 : r.id ≤ 20
    · by_cases h2 : isWordB r.name = true
      · have H2 := Lib.hid h2
        by_cases b1 : 0 ≤ r.rank
        · by_cases b2 : r.rank ≤ 9
          · by_cases h4 : 1 ≤ r.need ∧ r.need ≤ 3
            · have HO := Lib.hid (ok_mk ⟨a1, a2⟩ h2 ⟨b1, b2⟩ h4)
              have hn := need_full r.need h4
              clear h2 h4
              go_enter Tryd.func9, Tryd.ntmps9
              go_wp2_with fail
              refine (isWord _ _ HS.out).mono ?_
              rintro e w' ⟨rfl, rfl⟩
              rw [H2.out]
              go_wp2_with fail
              refine (needWord _ _).mono ?_
              rintro e w' ⟨rfl, rfl⟩
              go_wp2_with fail
              go_ret
              exact ⟨ret_bool HO.out.symm, (Below.refl _ _).alloc (Nat.le_refl _) _⟩
            · have HO := Lib.hid (ok_no (r := r) (fun h => h4 h.2.2.2))
              have HN := Lib.hid (need_empty r.need h4)
              clear h2 h4
              go_enter Tryd.func9, Tryd.ntmps9
              go_wp2_with fail
              refine (isWord _ _ HS.out).mono ?_
              rintro e w' ⟨rfl, rfl⟩
              rw [H2.out]
              go_wp2_with fail
              refine (needWord _ _).mono ?_
              rintro e w' ⟨rfl, rfl⟩
              rw [HN.out]
              go_wp2_with fail
              go_ret
              exact ⟨ret_bool HO.out.symm, (Below.refl _ _).alloc (Nat.le_refl _) _⟩
          · have HO := Lib.hid (ok_no (r := r) (fun h => b2 h.2.2.1.2))
            clear h2
            go_enter Tryd.func9, Tryd.ntmps9
            go_wp2_with fail
            refine (isWord _ _ HS.out).mono ?_
            rintro e w' ⟨rfl, rfl⟩
            rw [H2.out]
            go_wp2_with fail
            go_ret
            exact ⟨ret_bool HO.out.symm, (Below.refl _ _).alloc (Nat.le_refl _) _⟩
        · have HO := Lib.hid (ok_no (r := r) (fun h => b1 h.2.2.1.1))
          clear h2
          go_enter Tryd.func9, Tryd.ntmps9
          go_wp2_with fail
          refine (isWord _ _ HS.out).mono ?_
          rintro e w' ⟨rfl, rfl⟩
          rw [H2.out]
          go_wp2_with fail
          go_ret
          exact ⟨ret_bool HO.out.symm, (Below.refl _ _).alloc (Nat.le_refl _) _⟩
      · have HO := Lib.hid (ok_no (r := r) (fun h => h2 h.2.1))
        have H2 := Lib.hid (Bool.eq_false_iff.2 h2)
        clear h2
        go_enter Tryd.func9, Tryd.ntmps9
        go_wp2_with fail
        refine (isWord _ _ HS.out).mono ?_
        rintro e w' ⟨rfl, rfl⟩
        rw [H2.out]
        go_wp2_with fail
        go_ret
        exact ⟨ret_bool HO.out.symm, (Below.refl _ _).alloc (Nat.le_refl _) _⟩
    · have HO := Lib.hid (ok_no (r := r) (fun h => a2 h.1.2))
      go_enter Tryd.func9, Tryd.ntmps9
      go_wp2_with fail
      go_ret
      exact ⟨ret_bool HO.out.symm, (Below.refl _ _).alloc (Nat.le_refl _) _⟩
  · have HO := Lib.hid (ok_no (r := r) (fun h => a1 h.1.1))
    go_enter Tryd.func9, Tryd.ntmps9
    go_wp2_with fail
    go_ret
    exact ⟨ret_bool HO.out.symm, (Below.refl _ _).alloc (Nat.le_refl _) _⟩
end Go.Proofs.YtankaffhapcnaaaDoor.Valid
namespace Go.Proofs.YtankaffhapcnaaaDoor.Num
open Go.RowKit

theorem itoa_lt10 (n : Int) (h0 : 0 ≤ n) (h1 : n < 10) : Lib.itoa n = [UInt8.ofNat (48 + n.toNat)] := by
  unfold Lib.itoa; rw [if_neg (by omega)]; rw [Lib.decDigits_one (by omega)]
theorem itoa_ge10 (n : Int) (h0 : 10 ≤ n) : Lib.itoa n = Lib.itoa (n / 10) ++ [UInt8.ofNat (48 + n.toNat % 10)] := by
  unfold Lib.itoa; rw [if_neg (by omega), if_neg (by omega), Lib.decDigits, dif_neg (by omega)]
  have : n.toNat / 10 = (n / 10).toNat := by omega
  rw [this]
theorem itoa_neg (n : Int) (h0 : n < 0) : Lib.itoa n = 45 :: Lib.itoa (-n) := by
  unfold Lib.itoa; rw [if_pos h0, if_neg (by omega)]
  have : n.natAbs = (-n).toNat := by omega
  rw [this]

theorem piece (n : Int) (h0 : 0 ≤ n) (h1 : n < 10) : (ByteArray.mk #[48, 49, 50, 51, 52, 53, 54, 55, 56, 57]).extract n.toNat (n + 1).toNat = ⟨(Lib.itoa n).toArray⟩ := by
  rw [itoa_lt10 n h0 h1]
  obtain ⟨m, rfl⟩ := Int.eq_ofNat_of_zero_le h0
  have hm : m < 10 := by omega
  have e : ∀ m : Fin 10, (ByteArray.mk #[48, 49, 50, 51, 52, 53, 54, 55, 56, 57]).extract m.val (m.val + 1) = ⟨([UInt8.ofNat (48 + m.val)] : List UInt8).toArray⟩ := by decide +kernel
  exact e ⟨m, hm⟩

set_option maxHeartbeats 400000 in
theorem num_nonneg (k : Nat) : ∀ (n : Int) (w : World), n ≤ k → 0 ≤ n → n ≤ 9223372036854775807 →
    Calls Tryd.prog 45 #[.int .i64 n] w fun e w' => e = .returned (.string ⟨(Lib.itoa n).toArray⟩) ∧ ∃ m, w' = w.drewN m := by
  induction k with
  | zero =>
    intro n w hk h0 h1
    obtain rfl : n = 0 := by omega
    go_enter Tryd.func45, Tryd.ntmps45
    go_wp2_with fail
    go_ret
    exact ⟨by rw [itoa_lt10 0 (by omega) (by omega)]; rfl, 0, rfl⟩
  | succ k ih =>
    intro n w hk h0 h1
    by_cases hn : n < 10
    · go_enter Tryd.func45, Tryd.ntmps45
      go_wp2_with fail
      go_ret
      exact ⟨congrArg (fun b => Ending.returned (.string b)) (piece n h0 hn), 0, rfl⟩
    · have hq : n.tdiv 10 = n / 10 := Int.tdiv_eq_ediv_of_nonneg (by omega)
      have hr : n.tmod 10 = n % 10 := Int.tmod_eq_emod_of_nonneg (by omega)
      have hw1 : IntKind.i64.wrap (n / 10) = n / 10 := IntWalk.i64_in _ (by omega)
      have hw2 : IntKind.i64.wrap (n % 10) = n % 10 := IntWalk.i64_in _ (by omega)
      have hw3 : IntKind.i64.wrap (n % 10 + 1) = n % 10 + 1 := IntWalk.i64_in _ (by omega)
      have b0 : 0 ≤ n % 10 := by omega
      have b1 : n % 10 < 10 := by omega
      have b2 : n % 10 + 1 ≤ 10 := by omega
      have b3 : 0 ≤ n % 10 + 1 := by omega
      have b4 : n % 10 ≤ n % 10 + 1 := by omega
      have hp : n / 10 ≤ k ∧ 0 ≤ n / 10 ∧ n / 10 ≤ 9223372036854775807 := by omega
      have hlen : ¬ 9223372036854775807 < (Lib.itoa (n / 10)).length + ((n % 10 + 1).toNat - (n % 10).toNat) := by
        have h1 := Lib.itoa_length_le (n / 10) (by omega) (by omega)
        omega
      have H := Lib.hid (show (ByteArray.mk (Lib.itoa (n / 10)).toArray ++ (ByteArray.mk #[48, 49, 50, 51, 52, 53, 54, 55, 56, 57]).extract (n % 10).toNat (n % 10 + 1).toNat) = ⟨(Lib.itoa n).toArray⟩ by
        rw [piece (n % 10) b0 b1, itoa_ge10 n (by omega), itoa_lt10 (n % 10) b0 b1]
        have e : (n % 10).toNat = n.toNat % 10 := by omega
        rw [e, ByteArray.mk_append_mk])
      go_enter Tryd.func45, Tryd.ntmps45
      go_wp2_with fail
      go_quiet ((go_at_call 45; refine Calls.quiet_of (ih _ _ hp.1 hp.2.1 hp.2.2)))
      clear hq hr hw1 hw2 hw3
      go_wp2_with fail
      go_ret
      exact ⟨congrArg (fun b => Ending.returned (.string b)) H.out, _, rfl⟩

set_option maxHeartbeats 400000 in
theorem l1Num (n : Int) (w : World) (h0 : -9223372036854775807 ≤ n) (h1 : n ≤ 9223372036854775807) :
    Calls Tryd.prog 45 #[.int .i64 n] w fun e w' => e = .returned (.string ⟨(Lib.itoa n).toArray⟩) ∧ ∃ m, w' = w.drewN m := by
  by_cases hn : 0 ≤ n
  · exact num_nonneg n.toNat n w (by omega) hn h1
  · have hadd : ∀ w : World, (Op.stringOp .add ⟨#[45]⟩ ⟨(Lib.itoa (-n)).toArray⟩).run Tryd.prog w = .ok (.string ⟨(Lib.itoa n).toArray⟩) w := fun w => by
      rw [run_string_add_sum _ _ _ (by
        have h1 := Lib.itoa_length_le (-n) (by omega) (by omega)
        show (#[45] : Array UInt8).size + (Lib.itoa (-n)).toArray.size ≤ _
        simp
        omega)]
      rw [itoa_neg n (by omega), ByteArray.mk_append_mk]
      simp
    have hw : 0 ≤ -n ∧ -n ≤ 9223372036854775807 := by omega
    have hp : -n ≤ ((-n).toNat : Nat) := by omega
    go_enter Tryd.func45, Tryd.ntmps45
    go_wp2_with fail
    refine (num_nonneg (-n).toNat (-n) _ hp hw.1 hw.2).mono ?_
    rintro e w' ⟨rfl, m, rfl⟩
    go_wp2_with fail
    go_ret
    exact ⟨rfl, m, rfl⟩

set_option maxHeartbeats 400000 in
theorem l1In (x a b : Int) (w : World) :
    Calls Tryd.prog 43 #[.int .i64 x, .int .i64 a, .int .i64 b] w fun e w' => e = .returned (.bool (decide (a ≤ x ∧ x ≤ b))) ∧ w = w' := by
  by_cases h1 : a ≤ x
  · by_cases h2 : x ≤ b
    · rw [decide_eq_true (And.intro h1 h2)]
      go_enter Tryd.func43, Tryd.ntmps43
      go_wp2
      go_ret
      exact ⟨rfl, rfl⟩
    · rw [decide_eq_false (fun h : a ≤ x ∧ x ≤ b => h2 h.2)]
      go_enter Tryd.func43, Tryd.ntmps43
      go_wp2
      go_ret
      exact ⟨rfl, rfl⟩
  · rw [decide_eq_false (fun h : a ≤ x ∧ x ≤ b => h1 h.1)]
    go_enter Tryd.func43, Tryd.ntmps43
    go_wp2
    go_ret
    exact ⟨rfl, rfl⟩
end Go.Proofs.YtankaffhapcnaaaDoor.Num
namespace Go.Proofs.YtankaffhapcnaaaDoor.Bs
open Go.RowKit
set_option linter.unusedVariables false

/-- nothing has turned but the blocks from A up to B; blocks may have been laid -/
structure Apart (A B : Nat) (w w' : World) : Prop where
  os : w'.os = w.os
  tape : w'.tape = w.tape
  output : w'.output = w.output
  size : w.heap.size ≤ w'.heap.size
  block : ∀ k, k < w.heap.size → (k < A ∨ B ≤ k) → w'.heap[k]? = w.heap[k]?
theorem Apart.refl (A B : Nat) (w : World) : Apart A B w w := ⟨rfl, rfl, rfl, Nat.le_refl _, fun _ _ _ => rfl⟩
theorem Apart.trans {A B : Nat} {a b c : World} (h : Apart A B a b) (k : Apart A B b c) : Apart A B a c :=
  ⟨k.os.trans h.os, k.tape.trans h.tape, k.output.trans h.output, Nat.le_trans h.size k.size, fun i hi hn => (k.block i (Nat.lt_of_lt_of_le hi h.size) hn).trans (h.block i hi hn)⟩
theorem Apart.of_below {A B : Nat} {a b : World} (h : Below a.heap.size a b) : Apart A B a b := ⟨h.os, h.tape, h.output, h.size, fun j hj _ => h.block j hj⟩
theorem Apart.of_below_low {A : Nat} {a b : World} (h : Below A a b) : Apart A a.heap.size a b := ⟨h.os, h.tape, h.output, h.size, fun j hj hn => h.block j (by omega)⟩
theorem Apart.wide {A B A' B' : Nat} {a b : World} (h : Apart A B a b) (hA : A' ≤ A) (hB : B ≤ B') : Apart A' B' a b := ⟨h.os, h.tape, h.output, h.size, fun j hj hn => h.block j hj (by omega)⟩
theorem Apart.below {A B B' : Nat} {a b : World} (h : Apart A B a b) (hB : B' ≤ A) (hz : B' ≤ a.heap.size) : Below B' a b :=
  ⟨h.os, h.tape, h.output, h.size, fun k hk => h.block k (by omega) (.inl (by omega))⟩
theorem Apart.set {A B : Nat} {a b : World} (h : Apart A B a b) {p : Addr} (hA : A ≤ p.block) (hB : p.block < B) (v : Value) : Apart A B a (b.setCell p v) :=
  h.trans ⟨rfl, rfl, rfl, by simp, fun k _ hk => heap_setCell_other b p k v (by omega)⟩
theorem Apart.alloc {A B : Nat} {a b : World} (h : Apart A B a b) (o : Obj) : Apart A B a (b.alloc o) := h.trans (Apart.of_below ((Below.refl _ _).alloc (Nat.le_refl _) o))
theorem Apart.on {A B : Nat} {a b c : World} (h : Apart A B a b) (hb : Below b.heap.size b c) : Apart A B a c := h.trans (Apart.of_below hb)

/-- a fact that hangs on the blocks from A up to B alone -/
structure Loc (A B : Nat) (P : World → Prop) (w : World) : Prop where
  le : B ≤ w.heap.size
  all : ∀ w' : World, B ≤ w'.heap.size → (∀ j, A ≤ j → j < B → w'.heap[j]? = w.heap[j]?) → P w'
section
variable {A B : Nat} {P : World → Prop} {w w' : World}
theorem Loc.now (h : Loc A B P w) : P w := h.all w h.le fun _ _ _ => rfl
theorem Loc.same (h : Loc A B P w) (hz : B ≤ w'.heap.size) (hs : ∀ j, A ≤ j → j < B → w'.heap[j]? = w.heap[j]?) : Loc A B P w' :=
  ⟨hz, fun w2 h2 hs2 => h.all w2 h2 fun j h1 h3 => (hs2 j h1 h3).trans (hs j h1 h3)⟩
theorem Loc.kept (h : Loc A B P w) (hb : Below w.heap.size w w') : Loc A B P w' :=
  h.same (Nat.le_trans h.le hb.size) fun j _ hj => hb.block j (Nat.lt_of_lt_of_le hj h.le)
theorem Loc.under {C : Nat} (h : Loc A B P w) (hb : Below C w w') (hC : B ≤ C) : Loc A B P w' :=
  h.same (Nat.le_trans h.le hb.size) fun j _ hj => hb.block j (by omega)
theorem Loc.apart {A' B' : Nat} (h : Loc A B P w) (ha : Apart A' B' w w') (hd : B ≤ A' ∨ B' ≤ A) : Loc A B P w' :=
  h.same (Nat.le_trans h.le ha.size) fun j h1 h2 => ha.block j (by have := h.le; omega) (by omega)
theorem Loc.alloc (h : Loc A B P w) (o : Obj) : Loc A B P (w.alloc o) := h.kept ((Below.refl _ _).alloc (Nat.le_refl _) o)
theorem Loc.imp {Q : World → Prop} (h : Loc A B P w) (hi : ∀ W, P W → Q W) : Loc A B Q w := ⟨h.le, fun w2 h2 hs => hi _ (h.all w2 h2 hs)⟩
end

theorem cell_lt {w : World} {p : Addr} {v : Value} (h : w.cell? p = some v) : p.block < w.heap.size := by
  rcases Nat.lt_or_ge p.block w.heap.size with h' | h'
  · exact h'
  · simp [World.cell?, Array.getElem?_eq_none h'] at h

/-- a type of records: how many cells, which values -/
structure Rec (α : Type) where
  n : Nat
  vals : α → List Value
  len : ∀ a, (vals a).length = n
  pos : 0 < n
  one : ∀ a, ∀ u ∈ vals a, u.oneCell' = true
section
variable {α : Type} (T : Rec α)
def flat (xs : List α) : List Value := xs.flatMap T.vals
theorem flat_cons (x : α) (xs : List α) : flat T (x :: xs) = T.vals x ++ flat T xs := rfl
theorem flat_len : ∀ xs : List α, (flat T xs).length = xs.length * T.n
  | [] => by simp [flat]
  | x :: xs => by rw [flat_cons, List.length_append, flat_len xs, List.length_cons, T.len, Nat.add_mul, Nat.one_mul, Nat.add_comm]
theorem flat_append (xs ys : List α) : flat T (xs ++ ys) = flat T xs ++ flat T ys := by simp [flat]
theorem flat_one (xs : List α) : ∀ u ∈ flat T xs, u.oneCell' = true := by
  intro u hu
  obtain ⟨r, _, hr⟩ := List.mem_flatMap.1 hu
  exact T.one r u hr
theorem flat_at : ∀ (xs : List α) (k j : Nat) (r : α), xs[k]? = some r → j < T.n → (flat T xs)[k * T.n + j]? = (T.vals r)[j]?
  | [], k, j, r, h, _ => by simp at h
  | x :: xs, 0, j, r, h, hj => by
    simp only [List.getElem?_cons_zero, Option.some.injEq] at h
    subst h
    rw [flat_cons, Nat.zero_mul, Nat.zero_add, List.getElem?_append_left (by rw [T.len]; exact hj)]
  | x :: xs, k + 1, j, r, h, hj => by
    rw [List.getElem?_cons_succ] at h
    have e0 : (k + 1) * T.n = k * T.n + T.n := Nat.succ_mul k T.n
    rw [flat_cons, List.getElem?_append_right (by rw [T.len, e0]; omega), T.len]
    have e : (k + 1) * T.n + j - T.n = k * T.n + j := by rw [e0]; omega
    rw [e]
    exact flat_at xs k j r h hj
theorem flat_set : ∀ (ys : List α) (k j : Nat) (r r' : α) (v : Value), ys[k]? = some r → j < T.n → T.vals r' = (T.vals r).set j v → (flat T ys).set (k * T.n + j) v = flat T (ys.set k r')
  | [], k, j, r, r', v, h, _, _ => by simp at h
  | x :: ys, 0, j, r, r', v, h, hj, hv => by
    simp only [List.getElem?_cons_zero, Option.some.injEq] at h
    subst h
    show (T.vals x ++ flat T ys).set (0 * T.n + j) v = T.vals r' ++ flat T ys
    rw [Nat.zero_mul, Nat.zero_add, List.set_append_left _ _ (by rw [T.len]; exact hj), hv]
  | x :: ys, k + 1, j, r, r', v, h, hj, hv => by
    rw [List.getElem?_cons_succ] at h
    show (T.vals x ++ flat T ys).set ((k + 1) * T.n + j) v = T.vals x ++ flat T (ys.set k r')
    have e0 : (k + 1) * T.n = k * T.n + T.n := Nat.succ_mul k T.n
    rw [List.set_append_right _ _ (by rw [T.len, e0]; omega), T.len]
    have e : (k + 1) * T.n + j - T.n = k * T.n + j := by rw [e0]; omega
    rw [e, flat_set ys k j r r' v h hj hv]
/-- the cells of a record at a place -/
def At (w : World) (b p : Nat) (r : α) : Prop := ∀ j v, (T.vals r)[j]? = some v → w.cell? ⟨b, p + j, none⟩ = some v
theorem At.keep {w w' : World} {b p : Nat} {r : α} (h : At T w b p r) (hk : ∀ o, w'.cell? ⟨b, o, none⟩ = w.cell? ⟨b, o, none⟩) : At T w' b p r := fun j v hv => by rw [hk]; exact h j v hv
theorem At.below {w w' : World} {b p B : Nat} {r : α} (h : At T w b p r) (hb : Below B w w') (hl : b < B) : At T w' b p r := h.keep T fun o => hb.cell (p := ⟨b, o, none⟩) hl
/-- a slice of records lies in memory -/
def RowsAt (w : World) (a : Option Addr) (c : Nat) (xs : List α) : Prop :=
  xs.length ≤ c ∧ c ≤ maxLen ∧ (xs = [] ∨ ∃ b o, a = some ⟨b, o, none⟩ ∧ b < w.heap.size ∧ ∀ j r, xs[j]? = some r → At T w b (o + j * T.n) r)
theorem RowsAt.below {w w' : World} {a : Option Addr} {c : Nat} {xs : List α} (h : RowsAt T w a c xs) (hb : Below w.heap.size w w') : RowsAt T w' a c xs := by
  obtain ⟨h1, h2, h3⟩ := h
  refine ⟨h1, h2, ?_⟩
  rcases h3 with h3 | ⟨b, o, rfl, hlt, hc⟩
  · exact .inl h3
  · exact .inr ⟨b, o, rfl, Nat.lt_of_lt_of_le hlt hb.size, fun j r hr => (hc j r hr).below T hb hlt⟩
/-- the record at a place: where it lies -/
theorem RowsAt.at_ {w : World} {a : Option Addr} {c : Nat} {xs : List α} (h : RowsAt T w a c xs) : Hid (∀ j r, xs[j]? = some r → ∃ b o, a = some ⟨b, o, none⟩ ∧ b < w.heap.size ∧ At T w b (o + j * T.n) r) := by
  obtain ⟨_, _, h3⟩ := h
  intro j r hr
  rcases h3 with rfl | ⟨b, o, rfl, hl, hc⟩
  · simp at hr
  · exact ⟨b, o, rfl, hl, hc j r hr⟩
/-- a slice value that reads as these records -/
def Is (w : World) (v : Value) (xs : List α) : Prop := ∃ a c, v = .slice a xs.length c ∧ RowsAt T w a c xs
theorem Is.below {w w' : World} {v : Value} {xs : List α} (h : Is T w v xs) (hb : Below w.heap.size w w') : Is T w' v xs := by
  obtain ⟨a, c, e, h⟩ := h
  exact ⟨a, c, e, h.below T hb⟩
/-- a slice value, not nil, that reads as these records -/
def IsS (w : World) (v : Value) (xs : List α) : Prop := ∃ b o c, v = .slice (some ⟨b, o, none⟩) xs.length c ∧ b < w.heap.size ∧ xs.length ≤ c ∧ c ≤ maxLen ∧ ∀ j r, xs[j]? = some r → At T w b (o + j * T.n) r
theorem IsS.is {w : World} {v : Value} {xs : List α} (h : IsS T w v xs) : Is T w v xs := by
  obtain ⟨b, o, c, e, hb, h1, h2, h3⟩ := h
  exact ⟨_, c, e, h1, h2, .inr ⟨b, o, rfl, hb, h3⟩⟩
/-- all cells of a slice, one by one -/
theorem flat_cells {w : World} {b o : Nat} {xs : List α} (h : ∀ j r, xs[j]? = some r → At T w b (o + j * T.n) r) : ∀ j u, (flat T xs)[j]? = some u → w.cell? ⟨b, o + j, none⟩ = some u := by
  intro j u hu
  have hj : j < xs.length * T.n := by rw [← flat_len]; exact (List.getElem?_eq_some_iff.1 hu).1
  have hp := T.pos
  have hx : j / T.n < xs.length := (Nat.div_lt_iff_lt_mul hp).2 hj
  have hr := List.getElem?_eq_getElem hx
  have hm : j % T.n < T.n := Nat.mod_lt _ hp
  have hf := flat_at T xs (j / T.n) (j % T.n) _ hr hm
  have e : j / T.n * T.n + j % T.n = j := Nat.div_add_mod' j T.n
  rw [e, hu] at hf
  have := h _ _ hr (j % T.n) u hf.symm
  rwa [show o + j / T.n * T.n + j % T.n = o + j by rw [Nat.add_assoc, e]] at this
/-- a slice value of the call's own, its block at A or above, that holds these records -/
def Own (E : TypeId) (w : World) (A : Nat) (v : Value) (xs : List α) : Prop := w.ownsRow A E T.n v xs.length (flat T xs)
variable {T} {E : TypeId} {w w' : World} {A B : Nat} {v : Value} {xs : List α}
theorem Own.shape (h : Own T E w A v xs) : (v = .slice none 0 0 ∧ xs = []) ∨ ∃ g cap, v = .slice (some ⟨g, 0, none⟩) xs.length cap ∧ A ≤ g ∧ g < w.heap.size ∧ xs.length ≤ cap ∧ cap ≤ maxLen := by
  rcases h.2 with ⟨h', hz⟩ | ⟨g, cap, cur, h', hbg, hg, hnc, hcm, _, _⟩
  · exact .inl ⟨h', List.eq_nil_of_length_eq_zero hz⟩
  · exact .inr ⟨g, cap, h', hbg, (Array.getElem?_eq_some_iff.1 hg).1, hnc, hcm⟩
theorem Own.same (h : Own T E w A v xs) (hs : ∀ k, v.ownBlock = some k → w'.heap[k]? = w.heap[k]?) : Own T E w' A v xs := by
  refine ⟨h.1, ?_⟩
  rcases h.2 with hn | ⟨g, cap, cur, rfl, hbg, hgg, rest⟩
  · exact .inl hn
  · refine .inr ⟨g, cap, cur, rfl, hbg, ?_, rest⟩
    rw [hs g rfl]
    exact hgg
theorem Own.kept (h : Own T E w A v xs) (hb : Below w.heap.size w w') : Own T E w' A v xs := h.same fun k hk => hb.block k (h.lt k hk).2
theorem Own.low {A' : Nat} (h : Own T E w A v xs) (hA : A' ≤ A) : Own T E w A' v xs := by
  refine ⟨h.1, ?_⟩
  rcases h.2 with hn | ⟨g, cap, cur, rfl, hbg, rest⟩
  · exact .inl hn
  · exact .inr ⟨g, cap, cur, rfl, Nat.le_trans hA hbg, rest⟩
theorem Own.alloc (h : Own T E w A v xs) (o : Obj) : Own T E (w.alloc o) A v xs := h.kept ((Below.refl _ _).alloc (Nat.le_refl _) o)
/-- an empty slice that was just built -/
theorem Own.start (h : A ≤ w.heap.size) : Own T E (w.alloc (.cells #[] E)) A (.slice (some ⟨w.heap.size, 0, none⟩) 0 0) [] := by
  refine ⟨by simp [flat], .inr ⟨w.heap.size, 0, #[], rfl, h, ?_, Nat.le_refl _, Nat.zero_le _, by simp, by simp [flat]⟩⟩
  show (w.heap.push _)[w.heap.size]? = _
  rw [Array.getElem?_push, if_pos rfl]
theorem Own.nil : Own T E w A (.slice none 0 0) [] := ⟨by simp [flat], .inl ⟨rfl, rfl⟩⟩
theorem Own.is (h : Own T E w A v xs) : Is T w v xs := by
  rcases h.shape with ⟨rfl, rfl⟩ | ⟨g, cap, rfl, _, hlt, hc, hm⟩
  · exact ⟨none, 0, rfl, Nat.le_refl _, Nat.zero_le _, .inl rfl⟩
  · refine ⟨_, cap, rfl, hc, hm, .inr ⟨g, 0, rfl, hlt, fun j r hr i u hu => ?_⟩⟩
    have hi : i < T.n := by rw [← T.len r]; exact (List.getElem?_eq_some_iff.1 hu).1
    have hcell := World.ownsRow.cells h (g := g) rfl (j * T.n + i) u (by rw [flat_at T xs j i r hr hi]; exact hu)
    rw [Go.WideShapes.add_plain] at hcell
    rw [show 0 + j * T.n + i = 0 + (j * T.n + i) by omega]
    exact hcell
theorem Own.isS (h : Own T E w A v xs) (hv : ∃ g, v.ownBlock = some g) : IsS T w v xs := by
  obtain ⟨g0, hg0⟩ := hv
  rcases h.shape with ⟨rfl, rfl⟩ | ⟨g, cap, rfl, _, hlt, hc, hm⟩
  · cases hg0
  · refine ⟨g, 0, cap, rfl, hlt, hc, hm, fun j r hr i u hu => ?_⟩
    have hi : i < T.n := by rw [← T.len r]; exact (List.getElem?_eq_some_iff.1 hu).1
    have hcell := World.ownsRow.cells h (g := g) rfl (j * T.n + i) u (by rw [flat_at T xs j i r hr hi]; exact hu)
    rw [Go.WideShapes.add_plain] at hcell
    rw [show 0 + j * T.n + i = 0 + (j * T.n + i) by omega]
    exact hcell
theorem Own.rows {g n cap : Nat} (hn : xs.length = n) (h : Own T E w A (.slice (some ⟨g, 0, none⟩) n cap) xs) : RowsAt T w (some ⟨g, 0, none⟩) cap xs := by
  obtain ⟨a, c, e, hr⟩ := h.is
  simp only [Value.slice.injEq] at e
  obtain ⟨rfl, _, rfl⟩ := e
  exact hr
/-- the cells of a record of the row -/
theorem Own.at_ {g n cap : Nat} (h : Own T E w A (.slice (some ⟨g, 0, none⟩) n cap) xs) (k : Nat) (r : α) (hr : xs[k]? = some r) : At T w g (k * T.n) r := fun i u hu => by
  have hi : i < T.n := by rw [← T.len r]; exact (List.getElem?_eq_some_iff.1 hu).1
  have hcell := World.ownsRow.cells h (g := g) rfl (k * T.n + i) u (by rw [flat_at T xs k i r hr hi]; exact hu)
  rw [Go.WideShapes.add_plain] at hcell
  rw [show k * T.n + i = 0 + (k * T.n + i) by omega]
  exact hcell
theorem Own.frozen {g n cap : Nat} (hn : xs.length = n) (h : Own T E w A (.slice (some ⟨g, 0, none⟩) n cap) xs) (o : Nat) : w.frozen? ⟨g, o, none⟩ = false := by
  subst hn
  exact World.ownsRow.frozenAt h o
/-- a store into one cell -/
theorem Own.put {g n cap : Nat} (hn : xs.length = n) (h : Own T E w A (.slice (some ⟨g, 0, none⟩) n cap) xs) (k j : Nat) (r r' : α) (u : Value) (hr : xs[k]? = some r) (hj : j < T.n) (hv : T.vals r' = (T.vals r).set j u) :
    Own T E (w.setCell ⟨g, k * T.n + j, none⟩ u) A (.slice (some ⟨g, 0, none⟩) n cap) (xs.set k r') := by
  subst hn
  unfold Own
  rw [← flat_set T xs k j r r' u hr hj hv, List.length_set]
  exact (World.ownsRow.stored h (k * T.n + j) u).1
/-- made by an append of one record that lies somewhere -/
theorem Own.next {n : Nat} {news : List α} (h : w.ownsRow A E T.n v (xs.length + news.length) (flat T xs ++ flat T news)) : Own T E w A v (xs ++ news) := by
  unfold Own
  rw [List.length_append, flat_append]
  exact h
/-- an owned value whose block lies between A and B -/
def OwnB (T : Rec α) (E : TypeId) (A B : Nat) (v : Value) (xs : List α) (w : World) : Prop := Own T E w A v xs ∧ ∀ k, v.ownBlock = some k → k < B
theorem Own.loc (h : Own T E w A v xs) : Loc A w.heap.size (OwnB T E A w.heap.size v xs) w :=
  ⟨Nat.le_refl _, fun w' hz hs => ⟨h.same fun k hk => hs k (h.lt k hk).1 (h.lt k hk).2, fun k hk => (h.lt k hk).2⟩⟩
theorem OwnB.loc (h : OwnB T E A B v xs w) (hB : B ≤ w.heap.size) : Loc A B (OwnB T E A B v xs) w :=
  ⟨hB, fun w' hz hs => ⟨h.1.same fun k hk => hs k (h.1.lt k hk).1 (h.2 k hk), h.2⟩⟩
/-- what came in -/
theorem Is.loc (h : Is T w v xs) : Loc 0 w.heap.size (fun W => Is T W v xs) w := by
  refine ⟨Nat.le_refl _, fun w' hz hs => ?_⟩
  obtain ⟨a, c, e, h1, h2, h3⟩ := h
  refine ⟨a, c, e, h1, h2, ?_⟩
  rcases h3 with h3 | ⟨b, o, rfl, hlt, hc⟩
  · exact .inl h3
  · refine .inr ⟨b, o, rfl, Nat.lt_of_lt_of_le hlt hz, fun j r hr => (hc j r hr).keep T fun p => ?_⟩
    exact World.cell?_of_block (a := ⟨b, p, none⟩) (hs b (Nat.zero_le _) hlt)
end
theorem boxLoc {α : Type} (T : Rec α) {w : World} {o : Obj} {r : α} (h : At T (w.alloc o) w.heap.size 0 r) : Loc w.heap.size (w.heap.size + 1) (fun W => At T W w.heap.size 0 r) (w.alloc o) :=
  ⟨by simp, fun w' hz hs => h.keep T fun p => World.cell?_of_block (a := ⟨w.heap.size, p, none⟩) (hs _ (Nat.le_refl _) (Nat.lt_succ_self _))⟩
/-- an append to a slice of the call's own, as a step of a region that draws its order -/
theorem step_append {P : Program} {w : World} {ops : Array Oper} {o : Oper} {a : Act} {K : Act → World → Prop} {Q : Exit → Act → World → Prop} {E : Prop} (hgd : o.guard = none) (s x : Operand) (t : TypeId)
    (ho : o.op = .call { callee := .builtin .append, args := #[s, x], argTypes := #[t, t] })
    (base : Nat) (e : TypeId) (i : TypeInfo) (z : Value) (size bytes : Nat) (ht : P.underlying t = some (.slice e)) (hi : P.info? e = some i) (hz : i.zero = some z)
    (hsize : i.size = size) (hby : i.bytes = bytes) (hzs : z.cells.size = size) (hsz : 0 < size)
    (v : Value) (n : Nat) (xs : List Value) (hs : a.eval s = v) (hown : w.ownsRow base e size v n xs)
    (ad : Addr) (m c : Nat) (news : List Value) (hx : a.eval x = .slice (some ad) m c) (hl : news.length = m * size) (hnews : ∀ j u, news[j]? = some u → w.cell? (ad.add j) = some u) (h1 : ∀ u ∈ news, u.oneCell' = true)
    (h63 : n + m ≤ maxLen) (hbytes : (n + m) * bytes ≤ 140737488355328) (hbase : base ≤ w.heap.size)
    (h : ∀ v' w', w'.ownsRow base e size v' (n + m) (xs ++ news) → w.grownBy w' v.ownBlock → K (a.put o.dst v') w') :
    if Region.wanted o (yielded ops a.tmps) = true then Oper.wp P o a w K Q else E := by
  have hw : Region.wanted o (yielded ops a.tmps) = true := by simp [Region.wanted, hgd]
  rw [if_pos hw]
  exact wp_append_own w s x t ho base e i z size bytes ht hi hz hsize hby hzs hsz v n xs hs hown ad m c news hx hl hnews h1 h63 hbytes hbase fun v' w' h2 h3 _ => h v' w' h2 h3
theorem ret_true : Ending.returned (.bool true) = .returned (.bool true) := rfl
/-- a callee that leaves the world alone, met in a quiet region -/
theorem quiet_eq {P : Program} {f : FuncId} {args : Array Value} {w : World} {n : Nat} {v : Value}
    (h : Calls P f args (w.drewN n) fun e w' => e = .returned v ∧ w.drewN n = w') : Calls P f args (w.drewN n) fun e w'' => e = .returned v ∧ ∃ m, w'' = w.drewN m :=
  h.mono fun _ _ ⟨he, hm⟩ => ⟨he, n, hm.symm⟩
/-- the same in a region where memory may be made -/
theorem regrown_eq {P : Program} {f : FuncId} {args : Array Value} {w : World} {d : Nat} {os : Array Obj} {v : Value}
    (h : Calls P f args (Sort.grow (redrawn w d) os) fun e w' => e = .returned v ∧ Sort.grow (redrawn w d) os = w') : Calls P f args (Sort.grow (redrawn w d) os) fun e w'' => e = .returned v ∧ ∃ p : Regrown, w'' = Sort.grow (redrawn w p.d) p.os :=
  Calls.regrown_of (h.mono fun _ _ ⟨he, hm⟩ => ⟨he, by rw [← hm]; exact Below.refl _ _⟩)
theorem drawn_below (w : World) (n : Nat) : Below w.heap.size w (w.drewN n) := ⟨rfl, rfl, rfl, Nat.le_refl _, fun _ _ => rfl⟩
/-- the head of a slice, and its rest -/
theorem IsS.take {α : Type} (T : Rec α) {w : World} {b o n c k : Nat} {z : List α} (h : IsS T w (.slice (some ⟨b, o, none⟩) n c) z) (hk : k ≤ n) : IsS T w (.slice (some ⟨b, o, none⟩) k c) (z.take k) := by
  obtain ⟨b', o', c', e, hbl, h1, h2, h3⟩ := h
  simp only [Value.slice.injEq, Option.some.injEq, Addr.mk.injEq, and_true] at e
  obtain ⟨⟨rfl, rfl⟩, rfl, rfl⟩ := e
  refine ⟨b, o, c, by rw [List.length_take, Nat.min_eq_left hk], hbl, by rw [List.length_take, Nat.min_eq_left hk]; omega, h2, fun i r hr => h3 i r ?_⟩
  rw [List.getElem?_take] at hr
  split at hr
  · exact hr
  · cases hr
theorem IsS.drop {α : Type} (T : Rec α) {w : World} {b o n c k : Nat} {z : List α} (t : Option Addr) (ht : t = if c = k then some ⟨b, o, none⟩ else some ⟨b, o + k * T.n, none⟩) (h : IsS T w (.slice (some ⟨b, o, none⟩) n c) z) (hk : k ≤ n) (m3 c3 : Nat) (hm3 : m3 = n - k) (hc3 : c3 = c - k) : IsS T w (.slice t m3 c3) (z.drop k) := by
  subst hm3 hc3
  obtain ⟨b', o', c', e, hbl, h1, h2, h3⟩ := h
  simp only [Value.slice.injEq, Option.some.injEq, Addr.mk.injEq, and_true] at e
  obtain ⟨⟨rfl, rfl⟩, rfl, rfl⟩ := e
  by_cases hck : c = k
  · rw [if_pos hck] at ht
    subst ht
    refine ⟨b, o, c - k, by rw [List.length_drop], hbl, by rw [List.length_drop]; omega, by unfold maxLen at h2 ⊢; omega, fun i r hr => ?_⟩
    rw [List.drop_eq_nil_of_le (by omega)] at hr
    simp at hr
  · rw [if_neg hck] at ht
    subst ht
    refine ⟨b, o + k * T.n, c - k, by rw [List.length_drop], hbl, by rw [List.length_drop]; omega, by unfold maxLen at h2 ⊢; omega, fun i r hr => ?_⟩
    have h := h3 (k + i) r (by rw [List.getElem?_drop] at hr; exact hr)
    rwa [Nat.add_mul, ← Nat.add_assoc] at h
theorem IsS.below {α : Type} (T : Rec α) {w w' : World} {v : Value} {z : List α} (h : IsS T w v z) (hb : Below w.heap.size w w') : IsS T w' v z := by
  obtain ⟨b, o, c, e, hbl, h1, h2, h3⟩ := h
  exact ⟨b, o, c, e, Nat.lt_of_lt_of_le hbl hb.size, h1, h2, fun j r hr => (h3 j r hr).below T hb hbl⟩
/-- a slice of one record that lies at a block's head -/
theorem IsS.unit {α : Type} (T : Rec α) {w : World} {g : Nat} {x : α} (hg : g < w.heap.size) (h : At T w g 0 x) : IsS T w (.slice (some ⟨g, 0, none⟩) 1 1) [x] := by
  refine ⟨g, 0, 1, rfl, hg, Nat.le_refl _, by unfold maxLen; omega, fun i r hr => ?_⟩
  match i, hr with
  | 0, hr =>
    simp only [List.getElem?_cons_zero, Option.some.injEq] at hr
    subst hr
    rw [Nat.zero_mul]
    exact h
  | i + 1, hr => simp at hr
theorem alloc_two (W : World) (o1 o2 : Obj) : ((W.alloc o1).alloc o2).heap[W.heap.size + 1]? = some o2 := by simpa using heap_alloc_new (W.alloc o1) o2
theorem alloc_old (W : World) (o1 o2 : Obj) : ((W.alloc o1).alloc o2).heap[W.heap.size]? = some o1 := (Below.heap_alloc _ _ _ (by simp)).trans (heap_alloc_new _ _)
theorem ite_slice (c : Prop) [Decidable c] (x y : Addr) (n m : Nat) : Value.slice (if c then some x else some y) n m = .slice (some (if c then x else y)) n m := by split <;> rfl
theorem own_in {w : World} {A : Nat} {e : TypeId} {size n : Nat} {v : Value} {xs : List Value} (h : w.ownsRow A e size v (0 + n) ([] ++ xs)) : w.ownsRow A e size v n xs := by
  rwa [Nat.zero_add, List.nil_append] at h
theorem own_ge {B g n c k : Nat} (hj : (Value.slice (some ⟨g, 0, none⟩) n c).ownBlock = some k) (h : B ≤ g) : B ≤ k := by
  simp only [Value.ownBlock, Option.some.injEq] at hj
  omega
theorem IsS.flatCells {α : Type} (T : Rec α) {w : World} {b o n c : Nat} {z : List α} (h : IsS T w (.slice (some ⟨b, o, none⟩) n c) z) : ∀ j u, (flat T z)[j]? = some u → w.cell? (Addr.add ⟨b, o, none⟩ j) = some u := fun j u hu => by
  obtain ⟨b', o', c', e, hbl, h1, h2, h3⟩ := h
  simp only [Value.slice.injEq, Option.some.injEq, Addr.mk.injEq, and_true] at e
  obtain ⟨⟨rfl, rfl⟩, rfl, rfl⟩ := e
  rw [Go.WideShapes.add_plain]
  exact flat_cells T h3 j u hu
theorem own_of {α : Type} (T : Rec α) {E : TypeId} {w : World} {A cnt : Nat} {v : Value} {cells : List Value} {xs : List α} (h : w.ownsRow A E T.n v cnt cells) (hc : xs.length = cnt) (hf : flat T xs = cells) : Own T E w A v xs := by
  unfold Own; rw [hc, hf]; exact h
end Go.Proofs.YtankaffhapcnaaaDoor.Bs
namespace Go.Proofs.YtankaffhapcnaaaDoor.LRule
open Go.RowKit Bs
set_option linter.unusedVariables false

abbrev R := Rule.R
def vals (r : R) : List Value := [.int .i64 r.id, .string r.name, .int .i64 r.rank, .bool r.sec, .bool r.deb, .bool r.am, .int .i64 r.need]
/-- the struct as a type of records -/
def rec : Rec R := ⟨7, vals, fun _ => rfl, by decide, fun r u hu => by
  simp only [vals, List.mem_cons, List.not_mem_nil, or_false] at hu
  rcases hu with rfl | rfl | rfl | rfl | rfl | rfl | rfl <;> rfl⟩
theorem rec_n : rec.n = 7 := rfl
theorem info : (Tryd.prog.info? 25).map (fun i => (i.zero, i.size)) = some (some (.agg #[.int .i64 0, .string ⟨#[]⟩, .int .i64 0, .bool false, .bool false, .bool false, .int .i64 0]), 7) := by kernel_rfl
theorem cells {w : World} {b p : Nat} {r : R} (h : At rec w b p r) : w.cell? ⟨b, p, none⟩ = some (.int .i64 r.id) ∧ w.cell? ⟨b, p + 1, none⟩ = some (.string r.name) ∧ w.cell? ⟨b, p + 2, none⟩ = some (.int .i64 r.rank) ∧ w.cell? ⟨b, p + 3, none⟩ = some (.bool r.sec) ∧ w.cell? ⟨b, p + 4, none⟩ = some (.bool r.deb) ∧ w.cell? ⟨b, p + 5, none⟩ = some (.bool r.am) ∧ w.cell? ⟨b, p + 6, none⟩ = some (.int .i64 r.need) :=
  ⟨h 0 _ rfl, h 1 _ rfl, h 2 _ rfl, h 3 _ rfl, h 4 _ rfl, h 5 _ rfl, h 6 _ rfl⟩
theorem cells0 {w : World} {b : Nat} {r : R} (h : At rec w b 0 r) : w.cell? ⟨b, 0, none⟩ = some (.int .i64 r.id) ∧ w.cell? ⟨b, 1, none⟩ = some (.string r.name) ∧ w.cell? ⟨b, 2, none⟩ = some (.int .i64 r.rank) ∧ w.cell? ⟨b, 3, none⟩ = some (.bool r.sec) ∧ w.cell? ⟨b, 4, none⟩ = some (.bool r.deb) ∧ w.cell? ⟨b, 5, none⟩ = some (.bool r.am) ∧ w.cell? ⟨b, 6, none⟩ = some (.int .i64 r.need) := by
  have := cells h
  simpa only [Nat.zero_add] using this
theorem at_of {w : World} {b p : Nat} {r : R} (h0 : w.cell? ⟨b, p, none⟩ = some (.int .i64 r.id)) (h1 : w.cell? ⟨b, p + 1, none⟩ = some (.string r.name)) (h2 : w.cell? ⟨b, p + 2, none⟩ = some (.int .i64 r.rank)) (h3 : w.cell? ⟨b, p + 3, none⟩ = some (.bool r.sec)) (h4 : w.cell? ⟨b, p + 4, none⟩ = some (.bool r.deb)) (h5 : w.cell? ⟨b, p + 5, none⟩ = some (.bool r.am)) (h6 : w.cell? ⟨b, p + 6, none⟩ = some (.int .i64 r.need)) : At rec w b p r := fun j v hv => by
  have hj : j < 7 := (List.getElem?_eq_some_iff.1 hv).1
  match j, hj with
  | 0, _ => rw [← hv]; exact h0
  | 1, _ => rw [← hv]; exact h1
  | 2, _ => rw [← hv]; exact h2
  | 3, _ => rw [← hv]; exact h3
  | 4, _ => rw [← hv]; exact h4
  | 5, _ => rw [← hv]; exact h5
  | 6, _ => rw [← hv]; exact h6
/-- a record that was boxed -/
theorem box (w : World) (r : R) (t : TypeId) : At rec (w.alloc (.cells #[.int .i64 r.id, .string r.name, .int .i64 r.rank, .bool r.sec, .bool r.deb, .bool r.am, .int .i64 r.need] t)) w.heap.size 0 r := at_of (by simp [go_sem]) (by simp [go_sem]) (by simp [go_sem]) (by simp [go_sem]) (by simp [go_sem]) (by simp [go_sem]) (by simp [go_sem])
/-- facts of a record in all worlds that only grew -/
theorem grown {w : World} {b p : Nat} {r : R} (h : At rec w b p r) (hl : b < w.heap.size) : Hid (∀ d os, At rec (Sort.grow (redrawn w d) os) b p r) := fun d os => h.below rec (below_regrown w d os) hl
def zero : R := ⟨0, ⟨#[]⟩, 0, false, false, false, 0⟩
theorem made_zero (n : Nat) : (madeCells (#[.int .i64 0, .string ⟨#[]⟩, .int .i64 0, .bool false, .bool false, .bool false, .int .i64 0] : Array Value) (n * 7)).toList = flat rec (List.replicate n zero) := by
  apply List.ext_getElem?
  intro i
  rw [madeCells]
  by_cases hi : i < n * 7
  · have h1 := flat_at rec (List.replicate n zero) (i / 7) (i % 7) zero (by rw [List.getElem?_replicate, if_pos (by omega)]) (by rw [rec_n]; omega)
    have e : i / 7 * 7 + i % 7 = i := by omega
    rw [rec_n, e] at h1
    rw [h1]
    have hs : (#[.int .i64 0, .string ⟨#[]⟩, .int .i64 0, .bool false, .bool false, .bool false, .int .i64 0] : Array Value).size = 7 := rfl
    simp only [hs, Array.toList_map, List.getElem?_map, Array.toList_range, List.getElem?_range hi, Option.map_some]
    have h7 : i % 7 < 7 := by omega
    generalize i % 7 = m at *
    match m, h7 with
    | 0, _ => rfl
    | 1, _ => rfl
    | 2, _ => rfl
    | 3, _ => rfl
    | 4, _ => rfl
    | 5, _ => rfl
    | 6, _ => rfl
  · rw [List.getElem?_eq_none (by simp; omega), List.getElem?_eq_none (by rw [flat_len, List.length_replicate, rec_n]; omega)]
/-- what a copy holds after k stores -/
def part (xs : List R) (n k : Nat) : List R := xs.take k ++ List.replicate (n - k) zero
theorem part_len (xs : List R) (n k : Nat) (h : xs.length = n) (hk : k ≤ n) : (part xs n k).length = n := by simp [part]; omega
theorem part_zero (xs : List R) (n : Nat) : part xs n 0 = List.replicate n zero := by simp [part]
theorem part_all (xs : List R) (n : Nat) (h : xs.length = n) : part xs n n = xs := by
  unfold part; rw [List.take_of_length_le (by omega), Nat.sub_self]; simp
theorem part_set (xs : List R) (n k : Nat) (h : xs.length = n) (hk : k < xs.length) : (part xs n k).set k xs[k] = part xs n (k + 1) := by
  unfold part
  have hl : (xs.take k).length = k := by rw [List.length_take]; omega
  rw [List.set_append_right _ _ (by omega), hl, Nat.sub_self]
  have e : n - k = (n - (k + 1)) + 1 := by omega
  rw [e, List.replicate_succ, List.set_cons_zero, List.take_succ_eq_append_getElem hk, List.append_assoc]
  rfl
theorem part_at (xs : List R) (n k : Nat) (h : xs.length = n) (hk : k < n) : (part xs n k)[k]? = some zero := by
  unfold part
  have hl : (xs.take k).length = k := by rw [List.length_take]; omega
  rw [List.getElem?_append_right (by omega), hl, Nat.sub_self, List.getElem?_replicate, if_pos (by omega)]
abbrev OwnR (w : World) (A g n cap : Nat) (ys : List R) : Prop := Own rec 25 w A (.slice (some ⟨g, 0, none⟩) n cap) ys
/-- a store of some fields, one after the other -/
theorem putAll {w : World} {A g n cap : Nat} {ys : List R} (hn : ys.length = n) (h : OwnR w A g n cap ys) (k : Nat) (r0 r : R) (hr : ys[k]? = some r0) :
    OwnR (((((((w.setCell ⟨g, k * 7, none⟩ (.int .i64 r.id)).setCell ⟨g, k * 7 + 1, none⟩ (.string r.name)).setCell ⟨g, k * 7 + 2, none⟩ (.int .i64 r.rank)).setCell ⟨g, k * 7 + 3, none⟩ (.bool r.sec)).setCell ⟨g, k * 7 + 4, none⟩ (.bool r.deb)).setCell ⟨g, k * 7 + 5, none⟩ (.bool r.am)).setCell ⟨g, k * 7 + 6, none⟩ (.int .i64 r.need)) A g n cap (ys.set k r) := by
  have hk : k < ys.length := (List.getElem?_eq_some_iff.1 hr).1
  have at_ : ∀ x : R, (ys.set k x)[k]? = some x := fun x => by simp [hk]
  have hl : ∀ x : R, (ys.set k x).length = n := fun x => by rw [List.length_set]; exact hn
  have h0 := Own.put hn h k 0 r0 ({ r0 with id := r.id }) (.int .i64 r.id) hr (by decide) rfl
  have h1 := Own.put (hl _) h0 k 1 _ ({ r0 with id := r.id, name := r.name }) (.string r.name) (at_ _) (by decide) rfl
  rw [List.set_set] at h1
  have h2 := Own.put (hl _) h1 k 2 _ ({ r0 with id := r.id, name := r.name, rank := r.rank }) (.int .i64 r.rank) (at_ _) (by decide) rfl
  rw [List.set_set] at h2
  have h3 := Own.put (hl _) h2 k 3 _ ({ r0 with id := r.id, name := r.name, rank := r.rank, sec := r.sec }) (.bool r.sec) (at_ _) (by decide) rfl
  rw [List.set_set] at h3
  have h4 := Own.put (hl _) h3 k 4 _ ({ r0 with id := r.id, name := r.name, rank := r.rank, sec := r.sec, deb := r.deb }) (.bool r.deb) (at_ _) (by decide) rfl
  rw [List.set_set] at h4
  have h5 := Own.put (hl _) h4 k 5 _ ({ r0 with id := r.id, name := r.name, rank := r.rank, sec := r.sec, deb := r.deb, am := r.am }) (.bool r.am) (at_ _) (by decide) rfl
  rw [List.set_set] at h5
  have h6 := Own.put (hl _) h5 k 6 _ (r) (.int .i64 r.need) (at_ _) (by decide) rfl
  rw [List.set_set] at h6
  exact h6
end Go.Proofs.YtankaffhapcnaaaDoor.LRule
namespace Go.Proofs.YtankaffhapcnaaaDoor.LRule
open Go.RowKit Bs
set_option linter.unusedVariables false
def wt (r : R) : Nat := r.name.size
def Fine (r : R) : Prop := r.name.size ≤ maxLen
def tot (xs : List R) : Nat := (xs.map wt).sum
theorem tot_next (xs : List R) (k : Nat) (h : k < xs.length) : tot (xs.take (k + 1)) = tot (xs.take k) + wt xs[k] := by
  rw [List.take_succ_eq_append_getElem h]; unfold tot; rw [List.map_append, List.sum_append]; simp
theorem tot_take_le (xs : List R) (k : Nat) : tot (xs.take k) ≤ tot xs := by
  have := congrArg tot (List.take_append_drop k xs)
  have e : ∀ a b : List R, tot (a ++ b) = tot a + tot b := fun a b => by simp [tot]
  rw [e] at this
  omega
theorem mem_le (xs : List R) (x : R) (h : x ∈ xs) : wt x ≤ tot xs := by
  induction xs with
  | nil => cases h
  | cons y ys ih =>
    simp only [tot, List.map_cons, List.sum_cons] at ih ⊢
    rcases List.mem_cons.1 h with rfl | h
    · omega
    · have := ih h; omega
/-- what is left behind something of a weight -/
def Left (t : Nat) (l : Int) (w : World) (e : Ending) (w' : World) : Prop := Below w.heap.size w w' ∧ ∃ x : Int, e = .returned (.int .i64 x) ∧ ((x < 0 ∧ l < t) ∨ (x = l - t ∧ (t : Int) ≤ l))
end Go.Proofs.YtankaffhapcnaaaDoor.LRule
namespace Go.Proofs.YtankaffhapcnaaaDoor.Line
open Go.RowKit Bs
set_option linter.unusedVariables false
theorem belowDN {B : Nat} {a w : World} (h : Below B a w) (k : Nat) : Below B a (w.drewN k) := h.trans ⟨rfl, rfl, rfl, Nat.le_refl _, fun _ _ => rfl⟩
def num (n : Int) : ByteArray := ⟨(Lib.itoa n).toArray⟩
theorem num_size (n : Int) (h0 : 0 ≤ n) (h1 : n ≤ 1000) : (num n).size ≤ 21 := by
  have := Lib.itoa_length_le n (by omega) (by omega)
  show (Lib.itoa n).toArray.size ≤ 21
  simpa using this
theorem numC (n : Int) (w : World) (h0 : 0 ≤ n) (h1 : n ≤ 1000) :
    Calls Tryd.prog 45 #[.int .i64 n] w fun e w' => e = .returned (.string (num n)) ∧ Below w.heap.size w w' :=
  (Num.l1Num n w (by omega) (by omega)).mono fun e w' ⟨he, k, hk⟩ => ⟨he, by subst hk; exact belowDN (Below.refl _ _) k⟩
def addIf (b : Bool) (s t : ByteArray) : ByteArray := match b with
  | true => s ++ t
  | false => s
def front (i : ByteArray) (nm : ByteArray) (rk : ByteArray) : ByteArray := i ++ ⟨#[32]⟩ ++ nm ++ ⟨#[32, 114, 97, 110, 107, 32]⟩ ++ rk
def mid (f : ByteArray) (s d a : Bool) : ByteArray := addIf a (addIf d (addIf s f ⟨#[32, 115, 101, 99, 111, 110, 100]⟩) ⟨#[32, 100, 101, 98, 97, 116, 101]⟩) ⟨#[32, 97, 109, 101, 110, 100]⟩
def lineB (r : LRule.R) : ByteArray := mid (front (num r.id) r.name (num r.rank)) r.sec r.deb r.am ++ ⟨#[32, 98, 121, 32]⟩ ++ Valid.needS r.need
theorem front_size (i nm rk : ByteArray) (h1 : i.size ≤ 21) (h2 : nm.size ≤ 10) (h3 : rk.size ≤ 21) : (front i nm rk).size ≤ 59 := by
  unfold front
  simp only [ByteArray.size_append]
  have a : (ByteArray.mk #[32]).size = 1 := rfl
  have b : (ByteArray.mk #[32, 114, 97, 110, 107, 32]).size = 6 := rfl
  omega
theorem addIf_size (b : Bool) (s t : ByteArray) : (addIf b s t).size ≤ s.size + t.size := by
  cases b <;> simp [addIf, ByteArray.size_append]
theorem word_size {s : ByteArray} (h : Rule.isWordB s = true) : s.size ≤ 10 := by
  unfold Rule.isWordB at h
  simp only [Bool.and_eq_true, decide_eq_true_eq] at h
  exact h.1.2
theorem ok_parts {r : LRule.R} (h : Rule.okB r = true) : 1 ≤ r.id ∧ r.id ≤ 20 ∧ r.name.size ≤ 10 ∧ 0 ≤ r.rank ∧ r.rank ≤ 9 ∧ 1 ≤ r.need ∧ r.need ≤ 3 := by
  have h := of_decide_eq_true h
  exact ⟨h.1.1, h.1.2, word_size h.2.1, h.2.2.1.1, h.2.2.1.2, h.2.2.2.1, h.2.2.2.2⟩
abbrev needCells : Array Value := #[.string ⟨#[]⟩, .string ⟨#[109, 97, 106, 111, 114, 105, 116, 121]⟩, .string ⟨#[116, 119, 111, 45, 116, 104, 105, 114, 100, 115]⟩, .string ⟨#[97, 108, 108]⟩]
theorem needs (w : World) :
    Calls Tryd.prog 46 #[] w fun e w' => e = .returned (.slice (some ⟨w.heap.size, 0, none⟩) 4 4) ∧ w' = w.alloc (.cells needCells 9) := by
  go_enter Tryd.func46, Tryd.ntmps46
  go_wp2_with fail
  go_ret
  exact ⟨rfl, rfl⟩
attribute [local go_sem ↓] Go.wp_at_zero Go.wp_at_succ
set_option maxRecDepth 100000 in
set_option maxHeartbeats 4000000 in
theorem l2Line (r : LRule.R) (w : World) (hok : Rule.okB r = true) :
    Calls Tryd.prog 27 #[.agg #[.int .i64 r.id, .string r.name, .int .i64 r.rank, .bool r.sec, .bool r.deb, .bool r.am, .int .i64 r.need]] w fun e w' => e = .returned (.string (lineB r)) ∧ Below w.heap.size w w' := by
  obtain ⟨h1, h2, h3, h4, h5, h6, h7⟩ := ok_parts hok
  obtain ⟨i, nm, rk, s, d, a, nd⟩ := r
  simp only at h1 h2 h3 h4 h5 h6 h7 ⊢
  have hA := num_size i (by omega) (by omega)
  have hB := num_size rk (by omega) (by omega)
  have hF := front_size (num i) nm (num rk) hA h3 hB
  have HL := Lib.hid (show lineB ⟨i, nm, rk, s, d, a, nd⟩ = addIf a (addIf d (addIf s (front (num i) nm (num rk)) ⟨#[32, 115, 101, 99, 111, 110, 100]⟩) ⟨#[32, 100, 101, 98, 97, 116, 101]⟩) ⟨#[32, 97, 109, 101, 110, 100]⟩ ++ ⟨#[32, 98, 121, 32]⟩ ++ Valid.needS nd from rfl)
  rw [HL.out]
  have HFr := Lib.hid (show num i ++ ⟨#[32]⟩ ++ nm ++ ⟨#[32, 114, 97, 110, 107, 32]⟩ ++ num rk = front (num i) nm (num rk) from rfl)
  generalize front (num i) nm (num rk) = F0 at *
  obtain ⟨F1, hF1⟩ : ∃ X, X = addIf s F0 ⟨#[32, 115, 101, 99, 111, 110, 100]⟩ := ⟨_, rfl⟩
  have zF1 : F1.size ≤ 66 := by have := addIf_size s F0 ⟨#[32, 115, 101, 99, 111, 110, 100]⟩; have e : (⟨#[32, 115, 101, 99, 111, 110, 100]⟩ : ByteArray).size = 7 := rfl; rw [hF1]; omega
  have HF1 := Lib.hid hF1
  rw [← hF1]
  obtain ⟨F2, hF2⟩ : ∃ X, X = addIf d F1 ⟨#[32, 100, 101, 98, 97, 116, 101]⟩ := ⟨_, rfl⟩
  have zF2 : F2.size ≤ 73 := by have := addIf_size d F1 ⟨#[32, 100, 101, 98, 97, 116, 101]⟩; have e : (⟨#[32, 100, 101, 98, 97, 116, 101]⟩ : ByteArray).size = 7 := rfl; rw [hF2]; omega
  have HF2 := Lib.hid hF2
  rw [← hF2]
  obtain ⟨F3, hF3⟩ : ∃ X, X = addIf a F2 ⟨#[32, 97, 109, 101, 110, 100]⟩ := ⟨_, rfl⟩
  have zF3 : F3.size ≤ 79 := by have := addIf_size a F2 ⟨#[32, 97, 109, 101, 110, 100]⟩; have e : (⟨#[32, 97, 109, 101, 110, 100]⟩ : ByteArray).size = 6 := rfl; rw [hF3]; omega
  have HF3 := Lib.hid hF3
  rw [← hF3]
  clear hok HL hF1 hF2 hF3
  go_enter Tryd.func27, Tryd.ntmps27
  go_wp2_with fail
  have HX := Lib.hid (LRule.box w ⟨i, nm, rk, s, d, a, nd⟩ 25)
  obtain ⟨x0, x1, x2, x3, x4, x5, x6⟩ := LRule.cells0 HX.out
  have hb := (Below.refl w.heap.size w).alloc (Nat.le_refl _) (Obj.cells #[.int .i64 i, .string nm, .int .i64 rk, .bool s, .bool d, .bool a, .int .i64 nd] 25)
  have hW : w.heap.size < (w.alloc (Obj.cells #[.int .i64 i, .string nm, .int .i64 rk, .bool s, .bool d, .bool a, .int .i64 nd] 25)).heap.size := by simp
  simp only at x0 x1 x2 x3 x4 x5 x6
  generalize (w.alloc (Obj.cells #[.int .i64 i, .string nm, .int .i64 rk, .bool s, .bool d, .bool a, .int .i64 nd] 25)) = W at *
  have HK := Lib.hid (show ∀ w' : World, Below W.heap.size W w' → Below W.heap.size W w' ∧ w'.cell? ⟨w.heap.size, 0, none⟩ = some (.int .i64 i) ∧ w'.cell? ⟨w.heap.size, 1, none⟩ = some (.string nm) ∧ w'.cell? ⟨w.heap.size, 2, none⟩ = some (.int .i64 rk) from fun w' hb => ⟨hb, by rw [hb.cell hW]; exact x0, by rw [hb.cell hW]; exact x1, by rw [hb.cell hW]; exact x2⟩)
  have f1 : ¬ (9223372036854775807 < (num i).size + 1) := by omega
  have f2 : ¬ (9223372036854775807 < (num i).size + 1 + nm.size) := by omega
  have f3 : ¬ (9223372036854775807 < (num i).size + 1 + nm.size + 6) := by omega
  have f4 : ¬ (9223372036854775807 < (num i).size + 1 + nm.size + 6 + (num rk).size) := by omega
  go_region_held3 (fun w' => Below W.heap.size W w' ∧ w'.cell? ⟨w.heap.size, 0, none⟩ = some (.int .i64 i) ∧ w'.cell? ⟨w.heap.size, 1, none⟩ = some (.string nm) ∧ w'.cell? ⟨w.heap.size, 2, none⟩ = some (.int .i64 rk)) ((refine HK.out _ ?_; (repeat (first | assumption | exact Below.refl _ _ | refine Below.drew ?_ | refine belowDN ?_ _ | refine Below.alloc ?_ (by first | (simp; done) | (simp; omega) | omega) _)))) (first | ((go_at_call 45; refine (numC _ _ (by omega) (by omega)).mono ?_; rintro e w1 ⟨rfl, hb1⟩; have hB1 : Below W.heap.size W w1 := Below.trans (by (repeat (first | assumption | exact Below.refl _ _ | refine Below.drew ?_ | refine belowDN ?_ _ | refine Below.alloc ?_ (by first | (simp; done) | (simp; omega) | omega) _))) (hb1.mono (by first | (simp; done) | (simp; omega) | omega)); have hz1 := hB1.size; clear hb1)) | fail)
  have HX1 := Lib.hid (HX.out.below LRule.rec hB1 hW)
  have hbw := hb.trans (hB1.mono hb.size)
  have hW1 : w.heap.size < w1.heap.size := Nat.lt_of_lt_of_le hW hB1.size
  clear x0 x1 x2 x3 x4 x5 x6 HK f1 f2 f3 f4
  obtain ⟨x0, x1, x2, x3, x4, x5, x6⟩ := LRule.cells0 HX1.out
  simp only at x0 x1 x2 x3 x4 x5 x6
  rw [HFr.out]
  clear HFr
  go_upto_if 17 with fail
  go_cut [3] (fun s3 wx => s3 = .string F1 ∧ w1 = wx)
  case first =>
    cases s
    all_goals (go_wp2_with fail; go_meet; exact ⟨by rw [HF1.out]; rfl, rfl⟩)
  case rest =>
  obtain ⟨rfl, rfl⟩ := hcut
  go_upto_if 21 with fail
  go_cut [3] (fun s3 wx => s3 = .string F2 ∧ w1 = wx)
  case first =>
    cases d
    all_goals (go_wp2_with fail; go_meet; exact ⟨by rw [HF2.out]; rfl, rfl⟩)
  case rest =>
  obtain ⟨rfl, rfl⟩ := hcut
  go_upto_if 25 with fail
  go_cut [3] (fun s3 wx => s3 = .string F3 ∧ w1 = wx)
  case first =>
    cases a
    all_goals (go_wp2_with fail; go_meet; exact ⟨by rw [HF3.out]; rfl, rfl⟩)
  case rest =>
  obtain ⟨rfl, rfl⟩ := hcut
  have HK := Lib.hid (show ∀ w' : World, Below w1.heap.size w1 w' → Below w1.heap.size w1 w' ∧ w'.cell? ⟨w.heap.size, 6, none⟩ = some (.int .i64 nd) from fun w' hb => ⟨hb, by rw [hb.cell hW1]; exact x6⟩)
  have f1 : ¬ (9223372036854775807 < F3.size + 4) := by omega
  have f2 : ¬ (9223372036854775807 < F3.size + 4 + 8) := by omega
  have f3 : ¬ (9223372036854775807 < F3.size + 4 + 10) := by omega
  have f4 : ¬ (9223372036854775807 < F3.size + 4 + 3) := by omega
  have hnd : nd = 1 ∨ nd = 2 ∨ nd = 3 := by omega
  clear x0 x1 x2 x3 x4 x5 HX HX1 HF1 HF2 HF3 zF1 zF2 hA hB hF
  rcases hnd with rfl | rfl | rfl
  · go_wp2_with fail
    go_region_with (go_at_call 46; refine (needs _).mono ?_; rintro e w2 ⟨rfl, rfl⟩)
    all_goals
      have hb2 := hbw.trans (((Below.refl w1.heap.size w1).drew.alloc (Nat.le_refl _) (.cells needCells 9)).mono hbw.size)
      go_wp2_with fail
      go_ret
      exact ⟨rfl, hb2⟩
  · go_wp2_with fail
    go_region_with (go_at_call 46; refine (needs _).mono ?_; rintro e w2 ⟨rfl, rfl⟩)
    all_goals
      have hb2 := hbw.trans (((Below.refl w1.heap.size w1).drew.alloc (Nat.le_refl _) (.cells needCells 9)).mono hbw.size)
      go_wp2_with fail
      go_ret
      exact ⟨rfl, hb2⟩
  · go_wp2_with fail
    go_region_with (go_at_call 46; refine (needs _).mono ?_; rintro e w2 ⟨rfl, rfl⟩)
    all_goals
      have hb2 := hbw.trans (((Below.refl w1.heap.size w1).drew.alloc (Nat.le_refl _) (.cells needCells 9)).mono hbw.size)
      go_wp2_with fail
      go_ret
      exact ⟨rfl, hb2⟩
end Go.Proofs.YtankaffhapcnaaaDoor.Line
namespace Go.Proofs.YtankaffhapcnaaaDoor.SplitMath
open Go

def splStep (c : UInt8) (p : List (List UInt8) × List UInt8) (b : UInt8) : List (List UInt8) × List UInt8 :=
  if b = c then (p.1 ++ [p.2], []) else (p.1, p.2 ++ [b])
/-- what is finished, and the piece in hand -/
def spl (l : List UInt8) (c : UInt8) : List (List UInt8) × List UInt8 := l.foldl (splStep c) ([], [])
def splitOf (l : List UInt8) (c : UInt8) : List (List UInt8) := (spl l c).1 ++ [(spl l c).2]
theorem spl_snoc (l : List UInt8) (c b : UInt8) : spl (l ++ [b]) c = splStep c (spl l c) b := by unfold spl; rw [List.foldl_append]; rfl
theorem spl_hit (l : List UInt8) (c : UInt8) : spl (l ++ [c]) c = ((spl l c).1 ++ [(spl l c).2], []) := by rw [spl_snoc]; unfold splStep; rw [if_pos rfl]
theorem spl_miss (l : List UInt8) (c b : UInt8) (h : b ≠ c) : spl (l ++ [b]) c = ((spl l c).1, (spl l c).2 ++ [b]) := by rw [spl_snoc]; unfold splStep; rw [if_neg h]
theorem spl_suffix (c : UInt8) : ∀ l : List UInt8, ∃ pre, l = pre ++ (spl l c).2 := by
  intro l
  have h : ∀ (n : Nat) (l : List UInt8), l.length = n → ∃ pre, l = pre ++ (spl l c).2 := by
    intro n
    induction n with
    | zero => intro l hl; exact ⟨[], by rw [List.length_eq_zero_iff.1 hl]; rfl⟩
    | succ n ih =>
      intro l hl
      rcases List.eq_nil_or_concat l with rfl | ⟨m, b, rfl⟩
      · simp at hl
      · obtain ⟨pre, hp⟩ := ih m (by simpa using hl)
        by_cases hb : b = c
        · subst hb; rw [List.concat_eq_append, spl_hit]; exact ⟨m ++ [b], by simp⟩
        · rw [List.concat_eq_append, spl_miss _ _ _ hb]; exact ⟨pre, by rw [← List.append_assoc, ← hp]⟩
  exact h l.length l rfl
theorem spl_count (c : UInt8) (l : List UInt8) : (spl l c).1.length ≤ l.length := by
  have h : ∀ (l : List UInt8) (p : List (List UInt8) × List UInt8), (l.foldl (splStep c) p).1.length ≤ p.1.length + l.length := by
    intro l
    induction l with
    | nil => intro p; simp
    | cons b l ih =>
      intro p
      have := ih (splStep c p b)
      have h2 : (splStep c p b).1.length ≤ p.1.length + 1 := by unfold splStep; split <;> simp
      rw [List.foldl_cons, List.length_cons]
      omega
  have := h l ([], [])
  simpa [spl] using this
theorem spl_cur_le (c : UInt8) (l : List UInt8) : (spl l c).2.length ≤ l.length := by
  obtain ⟨pre, h⟩ := spl_suffix c l
  have := congrArg List.length h
  rw [List.length_append] at this
  omega
/-- the piece in hand is a cut of the string -/
theorem spl_cur (c : UInt8) (l : List UInt8) (k : Nat) (hk : k ≤ l.length) :
    (l.drop (k - (spl (l.take k) c).2.length)).take (k - (k - (spl (l.take k) c).2.length)) = (spl (l.take k) c).2 := by
  obtain ⟨pre, h⟩ := spl_suffix c (l.take k)
  generalize (spl (l.take k) c).2 = cur at h ⊢
  have hl := congrArg List.length h
  rw [List.length_append, List.length_take, Nat.min_eq_left hk] at hl
  have e1 : k - cur.length = pre.length := by omega
  rw [e1]
  have e2 : l = pre ++ (cur ++ l.drop k) := by
    rw [← List.append_assoc, ← h, List.take_append_drop]
  have e3 : k - pre.length = cur.length := by omega
  rw [e3]
  conv => lhs; rw [e2]
  rw [List.drop_left, List.take_left]
/-- the first piece -/
def first (l : List UInt8) (c : UInt8) : List UInt8 := l.takeWhile (fun b => b != c)
theorem fold_keep (c : UInt8) : ∀ (l : List UInt8) (p : List (List UInt8) × List UInt8), ∃ d', (l.foldl (splStep c) p).1 = p.1 ++ d' := by
  intro l
  induction l with
  | nil => intro p; exact ⟨[], by simp⟩
  | cons b l ih =>
    intro p
    rw [List.foldl_cons]
    obtain ⟨d', h⟩ := ih (splStep c p b)
    by_cases hb : b = c
    · have e : splStep c p b = (p.1 ++ [p.2], []) := by unfold splStep; rw [if_pos hb]
      rw [e] at h ⊢
      exact ⟨p.2 :: d', by rw [h]; simp⟩
    · have e : splStep c p b = (p.1, p.2 ++ [b]) := by unfold splStep; rw [if_neg hb]
      rw [e] at h ⊢
      exact ⟨d', h⟩
theorem head_aux (c : UInt8) : ∀ (l cur : List UInt8), ((l.foldl (splStep c) ([], cur)).1 ++ [(l.foldl (splStep c) ([], cur)).2])[0]? = some (cur ++ first l c) := by
  intro l
  induction l with
  | nil => intro cur; simp [first]
  | cons b l ih =>
    intro cur
    rw [List.foldl_cons]
    by_cases hb : b = c
    · have e : splStep c ([], cur) b = ([cur], []) := by unfold splStep; rw [if_pos hb]; rfl
      have hf : first (b :: l) c = [] := by unfold first; rw [List.takeWhile_cons, hb]; simp
      rw [e, hf]
      obtain ⟨d', h⟩ := fold_keep c l ([cur], [])
      rw [h]
      simp
    · have e : splStep c ([], cur) b = ([], cur ++ [b]) := by unfold splStep; rw [if_neg hb]
      have hf : first (b :: l) c = b :: first l c := by unfold first; rw [List.takeWhile_cons, if_pos (by simpa using hb)]
      rw [e, ih, hf]
      simp
theorem splitOf_head (l : List UInt8) (c : UInt8) : (splitOf l c)[0]? = some (first l c) := by
  have := head_aux c l []
  simpa [splitOf, spl] using this
theorem first_length (l : List UInt8) (c : UInt8) : (first l c).length ≤ l.length := by
  unfold first
  exact (List.takeWhile_prefix _).length_le
theorem first_has (l : List UInt8) (c : UInt8) : (first l c).contains c = false := by
  unfold first
  rw [List.contains_eq_any_beq]
  induction l with
  | nil => rfl
  | cons b l ih =>
    rw [List.takeWhile_cons]
    split
    · rename_i h
      rw [List.any_cons, ih, Bool.or_false]
      have : b ≠ c := by simpa using h
      simp
      exact fun e => this e.symm
    · rfl
theorem index_first (l : List UInt8) (c : UInt8) : (0 ≤ Lib.indexByte l c → l.take (Lib.indexByte l c).toNat = first l c) ∧ (¬ 0 ≤ Lib.indexByte l c → first l c = l) := by
  induction l with
  | nil => simp [first]
  | cons b l ih =>
    have hge := Lib.indexByte_ge l c
    by_cases hb : b = c
    · subst hb
      have e : Lib.indexByte (b :: l) b = 0 := by simp [Lib.indexByte]
      rw [e]
      simp [first]
    · have hf : first (b :: l) c = b :: first l c := by unfold first; rw [List.takeWhile_cons, if_pos (by simpa using hb)]
      by_cases h0 : 0 ≤ Lib.indexByte l c
      · have e : Lib.indexByte (b :: l) c = Lib.indexByte l c + 1 := by
          simp only [Lib.indexByte]
          simp [hb]
          omega
        rw [e, hf]
        refine ⟨fun _ => ?_, fun h => absurd (by omega) h⟩
        have : (Lib.indexByte l c + 1).toNat = (Lib.indexByte l c).toNat + 1 := by omega
        rw [this, List.take_succ_cons, ih.1 h0]
      · have e : Lib.indexByte (b :: l) c = -1 := by
          simp only [Lib.indexByte]
          simp [hb]
          omega
        rw [e, hf]
        refine ⟨fun h => absurd h (by omega), fun _ => ?_⟩
        rw [ih.2 h0]
end Go.Proofs.YtankaffhapcnaaaDoor.SplitMath
namespace Go.Proofs.YtankaffhapcnaaaDoor.SplitMath
open Go

theorem fold_prefix (c : UInt8) : ∀ (l : List UInt8) (d : List (List UInt8)) (cur : List UInt8), l.foldl (splStep c) (d, cur) = (d ++ (l.foldl (splStep c) ([], cur)).1, (l.foldl (splStep c) ([], cur)).2) := by
  intro l
  induction l with
  | nil => intro d cur; simp
  | cons b l ih =>
    intro d cur
    rw [List.foldl_cons, List.foldl_cons]
    by_cases hb : b = c
    · have e1 : splStep c (d, cur) b = (d ++ [cur], []) := by unfold splStep; rw [if_pos hb]
      have e2 : splStep c ([], cur) b = ([cur], []) := by unfold splStep; rw [if_pos hb]; rfl
      rw [e1, e2, ih (d ++ [cur]) [], ih [cur] []]
      simp
    · have e1 : splStep c (d, cur) b = (d, cur ++ [b]) := by unfold splStep; rw [if_neg hb]
      have e2 : splStep c ([], cur) b = ([], cur ++ [b]) := by unfold splStep; rw [if_neg hb]
      rw [e1, e2, ih d (cur ++ [b])]
theorem fold_none (c : UInt8) : ∀ (l cur : List UInt8), (∀ b ∈ l, b ≠ c) → l.foldl (splStep c) ([], cur) = ([], cur ++ l) := by
  intro l
  induction l with
  | nil => intro cur _; simp
  | cons b l ih =>
    intro cur h
    rw [List.foldl_cons]
    have e : splStep c ([], cur) b = ([], cur ++ [b]) := by unfold splStep; rw [if_neg (h b (by simp))]
    rw [e, ih _ (fun d hd => h d (by simp [hd]))]
    simp
theorem splitOf_none (l : List UInt8) (c : UInt8) (h : ∀ b ∈ l, b ≠ c) : splitOf l c = [l] := by
  unfold splitOf spl
  rw [fold_none c l [] h]
  simp
theorem splitOf_cut (a b : List UInt8) (c : UInt8) (h : ∀ x ∈ a, x ≠ c) : splitOf (a ++ c :: b) c = a :: splitOf b c := by
  unfold splitOf spl
  rw [List.foldl_append, fold_none c a [] h, List.foldl_cons]
  have e : splStep c ([], [] ++ a) c = ([a], []) := by unfold splStep; rw [if_pos rfl]; simp
  rw [e, fold_prefix c b [a] []]
  simp
theorem splitOf_at (l : List UInt8) (c : UInt8) (i : Nat) (hi : i < l.length) (h : ∀ x ∈ l.take i, x ≠ c) (hc : l[i] = c) : splitOf l c = l.take i :: splitOf (l.drop (i + 1)) c := by
  have e : l = l.take i ++ c :: l.drop (i + 1) := by
    rw [← hc, List.getElem_cons_drop, List.take_append_drop]
  conv => lhs; rw [e]
  exact splitOf_cut _ _ _ h
theorem splitOf_length (l : List UInt8) (c : UInt8) : (splitOf l c).length ≤ l.length + 1 := by
  have := spl_count c l
  unfold splitOf
  simp
  exact this
end Go.Proofs.YtankaffhapcnaaaDoor.SplitMath
namespace Go.Proofs.YtankaffhapcnaaaDoor.NumMath
open Go

/-- a digit -/
def isD (c : UInt8) : Bool := decide (48 ≤ c.toNat ∧ c.toNat ≤ 57)
/-- the number that a row of digits spells -/
def val (l : List UInt8) : Nat := l.foldl (fun n c => 10 * n + (c.toNat - 48)) 0
theorem val_snoc (l : List UInt8) (c : UInt8) : val (l ++ [c]) = 10 * val l + (c.toNat - 48) := by unfold val; rw [List.foldl_append]; rfl
theorem fold_lt : ∀ (l : List UInt8) (a : Nat), (∀ c ∈ l, isD c = true) → l.foldl (fun n c => 10 * n + (c.toNat - 48)) a < (a + 1) * 10 ^ l.length := by
  intro l
  induction l with
  | nil => intro a _; simp
  | cons c l ih =>
    intro a h
    have h2 := h c (by simp)
    simp only [isD, decide_eq_true_eq] at h2
    have h1 := ih (10 * a + (c.toNat - 48)) (fun d hd => h d (by simp [hd]))
    rw [List.foldl_cons, List.length_cons, Nat.pow_succ]
    refine Nat.lt_of_lt_of_le h1 ?_
    have : (10 * a + (c.toNat - 48) + 1) * 10 ^ l.length ≤ (10 * (a + 1)) * 10 ^ l.length := Nat.mul_le_mul_right _ (by omega)
    refine Nat.le_trans this (Nat.le_of_eq ?_)
    rw [Nat.mul_comm 10 (a + 1), Nat.mul_assoc, Nat.mul_comm 10]
theorem val_lt (l : List UInt8) (h : ∀ c ∈ l, isD c = true) : val l < 10 ^ l.length := by
  have := fold_lt l 0 h
  simpa [val] using this
theorem digit_ofNat (d : Nat) (h : d < 10) : (UInt8.ofNat (48 + d)).toNat = 48 + d := by
  rw [UInt8.toNat_ofNat']; omega
theorem dd_rec (u : Nat) (h : ¬ u < 10) : Lib.decDigits u = Lib.decDigits (u / 10) ++ [UInt8.ofNat (48 + u % 10)] := by
  rw [Lib.decDigits, dif_neg h]
theorem dd_all (u : Nat) : ∀ c ∈ Lib.decDigits u, isD c = true := by
  induction u using Nat.strongRecOn with
  | _ u ih =>
    by_cases h : u < 10
    · rw [Lib.decDigits_one h]
      intro c hc
      simp only [List.mem_singleton] at hc
      subst hc
      simp only [isD, decide_eq_true_eq, digit_ofNat u h]
      omega
    · rw [dd_rec u h]
      intro c hc
      rcases List.mem_append.1 hc with hc | hc
      · exact ih (u / 10) (by omega) c hc
      · simp only [List.mem_singleton] at hc
        subst hc
        simp only [isD, decide_eq_true_eq, digit_ofNat (u % 10) (by omega)]
        omega
theorem dd_val (u : Nat) : val (Lib.decDigits u) = u := by
  induction u using Nat.strongRecOn with
  | _ u ih =>
    by_cases h : u < 10
    · rw [Lib.decDigits_one h]
      simp only [val, List.foldl_cons, List.foldl_nil, digit_ofNat u h]
      omega
    · rw [dd_rec u h, val_snoc, ih (u / 10) (by omega), digit_ofNat (u % 10) (by omega)]
      omega
theorem dd_len_pos (u : Nat) : 1 ≤ (Lib.decDigits u).length := by rw [Lib.decDigits_length]; exact Lib.nDigits_pos u
theorem nDigits_le : ∀ (k u : Nat), 1 ≤ k → u < 10 ^ k → Lib.nDigits u ≤ k := by
  intro k
  induction k with
  | zero => intro u h; omega
  | succ k ih =>
    intro u _ hu
    by_cases h : u < 10
    · rw [Lib.nDigits_small h]; omega
    · rw [Lib.nDigits_big h]
      have : u / 10 < 10 ^ k := by rw [Nat.pow_succ] at hu; omega
      by_cases hk : 1 ≤ k
      · have := ih (u / 10) hk this; omega
      · have : k = 0 := by omega
        subst this
        simp at hu
        omega
theorem dd_len6 (u : Nat) (h : u ≤ 999999) : (Lib.decDigits u).length ≤ 6 := by
  rw [Lib.decDigits_length]; exact nDigits_le 6 u (by omega) (by omega)
theorem decFrom_dd : ∀ (l : List UInt8) (acc : Nat), (∀ c ∈ l, isD c = true) → Lib.decFrom acc l = some (l.foldl (fun n c => 10 * n + (c.toNat - 48)) acc) := by
  intro l
  induction l with
  | nil => intro acc _; rfl
  | cons c l ih =>
    intro acc h
    have h1 := h c (by simp)
    simp only [isD, decide_eq_true_eq] at h1
    simp only [Lib.decFrom, Lib.digitVal, if_pos h1, List.foldl_cons]
    rw [ih _ (fun d hd => h d (by simp [hd]))]
    rw [Nat.mul_comm acc 10]
theorem decNat_dd (u : Nat) : Lib.decNat (Lib.decDigits u) = some u := by
  unfold Lib.decNat
  have := dd_len_pos u
  rw [if_neg (by rw [List.isEmpty_iff]; intro e; rw [e] at this; simp at this)]
  rw [decFrom_dd _ _ (dd_all u)]
  exact congrArg some (dd_val u)
theorem dd_head (u : Nat) : ∃ c r, Lib.decDigits u = c :: r ∧ isD c = true := by
  have h := dd_len_pos u
  cases e : Lib.decDigits u with
  | nil => rw [e] at h; simp at h
  | cons c r => exact ⟨c, r, rfl, dd_all u c (by rw [e]; simp)⟩
theorem atoi_itoa (v : Int) : Lib.atoi (Lib.itoa v) = some v := by
  by_cases h : v < 0
  · unfold Lib.itoa
    rw [if_pos h]
    simp only [Lib.atoi, beq_self_eq_true, if_true, decNat_dd, Option.map_some]
    congr 1
    omega
  · unfold Lib.itoa
    rw [if_neg h]
    obtain ⟨c, r, e, hc⟩ := dd_head v.toNat
    have hd := decNat_dd v.toNat
    rw [e] at hd ⊢
    simp only [isD, decide_eq_true_eq] at hc
    have n45 : (c == 45) = false := by rw [beq_eq_false_iff_ne]; rintro rfl; revert hc; decide
    have n43 : (c == 43) = false := by rw [beq_eq_false_iff_ne]; rintro rfl; revert hc; decide
    simp only [Lib.atoi, n45, n43, hd]
    show some ((v.toNat : Nat) : Int) = _
    congr 1
    omega

/-- The string is the numeral of v, which lies within the bounds. -/
def Numeral (l : List UInt8) (v : Int) : Prop := -999999 ≤ v ∧ v ≤ 999999 ∧ Lib.itoa v = l
theorem itoa_len7 (v : Int) (h0 : -999999 ≤ v) (h1 : v ≤ 999999) : (Lib.itoa v).length ≤ 7 := by
  unfold Lib.itoa
  split
  · rw [List.length_cons]; have := dd_len6 v.natAbs (by omega); omega
  · have := dd_len6 v.toNat (by omega); omega
theorem Numeral.atoi {l : List UInt8} {v : Int} (h : Numeral l v) : Lib.atoiAll l = .ok v := by
  obtain ⟨h0, h1, rfl⟩ := h
  rw [Lib.atoiAll_short _ (by have := itoa_len7 v h0 h1; omega), atoi_itoa]
  rfl
theorem Numeral.uniq {l : List UInt8} {v v' : Int} (h : Numeral l v) (h' : Numeral l v') : v = v' := by
  have := h.atoi.symm.trans h'.atoi
  injection this

/-- what stands behind the sign -/
def neg (l : List UInt8) : Bool := decide (1 < l.length) && (l.head? == some 45)
def strip (l : List UInt8) : List UInt8 := if neg l = true then l.tail else l
def signed (l : List UInt8) (n : Nat) : Int := if neg l = true then -(n : Int) else n
theorem good_strip {l : List UInt8} {v : Int} (h : Numeral l v) : strip l = Lib.decDigits v.natAbs ∧ signed l v.natAbs = v ∧ v.natAbs ≤ 999999 := by
  obtain ⟨h0, h1, rfl⟩ := h
  refine ⟨?_, ?_, by omega⟩
  · by_cases hv : v < 0
    · have e : Lib.itoa v = 45 :: Lib.decDigits v.natAbs := by unfold Lib.itoa; rw [if_pos hv]
      have hl := dd_len_pos v.natAbs
      have hn : neg (45 :: Lib.decDigits v.natAbs) = true := by
        unfold neg
        rw [List.length_cons, decide_eq_true (by omega)]
        rfl
      rw [e]; unfold strip; rw [if_pos hn]; rfl
    · have e : Lib.itoa v = Lib.decDigits v.natAbs := by
        unfold Lib.itoa; rw [if_neg hv]
        have : v.toNat = v.natAbs := by omega
        rw [this]
      have hn : ¬ neg (Lib.decDigits v.natAbs) = true := by
        obtain ⟨c, r, e, hc⟩ := dd_head v.natAbs
        unfold neg
        rw [e]
        intro hh
        simp only [isD, decide_eq_true_eq] at hc
        simp at hh
        rw [hh.2] at hc
        revert hc; decide
      rw [e]; unfold strip; rw [if_neg hn]
  · by_cases hv : v < 0
    · have e : Lib.itoa v = 45 :: Lib.decDigits v.natAbs := by unfold Lib.itoa; rw [if_pos hv]
      have hl := dd_len_pos v.natAbs
      have hn : neg (45 :: Lib.decDigits v.natAbs) = true := by
        unfold neg
        rw [List.length_cons, decide_eq_true (by omega)]
        rfl
      rw [e]; unfold signed; rw [if_pos hn]; omega
    · have e : Lib.itoa v = Lib.decDigits v.natAbs := by
        unfold Lib.itoa; rw [if_neg hv]
        have : v.toNat = v.natAbs := by omega
        rw [this]
      have hn : ¬ neg (Lib.decDigits v.natAbs) = true := by
        obtain ⟨c, r, e, hc⟩ := dd_head v.natAbs
        unfold neg
        rw [e]
        intro hh
        simp only [isD, decide_eq_true_eq] at hc
        simp at hh
        rw [hh.2] at hc
        revert hc; decide
      rw [e]; unfold signed; rw [if_neg hn]; omega

/-- Closing lemmas of the model's loop. -/
theorem bad_len {l : List UInt8} (h : (strip l).length < 1 ∨ 6 < (strip l).length) : ∀ v, ¬ Numeral l v := by
  intro v hg
  obtain ⟨e, _, hb⟩ := good_strip hg
  rw [e] at h
  have h1 := dd_len_pos v.natAbs
  have h2 := dd_len6 v.natAbs hb
  omega
theorem bad_digit {l : List UInt8} {c : UInt8} (hc : c ∈ strip l) (h : ¬ isD c = true) : ∀ v, ¬ Numeral l v := by
  intro v hg
  obtain ⟨e, _, _⟩ := good_strip hg
  rw [e] at hc
  exact h (dd_all _ c hc)
theorem bad_end {l : List UInt8} (h : Lib.itoa (signed l (val (strip l))) ≠ l) : ∀ v, ¬ Numeral l v := by
  intro v hg
  obtain ⟨e, es, _⟩ := good_strip hg
  rw [e, dd_val, es] at h
  exact h hg.2.2
theorem good_end {l : List UInt8} (hl : (strip l).length ≤ 6) (hd : ∀ c ∈ strip l, isD c = true) (h : Lib.itoa (signed l (val (strip l))) = l) : Numeral l (signed l (val (strip l))) := by
  have h1 := val_lt _ hd
  have h2 : val (strip l) < 10 ^ 6 := Nat.lt_of_lt_of_le h1 (Nat.pow_le_pow_right (by omega) hl)
  refine ⟨?_, ?_, h⟩ <;> (unfold signed; split <;> omega)
end Go.Proofs.YtankaffhapcnaaaDoor.NumMath
namespace Go.Proofs.YtankaffhapcnaaaDoor.PRule
open Go SplitMath NumMath
set_option linter.unusedVariables false

/-- words that are joined are split again -/
theorem split_join (c : UInt8) : ∀ (r : List (List UInt8)) (x : List UInt8), (∀ y ∈ x :: r, ∀ b ∈ y, b ≠ c) → splitOf (x ++ Lib.joinTail [c] r) c = x :: r
  | [], x, h => by
    have e : x ++ Lib.joinTail [c] [] = x := by simp [Lib.joinTail]
    rw [e]
    exact splitOf_none x c (h x (by simp))
  | y :: r, x, h => by
    have e : x ++ Lib.joinTail [c] (y :: r) = x ++ c :: (y ++ Lib.joinTail [c] r) := by simp [Lib.joinTail]
    rw [e, splitOf_cut x _ c (h x (by simp)), split_join c r y (fun z hz => h z (by simp only [List.mem_cons] at hz ⊢; exact .inr hz))]

def wSec : List UInt8 := [115, 101, 99, 111, 110, 100]
def wDeb : List UInt8 := [100, 101, 98, 97, 116, 101]
def wAm : List UInt8 := [97, 109, 101, 110, 100]
def wBy : List UInt8 := [98, 121]
def wRank : List UInt8 := [114, 97, 110, 107]
def wIf (b : Bool) (x : List UInt8) : List (List UInt8) := match b with
  | true => [x]
  | false => []
def wNeed (n : Int) : List UInt8 := (Valid.needS n).data.toList
/-- the words behind the rank -/
def traits (r : LRule.R) : List (List UInt8) := wIf r.sec wSec ++ (wIf r.deb wDeb ++ wIf r.am wAm)
def wordsR (r : LRule.R) : List (List UInt8) := Lib.itoa r.id :: r.name.data.toList :: wRank :: Lib.itoa r.rank :: (traits r ++ [wBy, wNeed r.need])

theorem num_list (n : Int) : (Line.num n).data.toList = Lib.itoa n := by unfold Line.num; rfl
theorem need_cases {r : LRule.R} (h : Rule.okB r = true) : r.need = 1 ∨ r.need = 2 ∨ r.need = 3 := by
  have := Line.ok_parts h
  omega
theorem line_join (r : LRule.R) : (Line.lineB r).data.toList = Lib.itoa r.id ++ Lib.joinTail [32] (r.name.data.toList :: wRank :: Lib.itoa r.rank :: (traits r ++ [wBy, wNeed r.need])) := by
  obtain ⟨i, nm, rk, s, d, a, nd⟩ := r
  cases s <;> cases d <;> cases a <;>
    simp [Line.lineB, Line.mid, Line.addIf, Line.front, ByteArray.data_append, num_list, traits, wIf, Lib.joinTail, wSec, wDeb, wAm, wBy, wRank, wNeed]
theorem itoa_clean (n : Int) (h : 0 ≤ n) : ∀ b ∈ Lib.itoa n, b ≠ 32 := by
  have e : Lib.itoa n = Lib.decDigits n.toNat := by unfold Lib.itoa; rw [if_neg (by omega)]
  rw [e]
  intro b hb
  have := dd_all _ b hb
  rintro rfl
  revert this
  decide
theorem word_clean {s : ByteArray} (h : Rule.isWordB s = true) : ∀ b ∈ s.data.toList, b ≠ 32 := by
  unfold Rule.isWordB at h
  simp only [Bool.and_eq_true] at h
  have h2 := h.2
  unfold Rule.allAz at h2
  rw [List.all_eq_true] at h2
  intro b hb
  have := h2 b hb
  rintro rfl
  revert this
  decide
theorem ok_word {r : LRule.R} (h : Rule.okB r = true) : Rule.isWordB r.name = true := (of_decide_eq_true h).2.1
theorem need_clean {n : Int} (h : n = 1 ∨ n = 2 ∨ n = 3) : ∀ b ∈ wNeed n, b ≠ 32 := by
  rcases h with rfl | rfl | rfl <;> decide
theorem traits_clean (r : LRule.R) : ∀ y ∈ traits r, ∀ b ∈ y, b ≠ 32 := by
  obtain ⟨i, nm, rk, s, d, a, nd⟩ := r
  cases s <;> cases d <;> cases a <;> (simp only [traits]; decide)
theorem words_clean {r : LRule.R} (h : Rule.okB r = true) : ∀ y ∈ wordsR r, ∀ b ∈ y, b ≠ 32 := by
  obtain ⟨h1, h2, h3, h4, h5, h6, h7⟩ := Line.ok_parts h
  intro y hy
  simp only [wordsR, List.mem_cons, List.mem_append, List.not_mem_nil, or_false] at hy
  rcases hy with rfl | rfl | rfl | rfl | hy | rfl | rfl
  · exact itoa_clean _ (by omega)
  · exact word_clean (ok_word h)
  · decide
  · exact itoa_clean _ (by omega)
  · exact traits_clean r y hy
  · decide
  · exact need_clean (need_cases h)
/-- the words of a valid rule's line -/
theorem split_line {r : LRule.R} (h : Rule.okB r = true) : splitOf (Line.lineB r).data.toList 32 = wordsR r := by
  rw [line_join]
  exact split_join 32 _ _ (words_clean h)

/-- one word behind the rank, as the program takes it -/
def needOf (w : List UInt8) (n : Int) : Int := if w = wNeed 3 then 3 else if w = wNeed 2 then 2 else if w = wNeed 1 then 1 else n
def trait (r : LRule.R) (w : List UInt8) : LRule.R :=
  if w = wSec then { r with sec := true } else if w = wDeb then { r with deb := true } else if w = wAm then { r with am := true } else r
def withT (r : LRule.R) (w : List UInt8) : LRule.R := { trait r w with need := needOf w (trait r w).need }
/-- the program's reading of the words behind the rank -/
def readF (i : Int) (nm : ByteArray) (rk : Int) (ws : List (List UInt8)) : LRule.R := ws.foldl withT ⟨i, nm, rk, false, false, false, 0⟩
/-- the model's reading of the traits; the last word tells the need -/
def readG (i : Int) (nm : ByteArray) (rk : Int) (ws : List (List UInt8)) (last : List UInt8) : LRule.R := ws.foldl trait ⟨i, nm, rk, false, false, false, needOf last 0⟩
theorem readF_words {r : LRule.R} (h : Rule.okB r = true) : readF r.id r.name r.rank ((wordsR r).drop 4) = r := by
  have hn := need_cases h
  obtain ⟨i, nm, rk, s, d, a, nd⟩ := r
  simp only at hn
  rcases hn with rfl | rfl | rfl <;> cases s <;> cases d <;> cases a <;> rfl
theorem len_words (r : LRule.R) : (wordsR r).length = 6 + (traits r).length ∧ (traits r).length ≤ 3 := by
  obtain ⟨i, nm, rk, s, d, a, nd⟩ := r
  cases s <;> cases d <;> cases a <;> exact ⟨rfl, by simp [traits, wIf]⟩
theorem readG_words {r : LRule.R} (h : Rule.okB r = true) : readG r.id r.name r.rank (((wordsR r).drop 4).take ((wordsR r).length - 6)) (wNeed r.need) = r := by
  have hn := need_cases h
  obtain ⟨i, nm, rk, s, d, a, nd⟩ := r
  simp only at hn
  rcases hn with rfl | rfl | rfl <;> cases s <;> cases d <;> cases a <;> rfl
theorem last_word (r : LRule.R) : (wordsR r)[(wordsR r).length - 1]? = some (wNeed r.need) := by
  obtain ⟨i, nm, rk, s, d, a, nd⟩ := r
  cases s <;> cases d <;> cases a <;> rfl
theorem num_id {r : LRule.R} (h : Rule.okB r = true) : Numeral (Lib.itoa r.id) r.id ∧ Numeral (Lib.itoa r.rank) r.rank := by
  obtain ⟨h1, h2, h3, h4, h5, h6, h7⟩ := Line.ok_parts h
  exact ⟨⟨by omega, by omega, rfl⟩, ⟨by omega, by omega, rfl⟩⟩
theorem itoa_len (k : Nat) (n : Int) (h0 : 0 ≤ n) (hk : 1 ≤ k) (h1 : n.toNat < 10 ^ k) : (Lib.itoa n).length ≤ k := by
  have e : Lib.itoa n = Lib.decDigits n.toNat := by unfold Lib.itoa; rw [if_neg (by omega)]
  rw [e, Lib.decDigits_length]
  exact nDigits_le k _ hk h1
/-- a valid rule's line is no longer than 54 bytes -/
theorem line_len {r : LRule.R} (h : Rule.okB r = true) : (Line.lineB r).size ≤ 54 := by
  obtain ⟨h1, h2, h3, h4, h5, h6, h7⟩ := Line.ok_parts h
  have hn := need_cases h
  obtain ⟨i, nm, rk, s, d, a, nd⟩ := r
  simp only at h1 h2 h3 h4 h5 hn
  have a1 : (Line.num i).size ≤ 2 := by
    have := itoa_len 2 i (by omega) (by omega) (by omega)
    show (Lib.itoa i).toArray.size ≤ 2
    simpa using this
  have a2 : (Line.num rk).size ≤ 1 := by
    have := itoa_len 1 rk (by omega) (by omega) (by omega)
    show (Lib.itoa rk).toArray.size ≤ 1
    simpa using this
  have z1 : (ByteArray.mk #[32]).size = 1 := rfl
  have z2 : (ByteArray.mk #[32, 114, 97, 110, 107, 32]).size = 6 := rfl
  have z3 : (ByteArray.mk #[32, 115, 101, 99, 111, 110, 100]).size = 7 := rfl
  have z4 : (ByteArray.mk #[32, 100, 101, 98, 97, 116, 101]).size = 7 := rfl
  have z5 : (ByteArray.mk #[32, 97, 109, 101, 110, 100]).size = 6 := rfl
  have z6 : (ByteArray.mk #[32, 98, 121, 32]).size = 4 := rfl
  have z7 : (Valid.needS nd).size ≤ 10 := by rcases hn with rfl | rfl | rfl <;> decide
  cases s <;> cases d <;> cases a <;>
    (simp only [Line.lineB, Line.mid, Line.addIf, Line.front, ByteArray.size_append]; omega)
/-- A text is the line of one valid rule at most. -/
theorem line_inj {r r' : LRule.R} (h : Rule.okB r = true) (h' : Rule.okB r' = true) (e : Line.lineB r = Line.lineB r') : r = r' := by
  have e2 := (split_line h).symm.trans ((congrArg (fun s : ByteArray => splitOf s.data.toList 32) e).trans (split_line h'))
  have f1 := readF_words h
  have f2 := readF_words h'
  have e3 : Lib.itoa r.id = Lib.itoa r'.id := congrArg (fun l => l.headD []) e2
  have e4 : r.name.data.toList = r'.name.data.toList := congrArg (fun l => (l.drop 1).headD []) e2
  have e5 : Lib.itoa r.rank = Lib.itoa r'.rank := congrArg (fun l => (l.drop 3).headD []) e2
  have i1 : r.id = r'.id := by have := (num_id h').1; rw [← e3] at this; exact (num_id h).1.uniq this
  have i2 : r.rank = r'.rank := by have := (num_id h').2; rw [← e5] at this; exact (num_id h).2.uniq this
  have i3 : r.name = r'.name := ByteArray.ext (Array.toList_inj.1 e4)
  rw [← f1, ← f2, i1, i2, i3, e2]
/-- The answer to a text: the valid rule whose line it is, or none. -/
def Ans (s : ByteArray) (r : LRule.R) (ok : Bool) : Prop :=
  (ok = true ∧ Rule.okB r = true ∧ Line.lineB r = s) ∨ ((ok = false ∧ r = ⟨0, ⟨#[]⟩, 0, false, false, false, 0⟩) ∧ ∀ q : LRule.R, Rule.okB q = true → Line.lineB q ≠ s)
theorem Ans.same {s : ByteArray} {r r' : LRule.R} {o o' : Bool} (h : Ans s r o) (h' : Ans s r' o') : r = r' ∧ o = o' := by
  rcases h with ⟨h1, h2, h3⟩ | ⟨⟨h1, h2⟩, h3⟩ <;> rcases h' with ⟨g1, g2, g3⟩ | ⟨⟨g1, g2⟩, g3⟩
  · exact ⟨line_inj h2 g2 (h3.trans g3.symm), by rw [h1, g1]⟩
  · exact absurd h3 (g3 _ h2)
  · exact absurd g3 (h3 _ g2)
  · exact ⟨by rw [h2, g2], by rw [h1, g1]⟩
/-- What a reading may go wrong with: it is then no valid rule's line. -/
theorem none_words {s : ByteArray} {ws : List (List UInt8)} (hw : splitOf s.data.toList 32 = ws) (h : ¬ (6 ≤ ws.length ∧ ws.length ≤ 9)) : ∀ q : LRule.R, Rule.okB q = true → Line.lineB q ≠ s := by
  rintro q hq rfl
  have := (split_line hq).symm.trans hw
  have hl := len_words q
  rw [this] at hl
  exact h (by omega)
theorem none_long {s : ByteArray} (h : 80 < s.size) : ∀ q : LRule.R, Rule.okB q = true → Line.lineB q ≠ s := by
  rintro q hq rfl
  have := line_len hq
  omega
theorem none_num {s : ByteArray} {ws : List (List UInt8)} {x y : List UInt8} (hw : splitOf s.data.toList 32 = ws) (hx : ws[0]? = some x) (hy : ws[3]? = some y) (h : (∀ v, ¬ Numeral x v) ∨ (∀ v, ¬ Numeral y v)) : ∀ q : LRule.R, Rule.okB q = true → Line.lineB q ≠ s := by
  rintro q hq rfl
  have e := (split_line hq).symm.trans hw
  rw [← e] at hx hy
  have e1 : Lib.itoa q.id = x := Option.some.inj hx
  have e2 : Lib.itoa q.rank = y := Option.some.inj hy
  have := num_id hq
  rcases h with h | h
  · exact h q.id (e1 ▸ this.1)
  · exact h q.rank (e2 ▸ this.2)
/-- The program's reading of a text finds the rule whose line it is. -/
theorem impl_found {s : ByteArray} {q : LRule.R} {i rk : Int} {nm : ByteArray} {x z y : List UInt8} {u : List (List UInt8)} (hw : splitOf s.data.toList 32 = x :: nm.data.toList :: z :: y :: u) (hi : Numeral x i ∨ ((∀ v, ¬ Numeral x v) ∧ i = 0)) (hr : Numeral y rk ∨ ((∀ v, ¬ Numeral y v) ∧ rk = 0)) (hq : Rule.okB q = true) (hl : Line.lineB q = s) : readF i nm rk u = q := by
  subst hl
  have e := (split_line hq).symm.trans hw
  simp only [wordsR, List.cons.injEq] at e
  obtain ⟨e1, e2, _, e4, e5⟩ := e
  have hn := num_id hq
  have i1 : i = q.id := by
    rcases hi with hi | ⟨hi, _⟩
    · rw [← e1] at hi; exact hi.uniq hn.1
    · exact absurd (e1 ▸ hn.1) (hi _)
  have i2 : rk = q.rank := by
    rcases hr with hr | ⟨hr, _⟩
    · rw [← e4] at hr; exact hr.uniq hn.2
    · exact absurd (e4 ▸ hn.2) (hr _)
  have i3 : nm = q.name := ByteArray.ext (Array.toList_inj.1 e2.symm)
  have f := readF_words hq
  have d : (wordsR q).drop 4 = u := e5
  rw [d] at f
  rw [i1, i2, i3, f]
theorem spec_found {s : ByteArray} {q : LRule.R} {i rk : Int} {nm : ByteArray} {x y last : List UInt8} {ws : List (List UInt8)} (hw : splitOf s.data.toList 32 = ws) (h0 : ws[0]? = some x) (h1 : ws[1]? = some nm.data.toList) (h3 : ws[3]? = some y) (hz : ws[ws.length - 1]? = some last) (hi : Numeral x i) (hr : Numeral y rk) (hq : Rule.okB q = true) (hl : Line.lineB q = s) : readG i nm rk ((ws.drop 4).take (ws.length - 6)) last = q := by
  subst hl
  have e := (split_line hq).symm.trans hw
  subst e
  have hn := num_id hq
  have e1 : Lib.itoa q.id = x := Option.some.inj h0
  have e2 : q.name.data.toList = nm.data.toList := Option.some.inj h1
  have e4 : Lib.itoa q.rank = y := Option.some.inj h3
  have e5 : wNeed q.need = last := Option.some.inj ((last_word q).symm.trans hz)
  have i1 : i = q.id := by rw [← e1] at hi; exact hi.uniq hn.1
  have i2 : rk = q.rank := by rw [← e4] at hr; exact hr.uniq hn.2
  have i3 : nm = q.name := ByteArray.ext (Array.toList_inj.1 e2.symm)
  have f := readG_words hq
  rw [e5] at f
  rw [i1, i2, i3, f]
/-- Closing lemma of both: what was read is a valid rule with this line, or there is none. -/
theorem ans_yes {s : ByteArray} {r : LRule.R} (h : Rule.okB r = true) (hl : Line.lineB r = s) : Ans s r true := .inl ⟨rfl, h, hl⟩
theorem ans_no {s : ByteArray} {r : LRule.R} (hf : ∀ q : LRule.R, Rule.okB q = true → Line.lineB q = s → r = q) (h : ¬ (Rule.okB r = true ∧ Line.lineB r = s)) : Ans s ⟨0, ⟨#[]⟩, 0, false, false, false, 0⟩ false :=
  .inr ⟨⟨rfl, rfl⟩, fun q hq hl => h (by rw [hf q hq hl]; exact ⟨hq, hl⟩)⟩
theorem ans_none {s : ByteArray} (h : ∀ q : LRule.R, Rule.okB q = true → Line.lineB q ≠ s) : Ans s ⟨0, ⟨#[]⟩, 0, false, false, false, 0⟩ false := .inr ⟨⟨rfl, rfl⟩, h⟩
end Go.Proofs.YtankaffhapcnaaaDoor.PRule
namespace Go.Proofs.YtankaffhapcnaaaDoor.RuleC
open Go.RowKit Bs
set_option linter.unusedVariables false
theorem rules {w : World} {a : Option Addr} {c : Nat} {xs : List Rule.R} (h : RowsAt LRule.rec w a c xs) : Rule.RulesAt w a c xs := by
  obtain ⟨h1, h2, h3⟩ := h
  refine ⟨h1, h2, ?_⟩
  rcases h3 with h3 | ⟨b, o, rfl, hl, hc⟩
  · exact .inl h3
  · exact .inr ⟨b, o, rfl, hl, fun j r hr => LRule.cells (hc j r hr)⟩
theorem fine {xs : List Rule.R} (h : ∀ x ∈ xs, LRule.Fine x) : ∀ x ∈ xs, x.name.size ≤ maxLen := h
end Go.Proofs.YtankaffhapcnaaaDoor.RuleC
namespace Go.Proofs.YtankaffhapcnaaaDoor.Gd
open Go.RowKit Rule
set_option linter.unusedVariables false

/-- the rule at place i is valid, its id is greater than that of its neighbour, its name is new -/
def Step (xs : List R) (i : Nat) : Prop := ∃ r, xs[i]? = some r ∧ okB r = true ∧ (∀ p, 0 < i → xs[i - 1]? = some p → p.id < r.id) ∧ ∀ k q, k < i → xs[k]? = some q → q.name ≠ r.name
def GoodP (xs : List R) : Prop := xs.length ≤ 8 ∧ ∀ i, i < xs.length → Step xs i
open Classical in
noncomputable def goodB (xs : List R) : Bool := decide (GoodP xs)
open Classical in
theorem good_yes {xs : List R} (h : GoodP xs) : goodB xs = true := decide_eq_true h
open Classical in
theorem good_no {xs : List R} (h : ¬ GoodP xs) : goodB xs = false := decide_eq_false h
open Classical in
theorem good_of {xs : List R} (h : goodB xs = true) : GoodP xs := of_decide_eq_true h
theorem no_step {xs : List R} {i : Nat} (hi : i < xs.length) (h : ¬ Step xs i) : goodB xs = false := good_no fun g => h (g.2 i hi)
theorem no_ok {xs : List R} {i : Nat} (hi : i < xs.length) (h : okB xs[i] = false) : goodB xs = false := no_step hi fun ⟨r, hr, ho, _⟩ => by
  rw [List.getElem?_eq_getElem hi] at hr
  rw [← Option.some.inj hr, h] at ho
  cases ho
theorem no_id {xs : List R} {i : Nat} (hi : i < xs.length) (h0 : 0 < i) (h : ¬ (xs[i - 1]).id < (xs[i]).id) : goodB xs = false := no_step hi fun ⟨r, hr, _, ho, _⟩ => by
  rw [List.getElem?_eq_getElem hi] at hr
  have := ho _ h0 (List.getElem?_eq_getElem (by omega))
  rw [← Option.some.inj hr] at this
  exact h this
theorem no_name {xs : List R} {i k : Nat} (hi : i < xs.length) (hk : k < i) (h : (xs[k]).name = (xs[i]).name) : goodB xs = false := no_step hi fun ⟨r, hr, _, _, ho⟩ => by
  rw [List.getElem?_eq_getElem hi] at hr
  have := ho k _ hk (List.getElem?_eq_getElem (by omega))
  rw [← Option.some.inj hr] at this
  exact this h
theorem no_len {xs : List R} (h : 8 < xs.length) : goodB xs = false := good_no fun g => by have := g.1; omega
theorem step_mk {xs : List R} {i : Nat} (hi : i < xs.length) (h1 : okB xs[i] = true) (h2 : (h0 : 0 < i) → (xs[i - 1]).id < (xs[i]).id) (h3 : ∀ k (hk : k < i), (xs[k]).name ≠ (xs[i]).name) : Step xs i :=
  ⟨xs[i], List.getElem?_eq_getElem hi, h1, fun p h0 hp => by rw [List.getElem?_eq_getElem (by omega)] at hp; rw [← Option.some.inj hp]; exact h2 h0,
    fun k q hk hq => by rw [List.getElem?_eq_getElem (by omega)] at hq; rw [← Option.some.inj hq]; exact h3 k hk⟩
theorem single_as (r : R) (b : Bool) (h : okB r = b) (hs : r.name.size ≤ maxLen) (w : World) :
    Calls Tryd.prog 26 #[.agg #[.int .i64 r.id, .string r.name, .int .i64 r.rank, .bool r.sec, .bool r.deb, .bool r.am, .int .i64 r.need]] w fun e w' => e = .returned (.bool b) ∧ Below w.heap.size w w' := by
  subst h; exact Valid.l2Single r w hs
theorem impl_as (r : R) (b : Bool) (h : okB r = b) (hs : r.name.size ≤ maxLen) (w : World) :
    Calls Tryd.prog 9 #[.agg #[.int .i64 r.id, .string r.name, .int .i64 r.rank, .bool r.sec, .bool r.deb, .bool r.am, .int .i64 r.need]] w fun e w' => e = .returned (.bool b) ∧ Below w.heap.size w w' := by
  subst h; exact Valid.implValid r w hs
def GoodPost (xs : List R) (w : World) (e : Ending) (w' : World) : Prop := e = .returned (.bool (goodB xs)) ∧ Below w.heap.size w w'
theorem seen_bad {xs : List R} {w w' : World} (h : goodB xs = false) (hb : Below w.heap.size w w') : GoodPost xs w (.returned (.bool false)) w' := ⟨by rw [h], hb⟩
/-- facts of a rule in all worlds that only grew -/
theorem grown_cells {w : World} {b p : Nat} {r : R} (h : At w b p r) (hl : b < w.heap.size) : Hid (∀ d os, At (Sort.grow (redrawn w d) os) b p r) := fun d os => h.regrown hl d os

theorem no_name2 {xs : List R} {i k : Nat} {X P : R} (hi : xs[i]? = some X) (hp : xs[k]? = some P) (hk : k < i) (h : P.name = X.name) : goodB xs = false :=
  no_step (List.getElem?_eq_some_iff.1 hi).1 fun ⟨r, hr, _, _, ho⟩ => by
    rw [hi] at hr
    have := ho k _ hk hp
    rw [← Option.some.inj hr] at this
    exact this h
theorem steps_next {xs : List R} {k : Nat} (hs : ∀ i, i < k → Step xs i) (h : Step xs k) : ∀ i, i < k + 1 → Step xs i := fun i hi => by
  rcases Nat.lt_or_ge i k with h' | h'
  · exact hs i h'
  · rwa [show i = k by omega]
set_option maxHeartbeats 1600000 in
theorem l2Good (a : Option Addr) (n cp : Nat) (xs : List R) (w : World) (hn : xs.length = n) (h : RulesAt w a cp xs) (hsz : ∀ x ∈ xs, x.name.size ≤ maxLen) :
    Calls Tryd.prog 35 #[.slice a n cp] w (GoodPost xs w) := by
  have hc := h.at_
  obtain ⟨h1, h2, h3⟩ := h
  unfold maxLen at h2
  have HN := Lib.hid hn
  have HSZ := Lib.hid hsz
  have hnb : n ≤ cp := by omega
  have hle : n ≤ xs.length := by omega
  clear hn h1 h3 hsz
  go_enter Tryd.func35, Tryd.ntmps35
  go_wp2_with fail
  go_loopw [3] (fun i wr => ∃ k : Nat, k ≤ n ∧ i = .int .i64 k ∧ Below w.heap.size w wr ∧ Hid (∀ i, i < k → Step xs i)) (fun i _ => n - (intOf i).toNat)
  case atStart => exact ⟨0, Nat.zero_le _, rfl, Below.refl _ _, Lib.hid (fun i hi => by omega)⟩
  case round =>
    obtain ⟨k, hk, rfl, hb, HS⟩ := hrel
    by_cases hlt : k < n
    · by_cases h8 : k ≤ 8
      · have hx : k < xs.length := by omega
        obtain ⟨b, o, rfl, hbl, hcell0⟩ := hc.out k xs[k] (List.getElem?_eq_getElem hx)
        have hq := hcell0.below hb hbl
        have g1 := Nat.lt_of_lt_of_le hbl hb.size
        have hxs := Lib.hid (HSZ.out xs[k] (List.getElem_mem hx))
        have HG := grown_cells hq g1
        have HCX := Lib.hid hcell0
        have HX := Lib.hid (List.getElem?_eq_getElem hx)
        have k0 : 0 ≤ (k : Int) := by omega
        have k1 : (k : Int) < (n : Int) := by omega
        clear hcell0 hq
        cases hok : okB xs[k] with
        | false =>
          have HB := Lib.hid (no_ok hx hok)
          have HC := Lib.hid (fun W => single_as xs[k] false hok hxs.out W)
          clear hok
          generalize xs[k] = X at *
          have c0 := fun d os => (HG.out d os).1
          have c1 := fun d os => (HG.out d os).2.1
          have c2 := fun d os => (HG.out d os).2.2.1
          have c3 := fun d os => (HG.out d os).2.2.2.1
          have c4 := fun d os => (HG.out d os).2.2.2.2.1
          have c5 := fun d os => (HG.out d os).2.2.2.2.2.1
          have c6 := fun d os => (HG.out d os).2.2.2.2.2.2
          go_wp2_with fail
          refine wp_region_quiet_below (by kernel_rfl) (by kernel_rfl) ?_
          repeat (go_big_quiet_step ((go_at_call 26; exact Calls.regrown_of (HC.out _))))
          refine wpQuiet_nil ?_
          intro _ hw'
          obtain ⟨⟨dq, osq⟩, hw''⟩ := hw'
          subst hw''
          have hb2 : Below w.heap.size w (Sort.grow (redrawn wr dq) osq) := hb.trans ((below_regrown wr dq osq).mono hb.size)
          clear c0 c1 c2 c3 c4 c5 c6
          go_wp2_with fail
          go_ret
          exact seen_bad HB.out hb2
        | true =>
          have HOK := Lib.hid hok
          have HC := Lib.hid (fun W => single_as xs[k] true hok hxs.out W)
          clear hok
          by_cases hz : k = 0
          · have HID := Lib.hid (show ∀ p, 0 < k → xs[k - 1]? = some p → p.id < xs[k].id from fun p h0 => by omega)
            have hd : decide (0 < (k : Int)) = false := by simp; omega
            have hd2 : decide (0 < k) = false := by simp; omega
            clear hz
            generalize xs[k] = X at *
            have c0 := fun d os => (HG.out d os).1
            have c1 := fun d os => (HG.out d os).2.1
            have c2 := fun d os => (HG.out d os).2.2.1
            have c3 := fun d os => (HG.out d os).2.2.2.1
            have c4 := fun d os => (HG.out d os).2.2.2.2.1
            have c5 := fun d os => (HG.out d os).2.2.2.2.2.1
            have c6 := fun d os => (HG.out d os).2.2.2.2.2.2
            go_wp2_with fail
            refine wp_region_quiet_below (by kernel_rfl) (by kernel_rfl) ?_
            repeat (go_big_quiet_step ((go_at_call 26; exact Calls.regrown_of (HC.out _))))
            refine wpQuiet_nil ?_
            intro _ hw'
            obtain ⟨⟨dq, osq⟩, hw''⟩ := hw'
            subst hw''
            have hb2 : Below w.heap.size w (Sort.grow (redrawn wr dq) osq) := hb.trans ((below_regrown wr dq osq).mono hb.size)
            clear c0 c1 c2 c3 c4 c5 c6 HG hd hd2
            generalize Sort.grow (redrawn wr dq) osq = wo at *
            clear hb
            go_wp2_with fail
            go_loopw [4] (fun j ws => ∃ m : Nat, m ≤ k ∧ j = .int .i64 m ∧ Below w.heap.size w ws ∧ Hid (∀ q p, q < m → xs[q]? = some p → p.name ≠ X.name)) (fun j _ => k - (intOf j).toNat)
            case atStart => exact ⟨0, Nat.zero_le _, rfl, hb2, Lib.hid (fun q p hq => by omega)⟩
            case round =>
              clear hb2
              obtain ⟨m, hm, rfl, hbs, HM⟩ := hrel
              by_cases hmk : m < k
              · have hxm : m < xs.length := by omega
                obtain ⟨b', o', he, hbl', hcell1⟩ := hc.out m xs[m] (List.getElem?_eq_getElem hxm)
                simp only [Option.some.injEq, Addr.mk.injEq, and_true] at he
                obtain ⟨rfl, rfl⟩ := he
                have HP := Lib.hid (List.getElem?_eq_getElem hxm)
                have d1 := (hcell1.below hbs hbl).2.1
                have d2 := (HCX.out.below hbs hbl).2.1
                have m0 : 0 ≤ (m : Int) := by omega
                have m1 : (m : Int) < (n : Int) := by omega
                clear hcell1
                generalize xs[m] = P at *
                by_cases hname : P.name = X.name
                · have HB := Lib.hid (no_name2 HX.out HP.out hmk hname)
                  have hbe : (P.name.toList == X.name.toList) = true := by rw [hname]; simp
                  clear hname
                  go_wp2_with fail
                  go_quiet (fail)
                  have hb3 : Below w.heap.size w (wr.drewN nq) := hbs.trans ⟨rfl, rfl, rfl, Nat.le_refl _, fun _ _ => rfl⟩
                  go_wp2_with fail
                  go_ret
                  exact seen_bad HB.out hb3
                · have HM2 := Lib.hid (show ∀ q p, q < m + 1 → xs[q]? = some p → p.name ≠ X.name from fun q p hq hp => by
                    rcases Nat.lt_or_ge q m with h' | h'
                    · exact HM.out q p h' hp
                    · obtain rfl : q = m := by omega
                      rw [HP.out] at hp
                      rw [← Option.some.inj hp]
                      exact hname)
                  have hbe : (P.name.toList == X.name.toList) = false := by
                    rw [beq_eq_false_iff_ne]
                    intro e
                    rw [ByteArray.toList_eq, ByteArray.toList_eq] at e
                    exact hname (ByteArray.ext (Array.ext' e))
                  clear hname
                  go_wp2_with fail
                  go_quiet (fail)
                  have hb3 : Below w.heap.size w (wr.drewN nq) := hbs.trans ⟨rfl, rfl, rfl, Nat.le_refl _, fun _ _ => rfl⟩
                  go_wp2_with fail
                  go_roundw
                  case rel => exact ⟨m + 1, by omega, by go_num, hb3, HM2⟩
                  case measure => simp [intOf]; omega
              · obtain rfl : m = k := by omega
                have HST := Lib.hid (steps_next HS.out ⟨X, HX.out, HOK.out, HID.out, HM.out⟩)
                go_wp2_with fail
                go_roundw
                case rel => exact ⟨m + 1, by omega, by go_num, hbs, HST⟩
                case measure => simp [intOf]; omega
          · have h0 : 0 < k := by omega
            have hxp : k - 1 < xs.length := by omega
            obtain ⟨b', o', he, hbl', hcell0'⟩ := hc.out (k - 1) xs[k - 1] (List.getElem?_eq_getElem hxp)
            simp only [Option.some.injEq, Addr.mk.injEq, and_true] at he
            obtain ⟨rfl, rfl⟩ := he
            have HG' := grown_cells (hcell0'.below hb hbl') g1
            have s1 : IntKind.i64.wrap ((k : Int) - 1) = (k : Int) - 1 := IntWalk.i64_in _ (by omega)
            have s2 : ((k : Int) - 1).toNat = k - 1 := by omega
            have s3 : 0 ≤ (k : Int) - 1 := by omega
            have s4 : (k : Int) - 1 < (n : Int) := by omega
            clear hcell0' hz
            by_cases hid : (xs[k - 1]).id < (xs[k]).id
            · have HID := Lib.hid (show ∀ p, 0 < k → xs[k - 1]? = some p → p.id < xs[k].id from fun p _ hp => by
                rw [List.getElem?_eq_getElem hxp] at hp; rw [← Option.some.inj hp]; exact hid)
              generalize xs[k] = X at *
              generalize xs[k - 1] = Y at *
              have c0 := fun d os => (HG.out d os).1
              have c1 := fun d os => (HG.out d os).2.1
              have c2 := fun d os => (HG.out d os).2.2.1
              have c3 := fun d os => (HG.out d os).2.2.2.1
              have c4 := fun d os => (HG.out d os).2.2.2.2.1
              have c5 := fun d os => (HG.out d os).2.2.2.2.2.1
              have c6 := fun d os => (HG.out d os).2.2.2.2.2.2
              have e0 := fun d os => (HG'.out d os).1
              have hle2 : ¬ X.id ≤ Y.id := by omega
              go_wp2_with fail
              refine wp_region_quiet_below (by kernel_rfl) (by kernel_rfl) ?_
              repeat (go_big_quiet_step ((go_at_call 26; exact Calls.regrown_of (HC.out _))))
              refine wpQuiet_nil ?_
              intro _ hw'
              obtain ⟨⟨dq, osq⟩, hw''⟩ := hw'
              subst hw''
              have hb2 : Below w.heap.size w (Sort.grow (redrawn wr dq) osq) := hb.trans ((below_regrown wr dq osq).mono hb.size)
              clear c0 c1 c2 c3 c4 c5 c6 e0 HG HG' s1 s2 s3 s4
              generalize Sort.grow (redrawn wr dq) osq = wo at *
              clear hb
              go_wp2_with fail
              go_loopw [4] (fun j ws => ∃ m : Nat, m ≤ k ∧ j = .int .i64 m ∧ Below w.heap.size w ws ∧ Hid (∀ q p, q < m → xs[q]? = some p → p.name ≠ X.name)) (fun j _ => k - (intOf j).toNat)
              case atStart => exact ⟨0, Nat.zero_le _, rfl, hb2, Lib.hid (fun q p hq => by omega)⟩
              case round =>
                clear hb2
                obtain ⟨m, hm, rfl, hbs, HM⟩ := hrel
                by_cases hmk : m < k
                · have hxm : m < xs.length := by omega
                  obtain ⟨b', o', he, hbl', hcell1⟩ := hc.out m xs[m] (List.getElem?_eq_getElem hxm)
                  simp only [Option.some.injEq, Addr.mk.injEq, and_true] at he
                  obtain ⟨rfl, rfl⟩ := he
                  have HP := Lib.hid (List.getElem?_eq_getElem hxm)
                  have d1 := (hcell1.below hbs hbl).2.1
                  have d2 := (HCX.out.below hbs hbl).2.1
                  have m0 : 0 ≤ (m : Int) := by omega
                  have m1 : (m : Int) < (n : Int) := by omega
                  clear hcell1
                  generalize xs[m] = P at *
                  by_cases hname : P.name = X.name
                  · have HB := Lib.hid (no_name2 HX.out HP.out hmk hname)
                    have hbe : (P.name.toList == X.name.toList) = true := by rw [hname]; simp
                    clear hname
                    go_wp2_with fail
                    go_quiet (fail)
                    have hb3 : Below w.heap.size w (wr.drewN nq) := hbs.trans ⟨rfl, rfl, rfl, Nat.le_refl _, fun _ _ => rfl⟩
                    go_wp2_with fail
                    go_ret
                    exact seen_bad HB.out hb3
                  · have HM2 := Lib.hid (show ∀ q p, q < m + 1 → xs[q]? = some p → p.name ≠ X.name from fun q p hq hp => by
                      rcases Nat.lt_or_ge q m with h' | h'
                      · exact HM.out q p h' hp
                      · obtain rfl : q = m := by omega
                        rw [HP.out] at hp
                        rw [← Option.some.inj hp]
                        exact hname)
                    have hbe : (P.name.toList == X.name.toList) = false := by
                      rw [beq_eq_false_iff_ne]
                      intro e
                      rw [ByteArray.toList_eq, ByteArray.toList_eq] at e
                      exact hname (ByteArray.ext (Array.ext' e))
                    clear hname
                    go_wp2_with fail
                    go_quiet (fail)
                    have hb3 : Below w.heap.size w (wr.drewN nq) := hbs.trans ⟨rfl, rfl, rfl, Nat.le_refl _, fun _ _ => rfl⟩
                    go_wp2_with fail
                    go_roundw
                    case rel => exact ⟨m + 1, by omega, by go_num, hb3, HM2⟩
                    case measure => simp [intOf]; omega
                · obtain rfl : m = k := by omega
                  have HST := Lib.hid (steps_next HS.out ⟨X, HX.out, HOK.out, HID.out, HM.out⟩)
                  go_wp2_with fail
                  go_roundw
                  case rel => exact ⟨m + 1, by omega, by go_num, hbs, HST⟩
                  case measure => simp [intOf]; omega
            · have HB := Lib.hid (no_id hx h0 hid)
              generalize xs[k] = X at *
              generalize xs[k - 1] = Y at *
              have c0 := fun d os => (HG.out d os).1
              have c1 := fun d os => (HG.out d os).2.1
              have c2 := fun d os => (HG.out d os).2.2.1
              have c3 := fun d os => (HG.out d os).2.2.2.1
              have c4 := fun d os => (HG.out d os).2.2.2.2.1
              have c5 := fun d os => (HG.out d os).2.2.2.2.2.1
              have c6 := fun d os => (HG.out d os).2.2.2.2.2.2
              have e0 := fun d os => (HG'.out d os).1
              have hle2 : X.id ≤ Y.id := by omega
              go_wp2_with fail
              refine wp_region_quiet_below (by kernel_rfl) (by kernel_rfl) ?_
              repeat (go_big_quiet_step ((go_at_call 26; exact Calls.regrown_of (HC.out _))))
              refine wpQuiet_nil ?_
              intro _ hw'
              obtain ⟨⟨dq, osq⟩, hw''⟩ := hw'
              subst hw''
              have hb2 : Below w.heap.size w (Sort.grow (redrawn wr dq) osq) := hb.trans ((below_regrown wr dq osq).mono hb.size)
              clear c0 c1 c2 c3 c4 c5 c6 e0
              go_wp2_with fail
              go_ret
              exact seen_bad HB.out hb2
      · have HB := Lib.hid (no_len (xs := xs) (by omega))
        have hd : decide ((n : Int) ≤ 8) = false := decide_eq_false (by omega)
        go_wp2_with fail
        go_ret
        exact ⟨by rw [HB.out]; exact ret_bool rfl, hb⟩
    · obtain rfl : k = n := by omega
      by_cases h8 : k ≤ 8
      · have HB := Lib.hid (good_yes (xs := xs) ⟨by rw [HN.out]; exact h8, fun i hi => HS.out i (by rw [HN.out] at hi; exact hi)⟩)
        have hd : decide ((k : Int) ≤ 8) = true := decide_eq_true (by omega)
        go_wp2_with fail
        go_ret
        exact ⟨by rw [HB.out]; exact ret_bool rfl, hb⟩
      · have HB := Lib.hid (no_len (xs := xs) (by omega))
        have hd : decide ((k : Int) ≤ 8) = false := decide_eq_false (by omega)
        go_wp2_with fail
        go_ret
        exact ⟨by rw [HB.out]; exact ret_bool rfl, hb⟩
end Go.Proofs.YtankaffhapcnaaaDoor.Gd
namespace Go.Proofs.YtankaffhapcnaaaDoor.GoodI
open Go.RowKit Rule Gd
set_option linter.unusedVariables false
set_option maxHeartbeats 1600000 in
theorem isValidRules (a : Option Addr) (n cp : Nat) (xs : List R) (w : World) (hn : xs.length = n) (h : RulesAt w a cp xs) (hsz : ∀ x ∈ xs, x.name.size ≤ maxLen) :
    Calls Tryd.prog 16 #[.slice a n cp] w (GoodPost xs w) := by
  have hc := h.at_
  obtain ⟨h1, h2, h3⟩ := h
  unfold maxLen at h2
  have HN := Lib.hid hn
  have HSZ := Lib.hid hsz
  have hnb : n ≤ cp := by omega
  have hle : n ≤ xs.length := by omega
  clear hn h1 h3 hsz
  by_cases h8 : n ≤ 8
  · go_enter Tryd.func16, Tryd.ntmps16
    go_wp2_with fail
    go_loopw [12] (fun i wr => ∃ k : Nat, k ≤ n ∧ i = .int .i64 k ∧ Below w.heap.size w wr ∧ Hid (∀ i, i < k → Step xs i)) (fun i _ => n - (intOf i).toNat)
    case atStart => exact ⟨0, Nat.zero_le _, rfl, Below.refl _ _, Lib.hid (fun i hi => by omega)⟩
    case round =>
      obtain ⟨k, hk, rfl, hb, HS⟩ := hrel
      by_cases hlt : k < n
      · have hx : k < xs.length := by omega
        obtain ⟨b, o, rfl, hbl, hcell0⟩ := hc.out k xs[k] (List.getElem?_eq_getElem hx)
        have hq := hcell0.below hb hbl
        have g1 := Nat.lt_of_lt_of_le hbl hb.size
        have hxs := Lib.hid (HSZ.out xs[k] (List.getElem_mem hx))
        have HX := Lib.hid (List.getElem?_eq_getElem hx)
        have k0 : 0 ≤ (k : Int) := by omega
        have k1 : (k : Int) < (n : Int) := by omega
        clear hcell0
        obtain ⟨q0, q1, q2, q3, q4, q5, q6⟩ := hq
        cases hok : okB xs[k] with
        | false =>
          have HB := Lib.hid (no_ok hx hok)
          have HC := Lib.hid (fun W => impl_as xs[k] false hok hxs.out W)
          clear hok
          generalize xs[k] = X at *
          go_wp2_with fail
          have hbx := Rule.At.box wr X 25
          have hba := hb.alloc hb.size (Obj.cells #[.int .i64 X.id, .string X.name, .int .i64 X.rank, .bool X.sec, .bool X.deb, .bool X.am, .int .i64 X.need] 25)
          have hGq : wr.heap.size < (wr.alloc (Obj.cells #[.int .i64 X.id, .string X.name, .int .i64 X.rank, .bool X.sec, .bool X.deb, .bool X.am, .int .i64 X.need] 25)).heap.size := by simp
          clear q0 q1 q2 q3 q4 q5 q6
          generalize wr.alloc (Obj.cells #[.int .i64 X.id, .string X.name, .int .i64 X.rank, .bool X.sec, .bool X.deb, .bool X.am, .int .i64 X.need] 25) = wq at *
          generalize wr.heap.size = G at *
          have HG := grown_cells hbx hGq
          have HG0 := Lib.hid (fun d os => (HG.out d os).head)
          have c0 := fun d os => (HG0.out d os).1
          have c1 := fun d os => (HG0.out d os).2.1
          have c2 := fun d os => (HG0.out d os).2.2.1
          have c3 := fun d os => (HG0.out d os).2.2.2.1
          have c4 := fun d os => (HG0.out d os).2.2.2.2.1
          have c5 := fun d os => (HG0.out d os).2.2.2.2.2.1
          have c6 := fun d os => (HG0.out d os).2.2.2.2.2.2
          refine wp_region_quiet_below (by kernel_rfl) (by kernel_rfl) ?_
          repeat (go_big_quiet_step ((go_at_call 9; exact Calls.regrown_of (HC.out _))))
          refine wpQuiet_nil ?_
          intro _ hw'
          obtain ⟨⟨dq, osq⟩, hw''⟩ := hw'
          subst hw''
          have hb2 : Below w.heap.size w (Sort.grow (redrawn wq dq) osq) := hba.trans ((below_regrown wq dq osq).mono hba.size)
          have hX2 := Lib.hid (hbx.below (below_regrown wq dq osq) hGq)
          have hG2 : G < (Sort.grow (redrawn wq dq) osq).heap.size := Nat.lt_of_lt_of_le hGq (below_regrown wq dq osq).size
          generalize Sort.grow (redrawn wq dq) osq = wo at *
          clear c0 c1 c2 c3 c4 c5 c6 HG hbx
          go_wp2_with fail
          go_ret
          exact seen_bad HB.out hb2
        | true =>
          have HOK := Lib.hid hok
          have HC := Lib.hid (fun W => impl_as xs[k] true hok hxs.out W)
          clear hok
          by_cases hz : k = 0
          · have HID := Lib.hid (show ∀ p, 0 < k → xs[k - 1]? = some p → p.id < xs[k].id from fun p h0 => by omega)
            have hd : decide (0 < (k : Int)) = false := by simp; omega
            have hd2 : decide (0 < k) = false := by simp; omega
            clear hz
            generalize xs[k] = X at *
            go_wp2_with fail
            have hbx := Rule.At.box wr X 25
            have hba := hb.alloc hb.size (Obj.cells #[.int .i64 X.id, .string X.name, .int .i64 X.rank, .bool X.sec, .bool X.deb, .bool X.am, .int .i64 X.need] 25)
            have hGq : wr.heap.size < (wr.alloc (Obj.cells #[.int .i64 X.id, .string X.name, .int .i64 X.rank, .bool X.sec, .bool X.deb, .bool X.am, .int .i64 X.need] 25)).heap.size := by simp
            clear q0 q1 q2 q3 q4 q5 q6
            generalize wr.alloc (Obj.cells #[.int .i64 X.id, .string X.name, .int .i64 X.rank, .bool X.sec, .bool X.deb, .bool X.am, .int .i64 X.need] 25) = wq at *
            generalize wr.heap.size = G at *
            have HG := grown_cells hbx hGq
            have HG0 := Lib.hid (fun d os => (HG.out d os).head)
            have c0 := fun d os => (HG0.out d os).1
            have c1 := fun d os => (HG0.out d os).2.1
            have c2 := fun d os => (HG0.out d os).2.2.1
            have c3 := fun d os => (HG0.out d os).2.2.2.1
            have c4 := fun d os => (HG0.out d os).2.2.2.2.1
            have c5 := fun d os => (HG0.out d os).2.2.2.2.2.1
            have c6 := fun d os => (HG0.out d os).2.2.2.2.2.2
            refine wp_region_quiet_below (by kernel_rfl) (by kernel_rfl) ?_
            repeat (go_big_quiet_step ((go_at_call 9; exact Calls.regrown_of (HC.out _))))
            refine wpQuiet_nil ?_
            intro _ hw'
            obtain ⟨⟨dq, osq⟩, hw''⟩ := hw'
            subst hw''
            have hb2 : Below w.heap.size w (Sort.grow (redrawn wq dq) osq) := hba.trans ((below_regrown wq dq osq).mono hba.size)
            have hX2 := Lib.hid (hbx.below (below_regrown wq dq osq) hGq)
            have hG2 : G < (Sort.grow (redrawn wq dq) osq).heap.size := Nat.lt_of_lt_of_le hGq (below_regrown wq dq osq).size
            generalize Sort.grow (redrawn wq dq) osq = wo at *
            clear c0 c1 c2 c3 c4 c5 c6 HG hbx
            clear hd hd2
            clear HG0
            go_wp2_with fail
            go_loopw [39] (fun j ws => ∃ m : Nat, m ≤ k ∧ j = .int .i64 m ∧ Below w.heap.size w ws ∧ Hid (At ws G 0 X) ∧ G < ws.heap.size ∧ Hid (∀ q p, q < m → xs[q]? = some p → p.name ≠ X.name)) (fun j _ => k - (intOf j).toNat)
            case atStart => exact ⟨0, Nat.zero_le _, rfl, hb2, hX2, hG2, Lib.hid (fun q p hq => by omega)⟩
            case round =>
              clear hb2 hX2 hG2 hb hba hGq
              obtain ⟨m, hm, rfl, hbs, HXG, hGs, HM⟩ := hrel
              by_cases hmk : m < k
              · have hxm : m < xs.length := by omega
                obtain ⟨b', o', he, hbl', hcell1⟩ := hc.out m xs[m] (List.getElem?_eq_getElem hxm)
                simp only [Option.some.injEq, Addr.mk.injEq, and_true] at he
                obtain ⟨rfl, rfl⟩ := he
                have HP := Lib.hid (List.getElem?_eq_getElem hxm)
                obtain ⟨d0, d1, d2, d3, d4, d5, d6⟩ := hcell1.below hbs hbl
                have x1 := HXG.out.head.2.1
                have m0 : 0 ≤ (m : Int) := by omega
                have m1 : (m : Int) < (k : Int) := by omega
                clear hcell1
                generalize xs[m] = P at *
                by_cases hname : P.name = X.name
                · have HB := Lib.hid (no_name2 HX.out HP.out hmk hname)
                  have hbe : (P.name.toList == X.name.toList) = true := by rw [hname]; simp
                  clear hname
                  go_wp2_with fail
                  go_ret
                  exact seen_bad HB.out (hbs.alloc hbs.size _)
                · have HM2 := Lib.hid (show ∀ q p, q < m + 1 → xs[q]? = some p → p.name ≠ X.name from fun q p hq hp => by
                    rcases Nat.lt_or_ge q m with h' | h'
                    · exact HM.out q p h' hp
                    · obtain rfl : q = m := by omega
                      rw [HP.out] at hp
                      rw [← Option.some.inj hp]
                      exact hname)
                  have hbe : (P.name.toList == X.name.toList) = false := by
                    rw [beq_eq_false_iff_ne]
                    intro e
                    rw [ByteArray.toList_eq, ByteArray.toList_eq] at e
                    exact hname (ByteArray.ext (Array.ext' e))
                  clear hname
                  go_wp2_with fail
                  go_roundw
                  case rel => exact ⟨m + 1, by omega, by go_num, hbs.alloc hbs.size _, Lib.hid (HXG.out.below ((Below.refl _ _).alloc (Nat.le_refl _) _) hGs), by simp; omega, HM2⟩
                  case measure => simp [intOf]; omega
              · obtain rfl : m = k := by omega
                have HST := Lib.hid (steps_next HS.out ⟨X, HX.out, HOK.out, HID.out, HM.out⟩)
                go_wp2_with fail
                go_roundw
                case rel => exact ⟨m + 1, by omega, by go_num, hbs, HST⟩
                case measure => simp [intOf]; omega
          · have h0 : 0 < k := by omega
            have hxp : k - 1 < xs.length := by omega
            obtain ⟨b', o', he, hbl', hcell0'⟩ := hc.out (k - 1) xs[k - 1] (List.getElem?_eq_getElem hxp)
            simp only [Option.some.injEq, Addr.mk.injEq, and_true] at he
            obtain ⟨rfl, rfl⟩ := he
            have HY := Lib.hid hcell0'
            clear hcell0' hz hbl'
            by_cases hid : (xs[k - 1]).id < (xs[k]).id
            · have HID := Lib.hid (show ∀ p, 0 < k → xs[k - 1]? = some p → p.id < xs[k].id from fun p _ hp => by
                rw [List.getElem?_eq_getElem hxp] at hp; rw [← Option.some.inj hp]; exact hid)
              generalize xs[k] = X at *
              generalize xs[k - 1] = Y at *
              go_wp2_with fail
              have hbx := Rule.At.box wr X 25
              have hba := hb.alloc hb.size (Obj.cells #[.int .i64 X.id, .string X.name, .int .i64 X.rank, .bool X.sec, .bool X.deb, .bool X.am, .int .i64 X.need] 25)
              have hGq : wr.heap.size < (wr.alloc (Obj.cells #[.int .i64 X.id, .string X.name, .int .i64 X.rank, .bool X.sec, .bool X.deb, .bool X.am, .int .i64 X.need] 25)).heap.size := by simp
              have hgb : b < (wr.alloc (Obj.cells #[.int .i64 X.id, .string X.name, .int .i64 X.rank, .bool X.sec, .bool X.deb, .bool X.am, .int .i64 X.need] 25)).heap.size := by simp; omega
              clear q0 q1 q2 q3 q4 q5 q6
              generalize wr.alloc (Obj.cells #[.int .i64 X.id, .string X.name, .int .i64 X.rank, .bool X.sec, .bool X.deb, .bool X.am, .int .i64 X.need] 25) = wq at *
              generalize wr.heap.size = G at *
              have HG := grown_cells hbx hGq
              have HG0 := Lib.hid (fun d os => (HG.out d os).head)
              have HG' := grown_cells (HY.out.below hba hbl) hgb
              have c0 := fun d os => (HG0.out d os).1
              have c1 := fun d os => (HG0.out d os).2.1
              have c2 := fun d os => (HG0.out d os).2.2.1
              have c3 := fun d os => (HG0.out d os).2.2.2.1
              have c4 := fun d os => (HG0.out d os).2.2.2.2.1
              have c5 := fun d os => (HG0.out d os).2.2.2.2.2.1
              have c6 := fun d os => (HG0.out d os).2.2.2.2.2.2
              have e0 := fun d os => (HG'.out d os).1
              have hle2 : ¬ X.id ≤ Y.id := by omega
              have s1 : IntKind.i64.wrap ((k : Int) - 1) = (k : Int) - 1 := IntWalk.i64_in _ (by omega)
              have s2 : ((k : Int) - 1).toNat = k - 1 := by omega
              have s3 : 0 ≤ (k : Int) - 1 := by omega
              have s4 : (k : Int) - 1 < (n : Int) := by omega
              refine wp_region_quiet_below (by kernel_rfl) (by kernel_rfl) ?_
              repeat (go_big_quiet_step ((go_at_call 9; exact Calls.regrown_of (HC.out _))))
              refine wpQuiet_nil ?_
              intro _ hw'
              obtain ⟨⟨dq, osq⟩, hw''⟩ := hw'
              subst hw''
              have hb2 : Below w.heap.size w (Sort.grow (redrawn wq dq) osq) := hba.trans ((below_regrown wq dq osq).mono hba.size)
              have hX2 := Lib.hid (hbx.below (below_regrown wq dq osq) hGq)
              have hG2 : G < (Sort.grow (redrawn wq dq) osq).heap.size := Nat.lt_of_lt_of_le hGq (below_regrown wq dq osq).size
              generalize Sort.grow (redrawn wq dq) osq = wo at *
              clear c0 c1 c2 c3 c4 c5 c6 HG hbx
              clear e0 HG' s1 s2 s3 s4
              clear HG0
              go_wp2_with fail
              go_loopw [39] (fun j ws => ∃ m : Nat, m ≤ k ∧ j = .int .i64 m ∧ Below w.heap.size w ws ∧ Hid (At ws G 0 X) ∧ G < ws.heap.size ∧ Hid (∀ q p, q < m → xs[q]? = some p → p.name ≠ X.name)) (fun j _ => k - (intOf j).toNat)
              case atStart => exact ⟨0, Nat.zero_le _, rfl, hb2, hX2, hG2, Lib.hid (fun q p hq => by omega)⟩
              case round =>
                clear hb2 hX2 hG2 hb hba hGq
                obtain ⟨m, hm, rfl, hbs, HXG, hGs, HM⟩ := hrel
                by_cases hmk : m < k
                · have hxm : m < xs.length := by omega
                  obtain ⟨b', o', he, hbl', hcell1⟩ := hc.out m xs[m] (List.getElem?_eq_getElem hxm)
                  simp only [Option.some.injEq, Addr.mk.injEq, and_true] at he
                  obtain ⟨rfl, rfl⟩ := he
                  have HP := Lib.hid (List.getElem?_eq_getElem hxm)
                  obtain ⟨d0, d1, d2, d3, d4, d5, d6⟩ := hcell1.below hbs hbl
                  have x1 := HXG.out.head.2.1
                  have m0 : 0 ≤ (m : Int) := by omega
                  have m1 : (m : Int) < (k : Int) := by omega
                  clear hcell1
                  generalize xs[m] = P at *
                  by_cases hname : P.name = X.name
                  · have HB := Lib.hid (no_name2 HX.out HP.out hmk hname)
                    have hbe : (P.name.toList == X.name.toList) = true := by rw [hname]; simp
                    clear hname
                    go_wp2_with fail
                    go_ret
                    exact seen_bad HB.out (hbs.alloc hbs.size _)
                  · have HM2 := Lib.hid (show ∀ q p, q < m + 1 → xs[q]? = some p → p.name ≠ X.name from fun q p hq hp => by
                      rcases Nat.lt_or_ge q m with h' | h'
                      · exact HM.out q p h' hp
                      · obtain rfl : q = m := by omega
                        rw [HP.out] at hp
                        rw [← Option.some.inj hp]
                        exact hname)
                    have hbe : (P.name.toList == X.name.toList) = false := by
                      rw [beq_eq_false_iff_ne]
                      intro e
                      rw [ByteArray.toList_eq, ByteArray.toList_eq] at e
                      exact hname (ByteArray.ext (Array.ext' e))
                    clear hname
                    go_wp2_with fail
                    go_roundw
                    case rel => exact ⟨m + 1, by omega, by go_num, hbs.alloc hbs.size _, Lib.hid (HXG.out.below ((Below.refl _ _).alloc (Nat.le_refl _) _) hGs), by simp; omega, HM2⟩
                    case measure => simp [intOf]; omega
                · obtain rfl : m = k := by omega
                  have HST := Lib.hid (steps_next HS.out ⟨X, HX.out, HOK.out, HID.out, HM.out⟩)
                  go_wp2_with fail
                  go_roundw
                  case rel => exact ⟨m + 1, by omega, by go_num, hbs, HST⟩
                  case measure => simp [intOf]; omega
            · have HB := Lib.hid (no_id hx h0 hid)
              generalize xs[k] = X at *
              generalize xs[k - 1] = Y at *
              go_wp2_with fail
              have hbx := Rule.At.box wr X 25
              have hba := hb.alloc hb.size (Obj.cells #[.int .i64 X.id, .string X.name, .int .i64 X.rank, .bool X.sec, .bool X.deb, .bool X.am, .int .i64 X.need] 25)
              have hGq : wr.heap.size < (wr.alloc (Obj.cells #[.int .i64 X.id, .string X.name, .int .i64 X.rank, .bool X.sec, .bool X.deb, .bool X.am, .int .i64 X.need] 25)).heap.size := by simp
              have hgb : b < (wr.alloc (Obj.cells #[.int .i64 X.id, .string X.name, .int .i64 X.rank, .bool X.sec, .bool X.deb, .bool X.am, .int .i64 X.need] 25)).heap.size := by simp; omega
              clear q0 q1 q2 q3 q4 q5 q6
              generalize wr.alloc (Obj.cells #[.int .i64 X.id, .string X.name, .int .i64 X.rank, .bool X.sec, .bool X.deb, .bool X.am, .int .i64 X.need] 25) = wq at *
              generalize wr.heap.size = G at *
              have HG := grown_cells hbx hGq
              have HG0 := Lib.hid (fun d os => (HG.out d os).head)
              have HG' := grown_cells (HY.out.below hba hbl) hgb
              have c0 := fun d os => (HG0.out d os).1
              have c1 := fun d os => (HG0.out d os).2.1
              have c2 := fun d os => (HG0.out d os).2.2.1
              have c3 := fun d os => (HG0.out d os).2.2.2.1
              have c4 := fun d os => (HG0.out d os).2.2.2.2.1
              have c5 := fun d os => (HG0.out d os).2.2.2.2.2.1
              have c6 := fun d os => (HG0.out d os).2.2.2.2.2.2
              have e0 := fun d os => (HG'.out d os).1
              have hle2 : X.id ≤ Y.id := by omega
              have s1 : IntKind.i64.wrap ((k : Int) - 1) = (k : Int) - 1 := IntWalk.i64_in _ (by omega)
              have s2 : ((k : Int) - 1).toNat = k - 1 := by omega
              have s3 : 0 ≤ (k : Int) - 1 := by omega
              have s4 : (k : Int) - 1 < (n : Int) := by omega
              refine wp_region_quiet_below (by kernel_rfl) (by kernel_rfl) ?_
              repeat (go_big_quiet_step ((go_at_call 9; exact Calls.regrown_of (HC.out _))))
              refine wpQuiet_nil ?_
              intro _ hw'
              obtain ⟨⟨dq, osq⟩, hw''⟩ := hw'
              subst hw''
              have hb2 : Below w.heap.size w (Sort.grow (redrawn wq dq) osq) := hba.trans ((below_regrown wq dq osq).mono hba.size)
              have hX2 := Lib.hid (hbx.below (below_regrown wq dq osq) hGq)
              have hG2 : G < (Sort.grow (redrawn wq dq) osq).heap.size := Nat.lt_of_lt_of_le hGq (below_regrown wq dq osq).size
              generalize Sort.grow (redrawn wq dq) osq = wo at *
              clear c0 c1 c2 c3 c4 c5 c6 HG hbx
              clear e0 HG' s1 s2 s3 s4
              go_wp2_with fail
              go_ret
              exact seen_bad HB.out hb2
      · obtain rfl : k = n := by omega
        have HB := Lib.hid (good_yes (xs := xs) ⟨by rw [HN.out]; exact h8, fun i hi => HS.out i (by rw [HN.out] at hi; exact hi)⟩)
        go_wp2_with fail
        go_ret
        exact ⟨by rw [HB.out]; exact ret_bool rfl, hb⟩
  · have HB := Lib.hid (no_len (xs := xs) (by omega))
    go_enter Tryd.func16, Tryd.ntmps16
    go_wp2_with fail
    go_ret
    exact seen_bad HB.out (Below.refl _ _)
end Go.Proofs.YtankaffhapcnaaaDoor.GoodI
namespace Go.Proofs.YtankaffhapcnaaaDoor.SplitL
open Go SplitMath
set_option linter.unusedVariables false

/-- lines with an end each -/
def ended (c : UInt8) (ls : List (List UInt8)) : List UInt8 := ls.flatMap (fun l => l ++ [c])
theorem ended_cons (c : UInt8) (l : List UInt8) (ls : List (List UInt8)) : ended c (l :: ls) = l ++ c :: ended c ls := by unfold ended; simp
theorem ended_append (c : UInt8) (ls ms : List (List UInt8)) : ended c (ls ++ ms) = ended c ls ++ ended c ms := by unfold ended; simp
theorem ended_snoc (c : UInt8) (ls : List (List UInt8)) (l : List UInt8) : ended c (ls ++ [l]) = ended c ls ++ (l ++ [c]) := by rw [ended_append]; unfold ended; simp
theorem split_ended (c : UInt8) : ∀ ls : List (List UInt8), (∀ y ∈ ls, ∀ b ∈ y, b ≠ c) → splitOf (ended c ls) c = ls ++ [[]]
  | [], _ => splitOf_none [] c (fun b hb => by cases hb)
  | l :: ls, h => by
    rw [ended_cons, splitOf_cut l _ c (h l (by simp)), split_ended c ls (fun y hy => h y (by simp [hy]))]
    rfl
theorem spl_whole (c : UInt8) (l : List UInt8) : l = ended c (spl l c).1 ++ (spl l c).2 := by
  suffices h : ∀ r : List UInt8, r.reverse = ended c (spl r.reverse c).1 ++ (spl r.reverse c).2 by
    have := h l.reverse
    rwa [List.reverse_reverse] at this
  intro r
  induction r with
  | nil => rfl
  | cons b r ih =>
    rw [List.reverse_cons]
    by_cases hb : b = c
    · subst hb
      rw [spl_hit]
      rw [ended_snoc, List.append_nil, ← List.append_assoc]
      rw [← ih]
    · rw [spl_miss _ _ _ hb]
      simp only
      rw [← List.append_assoc, ← ih]
theorem unsplit {c : UInt8} {s : List UInt8} {ls : List (List UInt8)} (h : splitOf s c = ls ++ [[]]) : s = ended c ls := by
  unfold splitOf at h
  have h2 := List.append_inj' h rfl
  have e := spl_whole c s
  rw [h2.1, List.cons.inj h2.2 |>.1, List.append_nil] at e
  exact e
theorem spl_cnt (c : UInt8) (l : List UInt8) : (spl l c).1.length = l.count c := by
  suffices h : ∀ r : List UInt8, (spl r.reverse c).1.length = r.reverse.count c by
    have := h l.reverse
    rwa [List.reverse_reverse] at this
  intro r
  induction r with
  | nil => rfl
  | cons b r ih =>
    rw [List.reverse_cons]
    by_cases hb : b = c
    · subst hb
      rw [spl_hit, List.count_append]
      simp [ih]
    · rw [spl_miss _ _ _ hb, List.count_append]
      simp [ih, hb]
theorem split_count (l : List UInt8) (c : UInt8) : (splitOf l c).length = l.count c + 1 := by
  unfold splitOf
  rw [List.length_append, spl_cnt]
  rfl
theorem split_two {l a b : List UInt8} {c : UInt8} (h : splitOf l c = [a, b]) : l = a ++ c :: b := by
  unfold splitOf at h
  have e := spl_whole c l
  have h2 := List.append_inj' (show (spl l c).1 ++ [(spl l c).2] = [a] ++ [b] from h) rfl
  rw [h2.1, List.cons.inj h2.2 |>.1] at e
  rw [e]; unfold ended; simp
section
variable {α β : Type} (P : α → β → Prop)
/-- read line by line -/
def Reads (ls : List α) (xs : List β) : Prop := ls.length = xs.length ∧ ∀ (i : Nat) (l : α) (r : β), ls[i]? = some l → xs[i]? = some r → P l r
variable {P}
theorem reads_nil : Reads P [] [] := ⟨rfl, fun i l r h => by simp at h⟩
theorem reads_snoc {ls : List α} {xs : List β} {l : α} {r : β} (h : Reads P ls xs) (hp : P l r) : Reads P (ls ++ [l]) (xs ++ [r]) := by
  refine ⟨by simp [h.1], fun i l' r' hl hr => ?_⟩
  rcases Nat.lt_trichotomy i ls.length with hi | hi | hi
  · rw [List.getElem?_append_left hi] at hl
    rw [List.getElem?_append_left (by rw [← h.1]; exact hi)] at hr
    exact h.2 i l' r' hl hr
  · rw [List.getElem?_append_right (by omega), hi, Nat.sub_self] at hl
    rw [List.getElem?_append_right (by rw [← h.1]; omega), ← h.1, hi, Nat.sub_self] at hr
    simp only [List.getElem?_cons_zero, Option.some.injEq] at hl hr
    rw [← hl, ← hr]; exact hp
  · rw [List.getElem?_eq_none (by simp; omega)] at hl; cases hl
theorem reads_uniq (hP : ∀ l r r', P l r → P l r' → r = r') {ls : List α} {xs ys : List β} (h : Reads P ls xs) (h' : Reads P ls ys) : xs = ys := by
  apply List.ext_getElem?
  intro i
  rcases Nat.lt_or_ge i ls.length with hi | hi
  · have hx : i < xs.length := by rw [← h.1]; exact hi
    have hy : i < ys.length := by rw [← h'.1]; exact hi
    rw [List.getElem?_eq_getElem hx, List.getElem?_eq_getElem hy]
    exact congrArg some (hP _ _ _ (h.2 i _ _ (List.getElem?_eq_getElem hi) (List.getElem?_eq_getElem hx)) (h'.2 i _ _ (List.getElem?_eq_getElem hi) (List.getElem?_eq_getElem hy)))
  · rw [List.getElem?_eq_none (by rw [← h.1]; exact hi), List.getElem?_eq_none (by rw [← h'.1]; exact hi)]
theorem reads_at {ls : List α} {xs : List β} {i : Nat} {l : α} (h : Reads P ls xs) (hl : ls[i]? = some l) : ∃ r, xs[i]? = some r ∧ P l r := by
  have hi : i < xs.length := by rw [← h.1]; exact (List.getElem?_eq_some_iff.1 hl).1
  exact ⟨_, List.getElem?_eq_getElem hi, h.2 i l _ hl (List.getElem?_eq_getElem hi)⟩
theorem reads_take {ls : List α} {xs : List β} (h : Reads P ls xs) (k : Nat) : Reads P (ls.take k) (xs.take k) := by
  refine ⟨by rw [List.length_take, List.length_take, h.1], fun i l r hl hr => ?_⟩
  rw [List.getElem?_take] at hl hr
  split at hl
  · rename_i hi; rw [if_pos hi] at hr; exact h.2 i l r hl hr
  · cases hl
end
end Go.Proofs.YtankaffhapcnaaaDoor.SplitL
namespace Go.Proofs.YtankaffhapcnaaaDoor.Strs
open Go.RowKit

theorem below_drewN (w : World) (k : Nat) : Below w.heap.size w (w.drewN k) := ⟨rfl, rfl, rfl, Nat.le_refl _, fun _ _ => rfl⟩
/-- A slice of strings lies in memory. -/
def StrsAt (w : World) (a : Option Addr) (c : Nat) (xs : List ByteArray) : Prop :=
  xs.length ≤ c ∧ c ≤ maxLen ∧ (xs = [] ∨ ∃ b o, a = some ⟨b, o, none⟩ ∧ b < w.heap.size ∧ ∀ j x, xs[j]? = some x → w.cell? ⟨b, o + j, none⟩ = some (.string x))
theorem StrsAt.below {w w' : World} {a : Option Addr} {c : Nat} {xs : List ByteArray} (h : StrsAt w a c xs) (hb : Below w.heap.size w w') : StrsAt w' a c xs := by
  obtain ⟨h1, h2, h3⟩ := h
  refine ⟨h1, h2, ?_⟩
  rcases h3 with h3 | ⟨b, o, rfl, hlt, hc⟩
  · exact .inl h3
  · refine .inr ⟨b, o, rfl, Nat.lt_of_lt_of_le hlt hb.size, fun j x hx => ?_⟩
    rw [hb.cell (p := ⟨b, o + j, none⟩) hlt]
    exact hc j x hx
theorem cell_lt {w : World} {p : Addr} {v : Value} (h : w.cell? p = some v) : p.block < w.heap.size := by
  rcases Nat.lt_or_ge p.block w.heap.size with h' | h'
  · exact h'
  · simp [World.cell?, Array.getElem?_eq_none h'] at h
/-- A slice of strings that came in lies in memory. -/
theorem strsAt_of {w : World} {a : Option Addr} {len cap : Nat} {zs : List ByteArray} (h : Frame.IsStrs w a len cap zs) : (zs.take len).length = len ∧ StrsAt w a cap (zs.take len) := by
  rcases h with ⟨rfl, rfl, rfl, rfl⟩ | ⟨x, rfl, h1, h2, h3, h4, h5⟩
  · exact ⟨rfl, Nat.le_refl _, Nat.zero_le _, .inl rfl⟩
  · have hl : (zs.take len).length = len := by rw [List.length_take]; omega
    refine ⟨hl, by rw [hl]; exact h1, h2, ?_⟩
    by_cases h0 : len = 0
    · subst h0; exact .inl rfl
    · obtain ⟨b, off, spot⟩ := x
      have hspot : spot = none := by simpa [Addr.add] using World.cell?_spot (h4 0 (by omega))
      subst hspot
      refine .inr ⟨b, off, rfl, cell_lt (h4 0 (by omega)), fun j x hx => ?_⟩
      have hj : j < len := by
        rcases Nat.lt_or_ge j len with h' | h'
        · exact h'
        · rw [List.getElem?_eq_none (by rw [hl]; exact h')] at hx; cases hx
      rw [List.getElem?_take, if_pos hj] at hx
      have := h4 j (by omega)
      rw [List.getD_eq_getElem?_getD, hx] at this
      rw [← Go.WideShapes.add_plain]
      exact this
/-- A row of strings of the call's own is a slice of strings in memory. -/
theorem strs_of_owns {w : World} {base g n cap : Nat} {xs : List ByteArray} (hn : xs.length = n) (h : w.ownsRow base 9 1 (.slice (some ⟨g, 0, none⟩) n cap) n (xs.map Value.string)) : StrsAt w (some ⟨g, 0, none⟩) cap xs := by
  have hb := h.lt g rfl
  rcases h.2 with ⟨h', _⟩ | ⟨g', cap', cur, h', _, _, hnc, hcm, _, _⟩
  · simp at h'
  · simp only [Value.slice.injEq, Option.some.injEq, Addr.mk.injEq, and_true, true_and] at h'
    obtain ⟨rfl, rfl⟩ := h'
    refine ⟨by omega, hcm, .inr ⟨g, 0, rfl, hb.2, fun j x hx => ?_⟩⟩
    have hj : j < n := by
      rcases Nat.lt_or_ge j n with h' | h'
      · exact h'
      · rw [List.getElem?_eq_none (by omega)] at hx; cases hx
    rw [Nat.zero_add, h.cellAt j (by omega), List.getElem?_map, hx]
    rfl
def tot (xs : List ByteArray) : Nat := (xs.map ByteArray.size).sum
theorem tot_next (xs : List ByteArray) (k : Nat) (h : k < xs.length) : tot (xs.take (k + 1)) = tot (xs.take k) + (xs[k]).size := by
  rw [List.take_succ_eq_append_getElem h]; unfold tot; rw [List.map_append, List.sum_append]; simp
theorem tot_take_le (xs : List ByteArray) (k : Nat) : tot (xs.take k) ≤ tot xs := by
  have := congrArg tot (List.take_append_drop k xs)
  have e : ∀ a b : List ByteArray, tot (a ++ b) = tot a + tot b := fun a b => by simp [tot]
  rw [e] at this
  omega
theorem mem_le (xs : List ByteArray) (x : ByteArray) (h : x ∈ xs) : x.size ≤ tot xs := by
  induction xs with
  | nil => cases h
  | cons y ys ih =>
    simp only [tot, List.map_cons, List.sum_cons] at ih ⊢
    rcases List.mem_cons.1 h with rfl | h
    · omega
    · have := ih h; omega

def Small (n : Nat) (xs : List ByteArray) : Prop := n + tot xs ≤ 1048576
def SZ (n : Nat) (xs : List ByteArray) (w : World) (e : Ending) (w' : World) : Prop := w = w' ∧ ∃ r : Int, e = .returned (.int .i64 r) ∧ ((r < 0 ∧ ¬ Small n xs) ∨ (0 ≤ r ∧ r ≤ 1048576 ∧ Small n xs))

theorem infoStr : (Tryd.prog.info? 9).map (fun i => (i.zero, i.size, i.bytes)) = some (some (.string ⟨#[]⟩), 1, 16) := by kernel_rfl
/-- what a copy holds after k stores -/
def part (xs : List ByteArray) (n k : Nat) : List Value := (xs.take k).map Value.string ++ List.replicate (n - k) (.string ⟨#[]⟩)
theorem part_zero (xs : List ByteArray) (n : Nat) : part xs n 0 = List.replicate n (.string ⟨#[]⟩) := by simp [part]
theorem part_all (xs : List ByteArray) (n : Nat) (h : xs.length = n) : part xs n n = xs.map Value.string := by
  unfold part; rw [List.take_of_length_le (by omega), Nat.sub_self]; simp
theorem part_set (xs : List ByteArray) (n k : Nat) (h : xs.length = n) (hk : k < xs.length) : (part xs n k).set k (.string xs[k]) = part xs n (k + 1) := by
  unfold part
  have hl : ((xs.take k).map Value.string).length = k := by rw [List.length_map, List.length_take]; omega
  rw [List.set_append_right _ _ (by omega), hl, Nat.sub_self]
  have e : n - k = (n - (k + 1)) + 1 := by omega
  rw [e, List.replicate_succ, List.set_cons_zero, List.take_succ_eq_append_getElem hk, List.map_append, List.append_assoc]
  rfl
theorem part_at (xs : List ByteArray) (n k : Nat) (h : xs.length = n) (hk : k < n) : (part xs n k)[k]? = some (.string ⟨#[]⟩) := by
  unfold part
  have hl : ((xs.take k).map Value.string).length = k := by rw [List.length_map, List.length_take]; omega
  rw [List.getElem?_append_right (by omega), hl, Nat.sub_self, List.getElem?_replicate, if_pos (by omega)]

def Copied (w : World) (n : Nat) (xs : List ByteArray) (e : Ending) (w' : World) : Prop :=
  e = .returned (.slice (some ⟨w.heap.size, 0, none⟩) n n) ∧ StrsAt w' (some ⟨w.heap.size, 0, none⟩) n xs ∧ Below w.heap.size w w'

end Go.Proofs.YtankaffhapcnaaaDoor.Strs
namespace Go.Proofs.YtankaffhapcnaaaDoor.Split
open Go.RowKit SplitMath

def str (x : List UInt8) : Value := .string ⟨x.toArray⟩
def vals (d : List (List UInt8)) : List Value := d.map str
def Owned (w : World) (l : List (List UInt8)) (e : Ending) (w' : World) : Prop :=
  ∃ v, e = .returned v ∧ w'.ownsRow w.heap.size 9 1 v l.length (vals l) ∧ Below w.heap.size w w'
theorem infoStr : (Tryd.prog.info? 9).map (fun i => (i.zero, i.size, i.bytes)) = some (some (.string ⟨#[]⟩), 1, 16) := by kernel_rfl
theorem take_snoc (s : ByteArray) (k : Nat) (h : k < s.size) : s.data.toList.take (k + 1) = s.data.toList.take k ++ [s[k]] := by
  rw [List.take_succ_eq_append_getElem (by simpa using h)]; rfl

theorem owns_start (w : World) : (w.alloc (.cells #[] 9)).ownsRow w.heap.size 9 1 (.slice (some ⟨w.heap.size, 0, none⟩) 0 0) 0 [] := by
  refine ⟨rfl, .inr ⟨w.heap.size, 0, #[], rfl, Nat.le_refl _, ?_, Nat.le_refl _, Nat.zero_le _, rfl, rfl⟩⟩
  show (w.heap.push _)[w.heap.size]? = _
  rw [Array.getElem?_push, if_pos rfl]
theorem cut_eq (s : ByteArray) (c : UInt8) (k F : Nat) (hk : k ≤ s.size) (hF : F = k - (spl (s.data.toList.take k) c).2.length) : Value.string (s.extract F k) = str (spl (s.data.toList.take k) c).2 := by
  unfold str
  rw [Lib.extract_eq]
  subst hF
  rw [spl_cur c s.data.toList k (by simpa using hk)]
theorem vals_snoc (d : List (List UInt8)) (x : List UInt8) : vals (d ++ [x]) = vals d ++ [str x] := by simp [vals]
theorem spl_hit_at (s : ByteArray) (c : UInt8) (k : Nat) (h : k < s.size) (e : s[k] = c) : spl (s.data.toList.take (k + 1)) c = ((spl (s.data.toList.take k) c).1 ++ [(spl (s.data.toList.take k) c).2], []) := by
  rw [take_snoc s k h, e, spl_hit]
theorem spl_miss_at (s : ByteArray) (c : UInt8) (k : Nat) (h : k < s.size) (e : s[k] ≠ c) : spl (s.data.toList.take (k + 1)) c = ((spl (s.data.toList.take k) c).1, (spl (s.data.toList.take k) c).2 ++ [s[k]]) := by
  rw [take_snoc s k h, spl_miss _ _ _ e]
theorem cur_le (s : ByteArray) (c : UInt8) (k : Nat) (_ : k ≤ s.size) : (spl (s.data.toList.take k) c).2.length ≤ k := by
  have := spl_cur_le c (s.data.toList.take k)
  rw [List.length_take] at this
  omega
theorem cnt_le (s : ByteArray) (c : UInt8) (k : Nat) (_ : k ≤ s.size) : (spl (s.data.toList.take k) c).1.length ≤ k := by
  have := spl_count c (s.data.toList.take k)
  rw [List.length_take] at this
  omega

set_option maxHeartbeats 400000 in
theorem l1Split (s : ByteArray) (c : UInt8) (w : World) (hs : s.size ≤ 1048576) :
    Calls Tryd.prog 38 #[.string s, .int .u8 c.toNat] w (Owned w (splitOf s.data.toList c)) := by
  obtain ⟨i0, hi, hz0, hz1, hz2⟩ := info_parts infoStr
  have HI := Lib.hid hi
  have HZ := Lib.hid (And.intro hz0 (And.intro hz1 hz2))
  clear hi hz0 hz1 hz2
  go_enter Tryd.func38, Tryd.ntmps38
  go_wp2_with fail
  go_loopw [5, 6, 7] (fun v f i wr => ∃ k F : Nat, k ≤ s.size ∧ F ≤ k ∧ Hid (F = k - (spl (s.data.toList.take k) c).2.length) ∧ i = .int .i64 k ∧ f = .int .i64 F ∧
      wr.ownsRow w.heap.size 9 1 v (spl (s.data.toList.take k) c).1.length (vals (spl (s.data.toList.take k) c).1) ∧ Below w.heap.size w wr) (fun _ _ i _ => s.size - (intOf i).toNat)
  case atStart => exact ⟨0, 0, Nat.zero_le _, Nat.le_refl _, rfl, rfl, rfl, owns_start w, (Below.refl _ _).alloc (Nat.le_refl _) _⟩
  case round =>
    obtain ⟨k, F, hk, hF, HF, rfl, rfl, hown, hb⟩ := hrel
    have hbs := hb.size
    have hcnt := cnt_le s c k hk
    have HC := Lib.hid (cut_eq s c k F hk HF.out)
    by_cases hlt : k < s.size
    · by_cases he : s[k] = c
      · have hb8 : ((s[k].toNat : Int) == (c.toNat : Int)) = true := by rw [he]; simp
        have HS := Lib.hid (spl_hit_at s c k hlt he)
        clear he
        go_wp2_with (at_builtin; refine wpList_append_own _ rfl (.tmp 20) (.tmp 25) 41 rfl w.heap.size 9 i0 (.string ⟨#[]⟩) 1 16 Tryd.underlying41 HI.out HZ.out.1 HZ.out.2.1 HZ.out.2.2 rfl (by decide) _ _ _ rfl (hown.alloc _) ⟨_, 0, none⟩ 1 1 [.string (s.extract F k)] rfl rfl ?c1 ?c2 ?c3 ?c4 ?c5 ?c6)
        case c1 => exact cell_one_new wr _ 9
        case c2 => intro u hu; simp only [List.mem_singleton] at hu; subst hu; rfl
        case c3 => unfold maxLen; omega
        case c4 => omega
        case c5 => simp; omega
        case c6 =>
          intro v' w1 hown' hgrow _
          have hb1 : Below w.heap.size w w1 := (hb.alloc hbs _).grown hgrow (by simp; omega) (fun j hj => hown.lt j hj |>.1)
          have HO := Lib.hid hown'
          clear hown' hgrow hown hb
          go_wp2_with fail
          go_roundw
          case rel => exact ⟨k + 1, k + 1, by omega, Nat.le_refl _, by show k + 1 = _; rw [HS.out]; rfl, by go_num, by go_num, by rw [HS.out, vals_snoc, ← HC.out]; simpa using HO.out, hb1⟩
          case measure => simp [intOf]; omega
      · have hb8 : ((s[k].toNat : Int) == (c.toNat : Int)) = false := by
          rw [beq_eq_false_iff_ne]
          intro h
          exact he (UInt8.toNat_inj.1 (by omega))
        have HS := Lib.hid (spl_miss_at s c k hlt he)
        clear he
        go_wp2_with fail
        go_roundw
        case rel => exact ⟨k + 1, F, by omega, by omega, by show F = _; rw [HS.out]; have := HF.out; have := cur_le s c k hk; simp; omega, by go_num, rfl, by rw [HS.out]; exact hown, hb⟩
        case measure => simp [intOf]; omega
    · have hkk : s.data.toList.take k = s.data.toList := List.take_of_length_le (by simp; omega)
      have HL := Lib.hid hkk
      have HK := Lib.hid (show k = s.size by omega)
      clear hkk
      go_wp2_with (at_builtin; refine wpList_append_own _ rfl (.tmp 29) (.tmp 33) 41 rfl w.heap.size 9 i0 (.string ⟨#[]⟩) 1 16 Tryd.underlying41 HI.out HZ.out.1 HZ.out.2.1 HZ.out.2.2 rfl (by decide) _ _ _ rfl (hown.alloc _) ⟨_, 0, none⟩ 1 1 [.string (s.extract F s.size)] rfl rfl ?c1 ?c2 ?c3 ?c4 ?c5 ?c6)
      case c1 => exact cell_one_new wr _ 9
      case c2 => intro u hu; simp only [List.mem_singleton] at hu; subst hu; rfl
      case c3 => unfold maxLen; omega
      case c4 => omega
      case c5 => simp; omega
      case c6 =>
        intro v' w1 hown' hgrow _
        have hb1 : Below w.heap.size w w1 := (hb.alloc hbs _).grown hgrow (by simp; omega) (fun j hj => hown.lt j hj |>.1)
        have HO := Lib.hid hown'
        clear hown' hgrow hown hb
        go_wp2_with fail
        go_ret
        refine ⟨v', rfl, ?_, hb1⟩
        have ho := HO.out
        have hc := HC.out
        rw [HK.out] at hc
        rw [hc] at ho
        unfold splitOf
        rw [vals_snoc]
        rw [← HK.out, HL.out] at ho
        simpa using ho
end Go.Proofs.YtankaffhapcnaaaDoor.Split
namespace Go.Proofs.YtankaffhapcnaaaDoor.Bs
open Go.RowKit
theorem wpAnyH_weak {P : Program} {md : Region.Mode} {ops : Array Oper} {Q : Exit → Act → World → Prop} {S S' : World → Prop} (hS : ∀ w, S' w → S w) : ∀ (fuel : Nat) (listed : Array Bool) (a : Act) (w : World), wpAnyH P md ops Q S' fuel listed a w → wpAnyH P md ops Q S fuel listed a w
  | 0, _, _, _, h => h
  | fuel + 1, _, _, _, h => ⟨h.1, fun i hi => wpOp_mono (fun a' w' h' => ⟨hS _ h'.1, wpAnyH_weak hS fuel _ a' w' h'.2⟩) (h.2 i hi)⟩
theorem wpAnyH_into {P : Program} {md : Region.Mode} {ops : Array Oper} {Q : Exit → Act → World → Prop} {S S' : World → Prop} {fuel : Nat} {listed : Array Bool} {a : Act} {w : World} (hS : ∀ w, S' w → S w) (h' : S' w) (h : S' w → wpAnyH P md ops Q S' fuel listed a w) : wpAnyH P md ops Q S fuel listed a w := wpAnyH_weak hS _ _ _ _ (h h')
end Go.Proofs.YtankaffhapcnaaaDoor.Bs
namespace Go.Proofs.YtankaffhapcnaaaDoor.LString
open Go.RowKit Bs
set_option linter.unusedVariables false
abbrev R := ByteArray
def vals (r : R) : List Value := [.string r]
/-- one value as a type of records -/
def rec : Rec R := ⟨1, vals, fun _ => rfl, by decide, fun r u hu => by
  simp only [vals, List.mem_cons, List.not_mem_nil, or_false] at hu
  rcases hu with rfl
  rfl⟩
theorem rec_n : rec.n = 1 := rfl
theorem info : (Tryd.prog.info? 9).map (fun i => (i.zero, i.size)) = some (some (.string ⟨#[]⟩), 1) := by kernel_rfl
theorem cells {w : World} {b p : Nat} {r : R} (h : At rec w b p r) : w.cell? ⟨b, p, none⟩ = some (.string r) := h 0 _ rfl
theorem at_of {w : World} {b p : Nat} {r : R} (h0 : w.cell? ⟨b, p, none⟩ = some (.string r)) : At rec w b p r := fun j v hv => by
  have hj : j < 1 := (List.getElem?_eq_some_iff.1 hv).1
  obtain rfl : j = 0 := by omega
  rw [← hv]; exact h0
/-- facts of a value in all worlds that only grew -/
theorem grown {w : World} {b p : Nat} {r : R} (h : At rec w b p r) (hl : b < w.heap.size) : Hid (∀ d os, At rec (Sort.grow (redrawn w d) os) b p r) := fun d os => h.below rec (below_regrown w d os) hl
theorem flat_eq (xs : List R) : flat rec xs = xs.map (fun r => .string r) := by
  induction xs with
  | nil => rfl
  | cons x xs ih => rw [flat_cons, ih]; rfl
def zero : R := ⟨#[]⟩
theorem made_zero (n : Nat) : (madeCells (#[.string ⟨#[]⟩] : Array Value) n).toList = flat rec (List.replicate n zero) := by
  apply List.ext_getElem?
  intro i
  rw [madeCells, flat_eq]
  by_cases hi : i < n
  · simp only [Array.toList_map, List.getElem?_map, Array.toList_range, List.getElem?_range hi, Option.map_some, List.getElem?_replicate, if_pos hi]
    have h1 : i % (#[.string ⟨#[]⟩] : Array Value).size = 0 := Nat.mod_one i
    rw [h1]
    rfl
  · rw [List.getElem?_eq_none (by simp; omega), List.getElem?_eq_none (by simp; omega)]
/-- what a copy holds after k stores -/
def part (xs : List R) (n k : Nat) : List R := xs.take k ++ List.replicate (n - k) zero
theorem part_len (xs : List R) (n k : Nat) (h : xs.length = n) (hk : k ≤ n) : (part xs n k).length = n := by simp [part]; omega
theorem part_zero (xs : List R) (n : Nat) : part xs n 0 = List.replicate n zero := by simp [part]
theorem part_all (xs : List R) (n : Nat) (h : xs.length = n) : part xs n n = xs := by
  unfold part; rw [List.take_of_length_le (by omega), Nat.sub_self]; simp
theorem part_set (xs : List R) (n k : Nat) (h : xs.length = n) (hk : k < xs.length) : (part xs n k).set k xs[k] = part xs n (k + 1) := by
  unfold part
  have hl : (xs.take k).length = k := by rw [List.length_take]; omega
  rw [List.set_append_right _ _ (by omega), hl, Nat.sub_self]
  have e : n - k = (n - (k + 1)) + 1 := by omega
  rw [e, List.replicate_succ, List.set_cons_zero, List.take_succ_eq_append_getElem hk, List.append_assoc]
  rfl
theorem part_at (xs : List R) (n k : Nat) (h : xs.length = n) (hk : k < n) : (part xs n k)[k]? = some zero := by
  unfold part
  have hl : (xs.take k).length = k := by rw [List.length_take]; omega
  rw [List.getElem?_append_right (by omega), hl, Nat.sub_self, List.getElem?_replicate, if_pos (by omega)]
abbrev OwnR (w : World) (A g n cap : Nat) (ys : List R) : Prop := Own rec 9 w A (.slice (some ⟨g, 0, none⟩) n cap) ys
/-- a store of one value -/
theorem putAll {w : World} {A g n cap : Nat} {ys : List R} (hn : ys.length = n) (h : OwnR w A g n cap ys) (k : Nat) (r0 r : R) (hr : ys[k]? = some r0) :
    OwnR (w.setCell ⟨g, k, none⟩ (.string r)) A g n cap (ys.set k r) := by
  have h0 := Own.put hn h k 0 r0 r (.string r) hr (by decide) rfl
  rw [rec_n, Nat.mul_one, Nat.add_zero] at h0
  exact h0
end Go.Proofs.YtankaffhapcnaaaDoor.LString
namespace Go.Proofs.YtankaffhapcnaaaDoor.LRule
open Go.RowKit Bs
set_option linter.unusedVariables false
theorem infoK : (Tryd.prog.info? 25).map (fun i => (i.zero, i.size, i.bytes)) = some (some (.agg #[.int .i64 0, .string ⟨#[]⟩, .int .i64 0, .bool false, .bool false, .bool false, .int .i64 0]), 7, 48) := by kernel_rfl
theorem startB {w : World} {A g : Nat} (h : w.heap[g]? = some (.cells #[] 25 (0, 0))) (hA : A ≤ g) : w.ownsRow A 25 7 (.slice (some ⟨g, 0, none⟩) 0 0) 0 [] :=
  ⟨rfl, .inr ⟨g, 0, #[], rfl, hA, h, Nat.le_refl _, Nat.zero_le _, rfl, rfl⟩⟩
end Go.Proofs.YtankaffhapcnaaaDoor.LRule
namespace Go.Proofs.YtankaffhapcnaaaDoor.SplA
open Go.RowKit Bs SplitMath
def bs (l : List (List UInt8)) : List ByteArray := l.map fun x => ⟨x.toArray⟩
theorem bs_len (l : List (List UInt8)) : (bs l).length = l.length := by simp [bs]
theorem bs_get {l : List (List UInt8)} {k : Nat} {x : List UInt8} (h : l[k]? = some x) : (bs l)[k]? = some ⟨x.toArray⟩ := by unfold bs; rw [List.getElem?_map, h]; rfl
def SP (w : World) (l : List (List UInt8)) (n : Nat) (e : Ending) (w' : World) : Prop :=
  ∃ g c, e = .returned (.slice (some ⟨g, 0, none⟩) n c) ∧ n ≤ c ∧ c ≤ maxLen ∧ w.heap.size ≤ g ∧ g < w'.heap.size ∧ (∀ j x, l[j]? = some x → w'.cell? ⟨g, j, none⟩ = some (.string ⟨x.toArray⟩)) ∧ Below w.heap.size w w'
theorem split (s : ByteArray) (c : UInt8) (cn : Int) (hc : cn = c.toNat) (l : List (List UInt8)) (n : Nat) (hl : splitOf s.data.toList c = l) (hn : l.length = n) (w : World) (hs : s.size ≤ 1048576) :
    Calls Tryd.prog 38 #[.string s, .int .u8 cn] w (SP w l n) := by
  subst hc
  refine (Split.l1Split s c w hs).mono ?_
  rintro e w' ⟨v, rfl, ho, hb⟩
  rw [hl] at ho
  have hO : Bs.Own LString.rec 9 w' w.heap.size v (bs l) := own_of LString.rec ho (bs_len l) (by rw [LString.flat_eq]; unfold bs Split.vals; rw [List.map_map]; rfl)
  have hpos : 0 < l.length := by rw [← hl]; simp [splitOf]
  rcases hO.shape with ⟨_, h⟩ | ⟨g, cap, rfl, hA, hg, hnc, hcm⟩
  · have := bs_len l; rw [h] at this; simp at this; omega
  · rw [bs_len, hn] at hnc
    refine ⟨g, cap, by rw [bs_len, hn], hnc, hcm, hA, hg, fun j x hx => ?_, hb⟩
    have := LString.cells (Bs.Own.at_ hO j _ (bs_get hx))
    simpa only [LString.rec_n, Nat.mul_one] using this
end Go.Proofs.YtankaffhapcnaaaDoor.SplA
namespace Go.Proofs.YtankaffhapcnaaaDoor.Help
open Go.RowKit Rule
set_option linter.unusedVariables false

def tot (xs : List R) : Nat := (xs.map fun r => r.name.size).sum
theorem tot_next (xs : List R) (k : Nat) (h : k < xs.length) : tot (xs.take (k + 1)) = tot (xs.take k) + (xs[k]).name.size := by
  rw [List.take_succ_eq_append_getElem h]; unfold tot; rw [List.map_append, List.sum_append]; simp
theorem tot_take_le (xs : List R) (k : Nat) : tot (xs.take k) ≤ tot xs := by
  have := congrArg tot (List.take_append_drop k xs)
  have e : ∀ a b : List R, tot (a ++ b) = tot a + tot b := fun a b => by simp [tot]
  rw [e] at this
  omega
theorem mem_le (xs : List R) (x : R) (h : x ∈ xs) : x.name.size ≤ tot xs := by
  induction xs with
  | nil => cases h
  | cons y ys ih =>
    simp only [tot, List.map_cons, List.sum_cons] at ih ⊢
    rcases List.mem_cons.1 h with rfl | h
    · omega
    · have := ih h; omega
def Small (n : Nat) (xs : List R) : Prop := n + tot xs ≤ 1048576
def SZ (n : Nat) (xs : List R) (w : World) (e : Ending) (w' : World) : Prop := Below w.heap.size w w' ∧ ∃ r : Int, e = .returned (.int .i64 r) ∧ ((r < 0 ∧ ¬ Small n xs) ∨ (0 ≤ r ∧ r = 1048576 - n - tot xs ∧ Small n xs))

end Go.Proofs.YtankaffhapcnaaaDoor.Help
namespace Go.Proofs.YtankaffhapcnaaaDoor.LRule
open Go.RowKit Bs
set_option linter.unusedVariables false
end Go.Proofs.YtankaffhapcnaaaDoor.LRule
