/- The data of the claim: records in memory, words, slices of the call's own, the cursor: texts joined by program. No condition. -/
import Derived.Test.YtneecokjhmnagaaDoorRows
import Derived.WalkKit
import Derived.ProofKit
import Derived.OpenShut
import Derived.Lib.ItoaNum
import Derived.Lib.LaidTab
import Derived.LaidLaws
import Derived.Stop.LaidErr
import Derived.WalkSpells
import Derived.WalkSmall
import Derived.Lib.Hide
import Derived.Lib.QuietBelow
import Derived.Deep.QuietTactic
import Derived.BigQuiet
import Derived.WalkLawsBesides
import Derived.IntWalk
import Derived.Deep.Fields
import Derived.Laws.IdiomCopy
import Derived.Deep.RegionHeld3
import Derived.Deep.AppendLies
import Derived.Deep.DrawnRows
import Derived.Lib.AppendZerosOnto
import Derived.Laws.CopyRow
import Derived.Laws.CopyOwn
import Derived.Lib.Overlaps
import Derived.Shelf.Spec.SlicesInsert
import Derived.Laws.NewBlocks
import Derived.RegionTactic
namespace Go.Proofs.YtneecokjhmnagaaDoor.Frame
open Go.ChangeShapes Go.WideShapes Go.ChangeAt Go.RowKit
theorem own : ownKnob Tryd.prog.godebug = none := by kernel_rfl
theorem laidOut : laidOutB Tryd.prog = true := by kernel_rfl
/-- A slice of integers that came in: nil, or a row of cap cells that hold the numbers zs (all of them, up to the capacity). -/
def IsRow (k : IntKind) (w : World) (a : Option Addr) (len cap : Nat) (zs : List Int) : Prop :=
  (a = none ∧ len = 0 ∧ cap = 0 ∧ zs = []) ∨
  ∃ x, a = some x ∧ len ≤ cap ∧ cap ≤ maxLen ∧ zs.length = cap ∧ (∀ i, i < zs.length → w.cell? (x.add i) = some (.int k (zs.getD i 0))) ∧ ∀ n ∈ zs, (Lit.int k n).wf = true
/-- A slice of strings that came in. -/
def IsStrs (w : World) (a : Option Addr) (len cap : Nat) (ss : List ByteArray) : Prop :=
  (a = none ∧ len = 0 ∧ cap = 0 ∧ ss = []) ∨
  ∃ x, a = some x ∧ len ≤ cap ∧ cap ≤ maxLen ∧ ss.length = cap ∧ (∀ i, i < ss.length → w.cell? (x.add i) = some (.string (ss.getD i ByteArray.empty))) ∧ ∀ s ∈ ss, s.size ≤ maxLen
end Go.Proofs.YtneecokjhmnagaaDoor.Frame
namespace Go.Proofs.YtneecokjhmnagaaDoor.Laid
open Go.ChangeShapes Go.WideShapes Go.ChangeAt Go.RowKit

theorem own : ownKnob Tryd.prog.godebug = none := by kernel_rfl
theorem gPow : Tryd.prog.globalNamed "internal/strconv.uint64pow10" = some 1 := by kernel_rfl
theorem gPowType : (Tryd.prog.globals[1]?).map (·.type) = some 129 := by kernel_rfl
theorem cellsPow : Tryd.prog.cellsOf 129 = 20 := by kernel_rfl
theorem cellsU64 : Tryd.prog.cellsOf 51 = 1 := by kernel_rfl
theorem powData {H : Type} : (Rows.laid_internal_strconv_uint64pow10 : DataW H) = Lib.tabData .u64 Lib.pow10Tab := by kernel_rfl

def Pow (W : World) : Prop := Lib.TabIs Tryd.prog W "internal/strconv.uint64pow10" .u64 Lib.pow10Tab
theorem pow_of {W : World} {r : List (String × DataW Unit)} (h : laidMet Tryd.prog (("internal/strconv.uint64pow10", Rows.laid_internal_strconv_uint64pow10) :: r) W) : Pow W := by
  rw [powData] at h
  exact Lib.tabIs_of_head gPow gPowType Tryd.underlying129 Tryd.underlying51 cellsU64 cellsPow h
/-- The sentinel error holds an interface value that is not nil. -/
def Err (name : String) (W : World) : Prop := ∃ tp p, W.var? Tryd.prog name = some #[.iface tp p]
/-- A world that is as it was below its size holds the variables that it held. -/
theorem var_below {P : Program} {W W' : World} {n : String} {cs : Array Value} (hb : Below W.heap.size W W') (h : W.var? P n = some cs) : W'.var? P n = some cs := by
  unfold World.var? at h ⊢
  cases hg : P.globalNamed n with
  | none => simp [hg] at h
  | some g =>
    simp only [hg, Option.bind_some] at h ⊢
    have hlt : g < W.heap.size := by
      rcases Nat.lt_or_ge g W.heap.size with h' | h'
      · exact h'
      · simp [Array.getElem?_eq_none h'] at h
    rw [hb.block g hlt]
    exact h
theorem Pow.below {W W' : World} (h : Pow W) (hb : Below W.heap.size W W') : Pow W' := var_below hb h
theorem Err.below {n : String} {W W' : World} (h : Err n W) (hb : Below W.heap.size W W') : Err n W' := by
  obtain ⟨tp, p, e⟩ := h
  exact ⟨tp, p, var_below hb e⟩
theorem gES : Tryd.prog.globalNamed "strconv.ErrSyntax" = some 2 := by kernel_rfl
theorem gESType : (Tryd.prog.globals[2]?).map (·.type) = some 106 := by kernel_rfl
theorem gER : Tryd.prog.globalNamed "strconv.ErrRange" = some 3 := by kernel_rfl
theorem gERType : (Tryd.prog.globals[3]?).map (·.type) = some 106 := by kernel_rfl
theorem star : "*" ++ "errors.errorString" = "*errors.errorString" := by decide
theorem rowES (u : TypeId) (h : Tryd.prog.typeName? 3 u = some "*errors.errorString") : u = 144 :=
  typeName_ptr_named (nm := "errors.errorString") (by rw [star]; kernel_rfl) (by kernel_rfl) (by decide) u (by rw [star]; exact h)
theorem cellsES : Tryd.prog.cellsOf 146 = 1 := by kernel_rfl
theorem cellsStr : Tryd.prog.cellsOf 9 = 1 := by kernel_rfl
theorem syntax_of {W : World} {r : List (String × DataW Unit)} (h : laidMet Tryd.prog (("strconv.ErrSyntax", Rows.laid_strconv_ErrSyntax) :: r) W) : Err "strconv.ErrSyntax" W := by
  obtain ⟨a0, s0, hv0, -, -, -⟩ := laid_sentinel h gES gESType Tryd.underlying106 rowES Tryd.underlying144 Tryd.underlying146 rfl rfl Tryd.underlying9 cellsES cellsStr
  exact ⟨_, _, hv0⟩
theorem range_of {W : World} {r : List (String × DataW Unit)} (h : laidMet Tryd.prog (("strconv.ErrRange", Rows.laid_strconv_ErrRange) :: r) W) : Err "strconv.ErrRange" W := by
  obtain ⟨a0, s0, hv0, -, -, -⟩ := laid_sentinel h gER gERType Tryd.underlying106 rowES Tryd.underlying144 Tryd.underlying146 rfl rfl Tryd.underlying9 cellsES cellsStr
  exact ⟨_, _, hv0⟩

/-- So many blocks has the settled world. -/
noncomputable def low : Nat := (World.holding Tryd.prog default ⟨#[], #[], []⟩).heap.size
abbrev synS : ByteArray := { data := #[105, 110, 118, 97, 108, 105, 100, 32, 115, 121, 110, 116, 97, 120] }
abbrev rngS : ByteArray := { data := #[118, 97, 108, 117, 101, 32, 111, 117, 116, 32, 111, 102, 32, 114, 97, 110, 103, 101] }
/-- The settled world, the listed variables holding what their initialisers lay. -/
noncomputable def laidWorld (os : Os) : World :=
  let w0 := World.holding Tryd.prog os ⟨#[.cells #[.string synS] 146, .cells #[.string rngS] 146], #[], []⟩
  { w0 with heap := w0.heap
    |>.modify 2 (fun | .cells _ t frozen => .cells #[.iface 144 (.pointer (some ⟨low, 0, none⟩))] t frozen | o => o)
    |>.modify 3 (fun | .cells _ t frozen => .cells #[.iface 144 (.pointer (some ⟨low + 1, 0, none⟩))] t frozen | o => o)
    |>.modify 1 (fun | .cells _ t frozen => .cells #[.int .u64 1, .int .u64 10, .int .u64 100, .int .u64 1000, .int .u64 10000, .int .u64 100000, .int .u64 1000000, .int .u64 10000000, .int .u64 100000000, .int .u64 1000000000, .int .u64 10000000000, .int .u64 100000000000, .int .u64 1000000000000, .int .u64 10000000000000, .int .u64 100000000000000, .int .u64 1000000000000000, .int .u64 10000000000000000, .int .u64 100000000000000000, .int .u64 1000000000000000000, .int .u64 10000000000000000000] t frozen | o => o)
    |>.modify 4 (fun | .cells _ t frozen => .cells #[.int .u8 0, .int .u8 1, .int .u8 28, .int .u8 2, .int .u8 29, .int .u8 14, .int .u8 24, .int .u8 3, .int .u8 30, .int .u8 22, .int .u8 20, .int .u8 15, .int .u8 25, .int .u8 17, .int .u8 4, .int .u8 8, .int .u8 31, .int .u8 27, .int .u8 13, .int .u8 23, .int .u8 21, .int .u8 19, .int .u8 16, .int .u8 7, .int .u8 26, .int .u8 12, .int .u8 18, .int .u8 6, .int .u8 11, .int .u8 5, .int .u8 10, .int .u8 9] t frozen | o => o)
    |>.modify 5 (fun | .cells _ t frozen => .cells #[.int .u8 0, .int .u8 1, .int .u8 56, .int .u8 2, .int .u8 57, .int .u8 49, .int .u8 28, .int .u8 3, .int .u8 61, .int .u8 58, .int .u8 42, .int .u8 50, .int .u8 38, .int .u8 29, .int .u8 17, .int .u8 4, .int .u8 62, .int .u8 47, .int .u8 59, .int .u8 36, .int .u8 45, .int .u8 43, .int .u8 51, .int .u8 22, .int .u8 53, .int .u8 39, .int .u8 33, .int .u8 30, .int .u8 24, .int .u8 18, .int .u8 12, .int .u8 5, .int .u8 63, .int .u8 55, .int .u8 48, .int .u8 27, .int .u8 60, .int .u8 41, .int .u8 37, .int .u8 16, .int .u8 46, .int .u8 35, .int .u8 44, .int .u8 21, .int .u8 52, .int .u8 32, .int .u8 23, .int .u8 11, .int .u8 54, .int .u8 26, .int .u8 40, .int .u8 15, .int .u8 34, .int .u8 20, .int .u8 31, .int .u8 10, .int .u8 25, .int .u8 14, .int .u8 19, .int .u8 9, .int .u8 13, .int .u8 8, .int .u8 7, .int .u8 6] t frozen | o => o) }
end Go.Proofs.YtneecokjhmnagaaDoor.Laid
namespace Go.Proofs.YtneecokjhmnagaaDoor.Word
open Go.RowKit
set_option linter.unusedVariables false
/-- the letters a to z -/
def az (c : UInt8) : Bool := decide (97 ≤ c.toNat) && decide (c.toNat ≤ 122)
def allAz (l : List UInt8) : Bool := l.all az
def isWordB (s : ByteArray) : Bool := (decide (1 ≤ s.size) && decide (s.size ≤ 10)) && allAz s.data.toList
theorem take_snoc (s : ByteArray) (k : Nat) (h : k < s.size) : s.data.toList.take (k + 1) = s.data.toList.take k ++ [s[k]] := by
  rw [List.take_succ_eq_append_getElem (by simpa using h)]; rfl
theorem az_next (s : ByteArray) (k : Nat) (h : k < s.size) (hp : allAz (s.data.toList.take k) = true) (hc : az s[k] = true) : allAz (s.data.toList.take (k + 1)) = true := by
  rw [take_snoc s k h]; unfold allAz at hp ⊢; rw [List.all_append, hp]; simp [hc]
theorem az_bad (s : ByteArray) (k : Nat) (h : k < s.size) (hc : az s[k] = false) : allAz s.data.toList = false := by
  unfold allAz
  rw [List.all_eq_false]
  exact ⟨s[k], Array.getElem_mem_toList _, by simp [hc]⟩
theorem az_all (s : ByteArray) (k : Nat) (h : s.size ≤ k) (hp : allAz (s.data.toList.take k) = true) : allAz s.data.toList = true := by
  rwa [List.take_of_length_le (by simpa using h)] at hp
theorem ret_bool {a b : Bool} (h : a = b) : Ending.returned (.bool a) = .returned (.bool b) := by rw [h]
theorem word_no {s : ByteArray} (h : allAz s.data.toList = false) : isWordB s = false := by unfold isWordB; rw [h, Bool.and_false]
theorem word_len {s : ByteArray} (h : ¬ (1 ≤ s.size ∧ s.size ≤ 10)) : isWordB s = false := by
  unfold isWordB
  have : (decide (1 ≤ s.size) && decide (s.size ≤ 10)) = false := by
    rw [← Bool.decide_and]; exact decide_eq_false h
  rw [this, Bool.false_and]
theorem word_yes {s : ByteArray} (h1 : 1 ≤ s.size) (h2 : s.size ≤ 10) (h : allAz s.data.toList = true) : isWordB s = true := by
  unfold isWordB; rw [h, Bool.and_true, ← Bool.decide_and]; exact decide_eq_true ⟨h1, h2⟩
def inB (x a b : Int) : Bool := decide (a ≤ x ∧ x ≤ b)
theorem inB_yes {x a b : Int} (h : inB x a b = true) : a ≤ x ∧ x ≤ b := of_decide_eq_true h
theorem inB_no {x a b : Int} (h : inB x a b = false) : ¬ (a ≤ x ∧ x ≤ b) := of_decide_eq_false h
theorem inB_mk {x a b : Int} (h1 : a ≤ x) (h2 : x ≤ b) : inB x a b = true := decide_eq_true ⟨h1, h2⟩
theorem inB_not {x a b : Int} (h : ¬ (a ≤ x ∧ x ≤ b)) : inB x a b = false := decide_eq_false h
theorem in_yes (x a b : Int) (w : World) (h1 : a ≤ x) (h2 : x ≤ b) :
    Calls Tryd.prog 47 #[.int .i64 x, .int .i64 a, .int .i64 b] w fun e w' => e = .returned (.bool true) ∧ w = w' := by
  go_enter Tryd.func47, Tryd.ntmps47
  go_wp2
  go_ret
  exact ⟨rfl, rfl⟩
theorem in_no (x a b : Int) (w : World) (h : ¬ (a ≤ x ∧ x ≤ b)) :
    Calls Tryd.prog 47 #[.int .i64 x, .int .i64 a, .int .i64 b] w fun e w' => e = .returned (.bool false) ∧ w = w' := by
  by_cases h1 : a ≤ x
  · have h2 : ¬ x ≤ b := by omega
    go_enter Tryd.func47, Tryd.ntmps47
    go_wp2
    go_ret
    exact ⟨rfl, rfl⟩
  · go_enter Tryd.func47, Tryd.ntmps47
    go_wp2
    go_ret
    exact ⟨rfl, rfl⟩

set_option maxHeartbeats 400000 in
theorem l2Word (s : ByteArray) (w : World) (hs : s.size ≤ maxLen) :
    Calls Tryd.prog 62 #[.string s] w fun e w' => e = .returned (.bool (isWordB s)) ∧ w = w' := by
  unfold maxLen at hs
  go_enter Tryd.func62, Tryd.ntmps62
  go_wp2_with fail
  go_loop [3] (fun i => ∃ k : Nat, k ≤ s.size ∧ i = .int .i64 k ∧ Hid (allAz (s.data.toList.take k) = true)) (fun i => s.size - (intOf i).toNat)
  case atStart => exact ⟨0, Nat.zero_le _, rfl, rfl⟩
  case round =>
    obtain ⟨k, hk, rfl, HA⟩ := hrel
    by_cases hlt : k < s.size
    · by_cases h1 : 97 ≤ s[k].toNat
      · by_cases h2 : s[k].toNat ≤ 122
        · have HN := Lib.hid (az_next s k hlt HA.out (by simp [az, h1, h2]))
          go_wp2_with fail
          go_round
          case rel => exact ⟨k + 1, by omega, by go_num, HN⟩
          case measure => simp [intOf]; omega
        · have HN := Lib.hid (word_no (az_bad s k hlt (by simp [az, h2])))
          go_wp2_with fail
          go_ret
          exact ⟨ret_bool HN.out.symm, rfl⟩
      · have HN := Lib.hid (word_no (az_bad s k hlt (by simp [az, h1])))
        go_wp2_with fail
        go_ret
        exact ⟨ret_bool HN.out.symm, rfl⟩
    · have HN := Lib.hid (az_all s k (by omega) HA.out)
      by_cases hl : 1 ≤ s.size ∧ s.size ≤ 10
      · obtain ⟨g1, g2⟩ := hl
        have HW := Lib.hid (word_yes g1 g2 HN.out)
        go_wp2_with fail
        refine (in_yes _ _ _ _ (by omega) (by omega)).mono ?_
        rintro e w' ⟨rfl, rfl⟩
        go_wp2_with fail
        go_ret
        exact ⟨ret_bool HW.out.symm, rfl⟩
      · have HW := Lib.hid (word_len hl)
        have HL := Lib.hid hl
        clear hl
        go_wp2_with fail
        refine (in_no _ _ _ _ (by have := HL.out; omega)).mono ?_
        rintro e w' ⟨rfl, rfl⟩
        go_wp2_with fail
        go_ret
        exact ⟨ret_bool HW.out.symm, rfl⟩

set_option maxHeartbeats 400000 in
theorem isWord (s : ByteArray) (w : World) (hs : s.size ≤ maxLen) :
    Calls Tryd.prog 64 #[.string s] w fun e w' => e = .returned (.bool (isWordB s)) ∧ w = w' := by
  unfold maxLen at hs
  by_cases hl : 1 ≤ s.size ∧ s.size ≤ 10
  · obtain ⟨g1, g2⟩ := hl
    have g0 : ((s.size : Int) == 0) = false := by rw [beq_eq_false_iff_ne]; omega
    go_enter Tryd.func64, Tryd.ntmps64
    go_wp2_with fail
    go_loop [14] (fun i => ∃ k : Nat, k ≤ s.size ∧ i = .int .i64 k ∧ Hid (allAz (s.data.toList.take k) = true)) (fun i => s.size - (intOf i).toNat)
    case atStart => exact ⟨0, Nat.zero_le _, rfl, rfl⟩
    case round =>
      obtain ⟨k, hk, rfl, HA⟩ := hrel
      by_cases hlt : k < s.size
      · by_cases h1 : 97 ≤ s[k].toNat
        · by_cases h2 : s[k].toNat ≤ 122
          · have HN := Lib.hid (az_next s k hlt HA.out (by simp [az, h1, h2]))
            go_wp2_with fail
            go_round
            case rel => exact ⟨k + 1, by omega, by go_num, HN⟩
            case measure => simp [intOf]; omega
          · have HN := Lib.hid (word_no (az_bad s k hlt (by simp [az, h2])))
            go_wp2_with fail
            go_ret
            exact ⟨ret_bool HN.out.symm, rfl⟩
        · have HN := Lib.hid (word_no (az_bad s k hlt (by simp [az, h1])))
          go_wp2_with fail
          go_ret
          exact ⟨ret_bool HN.out.symm, rfl⟩
      · have HN := Lib.hid (az_all s k (by omega) HA.out)
        have HW := Lib.hid (word_yes g1 g2 HN.out)
        go_wp2_with fail
        go_ret
        exact ⟨ret_bool HW.out.symm, rfl⟩
  · have HW := Lib.hid (word_len hl)
    by_cases hz : s.size = 0
    · have g0 : ((s.size : Int) == 0) = true := by rw [beq_iff_eq]; omega
      clear hl hz
      go_enter Tryd.func64, Tryd.ntmps64
      go_wp2_with fail
      go_ret
      exact ⟨ret_bool HW.out.symm, rfl⟩
    · have g0 : ((s.size : Int) == 0) = false := by rw [beq_eq_false_iff_ne]; omega
      have g1 : 10 < s.size := by omega
      clear hl hz
      go_enter Tryd.func64, Tryd.ntmps64
      go_wp2_with fail
      go_ret
      exact ⟨ret_bool HW.out.symm, rfl⟩

theorem in_as (x a b : Int) (v : Bool) (h : inB x a b = v) (w : World) :
    Calls Tryd.prog 47 #[.int .i64 x, .int .i64 a, .int .i64 b] w fun e w' => e = .returned (.bool v) ∧ w = w' := by
  cases v with
  | true => obtain ⟨h1, h2⟩ := inB_yes h; exact in_yes x a b w h1 h2
  | false => exact in_no x a b w (inB_no h)
theorem word_as (s : ByteArray) (v : Bool) (h : isWordB s = v) (hs : s.size ≤ maxLen) (w : World) :
    Calls Tryd.prog 62 #[.string s] w fun e w' => e = .returned (.bool v) ∧ w = w' := by
  subst h; exact l2Word s w hs
theorem iword_as (s : ByteArray) (v : Bool) (h : isWordB s = v) (hs : s.size ≤ maxLen) (w : World) :
    Calls Tryd.prog 64 #[.string s] w fun e w' => e = .returned (.bool v) ∧ w = w' := by
  subst h; exact isWord s w hs
end Go.Proofs.YtneecokjhmnagaaDoor.Word
namespace Go.Proofs.YtneecokjhmnagaaDoor.Bs
open Go.RowKit
set_option linter.unusedVariables false

/-- nothing has turned but the blocks from A up to B; blocks may have been laid -/
structure Apart (A B : Nat) (w w' : World) : Prop where
  os : w'.os = w.os
  tape : w'.tape = w.tape
  output : w'.output = w.output
  size : w.heap.size ≤ w'.heap.size
  block : ∀ k, k < w.heap.size → (k < A ∨ B ≤ k) → w'.heap[k]? = w.heap[k]?
theorem Apart.refl (A B : Nat) (w : World) : Apart A B w w := ⟨rfl, rfl, rfl, Nat.le_refl _, fun _ _ _ => rfl⟩
theorem Apart.trans {A B : Nat} {a b c : World} (h : Apart A B a b) (k : Apart A B b c) : Apart A B a c :=
  ⟨k.os.trans h.os, k.tape.trans h.tape, k.output.trans h.output, Nat.le_trans h.size k.size, fun i hi hn => (k.block i (Nat.lt_of_lt_of_le hi h.size) hn).trans (h.block i hi hn)⟩
theorem Apart.of_below {A B : Nat} {a b : World} (h : Below a.heap.size a b) : Apart A B a b := ⟨h.os, h.tape, h.output, h.size, fun j hj _ => h.block j hj⟩
theorem Apart.of_below_low {A : Nat} {a b : World} (h : Below A a b) : Apart A a.heap.size a b := ⟨h.os, h.tape, h.output, h.size, fun j hj hn => h.block j (by omega)⟩
theorem Apart.wide {A B A' B' : Nat} {a b : World} (h : Apart A B a b) (hA : A' ≤ A) (hB : B ≤ B') : Apart A' B' a b := ⟨h.os, h.tape, h.output, h.size, fun j hj hn => h.block j hj (by omega)⟩
theorem Apart.below {A B B' : Nat} {a b : World} (h : Apart A B a b) (hB : B' ≤ A) (hz : B' ≤ a.heap.size) : Below B' a b :=
  ⟨h.os, h.tape, h.output, h.size, fun k hk => h.block k (by omega) (.inl (by omega))⟩
theorem Apart.set {A B : Nat} {a b : World} (h : Apart A B a b) {p : Addr} (hA : A ≤ p.block) (hB : p.block < B) (v : Value) : Apart A B a (b.setCell p v) :=
  h.trans ⟨rfl, rfl, rfl, by simp, fun k _ hk => heap_setCell_other b p k v (by omega)⟩
theorem Apart.alloc {A B : Nat} {a b : World} (h : Apart A B a b) (o : Obj) : Apart A B a (b.alloc o) := h.trans (Apart.of_below ((Below.refl _ _).alloc (Nat.le_refl _) o))
theorem Apart.on {A B : Nat} {a b c : World} (h : Apart A B a b) (hb : Below b.heap.size b c) : Apart A B a c := h.trans (Apart.of_below hb)

/-- a fact that hangs on the blocks from A up to B alone -/
structure Loc (A B : Nat) (P : World → Prop) (w : World) : Prop where
  le : B ≤ w.heap.size
  all : ∀ w' : World, B ≤ w'.heap.size → (∀ j, A ≤ j → j < B → w'.heap[j]? = w.heap[j]?) → P w'
section
variable {A B : Nat} {P : World → Prop} {w w' : World}
theorem Loc.now (h : Loc A B P w) : P w := h.all w h.le fun _ _ _ => rfl
theorem Loc.same (h : Loc A B P w) (hz : B ≤ w'.heap.size) (hs : ∀ j, A ≤ j → j < B → w'.heap[j]? = w.heap[j]?) : Loc A B P w' :=
  ⟨hz, fun w2 h2 hs2 => h.all w2 h2 fun j h1 h3 => (hs2 j h1 h3).trans (hs j h1 h3)⟩
theorem Loc.kept (h : Loc A B P w) (hb : Below w.heap.size w w') : Loc A B P w' :=
  h.same (Nat.le_trans h.le hb.size) fun j _ hj => hb.block j (Nat.lt_of_lt_of_le hj h.le)
theorem Loc.under {C : Nat} (h : Loc A B P w) (hb : Below C w w') (hC : B ≤ C) : Loc A B P w' :=
  h.same (Nat.le_trans h.le hb.size) fun j _ hj => hb.block j (by omega)
theorem Loc.apart {A' B' : Nat} (h : Loc A B P w) (ha : Apart A' B' w w') (hd : B ≤ A' ∨ B' ≤ A) : Loc A B P w' :=
  h.same (Nat.le_trans h.le ha.size) fun j h1 h2 => ha.block j (by have := h.le; omega) (by omega)
theorem Loc.alloc (h : Loc A B P w) (o : Obj) : Loc A B P (w.alloc o) := h.kept ((Below.refl _ _).alloc (Nat.le_refl _) o)
theorem Loc.imp {Q : World → Prop} (h : Loc A B P w) (hi : ∀ W, P W → Q W) : Loc A B Q w := ⟨h.le, fun w2 h2 hs => hi _ (h.all w2 h2 hs)⟩
end

theorem cell_lt {w : World} {p : Addr} {v : Value} (h : w.cell? p = some v) : p.block < w.heap.size := by
  rcases Nat.lt_or_ge p.block w.heap.size with h' | h'
  · exact h'
  · simp [World.cell?, Array.getElem?_eq_none h'] at h

/-- a type of records: how many cells, which values -/
structure Rec (α : Type) where
  n : Nat
  vals : α → List Value
  len : ∀ a, (vals a).length = n
  pos : 0 < n
  one : ∀ a, ∀ u ∈ vals a, u.oneCell' = true
section
variable {α : Type} (T : Rec α)
def flat (xs : List α) : List Value := xs.flatMap T.vals
theorem flat_cons (x : α) (xs : List α) : flat T (x :: xs) = T.vals x ++ flat T xs := rfl
theorem flat_len : ∀ xs : List α, (flat T xs).length = xs.length * T.n
  | [] => by simp [flat]
  | x :: xs => by rw [flat_cons, List.length_append, flat_len xs, List.length_cons, T.len, Nat.add_mul, Nat.one_mul, Nat.add_comm]
theorem flat_append (xs ys : List α) : flat T (xs ++ ys) = flat T xs ++ flat T ys := by simp [flat]
theorem flat_one (xs : List α) : ∀ u ∈ flat T xs, u.oneCell' = true := by
  intro u hu
  obtain ⟨r, _, hr⟩ := List.mem_flatMap.1 hu
  exact T.one r u hr
theorem flat_at : ∀ (xs : List α) (k j : Nat) (r : α), xs[k]? = some r → j < T.n → (flat T xs)[k * T.n + j]? = (T.vals r)[j]?
  | [], k, j, r, h, _ => by simp at h
  | x :: xs, 0, j, r, h, hj => by
    simp only [List.getElem?_cons_zero, Option.some.injEq] at h
    subst h
    rw [flat_cons, Nat.zero_mul, Nat.zero_add, List.getElem?_append_left (by rw [T.len]; exact hj)]
  | x :: xs, k + 1, j, r, h, hj => by
    rw [List.getElem?_cons_succ] at h
    have e0 : (k + 1) * T.n = k * T.n + T.n := Nat.succ_mul k T.n
    rw [flat_cons, List.getElem?_append_right (by rw [T.len, e0]; omega), T.len]
    have e : (k + 1) * T.n + j - T.n = k * T.n + j := by rw [e0]; omega
    rw [e]
    exact flat_at xs k j r h hj
theorem flat_set : ∀ (ys : List α) (k j : Nat) (r r' : α) (v : Value), ys[k]? = some r → j < T.n → T.vals r' = (T.vals r).set j v → (flat T ys).set (k * T.n + j) v = flat T (ys.set k r')
  | [], k, j, r, r', v, h, _, _ => by simp at h
  | x :: ys, 0, j, r, r', v, h, hj, hv => by
    simp only [List.getElem?_cons_zero, Option.some.injEq] at h
    subst h
    show (T.vals x ++ flat T ys).set (0 * T.n + j) v = T.vals r' ++ flat T ys
    rw [Nat.zero_mul, Nat.zero_add, List.set_append_left _ _ (by rw [T.len]; exact hj), hv]
  | x :: ys, k + 1, j, r, r', v, h, hj, hv => by
    rw [List.getElem?_cons_succ] at h
    show (T.vals x ++ flat T ys).set ((k + 1) * T.n + j) v = T.vals x ++ flat T (ys.set k r')
    have e0 : (k + 1) * T.n = k * T.n + T.n := Nat.succ_mul k T.n
    rw [List.set_append_right _ _ (by rw [T.len, e0]; omega), T.len]
    have e : (k + 1) * T.n + j - T.n = k * T.n + j := by rw [e0]; omega
    rw [e, flat_set ys k j r r' v h hj hv]
/-- the cells of a record at a place -/
def At (w : World) (b p : Nat) (r : α) : Prop := ∀ j v, (T.vals r)[j]? = some v → w.cell? ⟨b, p + j, none⟩ = some v
theorem At.keep {w w' : World} {b p : Nat} {r : α} (h : At T w b p r) (hk : ∀ o, w'.cell? ⟨b, o, none⟩ = w.cell? ⟨b, o, none⟩) : At T w' b p r := fun j v hv => by rw [hk]; exact h j v hv
theorem At.below {w w' : World} {b p B : Nat} {r : α} (h : At T w b p r) (hb : Below B w w') (hl : b < B) : At T w' b p r := h.keep T fun o => hb.cell (p := ⟨b, o, none⟩) hl
/-- a slice of records lies in memory -/
def RowsAt (w : World) (a : Option Addr) (c : Nat) (xs : List α) : Prop :=
  xs.length ≤ c ∧ c ≤ maxLen ∧ (xs = [] ∨ ∃ b o, a = some ⟨b, o, none⟩ ∧ b < w.heap.size ∧ ∀ j r, xs[j]? = some r → At T w b (o + j * T.n) r)
theorem RowsAt.below {w w' : World} {a : Option Addr} {c : Nat} {xs : List α} (h : RowsAt T w a c xs) (hb : Below w.heap.size w w') : RowsAt T w' a c xs := by
  obtain ⟨h1, h2, h3⟩ := h
  refine ⟨h1, h2, ?_⟩
  rcases h3 with h3 | ⟨b, o, rfl, hlt, hc⟩
  · exact .inl h3
  · exact .inr ⟨b, o, rfl, Nat.lt_of_lt_of_le hlt hb.size, fun j r hr => (hc j r hr).below T hb hlt⟩
/-- the record at a place: where it lies -/
theorem RowsAt.at_ {w : World} {a : Option Addr} {c : Nat} {xs : List α} (h : RowsAt T w a c xs) : Hid (∀ j r, xs[j]? = some r → ∃ b o, a = some ⟨b, o, none⟩ ∧ b < w.heap.size ∧ At T w b (o + j * T.n) r) := by
  obtain ⟨_, _, h3⟩ := h
  intro j r hr
  rcases h3 with rfl | ⟨b, o, rfl, hl, hc⟩
  · simp at hr
  · exact ⟨b, o, rfl, hl, hc j r hr⟩
/-- a slice value that reads as these records -/
def Is (w : World) (v : Value) (xs : List α) : Prop := ∃ a c, v = .slice a xs.length c ∧ RowsAt T w a c xs
theorem Is.below {w w' : World} {v : Value} {xs : List α} (h : Is T w v xs) (hb : Below w.heap.size w w') : Is T w' v xs := by
  obtain ⟨a, c, e, h⟩ := h
  exact ⟨a, c, e, h.below T hb⟩
/-- a slice value, not nil, that reads as these records -/
def IsS (w : World) (v : Value) (xs : List α) : Prop := ∃ b o c, v = .slice (some ⟨b, o, none⟩) xs.length c ∧ b < w.heap.size ∧ xs.length ≤ c ∧ c ≤ maxLen ∧ ∀ j r, xs[j]? = some r → At T w b (o + j * T.n) r
theorem IsS.is {w : World} {v : Value} {xs : List α} (h : IsS T w v xs) : Is T w v xs := by
  obtain ⟨b, o, c, e, hb, h1, h2, h3⟩ := h
  exact ⟨_, c, e, h1, h2, .inr ⟨b, o, rfl, hb, h3⟩⟩
/-- all cells of a slice, one by one -/
theorem flat_cells {w : World} {b o : Nat} {xs : List α} (h : ∀ j r, xs[j]? = some r → At T w b (o + j * T.n) r) : ∀ j u, (flat T xs)[j]? = some u → w.cell? ⟨b, o + j, none⟩ = some u := by
  intro j u hu
  have hj : j < xs.length * T.n := by rw [← flat_len]; exact (List.getElem?_eq_some_iff.1 hu).1
  have hp := T.pos
  have hx : j / T.n < xs.length := (Nat.div_lt_iff_lt_mul hp).2 hj
  have hr := List.getElem?_eq_getElem hx
  have hm : j % T.n < T.n := Nat.mod_lt _ hp
  have hf := flat_at T xs (j / T.n) (j % T.n) _ hr hm
  have e : j / T.n * T.n + j % T.n = j := Nat.div_add_mod' j T.n
  rw [e, hu] at hf
  have := h _ _ hr (j % T.n) u hf.symm
  rwa [show o + j / T.n * T.n + j % T.n = o + j by rw [Nat.add_assoc, e]] at this
/-- a slice value of the call's own, its block at A or above, that holds these records -/
def Own (E : TypeId) (w : World) (A : Nat) (v : Value) (xs : List α) : Prop := w.ownsRow A E T.n v xs.length (flat T xs)
variable {T} {E : TypeId} {w w' : World} {A B : Nat} {v : Value} {xs : List α}
theorem Own.shape (h : Own T E w A v xs) : (v = .slice none 0 0 ∧ xs = []) ∨ ∃ g cap, v = .slice (some ⟨g, 0, none⟩) xs.length cap ∧ A ≤ g ∧ g < w.heap.size ∧ xs.length ≤ cap ∧ cap ≤ maxLen := by
  rcases h.2 with ⟨h', hz⟩ | ⟨g, cap, cur, h', hbg, hg, hnc, hcm, _, _⟩
  · exact .inl ⟨h', List.eq_nil_of_length_eq_zero hz⟩
  · exact .inr ⟨g, cap, h', hbg, (Array.getElem?_eq_some_iff.1 hg).1, hnc, hcm⟩
theorem Own.same (h : Own T E w A v xs) (hs : ∀ k, v.ownBlock = some k → w'.heap[k]? = w.heap[k]?) : Own T E w' A v xs := by
  refine ⟨h.1, ?_⟩
  rcases h.2 with hn | ⟨g, cap, cur, rfl, hbg, hgg, rest⟩
  · exact .inl hn
  · refine .inr ⟨g, cap, cur, rfl, hbg, ?_, rest⟩
    rw [hs g rfl]
    exact hgg
theorem Own.kept (h : Own T E w A v xs) (hb : Below w.heap.size w w') : Own T E w' A v xs := h.same fun k hk => hb.block k (h.lt k hk).2
theorem Own.low {A' : Nat} (h : Own T E w A v xs) (hA : A' ≤ A) : Own T E w A' v xs := by
  refine ⟨h.1, ?_⟩
  rcases h.2 with hn | ⟨g, cap, cur, rfl, hbg, rest⟩
  · exact .inl hn
  · exact .inr ⟨g, cap, cur, rfl, Nat.le_trans hA hbg, rest⟩
theorem Own.alloc (h : Own T E w A v xs) (o : Obj) : Own T E (w.alloc o) A v xs := h.kept ((Below.refl _ _).alloc (Nat.le_refl _) o)
/-- an empty slice that was just built -/
theorem Own.start (h : A ≤ w.heap.size) : Own T E (w.alloc (.cells #[] E)) A (.slice (some ⟨w.heap.size, 0, none⟩) 0 0) [] := by
  refine ⟨by simp [flat], .inr ⟨w.heap.size, 0, #[], rfl, h, ?_, Nat.le_refl _, Nat.zero_le _, by simp, by simp [flat]⟩⟩
  show (w.heap.push _)[w.heap.size]? = _
  rw [Array.getElem?_push, if_pos rfl]
theorem Own.nil : Own T E w A (.slice none 0 0) [] := ⟨by simp [flat], .inl ⟨rfl, rfl⟩⟩
theorem Own.is (h : Own T E w A v xs) : Is T w v xs := by
  rcases h.shape with ⟨rfl, rfl⟩ | ⟨g, cap, rfl, _, hlt, hc, hm⟩
  · exact ⟨none, 0, rfl, Nat.le_refl _, Nat.zero_le _, .inl rfl⟩
  · refine ⟨_, cap, rfl, hc, hm, .inr ⟨g, 0, rfl, hlt, fun j r hr i u hu => ?_⟩⟩
    have hi : i < T.n := by rw [← T.len r]; exact (List.getElem?_eq_some_iff.1 hu).1
    have hcell := World.ownsRow.cells h (g := g) rfl (j * T.n + i) u (by rw [flat_at T xs j i r hr hi]; exact hu)
    rw [Go.WideShapes.add_plain] at hcell
    rw [show 0 + j * T.n + i = 0 + (j * T.n + i) by omega]
    exact hcell
theorem Own.isS (h : Own T E w A v xs) (hv : ∃ g, v.ownBlock = some g) : IsS T w v xs := by
  obtain ⟨g0, hg0⟩ := hv
  rcases h.shape with ⟨rfl, rfl⟩ | ⟨g, cap, rfl, _, hlt, hc, hm⟩
  · cases hg0
  · refine ⟨g, 0, cap, rfl, hlt, hc, hm, fun j r hr i u hu => ?_⟩
    have hi : i < T.n := by rw [← T.len r]; exact (List.getElem?_eq_some_iff.1 hu).1
    have hcell := World.ownsRow.cells h (g := g) rfl (j * T.n + i) u (by rw [flat_at T xs j i r hr hi]; exact hu)
    rw [Go.WideShapes.add_plain] at hcell
    rw [show 0 + j * T.n + i = 0 + (j * T.n + i) by omega]
    exact hcell
theorem Own.rows {g n cap : Nat} (hn : xs.length = n) (h : Own T E w A (.slice (some ⟨g, 0, none⟩) n cap) xs) : RowsAt T w (some ⟨g, 0, none⟩) cap xs := by
  obtain ⟨a, c, e, hr⟩ := h.is
  simp only [Value.slice.injEq] at e
  obtain ⟨rfl, _, rfl⟩ := e
  exact hr
/-- the cells of a record of the row -/
theorem Own.at_ {g n cap : Nat} (h : Own T E w A (.slice (some ⟨g, 0, none⟩) n cap) xs) (k : Nat) (r : α) (hr : xs[k]? = some r) : At T w g (k * T.n) r := fun i u hu => by
  have hi : i < T.n := by rw [← T.len r]; exact (List.getElem?_eq_some_iff.1 hu).1
  have hcell := World.ownsRow.cells h (g := g) rfl (k * T.n + i) u (by rw [flat_at T xs k i r hr hi]; exact hu)
  rw [Go.WideShapes.add_plain] at hcell
  rw [show k * T.n + i = 0 + (k * T.n + i) by omega]
  exact hcell
theorem Own.frozen {g n cap : Nat} (hn : xs.length = n) (h : Own T E w A (.slice (some ⟨g, 0, none⟩) n cap) xs) (o : Nat) : w.frozen? ⟨g, o, none⟩ = false := by
  subst hn
  exact World.ownsRow.frozenAt h o
/-- a store into one cell -/
theorem Own.put {g n cap : Nat} (hn : xs.length = n) (h : Own T E w A (.slice (some ⟨g, 0, none⟩) n cap) xs) (k j : Nat) (r r' : α) (u : Value) (hr : xs[k]? = some r) (hj : j < T.n) (hv : T.vals r' = (T.vals r).set j u) :
    Own T E (w.setCell ⟨g, k * T.n + j, none⟩ u) A (.slice (some ⟨g, 0, none⟩) n cap) (xs.set k r') := by
  subst hn
  unfold Own
  rw [← flat_set T xs k j r r' u hr hj hv, List.length_set]
  exact (World.ownsRow.stored h (k * T.n + j) u).1
/-- made by an append of one record that lies somewhere -/
theorem Own.next {n : Nat} {news : List α} (h : w.ownsRow A E T.n v (xs.length + news.length) (flat T xs ++ flat T news)) : Own T E w A v (xs ++ news) := by
  unfold Own
  rw [List.length_append, flat_append]
  exact h
/-- an owned value whose block lies between A and B -/
def OwnB (T : Rec α) (E : TypeId) (A B : Nat) (v : Value) (xs : List α) (w : World) : Prop := Own T E w A v xs ∧ ∀ k, v.ownBlock = some k → k < B
theorem Own.loc (h : Own T E w A v xs) : Loc A w.heap.size (OwnB T E A w.heap.size v xs) w :=
  ⟨Nat.le_refl _, fun w' hz hs => ⟨h.same fun k hk => hs k (h.lt k hk).1 (h.lt k hk).2, fun k hk => (h.lt k hk).2⟩⟩
theorem OwnB.loc (h : OwnB T E A B v xs w) (hB : B ≤ w.heap.size) : Loc A B (OwnB T E A B v xs) w :=
  ⟨hB, fun w' hz hs => ⟨h.1.same fun k hk => hs k (h.1.lt k hk).1 (h.2 k hk), h.2⟩⟩
/-- what came in -/
theorem Is.loc (h : Is T w v xs) : Loc 0 w.heap.size (fun W => Is T W v xs) w := by
  refine ⟨Nat.le_refl _, fun w' hz hs => ?_⟩
  obtain ⟨a, c, e, h1, h2, h3⟩ := h
  refine ⟨a, c, e, h1, h2, ?_⟩
  rcases h3 with h3 | ⟨b, o, rfl, hlt, hc⟩
  · exact .inl h3
  · refine .inr ⟨b, o, rfl, Nat.lt_of_lt_of_le hlt hz, fun j r hr => (hc j r hr).keep T fun p => ?_⟩
    exact World.cell?_of_block (a := ⟨b, p, none⟩) (hs b (Nat.zero_le _) hlt)
end
theorem boxLoc {α : Type} (T : Rec α) {w : World} {o : Obj} {r : α} (h : At T (w.alloc o) w.heap.size 0 r) : Loc w.heap.size (w.heap.size + 1) (fun W => At T W w.heap.size 0 r) (w.alloc o) :=
  ⟨by simp, fun w' hz hs => h.keep T fun p => World.cell?_of_block (a := ⟨w.heap.size, p, none⟩) (hs _ (Nat.le_refl _) (Nat.lt_succ_self _))⟩
/-- an append to a slice of the call's own, as a step of a region that draws its order -/
theorem step_append {P : Program} {w : World} {ops : Array Oper} {o : Oper} {a : Act} {K : Act → World → Prop} {Q : Exit → Act → World → Prop} {E : Prop} (hgd : o.guard = none) (s x : Operand) (t : TypeId)
    (ho : o.op = .call { callee := .builtin .append, args := #[s, x], argTypes := #[t, t] })
    (base : Nat) (e : TypeId) (i : TypeInfo) (z : Value) (size bytes : Nat) (ht : P.underlying t = some (.slice e)) (hi : P.info? e = some i) (hz : i.zero = some z)
    (hsize : i.size = size) (hby : i.bytes = bytes) (hzs : z.cells.size = size) (hsz : 0 < size)
    (v : Value) (n : Nat) (xs : List Value) (hs : a.eval s = v) (hown : w.ownsRow base e size v n xs)
    (ad : Addr) (m c : Nat) (news : List Value) (hx : a.eval x = .slice (some ad) m c) (hl : news.length = m * size) (hnews : ∀ j u, news[j]? = some u → w.cell? (ad.add j) = some u) (h1 : ∀ u ∈ news, u.oneCell' = true)
    (h63 : n + m ≤ maxLen) (hbytes : (n + m) * bytes ≤ 140737488355328) (hbase : base ≤ w.heap.size)
    (h : ∀ v' w', w'.ownsRow base e size v' (n + m) (xs ++ news) → w.grownBy w' v.ownBlock → K (a.put o.dst v') w') :
    if Region.wanted o (yielded ops a.tmps) = true then Oper.wp P o a w K Q else E := by
  have hw : Region.wanted o (yielded ops a.tmps) = true := by simp [Region.wanted, hgd]
  rw [if_pos hw]
  exact wp_append_own w s x t ho base e i z size bytes ht hi hz hsize hby hzs hsz v n xs hs hown ad m c news hx hl hnews h1 h63 hbytes hbase fun v' w' h2 h3 _ => h v' w' h2 h3
theorem ret_true : Ending.returned (.bool true) = .returned (.bool true) := rfl
/-- a callee that leaves the world alone, met in a quiet region -/
theorem quiet_eq {P : Program} {f : FuncId} {args : Array Value} {w : World} {n : Nat} {v : Value}
    (h : Calls P f args (w.drewN n) fun e w' => e = .returned v ∧ w.drewN n = w') : Calls P f args (w.drewN n) fun e w'' => e = .returned v ∧ ∃ m, w'' = w.drewN m :=
  h.mono fun _ _ ⟨he, hm⟩ => ⟨he, n, hm.symm⟩
/-- the same in a region where memory may be made -/
theorem regrown_eq {P : Program} {f : FuncId} {args : Array Value} {w : World} {d : Nat} {os : Array Obj} {v : Value}
    (h : Calls P f args (Sort.grow (redrawn w d) os) fun e w' => e = .returned v ∧ Sort.grow (redrawn w d) os = w') : Calls P f args (Sort.grow (redrawn w d) os) fun e w'' => e = .returned v ∧ ∃ p : Regrown, w'' = Sort.grow (redrawn w p.d) p.os :=
  Calls.regrown_of (h.mono fun _ _ ⟨he, hm⟩ => ⟨he, by rw [← hm]; exact Below.refl _ _⟩)
theorem drawn_below (w : World) (n : Nat) : Below w.heap.size w (w.drewN n) := ⟨rfl, rfl, rfl, Nat.le_refl _, fun _ _ => rfl⟩
/-- the head of a slice, and its rest -/
theorem IsS.take {α : Type} (T : Rec α) {w : World} {b o n c k : Nat} {z : List α} (h : IsS T w (.slice (some ⟨b, o, none⟩) n c) z) (hk : k ≤ n) : IsS T w (.slice (some ⟨b, o, none⟩) k c) (z.take k) := by
  obtain ⟨b', o', c', e, hbl, h1, h2, h3⟩ := h
  simp only [Value.slice.injEq, Option.some.injEq, Addr.mk.injEq, and_true] at e
  obtain ⟨⟨rfl, rfl⟩, rfl, rfl⟩ := e
  refine ⟨b, o, c, by rw [List.length_take, Nat.min_eq_left hk], hbl, by rw [List.length_take, Nat.min_eq_left hk]; omega, h2, fun i r hr => h3 i r ?_⟩
  rw [List.getElem?_take] at hr
  split at hr
  · exact hr
  · cases hr
theorem IsS.drop {α : Type} (T : Rec α) {w : World} {b o n c k : Nat} {z : List α} (t : Option Addr) (ht : t = if c = k then some ⟨b, o, none⟩ else some ⟨b, o + k * T.n, none⟩) (h : IsS T w (.slice (some ⟨b, o, none⟩) n c) z) (hk : k ≤ n) (m3 c3 : Nat) (hm3 : m3 = n - k) (hc3 : c3 = c - k) : IsS T w (.slice t m3 c3) (z.drop k) := by
  subst hm3 hc3
  obtain ⟨b', o', c', e, hbl, h1, h2, h3⟩ := h
  simp only [Value.slice.injEq, Option.some.injEq, Addr.mk.injEq, and_true] at e
  obtain ⟨⟨rfl, rfl⟩, rfl, rfl⟩ := e
  by_cases hck : c = k
  · rw [if_pos hck] at ht
    subst ht
    refine ⟨b, o, c - k, by rw [List.length_drop], hbl, by rw [List.length_drop]; omega, by unfold maxLen at h2 ⊢; omega, fun i r hr => ?_⟩
    rw [List.drop_eq_nil_of_le (by omega)] at hr
    simp at hr
  · rw [if_neg hck] at ht
    subst ht
    refine ⟨b, o + k * T.n, c - k, by rw [List.length_drop], hbl, by rw [List.length_drop]; omega, by unfold maxLen at h2 ⊢; omega, fun i r hr => ?_⟩
    have h := h3 (k + i) r (by rw [List.getElem?_drop] at hr; exact hr)
    rwa [Nat.add_mul, ← Nat.add_assoc] at h
theorem IsS.below {α : Type} (T : Rec α) {w w' : World} {v : Value} {z : List α} (h : IsS T w v z) (hb : Below w.heap.size w w') : IsS T w' v z := by
  obtain ⟨b, o, c, e, hbl, h1, h2, h3⟩ := h
  exact ⟨b, o, c, e, Nat.lt_of_lt_of_le hbl hb.size, h1, h2, fun j r hr => (h3 j r hr).below T hb hbl⟩
/-- a slice of one record that lies at a block's head -/
theorem IsS.unit {α : Type} (T : Rec α) {w : World} {g : Nat} {x : α} (hg : g < w.heap.size) (h : At T w g 0 x) : IsS T w (.slice (some ⟨g, 0, none⟩) 1 1) [x] := by
  refine ⟨g, 0, 1, rfl, hg, Nat.le_refl _, by unfold maxLen; omega, fun i r hr => ?_⟩
  match i, hr with
  | 0, hr =>
    simp only [List.getElem?_cons_zero, Option.some.injEq] at hr
    subst hr
    rw [Nat.zero_mul]
    exact h
  | i + 1, hr => simp at hr
theorem alloc_two (W : World) (o1 o2 : Obj) : ((W.alloc o1).alloc o2).heap[W.heap.size + 1]? = some o2 := by simpa using heap_alloc_new (W.alloc o1) o2
theorem alloc_old (W : World) (o1 o2 : Obj) : ((W.alloc o1).alloc o2).heap[W.heap.size]? = some o1 := (Below.heap_alloc _ _ _ (by simp)).trans (heap_alloc_new _ _)
theorem ite_slice (c : Prop) [Decidable c] (x y : Addr) (n m : Nat) : Value.slice (if c then some x else some y) n m = .slice (some (if c then x else y)) n m := by split <;> rfl
theorem own_in {w : World} {A : Nat} {e : TypeId} {size n : Nat} {v : Value} {xs : List Value} (h : w.ownsRow A e size v (0 + n) ([] ++ xs)) : w.ownsRow A e size v n xs := by
  rwa [Nat.zero_add, List.nil_append] at h
theorem own_ge {B g n c k : Nat} (hj : (Value.slice (some ⟨g, 0, none⟩) n c).ownBlock = some k) (h : B ≤ g) : B ≤ k := by
  simp only [Value.ownBlock, Option.some.injEq] at hj
  omega
theorem IsS.flatCells {α : Type} (T : Rec α) {w : World} {b o n c : Nat} {z : List α} (h : IsS T w (.slice (some ⟨b, o, none⟩) n c) z) : ∀ j u, (flat T z)[j]? = some u → w.cell? (Addr.add ⟨b, o, none⟩ j) = some u := fun j u hu => by
  obtain ⟨b', o', c', e, hbl, h1, h2, h3⟩ := h
  simp only [Value.slice.injEq, Option.some.injEq, Addr.mk.injEq, and_true] at e
  obtain ⟨⟨rfl, rfl⟩, rfl, rfl⟩ := e
  rw [Go.WideShapes.add_plain]
  exact flat_cells T h3 j u hu
theorem own_of {α : Type} (T : Rec α) {E : TypeId} {w : World} {A cnt : Nat} {v : Value} {cells : List Value} {xs : List α} (h : w.ownsRow A E T.n v cnt cells) (hc : xs.length = cnt) (hf : flat T xs = cells) : Own T E w A v xs := by
  unfold Own; rw [hc, hf]; exact h
end Go.Proofs.YtneecokjhmnagaaDoor.Bs
namespace Go.Proofs.YtneecokjhmnagaaDoor.LMember
open Go.RowKit Bs
set_option linter.unusedVariables false

structure R where
  num : Int
  name : ByteArray
  off : Int
def vals (r : R) : List Value := [.int .i64 r.num, .string r.name, .int .i64 r.off]
/-- the struct as a type of records -/
def rec : Rec R := ⟨3, vals, fun _ => rfl, by decide, fun r u hu => by
  simp only [vals, List.mem_cons, List.not_mem_nil, or_false] at hu
  rcases hu with rfl | rfl | rfl <;> rfl⟩
theorem rec_n : rec.n = 3 := rfl
theorem info : (Tryd.prog.info? 60).map (fun i => (i.zero, i.size)) = some (some (.agg #[.int .i64 0, .string ⟨#[]⟩, .int .i64 0]), 3) := by kernel_rfl
theorem cells {w : World} {b p : Nat} {r : R} (h : At rec w b p r) : w.cell? ⟨b, p, none⟩ = some (.int .i64 r.num) ∧ w.cell? ⟨b, p + 1, none⟩ = some (.string r.name) ∧ w.cell? ⟨b, p + 2, none⟩ = some (.int .i64 r.off) :=
  ⟨h 0 _ rfl, h 1 _ rfl, h 2 _ rfl⟩
theorem cells0 {w : World} {b : Nat} {r : R} (h : At rec w b 0 r) : w.cell? ⟨b, 0, none⟩ = some (.int .i64 r.num) ∧ w.cell? ⟨b, 1, none⟩ = some (.string r.name) ∧ w.cell? ⟨b, 2, none⟩ = some (.int .i64 r.off) := by
  have := cells h
  simpa only [Nat.zero_add] using this
theorem at_of {w : World} {b p : Nat} {r : R} (h0 : w.cell? ⟨b, p, none⟩ = some (.int .i64 r.num)) (h1 : w.cell? ⟨b, p + 1, none⟩ = some (.string r.name)) (h2 : w.cell? ⟨b, p + 2, none⟩ = some (.int .i64 r.off)) : At rec w b p r := fun j v hv => by
  have hj : j < 3 := (List.getElem?_eq_some_iff.1 hv).1
  match j, hj with
  | 0, _ => rw [← hv]; exact h0
  | 1, _ => rw [← hv]; exact h1
  | 2, _ => rw [← hv]; exact h2
/-- a record that was boxed -/
theorem box (w : World) (r : R) (t : TypeId) : At rec (w.alloc (.cells #[.int .i64 r.num, .string r.name, .int .i64 r.off] t)) w.heap.size 0 r := at_of (by simp [go_sem]) (by simp [go_sem]) (by simp [go_sem])
/-- facts of a record in all worlds that only grew -/
theorem grown {w : World} {b p : Nat} {r : R} (h : At rec w b p r) (hl : b < w.heap.size) : Hid (∀ d os, At rec (Sort.grow (redrawn w d) os) b p r) := fun d os => h.below rec (below_regrown w d os) hl
def zero : R := ⟨0, ⟨#[]⟩, 0⟩
theorem made_zero (n : Nat) : (madeCells (#[.int .i64 0, .string ⟨#[]⟩, .int .i64 0] : Array Value) (n * 3)).toList = flat rec (List.replicate n zero) := by
  apply List.ext_getElem?
  intro i
  rw [madeCells]
  by_cases hi : i < n * 3
  · have h1 := flat_at rec (List.replicate n zero) (i / 3) (i % 3) zero (by rw [List.getElem?_replicate, if_pos (by omega)]) (by rw [rec_n]; omega)
    have e : i / 3 * 3 + i % 3 = i := by omega
    rw [rec_n, e] at h1
    rw [h1]
    have hs : (#[.int .i64 0, .string ⟨#[]⟩, .int .i64 0] : Array Value).size = 3 := rfl
    simp only [hs, Array.toList_map, List.getElem?_map, Array.toList_range, List.getElem?_range hi, Option.map_some]
    have h7 : i % 3 < 3 := by omega
    generalize i % 3 = m at *
    match m, h7 with
    | 0, _ => rfl
    | 1, _ => rfl
    | 2, _ => rfl
  · rw [List.getElem?_eq_none (by simp; omega), List.getElem?_eq_none (by rw [flat_len, List.length_replicate, rec_n]; omega)]
/-- what a copy holds after k stores -/
def part (xs : List R) (n k : Nat) : List R := xs.take k ++ List.replicate (n - k) zero
theorem part_len (xs : List R) (n k : Nat) (h : xs.length = n) (hk : k ≤ n) : (part xs n k).length = n := by simp [part]; omega
theorem part_zero (xs : List R) (n : Nat) : part xs n 0 = List.replicate n zero := by simp [part]
theorem part_all (xs : List R) (n : Nat) (h : xs.length = n) : part xs n n = xs := by
  unfold part; rw [List.take_of_length_le (by omega), Nat.sub_self]; simp
theorem part_set (xs : List R) (n k : Nat) (h : xs.length = n) (hk : k < xs.length) : (part xs n k).set k xs[k] = part xs n (k + 1) := by
  unfold part
  have hl : (xs.take k).length = k := by rw [List.length_take]; omega
  rw [List.set_append_right _ _ (by omega), hl, Nat.sub_self]
  have e : n - k = (n - (k + 1)) + 1 := by omega
  rw [e, List.replicate_succ, List.set_cons_zero, List.take_succ_eq_append_getElem hk, List.append_assoc]
  rfl
theorem part_at (xs : List R) (n k : Nat) (h : xs.length = n) (hk : k < n) : (part xs n k)[k]? = some zero := by
  unfold part
  have hl : (xs.take k).length = k := by rw [List.length_take]; omega
  rw [List.getElem?_append_right (by omega), hl, Nat.sub_self, List.getElem?_replicate, if_pos (by omega)]
abbrev OwnR (w : World) (A g n cap : Nat) (ys : List R) : Prop := Own rec 60 w A (.slice (some ⟨g, 0, none⟩) n cap) ys
/-- a store of some fields, one after the other -/
theorem putAll {w : World} {A g n cap : Nat} {ys : List R} (hn : ys.length = n) (h : OwnR w A g n cap ys) (k : Nat) (r0 r : R) (hr : ys[k]? = some r0) :
    OwnR (((w.setCell ⟨g, k * 3, none⟩ (.int .i64 r.num)).setCell ⟨g, k * 3 + 1, none⟩ (.string r.name)).setCell ⟨g, k * 3 + 2, none⟩ (.int .i64 r.off)) A g n cap (ys.set k r) := by
  have hk : k < ys.length := (List.getElem?_eq_some_iff.1 hr).1
  have at_ : ∀ x : R, (ys.set k x)[k]? = some x := fun x => by simp [hk]
  have hl : ∀ x : R, (ys.set k x).length = n := fun x => by rw [List.length_set]; exact hn
  have h0 := Own.put hn h k 0 r0 ({ r0 with num := r.num }) (.int .i64 r.num) hr (by decide) rfl
  have h1 := Own.put (hl _) h0 k 1 _ ({ r0 with num := r.num, name := r.name }) (.string r.name) (at_ _) (by decide) rfl
  rw [List.set_set] at h1
  have h2 := Own.put (hl _) h1 k 2 _ (r) (.int .i64 r.off) (at_ _) (by decide) rfl
  rw [List.set_set] at h2
  exact h2
end Go.Proofs.YtneecokjhmnagaaDoor.LMember
namespace Go.Proofs.YtneecokjhmnagaaDoor.LMember
open Go.RowKit Bs
set_option linter.unusedVariables false
def wt (r : R) : Nat := r.name.size
def Fine (r : R) : Prop := r.name.size ≤ maxLen
def tot (xs : List R) : Nat := (xs.map wt).sum
theorem tot_next (xs : List R) (k : Nat) (h : k < xs.length) : tot (xs.take (k + 1)) = tot (xs.take k) + wt xs[k] := by
  rw [List.take_succ_eq_append_getElem h]; unfold tot; rw [List.map_append, List.sum_append]; simp
theorem tot_take_le (xs : List R) (k : Nat) : tot (xs.take k) ≤ tot xs := by
  have := congrArg tot (List.take_append_drop k xs)
  have e : ∀ a b : List R, tot (a ++ b) = tot a + tot b := fun a b => by simp [tot]
  rw [e] at this
  omega
theorem mem_le (xs : List R) (x : R) (h : x ∈ xs) : wt x ≤ tot xs := by
  induction xs with
  | nil => cases h
  | cons y ys ih =>
    simp only [tot, List.map_cons, List.sum_cons] at ih ⊢
    rcases List.mem_cons.1 h with rfl | h
    · omega
    · have := ih h; omega
/-- what is left behind something of a weight -/
def Left (t : Nat) (l : Int) (w : World) (e : Ending) (w' : World) : Prop := Below w.heap.size w w' ∧ ∃ x : Int, e = .returned (.int .i64 x) ∧ ((x < 0 ∧ l < t) ∨ (x = l - t ∧ (t : Int) ≤ l))
end Go.Proofs.YtneecokjhmnagaaDoor.LMember
namespace Go.Proofs.YtneecokjhmnagaaDoor.Mem
open Go.RowKit Bs Word
set_option linter.unusedVariables false

abbrev M := LMember.R
def okB (r : M) : Bool := (inB r.num 1 99 && isWordB r.name) && inB r.off 0 3
/-- the later one r does not go with the earlier one p -/
def clash (p r : M) : Bool := (p.name.toList == r.name.toList) || (r.off != 0 && p.off == r.off)
/-- the head of a place: valid, and behind its neighbour -/
def HeadOk (xs : List M) (i : Nat) : Prop := ∃ r, xs[i]? = some r ∧ okB r = true ∧ ∀ p, 0 < i → xs[i - 1]? = some p → p.num < r.num
def Step (xs : List M) (i : Nat) : Prop := HeadOk xs i ∧ ∀ k q r, k < i → xs[k]? = some q → xs[i]? = some r → clash q r = false
def GoodP (xs : List M) : Prop := xs.length ≤ 12 ∧ ∀ i, i < xs.length → Step xs i
open Classical in
noncomputable def goodB (xs : List M) : Bool := decide (GoodP xs)
open Classical in
theorem good_yes {xs : List M} (h : GoodP xs) : goodB xs = true := decide_eq_true h
open Classical in
theorem good_no {xs : List M} (h : ¬ GoodP xs) : goodB xs = false := decide_eq_false h
open Classical in
theorem good_of {xs : List M} (h : goodB xs = true) : GoodP xs := of_decide_eq_true h
theorem no_len {xs : List M} (h : 12 < xs.length) : goodB xs = false := good_no fun g => by have := g.1; omega
theorem no_ok {xs : List M} {i : Nat} {r : M} (hr : xs[i]? = some r) (h : okB r = false) : goodB xs = false := good_no fun g => by
  obtain ⟨⟨r', hr', ho, _⟩, _⟩ := g.2 i (List.getElem?_eq_some_iff.1 hr).1
  rw [hr] at hr'; rw [← Option.some.inj hr', h] at ho; cases ho
theorem no_asc {xs : List M} {i : Nat} {r p : M} (hr : xs[i]? = some r) (h0 : 0 < i) (hp : xs[i - 1]? = some p) (h : r.num ≤ p.num) : goodB xs = false := good_no fun g => by
  obtain ⟨⟨r', hr', _, ho⟩, _⟩ := g.2 i (List.getElem?_eq_some_iff.1 hr).1
  rw [hr] at hr'
  have := ho p h0 hp
  rw [← Option.some.inj hr'] at this
  omega
theorem no_clash {xs : List M} {i k : Nat} {r q : M} (hr : xs[i]? = some r) (hk : k < i) (hq : xs[k]? = some q) (h : clash q r = true) : goodB xs = false := good_no fun g => by
  have := (g.2 i (List.getElem?_eq_some_iff.1 hr).1).2 k q r hk hq hr
  rw [h] at this; cases this
theorem steps_next {xs : List M} {k : Nat} (hs : ∀ i, i < k → Step xs i) (h : Step xs k) : ∀ i, i < k + 1 → Step xs i := fun i hi => by
  rcases Nat.lt_or_ge i k with h' | h'
  · exact hs i h'
  · rwa [show i = k by omega]
theorem clash_next {xs : List M} {m : Nat} {X P : M} (h : ∀ j q, j < m → xs[j]? = some q → clash q X = false) (hp : xs[m]? = some P) (hc : clash P X = false) : ∀ j q, j < m + 1 → xs[j]? = some q → clash q X = false := fun j q hj hq => by
  rcases Nat.lt_or_ge j m with h' | h'
  · exact h j q h' hq
  · obtain rfl : j = m := by omega
    rw [hp] at hq; rw [← Option.some.inj hq]; exact hc
theorem step_mk {xs : List M} {k : Nat} {X : M} (hx : xs[k]? = some X) (h1 : HeadOk xs k) (h2 : ∀ j q, j < k → xs[j]? = some q → clash q X = false) : Step xs k :=
  ⟨h1, fun j q r hj hq hr => by rw [hx] at hr; rw [← Option.some.inj hr]; exact h2 j q hj hq⟩
/-- what a place's first test tells: true is bad -/
def Head (xs : List M) (i : Nat) (v : Bool) : Prop := (v = true → goodB xs = false) ∧ (v = false → HeadOk xs i)
theorem head_bad {xs : List M} {i : Nat} (h : goodB xs = false) : Head xs i true := ⟨fun _ => h, (fun h => by cases h)⟩
theorem head_fine {xs : List M} {i : Nat} (h : HeadOk xs i) : Head xs i false := ⟨(fun h => by cases h), fun _ => h⟩
theorem ok_parts {r : M} (h : okB r = true) : (1 ≤ r.num ∧ r.num ≤ 99) ∧ isWordB r.name = true ∧ (0 ≤ r.off ∧ r.off ≤ 3) := by
  unfold okB at h
  simp only [Bool.and_eq_true] at h
  exact ⟨inB_yes h.1.1, h.1.2, inB_yes h.2⟩

theorem l3Office (x : Int) (w : World) : Calls Tryd.prog 63 #[.int .i64 x] w fun e w' => e = .returned (.bool (inB x 0 3)) ∧ w = w' := by
  have HI := Lib.hid (fun W => in_as x 0 3 _ rfl W)
  go_enter Tryd.func63, Tryd.ntmps63
  go_wp2_with fail
  refine (HI.out _).mono ?_
  rintro e w' ⟨rfl, rfl⟩
  go_wp2_with fail
  go_ret
  exact ⟨rfl, rfl⟩
theorem isOffice (x : Int) (w : World) : Calls Tryd.prog 65 #[.int .i64 x] w fun e w' => e = .returned (.bool (inB x 0 3)) ∧ w = w' := by
  by_cases h0 : 0 ≤ x
  · have HD := Lib.hid (show decide (x ≤ 3) = inB x 0 3 by unfold inB; by_cases h : x ≤ 3 <;> simp [h, h0])
    go_enter Tryd.func65, Tryd.ntmps65
    go_wp2_with fail
    go_ret
    exact ⟨ret_bool HD.out, rfl⟩
  · have HD := Lib.hid (show inB x 0 3 = false from inB_not (fun h => h0 h.1))
    go_enter Tryd.func65, Tryd.ntmps65
    go_wp2_with fail
    go_ret
    exact ⟨ret_bool HD.out.symm, rfl⟩
theorem office_as (x : Int) (v : Bool) (h : inB x 0 3 = v) (w : World) : Calls Tryd.prog 63 #[.int .i64 x] w fun e w' => e = .returned (.bool v) ∧ w = w' := by
  subst h; exact l3Office x w
theorem ioffice_as (x : Int) (v : Bool) (h : inB x 0 3 = v) (w : World) : Calls Tryd.prog 65 #[.int .i64 x] w fun e w' => e = .returned (.bool v) ∧ w = w' := by
  subst h; exact isOffice x w
set_option maxHeartbeats 800000 in
theorem isValidMember (r : M) (w : World) (hs : r.name.size ≤ maxLen) :
    Calls Tryd.prog 36 #[.agg #[.int .i64 r.num, .string r.name, .int .i64 r.off]] w fun e w' => e = .returned (.bool (okB r)) ∧ Below w.heap.size w w' := by
  have HS := Lib.hid hs
  have hb := (Below.refl w.heap.size w).alloc (Nat.le_refl _) (Obj.cells #[.int .i64 r.num, .string r.name, .int .i64 r.off] 60)
  clear hs
  by_cases a1 : 1 ≤ r.num
  · by_cases a2 : r.num ≤ 99
    · cases h2 : isWordB r.name with
      | true =>
        have HO := Lib.hid (show okB r = inB r.off 0 3 by unfold okB; rw [inB_mk a1 a2, h2]; rfl)
        have HW := Lib.hid (fun W => iword_as r.name true h2 HS.out W)
        clear h2
        go_enter Tryd.func36, Tryd.ntmps36
        go_wp2_with fail
        refine (HW.out _).mono ?_
        rintro e w' ⟨rfl, rfl⟩
        go_wp2_with fail
        refine (isOffice _ _).mono ?_
        rintro e w' ⟨rfl, rfl⟩
        go_wp2_with fail
        go_ret
        exact ⟨ret_bool HO.out.symm, hb⟩
      | false =>
        have HO := Lib.hid (show okB r = false by unfold okB; rw [h2, Bool.and_false]; rfl)
        have HW := Lib.hid (fun W => iword_as r.name false h2 HS.out W)
        clear h2
        go_enter Tryd.func36, Tryd.ntmps36
        go_wp2_with fail
        refine (HW.out _).mono ?_
        rintro e w' ⟨rfl, rfl⟩
        go_wp2_with fail
        go_ret
        exact ⟨ret_bool HO.out.symm, hb⟩
    · have HO := Lib.hid (show okB r = false by unfold okB; rw [inB_not (fun h => a2 h.2)]; rfl)
      go_enter Tryd.func36, Tryd.ntmps36
      go_wp2_with fail
      go_ret
      exact ⟨ret_bool HO.out.symm, hb⟩
  · have HO := Lib.hid (show okB r = false by unfold okB; rw [inB_not (fun h => a1 h.1)]; rfl)
    go_enter Tryd.func36, Tryd.ntmps36
    go_wp2_with fail
    go_ret
    exact ⟨ret_bool HO.out.symm, hb⟩
end Go.Proofs.YtneecokjhmnagaaDoor.Mem
namespace Go.Proofs.YtneecokjhmnagaaDoor.Sq
set_option linter.unusedVariables false
section
variable {α : Type} {p : α → Bool} {z : List α} {k : Nat} {X : α}
/-- none ahead of place k fits -/
def First (p : α → Bool) (z : List α) (k : Nat) : Prop := ∀ j x, j < k → z[j]? = some x → p x = false
theorem first_zero : First p z 0 := fun j x hj => by omega
theorem first_next (h : First p z k) (hx : z[k]? = some X) (hp : p X = false) : First p z (k + 1) := fun j x hj hz => by
  rcases Nat.lt_or_ge j k with h' | h'
  · exact h j x h' hz
  · obtain rfl : j = k := by omega
    rw [hx] at hz; rw [← Option.some.inj hz]; exact hp
theorem first_tail {y : α} (h : First p (y :: z) (k + 1)) : First p z k := fun j x hj hz => h (j + 1) x (by omega) (by simpa using hz)
theorem first_hit : ∀ {z : List α} {k : Nat}, First p z k → z[k]? = some X → p X = true → z.findIdx? p = some k
  | [], k, _, hx, _ => by simp at hx
  | y :: z, 0, _, hx, hp => by
    simp only [List.getElem?_cons_zero, Option.some.injEq] at hx
    subst hx
    rw [List.findIdx?_cons, hp]; rfl
  | y :: z, k + 1, h, hx, hp => by
    have h0 : p y = false := h 0 y (by omega) rfl
    rw [List.findIdx?_cons, h0, first_hit (first_tail h) (by simpa using hx) hp]; rfl
theorem first_none (h : First p z k) (hk : z.length ≤ k) : z.findIdx? p = none := by
  rw [List.findIdx?_eq_none_iff]
  intro x hx
  obtain ⟨i, hi, rfl⟩ := List.getElem_of_mem hx
  exact h i _ (by omega) (List.getElem?_eq_getElem hi)
/-- what findIdx? found -/
theorem idx_some (h : z.findIdx? p = some k) : ∃ X, z[k]? = some X ∧ p X = true ∧ First p z k := by
  obtain ⟨hk, hp, hn⟩ := List.findIdx?_eq_some_iff_getElem.1 h
  refine ⟨z[k], List.getElem?_eq_getElem hk, hp, fun j x hj hx => ?_⟩
  have hj' : j < z.length := by omega
  rw [List.getElem?_eq_getElem hj'] at hx
  have := hn j hj
  rw [← Option.some.inj hx]
  simpa using this
theorem idx_none (h : z.findIdx? p = none) : ∀ x ∈ z, p x = false := List.findIdx?_eq_none_iff.1 h
/-- the index as a number, or -1 -/
def ix : Option Nat → Int
  | some k => k
  | none => -1
theorem ix_neg {o : Option Nat} : ix o < 0 ↔ o = none := by
  cases o with
  | none => simp [ix]
  | some k => simp [ix]
/-- the found element itself -/
def got (p : α → Bool) (z : List α) : Option α := (z.findIdx? p).bind (fun k => z[k]?)
theorem got_hit (h : First p z k) (hx : z[k]? = some X) (hp : p X = true) : got p z = some X := by
  unfold got; rw [first_hit h hx hp]; exact hx
theorem got_none (h : First p z k) (hk : z.length ≤ k) : got p z = none := by unfold got; rw [first_none h hk]; rfl
theorem got_some (h : got p z = some X) : X ∈ z ∧ p X = true := by
  unfold got at h
  cases e : z.findIdx? p with
  | none => rw [e] at h; cases h
  | some k =>
    obtain ⟨Y, hY, hp, _⟩ := idx_some e
    rw [e] at h
    have h2 : z[k]? = some X := h
    rw [hY] at h2
    obtain rfl := Option.some.inj h2
    exact ⟨List.mem_of_getElem? hY, hp⟩
theorem got_no (h : got p z = none) : ∀ x ∈ z, p x = false := by
  unfold got at h
  cases e : z.findIdx? p with
  | none => exact idx_none e
  | some k =>
    obtain ⟨Y, hY, _⟩ := idx_some e
    rw [e] at h
    have h2 : z[k]? = none := h
    rw [hY] at h2; cases h2
end
end Go.Proofs.YtneecokjhmnagaaDoor.Sq
namespace Go.Proofs.YtneecokjhmnagaaDoor.LMember
open Go.RowKit Bs
set_option linter.unusedVariables false
theorem infoK : (Tryd.prog.info? 60).map (fun i => (i.zero, i.size, i.bytes)) = some (some (.agg #[.int .i64 0, .string ⟨#[]⟩, .int .i64 0]), 3, 32) := by kernel_rfl
theorem startB {w : World} {A g : Nat} (h : w.heap[g]? = some (.cells #[] 60 (0, 0))) (hA : A ≤ g) : w.ownsRow A 60 3 (.slice (some ⟨g, 0, none⟩) 0 0) 0 [] :=
  ⟨rfl, .inr ⟨g, 0, #[], rfl, hA, h, Nat.le_refl _, Nat.zero_le _, rfl, rfl⟩⟩
end Go.Proofs.YtneecokjhmnagaaDoor.LMember
namespace Go.Proofs.YtneecokjhmnagaaDoor.LMember
open Go.RowKit Bs
set_option linter.unusedVariables false
theorem grow0 (w : World) : Calls Tryd.prog 61 #[.slice none 0 0, .int .i64 0] w fun e w' => e = .returned (.slice none 0 0) ∧ w = w' := by
  go_enter Tryd.func61, Tryd.ntmps61
  go_wp2_with fail
  go_ret
  exact ⟨rfl, rfl⟩
set_option maxHeartbeats 800000 in
theorem grow1 (n : Nat) (w : World) (h0 : 0 < n) (hn : n ≤ 1048576) :
    Calls Tryd.prog 61 #[.slice none 0 0, .int .i64 n] w fun e w' => ∃ v, e = .returned v ∧ Own LMember.rec 60 w' w.heap.size v [] ∧ Below w.heap.size w w' := by
  obtain ⟨i0, hi, hz0, hz1, hz2⟩ := info_parts infoK
  have hrz := fun ty => Lib.run_append_grow_zeros (P := Tryd.prog) w 24 3 ty 60 i0 _ .i64 .i64 Tryd.underlying24 Tryd.underlying3 hi hz0 none 0 0 [] (run_firstCells_none w.drew i0.size 0 0 0) n h0 (by omega) (by omega) (by omega) (by rw [hz2]; omega) (by rw [Nat.zero_add, nextslicecap_zero h0, hz2]; omega)
  have hGm := grownCap_le_maxLen w (0 + n) 0 60 (by unfold maxLen; omega)
  have hGn : 0 + n ≤ grownCap w (0 + n) 0 60 := grownCap_ge w _ _ _
  obtain ⟨GC, hG⟩ : ∃ GC, GC = grownCap w (0 + n) 0 60 := ⟨_, rfl⟩
  rw [← hG] at hrz hGm hGn
  obtain ⟨CS, hCS⟩ : ∃ CS, CS = ([].toArray ++ Builtin.zeroCells (Value.cells (.agg #[.int .i64 0, .string ⟨#[]⟩, .int .i64 0])) n ++ Builtin.zeroCells (Value.cells (.agg #[.int .i64 0, .string ⟨#[]⟩, .int .i64 0])) (GC - (0 + n))) := ⟨_, rfl⟩
  have hsz : CS.size = GC * 3 := by
    rw [hCS]
    simp [Builtin.zeroCells, Value.cells]
    omega
  rw [← hCS] at hrz
  have HO := Lib.hid (show Own LMember.rec 60 (w.drew.alloc (.cells CS 60)) w.heap.size (.slice (some ⟨w.heap.size, 0, none⟩) 0 GC) [] from World.ownsRow_made (base := w.heap.size) (size := 3) w.drew CS GC (Nat.le_refl _) hGm hsz)
  have hb := (Below.refl w.heap.size w).drew.alloc (Nat.le_refl _) (.cells CS 60)
  have HR := Lib.hid hrz
  unfold maxLen at hGm
  clear hi hz0 hz1 hz2 hrz hG hCS hsz
  go_enter Tryd.func61, Tryd.ntmps61
  go_wp2_with (at_builtin; refine Lib.wpList_append_run _ rfl _ _ _ _ rfl _ _ rfl rfl _ _ (HR.out _) ?_)
  go_ret
  exact ⟨_, rfl, HO.out, hb⟩
theorem grow (n : Nat) (w : World) (hn : n ≤ 1048576) :
    Calls Tryd.prog 61 #[.slice none 0 0, .int .i64 n] w fun e w' => ∃ v, e = .returned v ∧ Own LMember.rec 60 w' w.heap.size v [] ∧ Below w.heap.size w w' := by
  rcases Nat.eq_zero_or_pos n with rfl | h
  · exact (grow0 w).mono fun e w' ⟨he, hw⟩ => ⟨_, he, Own.nil, by subst hw; exact Below.refl _ _⟩
  · exact grow1 n w h hn

/-- some slices, one behind the other -/
def csum (xss : List (List LMember.R)) (k : Nat) : Nat := ((xss.take k).map List.length).sum
theorem csum_next (xss : List (List LMember.R)) (k : Nat) (h : k < xss.length) : csum xss (k + 1) = csum xss k + (xss[k]).length := by
  unfold csum; rw [List.take_succ_eq_append_getElem h, List.map_append, List.sum_append]; simp
theorem csum_le (xss : List (List LMember.R)) (k : Nat) : csum xss k ≤ xss.flatten.length := by
  have h : (xss.take k).flatten.length + (xss.drop k).flatten.length = xss.flatten.length := by
    rw [← List.length_append, ← List.flatten_append, List.take_append_drop]
  unfold csum
  rw [← List.length_flatten]
  omega
theorem csum_all (xss : List (List LMember.R)) (k : Nat) (h : xss.length ≤ k) : csum xss k = xss.flatten.length := by
  unfold csum; rw [List.take_of_length_le h, List.length_flatten]
theorem flat_next (xss : List (List LMember.R)) (k : Nat) (h : k < xss.length) : (xss.take (k + 1)).flatten = (xss.take k).flatten ++ xss[k] := by
  rw [List.take_succ_eq_append_getElem h, List.flatten_append]; simp
theorem flat_len2 (xss : List (List LMember.R)) (k : Nat) : (xss.take k).flatten.length = csum xss k := by unfold csum; rw [List.length_flatten]
set_option maxRecDepth 100000 in
set_option maxHeartbeats 1600000 in
theorem concat (B n c : Nat) (vs : List Value) (xss : List (List LMember.R)) (w : World) (hB : B < w.heap.size) (hnc : n ≤ c) (hc : c ≤ maxLen) (hvl : vs.length = n) (hxl : xss.length = n)
    (hcell : ∀ (j : Nat) (v : Value), vs[j]? = some v → w.cell? ⟨B, j, none⟩ = some v) (hIs : ∀ (j : Nat) (v : Value) (xs : List LMember.R), vs[j]? = some v → xss[j]? = some xs → IsS LMember.rec w v xs) (hsum : xss.flatten.length ≤ 1048576) :
    Calls Tryd.prog 33 #[.slice (some ⟨B, 0, none⟩) n c] w fun e w' => ∃ v, e = .returned v ∧ Own LMember.rec 60 w' w.heap.size v xss.flatten ∧ Below w.heap.size w w' := by
  obtain ⟨i0, hi, hz0, hz1, hz2⟩ := info_parts infoK
  have HI := Lib.hid hi
  have HZ := Lib.hid (And.intro hz0 (And.intro hz1 hz2))
  have HC := Lib.hid hcell
  have HS := Lib.hid hIs
  unfold maxLen at hc
  have hvn : n ≤ vs.length := by omega
  have hxn : n ≤ xss.length := by omega
  have HX := Lib.hid hxl
  obtain ⟨t, ht⟩ : ∃ t, t = xss.flatten.length := ⟨_, rfl⟩
  have HT := Lib.hid ht
  rw [← ht] at hsum
  clear hi hz0 hz1 hz2 hcell hIs hvl hxl ht
  go_enter Tryd.func33, Tryd.ntmps33
  go_wp2_with fail
  go_loop [3, 11] (fun s i => ∃ k m : Nat, k ≤ n ∧ i = .int .i64 k ∧ s = .int .i64 m ∧ m ≤ 1048576 ∧ Hid (m = csum xss k)) (fun _ i => n - (intOf i).toNat)
  case atStart => exact ⟨0, 0, Nat.zero_le _, rfl, rfl, by omega, Lib.hid (by simp [csum])⟩
  case round =>
    obtain ⟨k, m, hk, rfl, rfl, hm, HM⟩ := hrel
    by_cases hlt : k < n
    · have hv : k < vs.length := by omega
      have hx : k < xss.length := by omega
      have hq := HC.out k _ (List.getElem?_eq_getElem hv)
      obtain ⟨b, o, cp, hval, hbl, hl1, hl2, _⟩ := HS.out k _ _ (List.getElem?_eq_getElem hv) (List.getElem?_eq_getElem hx)
      have HN := Lib.hid (csum_next xss k hx)
      have h1 := csum_le xss (k + 1)
      rw [HN.out, ← HM.out, ← HT.out] at h1
      rw [hval] at hq
      clear hval
      unfold maxLen at hl2
      obtain ⟨l, hl⟩ : ∃ l, l = (xss[k]).length := ⟨_, rfl⟩
      rw [← hl] at hq hl1 h1
      have HL := Lib.hid hl
      clear hl
      have k0 : 0 ≤ (k : Int) := by omega
      have k1 : (k : Int) < (n : Int) := by omega
      go_wp2_with fail
      go_round
      case rel => exact ⟨k + 1, m + l, by omega, by go_num, by go_num, by omega, Lib.hid (by rw [HN.out, ← HM.out, ← HL.out])⟩
      case measure => simp [intOf]; omega
    · have hkn : k = n := by omega
      have HE := Lib.hid (show m = t by rw [HM.out, HT.out, csum_all xss k (by have := HX.out; omega)])
      clear hkn
      have hmt : m = t := HE.out
      subst hmt
      go_wp2_with fail
      refine (grow m _ hsum).mono ?_
      rintro e w1 ⟨v, rfl, hv, hb1⟩
      have HO := Lib.hid hv
      clear hv HE
      go_wp2_with fail
      go_loopw [6, 27] (fun v i wr => ∃ k : Nat, k ≤ n ∧ i = .int .i64 k ∧ Hid (Own LMember.rec 60 wr w.heap.size v (xss.take k).flatten) ∧ Below w.heap.size w wr) (fun _ i _ => n - (intOf i).toNat)
      case atStart => exact ⟨0, Nat.zero_le _, rfl, HO, hb1⟩
      case round =>
        clear HO hb1
        obtain ⟨k, hk, rfl, HO, hb⟩ := hrel
        by_cases hlt : k < n
        · have hv : k < vs.length := by omega
          have hx : k < xss.length := by omega
          have hq : wr.cell? ⟨B, k, none⟩ = some vs[k] := by rw [hb.cell (p := ⟨B, k, none⟩) hB]; exact HC.out k _ (List.getElem?_eq_getElem hv)
          obtain ⟨b, o, cp, hval, hbl, hl1, hl2, hat⟩ := HS.out k _ _ (List.getElem?_eq_getElem hv) (List.getElem?_eq_getElem hx)
          have HN := Lib.hid (csum_next xss k hx)
          have HFN := Lib.hid (flat_next xss k hx)
          have HFL := Lib.hid (flat_len2 xss k)
          have h1 := csum_le xss (k + 1)
          rw [HN.out, ← HT.out] at h1
          rw [hval] at hq
          have HAt := Lib.hid (show ∀ j u, (flat LMember.rec xss[k])[j]? = some u → wr.cell? (Addr.add ⟨b, o, none⟩ j) = some u from fun j u hu => by
            rw [Go.WideShapes.add_plain]
            exact flat_cells LMember.rec (fun i r hr => (hat i r hr).below LMember.rec hb hbl) j u hu)
          clear hval hat
          unfold maxLen at hl2
          obtain ⟨l, hl⟩ : ∃ l, l = (xss[k]).length := ⟨_, rfl⟩
          have HL := Lib.hid hl
          rw [← hl] at hq hl1 h1
          clear hl
          have hfl : (xss.take k).flatten.length + l ≤ 1048576 := by have := HFL.out; omega
          have k0 : 0 ≤ (k : Int) := by omega
          have k1 : (k : Int) < (n : Int) := by omega
          have hws := hb.size
          generalize xss[k] = X at *
          go_wp2_with (at_builtin; refine wpList_append_own _ rfl (.tmp 31) (.tmp 32) 24 rfl w.heap.size 60 i0 (.agg #[.int .i64 0, .string ⟨#[]⟩, .int .i64 0]) 3 32 Tryd.underlying24 HI.out HZ.out.1 HZ.out.2.1 HZ.out.2.2 rfl (by decide) _ _ _ rfl HO.out ⟨b, o, none⟩ l cp (flat LMember.rec X) rfl ?c0 HAt.out (flat_one _ _) ?c3 ?c4 ?c5 ?c6)
          case c0 => rw [flat_len, HL.out]; rfl
          case c3 => unfold maxLen; omega
          case c4 => omega
          case c5 => omega
          case c6 =>
            intro v' w2 hown hgrow _
            have hb2 : Below w.heap.size w w2 := hb.grown hgrow hws (fun j hj => (HO.out.lt j hj).1)
            have HO2 := Lib.hid (show Own LMember.rec 60 w2 w.heap.size v' (xss.take (k + 1)).flatten by
              rw [HFN.out]
              rw [HL.out] at hown
              have e : (List.take k (List.map List.length xss)).sum = (xss.take k).flatten.length := by rw [List.length_flatten, List.map_take]
              rw [e] at hown
              exact Own.next (n := 0) hown)
            clear hown hgrow
            go_wp2_with fail
            go_roundw
            case rel => exact ⟨k + 1, by omega, by go_num, HO2, hb2⟩
            case measure => simp [intOf]; omega
        · have hkn : xss.take k = xss := List.take_of_length_le (by have := HX.out; omega)
          rw [hkn] at HO
          clear hkn
          go_wp2_with fail
          go_ret
          exact ⟨_, rfl, HO.out, hb⟩
theorem concat2 (X : World) (B : Nat) (v1 v2 : Value) (z1 z2 : List LMember.R) (h1 : IsS LMember.rec X v1 z1) (h2 : IsS LMember.rec X v2 z2) (hX : X.heap[B]? = some (.cells #[v1, v2] 24)) (hsum : (z1 ++ z2).length ≤ 1048576) :
    Calls Tryd.prog 33 #[.slice (some ⟨B, 0, none⟩) 2 2] X fun e w' => ∃ v, e = .returned v ∧ Own LMember.rec 60 w' X.heap.size v (z1 ++ z2) ∧ Below X.heap.size X w' := by
  have hl : [z1, z2].flatten = z1 ++ z2 := by simp
  rw [← hl] at hsum ⊢
  refine concat B 2 2 [v1, v2] [z1, z2] X (Array.getElem?_eq_some_iff.1 hX).1 (Nat.le_refl _) (by unfold maxLen; omega) rfl rfl ?_ ?_ hsum
  · intro j v hv
    rw [cell_of_row X B j _ _ (0, 0) hX]
    simpa using hv
  · intro j v xs hv hx
    match j, hv, hx with
    | 0, hv, hx =>
      obtain rfl : v1 = v := by simpa using hv
      obtain rfl : z1 = xs := by simpa using hx
      exact h1
    | 1, hv, hx =>
      obtain rfl : v2 = v := by simpa using hv
      obtain rfl : z2 = xs := by simpa using hx
      exact h2
    | j + 2, hv, hx => simp at hv
theorem concat3 (X : World) (B : Nat) (v1 v2 v3 : Value) (z1 z2 z3 : List LMember.R) (h1 : IsS LMember.rec X v1 z1) (h2 : IsS LMember.rec X v2 z2) (h3 : IsS LMember.rec X v3 z3) (hX : X.heap[B]? = some (.cells #[v1, v2, v3] 24)) (hsum : (z1 ++ z2 ++ z3).length ≤ 1048576) :
    Calls Tryd.prog 33 #[.slice (some ⟨B, 0, none⟩) 3 3] X fun e w' => ∃ v, e = .returned v ∧ Own LMember.rec 60 w' X.heap.size v (z1 ++ z2 ++ z3) ∧ Below X.heap.size X w' := by
  have hl : [z1, z2, z3].flatten = z1 ++ z2 ++ z3 := by simp
  rw [← hl] at hsum ⊢
  refine concat B 3 3 [v1, v2, v3] [z1, z2, z3] X (Array.getElem?_eq_some_iff.1 hX).1 (Nat.le_refl _) (by unfold maxLen; omega) rfl rfl ?_ ?_ hsum
  · intro j v hv
    rw [cell_of_row X B j _ _ (0, 0) hX]
    simpa using hv
  · intro j v xs hv hx
    match j, hv, hx with
    | 0, hv, hx =>
      obtain rfl : v1 = v := by simpa using hv
      obtain rfl : z1 = xs := by simpa using hx
      exact h1
    | 1, hv, hx =>
      obtain rfl : v2 = v := by simpa using hv
      obtain rfl : z2 = xs := by simpa using hx
      exact h2
    | 2, hv, hx =>
      obtain rfl : v3 = v := by simpa using hv
      obtain rfl : z3 = xs := by simpa using hx
      exact h3
    | j + 3, hv, hx => simp at hv
end Go.Proofs.YtneecokjhmnagaaDoor.LMember
namespace Go.Proofs.YtneecokjhmnagaaDoor.Bs
open Go Go.RowKit
set_option linter.unusedVariables false
theorem run_copy_row_w {P : Program} (w : World) (dT sT ty elem : TypeId) (sz g o dLen dCap : Nat) (a : Addr) (sLen sCap m : Nat) (cur : Array Value) (t : TypeId) (cs : List Value)
    (hu : P.underlying dT = some (.slice elem)) (hs : (P.info? elem).map (·.size) = some sz)
    (hg : w.heap[g]? = some (.cells cur t (0, 0))) (hm : Nat.min sLen dLen = m) (hn : cs.length = m * sz)
    (hsrc : ∀ j v, cs[j]? = some v → w.cell? (a.add j) = some v) (hfit : o + cs.length ≤ cur.size) (h1 : ∀ v ∈ cs, v.oneCell' = true) :
    (Builtin.copy_ #[dT, sT] ty #[.slice (some ⟨g, o, none⟩) dLen dCap, .slice (some a) sLen sCap]).run P w =
      .ok (goInt m) (w.setRow g (cur.toList.take o ++ cs ++ cur.toList.drop (o + cs.length)).toArray) := by
  have hl := run_loadCells_list (P := P) w a cs hsrc
  have hst := run_storeCells_at P g o t cs 0 cur w hg (by simpa using hfit) h1
  cases hq : P.info? elem with
  | none => simp [hq] at hs
  | some i =>
    have hi : i.size = sz := by simpa [hq] using hs
    simp [Builtin.copy_, run_underlying hu, Builtin.lenOf, Builtin.firstCells, sizeOf, typeInfo, hq, hi, hm, ← hn, hl, hst]
/-- a piece of a list written over -/
def spl (C : List Value) (o : Nat) (cs : List Value) : List Value := C.take o ++ cs ++ C.drop (o + cs.length)
theorem spl_len {C cs : List Value} {o : Nat} (h : o + cs.length ≤ C.length) : (spl C o cs).length = C.length := by
  unfold spl; simp; omega
/-- what follows shifted first, then the new one laid: in place -/
theorem ins_shift {A X B S : List Value} (hS : X.length ≤ S.length) : spl (spl (A ++ B ++ S) (A.length + X.length) B) A.length X = A ++ X ++ B ++ (A ++ B ++ S).drop (A.length + X.length + B.length) := by
  obtain ⟨C, hC⟩ : ∃ C, C = A ++ B ++ S := ⟨_, rfl⟩
  have hl : C.length = A.length + B.length + S.length := by rw [hC]; simp; omega
  have hA : C.take A.length = A := by rw [hC]; simp
  rw [← hC]
  unfold spl
  have h1 : (C.take (A.length + X.length)).length = A.length + X.length := by rw [List.length_take]; omega
  have e1 : (C.take (A.length + X.length) ++ B ++ C.drop (A.length + X.length + B.length)).take A.length = A := by
    rw [List.append_assoc, List.take_append_of_le_length (by omega), List.take_take, Nat.min_eq_left (by omega), hA]
  have e2 : (C.take (A.length + X.length) ++ B ++ C.drop (A.length + X.length + B.length)).drop (A.length + X.length) = B ++ C.drop (A.length + X.length + B.length) := by
    rw [List.append_assoc]
    exact List.drop_left' h1
  rw [e1, e2, ← List.append_assoc]
/-- the new one laid first, then what follows it: in a new row -/
theorem ins_fresh {A X B Z : List Value} (hZ : X.length + B.length ≤ Z.length) : spl (spl (A ++ Z) A.length X) (A.length + X.length) B = A ++ X ++ B ++ Z.drop (X.length + B.length) := by
  have e1 : spl (A ++ Z) A.length X = A ++ X ++ Z.drop X.length := by
    unfold spl
    rw [List.take_left' rfl, List.drop_append_of_le_length' X.length]
  rw [e1]
  unfold spl
  have h1 : (A ++ X).length = A.length + X.length := List.length_append
  rw [List.take_left' h1]
  rw [← List.drop_drop, List.drop_left' h1, List.drop_drop]
where
  List.drop_append_of_le_length' (k : Nat) {A Z : List Value} : (A ++ Z).drop (A.length + k) = Z.drop k := by
    rw [← List.drop_drop, List.drop_left' rfl]
theorem flat_ins {α : Type} (T : Rec α) (xs : List α) (x : α) (i : Nat) : flat T (xs.take i ++ x :: xs.drop i) = flat T (xs.take i) ++ T.vals x ++ flat T (xs.drop i) := by
  rw [flat_append, flat_cons, List.append_assoc]
/-- an owned row seen as its cells -/
theorem own_row {α : Type} {T : Rec α} {E : TypeId} {w : World} {A g n cap : Nat} {xs : List α} (h : Own T E w A (.slice (some ⟨g, 0, none⟩) n cap) xs) : ∃ cur : Array Value, w.heap[g]? = some (.cells cur E (0, 0)) ∧ cur.size = cap * T.n ∧ cur.toList.take (xs.length * T.n) = flat T xs ∧ A ≤ g ∧ n ≤ cap ∧ cap ≤ maxLen ∧ xs.length = n := by
  have hn : xs.length = n := by
    rcases h.shape with ⟨e, _⟩ | ⟨g', cap', e, _⟩
    · cases e
    · simp only [Value.slice.injEq] at e; exact e.2.1.symm
  rcases h.2 with ⟨e, _⟩ | ⟨g', cap', cur, e, hb, hg, h1, h2, h3, h4⟩
  · cases e
  · simp only [Value.slice.injEq, Option.some.injEq, Addr.mk.injEq, and_true] at e
    obtain ⟨rfl, _, rfl⟩ := e
    exact ⟨cur, hg, h3, h4, hb, by omega, h2, hn⟩
theorem own_mk {α : Type} {T : Rec α} {E : TypeId} {w : World} {A g n cap : Nat} {xs : List α} {C : List Value} (hg : w.heap[g]? = some (.cells C.toArray E (0, 0))) (hA : A ≤ g) (hn : xs.length = n) (hc : n ≤ cap) (hm : cap ≤ maxLen) (hs : C.length = cap * T.n) (hC : ∃ S, C = flat T xs ++ S) : Own T E w A (.slice (some ⟨g, 0, none⟩) n cap) xs := by
  subst hn
  refine ⟨flat_len T xs, .inr ⟨g, cap, C.toArray, rfl, hA, hg, hc, hm, by simpa using hs, ?_⟩⟩
  obtain ⟨S, rfl⟩ := hC
  rw [← flat_len T xs]
  simp
end Go.Proofs.YtneecokjhmnagaaDoor.Bs
namespace Go.Proofs.YtneecokjhmnagaaDoor.Srt
open Go Go.RowKit Bs
set_option linter.unusedVariables false
section
variable {α : Type} {lt : α → α → Bool}
/-- where x goes, looked for from place j downward -/
def pos (lt : α → α → Bool) (P : List α) (x : α) : Nat → Nat
  | 0 => 0
  | j + 1 => (match P[j]? with | some p => (if lt x p = true then pos lt P x j else j + 1) | none => j + 1)
def insS (lt : α → α → Bool) (P : List α) (x : α) : List α := P.take (pos lt P x P.length) ++ x :: P.drop (pos lt P x P.length)
def srt (lt : α → α → Bool) (xs : List α) : List α := xs.foldl (insS lt) []
theorem pos_le (P : List α) (x : α) : ∀ j, pos lt P x j ≤ j
  | 0 => Nat.le_refl _
  | j + 1 => by
    unfold pos
    split
    · split
      · have := pos_le P x j; omega
      · exact Nat.le_refl _
    · exact Nat.le_refl _
theorem pos_go {P : List α} {x p : α} {j : Nat} (hp : P[j]? = some p) (h : lt x p = true) : pos lt P x (j + 1) = pos lt P x j := by
  show (match P[j]? with | some p => (if lt x p = true then pos lt P x j else j + 1) | none => j + 1) = _
  rw [hp]; simp [h]
theorem pos_stop {P : List α} {x p : α} {j : Nat} (hp : P[j]? = some p) (h : lt x p = false) : pos lt P x (j + 1) = j + 1 := by
  show (match P[j]? with | some p => (if lt x p = true then pos lt P x j else j + 1) | none => j + 1) = _
  rw [hp]; simp [h]
theorem ins_len (P : List α) (x : α) : (insS lt P x).length = P.length + 1 := by
  have := pos_le (lt := lt) P x P.length
  unfold insS; simp; omega
theorem ins_at {P : List α} {x : α} {j n : Nat} (hn : P.length = n) (h : pos lt P x n = j) : insS lt P x = P.take j ++ x :: P.drop j := by
  unfold insS; rw [hn, h]
theorem srt_next {xs : List α} {k : Nat} {x : α} (h : xs[k]? = some x) : srt lt (xs.take (k + 1)) = insS lt (srt lt (xs.take k)) x := by
  obtain ⟨hk, rfl⟩ := List.getElem?_eq_some_iff.1 h
  unfold srt
  rw [List.take_succ_eq_append_getElem hk, List.foldl_append]; rfl
theorem srt_len_aux : ∀ (xs P : List α), (xs.foldl (insS lt) P).length = P.length + xs.length
  | [], P => rfl
  | x :: xs, P => by rw [List.foldl_cons, srt_len_aux xs, ins_len, List.length_cons]; omega
theorem srt_len (xs : List α) : (srt lt xs).length = xs.length := by unfold srt; rw [srt_len_aux]; simp
theorem srt_one (xs : List α) : srt lt (xs.take 1) ++ xs.drop 1 = xs := by
  cases xs with
  | nil => rfl
  | cons x xs => rfl
theorem srt_all {xs : List α} {k : Nat} (h : xs.length ≤ k) : srt lt (xs.take k) ++ xs.drop k = srt lt xs := by
  rw [List.take_of_length_le h, List.drop_eq_nil_of_le h, List.append_nil]
theorem ins_mem {P : List α} {x y : α} (h : y ∈ insS lt P x) : y = x ∨ y ∈ P := by
  unfold insS at h
  rw [List.mem_append, List.mem_cons] at h
  rcases h with h | h | h
  · exact .inr (List.mem_of_mem_take h)
  · exact .inl h
  · exact .inr (List.mem_of_mem_drop h)
theorem srt_mem_aux : ∀ (xs P : List α) (y : α), y ∈ xs.foldl (insS lt) P → y ∈ P ∨ y ∈ xs
  | [], P, y, h => .inl h
  | x :: xs, P, y, h => by
    rw [List.foldl_cons] at h
    rcases srt_mem_aux xs _ y h with h | h
    · rcases ins_mem h with rfl | h
      · exact .inr (List.mem_cons_self)
      · exact .inl h
    · exact .inr (List.mem_cons_of_mem _ h)
theorem srt_mem {xs : List α} {y : α} (h : y ∈ srt lt xs) : y ∈ xs := by
  rcases srt_mem_aux xs [] y h with h | h
  · cases h
  · exact h
/-- the list while x is carried down to place j -/
def mid (P : List α) (x : α) (R : List α) (j : Nat) : List α := P.take j ++ x :: (P.drop j ++ R)
theorem mid_len {P : List α} {x : α} {R : List α} {j : Nat} (h : j ≤ P.length) : (mid P x R j).length = P.length + 1 + R.length := by
  unfold mid; simp; omega
theorem mid_here {P : List α} {x : α} {R : List α} {j : Nat} (h : j ≤ P.length) : (mid P x R j)[j]? = some x := by
  unfold mid
  have hl : (P.take j).length = j := by rw [List.length_take]; omega
  rw [List.getElem?_append_right (by omega), hl, Nat.sub_self]; rfl
theorem mid_ahead {P : List α} {x : α} {R : List α} {j : Nat} {y : α} (h : P[j]? = some y) : (mid P x R (j + 1))[j]? = some y := by
  have hj : j < P.length := (List.getElem?_eq_some_iff.1 h).1
  unfold mid
  have hl : (P.take (j + 1)).length = j + 1 := by rw [List.length_take]; omega
  rw [List.getElem?_append_left (by omega), List.getElem?_take, if_pos (by omega)]
  exact h
theorem mid_swap {P : List α} {x : α} {R : List α} {j : Nat} {y : α} (h : P[j]? = some y) : ((mid P x R (j + 1)).set (j + 1) y).set j x = mid P x R j := by
  obtain ⟨hj, rfl⟩ := List.getElem?_eq_some_iff.1 h
  have hl : (P.take (j + 1)).length = j + 1 := by rw [List.length_take]; omega
  have hl0 : (P.take j).length = j := by rw [List.length_take]; omega
  unfold mid
  rw [List.set_append_right _ _ (by omega), hl, Nat.sub_self, List.set_cons_zero, List.take_succ_eq_append_getElem hj, List.append_assoc, List.set_append_right _ _ (by omega), hl0, Nat.sub_self]
  show P.take j ++ (x :: ([] ++ (P[j] :: (P.drop (j + 1) ++ R)))) = _
  rw [List.nil_append, ← List.cons_append, ← List.drop_eq_getElem_cons hj]
theorem mid_end (P : List α) (x : α) (R : List α) : mid P x R P.length = P ++ x :: R := by
  unfold mid; rw [List.take_length, List.drop_length, List.nil_append]
theorem mid_ins {P : List α} {x : α} {R : List α} {j n : Nat} (hn : P.length = n) (h : pos lt P x n = j) : mid P x R j = insS lt P x ++ R := by
  rw [ins_at hn h]; unfold mid; simp
end
/-- a record stored whole -/
theorem flat_set_all {α : Type} (T : Rec α) : ∀ (ys : List α) (k : Nat) (r : α), k < ys.length → flat T (ys.set k r) = spl (flat T ys) (k * T.n) (T.vals r)
  | [], k, r, h => by simp at h
  | x :: ys, 0, r, h => by
    rw [List.set_cons_zero, flat_cons, flat_cons]
    unfold spl
    rw [Nat.zero_mul, List.take_zero, List.nil_append, Nat.zero_add, T.len, List.drop_left' (T.len x)]
  | x :: ys, k + 1, r, h => by
    have hk : k < ys.length := by simpa using h
    have e0 : (k + 1) * T.n = T.n + k * T.n := by rw [Nat.succ_mul, Nat.add_comm]
    have hx := T.len x
    rw [List.set_cons_succ, flat_cons, flat_cons, flat_set_all T ys k r hk]
    unfold spl
    rw [e0, ← hx, List.take_length_add_append, Nat.add_assoc, List.drop_length_add_append]
    simp
theorem store_rec {P : Program} {α : Type} {T : Rec α} {E : TypeId} {w : World} {A g n cap : Nat} {ys : List α} (h : Own T E w A (.slice (some ⟨g, 0, none⟩) n cap) ys) (k : Nat) (hk : k < n) (r : α) :
    ∃ w2 : World, (storeCells ⟨g, k * T.n, none⟩ (T.vals r) 0).run P w = .ok () w2 ∧ Own T E w2 A (.slice (some ⟨g, 0, none⟩) n cap) (ys.set k r) ∧ Below A w w2 ∧ w2.heap.size = w.heap.size := by
  obtain ⟨cur, hg, hcs, hct, hAg, hnc, hcm, hyl⟩ := own_row h
  have hk2 : (k + 1) * T.n ≤ cap * T.n := Nat.mul_le_mul_right _ (by omega)
  rw [Nat.succ_mul] at hk2
  have hkl : k * T.n + (T.vals r).length ≤ cur.size := by rw [T.len, hcs]; exact hk2
  have hrun := run_storeCells_at P g (k * T.n) E (T.vals r) 0 cur w hg (by simpa using hkl) (T.one r)
  refine ⟨_, hrun, ?_, below_setRow (Below.refl A w) hAg _, by simp [World.setRow]⟩
  simp only [Nat.add_zero]
  have hS : cur.toList = flat T ys ++ cur.toList.drop (ys.length * T.n) := by rw [← hct, List.take_append_drop]
  have hfl := flat_len T ys
  have hk3 : (k + 1) * T.n ≤ ys.length * T.n := Nat.mul_le_mul_right _ (by omega)
  rw [Nat.succ_mul] at hk3
  refine own_mk (C := cur.toList.take (k * T.n) ++ T.vals r ++ cur.toList.drop (k * T.n + (T.vals r).length)) (setRow_heap w g cur _ E _ hg) hAg (by rw [List.length_set]; exact hyl) hnc hcm ?_ ⟨cur.toList.drop (ys.length * T.n), ?_⟩
  · have hcl : cur.toList.length = cap * T.n := by simpa using hcs
    have hv := T.len r
    simp only [List.length_append, List.length_take, List.length_drop, hv, hcl]
    omega
  · rw [flat_set_all T ys k r (by omega)]
    unfold spl
    conv => lhs; rw [hS]
    have hv := T.len r
    rw [List.take_append_of_le_length (by omega), List.drop_append_of_le_length (by omega)]
    simp
end Go.Proofs.YtneecokjhmnagaaDoor.Srt
namespace Go.Proofs.YtneecokjhmnagaaDoor.Nam
open Go Go.RowKit Bs Word Mem Srt
set_option linter.unusedVariables false
theorem less_irr : ∀ x : List UInt8, Op.bytesLess x x = false
  | [] => rfl
  | a :: x => by
    show (a < a || (a == a && Op.bytesLess x x)) = false
    rw [less_irr x]
    simp
theorem less_tri : ∀ x y : List UInt8, x ≠ y → Op.bytesLess x y = false → Op.bytesLess y x = true
  | [], [], h, _ => absurd rfl h
  | [], b :: y, _, h => by cases h
  | a :: x, [], _, _ => rfl
  | a :: x, b :: y, h, h2 => by
    show (b < a || (b == a && Op.bytesLess y x)) = true
    have h3 : (decide (a < b) || (a == b && Op.bytesLess x y)) = false := h2
    simp only [Bool.or_eq_false_iff, decide_eq_false_iff_not, Bool.and_eq_false_iff, beq_eq_false_iff_ne] at h3
    by_cases e : a = b
    · subst e
      have hxy : x ≠ y := fun e => h (by rw [e])
      have h4 : Op.bytesLess x y = false := by rcases h3.2 with h | h; exact absurd rfl h; exact h
      rw [less_tri x y hxy h4]; simp
    · have : b < a := by
        have h5 := h3.1
        rw [UInt8.lt_iff_toNat_lt] at h5 ⊢
        have h6 : a.toNat ≠ b.toNat := fun h => e (UInt8.toNat_inj.1 h)
        omega
      simp [this]
theorem less_trans : ∀ x y z : List UInt8, Op.bytesLess x y = true → Op.bytesLess y z = true → Op.bytesLess x z = true
  | x, y, [], _, h => by cases y <;> cases h
  | x, [], c :: z, h, _ => by cases x <;> cases h
  | [], b :: y, c :: z, _, _ => rfl
  | a :: x, b :: y, c :: z, h1, h2 => by
    have h3 : (decide (a < b) || (a == b && Op.bytesLess x y)) = true := h1
    have h4 : (decide (b < c) || (b == c && Op.bytesLess y z)) = true := h2
    show (decide (a < c) || (a == c && Op.bytesLess x z)) = true
    simp only [Bool.or_eq_true, decide_eq_true_eq, Bool.and_eq_true, beq_iff_eq] at h3 h4 ⊢
    rcases h3 with h3 | ⟨rfl, h3⟩
    · rcases h4 with h4 | ⟨rfl, h4⟩
      · left; rw [UInt8.lt_iff_toNat_lt] at h3 h4 ⊢; omega
      · exact .inl h3
    · rcases h4 with h4 | ⟨rfl, h4⟩
      · exact .inl h4
      · exact .inr ⟨rfl, less_trans x y z h3 h4⟩
def nlt (X Y : M) : Bool := Op.bytesLess X.name.toList Y.name.toList
theorem nlt_asym {X Y : M} (h : nlt X Y = true) : nlt Y X = false := by
  cases e : nlt Y X with
  | false => rfl
  | true =>
    have := less_trans _ _ _ h e
    rw [less_irr] at this; cases this
def Asc (S : List M) : Prop := ∀ (i j : Nat) (a b : M), i < j → S[i]? = some a → S[j]? = some b → nlt a b = true
def New (S : List M) (x : M) : Prop := ∀ y ∈ S, y.name.toList ≠ x.name.toList
/-- what pos tells -/
theorem pos_spec (S : List M) (x : M) : ∀ n, n ≤ S.length → (∀ j b, pos nlt S x n ≤ j → j < n → S[j]? = some b → nlt x b = true) ∧ (∀ p a, pos nlt S x n = p + 1 → S[p]? = some a → nlt x a = false)
  | 0, _ => ⟨fun j b _ h => by omega, fun p a h => by (have : pos nlt S x 0 = 0 := rfl); omega⟩
  | n + 1, hn => by
    have hx := List.getElem?_eq_getElem (show n < S.length by omega)
    obtain ⟨i1, i2⟩ := pos_spec S x n (by omega)
    cases e : nlt x S[n] with
    | true =>
      rw [pos_go hx e]
      refine ⟨fun j b h1 h2 hb => ?_, i2⟩
      rcases Nat.lt_or_ge j n with h | h
      · exact i1 j b h1 h hb
      · obtain rfl : j = n := by omega
        rw [hx] at hb; rw [← Option.some.inj hb]; exact e
    | false =>
      rw [pos_stop hx e]
      refine ⟨fun j b h1 h2 => by omega, fun p a hp ha => ?_⟩
      obtain rfl : n = p := by omega
      rw [hx] at ha; rw [← Option.some.inj ha]; exact e
/-- from the front: all ahead of place k are less -/
theorem front_eq {S : List M} {x : M} {k : Nat} (hs : Asc S) (hn : New S x) (hk : k ≤ S.length) (h1 : ∀ j a, j < k → S[j]? = some a → nlt a x = true) (h2 : ∀ a, S[k]? = some a → nlt a x = false) : pos nlt S x S.length = k := by
  obtain ⟨p1, p2⟩ := pos_spec S x S.length (Nat.le_refl _)
  have pl := pos_le (lt := nlt) S x S.length
  rcases Nat.lt_trichotomy (pos nlt S x S.length) k with h | h | h
  · have hx := List.getElem?_eq_getElem (show pos nlt S x S.length < S.length by omega)
    have a1 := h1 _ _ h hx
    have a2 := p1 _ _ (Nat.le_refl _) (by omega) hx
    rw [nlt_asym a1] at a2; cases a2
  · exact h
  · obtain ⟨p, hp⟩ : ∃ p, pos nlt S x S.length = p + 1 := ⟨pos nlt S x S.length - 1, by omega⟩
    have hxp := List.getElem?_eq_getElem (show p < S.length by omega)
    have hxk := List.getElem?_eq_getElem (show k < S.length by omega)
    have b1 := p2 p _ hp hxp
    have b2 := h2 _ hxk
    have b3 := less_tri _ _ (hn _ (List.getElem_mem (show k < S.length by omega))) b2
    rcases Nat.lt_or_ge k p with h' | h'
    · have b4 := hs k p _ _ h' hxk hxp
      have := less_trans _ _ _ b3 b4
      have b5 : nlt x S[p] = true := this
      rw [b1] at b5; cases b5
    · obtain rfl : k = p := by omega
      have b5 : nlt x S[k] = true := b3
      rw [b1] at b5; cases b5
theorem asc_ins {S : List M} {x : M} (hs : Asc S) (hn : New S x) : Asc (insS nlt S x) := by
  obtain ⟨p1, p2⟩ := pos_spec S x S.length (Nat.le_refl _)
  have pl := pos_le (lt := nlt) S x S.length
  obtain ⟨q, hq⟩ : ∃ q, q = pos nlt S x S.length := ⟨_, rfl⟩
  rw [← hq] at p1 p2 pl
  have less : ∀ i a, i < q → S[i]? = some a → nlt a x = true := fun i a hi ha => by
    have hxq := List.getElem?_eq_getElem (show q - 1 < S.length by omega)
    have b1 := p2 (q - 1) _ (by omega) hxq
    have b2 := less_tri _ _ (fun e => hn _ (List.getElem_mem (show q - 1 < S.length by omega)) e.symm) b1
    rcases Nat.lt_or_ge i (q - 1) with h | h
    · exact less_trans _ _ _ (hs i (q - 1) _ _ h ha hxq) b2
    · obtain rfl : i = q - 1 := by omega
      rw [hxq] at ha; rw [← Option.some.inj ha]; exact b2
  have at_ : ∀ i a, (insS nlt S x)[i]? = some a → (i < q ∧ S[i]? = some a) ∨ (i = q ∧ a = x) ∨ (q < i ∧ S[i - 1]? = some a) := fun i a h => by
    unfold insS at h
    rw [← hq] at h
    have hl : (S.take q).length = q := by rw [List.length_take]; omega
    rcases Nat.lt_trichotomy i q with h' | h' | h'
    · rw [List.getElem?_append_left (by omega), List.getElem?_take, if_pos h'] at h
      exact .inl ⟨h', h⟩
    · subst h'
      rw [List.getElem?_append_right (by omega), hl, Nat.sub_self, List.getElem?_cons_zero] at h
      exact .inr (.inl ⟨rfl, (Option.some.inj h).symm⟩)
    · rw [List.getElem?_append_right (by omega), hl, show i - q = (i - q - 1) + 1 by omega, List.getElem?_cons_succ, List.getElem?_drop, show q + (i - q - 1) = i - 1 by omega] at h
      exact .inr (.inr ⟨h', h⟩)
  intro i j a b hij ha hb
  rcases at_ i a ha with ⟨i1, i2⟩ | ⟨i1, rfl⟩ | ⟨i1, i2⟩ <;> rcases at_ j b hb with ⟨j1, j2⟩ | ⟨j1, rfl⟩ | ⟨j1, j2⟩
  · exact hs i j a b hij i2 j2
  · exact less i a i1 i2
  · exact hs i (j - 1) a b (by omega) i2 j2
  · omega
  · omega
  · exact p1 (j - 1) b (by omega) (by have := (List.getElem?_eq_some_iff.1 j2).1; omega) j2
  · omega
  · omega
  · exact hs (i - 1) (j - 1) a b (by omega) i2 j2
theorem name_of {p r : M} (h : clash p r = false) : p.name.toList ≠ r.name.toList := fun e => by
  unfold clash at h
  rw [e] at h
  simp at h
theorem good_new {z : List M} (hg : goodB z = true) {k : Nat} {x : M} (hx : z[k]? = some x) : New (srt nlt (z.take k)) x := fun y hy => by
  have hm := srt_mem hy
  obtain ⟨j, hj, rfl⟩ := List.getElem_of_mem hm
  have hjk : j < k := by rw [List.length_take] at hj; omega
  have hz : z[j]? = some (z.take k)[j] := by
    have := List.getElem?_eq_getElem hj
    rw [List.getElem?_take, if_pos hjk] at this
    exact this
  exact name_of (((good_of hg).2 k (List.getElem?_eq_some_iff.1 hx).1).2 j _ _ hjk hz hx)
theorem good_asc {z : List M} (hg : goodB z = true) : ∀ k, k ≤ z.length → Asc (srt nlt (z.take k))
  | 0, _ => fun i j a b _ ha => by simp [srt] at ha
  | k + 1, hk => by
    have hx := List.getElem?_eq_getElem (show k < z.length by omega)
    rw [srt_next hx]
    exact asc_ins (good_asc hg k (by omega)) (good_new hg hx)
def nums (z : List M) : List Int := (srt nlt z).map (fun m => m.num)
def names (z : List M) : List ByteArray := (srt nlt z).map (fun m => m.name)
end Go.Proofs.YtneecokjhmnagaaDoor.Nam
namespace Go.Proofs.YtneecokjhmnagaaDoor.Bs
open Go.RowKit
theorem step_append_nn {P : Program} {w : World} {ops : Array Oper} {o : Oper} {a : Act} {K : Act → World → Prop} {Q : Exit → Act → World → Prop} {E : Prop} (hgd : o.guard = none) (s x : Operand) (t : TypeId)
    (ho : o.op = .call { callee := .builtin .append, args := #[s, x], argTypes := #[t, t] })
    (base : Nat) (e : TypeId) (i : TypeInfo) (z : Value) (size bytes : Nat) (ht : P.underlying t = some (.slice e)) (hi : P.info? e = some i) (hz : i.zero = some z)
    (hsize : i.size = size) (hby : i.bytes = bytes) (hzs : z.cells.size = size) (hsz : 0 < size)
    (v : Value) (n : Nat) (xs : List Value) (hs : a.eval s = v) (hown : w.ownsRow base e size v n xs)
    (ad : Addr) (m c : Nat) (news : List Value) (hx : a.eval x = .slice (some ad) m c) (hl : news.length = m * size) (hnews : ∀ j u, news[j]? = some u → w.cell? (ad.add j) = some u) (h1 : ∀ u ∈ news, u.oneCell' = true)
    (h63 : n + m ≤ maxLen) (hbytes : (n + m) * bytes ≤ 140737488355328) (hbase : base ≤ w.heap.size) (hnn : v ≠ .slice none 0 0)
    (h : ∀ v' w', w'.ownsRow base e size v' (n + m) (xs ++ news) → w.grownBy w' v.ownBlock → v' ≠ .slice none 0 0 → K (a.put o.dst v') w') :
    if Region.wanted o (yielded ops a.tmps) = true then Oper.wp P o a w K Q else E := by
  have hw : Region.wanted o (yielded ops a.tmps) = true := by simp [Region.wanted, hgd]
  rw [if_pos hw]
  exact wp_append_own w s x t ho base e i z size bytes ht hi hz hsize hby hzs hsz v n xs hs hown ad m c news hx hl hnews h1 h63 hbytes hbase fun v' w' h2 h3 h4 => h v' w' h2 h3 (fun e => hnn (h4.1 e).1)
/-- an owned slice that is not nil -/
theorem Own.some_shape {α : Type} {T : Rec α} {E : TypeId} {w : World} {A : Nat} {v : Value} {xs : List α} (h : Own T E w A v xs) (hn : v ≠ .slice none 0 0) : ∃ g cap, v = .slice (some ⟨g, 0, none⟩) xs.length cap ∧ A ≤ g ∧ g < w.heap.size ∧ xs.length ≤ cap ∧ cap ≤ maxLen := by
  rcases h.shape with ⟨e, _⟩ | h
  · exact absurd e hn
  · exact h
end Go.Proofs.YtneecokjhmnagaaDoor.Bs
namespace Go.Proofs.YtneecokjhmnagaaDoor.LInt
open Go.RowKit Bs
set_option linter.unusedVariables false
abbrev R := Int
def vals (r : R) : List Value := [.int .i64 r]
/-- one value as a type of records -/
def rec : Rec R := ⟨1, vals, fun _ => rfl, by decide, fun r u hu => by
  simp only [vals, List.mem_cons, List.not_mem_nil, or_false] at hu
  rcases hu with rfl
  rfl⟩
theorem rec_n : rec.n = 1 := rfl
theorem info : (Tryd.prog.info? 3).map (fun i => (i.zero, i.size)) = some (some (.int .i64 0), 1) := by kernel_rfl
theorem cells {w : World} {b p : Nat} {r : R} (h : At rec w b p r) : w.cell? ⟨b, p, none⟩ = some (.int .i64 r) := h 0 _ rfl
theorem at_of {w : World} {b p : Nat} {r : R} (h0 : w.cell? ⟨b, p, none⟩ = some (.int .i64 r)) : At rec w b p r := fun j v hv => by
  have hj : j < 1 := (List.getElem?_eq_some_iff.1 hv).1
  obtain rfl : j = 0 := by omega
  rw [← hv]; exact h0
/-- facts of a value in all worlds that only grew -/
theorem grown {w : World} {b p : Nat} {r : R} (h : At rec w b p r) (hl : b < w.heap.size) : Hid (∀ d os, At rec (Sort.grow (redrawn w d) os) b p r) := fun d os => h.below rec (below_regrown w d os) hl
theorem flat_eq (xs : List R) : flat rec xs = xs.map (fun r => .int .i64 r) := by
  induction xs with
  | nil => rfl
  | cons x xs ih => rw [flat_cons, ih]; rfl
def zero : R := 0
theorem made_zero (n : Nat) : (madeCells (#[.int .i64 0] : Array Value) n).toList = flat rec (List.replicate n zero) := by
  apply List.ext_getElem?
  intro i
  rw [madeCells, flat_eq]
  by_cases hi : i < n
  · simp only [Array.toList_map, List.getElem?_map, Array.toList_range, List.getElem?_range hi, Option.map_some, List.getElem?_replicate, if_pos hi]
    have h1 : i % (#[.int .i64 0] : Array Value).size = 0 := Nat.mod_one i
    rw [h1]
    rfl
  · rw [List.getElem?_eq_none (by simp; omega), List.getElem?_eq_none (by simp; omega)]
/-- what a copy holds after k stores -/
def part (xs : List R) (n k : Nat) : List R := xs.take k ++ List.replicate (n - k) zero
theorem part_len (xs : List R) (n k : Nat) (h : xs.length = n) (hk : k ≤ n) : (part xs n k).length = n := by simp [part]; omega
theorem part_zero (xs : List R) (n : Nat) : part xs n 0 = List.replicate n zero := by simp [part]
theorem part_all (xs : List R) (n : Nat) (h : xs.length = n) : part xs n n = xs := by
  unfold part; rw [List.take_of_length_le (by omega), Nat.sub_self]; simp
theorem part_set (xs : List R) (n k : Nat) (h : xs.length = n) (hk : k < xs.length) : (part xs n k).set k xs[k] = part xs n (k + 1) := by
  unfold part
  have hl : (xs.take k).length = k := by rw [List.length_take]; omega
  rw [List.set_append_right _ _ (by omega), hl, Nat.sub_self]
  have e : n - k = (n - (k + 1)) + 1 := by omega
  rw [e, List.replicate_succ, List.set_cons_zero, List.take_succ_eq_append_getElem hk, List.append_assoc]
  rfl
theorem part_at (xs : List R) (n k : Nat) (h : xs.length = n) (hk : k < n) : (part xs n k)[k]? = some zero := by
  unfold part
  have hl : (xs.take k).length = k := by rw [List.length_take]; omega
  rw [List.getElem?_append_right (by omega), hl, Nat.sub_self, List.getElem?_replicate, if_pos (by omega)]
abbrev OwnR (w : World) (A g n cap : Nat) (ys : List R) : Prop := Own rec 3 w A (.slice (some ⟨g, 0, none⟩) n cap) ys
/-- a store of one value -/
theorem putAll {w : World} {A g n cap : Nat} {ys : List R} (hn : ys.length = n) (h : OwnR w A g n cap ys) (k : Nat) (r0 r : R) (hr : ys[k]? = some r0) :
    OwnR (w.setCell ⟨g, k, none⟩ (.int .i64 r)) A g n cap (ys.set k r) := by
  have h0 := Own.put hn h k 0 r0 r (.int .i64 r) hr (by decide) rfl
  rw [rec_n, Nat.mul_one, Nat.add_zero] at h0
  exact h0
end Go.Proofs.YtneecokjhmnagaaDoor.LInt
namespace Go.Proofs.YtneecokjhmnagaaDoor.LInt
open Go.RowKit Bs
set_option linter.unusedVariables false
def wt (r : R) : Nat := 0
def Fine (r : R) : Prop := True
def tot (xs : List R) : Nat := (xs.map wt).sum
theorem tot_next (xs : List R) (k : Nat) (h : k < xs.length) : tot (xs.take (k + 1)) = tot (xs.take k) + wt xs[k] := by
  rw [List.take_succ_eq_append_getElem h]; unfold tot; rw [List.map_append, List.sum_append]; simp
theorem tot_take_le (xs : List R) (k : Nat) : tot (xs.take k) ≤ tot xs := by
  have := congrArg tot (List.take_append_drop k xs)
  have e : ∀ a b : List R, tot (a ++ b) = tot a + tot b := fun a b => by simp [tot]
  rw [e] at this
  omega
theorem mem_le (xs : List R) (x : R) (h : x ∈ xs) : wt x ≤ tot xs := by
  induction xs with
  | nil => cases h
  | cons y ys ih =>
    simp only [tot, List.map_cons, List.sum_cons] at ih ⊢
    rcases List.mem_cons.1 h with rfl | h
    · omega
    · have := ih h; omega
end Go.Proofs.YtneecokjhmnagaaDoor.LInt
namespace Go.Proofs.YtneecokjhmnagaaDoor.LInt
open Go.RowKit Bs
set_option linter.unusedVariables false
theorem infoK : (Tryd.prog.info? 3).map (fun i => (i.zero, i.size, i.bytes)) = some (some (.int .i64 0), 1, 8) := by kernel_rfl
theorem startB {w : World} {A g : Nat} (h : w.heap[g]? = some (.cells #[] 3 (0, 0))) (hA : A ≤ g) : w.ownsRow A 3 1 (.slice (some ⟨g, 0, none⟩) 0 0) 0 [] :=
  ⟨rfl, .inr ⟨g, 0, #[], rfl, hA, h, Nat.le_refl _, Nat.zero_le _, rfl, rfl⟩⟩
end Go.Proofs.YtneecokjhmnagaaDoor.LInt
namespace Go.Proofs.YtneecokjhmnagaaDoor.LString
open Go.RowKit Bs
set_option linter.unusedVariables false
abbrev R := ByteArray
def vals (r : R) : List Value := [.string r]
/-- one value as a type of records -/
def rec : Rec R := ⟨1, vals, fun _ => rfl, by decide, fun r u hu => by
  simp only [vals, List.mem_cons, List.not_mem_nil, or_false] at hu
  rcases hu with rfl
  rfl⟩
theorem rec_n : rec.n = 1 := rfl
theorem info : (Tryd.prog.info? 9).map (fun i => (i.zero, i.size)) = some (some (.string ⟨#[]⟩), 1) := by kernel_rfl
theorem cells {w : World} {b p : Nat} {r : R} (h : At rec w b p r) : w.cell? ⟨b, p, none⟩ = some (.string r) := h 0 _ rfl
theorem at_of {w : World} {b p : Nat} {r : R} (h0 : w.cell? ⟨b, p, none⟩ = some (.string r)) : At rec w b p r := fun j v hv => by
  have hj : j < 1 := (List.getElem?_eq_some_iff.1 hv).1
  obtain rfl : j = 0 := by omega
  rw [← hv]; exact h0
/-- facts of a value in all worlds that only grew -/
theorem grown {w : World} {b p : Nat} {r : R} (h : At rec w b p r) (hl : b < w.heap.size) : Hid (∀ d os, At rec (Sort.grow (redrawn w d) os) b p r) := fun d os => h.below rec (below_regrown w d os) hl
theorem flat_eq (xs : List R) : flat rec xs = xs.map (fun r => .string r) := by
  induction xs with
  | nil => rfl
  | cons x xs ih => rw [flat_cons, ih]; rfl
def zero : R := ⟨#[]⟩
theorem made_zero (n : Nat) : (madeCells (#[.string ⟨#[]⟩] : Array Value) n).toList = flat rec (List.replicate n zero) := by
  apply List.ext_getElem?
  intro i
  rw [madeCells, flat_eq]
  by_cases hi : i < n
  · simp only [Array.toList_map, List.getElem?_map, Array.toList_range, List.getElem?_range hi, Option.map_some, List.getElem?_replicate, if_pos hi]
    have h1 : i % (#[.string ⟨#[]⟩] : Array Value).size = 0 := Nat.mod_one i
    rw [h1]
    rfl
  · rw [List.getElem?_eq_none (by simp; omega), List.getElem?_eq_none (by simp; omega)]
/-- what a copy holds after k stores -/
def part (xs : List R) (n k : Nat) : List R := xs.take k ++ List.replicate (n - k) zero
theorem part_len (xs : List R) (n k : Nat) (h : xs.length = n) (hk : k ≤ n) : (part xs n k).length = n := by simp [part]; omega
theorem part_zero (xs : List R) (n : Nat) : part xs n 0 = List.replicate n zero := by simp [part]
theorem part_all (xs : List R) (n : Nat) (h : xs.length = n) : part xs n n = xs := by
  unfold part; rw [List.take_of_length_le (by omega), Nat.sub_self]; simp
theorem part_set (xs : List R) (n k : Nat) (h : xs.length = n) (hk : k < xs.length) : (part xs n k).set k xs[k] = part xs n (k + 1) := by
  unfold part
  have hl : (xs.take k).length = k := by rw [List.length_take]; omega
  rw [List.set_append_right _ _ (by omega), hl, Nat.sub_self]
  have e : n - k = (n - (k + 1)) + 1 := by omega
  rw [e, List.replicate_succ, List.set_cons_zero, List.take_succ_eq_append_getElem hk, List.append_assoc]
  rfl
theorem part_at (xs : List R) (n k : Nat) (h : xs.length = n) (hk : k < n) : (part xs n k)[k]? = some zero := by
  unfold part
  have hl : (xs.take k).length = k := by rw [List.length_take]; omega
  rw [List.getElem?_append_right (by omega), hl, Nat.sub_self, List.getElem?_replicate, if_pos (by omega)]
abbrev OwnR (w : World) (A g n cap : Nat) (ys : List R) : Prop := Own rec 9 w A (.slice (some ⟨g, 0, none⟩) n cap) ys
/-- a store of one value -/
theorem putAll {w : World} {A g n cap : Nat} {ys : List R} (hn : ys.length = n) (h : OwnR w A g n cap ys) (k : Nat) (r0 r : R) (hr : ys[k]? = some r0) :
    OwnR (w.setCell ⟨g, k, none⟩ (.string r)) A g n cap (ys.set k r) := by
  have h0 := Own.put hn h k 0 r0 r (.string r) hr (by decide) rfl
  rw [rec_n, Nat.mul_one, Nat.add_zero] at h0
  exact h0
end Go.Proofs.YtneecokjhmnagaaDoor.LString
namespace Go.Proofs.YtneecokjhmnagaaDoor.LString
open Go.RowKit Bs
set_option linter.unusedVariables false
def wt (r : R) : Nat := r.size
def Fine (r : R) : Prop := r.size ≤ maxLen
def tot (xs : List R) : Nat := (xs.map wt).sum
theorem tot_next (xs : List R) (k : Nat) (h : k < xs.length) : tot (xs.take (k + 1)) = tot (xs.take k) + wt xs[k] := by
  rw [List.take_succ_eq_append_getElem h]; unfold tot; rw [List.map_append, List.sum_append]; simp
theorem tot_take_le (xs : List R) (k : Nat) : tot (xs.take k) ≤ tot xs := by
  have := congrArg tot (List.take_append_drop k xs)
  have e : ∀ a b : List R, tot (a ++ b) = tot a + tot b := fun a b => by simp [tot]
  rw [e] at this
  omega
theorem mem_le (xs : List R) (x : R) (h : x ∈ xs) : wt x ≤ tot xs := by
  induction xs with
  | nil => cases h
  | cons y ys ih =>
    simp only [tot, List.map_cons, List.sum_cons] at ih ⊢
    rcases List.mem_cons.1 h with rfl | h
    · omega
    · have := ih h; omega
end Go.Proofs.YtneecokjhmnagaaDoor.LString
namespace Go.Proofs.YtneecokjhmnagaaDoor.LString
open Go.RowKit Bs
set_option linter.unusedVariables false
theorem infoK : (Tryd.prog.info? 9).map (fun i => (i.zero, i.size, i.bytes)) = some (some (.string ⟨#[]⟩), 1, 16) := by kernel_rfl
theorem startB {w : World} {A g : Nat} (h : w.heap[g]? = some (.cells #[] 9 (0, 0))) (hA : A ≤ g) : w.ownsRow A 9 1 (.slice (some ⟨g, 0, none⟩) 0 0) 0 [] :=
  ⟨rfl, .inr ⟨g, 0, #[], rfl, hA, h, Nat.le_refl _, Nat.zero_le _, rfl, rfl⟩⟩
end Go.Proofs.YtneecokjhmnagaaDoor.LString
namespace Go.Proofs.YtneecokjhmnagaaDoor.Cur
open Go.RowKit
set_option linter.unusedVariables false

theorem cell_lt {w : World} {p : Addr} {v : Value} (h : w.cell? p = some v) : p.block < w.heap.size := by
  rcases Nat.lt_or_ge p.block w.heap.size with h' | h'
  · exact h'
  · simp [World.cell?, Array.getElem?_eq_none h'] at h

/-- The bytes of the code that the reader reads, in a block other than the reader's. -/
def CodeAt (w : World) (B : Nat) (a : Option Addr) (len : Nat) : Prop :=
  len = 0 ∨ ∃ b off, a = some ⟨b, off, none⟩ ∧ b < B ∧ b < w.heap.size ∧ ∀ j, j < len → ∃ z : Int, w.cell? ⟨b, off + j, none⟩ = some (.int .u8 z) ∧ 0 ≤ z ∧ z ≤ 255
/-- Block B is a reader at place k. -/
def CurAt (w : World) (B k : Nat) : Prop :=
  ∃ a len cap seed, w.heap[B]? = some (.cells #[.slice a len cap, .int .i64 (k : Int), .int .u64 seed] 53 (0, 0)) ∧ len ≤ 65536 ∧ k ≤ 1000000 ∧ CodeAt w B a len

def Blk (w : World) (B : Nat) (v : Value) (k : Int) (seed : Int) : Prop := w.heap[B]? = some (.cells #[v, .int .i64 k, .int .u64 seed] 53 (0, 0))
theorem Blk.lt {w : World} {B : Nat} {v : Value} {k seed : Int} (h : Blk w B v k seed) : B < w.heap.size := (Array.getElem?_eq_some_iff.1 h).1
theorem Blk.c0 {w : World} {B : Nat} {v : Value} {k seed : Int} (h : Blk w B v k seed) : w.cell? ⟨B, 0, none⟩ = some v := by simp [World.cell?, show w.heap[B]? = _ from h]
theorem Blk.c1 {w : World} {B : Nat} {v : Value} {k seed : Int} (h : Blk w B v k seed) : w.cell? ⟨B, 1, none⟩ = some (.int .i64 k) := by simp [World.cell?, show w.heap[B]? = _ from h]
theorem Blk.c2 {w : World} {B : Nat} {v : Value} {k seed : Int} (h : Blk w B v k seed) : w.cell? ⟨B, 2, none⟩ = some (.int .u64 seed) := by simp [World.cell?, show w.heap[B]? = _ from h]
theorem Blk.fr {w : World} {B : Nat} {v : Value} {k seed : Int} (h : Blk w B v k seed) (o : Nat) : w.frozen? ⟨B, o, none⟩ = false := by simp [World.frozen?, show w.heap[B]? = _ from h]
theorem Blk.set1 {w : World} {B : Nat} {v : Value} {k seed : Int} (h : Blk w B v k seed) (k' : Int) : Blk (w.setCell ⟨B, 1, none⟩ (.int .i64 k')) B v k' seed := heap_setCell_same w B 1 _ 53 _ h
theorem Blk.set2 {w : World} {B : Nat} {v : Value} {k seed : Int} (h : Blk w B v k seed) (s' : Int) : Blk (w.setCell ⟨B, 2, none⟩ (.int .u64 s')) B v k s' := heap_setCell_same w B 2 _ 53 _ h
theorem grown_set (w : World) (B o : Nat) (v : Value) : w.grownBy (w.setCell ⟨B, o, none⟩ v) (some B) :=
  ⟨rfl, rfl, rfl, by simp [World.setCell], fun k _ hk => Below.heap_setCell w ⟨B, o, none⟩ v k (fun e => hk (by rw [e]))⟩
theorem grown_drew (w : World) (m : Nat) (r : Option Nat) : w.grownBy (w.drewN m) r := ⟨rfl, rfl, rfl, Nat.le_refl _, fun _ _ _ => rfl⟩
theorem grown_trans {a b c : World} {r : Option Nat} (h : a.grownBy b r) (k : b.grownBy c r) : a.grownBy c r :=
  ⟨k.os.trans h.os, k.tape.trans h.tape, k.output.trans h.output, Nat.le_trans h.size k.size, fun i hi hr => (k.block i (Nat.lt_of_lt_of_le hi h.size) hr).trans (h.block i hi hr)⟩
def NextPost (w : World) (B : Nat) (v : Value) (k : Nat) (e : Ending) (w' : World) : Prop :=
  ∃ r s' : Int, e = .returned (.int .i64 r) ∧ 0 ≤ r ∧ r ≤ 255 ∧ Blk w' B v ((k + 1 : Nat) : Int) s' ∧ w.grownBy w' (some B)

/-- a number that a uint64 holds -/
def U64 (s : Int) : Prop := 0 ≤ s ∧ s ≤ 18446744073709551615
theorem u64_wrap (n : Int) : U64 (IntKind.u64.wrap n) := by unfold U64; rw [IntKind.wrap_u64]; omega
theorem and255 (s : Int) (h : U64 s) : 0 ≤ wrap64 (bits BinOp.and IntKind.u64 (s / 1099511627776) 255) ∧ wrap64 (bits BinOp.and IntKind.u64 (s / 1099511627776) 255) ≤ 255 := by
  unfold U64 at h
  have h0 : 0 ≤ s / 1099511627776 := by omega
  have h1 : s / 1099511627776 < 18446744073709551616 := by omega
  generalize s / 1099511627776 = E at h0 h1
  have hb := bits_and_u64_nat E.toNat 255 (by omega) (by omega)
  have he : ((E.toNat : Nat) : Int) = E := Int.toNat_of_nonneg h0
  rw [he] at hb
  have hl : E.toNat &&& 255 ≤ 255 := Nat.and_le_right
  have e2 : bits BinOp.and IntKind.u64 E 255 = ((E.toNat &&& 255 : Nat) : Int) := hb
  rw [e2]
  unfold wrap64
  omega

set_option maxHeartbeats 400000 in
theorem next_out (B k len cap : Nat) (a : Option Addr) (seed : Int) (w : World) (h : Blk w B (.slice a len cap) k seed) (hl : len ≤ 65536) (hk : k ≤ 1000000) (hlt : ¬ k < len) :
    Calls Tryd.prog 84 #[.pointer (some ⟨B, 0, none⟩)] w (NextPost w B (.slice a len cap) k) := by
  have HB := Lib.hid h
  have h0 := h.c0
  have h1 := h.c1
  have h2 := h.c2
  have f1 := h.fr 1
  have f2 := h.fr 2
  clear h
  go_enter Tryd.func84, Tryd.ntmps84
  go_wp2_with fail
  go_quiet (fail)
  go_wp2_with fail
  have hs2 := u64_wrap (IntKind.u64.wrap (IntKind.u64.wrap (seed * 6364136223846793005)) + 909909)
  generalize hs : IntKind.u64.wrap (IntKind.u64.wrap (IntKind.u64.wrap (seed * 6364136223846793005)) + 909909) = s2 at hs2 ⊢
  clear hs
  have HB2 : Blk (((w.drewN nq).setCell ⟨B, 1, none⟩ (.int .i64 ((k : Int) + 1))).setCell ⟨B, 2, none⟩ (.int .u64 s2)) B (.slice a len cap) ((k : Int) + 1) s2 := (Blk.set1 (w := w.drewN nq) HB.out _).set2 _
  have hg : w.grownBy (((w.drewN nq).setCell ⟨B, 1, none⟩ (.int .i64 ((k : Int) + 1))).setCell ⟨B, 2, none⟩ (.int .u64 s2)) (some B) := grown_trans (grown_trans (grown_drew w nq _) (grown_set _ _ _ _)) (grown_set _ _ _ _)
  generalize ((w.drewN nq).setCell ⟨B, 1, none⟩ (.int .i64 ((k : Int) + 1))).setCell ⟨B, 2, none⟩ (.int .u64 s2) = W2 at *
  have g0 := HB2.c0
  have g1 := HB2.c1
  have g2 := HB2.c2
  have HB3 := Lib.hid HB2
  clear HB2 h0 h1 h2 f1 f2
  go_quiet (fail)
  go_wp2_with fail
  go_ret
  exact ⟨_, s2, rfl, (and255 s2 hs2).1, (and255 s2 hs2).2, HB3.out, grown_trans hg (grown_drew _ _ _)⟩

set_option maxHeartbeats 400000 in
theorem next_on (B k len cap b off : Nat) (seed z : Int) (w : World) (h : Blk w B (.slice (some ⟨b, off, none⟩) len cap) k seed) (hl : len ≤ 65536) (hlt : k < len) (hz : w.cell? ⟨b, off + k, none⟩ = some (.int .u8 z)) (z0 : 0 ≤ z) (z1 : z ≤ 255) :
    Calls Tryd.prog 84 #[.pointer (some ⟨B, 0, none⟩)] w (NextPost w B (.slice (some ⟨b, off, none⟩) len cap) k) := by
  have HB := Lib.hid h
  have h0 := h.c0
  have h1 := h.c1
  have h2 := h.c2
  have f1 := h.fr 1
  have f2 := h.fr 2
  have k0 : 0 ≤ (k : Int) := by omega
  have k1 : (k : Int) < (len : Int) := by omega
  have hw : IntKind.i64.wrap z = z := IntWalk.i64_in _ (by omega)
  clear h
  go_enter Tryd.func84, Tryd.ntmps84
  go_wp2_with fail
  go_quiet (fail)
  obtain ⟨m1, rfl⟩ : ∃ m1, m1 = nq := ⟨_, rfl⟩
  go_wp2_with fail
  go_quiet (fail)
  clear hw hz
  go_wp2_with fail
  generalize hs : IntKind.u64.wrap (IntKind.u64.wrap (IntKind.u64.wrap (seed * 6364136223846793005) + z) + 909909) = s2
  clear hs
  have HB2 : Blk (((w.drewN (m1 + nq)).setCell ⟨B, 1, none⟩ (.int .i64 ((k : Int) + 1))).setCell ⟨B, 2, none⟩ (.int .u64 s2)) B (.slice (some ⟨b, off, none⟩) len cap) ((k : Int) + 1) s2 := (Blk.set1 (w := w.drewN (m1 + nq)) HB.out _).set2 _
  have hg : w.grownBy (((w.drewN (m1 + nq)).setCell ⟨B, 1, none⟩ (.int .i64 ((k : Int) + 1))).setCell ⟨B, 2, none⟩ (.int .u64 s2)) (some B) := grown_trans (grown_trans (grown_drew w (m1 + nq) _) (grown_set _ _ _ _)) (grown_set _ _ _ _)
  generalize ((w.drewN (m1 + nq)).setCell ⟨B, 1, none⟩ (.int .i64 ((k : Int) + 1))).setCell ⟨B, 2, none⟩ (.int .u64 s2) = W2 at *
  have g0 := HB2.c0
  have g1 := HB2.c1
  have g2 := HB2.c2
  have HB3 := Lib.hid HB2
  clear HB2 h0 h1 h2 f1 f2
  go_quiet (fail)
  go_wp2_with fail
  go_ret
  exact ⟨_, s2, rfl, z0, z1, HB3.out, grown_trans hg (grown_drew _ _ _)⟩

/-- what a world that is as it was but for the reader's block keeps -/
theorem CodeAt.grown {w w' : World} {B : Nat} {a : Option Addr} {len : Nat} (h : CodeAt w B a len) (hg : w.grownBy w' (some B)) : CodeAt w' B a len := by
  rcases h with h | ⟨b, off, rfl, hne, hlt, hc⟩
  · exact .inl h
  · refine .inr ⟨b, off, rfl, hne, Nat.lt_of_lt_of_le hlt hg.size, fun j hj => ?_⟩
    obtain ⟨z, hz, h0, h1⟩ := hc j hj
    exact ⟨z, by rw [World.cell?_of_block (hg.block b hlt (by intro e; have := Option.some.inj e; omega))]; exact hz, h0, h1⟩

/-- what a step of the reader answers and leaves -/
def Step (w : World) (B k : Nat) (hi : Int) (e : Ending) (w' : World) : Prop := ∃ r : Int, e = .returned (.int .i64 r) ∧ 0 ≤ r ∧ r ≤ hi ∧ CurAt w' B k ∧ w.grownBy w' (some B)
theorem next (B k : Nat) (w : World) (h : CurAt w B k) (hk : k < 1000000) : Calls Tryd.prog 84 #[.pointer (some ⟨B, 0, none⟩)] w (Step w B (k + 1) 255) := by
  obtain ⟨a, len, cap, seed, hB, hl, _, hc⟩ := h
  have fin : ∀ e w', NextPost w B (.slice a len cap) k e w' → Step w B (k + 1) 255 e w' := fun e w' ⟨r, s', he, h0, h1, hb, hg⟩ => ⟨r, he, h0, h1, ⟨a, len, cap, s', hb, hl, by omega, hc.grown hg⟩, hg⟩
  by_cases hlt : k < len
  · rcases hc with h0 | ⟨b, off, rfl, hne, hbl, hcc⟩
    · omega
    · obtain ⟨z, hz, z0, z1⟩ := hcc k hlt
      exact (next_on B k len cap b off seed z w hB hl hlt hz z0 z1).mono fin
  · exact (next_out B k len cap a seed w hB hl (by omega) hlt).mono fin

/-- Block B is a reader that has read at most m bytes. -/
def Cur (w : World) (B m : Nat) : Prop := ∃ k, k ≤ m ∧ CurAt w B k
theorem Cur.mono {w : World} {B m m' : Nat} (h : Cur w B m) (hm : m ≤ m') : Cur w B m' := by
  obtain ⟨k, hk, hc⟩ := h
  exact ⟨k, by omega, hc⟩
theorem Cur.lt {w : World} {B m : Nat} (h : Cur w B m) : B < w.heap.size := by
  obtain ⟨k, _, a, len, cap, seed, hB, _⟩ := h
  exact Blk.lt (w := w) (B := B) (v := .slice a len cap) (k := k) (seed := seed) hB
theorem grown_refl (w : World) (r : Option Nat) : w.grownBy w r := ⟨rfl, rfl, rfl, Nat.le_refl _, fun _ _ _ => rfl⟩
/-- a world that keeps the reader's block keeps the reader -/
theorem Cur.kept {w w' : World} {B m : Nat} (h : Cur w B m) (hb : Below w.heap.size w w') : Cur w' B m := by
  obtain ⟨k, hk, a, len, cap, seed, hB, hl, hk2, hc⟩ := h
  have hlt : B < w.heap.size := Blk.lt (w := w) (B := B) (v := .slice a len cap) (k := k) (seed := seed) hB
  refine ⟨k, hk, a, len, cap, seed, (hb.block B hlt).trans hB, hl, hk2, ?_⟩
  exact hc.grown ⟨hb.os, hb.tape, hb.output, hb.size, fun j hj _ => hb.block j hj⟩

theorem CodeAt.below {w w' : World} {B : Nat} {a : Option Addr} {len : Nat} (h : CodeAt w B a len) (hb : Below (B + 1) w w') : CodeAt w' B a len := by
  rcases h with h | ⟨b, off, rfl, hne, hlt, hc⟩
  · exact .inl h
  · refine .inr ⟨b, off, rfl, hne, Nat.lt_of_lt_of_le hlt hb.size, fun j hj => ?_⟩
    obtain ⟨z, hz, h0, h1⟩ := hc j hj
    exact ⟨z, by rw [hb.cell (p := ⟨b, off + j, none⟩) (by show b < B + 1; omega)]; exact hz, h0, h1⟩
/-- a world that keeps all up to the reader's block keeps the reader -/
theorem Cur.keptB {w w' : World} {B m : Nat} (h : Cur w B m) (hb : Below (B + 1) w w') : Cur w' B m := by
  obtain ⟨k, hk, a, len, cap, seed, hB, hl, hk2, hc⟩ := h
  exact ⟨k, hk, a, len, cap, seed, (hb.block B (by omega)).trans hB, hl, hk2, hc.below hb⟩
/-- a row of strings is not the reader's block -/
theorem Cur.not_row {w : World} {B m base n : Nat} {v : Value} {xs : List Value} (h : Cur w B m) (hr : w.ownsRow base 9 1 v n xs) : v.ownBlock ≠ some B := by
  obtain ⟨k, _, a, len, cap, seed, hB, _⟩ := h
  rcases hr.2 with ⟨rfl, _⟩ | ⟨g, cp, cur, rfl, _, hgb, _⟩
  · simp [Value.ownBlock]
  · intro e
    obtain rfl : g = B := by simpa [Value.ownBlock] using e
    rw [hB] at hgb
    simp at hgb

def Picks (w : World) (B m : Nat) (hi : Int) (e : Ending) (w' : World) : Prop := ∃ r : Int, e = .returned (.int .i64 r) ∧ 0 ≤ r ∧ r ≤ hi ∧ Cur w' B m ∧ w.grownBy w' (some B)
set_option maxHeartbeats 400000 in
theorem pick (B m : Nat) (n : Int) (w : World) (h : Cur w B m) (hm : m < 900000) (h0 : 1 ≤ n) (h1 : n ≤ 60000) : Calls Tryd.prog 59 #[.pointer (some ⟨B, 0, none⟩), .int .i64 n] w (Picks w B (m + 2) (n - 1)) := by
  obtain ⟨k, hk, hc⟩ := h
  by_cases hn : n ≤ 1
  · have HC := Lib.hid hc
    clear hc
    go_enter Tryd.func59, Tryd.ntmps59
    go_wp2_with fail
    go_ret
    exact ⟨0, rfl, by omega, by omega, ⟨k, by omega, HC.out⟩, grown_refl _ _⟩
  · have HC := Lib.hid hc
    clear hc
    by_cases hb : 200 < n
    · go_enter Tryd.func59, Tryd.ntmps59
      go_wp2_with fail
      refine (next B k _ HC.out (by omega)).mono ?_
      rintro e w1 ⟨r, rfl, r0, r1, hc1, hg1⟩
      have HC1 := Lib.hid hc1
      clear hc1 HC
      go_wp2_with fail
      refine (next B (k + 1) _ HC1.out (by omega)).mono ?_
      rintro e w2 ⟨r2, rfl, r20, r21, hc2, hg2⟩
      have HC2 := Lib.hid hc2
      have hg := grown_trans hg1 hg2
      clear hc2 HC1 hg1 hg2
      go_wp2_with fail
      go_ret
      exact ⟨_, rfl, Int.emod_nonneg _ (by omega), by have := Int.emod_lt_of_pos (r * 256 + r2) (show 0 < n by omega); omega, ⟨k + 1 + 1, by omega, HC2.out⟩, hg⟩
    · go_enter Tryd.func59, Tryd.ntmps59
      go_wp2_with fail
      refine (next B k _ HC.out (by omega)).mono ?_
      rintro e w1 ⟨r, rfl, r0, r1, hc1, hg1⟩
      have HC1 := Lib.hid hc1
      clear hc1 HC
      go_wp2_with fail
      go_ret
      exact ⟨_, rfl, Int.emod_nonneg _ (by omega), by have := Int.emod_lt_of_pos r (show 0 < n by omega); omega, ⟨k + 1, by omega, HC1.out⟩, hg1⟩

def Ones (w : World) (B m : Nat) (e : Ending) (w' : World) : Prop := ∃ r : Bool, e = .returned (.bool r) ∧ Cur w' B m ∧ w.grownBy w' (some B)
set_option maxHeartbeats 400000 in
theorem one (B m : Nat) (n : Int) (w : World) (h : Cur w B m) (hm : m < 900000) (h0 : 1 ≤ n) (h1 : n ≤ 60000) : Calls Tryd.prog 30 #[.pointer (some ⟨B, 0, none⟩), .int .i64 n] w (Ones w B (m + 2)) := by
  have HC := Lib.hid h
  clear h
  go_enter Tryd.func30, Tryd.ntmps30
  go_wp2_with fail
  refine (pick B m n _ HC.out hm h0 h1).mono ?_
  rintro e w1 ⟨r, rfl, r0, r1, hc1, hg1⟩
  have HC1 := Lib.hid hc1
  clear hc1 HC
  go_wp2_with fail
  go_ret
  exact ⟨_, rfl, HC1.out, hg1⟩

/-- 'of' answers one of the strings. -/
def Ofs (w : World) (B m : Nat) (xs : List ByteArray) (e : Ending) (w' : World) : Prop := ∃ x, x ∈ xs ∧ e = .returned (.string x) ∧ Cur w' B m ∧ w.grownBy w' (some B)
set_option maxHeartbeats 400000 in
theorem of_any (B m g o n cap : Nat) (xs : List ByteArray) (w : World) (h : Cur w B m) (hm : m < 900000) (hn : xs.length = n) (h0 : 1 ≤ n) (h1 : n ≤ 60000) (hcap : n ≤ cap) (hgB : g ≠ B) (hgl : g < w.heap.size)
    (hc : ∀ j x, xs[j]? = some x → w.cell? ⟨g, o + j, none⟩ = some (.string x)) :
    Calls Tryd.prog 31 #[.pointer (some ⟨B, 0, none⟩), .slice (some ⟨g, o, none⟩) n cap] w (Ofs w B (m + 2) xs) := by
  have HC := Lib.hid h
  have HX := Lib.hid hc
  have HN := Lib.hid hn
  clear h hc hn
  go_enter Tryd.func31, Tryd.ntmps31
  go_wp2_with fail
  refine (pick B m n _ HC.out hm (by omega) (by omega)).mono ?_
  rintro e w1 ⟨r, rfl, r0, r1, hc1, hg1⟩
  obtain ⟨i, rfl⟩ := Int.eq_ofNat_of_zero_le r0
  have hi : i < xs.length := by rw [HN.out]; omega
  have hcell : w1.cell? ⟨g, o + i, none⟩ = some (.string xs[i]) := by
    rw [World.cell?_of_block (hg1.block g hgl (by intro e; exact hgB (Option.some.inj e)))]
    exact HX.out i _ (List.getElem?_eq_getElem hi)
  have HM := Lib.hid (List.getElem_mem hi)
  have HC1 := Lib.hid hc1
  clear hc1 HC
  generalize xs[i] = X at *
  go_wp2_with fail
  go_ret
  exact ⟨X, HM.out, rfl, HC1.out, hg1⟩
end Go.Proofs.YtneecokjhmnagaaDoor.Cur
namespace Go.Proofs.YtneecokjhmnagaaDoor.Draw
open Go.RowKit Cur
set_option linter.unusedVariables false

/-- A new reader over a code that came in. -/
theorem cur_new {w : World} {a : Option Addr} {len cap : Nat} {zs : List Int} (h : Frame.IsRow .u8 w a len cap zs) (hl : len ≤ 65536) :
    Cur (w.alloc (.cells #[.slice a len cap, .int .i64 0, .int .u64 0] 53)) w.heap.size 0 := by
  refine ⟨0, Nat.le_refl _, a, len, cap, 0, (by show (w.heap.push _)[w.heap.size]? = _; rw [Array.getElem?_push, if_pos rfl]; rfl), hl, by omega, ?_⟩
  rcases h with ⟨rfl, rfl, rfl, rfl⟩ | ⟨x, rfl, h1, h2, h3, h4, h5⟩
  · exact .inl rfl
  · by_cases h0 : len = 0
    · exact .inl h0
    · obtain ⟨b, off, spot⟩ := x
      have hspot : spot = none := by simpa [Addr.add] using World.cell?_spot (h4 0 (by omega))
      subst hspot
      have hb : b < w.heap.size := cell_lt (h4 0 (by omega))
      refine .inr ⟨b, off, rfl, by omega, by simp; omega, fun j hj => ?_⟩
      have hz := h4 j (by omega)
      have hw := h5 (zs.getD j 0) (by rw [List.getD_eq_getElem?_getD, List.getElem?_eq_getElem (by omega)]; exact List.getElem_mem _)
      refine ⟨zs.getD j 0, ?_, ?_, ?_⟩
      · rw [World.cell?_alloc_past _ _ _ hb, ← Go.WideShapes.add_plain]
        exact hz
      · exact (bounds_u8 hw).1
      · exact (bounds_u8 hw).2

theorem lit_cells (w : World) (xs : List ByteArray) (j : Nat) (x : ByteArray) (h : xs[j]? = some x) : (w.alloc (.cells (xs.map Value.string).toArray 9)).cell? ⟨w.heap.size, 0 + j, none⟩ = some (.string x) := by
  rw [Nat.zero_add, World.cell?_alloc_at _ _ _ _ rfl]
  show (xs.map Value.string).toArray[j]? = _
  rw [List.getElem?_toArray, List.getElem?_map, h]
  rfl
theorem grown_alloc (w : World) (o : Obj) (r : Option Nat) : w.grownBy (w.alloc o) r := World.grownBy_alloc w o r

/-- 'c.of([]string{..})' at a literal that has just been laid. -/
theorem of_lit (B m : Nat) (xs : List ByteArray) (w : World) (h : Cur w B m) (hm : m < 900000) (h0 : 1 ≤ xs.length) (h1 : xs.length ≤ 60000) :
    Calls Tryd.prog 31 #[.pointer (some ⟨B, 0, none⟩), .slice (some ⟨w.heap.size, 0, none⟩) xs.length xs.length] (w.alloc (.cells (xs.map Value.string).toArray 9)) (Ofs w B (m + 2) xs) := by
  have hlt := h.lt
  refine (of_any B m w.heap.size 0 xs.length xs.length xs _ (h.kept ((Below.refl _ _).alloc (Nat.le_refl _) _)) hm rfl h0 h1 (Nat.le_refl _) (by omega) (by simp) (fun j x hx => lit_cells w xs j x hx)).mono ?_
  rintro e w' ⟨x, hx, he, hc, hg⟩
  exact ⟨x, hx, he, hc, grown_trans (grown_alloc w _ _) hg⟩
theorem small_of (xs : List ByteArray) (k : Nat) (h : xs.all (fun x => decide (x.size ≤ k)) = true) (x : ByteArray) (hx : x ∈ xs) : x.size ≤ k := of_decide_eq_true (List.all_eq_true.1 h x hx)

def Str (w : World) (B m k : Nat) (e : Ending) (w' : World) : Prop := ∃ x : ByteArray, e = .returned (.string x) ∧ x.size ≤ k ∧ Cur w' B m ∧ w.grownBy w' (some B)
/-- what a reader of the call's own leaves -/
theorem below_cur {w w' : World} {o : Obj} (hg : (w.alloc o).grownBy w' (some w.heap.size)) : Below w.heap.size w w' :=
  ((Below.refl _ w).alloc (Nat.le_refl _) o).grown hg (by simp) (fun j hj => by cases hj; exact Nat.le_refl _)
end Go.Proofs.YtneecokjhmnagaaDoor.Draw
namespace Go.Proofs.YtneecokjhmnagaaDoor.Draw
open Go.RowKit Cur
set_option linter.unusedVariables false

def Ints (w : World) (B m : Nat) (xs : List Int) (e : Ending) (w' : World) : Prop := ∃ x, x ∈ xs ∧ e = .returned (.int .i64 x) ∧ Cur w' B m ∧ w.grownBy w' (some B)
set_option maxHeartbeats 400000 in
theorem among_any (B m g o n cap : Nat) (xs : List Int) (w : World) (h : Cur w B m) (hm : m < 900000) (hn : xs.length = n) (h0 : 1 ≤ n) (h1 : n ≤ 60000) (hcap : n ≤ cap) (hgB : g ≠ B) (hgl : g < w.heap.size)
    (hc : ∀ j x, xs[j]? = some x → w.cell? ⟨g, o + j, none⟩ = some (.int .i64 x)) :
    Calls Tryd.prog 58 #[.pointer (some ⟨B, 0, none⟩), .slice (some ⟨g, o, none⟩) n cap] w (Ints w B (m + 2) xs) := by
  have HC := Lib.hid h
  have HX := Lib.hid hc
  have HN := Lib.hid hn
  clear h hc hn
  go_enter Tryd.func58, Tryd.ntmps58
  go_wp2_with fail
  refine (pick B m n _ HC.out hm (by omega) (by omega)).mono ?_
  rintro e w1 ⟨r, rfl, r0, r1, hc1, hg1⟩
  obtain ⟨i, rfl⟩ := Int.eq_ofNat_of_zero_le r0
  have hi : i < xs.length := by rw [HN.out]; omega
  have hcell : w1.cell? ⟨g, o + i, none⟩ = some (.int .i64 xs[i]) := by
    rw [World.cell?_of_block (hg1.block g hgl (by intro e; exact hgB (Option.some.inj e)))]
    exact HX.out i _ (List.getElem?_eq_getElem hi)
  have HM := Lib.hid (List.getElem_mem hi)
  have HC1 := Lib.hid hc1
  clear hc1 HC
  generalize xs[i] = X at *
  go_wp2_with fail
  go_ret
  exact ⟨X, HM.out, rfl, HC1.out, hg1⟩
theorem lit_ints (w : World) (xs : List Int) (j : Nat) (x : Int) (h : xs[j]? = some x) : (w.alloc (.cells (xs.map (Value.int .i64)).toArray 3)).cell? ⟨w.heap.size, 0 + j, none⟩ = some (.int .i64 x) := by
  rw [Nat.zero_add, World.cell?_alloc_at _ _ _ _ rfl]
  show (xs.map (Value.int .i64)).toArray[j]? = _
  rw [List.getElem?_toArray, List.getElem?_map, h]
  rfl
theorem among_lit (B m : Nat) (xs : List Int) (w : World) (h : Cur w B m) (hm : m < 900000) (h0 : 1 ≤ xs.length) (h1 : xs.length ≤ 60000) :
    Calls Tryd.prog 58 #[.pointer (some ⟨B, 0, none⟩), .slice (some ⟨w.heap.size, 0, none⟩) xs.length xs.length] (w.alloc (.cells (xs.map (Value.int .i64)).toArray 3)) (Ints w B (m + 2) xs) := by
  have hlt := h.lt
  refine (among_any B m w.heap.size 0 xs.length xs.length xs _ (h.kept ((Below.refl _ _).alloc (Nat.le_refl _) _)) hm rfl h0 h1 (Nat.le_refl _) (by omega) (by simp) (fun j x hx => lit_ints w xs j x hx)).mono ?_
  rintro e w' ⟨x, hx, he, hc, hg⟩
  exact ⟨x, hx, he, hc, grown_trans (grown_alloc w _ _) hg⟩
end Go.Proofs.YtneecokjhmnagaaDoor.Draw
namespace Go.Proofs.YtneecokjhmnagaaDoor.Draw
open Go.RowKit Cur Bs
set_option linter.unusedVariables false
/-- block G holds just these cells -/
def Bx (w : World) (G : Nat) (t : TypeId) (cs : Array Value) : Prop := w.heap[G]? = some (.cells cs t (0, 0))
section
variable {w w' : World} {G : Nat} {t : TypeId} {cs : Array Value}
theorem Bx.lt (h : Bx w G t cs) : G < w.heap.size := (Array.getElem?_eq_some_iff.1 h).1
theorem Bx.cell (h : Bx w G t cs) (i : Nat) : w.cell? ⟨G, i, none⟩ = cs[i]? := cell_of_row w G i cs t (0, 0) h
theorem Bx.frozen (h : Bx w G t cs) (i : Nat) : w.frozen? ⟨G, i, none⟩ = false := by unfold Bx at h; simp [World.frozen?, h]
theorem Bx.new (w : World) (t : TypeId) (cs : Array Value) : Bx (w.alloc (.cells cs t)) w.heap.size t cs := heap_alloc_new w _
theorem Bx.alloc (h : Bx w G t cs) (o : Obj) : Bx (w.alloc o) G t cs := (Below.heap_alloc w o G h.lt).trans h
theorem Bx.set_ (h : Bx w G t cs) (i : Nat) (u : Value) : Bx (w.setCell ⟨G, i, none⟩ u) G t (cs.setIfInBounds i u) := by
  unfold Bx at h ⊢
  simp [World.setCell, Array.getElem?_modify, h]
theorem Bx.far (h : Bx w G t cs) {p : Addr} (hp : G ≠ p.block) (u : Value) : Bx (w.setCell p u) G t cs := (Below.heap_setCell w p u G hp).trans h
theorem Bx.grown {B : Nat} (h : Bx w G t cs) (hg : w.grownBy w' (some B)) (hne : G ≠ B) : Bx w' G t cs := (hg.block G h.lt (fun e => hne (Option.some.inj e))).trans h
end
theorem cur_alloc {w : World} {B m : Nat} (h : Cur w B m) (o : Obj) : Cur (w.alloc o) B m := h.kept ((Below.refl _ _).alloc (Nat.le_refl _) o)
theorem cur_set {w : World} {B m : Nat} (h : Cur w B m) {p : Addr} (hp : B < p.block) (u : Value) : Cur (w.setCell p u) B m := h.keptB ⟨rfl, rfl, rfl, by simp, fun k hk => Below.heap_setCell w p u k (by omega)⟩
/-- an owned slice behind the reader's block -/
theorem own_grown {α : Type} {T : Rec α} {E : TypeId} {w w' : World} {A B : Nat} {v : Value} {xs : List α} (h : Own T E w A v xs) (hg : w.grownBy w' (some B)) (hA : B < A) : Own T E w' A v xs :=
  h.same fun k hk => hg.block k (h.lt k hk).2 (fun e => by have := (h.lt k hk).1; have := Option.some.inj e; omega)
theorem own_set {α : Type} {T : Rec α} {E : TypeId} {w : World} {A : Nat} {v : Value} {xs : List α} {p : Addr} (h : Own T E w A v xs) (hp : ∀ k, v.ownBlock = some k → k ≠ p.block) (u : Value) : Own T E (w.setCell p u) A v xs :=
  h.same fun k hk => Below.heap_setCell w p u k (hp k hk)
theorem grown_size {w w' : World} {r : Option Nat} (h : w.grownBy w' r) : w.heap.size ≤ w'.heap.size := h.size
theorem grown_setN (w : World) (p : Addr) (v : Value) (n B : Nat) (hn : n ≤ p.block) (w0 : World) (h : w0.grownBy w (some B)) (h0 : w0.heap.size ≤ p.block) : w0.grownBy (w.setCell p v) (some B) :=
  ⟨h.os, h.tape, h.output, by simpa using h.size, fun k hk hne => (Below.heap_setCell w p v k (by omega)).trans (h.block k hk hne)⟩
theorem grown_of_below {w0 w w' : World} {B : Nat} (h : w0.grownBy w (some B)) (hb : Below w.heap.size w w') : w0.grownBy w' (some B) :=
  grown_trans h ⟨hb.os, hb.tape, hb.output, hb.size, fun k hk _ => hb.block k hk⟩
/-- an append to an owned slice: what the reader's caller sees -/
theorem grown_own {w0 w w' : World} {B : Nat} {r : Option Nat} (h : w0.grownBy w (some B)) (hg : w.grownBy w' r) (hr : ∀ k, r = some k → w0.heap.size ≤ k) : w0.grownBy w' (some B) :=
  ⟨hg.os.trans h.os, hg.tape.trans h.tape, hg.output.trans h.output, Nat.le_trans h.size hg.size, fun k hk hne => (hg.block k (Nat.lt_of_lt_of_le hk h.size) (fun e => by have := hr k e.symm; omega)).trans (h.block k hk hne)⟩
theorem cur_own {w w' : World} {B m : Nat} {r : Option Nat} (h : Cur w B m) (hg : w.grownBy w' r) (hr : ∀ k, r = some k → B < k) : Cur w' B m :=
  h.keptB ⟨hg.os, hg.tape, hg.output, hg.size, fun k hk => hg.block k (Nat.lt_of_lt_of_le hk (by have := h.lt; omega)) (fun e => by have := hr k e.symm; omega)⟩
theorem among_at (B m g : Nat) (xs : List Int) (w : World) (hg : g = w.heap.size) (h : Cur w B m) (hm : m < 900000) (h0 : 1 ≤ xs.length) (h1 : xs.length ≤ 60000) :
    Calls Tryd.prog 58 #[.pointer (some ⟨B, 0, none⟩), .slice (some ⟨g, 0, none⟩) xs.length xs.length] (w.alloc (.cells (xs.map (Value.int .i64)).toArray 3)) (Ints w B (m + 2) xs) := by
  subst hg; exact among_lit B m xs w h hm h0 h1
end Go.Proofs.YtneecokjhmnagaaDoor.Draw
namespace Go.Proofs.YtneecokjhmnagaaDoor.Draw
open Go.RowKit Cur Bs
set_option linter.unusedVariables false
/-- the cursor lies at B; since the world w0 nothing but it has turned, and blocks were laid -/
structure Live (B m : Nat) (w0 w : World) : Prop where
  cur : Cur w B m
  grown : w0.grownBy w (some B)
  low : B < w0.heap.size
section
variable {B m m' : Nat} {w0 w w' : World}
theorem Live.start (h : Cur w B m) : Live B m w w := ⟨h, grown_refl _ _, h.lt⟩
theorem Live.size (h : Live B m w0 w) : w0.heap.size ≤ w.heap.size := h.grown.size
theorem Live.draw (h : Live B m w0 w) (hc : Cur w' B m') (hg : w.grownBy w' (some B)) : Live B m' w0 w' := ⟨hc, grown_trans h.grown hg, h.low⟩
theorem Live.mono (h : Live B m w0 w) (hm : m ≤ m') : Live B m' w0 w := ⟨h.cur.mono hm, h.grown, h.low⟩
theorem Live.alloc (h : Live B m w0 w) (o : Obj) : Live B m w0 (w.alloc o) := ⟨cur_alloc h.cur o, grown_trans h.grown (grown_alloc w o (some B)), h.low⟩
theorem Live.kept (h : Live B m w0 w) (hb : Below w.heap.size w w') : Live B m w0 w' := ⟨h.cur.kept hb, grown_of_below h.grown hb, h.low⟩
theorem Live.set (h : Live B m w0 w) {p : Addr} (hp : w0.heap.size ≤ p.block) (u : Value) : Live B m w0 (w.setCell p u) :=
  ⟨cur_set h.cur (p := p) (Nat.lt_of_lt_of_le h.low hp) u, grown_setN w p u w0.heap.size B hp w0 h.grown (Nat.le_trans (Nat.le_refl _) hp), h.low⟩
theorem Live.own (h : Live B m w0 w) {r : Option Nat} (hg : w.grownBy w' r) (hr : ∀ k, r = some k → w0.heap.size ≤ k) : Live B m w0 w' :=
  ⟨cur_own h.cur hg (fun k hk => Nat.lt_of_lt_of_le h.low (hr k hk)), grown_own h.grown hg hr, h.low⟩
/-- what the caller sees -/
theorem Live.post (h : Live B m w0 w) (hm : m ≤ m') : Cur w B m' ∧ w0.grownBy w (some B) := ⟨h.cur.mono hm, h.grown⟩
theorem Bx.draw {G : Nat} {t : TypeId} {cs : Array Value} (h : Bx w G t cs) (hg : w.grownBy w' (some B)) (hG : w0.heap.size ≤ G) (hL : B < w0.heap.size) : Bx w' G t cs := h.grown hg (by omega)
theorem Bx.keptB {G : Nat} {t : TypeId} {cs : Array Value} (h : Bx w G t cs) (hb : Below w.heap.size w w') : Bx w' G t cs := (hb.block G h.lt).trans h
theorem Bx.own {G g n c : Nat} {t : TypeId} {cs : Array Value} (h : Bx w G t cs) (hg : w.grownBy w' (Value.slice (some ⟨g, 0, none⟩) n c).ownBlock) (hne : g ≠ G) : Bx w' G t cs :=
  (hg.block G h.lt (fun e => hne (Option.some.inj e).symm)).trans h
end
theorem among_pre (B m g n : Nat) (xs : List Int) (w : World) (h : Cur w B m) (hm : m < 900000) (hx : Bx w g 3 (xs.map (Value.int .i64)).toArray) (hgB : g ≠ B) (h0 : 1 ≤ n) (hn : n ≤ xs.length) (h1 : xs.length ≤ 1000) :
    Calls Tryd.prog 58 #[.pointer (some ⟨B, 0, none⟩), .slice (some ⟨g, 0, none⟩) n xs.length] w (Ints w B (m + 2) xs) := by
  refine (among_any B m g 0 n xs.length (xs.take n) w h hm (by rw [List.length_take]; omega) h0 (by omega) hn hgB hx.lt (fun j x hj => ?_)).mono ?_
  · have hj2 : xs[j]? = some x := by
      rw [List.getElem?_take] at hj
      split at hj
      · exact hj
      · cases hj
    rw [Nat.zero_add, hx.cell, List.getElem?_toArray, List.getElem?_map, hj2]
    rfl
  · rintro e w' ⟨x, hx, he, hc, hg⟩
    exact ⟨x, List.mem_of_mem_take hx, he, hc, hg⟩
end Go.Proofs.YtneecokjhmnagaaDoor.Draw
namespace Go.Proofs.YtneecokjhmnagaaDoor.Draw
open Go.RowKit Cur Bs
set_option linter.unusedVariables false
def words : List ByteArray := [⟨#[109, 97, 105, 110]⟩, ⟨#[116, 97, 98, 108, 101]⟩, ⟨#[97, 100, 106, 111, 117, 114, 110]⟩, ⟨#[97, 109, 101, 110, 100]⟩, ⟨#[114, 101, 99, 101, 115, 115]⟩, ⟨#[114, 101, 102, 101, 114]⟩, ⟨#[108, 105, 109, 105, 116]⟩, ⟨#[99, 97, 108, 108]⟩, ⟨#[97]⟩, ⟨#[98, 121, 108, 97, 119, 115]⟩]
set_option maxHeartbeats 400000 in
theorem word (B m : Nat) (w : World) (h : Cur w B m) (hm : m < 900000) : Calls Tryd.prog 32 #[.pointer (some ⟨B, 0, none⟩)] w (Str w B (m + 2) 10) := by
  have HC := Lib.hid h
  clear h
  go_enter Tryd.func32, Tryd.ntmps32
  go_wp2_with fail
  refine (of_lit B m words w HC.out hm (by decide) (by decide)).mono ?_
  rintro e w1 ⟨x, hx, rfl, hc1, hg1⟩
  have hs := small_of words 10 (by decide +kernel) x hx
  have HC1 := Lib.hid hc1
  clear hc1 hx HC
  go_wp2_with fail
  go_ret
  exact ⟨x, rfl, hs, HC1.out, hg1⟩
end Go.Proofs.YtneecokjhmnagaaDoor.Draw
namespace Go.Proofs.YtneecokjhmnagaaDoor.Bs
open Go.RowKit
theorem wpAnyH_weak {P : Program} {md : Region.Mode} {ops : Array Oper} {Q : Exit → Act → World → Prop} {S S' : World → Prop} (hS : ∀ w, S' w → S w) : ∀ (fuel : Nat) (listed : Array Bool) (a : Act) (w : World), wpAnyH P md ops Q S' fuel listed a w → wpAnyH P md ops Q S fuel listed a w
  | 0, _, _, _, h => h
  | fuel + 1, _, _, _, h => ⟨h.1, fun i hi => wpOp_mono (fun a' w' h' => ⟨hS _ h'.1, wpAnyH_weak hS fuel _ a' w' h'.2⟩) (h.2 i hi)⟩
theorem wpAnyH_into {P : Program} {md : Region.Mode} {ops : Array Oper} {Q : Exit → Act → World → Prop} {S S' : World → Prop} {fuel : Nat} {listed : Array Bool} {a : Act} {w : World} (hS : ∀ w, S' w → S w) (h' : S' w) (h : S' w → wpAnyH P md ops Q S' fuel listed a w) : wpAnyH P md ops Q S fuel listed a w := wpAnyH_weak hS _ _ _ _ (h h')
end Go.Proofs.YtneecokjhmnagaaDoor.Bs
