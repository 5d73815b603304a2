/- The draws' reader l1Cur: next, pick, one, of: what they answer and what they leave alone. -/
import Derived.Test.YtankaffhapcnaaaDoorRows
import Derived.WalkKit
import Derived.WalkSpells
import Derived.WalkSmall
import Derived.Lib.Hide
import Derived.Deep.QuietTactic
import Derived.BigQuiet
import Derived.WalkLawsBesides
import Derived.RegionTactic
import Derived.IntWalk
namespace Go.Proofs.YtankaffhapcnaaaDoor.Cur
open Go.RowKit
set_option linter.unusedVariables false

theorem cell_lt {w : World} {p : Addr} {v : Value} (h : w.cell? p = some v) : p.block < w.heap.size := by
  rcases Nat.lt_or_ge p.block w.heap.size with h' | h'
  · exact h'
  · simp [World.cell?, Array.getElem?_eq_none h'] at h

/-- The bytes of the code that the reader reads, in a block other than the reader's. -/
def CodeAt (w : World) (B : Nat) (a : Option Addr) (len : Nat) : Prop :=
  len = 0 ∨ ∃ b off, a = some ⟨b, off, none⟩ ∧ b < B ∧ b < w.heap.size ∧ ∀ j, j < len → ∃ z : Int, w.cell? ⟨b, off + j, none⟩ = some (.int .u8 z) ∧ 0 ≤ z ∧ z ≤ 255
/-- Block B is a reader at place k. -/
def CurAt (w : World) (B k : Nat) : Prop :=
  ∃ a len cap seed, w.heap[B]? = some (.cells #[.slice a len cap, .int .i64 (k : Int), .int .u64 seed] 52 (0, 0)) ∧ len ≤ 65536 ∧ k ≤ 1000000 ∧ CodeAt w B a len

def Blk (w : World) (B : Nat) (v : Value) (k : Int) (seed : Int) : Prop := w.heap[B]? = some (.cells #[v, .int .i64 k, .int .u64 seed] 52 (0, 0))
theorem Blk.lt {w : World} {B : Nat} {v : Value} {k seed : Int} (h : Blk w B v k seed) : B < w.heap.size := (Array.getElem?_eq_some_iff.1 h).1
theorem Blk.c0 {w : World} {B : Nat} {v : Value} {k seed : Int} (h : Blk w B v k seed) : w.cell? ⟨B, 0, none⟩ = some v := by simp [World.cell?, show w.heap[B]? = _ from h]
theorem Blk.c1 {w : World} {B : Nat} {v : Value} {k seed : Int} (h : Blk w B v k seed) : w.cell? ⟨B, 1, none⟩ = some (.int .i64 k) := by simp [World.cell?, show w.heap[B]? = _ from h]
theorem Blk.c2 {w : World} {B : Nat} {v : Value} {k seed : Int} (h : Blk w B v k seed) : w.cell? ⟨B, 2, none⟩ = some (.int .u64 seed) := by simp [World.cell?, show w.heap[B]? = _ from h]
theorem Blk.fr {w : World} {B : Nat} {v : Value} {k seed : Int} (h : Blk w B v k seed) (o : Nat) : w.frozen? ⟨B, o, none⟩ = false := by simp [World.frozen?, show w.heap[B]? = _ from h]
theorem Blk.set1 {w : World} {B : Nat} {v : Value} {k seed : Int} (h : Blk w B v k seed) (k' : Int) : Blk (w.setCell ⟨B, 1, none⟩ (.int .i64 k')) B v k' seed := heap_setCell_same w B 1 _ 52 _ h
theorem Blk.set2 {w : World} {B : Nat} {v : Value} {k seed : Int} (h : Blk w B v k seed) (s' : Int) : Blk (w.setCell ⟨B, 2, none⟩ (.int .u64 s')) B v k s' := heap_setCell_same w B 2 _ 52 _ h
theorem grown_set (w : World) (B o : Nat) (v : Value) : w.grownBy (w.setCell ⟨B, o, none⟩ v) (some B) :=
  ⟨rfl, rfl, rfl, by simp [World.setCell], fun k _ hk => Below.heap_setCell w ⟨B, o, none⟩ v k (fun e => hk (by rw [e]))⟩
theorem grown_drew (w : World) (m : Nat) (r : Option Nat) : w.grownBy (w.drewN m) r := ⟨rfl, rfl, rfl, Nat.le_refl _, fun _ _ _ => rfl⟩
theorem grown_trans {a b c : World} {r : Option Nat} (h : a.grownBy b r) (k : b.grownBy c r) : a.grownBy c r :=
  ⟨k.os.trans h.os, k.tape.trans h.tape, k.output.trans h.output, Nat.le_trans h.size k.size, fun i hi hr => (k.block i (Nat.lt_of_lt_of_le hi h.size) hr).trans (h.block i hi hr)⟩
def NextPost (w : World) (B : Nat) (v : Value) (k : Nat) (e : Ending) (w' : World) : Prop :=
  ∃ r s' : Int, e = .returned (.int .i64 r) ∧ 0 ≤ r ∧ r ≤ 255 ∧ Blk w' B v ((k + 1 : Nat) : Int) s' ∧ w.grownBy w' (some B)

/-- a number that a uint64 holds -/
def U64 (s : Int) : Prop := 0 ≤ s ∧ s ≤ 18446744073709551615
theorem u64_wrap (n : Int) : U64 (IntKind.u64.wrap n) := by unfold U64; rw [IntKind.wrap_u64]; omega
theorem and255 (s : Int) (h : U64 s) : 0 ≤ wrap64 (bits BinOp.and IntKind.u64 (s / 1099511627776) 255) ∧ wrap64 (bits BinOp.and IntKind.u64 (s / 1099511627776) 255) ≤ 255 := by
  unfold U64 at h
  have h0 : 0 ≤ s / 1099511627776 := by omega
  have h1 : s / 1099511627776 < 18446744073709551616 := by omega
  generalize s / 1099511627776 = E at h0 h1
  have hb := bits_and_u64_nat E.toNat 255 (by omega) (by omega)
  have he : ((E.toNat : Nat) : Int) = E := Int.toNat_of_nonneg h0
  rw [he] at hb
  have hl : E.toNat &&& 255 ≤ 255 := Nat.and_le_right
  have e2 : bits BinOp.and IntKind.u64 E 255 = ((E.toNat &&& 255 : Nat) : Int) := hb
  rw [e2]
  unfold wrap64
  omega

set_option maxHeartbeats 400000 in
theorem next_out (B k len cap : Nat) (a : Option Addr) (seed : Int) (w : World) (h : Blk w B (.slice a len cap) k seed) (hl : len ≤ 65536) (hk : k ≤ 1000000) (hlt : ¬ k < len) :
    Calls Tryd.prog 59 #[.pointer (some ⟨B, 0, none⟩)] w (NextPost w B (.slice a len cap) k) := by
  have HB := Lib.hid h
  have h0 := h.c0
  have h1 := h.c1
  have h2 := h.c2
  have f1 := h.fr 1
  have f2 := h.fr 2
  clear h
  go_enter Tryd.func59, Tryd.ntmps59
  go_wp2_with fail
  go_quiet (fail)
  go_wp2_with fail
  have hs2 := u64_wrap (IntKind.u64.wrap (IntKind.u64.wrap (seed * 6364136223846793005)) + 909909)
  generalize hs : IntKind.u64.wrap (IntKind.u64.wrap (IntKind.u64.wrap (seed * 6364136223846793005)) + 909909) = s2 at hs2 ⊢
  clear hs
  have HB2 : Blk (((w.drewN nq).setCell ⟨B, 1, none⟩ (.int .i64 ((k : Int) + 1))).setCell ⟨B, 2, none⟩ (.int .u64 s2)) B (.slice a len cap) ((k : Int) + 1) s2 := (Blk.set1 (w := w.drewN nq) HB.out _).set2 _
  have hg : w.grownBy (((w.drewN nq).setCell ⟨B, 1, none⟩ (.int .i64 ((k : Int) + 1))).setCell ⟨B, 2, none⟩ (.int .u64 s2)) (some B) := grown_trans (grown_trans (grown_drew w nq _) (grown_set _ _ _ _)) (grown_set _ _ _ _)
  generalize ((w.drewN nq).setCell ⟨B, 1, none⟩ (.int .i64 ((k : Int) + 1))).setCell ⟨B, 2, none⟩ (.int .u64 s2) = W2 at *
  have g0 := HB2.c0
  have g1 := HB2.c1
  have g2 := HB2.c2
  have HB3 := Lib.hid HB2
  clear HB2 h0 h1 h2 f1 f2
  go_quiet (fail)
  go_wp2_with fail
  go_ret
  exact ⟨_, s2, rfl, (and255 s2 hs2).1, (and255 s2 hs2).2, HB3.out, grown_trans hg (grown_drew _ _ _)⟩

set_option maxHeartbeats 400000 in
theorem next_on (B k len cap b off : Nat) (seed z : Int) (w : World) (h : Blk w B (.slice (some ⟨b, off, none⟩) len cap) k seed) (hl : len ≤ 65536) (hlt : k < len) (hz : w.cell? ⟨b, off + k, none⟩ = some (.int .u8 z)) (z0 : 0 ≤ z) (z1 : z ≤ 255) :
    Calls Tryd.prog 59 #[.pointer (some ⟨B, 0, none⟩)] w (NextPost w B (.slice (some ⟨b, off, none⟩) len cap) k) := by
  have HB := Lib.hid h
  have h0 := h.c0
  have h1 := h.c1
  have h2 := h.c2
  have f1 := h.fr 1
  have f2 := h.fr 2
  have k0 : 0 ≤ (k : Int) := by omega
  have k1 : (k : Int) < (len : Int) := by omega
  have hw : IntKind.i64.wrap z = z := IntWalk.i64_in _ (by omega)
  clear h
  go_enter Tryd.func59, Tryd.ntmps59
  go_wp2_with fail
  go_quiet (fail)
  obtain ⟨m1, rfl⟩ : ∃ m1, m1 = nq := ⟨_, rfl⟩
  go_wp2_with fail
  go_quiet (fail)
  clear hw hz
  go_wp2_with fail
  generalize hs : IntKind.u64.wrap (IntKind.u64.wrap (IntKind.u64.wrap (seed * 6364136223846793005) + z) + 909909) = s2
  clear hs
  have HB2 : Blk (((w.drewN (m1 + nq)).setCell ⟨B, 1, none⟩ (.int .i64 ((k : Int) + 1))).setCell ⟨B, 2, none⟩ (.int .u64 s2)) B (.slice (some ⟨b, off, none⟩) len cap) ((k : Int) + 1) s2 := (Blk.set1 (w := w.drewN (m1 + nq)) HB.out _).set2 _
  have hg : w.grownBy (((w.drewN (m1 + nq)).setCell ⟨B, 1, none⟩ (.int .i64 ((k : Int) + 1))).setCell ⟨B, 2, none⟩ (.int .u64 s2)) (some B) := grown_trans (grown_trans (grown_drew w (m1 + nq) _) (grown_set _ _ _ _)) (grown_set _ _ _ _)
  generalize ((w.drewN (m1 + nq)).setCell ⟨B, 1, none⟩ (.int .i64 ((k : Int) + 1))).setCell ⟨B, 2, none⟩ (.int .u64 s2) = W2 at *
  have g0 := HB2.c0
  have g1 := HB2.c1
  have g2 := HB2.c2
  have HB3 := Lib.hid HB2
  clear HB2 h0 h1 h2 f1 f2
  go_quiet (fail)
  go_wp2_with fail
  go_ret
  exact ⟨_, s2, rfl, z0, z1, HB3.out, grown_trans hg (grown_drew _ _ _)⟩

/-- what a world that is as it was but for the reader's block keeps -/
theorem CodeAt.grown {w w' : World} {B : Nat} {a : Option Addr} {len : Nat} (h : CodeAt w B a len) (hg : w.grownBy w' (some B)) : CodeAt w' B a len := by
  rcases h with h | ⟨b, off, rfl, hne, hlt, hc⟩
  · exact .inl h
  · refine .inr ⟨b, off, rfl, hne, Nat.lt_of_lt_of_le hlt hg.size, fun j hj => ?_⟩
    obtain ⟨z, hz, h0, h1⟩ := hc j hj
    exact ⟨z, by rw [World.cell?_of_block (hg.block b hlt (by intro e; have := Option.some.inj e; omega))]; exact hz, h0, h1⟩

/-- what a step of the reader answers and leaves -/
def Step (w : World) (B k : Nat) (hi : Int) (e : Ending) (w' : World) : Prop := ∃ r : Int, e = .returned (.int .i64 r) ∧ 0 ≤ r ∧ r ≤ hi ∧ CurAt w' B k ∧ w.grownBy w' (some B)
theorem next (B k : Nat) (w : World) (h : CurAt w B k) (hk : k < 1000000) : Calls Tryd.prog 59 #[.pointer (some ⟨B, 0, none⟩)] w (Step w B (k + 1) 255) := by
  obtain ⟨a, len, cap, seed, hB, hl, _, hc⟩ := h
  have fin : ∀ e w', NextPost w B (.slice a len cap) k e w' → Step w B (k + 1) 255 e w' := fun e w' ⟨r, s', he, h0, h1, hb, hg⟩ => ⟨r, he, h0, h1, ⟨a, len, cap, s', hb, hl, by omega, hc.grown hg⟩, hg⟩
  by_cases hlt : k < len
  · rcases hc with h0 | ⟨b, off, rfl, hne, hbl, hcc⟩
    · omega
    · obtain ⟨z, hz, z0, z1⟩ := hcc k hlt
      exact (next_on B k len cap b off seed z w hB hl hlt hz z0 z1).mono fin
  · exact (next_out B k len cap a seed w hB hl (by omega) hlt).mono fin

/-- Block B is a reader that has read at most m bytes. -/
def Cur (w : World) (B m : Nat) : Prop := ∃ k, k ≤ m ∧ CurAt w B k
theorem Cur.mono {w : World} {B m m' : Nat} (h : Cur w B m) (hm : m ≤ m') : Cur w B m' := by
  obtain ⟨k, hk, hc⟩ := h
  exact ⟨k, by omega, hc⟩
theorem Cur.lt {w : World} {B m : Nat} (h : Cur w B m) : B < w.heap.size := by
  obtain ⟨k, _, a, len, cap, seed, hB, _⟩ := h
  exact Blk.lt (w := w) (B := B) (v := .slice a len cap) (k := k) (seed := seed) hB
theorem grown_refl (w : World) (r : Option Nat) : w.grownBy w r := ⟨rfl, rfl, rfl, Nat.le_refl _, fun _ _ _ => rfl⟩
/-- a world that keeps the reader's block keeps the reader -/
theorem Cur.kept {w w' : World} {B m : Nat} (h : Cur w B m) (hb : Below w.heap.size w w') : Cur w' B m := by
  obtain ⟨k, hk, a, len, cap, seed, hB, hl, hk2, hc⟩ := h
  have hlt : B < w.heap.size := Blk.lt (w := w) (B := B) (v := .slice a len cap) (k := k) (seed := seed) hB
  refine ⟨k, hk, a, len, cap, seed, (hb.block B hlt).trans hB, hl, hk2, ?_⟩
  exact hc.grown ⟨hb.os, hb.tape, hb.output, hb.size, fun j hj _ => hb.block j hj⟩

theorem CodeAt.below {w w' : World} {B : Nat} {a : Option Addr} {len : Nat} (h : CodeAt w B a len) (hb : Below (B + 1) w w') : CodeAt w' B a len := by
  rcases h with h | ⟨b, off, rfl, hne, hlt, hc⟩
  · exact .inl h
  · refine .inr ⟨b, off, rfl, hne, Nat.lt_of_lt_of_le hlt hb.size, fun j hj => ?_⟩
    obtain ⟨z, hz, h0, h1⟩ := hc j hj
    exact ⟨z, by rw [hb.cell (p := ⟨b, off + j, none⟩) (by show b < B + 1; omega)]; exact hz, h0, h1⟩
/-- a world that keeps all up to the reader's block keeps the reader -/
theorem Cur.keptB {w w' : World} {B m : Nat} (h : Cur w B m) (hb : Below (B + 1) w w') : Cur w' B m := by
  obtain ⟨k, hk, a, len, cap, seed, hB, hl, hk2, hc⟩ := h
  exact ⟨k, hk, a, len, cap, seed, (hb.block B (by omega)).trans hB, hl, hk2, hc.below hb⟩
/-- a row of strings is not the reader's block -/
theorem Cur.not_row {w : World} {B m base n : Nat} {v : Value} {xs : List Value} (h : Cur w B m) (hr : w.ownsRow base 9 1 v n xs) : v.ownBlock ≠ some B := by
  obtain ⟨k, _, a, len, cap, seed, hB, _⟩ := h
  rcases hr.2 with ⟨rfl, _⟩ | ⟨g, cp, cur, rfl, _, hgb, _⟩
  · simp [Value.ownBlock]
  · intro e
    obtain rfl : g = B := by simpa [Value.ownBlock] using e
    rw [hB] at hgb
    simp at hgb

def Picks (w : World) (B m : Nat) (hi : Int) (e : Ending) (w' : World) : Prop := ∃ r : Int, e = .returned (.int .i64 r) ∧ 0 ≤ r ∧ r ≤ hi ∧ Cur w' B m ∧ w.grownBy w' (some B)
set_option maxHeartbeats 400000 in
theorem pick (B m : Nat) (n : Int) (w : World) (h : Cur w B m) (hm : m < 900000) (h0 : 1 ≤ n) (h1 : n ≤ 60000) : Calls Tryd.prog 47 #[.pointer (some ⟨B, 0, none⟩), .int .i64 n] w (Picks w B (m + 2) (n - 1)) := by
  obtain ⟨k, hk, hc⟩ := h
  by_cases hn : n ≤ 1
  · have HC := Lib.hid hc
    clear hc
    go_enter Tryd.func47, Tryd.ntmps47
    go_wp2_with fail
    go_ret
    exact ⟨0, rfl, by omega, by omega, ⟨k, by omega, HC.out⟩, grown_refl _ _⟩
  · have HC := Lib.hid hc
    clear hc
    by_cases hb : 200 < n
    · go_enter Tryd.func47, Tryd.ntmps47
      go_wp2_with fail
      refine (next B k _ HC.out (by omega)).mono ?_
      rintro e w1 ⟨r, rfl, r0, r1, hc1, hg1⟩
      have HC1 := Lib.hid hc1
      clear hc1 HC
      go_wp2_with fail
      refine (next B (k + 1) _ HC1.out (by omega)).mono ?_
      rintro e w2 ⟨r2, rfl, r20, r21, hc2, hg2⟩
      have HC2 := Lib.hid hc2
      have hg := grown_trans hg1 hg2
      clear hc2 HC1 hg1 hg2
      go_wp2_with fail
      go_ret
      exact ⟨_, rfl, Int.emod_nonneg _ (by omega), by have := Int.emod_lt_of_pos (r * 256 + r2) (show 0 < n by omega); omega, ⟨k + 1 + 1, by omega, HC2.out⟩, hg⟩
    · go_enter Tryd.func47, Tryd.ntmps47
      go_wp2_with fail
      refine (next B k _ HC.out (by omega)).mono ?_
      rintro e w1 ⟨r, rfl, r0, r1, hc1, hg1⟩
      have HC1 := Lib.hid hc1
      clear hc1 HC
      go_wp2_with fail
      go_ret
      exact ⟨_, rfl, Int.emod_nonneg _ (by omega), by have := Int.emod_lt_of_pos r (show 0 < n by omega); omega, ⟨k + 1, by omega, HC1.out⟩, hg1⟩

def Ones (w : World) (B m : Nat) (e : Ending) (w' : World) : Prop := ∃ r : Bool, e = .returned (.bool r) ∧ Cur w' B m ∧ w.grownBy w' (some B)
set_option maxHeartbeats 400000 in
theorem one (B m : Nat) (n : Int) (w : World) (h : Cur w B m) (hm : m < 900000) (h0 : 1 ≤ n) (h1 : n ≤ 60000) : Calls Tryd.prog 30 #[.pointer (some ⟨B, 0, none⟩), .int .i64 n] w (Ones w B (m + 2)) := by
  have HC := Lib.hid h
  clear h
  go_enter Tryd.func30, Tryd.ntmps30
  go_wp2_with fail
  refine (pick B m n _ HC.out hm h0 h1).mono ?_
  rintro e w1 ⟨r, rfl, r0, r1, hc1, hg1⟩
  have HC1 := Lib.hid hc1
  clear hc1 HC
  go_wp2_with fail
  go_ret
  exact ⟨_, rfl, HC1.out, hg1⟩

/-- 'of' answers one of the strings. -/
def Ofs (w : World) (B m : Nat) (xs : List ByteArray) (e : Ending) (w' : World) : Prop := ∃ x, x ∈ xs ∧ e = .returned (.string x) ∧ Cur w' B m ∧ w.grownBy w' (some B)
set_option maxHeartbeats 400000 in
theorem of_any (B m g o n cap : Nat) (xs : List ByteArray) (w : World) (h : Cur w B m) (hm : m < 900000) (hn : xs.length = n) (h0 : 1 ≤ n) (h1 : n ≤ 60000) (hcap : n ≤ cap) (hgB : g ≠ B) (hgl : g < w.heap.size)
    (hc : ∀ j x, xs[j]? = some x → w.cell? ⟨g, o + j, none⟩ = some (.string x)) :
    Calls Tryd.prog 50 #[.pointer (some ⟨B, 0, none⟩), .slice (some ⟨g, o, none⟩) n cap] w (Ofs w B (m + 2) xs) := by
  have HC := Lib.hid h
  have HX := Lib.hid hc
  have HN := Lib.hid hn
  clear h hc hn
  go_enter Tryd.func50, Tryd.ntmps50
  go_wp2_with fail
  refine (pick B m n _ HC.out hm (by omega) (by omega)).mono ?_
  rintro e w1 ⟨r, rfl, r0, r1, hc1, hg1⟩
  obtain ⟨i, rfl⟩ := Int.eq_ofNat_of_zero_le r0
  have hi : i < xs.length := by rw [HN.out]; omega
  have hcell : w1.cell? ⟨g, o + i, none⟩ = some (.string xs[i]) := by
    rw [World.cell?_of_block (hg1.block g hgl (by intro e; exact hgB (Option.some.inj e)))]
    exact HX.out i _ (List.getElem?_eq_getElem hi)
  have HM := Lib.hid (List.getElem_mem hi)
  have HC1 := Lib.hid hc1
  clear hc1 HC
  generalize xs[i] = X at *
  go_wp2_with fail
  go_ret
  exact ⟨X, HM.out, rfl, HC1.out, hg1⟩
end Go.Proofs.YtankaffhapcnaaaDoor.Cur
