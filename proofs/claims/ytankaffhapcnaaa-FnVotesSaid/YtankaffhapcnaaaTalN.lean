/- impl.numbers and impl.firstThat[int]: the numbers of a range one after the other, and the first of them that fits. -/
import Derived.RangeFuncBox
import Derived.RangeFuncFrom
import Derived.RangeFuncLeaves
import Derived.RangeFuncCalls
import Derived.RangeFuncBound
import Derived.Shelf.Abstract
import Derived.Shelf.RegionOpen
import Derived.WalkKit
import Derived.WalkSpells
import Derived.OwnWalkIn
import Derived.TacticsInMore
import Derived.LoopNIn
import Derived.LoopIn
import Derived.Maps.AppendAt
import Derived.Lib.Hide
import Derived.WalkMore
import Derived.IntWalk
import Derived.Test.YtankaffhapcnaaaRows
import Derived.Test.YtankaffhapcnaaaTal
namespace Go.Proofs.Ytankaffhapcnaaa.TalN
open Go.RowKit Go.Shelf Tal
attribute [local go_sem] Oper.semAt_some
set_option linter.unusedVariables false
/-- the numbers of the range: d is 1 or -1 -/
def upto (a d : Int) (k : Nat) : List Int := (List.range k).map (fun i : Nat => a + d * (i : Int))
theorem upto_succ (a d : Int) (k : Nat) : upto a d (k + 1) = upto a d k ++ [a + d * (k : Int)] := by
  unfold upto; rw [List.range_succ, List.map_append]; rfl
theorem upto_length (a d : Int) (k : Nat) : (upto a d k).length = k := by simp [upto]
theorem upto_pre (a d : Int) (k n : Nat) (h : k ≤ n) : upto a d k <+: upto a d n := by
  unfold upto
  refine List.IsPrefix.map _ ?_
  have e : List.range n = List.range k ++ (List.range (n - k)).map (k + ·) := by
    rw [← List.range_add]; congr 1; omega
  rw [e]
  exact List.prefix_append _ _
def Ends (J Jx : List Int → World → Prop) (all : List Int) (e : Ending) (W' : World) : Prop := (∃ v, e = .returned v) ∧ ((∃ ys, ys = all ∧ J ys W') ∨ (∃ pre, pre <+: all ∧ Jx pre W'))
set_option maxRecDepth 100000 in
set_option maxHeartbeats 1000000 in
theorem closure_in (m : Nat) (hm : 1 ≤ m) (l B1 B2 B3 n₀ : Nat) (a b d : Int) (n : Nat) (hd : d = 1 ∨ d = -1) (hb : b + d = a + d * (n : Int)) (ha : -5000 ≤ a ∧ a ≤ 5000) (hn : n ≤ 5000) (J Jx : List Int → World → Prop)
    (hY : Hid (∀ pre x W, J pre W → pre.length < n → YieldAt Fence.wide (m - 1) Try.prog l #[.int .i64 x] W fun e W' =>
      (e = .returned (.bool true) ∧ J (pre ++ [x]) W' ∧ Below n₀ W W') ∨ (e = .returned (.bool false) ∧ Jx (pre ++ [x]) W')))
    (W : World) (h1 : B1 < n₀) (h2 : B2 < n₀) (h3 : B3 < n₀) (c1 : W.cell? ⟨B1, 0, none⟩ = some (.int .i64 a)) (c2 : W.cell? ⟨B2, 0, none⟩ = some (.int .i64 b)) (c3 : W.cell? ⟨B3, 0, none⟩ = some (.int .i64 d)) (h0 : J [] W) :
    CallsIn Fence.wide m Try.prog 146 #[.func (.yield l) #[] #[], .pointer (some ⟨B1, 0, none⟩), .pointer (some ⟨B2, 0, none⟩), .pointer (some ⟨B3, 0, none⟩)] W (Ends J Jx (upto a d n)) := by
  refine callsIn_of_wp Try.func146 rfl trivial ?_ rfl
  simp only [Try.ntmps146, List.size_toArray, List.length_cons, List.length_nil, Nat.reduceAdd, Nat.reduceSub, Array.replicate_succ, Array.replicate_zero, List.push_toArray, List.append_toArray, List.nil_append, List.cons_append]
  have HB := Lib.hid hb
  clear hb
  gi_wp2
  gi_loopw [5] (fun p wr => ∃ (k : Nat) (x : Int), p = .int .i64 x ∧ k ≤ n ∧ Hid (x = a + d * (k : Int)) ∧ J (upto a d k) wr ∧ wr.cell? ⟨B2, 0, none⟩ = some (.int .i64 b) ∧ wr.cell? ⟨B3, 0, none⟩ = some (.int .i64 d))
    (fun p _ => (if d = 1 then b + 1 - intOf p else intOf p - (b - 1)).toNat)
  case atStart => exact ⟨0, a, rfl, Nat.zero_le _, Lib.hid (by simp), h0, c2, c3⟩
  case round =>
    obtain ⟨k, x, rfl, hk, HX, hJ, q2, q3⟩ := hrel
    clear c1 c2 c3 h0
    have hxb : -10001 ≤ x ∧ x ≤ 10001 := by
      have := HX.out
      rcases hd with rfl | rfl <;> omega
    have hbb : -10002 ≤ b ∧ b ≤ 10002 := by
      have := HB.out
      rcases hd with rfl | rfl <;> omega
    have w1 : IntKind.i64.wrap (b + d) = b + d := IntWalk.i64_in _ (by rcases hd with rfl | rfl <;> omega)
    have w2 : IntKind.i64.wrap (x + d) = x + d := IntWalk.i64_in _ (by rcases hd with rfl | rfl <;> omega)
    by_cases hlt : k < n
    · have hne : (x != b + d) = true := by
        rw [bne_iff_ne]
        have := HX.out; have := HB.out
        rcases hd with rfl | rfl <;> omega
      have HS := Lib.hid (show upto a d k ++ [x] = upto a d (k + 1) by rw [upto_succ, HX.out])
      have HX2 := Lib.hid (show x + d = a + d * ((k + 1 : Nat) : Int) by rw [HX.out]; rcases hd with rfl | rfl <;> omega)
      have HM := Lib.hid (show (if d = 1 then b + 1 - (x + d) else (x + d) - (b - 1)).toNat < (if d = 1 then b + 1 - x else x - (b - 1)).toNat by
        have := HX.out; have := HB.out
        rcases hd with rfl | rfl
        · rw [if_pos rfl, if_pos rfl]; omega
        · rw [if_neg (by omega), if_neg (by omega)]; omega)
      have HP := Lib.hid (upto_pre a d (k + 1) n hlt)
      obtain ⟨fn, tmps, assign, body, hy, hR⟩ := hY.out (upto a d k) x wr hJ (by rw [upto_length]; exact hlt)
      rw [HS.out] at hR
      gi_wp2
      refine hR.mono ?_
      rintro e W3 (⟨rfl, hJ3, hk3⟩ | ⟨rfl, hJx3⟩)
      · have q2' := (hk3.cell (p := ⟨B2, 0, none⟩) h2).trans q2
        have q3' := (hk3.cell (p := ⟨B3, 0, none⟩) h3).trans q3
        clear q2 q3
        gi_wp2
        go_roundw
        case rel => exact ⟨k + 1, x + d, by first | rfl | go_num, hlt, HX2, hJ3, q2', q3'⟩
        case measure => exact HM.out
      · gi_wp2
        refine bodyPost_ret (results_none rfl _ _ _) rfl ?_
        exact ⟨⟨_, rfl⟩, .inr ⟨_, HP.out, hJx3⟩⟩
    · obtain rfl : k = n := by omega
      have hne : (x != b + d) = false := by
        have := HX.out; have := HB.out
        simp; omega
      gi_wp2
      go_end0
      exact ⟨⟨_, rfl⟩, .inl ⟨_, rfl, hJ⟩⟩
theorem stops (m : Nat) (hm : 1 ≤ m) (B1 B2 B3 n₀ : Nat) (a b d : Int) (n : Nat) (hd : d = 1 ∨ d = -1) (hb : b + d = a + d * (n : Int)) (ha : -5000 ≤ a ∧ a ≤ 5000) (hn : n ≤ 5000) (w : World) (hn₀ : n₀ ≤ w.heap.size) (h1 : B1 < n₀) (h2 : B2 < n₀) (h3 : B3 < n₀)
    (c1 : w.cell? ⟨B1, 0, none⟩ = some (.int .i64 a)) (c2 : w.cell? ⟨B2, 0, none⟩ = some (.int .i64 b)) (c3 : w.cell? ⟨B3, 0, none⟩ = some (.int .i64 d)) :
    SeqStopsK Fence.wide m Try.prog 146 #[.pointer (some ⟨B1, 0, none⟩), .pointer (some ⟨B2, 0, none⟩), .pointer (some ⟨B3, 0, none⟩)] (fun x : Int => #[Value.int .i64 x]) (Below n₀) (fun ys => ys = upto a d n) (fun pre => pre <+: upto a d n) n w := fun l J Jx W hW _ _ hY h0 =>
  closure_in m hm l B1 B2 B3 n₀ a b d n hd hb ha hn J Jx hY W h1 h2 h3 ((hW.cell (p := ⟨B1, 0, none⟩) (Nat.lt_of_lt_of_le h1 hn₀)).trans c1) ((hW.cell (p := ⟨B2, 0, none⟩) (Nat.lt_of_lt_of_le h2 hn₀)).trans c2) ((hW.cell (p := ⟨B3, 0, none⟩) (Nat.lt_of_lt_of_le h3 hn₀)).trans c3) h0
end Go.Proofs.Ytankaffhapcnaaa.TalN
