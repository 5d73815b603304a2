/- impl.elements: the iterator over the pieces of a string, for every loop body that keeps the separator's box. -/
import Derived.RangeFuncBox
import Derived.RangeFuncLeaves
import Derived.Shelf.Abstract
import Derived.WalkKit
import Derived.WalkSpells
import Derived.OwnWalkIn
import Derived.TacticsInMore
import Derived.LoopNIn
import Derived.LoopIn
import Derived.Maps.AppendAt
import Derived.Sort.QuietIn
import Derived.Sort.LoopGhostIn
import Derived.Lib.Hide
import Derived.WalkMore
import Derived.Lib.Strings
import Derived.Test.YtankaffhapcnaaaDoorRows
import Derived.Test.YtankaffhapcnaaaDoorJ1
namespace Go.Proofs.YtankaffhapcnaaaDoor.Elems
open Go.RowKit Go.Shelf SplitMath
attribute [local go_sem] Oper.semAt_some

def str (x : List UInt8) : Value := .string ⟨x.toArray⟩
theorem str_all (R : ByteArray) : str R.data.toList = .string R := by unfold str; simp
theorem str_take (R : ByteArray) (k : Nat) : str (R.data.toList.take k) = .string (R.extract 0 k) := by unfold str; rw [Lib.extract_eq]; simp
theorem drop_data (R : ByteArray) (k : Nat) : (R.extract k R.size).data.toList = R.data.toList.drop k := by
  rw [Lib.extract_data]
  exact List.take_of_length_le (by simp)
theorem ne_snoc (R : ByteArray) (k : Nat) (c : UInt8) (h : k < R.size) (hh : ∀ b ∈ R.data.toList.take k, b ≠ c) (hx : R[k] ≠ c) : ∀ b ∈ R.data.toList.take (k + 1), b ≠ c := by
  rw [List.take_succ_eq_append_getElem (by simpa using h)]
  intro b hb
  rcases List.mem_append.1 hb with hb | hb
  · exact hh b hb
  · simp only [List.mem_singleton] at hb
    subst hb
    exact hx
def Ends (J Jx : List (List UInt8) → World → Prop) (all : List (List UInt8)) (e : Ending) (W' : World) : Prop := (∃ v, e = .returned v) ∧ ((∃ ys, ys = all ∧ J ys W') ∨ (∃ pre, pre <+: all ∧ Jx pre W'))

set_option maxRecDepth 100000 in
set_option maxHeartbeats 1000000 in
theorem closure_in (n : Nat) (hn : 1 ≤ n) (l Bs Bc : Nat) (s : ByteArray) (c : UInt8) (hs : s.size ≤ 4000) (J Jx : List (List UInt8) → World → Prop)
    (hJ : Hid (∀ pre W m, J pre W → J pre (W.drewN m)))
    (hY : Hid (∀ pre x W, J pre W → pre.length < (splitOf s.data.toList c).length → YieldAt Fence.wide (n - 1) Tryd.prog l #[str x] W fun e W' =>
      (e = .returned (.bool true) ∧ J (pre ++ [x]) W' ∧ W'.heap[Bc]? = W.heap[Bc]?) ∨ (e = .returned (.bool false) ∧ Jx (pre ++ [x]) W')))
    (W : World) (hBs : W.cell? ⟨Bs, 0, none⟩ = some (.string s)) (hBc : Boxed W Bc 5 (.int .u8 c.toNat)) (h0 : J [] W) :
    CallsIn Fence.wide n Tryd.prog 56 #[.func (.yield l) #[] #[], .pointer (some ⟨Bs, 0, none⟩), .pointer (some ⟨Bc, 0, none⟩)] W (Ends J Jx (splitOf s.data.toList c)) := by
  refine callsIn_of_wp Tryd.func56 rfl trivial ?_ rfl
  simp only [Tryd.ntmps56, List.size_toArray, List.length_cons, List.length_nil, Nat.reduceAdd, Nat.reduceSub, Array.replicate_succ, Array.replicate_zero, List.push_toArray, List.append_toArray, List.nil_append, List.cons_append]
  gi_wp2
  refine (wpIn_wide (n := n)).2 (wp_scope_straight ((wpIn_wide (n := n)).1 ?_))
  gi_wp2
  refine wpIn_label ?_
  gi_wp2
  gi_loopg [4] s.size (fun g p wr => ∃ pre R, p = .string R ∧ R.size = g ∧ R.size ≤ 4000 ∧ Hid (splitOf s.data.toList c = pre ++ splitOf R.data.toList c) ∧ J pre wr ∧ Boxed wr Bc 5 (.int .u8 c.toNat))
  case atStart => exact ⟨[], s, rfl, rfl, hs, rfl, h0, hBc⟩
  case round =>
    obtain ⟨pre, R, rfl, hRg, hR4, HR, hJs, hB⟩ := hrel
    subst hRg
    obtain ⟨wo, rfl⟩ : ∃ wo : World, wo = wr := ⟨_, rfl⟩
    clear hBs hBc h0
    gi_wp2
    gi_loopg [4, 9] R.size (fun g2 p i wx => ∃ k, k + g2 = R.size ∧ p = .string R ∧ i = .int .i64 k ∧ Hid (∀ b ∈ R.data.toList.take k, b ≠ c) ∧ J pre wx ∧ Boxed wx Bc 5 (.int .u8 c.toNat))
    case atStart => exact ⟨0, by omega, rfl, rfl, by intro b hb; simp at hb, hJs, hB⟩
    case round =>
      obtain ⟨k, hkg, rfl, rfl, HN, hJw, hBw⟩ := hrel
      have hcb := hBw.cell
      by_cases hlt : k < R.size
      · have k0 : 0 ≤ (k : Int) := by omega
        have k1 : (k : Int) < (R.size : Int) := by omega
        by_cases he : R[k] = c
        · have hb8 : ((R[k].toNat : Int) == (c.toNat : Int)) = true := by rw [he]; simp
          have HE := Lib.hid (splitOf_at R.data.toList c k (by simpa using hlt) HN.out he)
          clear he
          gi_wp2
          gi_quiet (fail)
          have hJ2 := hJ.out _ _ nq hJw
          obtain ⟨fn, tmps, assign, body, hy, hRd⟩ := hY.out pre (R.data.toList.take k) (wr.drewN nq) hJ2 (by rw [HR.out, HE.out]; simp)
          rw [str_take] at hy
          gi_wp2
          refine hRd.mono ?_
          rintro e W3 (⟨rfl, hJ3, hk3⟩ | ⟨rfl, hJx3⟩)
          · have hB3 : Boxed W3 Bc 5 (.int .u8 c.toNat) := hk3.trans hBw
            gi_wp2
            gi_roundg (R.size - (k + 1))
            case measure => omega
            case rel => exact ⟨pre ++ [R.data.toList.take k], R.extract (k + 1) R.size, rfl, by simp, by simp; omega, by show _ = _; rw [HR.out, HE.out, drop_data]; simp, hJ3, hB3⟩
          · gi_wp2
            refine bodyPost_ret (results_none rfl _ _ _) rfl ?_
            exact ⟨⟨_, rfl⟩, .inr ⟨pre ++ [R.data.toList.take k], ⟨splitOf (R.data.toList.drop (k + 1)) c, by rw [HR.out, HE.out]; simp⟩, hJx3⟩⟩
        · have hb8 : ((R[k].toNat : Int) == (c.toNat : Int)) = false := by
            rw [beq_eq_false_iff_ne]
            intro h
            exact he (UInt8.toNat_inj.1 (by omega))
          have HS := Lib.hid (ne_snoc R k c hlt HN.out he)
          clear he
          gi_wp2
          gi_quiet (fail)
          have hJ2 := hJ.out _ _ nq hJw
          gi_wp2
          gi_roundg (R.size - (k + 1))
          case measure => omega
          case rel => exact ⟨k + 1, by omega, rfl, by go_num, HS.out, hJ2, hBw⟩
      · have hkR : R.data.toList.take k = R.data.toList := List.take_of_length_le (by simp; omega)
        rw [hkR] at HN
        have HE := Lib.hid (splitOf_none R.data.toList c HN.out)
        clear hkR
        obtain ⟨fn, tmps, assign, body, hy, hRd⟩ := hY.out pre R.data.toList wr hJw (by rw [HR.out, HE.out]; simp)
        rw [str_all] at hy
        gi_wp2
        refine hRd.mono ?_
        rintro e W3 (⟨rfl, hJ3, hk3⟩ | ⟨rfl, hJx3⟩)
        · gi_wp2
          refine bodyPost_ret (results_none rfl _ _ _) rfl ?_
          exact ⟨⟨_, rfl⟩, .inl ⟨pre ++ [R.data.toList], by rw [HR.out, HE.out], hJ3⟩⟩
        · gi_wp2
          refine bodyPost_ret (results_none rfl _ _ _) rfl ?_
          exact ⟨⟨_, rfl⟩, .inr ⟨pre ++ [R.data.toList], by rw [HR.out, HE.out]; exact List.prefix_refl _, hJx3⟩⟩
end Go.Proofs.YtankaffhapcnaaaDoor.Elems
