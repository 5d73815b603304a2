/- spec.l1Split: the pieces of a string between the occurrences of a byte, in a row of the call's own. -/
import Derived.Test.YtgemnjimgjnlhaaGreatDoorRows
import Derived.Test.YtgemnjimgjnlhaaGreatDoorSplitMath
import Derived.WalkKit
import Derived.WalkSpells
import Derived.WalkSmall
import Derived.Lib.Hide
import Derived.Lib.Strings
namespace Go.Proofs.YtgemnjimgjnlhaaGreatDoor.Split
open Go.RowKit SplitMath

def str (x : List UInt8) : Value := .string ⟨x.toArray⟩
def vals (d : List (List UInt8)) : List Value := d.map str
def Owned (w : World) (l : List (List UInt8)) (e : Ending) (w' : World) : Prop :=
  ∃ v, e = .returned v ∧ w'.ownsRow w.heap.size 9 1 v l.length (vals l) ∧ Below w.heap.size w w'
theorem infoStr : (Tryz.prog.info? 9).map (fun i => (i.zero, i.size, i.bytes)) = some (some (.string ⟨#[]⟩), 1, 16) := by kernel_rfl
theorem take_snoc (s : ByteArray) (k : Nat) (h : k < s.size) : s.data.toList.take (k + 1) = s.data.toList.take k ++ [s[k]] := by
  rw [List.take_succ_eq_append_getElem (by simpa using h)]; rfl

theorem owns_start (w : World) : (w.alloc (.cells #[] 9)).ownsRow w.heap.size 9 1 (.slice (some ⟨w.heap.size, 0, none⟩) 0 0) 0 [] := by
  refine ⟨rfl, .inr ⟨w.heap.size, 0, #[], rfl, Nat.le_refl _, ?_, Nat.le_refl _, Nat.zero_le _, rfl, rfl⟩⟩
  show (w.heap.push _)[w.heap.size]? = _
  rw [Array.getElem?_push, if_pos rfl]
theorem cut_eq (s : ByteArray) (c : UInt8) (k F : Nat) (hk : k ≤ s.size) (hF : F = k - (spl (s.data.toList.take k) c).2.length) : Value.string (s.extract F k) = str (spl (s.data.toList.take k) c).2 := by
  unfold str
  rw [Lib.extract_eq]
  subst hF
  rw [spl_cur c s.data.toList k (by simpa using hk)]
theorem vals_snoc (d : List (List UInt8)) (x : List UInt8) : vals (d ++ [x]) = vals d ++ [str x] := by simp [vals]
theorem spl_hit_at (s : ByteArray) (c : UInt8) (k : Nat) (h : k < s.size) (e : s[k] = c) : spl (s.data.toList.take (k + 1)) c = ((spl (s.data.toList.take k) c).1 ++ [(spl (s.data.toList.take k) c).2], []) := by
  rw [take_snoc s k h, e, spl_hit]
theorem spl_miss_at (s : ByteArray) (c : UInt8) (k : Nat) (h : k < s.size) (e : s[k] ≠ c) : spl (s.data.toList.take (k + 1)) c = ((spl (s.data.toList.take k) c).1, (spl (s.data.toList.take k) c).2 ++ [s[k]]) := by
  rw [take_snoc s k h, spl_miss _ _ _ e]
theorem cur_le (s : ByteArray) (c : UInt8) (k : Nat) (_ : k ≤ s.size) : (spl (s.data.toList.take k) c).2.length ≤ k := by
  have := spl_cur_le c (s.data.toList.take k)
  rw [List.length_take] at this
  omega
theorem cnt_le (s : ByteArray) (c : UInt8) (k : Nat) (_ : k ≤ s.size) : (spl (s.data.toList.take k) c).1.length ≤ k := by
  have := spl_count c (s.data.toList.take k)
  rw [List.length_take] at this
  omega

set_option maxHeartbeats 400000 in
theorem l1Split (s : ByteArray) (c : UInt8) (w : World) (hs : s.size ≤ 1048576) :
    Calls Tryz.prog 76 #[.string s, .int .u8 c.toNat] w (Owned w (splitOf s.data.toList c)) := by
  obtain ⟨i0, hi, hz0, hz1, hz2⟩ := info_parts infoStr
  have HI := Lib.hid hi
  have HZ := Lib.hid (And.intro hz0 (And.intro hz1 hz2))
  clear hi hz0 hz1 hz2
  go_enter Tryz.func76, Tryz.ntmps76
  go_wp2_with fail
  go_loopw [5, 6, 7] (fun v f i wr => ∃ k F : Nat, k ≤ s.size ∧ F ≤ k ∧ Hid (F = k - (spl (s.data.toList.take k) c).2.length) ∧ i = .int .i64 k ∧ f = .int .i64 F ∧
      wr.ownsRow w.heap.size 9 1 v (spl (s.data.toList.take k) c).1.length (vals (spl (s.data.toList.take k) c).1) ∧ Below w.heap.size w wr) (fun _ _ i _ => s.size - (intOf i).toNat)
  case atStart => exact ⟨0, 0, Nat.zero_le _, Nat.le_refl _, rfl, rfl, rfl, owns_start w, (Below.refl _ _).alloc (Nat.le_refl _) _⟩
  case round =>
    obtain ⟨k, F, hk, hF, HF, rfl, rfl, hown, hb⟩ := hrel
    have hbs := hb.size
    have hcnt := cnt_le s c k hk
    have HC := Lib.hid (cut_eq s c k F hk HF.out)
    by_cases hlt : k < s.size
    · by_cases he : s[k] = c
      · have hb8 : ((s[k].toNat : Int) == (c.toNat : Int)) = true := by rw [he]; simp
        have HS := Lib.hid (spl_hit_at s c k hlt he)
        clear he
        go_wp2_with (at_builtin; refine wpList_append_own _ rfl (.tmp 20) (.tmp 25) 24 rfl w.heap.size 9 i0 (.string ⟨#[]⟩) 1 16 Tryz.underlying24 HI.out HZ.out.1 HZ.out.2.1 HZ.out.2.2 rfl (by decide) _ _ _ rfl (hown.alloc _) ⟨_, 0, none⟩ 1 1 [.string (s.extract F k)] rfl rfl ?c1 ?c2 ?c3 ?c4 ?c5 ?c6)
        case c1 => exact cell_one_new wr _ 9
        case c2 => intro u hu; simp only [List.mem_singleton] at hu; subst hu; rfl
        case c3 => unfold maxLen; omega
        case c4 => omega
        case c5 => simp; omega
        case c6 =>
          intro v' w1 hown' hgrow _
          have hb1 : Below w.heap.size w w1 := (hb.alloc hbs _).grown hgrow (by simp; omega) (fun j hj => hown.lt j hj |>.1)
          have HO := Lib.hid hown'
          clear hown' hgrow hown hb
          go_wp2_with fail
          go_roundw
          case rel => exact ⟨k + 1, k + 1, by omega, Nat.le_refl _, by show k + 1 = _; rw [HS.out]; rfl, by go_num, by go_num, by rw [HS.out, vals_snoc, ← HC.out]; simpa using HO.out, hb1⟩
          case measure => simp [intOf]; omega
      · have hb8 : ((s[k].toNat : Int) == (c.toNat : Int)) = false := by
          rw [beq_eq_false_iff_ne]
          intro h
          exact he (UInt8.toNat_inj.1 (by omega))
        have HS := Lib.hid (spl_miss_at s c k hlt he)
        clear he
        go_wp2_with fail
        go_roundw
        case rel => exact ⟨k + 1, F, by omega, by omega, by show F = _; rw [HS.out]; have := HF.out; have := cur_le s c k hk; simp; omega, by go_num, rfl, by rw [HS.out]; exact hown, hb⟩
        case measure => simp [intOf]; omega
    · have hkk : s.data.toList.take k = s.data.toList := List.take_of_length_le (by simp; omega)
      have HL := Lib.hid hkk
      have HK := Lib.hid (show k = s.size by omega)
      clear hkk
      go_wp2_with (at_builtin; refine wpList_append_own _ rfl (.tmp 29) (.tmp 33) 24 rfl w.heap.size 9 i0 (.string ⟨#[]⟩) 1 16 Tryz.underlying24 HI.out HZ.out.1 HZ.out.2.1 HZ.out.2.2 rfl (by decide) _ _ _ rfl (hown.alloc _) ⟨_, 0, none⟩ 1 1 [.string (s.extract F s.size)] rfl rfl ?c1 ?c2 ?c3 ?c4 ?c5 ?c6)
      case c1 => exact cell_one_new wr _ 9
      case c2 => intro u hu; simp only [List.mem_singleton] at hu; subst hu; rfl
      case c3 => unfold maxLen; omega
      case c4 => omega
      case c5 => simp; omega
      case c6 =>
        intro v' w1 hown' hgrow _
        have hb1 : Below w.heap.size w w1 := (hb.alloc hbs _).grown hgrow (by simp; omega) (fun j hj => hown.lt j hj |>.1)
        have HO := Lib.hid hown'
        clear hown' hgrow hown hb
        go_wp2_with fail
        go_ret
        refine ⟨v', rfl, ?_, hb1⟩
        have ho := HO.out
        have hc := HC.out
        rw [HK.out] at hc
        rw [hc] at ho
        unfold splitOf
        rw [vals_snoc]
        rw [← HK.out, HL.out] at ho
        simpa using ho
end Go.Proofs.YtgemnjimgjnlhaaGreatDoor.Split
