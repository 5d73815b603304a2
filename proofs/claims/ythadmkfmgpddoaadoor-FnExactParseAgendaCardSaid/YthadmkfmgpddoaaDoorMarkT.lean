/- The laws' helper markText. -/
import Derived.Test.YthadmkfmgpddoaaDoorRows
import Derived.WalkKit
import Derived.WalkSpells
import Derived.WalkSmall
import Derived.Lib.Hide
import Derived.Deep.QuietTactic
import Derived.BigQuiet
import Derived.WalkLawsBesides
import Derived.Lib.QuietBelow
import Derived.IntWalk
namespace Go.Proofs.YthadmkfmgpddoaaDoor.MarkT
open Go.RowKit
set_option linter.unusedVariables false

def dgt (k : Nat) : UInt8 := UInt8.ofNat (48 + k % 10)
/-- the digits of a positive number ahead of what is there -/
def digs (k : Nat) (acc : List UInt8) : List UInt8 :=
  if h : k = 0 then acc else digs (k / 10) (dgt k :: acc)
termination_by k
decreasing_by omega
theorem digs_zero (acc : List UInt8) : digs 0 acc = acc := by rw [digs]; rfl
theorem digs_pos (k : Nat) (acc : List UInt8) (h : 0 < k) : digs k acc = digs (k / 10) (dgt k :: acc) := by rw [digs, dif_neg (by omega)]
def mt (k : Nat) : ByteArray := ⟨((109 : UInt8) :: digs k []).toArray⟩
theorem byte_eq (k : Nat) : ((dgt k).toNat : Int) = 48 + (k : Int) % 10 := by
  unfold dgt; rw [UInt8.toNat_ofNat']; omega

set_option maxHeartbeats 400000 in
theorem markText (K : Nat) (w : World) (h0 : 0 < K) (h1 : K ≤ 9000000) :
    Calls Tryd.prog 16 #[.int .i64 K] w fun e w' => e = .returned (.string (mt K)) ∧ Below w.heap.size w w' := by
  go_enter Tryd.func16, Tryd.ntmps16
  go_wp2_with fail
  go_loopw [0, 3] (fun k o wr => ∃ (q : Nat) (acc : List UInt8), q ≤ K ∧ k = .int .i64 q ∧ o = .string ⟨acc.toArray⟩ ∧ acc.length + q ≤ K ∧ Hid (digs q acc = digs K []) ∧ Below w.heap.size w wr) (fun k _ _ => (intOf k).toNat)
  case atStart => exact ⟨K, [], Nat.le_refl _, rfl, rfl, by simp, rfl, Below.refl _ _⟩
  case round =>
    obtain ⟨q, acc, hq, rfl, rfl, hl, HD, hb⟩ := hrel
    by_cases hpos : 0 < q
    · have HS := Lib.hid (digs_pos q acc hpos)
      have hcv : (convert 52 9 (.slice (some ⟨wr.heap.size, 0, none⟩) 1 1)).run Tryd.prog (wr.alloc (.cells #[.int .u8 (48 + (q : Int) % 10)] 5)) = .ok (.string ⟨#[dgt q]⟩) (wr.alloc (.cells #[.int .u8 (48 + (q : Int) % 10)] 5)) := by
        refine run_convert_bytes_back _ 52 9 5 ⟨wr.heap.size, 0, none⟩ 1 [dgt q] Tryd.underlying52 Tryd.underlying5 Tryd.underlying9 (fun j hj => ?_)
        have : j = 0 := by simpa using hj
        subst this
        have h2 := cell_one_new wr (.int .u8 (48 + (q : Int) % 10)) 5 0 _ rfl
        rw [h2]
        show some (Value.int .u8 (48 + (q : Int) % 10)) = some (Value.int .u8 ((dgt q).toNat : Int))
        rw [byte_eq]
      have HE := Lib.hid (show (⟨#[dgt q]⟩ : ByteArray) ++ ⟨acc.toArray⟩ = ⟨(dgt q :: acc).toArray⟩ from by apply ByteArray.ext; simp)
      go_wp2_with fail
      have hb2 := hb.alloc hb.size (.cells #[.int .u8 (48 + (q : Int) % 10)] 5)
      go_roundw
      case rel => exact ⟨q / 10, dgt q :: acc, by omega, by go_num, by rw [HE.out], by simp; omega, by show _ = _; rw [← HS.out]; exact HD.out, hb2⟩
      case measure => simp [intOf]; omega
    · obtain rfl : q = 0 := by omega
      have HE := Lib.hid (show (⟨#[109]⟩ : ByteArray) ++ ⟨acc.toArray⟩ = mt K from by
        have := HD.out
        rw [digs_zero] at this
        subst this
        apply ByteArray.ext
        simp [mt])
      go_wp2_with fail
      go_ret
      exact ⟨congrArg (fun b => Ending.returned (.string b)) HE.out, hb⟩

end Go.Proofs.YthadmkfmgpddoaaDoor.MarkT
