/- The laws' helper markText. -/
import Derived.Test.YtdjnaoaniokbgaaRows
import Derived.WalkKit
import Derived.WalkSpells
import Derived.WalkSmall
import Derived.Lib.Hide
import Derived.Deep.QuietTactic
import Derived.BigQuiet
import Derived.WalkLawsBesides
import Derived.Lib.QuietBelow
import Derived.IntWalk
namespace Go.Proofs.Ytdjnaoaniokbgaa.MarkT
open Go.RowKit
set_option linter.unusedVariables false

def dgt (k : Nat) : UInt8 := UInt8.ofNat (48 + k % 10)
/-- the digits of a positive number ahead of what is there -/
def digs (k : Nat) (acc : List UInt8) : List UInt8 :=
  if h : k = 0 then acc else digs (k / 10) (dgt k :: acc)
termination_by k
decreasing_by omega
theorem digs_zero (acc : List UInt8) : digs 0 acc = acc := by rw [digs]; rfl
theorem digs_pos (k : Nat) (acc : List UInt8) (h : 0 < k) : digs k acc = digs (k / 10) (dgt k :: acc) := by rw [digs, dif_neg (by omega)]
def mt (k : Nat) : ByteArray := ⟨((109 : UInt8) :: digs k []).toArray⟩
theorem byte_eq (k : Nat) : ((dgt k).toNat : Int) = 48 + (k : Int) % 10 := by
  unfold dgt; rw [UInt8.toNat_ofNat']; omega

end Go.Proofs.Ytdjnaoaniokbgaa.MarkT
