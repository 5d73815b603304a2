/- IsValidTally: what it answers, on both sides. No condition. -/
import Derived.Test.YtkdiedmbikkbiaaTalG
import Derived.Test.YtkdiedmbikkbiaaLTallyZ
namespace Go.Proofs.Ytkdiedmbikkbiaa.IsValidTallyC
open Go.RowKit Bs Word Tal TalS TalG
set_option linter.unusedVariables false
def Ans (a0 : T) (r0 : Bool) : Prop := good a0 = r0
theorem same {a0 : T} {r0 s0 : Bool} (h1 : Ans a0 r0) (h2 : Ans a0 s0) : r0 = s0 := h1.symm.trans h2
def Post (a0 : T) (w : World) (e : Ending) (w' : World) : Prop := ∃ r0, e = .returned (.bool r0) ∧ Ans a0 r0 ∧ Below w.heap.size w w'
set_option maxRecDepth 100000 in
set_option maxHeartbeats 1600000 in
theorem spec (a0 : T) (w : World) (f0 : LTally.Fine a0) : Calls Try.prog 11 #[.agg #[.int .i64 a0.yes, .int .i64 a0.no, .int .i64 a0.abstain]] w (Post a0 w) := by
  have HG := Lib.hid (fun W => l11Good a0 _ rfl W)
  obtain ⟨v, hv⟩ : ∃ v, v = good a0 := ⟨_, rfl⟩
  have HA := Lib.hid (show Ans a0 v from hv.symm)
  rw [← hv] at HG
  clear hv
  go_enter Try.func11, Try.ntmps11
  go_wp2_with fail
  refine (HG.out _).mono ?_
  rintro e w' ⟨rfl, hb⟩
  go_wp2_with fail
  go_ret
  exact ⟨_, rfl, HA.out, by first | exact hb | exact ((Below.refl w.heap.size w).alloc (Nat.le_refl _) _).trans (hb.mono (by simp))⟩
theorem impl (a0 : T) (w : World) (f0 : LTally.Fine a0) : Calls Try.prog 13 #[.agg #[.int .i64 a0.yes, .int .i64 a0.no, .int .i64 a0.abstain]] w (Post a0 w) :=
  (isValid a0 _ rfl w).mono fun e w' ⟨he, hb⟩ => ⟨_, he, rfl, hb⟩
end Go.Proofs.Ytkdiedmbikkbiaa.IsValidTallyC
