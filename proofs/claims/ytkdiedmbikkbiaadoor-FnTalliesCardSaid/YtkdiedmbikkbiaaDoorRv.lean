/- What the readers of numbers answer, as functions of the text: ParseInt of the program and l1Read of the model. The laid package variables of strconv must lie in memory for the program's. -/
import Derived.Test.YtkdiedmbikkbiaaDoorNumMath
import Derived.Test.YtkdiedmbikkbiaaDoorRead
import Derived.Test.YtkdiedmbikkbiaaDoorPInt
namespace Go.Proofs.YtkdiedmbikkbiaaDoor.Rv
open Go Go.RowKit NumMath Classical
set_option linter.unusedVariables false
noncomputable def rv (l : List UInt8) : Int := if h : ∃ v, Numeral l v then h.choose else 0
noncomputable def rb (l : List UInt8) : Bool := decide (∃ v, Numeral l v)
theorem rv_of {l : List UInt8} {v : Int} (h : Numeral l v) : rv l = v ∧ rb l = true := by
  have hx : ∃ v, Numeral l v := ⟨v, h⟩
  refine ⟨?_, decide_eq_true hx⟩
  unfold rv
  rw [dif_pos hx]
  exact hx.choose_spec.uniq h
theorem rv_none {l : List UInt8} (h : ∀ v, ¬ Numeral l v) : rv l = 0 ∧ rb l = false := by
  have hx : ¬ ∃ v, Numeral l v := fun ⟨v, hv⟩ => h v hv
  refine ⟨?_, decide_eq_false hx⟩
  unfold rv
  rw [dif_neg hx]
theorem rb_yes {l : List UInt8} (h : rb l = true) : Numeral l (rv l) := by
  obtain ⟨v, hv⟩ := of_decide_eq_true h
  rw [(rv_of hv).1]; exact hv
theorem rb_no {l : List UInt8} (h : rb l = false) (v : Int) : ¬ Numeral l v := fun hv => by
  rw [(rv_of hv).2] at h; exact absurd h (by simp)
theorem rv_bd (l : List UInt8) : -999999 ≤ rv l ∧ rv l ≤ 999999 := by
  by_cases h : ∃ v, Numeral l v
  · obtain ⟨v, hv⟩ := h
    rw [(rv_of hv).1]; exact ⟨hv.1, hv.2.1⟩
  · rw [(rv_none fun v hv => h ⟨v, hv⟩).1]; omega
theorem readR (s : ByteArray) (w : World) (hs : s.size ≤ 1048576) :
    Calls Tryd.prog 32 #[.string s] w fun e w' => e = .returned (.tuple #[.int .i64 (rv s.data.toList), .bool (rb s.data.toList)]) ∧ Below w.heap.size w w' :=
  (Read.l1Read s w (by unfold maxLen; omega)).mono fun e w' ⟨h, hb⟩ => by
    rcases h with ⟨v, hv, he⟩ | ⟨hn, he⟩
    · rw [(rv_of hv).1, (rv_of hv).2]; exact ⟨he, hb⟩
    · rw [(rv_none hn).1, (rv_none hn).2]; exact ⟨he, hb⟩
theorem intR (s : ByteArray) (w : World) (hs : s.size ≤ 281474976710656) (vp : Laid.Pow w) (vr : Laid.Err "strconv.ErrRange" w) (vs : Laid.Err "strconv.ErrSyntax" w) :
    Calls Tryd.prog 25 #[.string s] w fun e w' => e = .returned (.tuple #[.int .i64 (rv s.data.toList), .bool (rb s.data.toList)]) ∧ Below w.heap.size w w' := by
  by_cases h : ∃ v, Numeral s.data.toList v
  · obtain ⟨v, hv⟩ := h
    exact (Read.impl_yes s v w hv vp).mono fun e w' ⟨he, hb⟩ => by rw [(rv_of hv).1, (rv_of hv).2]; exact ⟨he, hb⟩
  · have hn : ∀ v, ¬ Numeral s.data.toList v := fun v hv => h ⟨v, hv⟩
    exact (Read.impl_no s w hs hn vp vr vs).mono fun e w' ⟨he, hb⟩ => by rw [(rv_none hn).1, (rv_none hn).2]; exact ⟨he, hb⟩
end Go.Proofs.YtkdiedmbikkbiaaDoor.Rv
