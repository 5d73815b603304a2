/- BelongsTo, model and program: what both answer. No condition but that titles are no longer than strings can be. -/
import Derived.Test.YtmpolpeomabcfaaDoorDocO
import Derived.BigQuiet
namespace Go.Proofs.YtmpolpeomabcfaaDoor.BelongsToC
open Go.RowKit Bs Word Doc DocO
set_option linter.unusedVariables false
noncomputable def anA (z : List M) (i : Int) : Int × Bool := if askB z i = true then (if up z i.toNat < 0 then (0, false) else (up z i.toNat, true)) else (0, false)
theorem no1 {z : List M} {i : Int} (h : askB z i = false) : anA z i = (0, false) := by unfold anA; rw [h]; rfl
theorem no2 {z : List M} {k : Nat} (h : up z k < 0) : anA z k = (0, false) := by unfold anA; rw [show ((k : Int)).toNat = k from rfl, if_pos h]; split <;> rfl
theorem yes {z : List M} {k : Nat} (h : askB z k = true) (h2 : ¬ up z k < 0) : anA z k = (up z k, true) := by unfold anA; rw [if_pos h, show ((k : Int)).toNat = k from rfl, if_neg h2]
def Ans (z0 : List LSection.R) (a1 : Int) (r0 : Int) (r1 : Bool) : Prop := anA z0 a1 = (r0, r1)
theorem same {z0 : List LSection.R} {a1 : Int} {r0 s0 : Int} {r1 s1 : Bool} (h : Ans z0 a1 r0 r1) (h' : Ans z0 a1 s0 s1) : r0 = s0 ∧ r1 = s1 := by
  have := h.symm.trans h'; simp only [Prod.mk.injEq] at this; exact this
def APost (z0 : List LSection.R) (a1 : Int) (w : World) (e : Ending) (w' : World) : Prop := ∃ r0 r1, e = .returned (.tuple #[.int .i64 r0, .bool r1]) ∧ Ans z0 a1 r0 r1 ∧ Below w.heap.size w w'
set_option maxRecDepth 100000 in
theorem impl (v0 : Value) (z0 : List LSection.R) (a1 : Int) (w : World) (h0 : IsS LSection.rec w v0 z0) (f0 : ∀ x ∈ z0, LSection.Fine x) (l0 : z0.length ≤ 1048576) :
    Calls Tryd.prog 13 #[v0, .int .i64 a1] w (APost z0 a1 w) := by
  have h1 := IsS.is LSection.rec h0
  clear h0
  have HI := Lib.hid h1
  have HQ := Lib.hid (hasSection v0 z0 a1 w h1 f0)
  obtain ⟨a, cp, rfl, h1⟩ := h1
  have hc := h1.at_ LSection.rec
  obtain ⟨n, hn⟩ : ∃ n, n = z0.length := ⟨_, rfl⟩
  have hnb : n ≤ cp := by have := h1.1; omega
  have hn2 := h1.2.1
  unfold maxLen at hn2
  have HN := Lib.hid hn.symm
  rw [← hn] at  HI HQ ⊢
  have hnle : n ≤ z0.length := by omega
  clear hn h1
  clear f0
  cases hq : askB z0 a1 with
  | false =>
    have HA := Lib.hid (no1 hq)
    rw [hq] at HQ
    clear hq
    go_enter Tryd.func13, Tryd.ntmps13
    go_wp2_with fail
    refine HQ.out.mono ?_
    rintro e w1 ⟨rfl, hb1⟩
    go_wp2_with fail
    go_ret2
    exact ⟨_, _, rfl, HA.out, hb1⟩
  | true =>
    obtain ⟨hg, k, rfl, hk⟩ := ask_good hq
    have HY := Lib.hid hq
    have HU := Lib.hid (fun X hX => ownerOf _ z0 k X (HI.out.below LSection.rec hX) hk)
    rw [hq] at HQ

    clear hq hg hk
    go_enter Tryd.func13, Tryd.ntmps13
    go_wp2_with fail
    refine HQ.out.mono ?_
    rintro e w1 ⟨rfl, hb1⟩
    go_wp2_with fail
    refine (HU.out _ hb1).mono ?_
    rintro e w2 ⟨rfl, hb2⟩
    have hb3 := hb1.trans (hb2.mono hb1.size)
    by_cases hu : up z0 k < 0
    · have HA := Lib.hid (no2 hu)
      generalize up z0 k = U at *
      go_wp2_with fail
      go_ret2
      exact ⟨_, _, rfl, HA.out, hb3⟩
    · have HA := Lib.hid (yes HY.out hu)
      generalize up z0 k = U at *
      go_wp2_with fail

      go_ret2
      exact ⟨_, _, rfl, HA.out, hb3⟩
end Go.Proofs.YtmpolpeomabcfaaDoor.BelongsToC
