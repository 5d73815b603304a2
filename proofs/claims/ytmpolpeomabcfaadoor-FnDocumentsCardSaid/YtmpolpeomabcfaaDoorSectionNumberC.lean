/- SectionNumber, model and program: what both answer. No condition but that titles are no longer than strings can be. -/
import Derived.Test.YtmpolpeomabcfaaDoorDocN
import Derived.BigQuiet
namespace Go.Proofs.YtmpolpeomabcfaaDoor.SectionNumberC
open Go.RowKit Bs Word Doc DocO DocN
set_option linter.unusedVariables false
noncomputable def anA (z : List M) (i : Int) : ByteArray × Bool := if askB z i = true then (numB z i.toNat, true) else (⟨#[]⟩, false)
theorem no1 {z : List M} {i : Int} (h : askB z i = false) : anA z i = (⟨#[]⟩, false) := by unfold anA; rw [h]; rfl
theorem yes {z : List M} {k : Nat} (h : askB z k = true) : anA z k = (numB z k, true) := by unfold anA; rw [if_pos h]; rfl
def Ans (z0 : List LSection.R) (a1 : Int) (r0 : ByteArray) (r1 : Bool) : Prop := anA z0 a1 = (r0, r1)
theorem same {z0 : List LSection.R} {a1 : Int} {r0 s0 : ByteArray} {r1 s1 : Bool} (h : Ans z0 a1 r0 r1) (h' : Ans z0 a1 s0 s1) : r0 = s0 ∧ r1 = s1 := by
  have := h.symm.trans h'; simp only [Prod.mk.injEq] at this; exact this
def APost (z0 : List LSection.R) (a1 : Int) (w : World) (e : Ending) (w' : World) : Prop := ∃ r0 r1, e = .returned (.tuple #[.string r0, .bool r1]) ∧ Ans z0 a1 r0 r1 ∧ Below w.heap.size w w'
set_option maxRecDepth 100000 in
theorem spec (v0 : Value) (z0 : List LSection.R) (a1 : Int) (w : World) (h0 : IsS LSection.rec w v0 z0) (f0 : ∀ x ∈ z0, LSection.Fine x) (l0 : z0.length ≤ 1048576) :
    Calls Tryd.prog 11 #[v0, .int .i64 a1] w (APost z0 a1 w) := by
  have h1 := IsS.is LSection.rec h0
  clear h0
  have HI := Lib.hid h1
  have HQ := Lib.hid (l6Asked v0 z0 a1 w h1 f0)
  obtain ⟨a, cp, rfl, h1⟩ := h1
  have hc := h1.at_ LSection.rec
  obtain ⟨n, hn⟩ : ∃ n, n = z0.length := ⟨_, rfl⟩
  have hnb : n ≤ cp := by have := h1.1; omega
  have hn2 := h1.2.1
  unfold maxLen at hn2
  have HN := Lib.hid hn.symm
  rw [← hn] at  HI HQ ⊢
  have hnle : n ≤ z0.length := by omega
  clear hn h1
  clear f0
  cases hq : askB z0 a1 with
  | false =>
    have HA := Lib.hid (no1 hq)
    rw [hq] at HQ
    clear hq
    go_enter Tryd.func11, Tryd.ntmps11
    go_wp2_with fail
    refine HQ.out.mono ?_
    rintro e w1 ⟨rfl, hb1⟩
    go_wp2_with fail
    go_ret2
    exact ⟨_, _, rfl, HA.out, hb1⟩
  | true =>
    obtain ⟨hg, k, rfl, hk⟩ := ask_good hq
    have HA := Lib.hid (yes hq)
    have HU := Lib.hid (fun X hX => l6Number (k + 1) _ z0 k X (Nat.lt_succ_self _) (HI.out.below LSection.rec hX) hg hk)
    rw [hq] at HQ
    clear hq hg hk
    generalize numB z0 k = NU at *
    go_enter Tryd.func11, Tryd.ntmps11
    go_wp2_with fail
    refine HQ.out.mono ?_
    rintro e w1 ⟨rfl, hb1⟩
    go_wp2_with fail
    refine (HU.out _ hb1).mono ?_
    rintro e w2 ⟨rfl, hb2⟩
    have hb3 := hb1.trans (hb2.mono hb1.size)
    go_wp2_with fail
    go_ret2
    exact ⟨_, _, rfl, HA.out, hb3⟩
set_option maxRecDepth 100000 in
theorem impl (v0 : Value) (z0 : List LSection.R) (a1 : Int) (w : World) (h0 : IsS LSection.rec w v0 z0) (f0 : ∀ x ∈ z0, LSection.Fine x) (l0 : z0.length ≤ 1048576) :
    Calls Tryd.prog 10 #[v0, .int .i64 a1] w (APost z0 a1 w) := by
  have h1 := IsS.is LSection.rec h0
  clear h0
  have HI := Lib.hid h1
  have HQ := Lib.hid (hasSection v0 z0 a1 w h1 f0)
  obtain ⟨a, cp, rfl, h1⟩ := h1
  have hc := h1.at_ LSection.rec
  obtain ⟨n, hn⟩ : ∃ n, n = z0.length := ⟨_, rfl⟩
  have hnb : n ≤ cp := by have := h1.1; omega
  have hn2 := h1.2.1
  unfold maxLen at hn2
  have HN := Lib.hid hn.symm
  rw [← hn] at  HI HQ ⊢
  have hnle : n ≤ z0.length := by omega
  clear hn h1
  clear f0
  cases hq : askB z0 a1 with
  | false =>
    have HA := Lib.hid (no1 hq)
    rw [hq] at HQ
    clear hq
    go_enter Tryd.func10, Tryd.ntmps10
    go_wp2_with fail
    refine HQ.out.mono ?_
    rintro e w1 ⟨rfl, hb1⟩
    go_wp2_with fail
    go_ret2
    exact ⟨_, _, rfl, HA.out, hb1⟩
  | true =>
    obtain ⟨hg, k, rfl, hk⟩ := ask_good hq
    have HA := Lib.hid (yes hq)
    have HU := Lib.hid (fun X hX => numberOf (k + 1) _ z0 k X (Nat.lt_succ_self _) (HI.out.below LSection.rec hX) hg hk)
    rw [hq] at HQ
    clear hq hg hk
    generalize numB z0 k = NU at *
    go_enter Tryd.func10, Tryd.ntmps10
    go_wp2_with fail
    refine HQ.out.mono ?_
    rintro e w1 ⟨rfl, hb1⟩
    go_wp2_with fail
    refine (HU.out _ hb1).mono ?_
    rintro e w2 ⟨rfl, hb2⟩
    have hb3 := hb1.trans (hb2.mono hb1.size)
    go_wp2_with fail
    go_ret2
    exact ⟨_, _, rfl, HA.out, hb3⟩
end Go.Proofs.YtmpolpeomabcfaaDoor.SectionNumberC
