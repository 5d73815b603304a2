/- Slices of Amendment that came in: their cells. No condition. -/
import Derived.Test.YtclpdpfnlmfogaaDoorLAmendmentSZ
import Derived.Test.YtclpdpfnlmfogaaDoorLAmendmentO
import Derived.ProofKit
namespace Go.Proofs.YtclpdpfnlmfogaaDoor.LAmendmentS
open Go Go.RowKit Go.ChangeShapes Go.WideShapes Go.Deep Opn Bs
set_option linter.unusedVariables false
section
variable {H : Type} {enc : TypeId × Value → H} {w : World} {base : Nat} {spare : Nat → Bool} {held : Bool}
set_option maxRecDepth 100000 in
theorem open_cells {fuel : Nat} {cl : List Value} {x : DataW H × List MemPlace} (hl : cl.length = 4) (hf0 : DataW.trod enc Tryd.prog w base spare held fuel 97 cl = some x) :
    ∃ (a : Option Addr) (len cap : Nat) (r : LAmendment.R), cl = [.int .i64 r.kind, .int .i64 r.pos, .int .i64 r.count, .slice a len cap] ∧ LAmendment.IsIn w a len cap r := by
  obtain ⟨fs, hs, hsz, hof, hty, hC⟩ := LAmendment.offs
  obtain ⟨ys, m, _, _, hlen, hyl, hf⟩ := DataW.trod_struct hs hf0
  have hcl := hl
  obtain ⟨fl⟩ := fs
  simp only at hf hcl hsz hof hty
  match fl, hsz with
  | [f0, f1, f2, f3], _ =>
    match cl, hcl with
    | [c0, c1, c2, c3], _ =>
      simp only [List.map_cons, List.map_nil, List.cons.injEq, Prod.mk.injEq, and_true] at hof hty
      obtain ⟨⟨o0, k0⟩, ⟨o1, k1⟩, ⟨o2, k2⟩, ⟨o3, k3⟩⟩ := hof
      obtain ⟨t0, t1, t2, t3⟩ := hty
      have hy : ys.length = 4 := hyl
      have g0 := hf 0 f0 rfl
      rw [o0, k0, t0, List.getElem?_eq_getElem (by omega)] at g0
      simp only [List.drop_zero, List.take_succ_cons, List.take_zero] at g0
      have g1 := hf 1 f1 rfl
      rw [o1, k1, t1, List.getElem?_eq_getElem (by omega)] at g1
      simp only [List.drop_succ_cons, List.drop_zero, List.take_succ_cons, List.take_zero] at g1
      have g2 := hf 2 f2 rfl
      rw [o2, k2, t2, List.getElem?_eq_getElem (by omega)] at g2
      simp only [List.drop_succ_cons, List.drop_zero, List.take_succ_cons, List.take_zero] at g2
      have g3 := hf 3 f3 rfl
      rw [o3, k3, t3, List.getElem?_eq_getElem (by omega)] at g3
      simp only [List.drop_succ_cons, List.drop_zero, List.take_succ_cons, List.take_zero] at g3
      obtain ⟨n0, e0, _, u0⟩ := DataW.trod_int Tryd.underlying3 g0
      simp only [List.cons.injEq, and_true] at e0
      subst e0
      obtain ⟨n1, e1, _, u1⟩ := DataW.trod_int Tryd.underlying3 g1
      simp only [List.cons.injEq, and_true] at e1
      subst e1
      obtain ⟨n2, e2, _, u2⟩ := DataW.trod_int Tryd.underlying3 g2
      simp only [List.cons.injEq, and_true] at e2
      subst e2
      obtain ⟨a3, len3, cap3, rfl⟩ : ∃ a len cap, c3 = .slice a len cap := by
        rcases open_slice Tryd.underlying24 g3 with ⟨h0, _⟩ | ⟨b, l, c, _, _, _, _, hcs, _⟩
        · simp only [List.cons.injEq, and_true] at h0
          exact ⟨_, _, _, h0⟩
        · simp only [List.cons.injEq, and_true] at hcs
          exact ⟨_, _, _, hcs⟩
      obtain ⟨xs3, hxs3⟩ := LString.open_many Tryd.underlying24 g3
      exact ⟨a3, len3, cap3, ⟨n0, n1, n2, xs3⟩, rfl, ⟨hxs3, u0, u1, u2⟩⟩
def IsIn (w : World) (a : Option Addr) (len cap : Nat) (xs : List R) : Prop := xs.length = len ∧ Is w (.slice a len cap) xs ∧ ∀ x ∈ xs, Fine x
theorem IsIn.is {w : World} {a : Option Addr} {len cap : Nat} {xs : List R} (h : IsIn w a len cap xs) : Is w (.slice a len cap) xs := h.2.1
theorem open_many {t : TypeId} {fuel : Nat} {a : Option Addr} {len cap : Nat} {x : DataW H × List MemPlace} (hu : Tryd.prog.underlying t = some (.slice 97)) (h : DataW.trod enc Tryd.prog w base spare held fuel t [.slice a len cap] = some x) : ∃ xs, IsIn w a len cap xs := by
  rcases open_slice hu h with ⟨h0, _⟩ | ⟨b, l, c, m, nn, Dd, Pl, hcs, hb, hl, hm, hmm, hx, hi⟩
  · simp only [List.cons.injEq, Value.slice.injEq, and_true] at h0
    obtain ⟨rfl, rfl, rfl⟩ := h0
    exact ⟨[], rfl, ⟨[], ⟨none, 0, rfl, Nat.le_refl _, Nat.zero_le _, .inl rfl⟩, Els.nil⟩, fun x hx => by cases hx⟩
  · simp only [List.cons.injEq, Value.slice.injEq, and_true] at hcs
    obtain ⟨rfl, rfl, rfl⟩ := hcs
    obtain ⟨_, _, _, _, _, hC⟩ := LAmendment.offs
    have key : ∀ i, i < len → ∃ (aa : Option Addr) (ll cc : Nat) (r : R), LAmendment.IsIn w aa ll cc r ∧ ∀ j, j < 4 → w.cell? (b.add (i * 4 + j)) = (hd r aa ll cc).1[j]? := by
      intro i him
      have him' : i < m := by rw [hmm]; split <;> omega
      obtain ⟨cs, hc, ht⟩ := hi i him'
      obtain ⟨_, hcl, hat⟩ := World.cells?_some hc
      rw [hC] at hcl hat
      obtain ⟨aa, ll, cc, r, rfl, hr⟩ := open_cells hcl ht
      refine ⟨aa, ll, cc, r, hr, fun j hj => ?_⟩
      have := hat j hj
      rw [Go.Deep.add_add] at this
      exact this
    have build : ∀ m, m ≤ len → ∃ (hs : List (Hd 4)) (xs : List R), hs.length = m ∧ xs.length = m ∧ (∀ x ∈ xs, Fine x) ∧ Els kit (kit.Is w) hs xs ∧ ∀ (i : Nat) (u : Hd 4), hs[i]? = some u → ∀ j, j < 4 → w.cell? (b.add (i * 4 + j)) = u.1[j]? := by
      intro m
      induction m with
      | zero => intro _; exact ⟨[], [], rfl, rfl, (fun x hx => by cases hx), Els.nil, (fun i u hu => by simp at hu)⟩
      | succ m ih =>
        intro hm'
        obtain ⟨hs, xs, h1, h2, h3, h4, h5⟩ := ih (by omega)
        obtain ⟨aa, ll, cc, r, hr, hc⟩ := key m (by omega)
        refine ⟨hs ++ [hd r aa ll cc], xs ++ [r], by simp [h1], by simp [h2], fun x hx => ?_, h4.snoc (LAmendment.IsIn.is hr), fun i q hq => ?_⟩
        · rcases List.mem_append.1 hx with hx | hx
          · exact h3 x hx
          · rw [List.mem_singleton.1 hx]; exact LAmendment.IsIn.fine hr
        · by_cases hi : i < hs.length
          · rw [List.getElem?_append_left hi] at hq
            exact h5 i q hq
          · rw [List.getElem?_append_right (by omega)] at hq
            have hi0 : i - hs.length = 0 := by
              rcases Nat.eq_zero_or_pos (i - hs.length) with h' | h'
              · exact h'
              · rw [List.getElem?_eq_none (by simp; omega)] at hq; cases hq
            rw [hi0] at hq
            simp only [List.getElem?_cons_zero, Option.some.injEq] at hq
            subst hq
            obtain rfl : i = m := by omega
            exact hc
    obtain ⟨hs, xs, h1, h2, h3, h4, h5⟩ := build len (Nat.le_refl _)
    refine ⟨xs, h2, ⟨hs, ⟨some b, cap, by rw [h1], by omega, hm, ?_⟩, h4⟩, h3⟩
    by_cases h0 : hs = []
    · exact .inl h0
    · have hp : 0 < hs.length := List.length_pos_iff.2 h0
      have hz : 0 < hs[0].1.length := by rw [hs[0].2.1]; decide
      have hc0 := h5 0 hs[0] (List.getElem?_eq_getElem hp) 0 (by omega)
      rw [List.getElem?_eq_getElem hz] at hc0
      obtain ⟨bb, off, spot⟩ := b
      have hspot : spot = none := by simpa [Addr.add] using World.cell?_spot hc0
      subst hspot
      refine .inr ⟨bb, off, rfl, ?_, fun j r hr i v hv => ?_⟩
      · have := cell_lt hc0
        simpa [Addr.add] using this
      · have hi : i < 4 := by have h8 := (List.getElem?_eq_some_iff.1 hv).1; have h9 : r.1.length = 4 := r.2.1; have e : kit.row.vals r = r.1 := rfl; rw [e] at h8; omega
        have hv' : r.1[i]? = some v := hv
        have := h5 j r hr i hi
        rw [Go.WideShapes.add_plain, hv'] at this
        show w.cell? ⟨bb, off + j * 4 + i, none⟩ = some v
        rw [Nat.add_assoc]
        exact this
end
end Go.Proofs.YtclpdpfnlmfogaaDoor.LAmendmentS
