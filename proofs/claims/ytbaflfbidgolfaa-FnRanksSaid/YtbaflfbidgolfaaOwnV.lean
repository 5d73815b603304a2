/- Slices of rules of the call's own, nil or not: words for them; the laws' helpers at such a slice. -/
import Derived.Test.YtbaflfbidgolfaaMarkR
namespace Go.Proofs.Ytbaflfbidgolfaa.OwnV
open Go.RowKit Rule HelpS MarkR
set_option linter.unusedVariables false
set_option maxRecDepth 100000

/-- the value is a slice of the call's own that holds these rules -/
def OwnV (w : World) (base : Nat) (v : Value) (ys : List R) : Prop := w.ownsRow base 63 7 v ys.length (flat ys)
theorem OwnV.shape {w : World} {base : Nat} {v : Value} {ys : List R} (h : OwnV w base v ys) : (v = .slice none 0 0 ∧ ys = []) ∨ ∃ g cap, v = .slice (some ⟨g, 0, none⟩) ys.length cap ∧ ys.length ≤ cap ∧ OwnR w base g ys.length cap ys := by
  rcases h.2 with ⟨h', hz⟩ | ⟨g, cap, cur, h', hbg, hg, hnc, hcm, _, _⟩
  · exact .inl ⟨h', List.eq_nil_of_length_eq_zero hz⟩
  · subst h'; exact .inr ⟨g, cap, rfl, hnc, rfl, h⟩
theorem OwnV.kept {w w' : World} {base : Nat} {v : Value} {ys : List R} (h : OwnV w base v ys) (hb : Below w.heap.size w w') : OwnV w' base v ys := by
  refine World.ownsRow.kept (row := none) h ⟨hb.os, hb.tape, hb.output, hb.size, fun j hj _ => hb.block j hj⟩ ?_
  rcases h.shape with ⟨rfl, _⟩ | ⟨g, cap, rfl, _⟩
  · exact .inl rfl
  · exact .inr (by simp [Value.ownBlock])
theorem OwnV.turned {g base : Nat} {v : Value} {ys : List R} {w w' : World} (h : OwnV w base v ys) (ht : Turned g w w') (hne : ∀ k, v.ownBlock = some k → k ≠ g) : OwnV w' base v ys := own_turned h ht hne
theorem OwnV.under {B base : Nat} {v : Value} {ys : List R} {w w' : World} (h : OwnV w base v ys) (hb : Below B w w') (hz : w.heap.size ≤ w'.heap.size) (hlt : ∀ k, v.ownBlock = some k → k < B) : OwnV w' base v ys := own_under h hb hz hlt
theorem OwnV.of {w : World} {base g n cap : Nat} {ys : List R} (h : OwnR w base g n cap ys) : OwnV w base (.slice (some ⟨g, 0, none⟩) n cap) ys := by
  obtain ⟨h1, h2⟩ := h
  subst h1
  exact h2
theorem start_at {w : World} {B : Nat} (h : B ≤ w.heap.size) : OwnV (w.alloc (.cells #[] 63)) B (.slice (some ⟨w.heap.size, 0, none⟩) 0 0) [] := by
  refine ⟨rfl, .inr ⟨w.heap.size, 0, #[], rfl, h, ?_, Nat.le_refl _, Nat.zero_le _, rfl, rfl⟩⟩
  show (w.heap.push _)[w.heap.size]? = _
  rw [Array.getElem?_push, if_pos rfl]
/-- what a slice of rules holds, cell by cell -/
theorem flat_cells {w : World} {b o : Nat} {xs : List R} (h : ∀ j r, xs[j]? = some r → At w b (o + j * 7) r) : ∀ j u, (flat xs)[j]? = some u → w.cell? ⟨b, o + j, none⟩ = some u := by
  intro j u hu
  have hj : j < xs.length * 7 := by rw [← flat_len]; exact (List.getElem?_eq_some_iff.1 hu).1
  have hx : j / 7 < xs.length := by omega
  have hr := List.getElem?_eq_getElem hx
  have hm : j % 7 < 7 := by omega
  have hf := flat_at xs (j / 7) (j % 7) _ hr hm
  have e : j / 7 * 7 + j % 7 = j := by omega
  rw [e, hu] at hf
  obtain ⟨h0, h1, h2, h3, h4, h5, h6⟩ := h _ _ hr
  have e2 : o + j = o + j / 7 * 7 + j % 7 := by omega
  rw [e2]
  generalize j % 7 = m at *
  match m, hm with
  | 0, _ => rw [hf]; exact h0
  | 1, _ => rw [hf]; exact h1
  | 2, _ => rw [hf]; exact h2
  | 3, _ => rw [hf]; exact h3
  | 4, _ => rw [hf]; exact h4
  | 5, _ => rw [hf]; exact h5
  | 6, _ => rw [hf]; exact h6
theorem flat_one (xs : List R) : ∀ u ∈ flat xs, u.oneCell' = true := by
  intro u hu
  unfold flat at hu
  obtain ⟨r, _, hr⟩ := List.mem_flatMap.1 hu
  simp only [R.vals, List.mem_cons, List.not_mem_nil, or_false] at hr
  rcases hr with rfl | rfl | rfl | rfl | rfl | rfl | rfl <;> rfl

theorem empty_eq (a a' : Option Addr) (c c' : Nat) (w : World) :
    Calls Try.prog 22 #[.slice a 0 c, .slice a' 0 c'] w fun e w' => e = .returned (.bool true) ∧ Below w.heap.size w w' := by
  go_enter Try.func22, Try.ntmps22
  go_wp2_with fail
  go_loop [5] (fun i => i = .int .i64 0) (fun i => 0)
  case atStart => exact rfl
  case round =>
    obtain rfl := hrel
    go_wp2_with fail
    go_ret
    exact ⟨rfl, Below.refl _ _⟩
theorem eqV (base base' : Nat) (v v' : Value) (ys : List R) (w : World) (h : OwnV w base v ys) (h' : OwnV w base' v' ys) :
    Calls Try.prog 22 #[v, v'] w fun e w' => e = .returned (.bool true) ∧ Below w.heap.size w w' := by
  rcases h.shape with ⟨rfl, rfl⟩ | ⟨g, c, rfl, _, hO⟩
  · rcases h'.shape with ⟨rfl, _⟩ | ⟨g', c', rfl, _, hO'⟩
    · exact empty_eq _ _ _ _ w
    · exact empty_eq _ _ _ _ w
  · rcases h'.shape with ⟨rfl, rfl⟩ | ⟨g', c', rfl, _, hO'⟩
    · exact empty_eq _ _ _ _ w
    · exact HelpS.eqRuleS _ _ _ _ _ ys w rfl hO.rules hO'.rules
def MarkedV (w : World) (base m : Nat) (v : Value) (ys : List R) (e : Ending) (w' : World) : Prop :=
  e = .returned (.int .i64 (m + 7 * ys.length : Nat)) ∧ OwnV w' base v (marks m ys ys.length) ∧ Below base w w' ∧ w.heap.size ≤ w'.heap.size
theorem marks_len (m : Nat) (ys : List R) : (marks m ys ys.length).length = ys.length := by simp [marks]
theorem markV (base m : Nat) (v : Value) (ys : List R) (w : World) (hm0 : 0 < m) (hm : m + 7 * ys.length ≤ 8000000) (hz : base ≤ w.heap.size) (h : OwnV w base v ys) :
    Calls Try.prog 27 #[v, .int .i64 m] w (MarkedV w base m v ys) := by
  rcases h.shape with ⟨rfl, rfl⟩ | ⟨g, c, rfl, hc, hO⟩
  · have HO := Lib.hid h
    clear h
    go_enter Try.func27, Try.ntmps27
    go_wp2_with fail
    go_loop [1, 5] (fun q i => q = .int .i64 m ∧ i = .int .i64 0) (fun _ i => 0)
    case atStart => exact ⟨rfl, rfl⟩
    case round =>
      obtain ⟨rfl, rfl⟩ := hrel
      go_wp2_with fail
      go_ret
      exact ⟨rfl, HO.out, Below.refl _ _, Nat.le_refl _⟩
  · have hg := hO.lt
    refine (MarkR.markRuleS base g _ c m ys w hc hm0 hm hO).mono ?_
    rintro e w' ⟨rfl, h1, h2⟩
    refine ⟨rfl, ?_, h2.below hg.1 hz, h2.size⟩
    exact OwnV.of h1
theorem heldV (base m : Nat) (v : Value) (ys : List R) (w : World) (hm0 : 0 < m) (hm : m + 7 * ys.length ≤ 8000000) (h : OwnV w base v (marks m ys ys.length)) :
    Calls Try.prog 65 #[v, .int .i64 m] w fun e w' => e = .returned (.int .i64 (m + 7 * ys.length : Nat)) ∧ Below w.heap.size w w' := by
  have hml := marks_len m ys
  rcases h.shape with ⟨rfl, hz⟩ | ⟨g, c, rfl, hc, hO⟩
  · have h0 : ys.length = 0 := by rw [← hml, hz]; rfl
    obtain rfl := List.eq_nil_of_length_eq_zero h0
    clear h hz hml h0
    go_enter Try.func65, Try.ntmps65
    go_wp2_with fail
    go_loop [1, 5] (fun q i => q = .int .i64 m ∧ i = .int .i64 0) (fun _ i => 0)
    case atStart => exact ⟨rfl, rfl⟩
    case round =>
      obtain ⟨rfl, rfl⟩ := hrel
      go_wp2_with fail
      go_ret
      exact ⟨rfl, Below.refl _ _⟩
  · rw [hml] at hc hO ⊢
    exact MarkR.heldRuleS base g _ c m ys w hc hm0 hm rfl hO
end Go.Proofs.Ytbaflfbidgolfaa.OwnV
