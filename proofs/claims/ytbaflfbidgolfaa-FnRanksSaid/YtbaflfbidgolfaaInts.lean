/- Slices of ints of the call's own: what a law's helpers eqIntS, markIntS, heldIntS do with them. -/
import Derived.Test.YtbaflfbidgolfaaRows
import Derived.WalkKit
import Derived.WalkSpells
import Derived.WalkSmall
import Derived.Lib.Hide
import Derived.Deep.QuietTactic
import Derived.BigQuiet
namespace Go.Proofs.Ytbaflfbidgolfaa.Ints
open Go.RowKit
set_option linter.unusedVariables false
theorem infoInt : (Try.prog.info? 3).map (fun i => (i.zero, i.size, i.bytes)) = some (some (.int .i64 0), 1, 8) := by kernel_rfl
def ints (zs : List Int) : List Value := zs.map (Value.int .i64)
theorem ints_append (a b : List Int) : ints (a ++ b) = ints a ++ ints b := by simp [ints]
/-- the value is a slice of the call's own that holds these ints -/
def OwnI (w : World) (base : Nat) (v : Value) (zs : List Int) : Prop := w.ownsRow base 3 1 v zs.length (ints zs)
theorem start (w : World) : OwnI (w.alloc (.cells #[] 3)) w.heap.size (.slice (some ⟨w.heap.size, 0, none⟩) 0 0) [] := by
  refine ⟨rfl, .inr ⟨w.heap.size, 0, #[], rfl, Nat.le_refl _, ?_, Nat.le_refl _, Nat.zero_le _, rfl, rfl⟩⟩
  show (w.heap.push _)[w.heap.size]? = _
  rw [Array.getElem?_push, if_pos rfl]
theorem OwnI.kept {w w' : World} {base : Nat} {v : Value} {zs : List Int} (h : OwnI w base v zs) (hb : Below w.heap.size w w') : OwnI w' base v zs := by
  refine World.ownsRow.kept (row := none) h ⟨hb.os, hb.tape, hb.output, hb.size, fun j hj _ => hb.block j hj⟩ ?_
  rcases h.2 with ⟨h', _⟩ | ⟨g, cap, cur, h', _⟩
  · subst h'; exact .inl rfl
  · subst h'; exact .inr (by simp [Value.ownBlock])
/-- nil, or at the head of a block -/
theorem OwnI.shape {w : World} {base : Nat} {v : Value} {zs : List Int} (h : OwnI w base v zs) : (v = .slice none 0 0 ∧ zs = []) ∨ ∃ g cap, v = .slice (some ⟨g, 0, none⟩) zs.length cap ∧ base ≤ g ∧ g < w.heap.size ∧ zs.length ≤ cap ∧ cap ≤ maxLen ∧ w.ownsRow base 3 1 (.slice (some ⟨g, 0, none⟩) zs.length cap) zs.length (ints zs) := by
  rcases h.2 with ⟨h', hz⟩ | ⟨g, cap, cur, h', hbg, hg, hnc, hcm, _, _⟩
  · exact .inl ⟨h', List.eq_nil_of_length_eq_zero hz⟩
  · subst h'; exact .inr ⟨g, cap, rfl, hbg, (Array.getElem?_eq_some_iff.1 hg).1, hnc, hcm, h⟩
theorem cell_of {w : World} {base g n cap : Nat} {zs : List Int} (h : w.ownsRow base 3 1 (.slice (some ⟨g, 0, none⟩) n cap) n (ints zs)) (j : Nat) (hj : j < n) (z : Int) (hz : zs[j]? = some z) : w.cell? ⟨g, j, none⟩ = some (.int .i64 z) := by
  rw [h.cellAt j (by omega), ints, List.getElem?_map, hz]; rfl

set_option maxHeartbeats 400000 in
/-- two slices of the same ints -/
theorem eqIntS (base base' : Nat) (v v' : Value) (zs : List Int) (w : World) (h : OwnI w base v zs) (h' : OwnI w base' v' zs) :
    Calls Try.prog 26 #[v, v'] w fun e w' => e = .returned (.bool true) ∧ Below w.heap.size w w' := by
  have hS : Hid (∀ j z, zs[j]? = some z → ∀ g n cap, v = .slice (some ⟨g, 0, none⟩) n cap → g < w.heap.size ∧ w.cell? ⟨g, j, none⟩ = some (.int .i64 z)) := fun j z hz g n cap e => by
    rcases h.shape with ⟨rfl, rfl⟩ | ⟨g1, c1, rfl, _, hlt, _, _, ho⟩
    · simp at hz
    · simp only [Value.slice.injEq, Option.some.injEq, Addr.mk.injEq, and_true] at e
      obtain ⟨rfl, _⟩ := e
      exact ⟨hlt, cell_of ho j (List.getElem?_eq_some_iff.1 hz).1 z hz⟩
  have hS' : Hid (∀ j z, zs[j]? = some z → ∀ g n cap, v' = .slice (some ⟨g, 0, none⟩) n cap → g < w.heap.size ∧ w.cell? ⟨g, j, none⟩ = some (.int .i64 z)) := fun j z hz g n cap e => by
    rcases h'.shape with ⟨rfl, rfl⟩ | ⟨g1, c1, rfl, _, hlt, _, _, ho⟩
    · simp at hz
    · simp only [Value.slice.injEq, Option.some.injEq, Addr.mk.injEq, and_true] at e
      obtain ⟨rfl, _⟩ := e
      exact ⟨hlt, cell_of ho j (List.getElem?_eq_some_iff.1 hz).1 z hz⟩
  have sh := h.shape
  have sh' := h'.shape
  clear h h'
  by_cases h0 : zs = []
  · subst h0
    have e1 : ∃ a c, v = .slice a 0 c := by
      rcases sh with ⟨rfl, _⟩ | ⟨g, c, rfl, _⟩
      · exact ⟨_, _, rfl⟩
      · exact ⟨_, _, rfl⟩
    have e2 : ∃ a c, v' = .slice a 0 c := by
      rcases sh' with ⟨rfl, _⟩ | ⟨g, c, rfl, _⟩
      · exact ⟨_, _, rfl⟩
      · exact ⟨_, _, rfl⟩
    obtain ⟨a, c, rfl⟩ := e1
    obtain ⟨a', c', rfl⟩ := e2
    clear sh sh' hS hS'
    go_enter Try.func26, Try.ntmps26
    go_wp2_with fail
    go_loop [5] (fun i => i = .int .i64 0) (fun i => 0)
    case atStart => exact rfl
    case round =>
      obtain rfl := hrel
      go_wp2_with fail
      go_ret
      exact ⟨rfl, Below.refl _ _⟩
  · rcases sh with ⟨_, rfl⟩ | ⟨g, c, rfl, _, hg, hc1, hc2, _⟩
    · exact absurd rfl h0
    rcases sh' with ⟨_, rfl⟩ | ⟨g', c', rfl, _, hg', hc1', hc2', _⟩
    · exact absurd rfl h0
    clear h0
    unfold maxLen at hc2 hc2'
    obtain ⟨n, hn⟩ : ∃ n, n = zs.length := ⟨_, rfl⟩
    rw [← hn] at hc1 hc1' ⊢
    have hle : n ≤ zs.length := by omega
    clear hn
    have hne : ((n : Int) != (n : Int)) = false := by simp
    go_enter Try.func26, Try.ntmps26
    go_wp2_with fail
    go_loopw [5] (fun i wr => ∃ k : Nat, k ≤ n ∧ i = .int .i64 k ∧ Below w.heap.size w wr) (fun i _ => n - (intOf i).toNat)
    case atStart => exact ⟨0, Nat.zero_le _, rfl, Below.refl _ _⟩
    case round =>
      obtain ⟨k, hk, rfl, hb⟩ := hrel
      by_cases hlt : k < n
      · have hx : k < zs.length := by omega
        have c1 : wr.cell? ⟨g, k, none⟩ = some (.int .i64 zs[k]) := by rw [hb.cell (p := ⟨g, k, none⟩) hg]; exact (hS.out k _ (List.getElem?_eq_getElem hx) _ _ _ rfl).2
        have c2 : wr.cell? ⟨g', k, none⟩ = some (.int .i64 zs[k]) := by rw [hb.cell (p := ⟨g', k, none⟩) hg']; exact (hS'.out k _ (List.getElem?_eq_getElem hx) _ _ _ rfl).2
        generalize zs[k] = Z at *
        have k0 : 0 ≤ (k : Int) := by omega
        have k1 : (k : Int) < (n : Int) := by omega
        have hz : (Z != Z) = false := by simp
        go_wp2_with fail
        go_quiet (fail)
        have hb2 : Below w.heap.size w (wr.drewN nq) := hb.trans ⟨rfl, rfl, rfl, Nat.le_refl _, fun _ _ => rfl⟩
        go_wp2_with fail
        go_roundw
        case rel => exact ⟨k + 1, by omega, by go_num, hb2⟩
        case measure => simp [intOf]; omega
      · go_wp2_with fail
        go_ret
        exact ⟨rfl, hb⟩

def marks (m : Nat) (zs : List Int) (k : Nat) : List Int := (List.range k).map (fun j => ((m + j : Nat) : Int)) ++ zs.drop k
theorem marks_zero (m : Nat) (zs : List Int) : marks m zs 0 = zs := by simp [marks]
theorem marks_len (m k : Nat) (zs : List Int) (hk : k ≤ zs.length) : (marks m zs k).length = zs.length := by simp [marks]; omega
theorem marks_set (m k : Nat) (zs : List Int) (hk : k < zs.length) : (ints (marks m zs k)).set k (.int .i64 (m + k : Nat)) = ints (marks m zs (k + 1)) := by
  unfold marks
  have hl : ((List.range k).map fun j => ((m + j : Nat) : Int)).length = k := by simp
  have hl2 : (ints ((List.range k).map fun j => ((m + j : Nat) : Int))).length = k := by simp [ints]
  rw [ints_append, List.set_append_right _ _ (by omega), hl2, Nat.sub_self, List.drop_eq_getElem_cons hk, List.range_succ, List.map_append, List.append_assoc, ints_append]
  rfl
theorem marks_all (m : Nat) (zs : List Int) (j : Nat) (hj : j < zs.length) : (marks m zs zs.length)[j]? = some ((m + j : Nat) : Int) := by
  unfold marks
  rw [List.getElem?_append_left (by simpa using hj), List.getElem?_map, List.getElem?_range hj]
  rfl
def Marked (w : World) (base m : Nat) (v : Value) (zs : List Int) (e : Ending) (w' : World) : Prop :=
  e = .returned (.int .i64 (m + zs.length : Nat)) ∧ OwnI w' base v (marks m zs zs.length) ∧ Below base w w' ∧ w.heap.size ≤ w'.heap.size

set_option maxHeartbeats 800000 in
theorem markIntS (base m : Nat) (v : Value) (zs : List Int) (w : World) (hm : m + zs.length ≤ 8000000) (h : OwnI w base v zs) :
    Calls Try.prog 29 #[v, .int .i64 m] w (Marked w base m v zs) := by
  rcases h.shape with ⟨rfl, rfl⟩ | ⟨g, c, rfl, hg0, hg, hc1, hc2, ho⟩
  · have HO := Lib.hid h
    clear h
    go_enter Try.func29, Try.ntmps29
    go_wp2_with fail
    go_loop [1, 5] (fun q i => q = .int .i64 m ∧ i = .int .i64 0) (fun _ i => 0)
    case atStart => exact ⟨rfl, rfl⟩
    case round =>
      obtain ⟨rfl, rfl⟩ := hrel
      go_wp2_with fail
      go_ret
      exact ⟨rfl, HO.out, Below.refl _ _, Nat.le_refl _⟩
  · unfold maxLen at hc2
    have HO := Lib.hid (show w.ownsRow base 3 1 (.slice (some ⟨g, 0, none⟩) zs.length c) zs.length (ints (marks m zs 0)) by rw [marks_zero]; exact ho)
    obtain ⟨n, hn⟩ : ∃ n, n = zs.length := ⟨_, rfl⟩
    have HN := Lib.hid hn
    rw [← hn] at hc1 HO hm ⊢
    have hle : n ≤ zs.length := by omega
    clear hn h ho
    go_enter Try.func29, Try.ntmps29
    go_wp2_with fail
    go_loopw [1, 5] (fun q i wr => ∃ k : Nat, k ≤ n ∧ i = .int .i64 k ∧ q = .int .i64 (m + k : Nat) ∧ Hid (wr.ownsRow base 3 1 (.slice (some ⟨g, 0, none⟩) n c) n (ints (marks m zs k))) ∧ Below base w wr ∧ w.heap.size ≤ wr.heap.size) (fun _ i _ => n - (intOf i).toNat)
    case atStart => exact ⟨0, Nat.zero_le _, rfl, rfl, HO, Below.refl _ _, Nat.le_refl _⟩
    case round =>
      clear HO
      obtain ⟨k, hk, rfl, rfl, HR, hb, hz⟩ := hrel
      by_cases hlt : k < n
      · have hx : k < zs.length := by omega
        have hx2 : k < (marks m zs k).length := by rw [marks_len m k zs (by omega)]; exact hx
        have hcell := cell_of HR.out k hlt _ (List.getElem?_eq_getElem hx2)
        have hfr := HR.out.frozenAt k
        have HS := Lib.hid (HR.out.stored k (.int .i64 (m + k : Nat))).1
        rw [marks_set m k zs hx] at HS
        generalize (marks m zs k)[k] = Z at *
        go_wp2_with fail
        go_roundw
        case rel => exact ⟨k + 1, by omega, by go_num, by go_num, HS, hb.setCell hg0 _, by simp; exact hz⟩
        case measure => simp [intOf]; omega
      · obtain rfl : k = n := by omega
        go_wp2_with fail
        go_ret
        refine ⟨by rw [HN.out]; rfl, ?_, hb, hz⟩
        have := HR.out
        unfold OwnI
        rw [marks_len m _ zs (Nat.le_refl _), ← HN.out]
        exact this

set_option maxHeartbeats 800000 in
theorem heldIntS (base m : Nat) (v : Value) (zs : List Int) (w : World) (hm : m + zs.length ≤ 8000000) (h : OwnI w base v (marks m zs zs.length)) :
    Calls Try.prog 30 #[v, .int .i64 m] w fun e w' => e = .returned (.int .i64 (m + zs.length : Nat)) ∧ Below w.heap.size w w' := by
  have hml := marks_len m zs.length zs (Nat.le_refl _)
  rcases h.shape with ⟨rfl, hz⟩ | ⟨g, c, rfl, hg0, hg, hc1, hc2, ho⟩
  · have h0 : zs.length = 0 := by rw [← hml, hz]; rfl
    obtain rfl := List.eq_nil_of_length_eq_zero h0
    clear h hz hml h0
    go_enter Try.func30, Try.ntmps30
    go_wp2_with fail
    go_loop [1, 5] (fun q i => q = .int .i64 m ∧ i = .int .i64 0) (fun _ i => 0)
    case atStart => exact ⟨rfl, rfl⟩
    case round =>
      obtain ⟨rfl, rfl⟩ := hrel
      go_wp2_with fail
      go_ret
      exact ⟨rfl, Below.refl _ _⟩
  · unfold maxLen at hc2
    rw [hml] at hc1 ho ⊢
    have HO := Lib.hid ho
    obtain ⟨n, hn⟩ : ∃ n, n = zs.length := ⟨_, rfl⟩
    have HN := Lib.hid hn
    rw [← hn] at hc1 hm HO ⊢
    have hle : n ≤ zs.length := by omega
    clear hn h ho hml
    go_enter Try.func30, Try.ntmps30
    go_wp2_with fail
    go_loop [1, 5] (fun q i => ∃ k : Nat, k ≤ n ∧ i = .int .i64 k ∧ q = .int .i64 (m + k : Nat)) (fun _ i => n - (intOf i).toNat)
    case atStart => exact ⟨0, Nat.zero_le _, rfl, rfl⟩
    case round =>
      obtain ⟨k, hk, rfl, rfl⟩ := hrel
      by_cases hlt : k < n
      · have hx : k < zs.length := by omega
        have HM := marks_all m zs k hx
        rw [← HN.out] at HM
        have hcell := cell_of HO.out k hlt _ HM
        have hne : (((m + k : Nat) : Int) != ((m + k : Nat) : Int)) = false := by simp
        clear HM
        go_wp2_with fail
        go_round
        case rel => exact ⟨k + 1, by omega, by go_num, by go_num⟩
        case measure => simp [intOf]; omega
      · obtain rfl : k = n := by omega
        go_wp2_with fail
        go_ret
        exact ⟨rfl, Below.refl _ _⟩
end Go.Proofs.Ytbaflfbidgolfaa.Ints
