/- FnOffices: what the law wants of lists of members. No condition. -/
import Derived.Test.YtbnkpkneccgfnaaGiveOfficeC
import Derived.Test.YtbnkpkneccgfnaaPresidingMemberC
import Derived.Test.YtbnkpkneccgfnaaDrawO
namespace Go.Proofs.Ytbnkpkneccgfnaa.OffM
open Go.RowKit Bs Word Mem MemF Sq IntF GiveOfficeC PresidingMemberC
set_option linter.unusedVariables false
theorem g_num (n o : Int) (m : M) : (g n o m).num = m.num := by unfold g; split <;> simp [g1_num]
theorem g_off_n {n o : Int} {m : M} (h : m.num = n) : (g n o m).off = o := by unfold g; rw [if_pos (by simpa using h)]
theorem g_off_o {n o : Int} {m : M} (h : m.num ≠ n) (h2 : m.off = o) : (g n o m).off = 0 := by unfold g; rw [if_neg (by simpa using h)]; unfold g1; rw [if_pos (by simpa using h2)]
theorem g_off_x {n o : Int} {m : M} (h : m.num ≠ n) (h2 : m.off ≠ o) : (g n o m).off = m.off := by unfold g; rw [if_neg (by simpa using h)]; unfold g1; rw [if_neg (by simpa using h2)]
theorem clash_parts {p r : M} (h : clash p r = false) : (p.name.toList == r.name.toList) = false ∧ (r.off ≠ 0 → p.off ≠ r.off) := by
  unfold clash at h
  rw [Bool.or_eq_false_iff, Bool.and_eq_false_iff] at h
  refine ⟨h.1, fun h0 => ?_⟩
  rcases h.2 with h2 | h2
  · exact absurd (by simpa using h2) h0
  · simpa using h2
theorem clash_no {p r : M} (h1 : (p.name.toList == r.name.toList) = false) (h2 : r.off ≠ 0 → p.off ≠ r.off) : clash p r = false := by
  unfold clash
  rw [h1, Bool.false_or]
  by_cases h0 : r.off = 0
  · simp [h0]
  · have := h2 h0
    simp [this]
theorem give_good {z : List M} {n o : Int} (h : goodB z = true) (ho : inB o 0 3 = true) : goodB (giveL z n o) = true := by
  refine good_yes ⟨by rw [give_len]; exact (good_of h).1, fun i hi => ?_⟩
  rw [give_len] at hi
  obtain ⟨⟨b, hb, hok, hasc⟩, hcl⟩ := (good_of h).2 i hi
  have hat : ∀ j : Nat, (giveL z n o)[j]? = (z[j]?).map (g n o) := fun j => by unfold giveL; rw [List.getElem?_map]
  have hbi : (giveL z n o)[i]? = some (g n o b) := by rw [hat, hb]; rfl
  have ho3 := inB_yes ho
  refine ⟨⟨g n o b, hbi, ?_, fun p h0 hp => ?_⟩, fun k q r hk hq hr => ?_⟩
  · obtain ⟨p1, p2, p3⟩ := ok_parts hok
    unfold okB
    rw [g_num, g_name, inB_mk p1.1 p1.2, p2]
    show inB _ 0 3 = true
    by_cases e1 : b.num = n
    · rw [g_off_n e1]; exact ho
    · by_cases e2 : b.off = o
      · rw [g_off_o e1 e2]; rfl
      · rw [g_off_x e1 e2]; exact inB_mk p3.1 p3.2
  · rw [hat] at hp
    cases hz : z[i - 1]? with
    | none => rw [hz] at hp; cases hp
    | some a =>
      rw [hz] at hp
      rw [← Option.some.inj hp, g_num, g_num]
      exact hasc a h0 hz
  · rw [hat] at hq hr
    rw [hb] at hr
    obtain rfl := Option.some.inj hr
    cases hz : z[k]? with
    | none => rw [hz] at hq; cases hq
    | some a =>
      rw [hz] at hq
      obtain rfl := Option.some.inj hq
      obtain ⟨c1, c2⟩ := clash_parts (hcl k a b hk hz hb)
      have hne : a.num ≠ b.num := by have := num_asc h i k a b hk hz hb; omega
      refine clash_no (by rw [g_name, g_name]; exact c1) (fun h0 => ?_)
      by_cases e1 : b.num = n
      · rw [g_off_n e1] at h0 ⊢
        have ea : a.num ≠ n := by omega
        by_cases e2 : a.off = o
        · rw [g_off_o ea e2]; omega
        · rw [g_off_x ea e2]; exact e2
      · by_cases e2 : b.off = o
        · rw [g_off_o e1 e2] at h0; exact absurd rfl h0
        · rw [g_off_x e1 e2] at h0 ⊢
          by_cases e3 : a.num = n
          · rw [g_off_n e3]; omega
          · by_cases e4 : a.off = o
            · rw [g_off_o e3 e4]; omega
            · rw [g_off_x e3 e4]; exact c2 h0
theorem give_hold {z : List M} {n o : Int} {k : Nat} (hi : idx z n = some k) (ho : o ≠ 0) : ∃ m, hold (giveL z n o) o = some m ∧ m.num = n := by
  obtain ⟨X, hX, hp, hf⟩ := idx_some hi
  have hn : X.num = n := by simpa using hp
  have hat : ∀ j : Nat, (giveL z n o)[j]? = (z[j]?).map (g n o) := fun j => by unfold giveL; rw [List.getElem?_map]
  refine ⟨g n o X, got_hit (k := k) (fun j x hj hx => ?_) (by rw [hat, hX]; rfl) (by rw [g_off_n hn]; simp), by rw [g_num]; exact hn⟩
  rw [hat] at hx
  cases hz : z[j]? with
  | none => rw [hz] at hx; cases hx
  | some a =>
    rw [hz] at hx
    obtain rfl := Option.some.inj hx
    have hne : a.num ≠ n := by have := hf j a hj hz; simpa using this
    show ((g n o a).off == o) = false
    rw [beq_eq_false_iff_ne]
    by_cases e2 : a.off = o
    · rw [g_off_o hne e2]; omega
    · rw [g_off_x hne e2]; exact e2
theorem pick_has {z : List M} {p : List Int} (h : p ≠ []) : hasB p (pick z p) = true := by
  have hoff : ∀ (o x : Int), off1 z p o = some x → hasB p x = true := fun o x hx => by
    unfold off1 at hx
    split at hx
    · split at hx
      · rename_i hh
        rw [← Option.some.inj hx]; exact hh
      · cases hx
    · cases hx
  unfold pick
  cases h1 : off1 z p 1 with
  | some x => exact hoff 1 x h1
  | none =>
    cases h2 : off1 z p 2 with
    | some x => exact hoff 2 x h2
    | none =>
      cases h3 : off1 z p 3 with
      | some x => exact hoff 3 x h3
      | none =>
        cases p with
        | nil => exact absurd rfl h
        | cons y p => exact has_iff.2 (List.mem_cons_self)
theorem pick_chair {z : List M} {p : List Int} {m : M} (h : hold z 1 = some m) (hp : hasB p m.num = true) : pick z p = m.num := by
  have : off1 z p 1 = some m.num := by unfold off1; rw [h]; simp [hp]
  unfold pick
  rw [this]
  rfl
theorem pre_told {z : List M} {p : List Int} {r0 : Int} (h : preA z p = (r0, true)) : p ≠ [] ∧ r0 = pick z p := by
  unfold preA at h
  split at h
  · split at h
    · split at h
      · simp at h
      · rename_i hne
        simp only [Prod.mk.injEq, and_true] at h
        exact ⟨hne, h.symm⟩
    · simp at h
  · simp at h
theorem giv_told {z : List M} {n o : Int} {r0 : List M} (h : givA z n o = (r0, true)) : goodB z = true ∧ inB o 0 3 = true ∧ (∃ k, idx z n = some k) ∧ r0 = giveL z n o := by
  unfold givA at h
  split at h
  · rename_i h1
    split at h
    · rename_i h2
      split at h
      · rename_i h3
        simp only [Prod.mk.injEq, and_true] at h
        exact ⟨h1, h2, Option.isSome_iff_exists.1 h3, h.symm⟩
      · simp at h
    · simp at h
  · simp at h
set_option maxHeartbeats 400000 in
theorem rBig (a : Option Addr) (len cap : Nat) (w : World) : Calls Try.prog 28 #[.slice a len cap] w fun e w' => e = .returned (.bool (decide ((65536 : Int) < len))) ∧ w = w' := by
  go_enter Try.func28, Try.ntmps28
  go_wp2_with fail
  go_ret
  exact ⟨rfl, rfl⟩
set_option maxRecDepth 100000 in
set_option maxHeartbeats 800000 in
/-- two slices of the same members -/
theorem rMembers (v v' : Value) (xs : List M) (w : World) (h : Is LMember.rec w v xs) (h' : Is LMember.rec w v' xs) :
    Calls Try.prog 32 #[v, v'] w fun e w' => e = .returned (.bool true) ∧ Below w.heap.size w w' := by
  obtain ⟨a, cp, rfl, h⟩ := h
  obtain ⟨a', cp', rfl, h'⟩ := h'
  have hc := h.at_ LMember.rec
  have hc' := h'.at_ LMember.rec
  obtain ⟨n, hn⟩ : ∃ n, n = xs.length := ⟨_, rfl⟩
  have hnb : n ≤ cp := by have := h.1; omega
  have hnb' : n ≤ cp' := by have := h'.1; omega
  have h2 := h.2.1
  have h2' := h'.2.1
  unfold maxLen at h2 h2'
  rw [← hn]
  have hle : n ≤ xs.length := by omega
  clear hn h h'
  have hne : ((n : Int) != (n : Int)) = false := by simp
  go_enter Try.func32, Try.ntmps32
  go_wp2_with fail
  go_loopw [5] (fun i wr => ∃ k : Nat, k ≤ n ∧ i = .int .i64 k ∧ Below w.heap.size w wr) (fun i _ => n - (intOf i).toNat)
  case atStart => exact ⟨0, Nat.zero_le _, rfl, Below.refl _ _⟩
  case round =>
    obtain ⟨k, hk, rfl, hb⟩ := hrel
    by_cases hlt : k < n
    · have hx : k < xs.length := by omega
      obtain ⟨b, o, rfl, hbl, hcell0⟩ := hc.out k xs[k] (List.getElem?_eq_getElem hx)
      obtain ⟨b', o', rfl, hbl', hcell0'⟩ := hc'.out k xs[k] (List.getElem?_eq_getElem hx)
      obtain ⟨c0, c1, c2⟩ := LMember.cells (hcell0.below LMember.rec hb hbl)
      obtain ⟨d0, d1, d2⟩ := LMember.cells (hcell0'.below LMember.rec hb hbl')
      simp only [LMember.rec_n] at c0 c1 c2 d0 d1 d2
      clear hcell0 hcell0'
      generalize xs[k] = X at *
      have k0 : 0 ≤ (k : Int) := by omega
      have k1 : (k : Int) < (n : Int) := by omega
      go_wp2_with fail
      go_quiet (fail)
      have hb2 : Below w.heap.size w (wr.drewN nq) := hb.trans ((drawn_below _ _).mono hb.size)
      go_wp2_with fail
      go_roundw
      case rel => exact ⟨k + 1, by omega, by go_num, hb2⟩
      case measure => simp [intOf]; omega
    · go_wp2_with fail
      go_ret
      exact ⟨rfl, hb⟩
set_option maxHeartbeats 400000 in
theorem rHas (v0 : Value) (z0 : List LInt.R) (a1 : Int) (w : World) (h0 : Is LInt.rec w v0 z0) :
    Calls Try.prog 40 #[v0, .int .i64 a1] w fun e w' => e = .returned (.bool (hasB z0 a1)) ∧ w = w' := by
  obtain ⟨a, cp, rfl, h0⟩ := h0
  have hc := h0.at_ LInt.rec
  obtain ⟨n, hn⟩ : ∃ n, n = z0.length := ⟨_, rfl⟩
  have hnb : n ≤ cp := by have := h0.1; omega
  have hn2 := h0.2.1
  unfold maxLen at hn2
  have HN := Lib.hid hn.symm
  rw [← hn]
  have hnle : n ≤ z0.length := by omega
  clear hn h0
  go_enter Try.func40, Try.ntmps40
  go_wp2_with fail
  go_loop [5] (fun i => ∃ k : Nat, k ≤ n ∧ i = .int .i64 k ∧ Hid (Sq.First (fun X => (X == a1)) z0 k)) (fun i => n - (intOf i).toNat)
  case atStart => exact ⟨0, Nat.zero_le _, rfl, Lib.hid Sq.first_zero⟩
  case round =>
    obtain ⟨k, hk, rfl, HF⟩ := hrel
    by_cases hlt : k < n
    · have hx : k < z0.length := by omega
      obtain ⟨b, o, rfl, hbl, hcell0⟩ := hc.out k z0[k] (List.getElem?_eq_getElem hx)
      have q0 := LInt.cells (hcell0)
      simp only [LInt.rec_n, Nat.mul_one] at q0
      have HX := Lib.hid (List.getElem?_eq_getElem hx)
      clear hcell0
      generalize z0[k] = X at *
      cases g : (X == a1) with
      | true =>
        have HI := Lib.hid (Sq.first_hit HF.out HX.out g)
        go_wp2_with fail
        go_ret
        exact ⟨ret_bool (by unfold hasB; rw [HI.out]; rfl), rfl⟩
      | false =>
        have HF2 := Lib.hid (Sq.first_next HF.out HX.out g)
        go_wp2_with fail
        go_round
        case rel => exact ⟨k + 1, by omega, by go_num, HF2⟩
        case measure => simp [intOf]; omega
    · have HI := Lib.hid (Sq.first_none HF.out (by have := HN.out; omega))
      go_wp2_with fail
      go_ret
      exact ⟨ret_bool (by unfold hasB; rw [HI.out]; rfl), rfl⟩
end Go.Proofs.Ytbnkpkneccgfnaa.OffM
