/- The first of the numbers that fits, as the least number of Yes, the greatest number of No and the greatest need. Plain mathematics. -/
import Derived.Test.YtankaffhapcnaaaTalF
import Derived.Test.YtankaffhapcnaaaTalS
namespace Go.Proofs.Ytankaffhapcnaaa.TalM
open Go Go.RowKit Tal TalN TalF TalS
set_option linter.unusedVariables false
theorem mem_upto {a d : Int} {k i : Nat} (h : i < k) : a + d * (i : Int) ∈ upto a d k := List.mem_map.2 ⟨i, List.mem_range.2 h, rfl⟩
theorem of_mem {a d y : Int} {k : Nat} (h : y ∈ upto a d k) : ∃ i : Nat, i < k ∧ y = a + d * (i : Int) := by
  obtain ⟨i, hi, e⟩ := List.mem_map.1 h
  exact ⟨i, List.mem_range.1 hi, e.symm⟩
theorem of_pre {a d r : Int} {n : Nat} {pre : List Int} (h : pre ++ [r] <+: upto a d n) : ∃ k : Nat, k < n ∧ pre = upto a d k ∧ r = a + d * (k : Int) := by
  have hl : pre.length < n := by have := h.length_le; simp [upto_length] at this; omega
  have h2 := upto_pre a d (pre.length + 1) n hl
  have e : pre ++ [r] = upto a d (pre.length + 1) := by
    rcases List.prefix_or_prefix_of_prefix h h2 with h3 | h3
    · exact h3.eq_of_length (by simp [upto_length])
    · exact (h3.eq_of_length (by simp [upto_length])).symm
  rw [upto_succ] at e
  obtain ⟨e1, e2⟩ := List.append_inj e (by simp [upto_length])
  exact ⟨pre.length, hl, e1, by simpa using e2⟩
theorem yes_found {k n r0 : Int} {r1 : Bool} (hk : need k = true) (hn : votes n = true) (h : TalF.Found (fun x => car k x n) (upto 0 1 2002) r0 r1) : YesAns k n r0 r1 := by
  have hv := votes_yes hn
  refine .inr ⟨by rw [hk, hn]; rfl, ?_⟩
  rcases h with ⟨rfl, pre, hp, hr, hq⟩ | ⟨rfl, rfl, hq⟩
  · obtain ⟨i, hi, rfl, rfl⟩ := of_pre hp
    refine .inl ⟨rfl, by omega, by omega, by rw [← car_en hk (by omega) (by omega)]; exact hr, fun y h0 hy => ?_⟩
    obtain ⟨j, rfl⟩ := Int.eq_ofNat_of_zero_le h0
    have := hq _ (mem_upto (a := 0) (d := 1) (k := i) (i := j) (by omega))
    rw [show (0 : Int) + 1 * (j : Int) = j by omega] at this
    rw [← car_en hk (by omega) (by omega)]; exact this
  · refine .inr ⟨rfl, rfl, fun y h0 hy => ?_⟩
    obtain ⟨j, rfl⟩ := Int.eq_ofNat_of_zero_le h0
    have := hq _ (mem_upto (a := 0) (d := 1) (k := 2002) (i := j) (by omega))
    rw [show (0 : Int) + 1 * (j : Int) = j by omega] at this
    rw [← car_en hk (by omega) (by omega)]; exact this
theorem no_found {k r0 : Int} {y : Nat} {r1 : Bool} (hk : need k = true) (hn : votes y = true) (h : TalF.Found (fun x => car k y x) (upto (y : Int) (-1) (y + 1)) r0 r1) : NoAns k y r0 r1 := by
  have hv := votes_yes hn
  refine .inr ⟨by rw [hk, hn]; rfl, ?_⟩
  rcases h with ⟨rfl, pre, hp, hr, hq⟩ | ⟨rfl, rfl, hq⟩
  · obtain ⟨i, hi, rfl, rfl⟩ := of_pre hp
    refine .inl ⟨rfl, by omega, by omega, by rw [← car_en hk (by omega) (by omega)]; exact hr, fun m h0 hm => ?_⟩
    by_cases hy : (y : Int) < m
    · exact en_above hk (by omega) hy
    · have := hq _ (mem_upto (a := y) (d := -1) (k := i) (i := (y - m).toNat) (by omega))
      rw [show (y : Int) + -1 * ((y - m).toNat : Int) = m by omega] at this
      rw [← car_en hk (by omega) (by omega)]; exact this
  · refine .inr ⟨rfl, rfl, fun m h0 hm => ?_⟩
    by_cases hy : (y : Int) < m
    · exact en_above hk (by omega) hy
    · have := hq _ (mem_upto (a := y) (d := -1) (k := y + 1) (i := (y - m).toNat) (by omega))
      rw [show (y : Int) + -1 * ((y - m).toNat : Int) = m by omega] at this
      rw [← car_en hk (by omega) (by omega)]; exact this
theorem strict_found {t : T} {r0 : Int} {r1 : Bool} (hg : good t = true) (h : TalF.Found (fun x => car x t.yes t.no) (upto 3 (-1) 3) r0 r1) : strict t = r0 := by
  have hv := good_parts hg
  have e3 : car 3 t.yes t.no = en 3 t.yes t.no := car_en rfl (by omega) (by omega)
  have e2 : car 2 t.yes t.no = en 2 t.yes t.no := car_en rfl (by omega) (by omega)
  have e1 : car 1 t.yes t.no = en 1 t.yes t.no := car_en rfl (by omega) (by omega)
  rcases h with ⟨rfl, pre, hp, hr, hq⟩ | ⟨rfl, rfl, hq⟩
  · obtain ⟨i, hi, rfl, rfl⟩ := of_pre hp
    match i, hi with
    | 0, _ =>
      have hr' : car 3 t.yes t.no = true := hr
      unfold strict; rw [if_pos (by rw [← e3]; exact hr')]; rfl
    | 1, _ =>
      have hr' : car 2 t.yes t.no = true := hr
      have h3 : car 3 t.yes t.no = false := hq 3 (mem_upto (a := 3) (d := -1) (k := 1) (i := 0) (by omega))
      unfold strict; rw [if_neg (by rw [← e3, h3]; simp), if_pos (by rw [← e2]; exact hr')]; rfl
    | 2, _ =>
      have hr' : car 1 t.yes t.no = true := hr
      have h3 : car 3 t.yes t.no = false := hq 3 (mem_upto (a := 3) (d := -1) (k := 2) (i := 0) (by omega))
      have h2 : car 2 t.yes t.no = false := hq 2 (mem_upto (a := 3) (d := -1) (k := 2) (i := 1) (by omega))
      unfold strict; rw [if_neg (by rw [← e3, h3]; simp), if_neg (by rw [← e2, h2]; simp), if_pos (by rw [← e1]; exact hr')]; rfl
  · have h3 : car 3 t.yes t.no = false := hq 3 (mem_upto (a := 3) (d := -1) (k := 3) (i := 0) (by omega))
    have h2 : car 2 t.yes t.no = false := hq 2 (mem_upto (a := 3) (d := -1) (k := 3) (i := 1) (by omega))
    have h1 : car 1 t.yes t.no = false := hq 1 (mem_upto (a := 3) (d := -1) (k := 3) (i := 2) (by omega))
    unfold strict; rw [if_neg (by rw [← e3, h3]; simp), if_neg (by rw [← e2, h2]; simp), if_neg (by rw [← e1, h1]; simp)]
end Go.Proofs.Ytankaffhapcnaaa.TalM
