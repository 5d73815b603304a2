/- When the items of an agenda begin: the model. No condition but that titles are no longer than strings can be. -/
import Derived.Test.YtcjknefpnopkcaaAgG
import Derived.Test.YtcjknefpnopkcaaAgT
import Derived.Test.YtcjknefpnopkcaaLIntK
namespace Go.Proofs.Ytcjknefpnopkcaa.AgS
open Go.RowKit Bs Word Ag AgT
set_option linter.unusedVariables false
theorem l1Most (a b : Int) (w : World) : Calls Try.prog 69 #[.int .i64 a, .int .i64 b] w fun e w' => e = .returned (.int .i64 (max a b)) ∧ w = w' := by
  by_cases h : b < a
  · have HM := Lib.hid (show max a b = a by omega)
    go_enter Try.func69, Try.ntmps69
    go_wp2_with fail
    go_ret
    exact ⟨by rw [HM.out]; rfl, rfl⟩
  · have HM := Lib.hid (show max a b = b by omega)
    go_enter Try.func69, Try.ntmps69
    go_wp2_with fail
    go_ret
    exact ⟨by rw [HM.out]; rfl, rfl⟩
theorem l5Asked (v : Value) (xs : List M) (s : Int) (w : World) (h : Is LAgendaItem.rec w v xs) (hsz : ∀ x ∈ xs, LAgendaItem.Fine x) :
    Calls Try.prog 96 #[v, .int .i64 s] w fun e w' => e = .returned (.bool (askB xs s)) ∧ Below w.heap.size w w' := by
  have HG := Lib.hid (AgG.l5Good v xs w h hsz)
  obtain ⟨a, c, rfl, _⟩ := h
  clear hsz
  cases hg : goodB xs with
  | false =>
    have HA := Lib.hid (show askB xs s = false by unfold askB; rw [hg]; rfl)
    rw [show AgG.Post xs w = fun e w' => e = .returned (.bool false) ∧ Below w.heap.size w w' by unfold AgG.Post; rw [hg]] at HG
    clear hg
    go_enter Try.func96, Try.ntmps96
    go_wp2_with fail
    refine HG.out.mono ?_
    rintro e w1 ⟨rfl, hb1⟩
    go_wp2_with fail
    go_ret
    exact ⟨ret_bool HA.out.symm, hb1⟩
  | true =>
    have HA := Lib.hid (show askB xs s = inB s 0 1439 by unfold askB; rw [hg]; rfl)
    rw [show AgG.Post xs w = fun e w' => e = .returned (.bool true) ∧ Below w.heap.size w w' by unfold AgG.Post; rw [hg]] at HG
    clear hg
    go_enter Try.func96, Try.ntmps96
    go_wp2_with fail
    refine HG.out.mono ?_
    rintro e w1 ⟨rfl, hb1⟩
    go_wp2_with fail
    refine (l5Minute _ _).mono ?_
    rintro e w2 ⟨rfl, rfl⟩
    go_wp2_with fail
    go_ret
    exact ⟨ret_bool HA.out.symm, hb1⟩
def TPost (xs : List M) (s : Int) (w : World) (e : Ending) (w' : World) : Prop := ∃ v, e = .returned (.tuple #[v, .int .i64 (fin s xs)]) ∧ Own LInt.rec 3 w' w.heap.size v (begs s xs) ∧ Below w.heap.size w w'
set_option maxRecDepth 100000 in
set_option maxHeartbeats 1600000 in
theorem l5Times (v : Value) (xs : List M) (s : Int) (w : World) (h : Is LAgendaItem.rec w v xs) (hg : goodB xs = true) (s0 : 0 ≤ s) (s1 : s ≤ 1439) :
    Calls Try.prog 97 #[v, .int .i64 s] w (TPost xs s w) := by
  obtain ⟨a, cp, rfl, h⟩ := h
  have hc := h.at_ LAgendaItem.rec
  obtain ⟨n, hn⟩ : ∃ n, n = xs.length := ⟨_, rfl⟩
  have hnb : n ≤ cp := by have := h.1; omega
  have hn2 := h.2.1
  unfold maxLen at hn2
  have HN := Lib.hid hn.symm
  rw [← hn]
  have hnle : n ≤ xs.length := by omega
  clear hn h
  have HGd := Lib.hid hg
  have h10 : n ≤ 10 := by have := good_len hg; have := HN.out; omega
  clear hg
  obtain ⟨i9, hi, hz0, hz1, hz2⟩ := info_parts LInt.infoK
  have HI9 := Lib.hid hi
  have HZ9 := Lib.hid (And.intro hz0 (And.intro hz1 hz2))
  clear hi hz0 hz1 hz2
  have hb0 := (Below.refl w.heap.size w).alloc (Nat.le_refl _) (Obj.cells #[] 3)
  have HO0 := Lib.hid (Own.start (T := LInt.rec) (E := 3) (w := w) (Nat.le_refl _))
  go_enter Try.func97, Try.ntmps97
  go_wp2_with fail
  go_loopw [6, 7, 8] (fun so sn i wr => ∃ (k : Nat) (o : Value) (zs : List Int) (t : Int), o = so ∧ Value.int .i64 t = sn ∧ k ≤ n ∧ i = .int .i64 k ∧ Hid (zs = begs s (xs.take k)) ∧ Hid (t = fin s (xs.take k)) ∧ zs.length ≤ k ∧ Hid (Own LInt.rec 3 wr w.heap.size o zs) ∧ Below w.heap.size w wr) (fun _ _ i _ => n - (intOf i).toNat)
  case atStart => exact ⟨0, _, [], s, rfl, rfl, Nat.zero_le _, rfl, Lib.hid rfl, Lib.hid rfl, Nat.le_refl _, HO0, hb0⟩
  case round =>
    clear HO0 hb0
    obtain ⟨k, o, zs, t, rfl, rfl, hk, rfl, HZ, HT, hzl, HO, hb⟩ := hrel
    by_cases hlt : k < n
    · have hx : k < xs.length := by omega
      obtain ⟨b, o', rfl, hbl, hcell0⟩ := hc.out k xs[k] (List.getElem?_eq_getElem hx)
      obtain ⟨q0, q1, q2, q3⟩ := LAgendaItem.cells (hcell0.below LAgendaItem.rec hb hbl)
      simp only [LAgendaItem.rec_n] at q0 q1 q2 q3
      have HX := Lib.hid (List.getElem?_eq_getElem hx)
      have HK := Lib.hid (hcell0)
      clear hcell0
      generalize xs[k] = X at *
      obtain ⟨_, _, ⟨m0, m1⟩, ⟨t0, t1⟩⟩ := ok_parts (good_at HGd.out HX.out)
      obtain ⟨f0, f1⟩ := begin_small HGd.out s0 s1 HX.out
      rw [← HT.out] at f0 f1
      obtain ⟨B, hB⟩ : ∃ B, B = max t X.time := ⟨_, rfl⟩
      rw [← hB] at f0 f1
      have HB := Lib.hid hB
      clear hB
      have HZ2 := Lib.hid (show zs ++ [B] = begs s (xs.take (k + 1)) by rw [HB.out, HZ.out, HT.out]; exact (run_next HX.out).symm)
      have HT2 := Lib.hid (show B + X.mins = fin s (xs.take (k + 1)) by rw [HB.out, HT.out]; exact (fin_next HX.out).symm)
      have s2 : IntKind.i64.wrap (B + X.mins) = B + X.mins := IntWalk.i64_in _ (by omega)
      have k0 : 0 ≤ (k : Int) := by omega
      have k1 : (k : Int) < (n : Int) := by omega
      go_wp2_with fail
      refine (l1Most t X.time _).mono ?_
      rintro e _ ⟨rfl, rfl⟩
      rw [← HB.out]
      have hsz := hb.size
      go_wp2_with (at_builtin; refine wpList_append_own _ rfl (.tmp 24) (.tmp 26) 26 rfl w.heap.size 3 i9 (.int .i64 0) 1 8 Try.underlying26 HI9.out HZ9.out.1 HZ9.out.2.1 HZ9.out.2.2 rfl (by decide) _ _ _ rfl (Own.kept HO.out (by (repeat (first | assumption | exact Below.refl _ _ | refine Below.drew ?_ | refine Below.setCell ?_ (by first | (simp; done) | (simp; omega) | omega) _ | refine Below.alloc ?_ (by first | (simp; done) | (simp; omega) | omega) _)))) ⟨_, 0, none⟩ 1 1 [.int .i64 B] rfl rfl ?c1 ?c2 ?c3 ?c4 ?c5 ?c6)
      try (case c1 => first | exact World.news_of_block (heap_alloc_new _ _) | exact World.news_of_block (alloc_two _ _ _))
      case c2 => first | rfl | (intro u hu; simp only [List.mem_cons, List.not_mem_nil, or_false] at hu; subst hu; rfl)
      case c3 => unfold maxLen; omega
      case c4 => omega
      case c5 => first | (simp; done) | (simp; omega) | omega
      case c6 =>
        intro v' w4 hown' hgrow _
        have hb3 : Below w.heap.size w w4 := Below.grown (by (repeat (first | assumption | exact Below.refl _ _ | refine Below.drew ?_ | refine Below.setCell ?_ (by first | (simp; done) | (simp; omega) | omega) _ | refine Below.alloc ?_ (by first | (simp; done) | (simp; omega) | omega) _))) hgrow (by first | (simp; done) | (simp; omega) | omega) (fun j hj => (HO.out.lt j hj).1)
        have HO2 := Lib.hid (show Own LInt.rec 3 w4 w.heap.size v' (zs ++ [B]) from own_of LInt.rec hown' (by simp) (by rw [flat_append]; rfl))
        clear hown' hgrow
        obtain ⟨q0, q1, q2, q3⟩ := LAgendaItem.cells (HK.out.below LAgendaItem.rec hb3 hbl)
        simp only [LAgendaItem.rec_n] at q0 q1 q2 q3
        go_wp2_with fail
        go_roundw
        case rel => exact ⟨k + 1, _, _, _, rfl, rfl, by omega, by go_num, HZ2, HT2, by simp; omega, HO2, hb3⟩
        case measure => simp [intOf]; omega
    · obtain rfl : k = n := by omega
      have HE := Lib.hid (show Own LInt.rec 3 wr w.heap.size o (begs s xs) by have h := HO.out; rw [HZ.out, List.take_of_length_le (by have := HN.out; omega)] at h; exact h)
      have HF := Lib.hid (show t = fin s xs by have h := HT.out; rw [List.take_of_length_le (by have := HN.out; omega)] at h; exact h)
      go_wp2_with fail
      go_ret2
      exact ⟨_, by rw [← HF.out]; rfl, HE.out, hb⟩
end Go.Proofs.Ytcjknefpnopkcaa.AgS
