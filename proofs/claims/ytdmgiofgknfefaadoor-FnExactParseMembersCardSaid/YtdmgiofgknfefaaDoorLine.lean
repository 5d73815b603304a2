/- The line of a rule: the model's function. No condition but that the rule is valid. -/
import Derived.Test.YtdmgiofgknfefaaDoorValid
import Derived.Test.YtdmgiofgknfefaaDoorNum
import Derived.Test.YtdmgiofgknfefaaDoorLRuleZ
import Derived.Deep.RegionHeld3
import Derived.Deep.DeepCutAuto
import Derived.Deep.DrawnRows
namespace Go.Proofs.YtdmgiofgknfefaaDoor.Line
open Go.RowKit Bs
set_option linter.unusedVariables false
theorem belowDN {B : Nat} {a w : World} (h : Below B a w) (k : Nat) : Below B a (w.drewN k) := h.trans ⟨rfl, rfl, rfl, Nat.le_refl _, fun _ _ => rfl⟩
def num (n : Int) : ByteArray := ⟨(Lib.itoa n).toArray⟩
theorem num_size (n : Int) (h0 : 0 ≤ n) (h1 : n ≤ 1000) : (num n).size ≤ 21 := by
  have := Lib.itoa_length_le n (by omega) (by omega)
  show (Lib.itoa n).toArray.size ≤ 21
  simpa using this
theorem numC (n : Int) (w : World) (h0 : 0 ≤ n) (h1 : n ≤ 1000) :
    Calls Tryd.prog 89 #[.int .i64 n] w fun e w' => e = .returned (.string (num n)) ∧ Below w.heap.size w w' :=
  (Num.l1Num n w (by omega) (by omega)).mono fun e w' ⟨he, k, hk⟩ => ⟨he, by subst hk; exact belowDN (Below.refl _ _) k⟩
def addIf (b : Bool) (s t : ByteArray) : ByteArray := match b with
  | true => s ++ t
  | false => s
def front (i : ByteArray) (nm : ByteArray) (rk : ByteArray) : ByteArray := i ++ ⟨#[32]⟩ ++ nm ++ ⟨#[32, 114, 97, 110, 107, 32]⟩ ++ rk
def mid (f : ByteArray) (s d a : Bool) : ByteArray := addIf a (addIf d (addIf s f ⟨#[32, 115, 101, 99, 111, 110, 100]⟩) ⟨#[32, 100, 101, 98, 97, 116, 101]⟩) ⟨#[32, 97, 109, 101, 110, 100]⟩
def lineB (r : LRule.R) : ByteArray := mid (front (num r.id) r.name (num r.rank)) r.sec r.deb r.am ++ ⟨#[32, 98, 121, 32]⟩ ++ Valid.needS r.need
theorem front_size (i nm rk : ByteArray) (h1 : i.size ≤ 21) (h2 : nm.size ≤ 10) (h3 : rk.size ≤ 21) : (front i nm rk).size ≤ 59 := by
  unfold front
  simp only [ByteArray.size_append]
  have a : (ByteArray.mk #[32]).size = 1 := rfl
  have b : (ByteArray.mk #[32, 114, 97, 110, 107, 32]).size = 6 := rfl
  omega
theorem addIf_size (b : Bool) (s t : ByteArray) : (addIf b s t).size ≤ s.size + t.size := by
  cases b <;> simp [addIf, ByteArray.size_append]
theorem word_size {s : ByteArray} (h : Rule.isWordB s = true) : s.size ≤ 10 := by
  unfold Rule.isWordB at h
  simp only [Bool.and_eq_true, decide_eq_true_eq] at h
  exact h.1.2
theorem ok_parts {r : LRule.R} (h : Rule.okB r = true) : 1 ≤ r.id ∧ r.id ≤ 20 ∧ r.name.size ≤ 10 ∧ 0 ≤ r.rank ∧ r.rank ≤ 9 ∧ 1 ≤ r.need ∧ r.need ≤ 3 := by
  have h := of_decide_eq_true h
  exact ⟨h.1.1, h.1.2, word_size h.2.1, h.2.2.1.1, h.2.2.1.2, h.2.2.2.1, h.2.2.2.2⟩
abbrev needCells : Array Value := #[.string ⟨#[]⟩, .string ⟨#[109, 97, 106, 111, 114, 105, 116, 121]⟩, .string ⟨#[116, 119, 111, 45, 116, 104, 105, 114, 100, 115]⟩, .string ⟨#[97, 108, 108]⟩]
theorem needs (w : World) :
    Calls Tryd.prog 93 #[] w fun e w' => e = .returned (.slice (some ⟨w.heap.size, 0, none⟩) 4 4) ∧ w' = w.alloc (.cells needCells 9) := by
  go_enter Tryd.func93, Tryd.ntmps93
  go_wp2_with fail
  go_ret
  exact ⟨rfl, rfl⟩
attribute [local go_sem ↓] Go.wp_at_zero Go.wp_at_succ
set_option maxRecDepth 100000 in
set_option maxHeartbeats 4000000 in
theorem l2Line (r : LRule.R) (w : World) (hok : Rule.okB r = true) :
    Calls Tryd.prog 95 #[.agg #[.int .i64 r.id, .string r.name, .int .i64 r.rank, .bool r.sec, .bool r.deb, .bool r.am, .int .i64 r.need]] w fun e w' => e = .returned (.string (lineB r)) ∧ Below w.heap.size w w' := by
  obtain ⟨h1, h2, h3, h4, h5, h6, h7⟩ := ok_parts hok
  obtain ⟨i, nm, rk, s, d, a, nd⟩ := r
  simp only at h1 h2 h3 h4 h5 h6 h7 ⊢
  have hA := num_size i (by omega) (by omega)
  have hB := num_size rk (by omega) (by omega)
  have hF := front_size (num i) nm (num rk) hA h3 hB
  have HL := Lib.hid (show lineB ⟨i, nm, rk, s, d, a, nd⟩ = addIf a (addIf d (addIf s (front (num i) nm (num rk)) ⟨#[32, 115, 101, 99, 111, 110, 100]⟩) ⟨#[32, 100, 101, 98, 97, 116, 101]⟩) ⟨#[32, 97, 109, 101, 110, 100]⟩ ++ ⟨#[32, 98, 121, 32]⟩ ++ Valid.needS nd from rfl)
  rw [HL.out]
  have HFr := Lib.hid (show num i ++ ⟨#[32]⟩ ++ nm ++ ⟨#[32, 114, 97, 110, 107, 32]⟩ ++ num rk = front (num i) nm (num rk) from rfl)
  generalize front (num i) nm (num rk) = F0 at *
  obtain ⟨F1, hF1⟩ : ∃ X, X = addIf s F0 ⟨#[32, 115, 101, 99, 111, 110, 100]⟩ := ⟨_, rfl⟩
  have zF1 : F1.size ≤ 66 := by have := addIf_size s F0 ⟨#[32, 115, 101, 99, 111, 110, 100]⟩; have e : (⟨#[32, 115, 101, 99, 111, 110, 100]⟩ : ByteArray).size = 7 := rfl; rw [hF1]; omega
  have HF1 := Lib.hid hF1
  rw [← hF1]
  obtain ⟨F2, hF2⟩ : ∃ X, X = addIf d F1 ⟨#[32, 100, 101, 98, 97, 116, 101]⟩ := ⟨_, rfl⟩
  have zF2 : F2.size ≤ 73 := by have := addIf_size d F1 ⟨#[32, 100, 101, 98, 97, 116, 101]⟩; have e : (⟨#[32, 100, 101, 98, 97, 116, 101]⟩ : ByteArray).size = 7 := rfl; rw [hF2]; omega
  have HF2 := Lib.hid hF2
  rw [← hF2]
  obtain ⟨F3, hF3⟩ : ∃ X, X = addIf a F2 ⟨#[32, 97, 109, 101, 110, 100]⟩ := ⟨_, rfl⟩
  have zF3 : F3.size ≤ 79 := by have := addIf_size a F2 ⟨#[32, 97, 109, 101, 110, 100]⟩; have e : (⟨#[32, 97, 109, 101, 110, 100]⟩ : ByteArray).size = 6 := rfl; rw [hF3]; omega
  have HF3 := Lib.hid hF3
  rw [← hF3]
  clear hok HL hF1 hF2 hF3
  go_enter Tryd.func95, Tryd.ntmps95
  go_wp2_with fail
  have HX := Lib.hid (LRule.box w ⟨i, nm, rk, s, d, a, nd⟩ 83)
  obtain ⟨x0, x1, x2, x3, x4, x5, x6⟩ := LRule.cells0 HX.out
  have hb := (Below.refl w.heap.size w).alloc (Nat.le_refl _) (Obj.cells #[.int .i64 i, .string nm, .int .i64 rk, .bool s, .bool d, .bool a, .int .i64 nd] 83)
  have hW : w.heap.size < (w.alloc (Obj.cells #[.int .i64 i, .string nm, .int .i64 rk, .bool s, .bool d, .bool a, .int .i64 nd] 83)).heap.size := by simp
  simp only at x0 x1 x2 x3 x4 x5 x6
  generalize (w.alloc (Obj.cells #[.int .i64 i, .string nm, .int .i64 rk, .bool s, .bool d, .bool a, .int .i64 nd] 83)) = W at *
  have HK := Lib.hid (show ∀ w' : World, Below W.heap.size W w' → Below W.heap.size W w' ∧ w'.cell? ⟨w.heap.size, 0, none⟩ = some (.int .i64 i) ∧ w'.cell? ⟨w.heap.size, 1, none⟩ = some (.string nm) ∧ w'.cell? ⟨w.heap.size, 2, none⟩ = some (.int .i64 rk) from fun w' hb => ⟨hb, by rw [hb.cell hW]; exact x0, by rw [hb.cell hW]; exact x1, by rw [hb.cell hW]; exact x2⟩)
  have f1 : ¬ (9223372036854775807 < (num i).size + 1) := by omega
  have f2 : ¬ (9223372036854775807 < (num i).size + 1 + nm.size) := by omega
  have f3 : ¬ (9223372036854775807 < (num i).size + 1 + nm.size + 6) := by omega
  have f4 : ¬ (9223372036854775807 < (num i).size + 1 + nm.size + 6 + (num rk).size) := by omega
  go_region_held3 (fun w' => Below W.heap.size W w' ∧ w'.cell? ⟨w.heap.size, 0, none⟩ = some (.int .i64 i) ∧ w'.cell? ⟨w.heap.size, 1, none⟩ = some (.string nm) ∧ w'.cell? ⟨w.heap.size, 2, none⟩ = some (.int .i64 rk)) ((refine HK.out _ ?_; (repeat (first | assumption | exact Below.refl _ _ | refine Below.drew ?_ | refine belowDN ?_ _ | refine Below.alloc ?_ (by first | (simp; done) | (simp; omega) | omega) _)))) (first | ((go_at_call 89; refine (numC _ _ (by omega) (by omega)).mono ?_; rintro e w1 ⟨rfl, hb1⟩; have hB1 : Below W.heap.size W w1 := Below.trans (by (repeat (first | assumption | exact Below.refl _ _ | refine Below.drew ?_ | refine belowDN ?_ _ | refine Below.alloc ?_ (by first | (simp; done) | (simp; omega) | omega) _))) (hb1.mono (by first | (simp; done) | (simp; omega) | omega)); have hz1 := hB1.size; clear hb1)) | fail)
  have HX1 := Lib.hid (HX.out.below LRule.rec hB1 hW)
  have hbw := hb.trans (hB1.mono hb.size)
  have hW1 : w.heap.size < w1.heap.size := Nat.lt_of_lt_of_le hW hB1.size
  clear x0 x1 x2 x3 x4 x5 x6 HK f1 f2 f3 f4
  obtain ⟨x0, x1, x2, x3, x4, x5, x6⟩ := LRule.cells0 HX1.out
  simp only at x0 x1 x2 x3 x4 x5 x6
  rw [HFr.out]
  clear HFr
  go_upto_if 17 with fail
  go_cut [3] (fun s3 wx => s3 = .string F1 ∧ w1 = wx)
  case first =>
    cases s
    all_goals (go_wp2_with fail; go_meet; exact ⟨by rw [HF1.out]; rfl, rfl⟩)
  case rest =>
  obtain ⟨rfl, rfl⟩ := hcut
  go_upto_if 21 with fail
  go_cut [3] (fun s3 wx => s3 = .string F2 ∧ w1 = wx)
  case first =>
    cases d
    all_goals (go_wp2_with fail; go_meet; exact ⟨by rw [HF2.out]; rfl, rfl⟩)
  case rest =>
  obtain ⟨rfl, rfl⟩ := hcut
  go_upto_if 25 with fail
  go_cut [3] (fun s3 wx => s3 = .string F3 ∧ w1 = wx)
  case first =>
    cases a
    all_goals (go_wp2_with fail; go_meet; exact ⟨by rw [HF3.out]; rfl, rfl⟩)
  case rest =>
  obtain ⟨rfl, rfl⟩ := hcut
  have HK := Lib.hid (show ∀ w' : World, Below w1.heap.size w1 w' → Below w1.heap.size w1 w' ∧ w'.cell? ⟨w.heap.size, 6, none⟩ = some (.int .i64 nd) from fun w' hb => ⟨hb, by rw [hb.cell hW1]; exact x6⟩)
  have f1 : ¬ (9223372036854775807 < F3.size + 4) := by omega
  have f2 : ¬ (9223372036854775807 < F3.size + 4 + 8) := by omega
  have f3 : ¬ (9223372036854775807 < F3.size + 4 + 10) := by omega
  have f4 : ¬ (9223372036854775807 < F3.size + 4 + 3) := by omega
  have hnd : nd = 1 ∨ nd = 2 ∨ nd = 3 := by omega
  clear x0 x1 x2 x3 x4 x5 HX HX1 HF1 HF2 HF3 zF1 zF2 hA hB hF
  rcases hnd with rfl | rfl | rfl
  · go_wp2_with fail
    go_region_with (go_at_call 93; refine (needs _).mono ?_; rintro e w2 ⟨rfl, rfl⟩)
    all_goals
      have hb2 := hbw.trans (((Below.refl w1.heap.size w1).drew.alloc (Nat.le_refl _) (.cells needCells 9)).mono hbw.size)
      go_wp2_with fail
      go_ret
      exact ⟨rfl, hb2⟩
  · go_wp2_with fail
    go_region_with (go_at_call 93; refine (needs _).mono ?_; rintro e w2 ⟨rfl, rfl⟩)
    all_goals
      have hb2 := hbw.trans (((Below.refl w1.heap.size w1).drew.alloc (Nat.le_refl _) (.cells needCells 9)).mono hbw.size)
      go_wp2_with fail
      go_ret
      exact ⟨rfl, hb2⟩
  · go_wp2_with fail
    go_region_with (go_at_call 93; refine (needs _).mono ?_; rintro e w2 ⟨rfl, rfl⟩)
    all_goals
      have hb2 := hbw.trans (((Below.refl w1.heap.size w1).drew.alloc (Nat.le_refl _) (.cells needCells 9)).mono hbw.size)
      go_wp2_with fail
      go_ret
      exact ⟨rfl, hb2⟩
end Go.Proofs.YtdmgiofgknfefaaDoor.Line
