/- The line of a rule: RuleLine of the model and of the program. No condition but that a name is no longer than a string can be. -/
import Derived.Test.YtankaffhapcnaaaDoorJ1
import Derived.Test.YtankaffhapcnaaaDoorShelf
namespace Go.Proofs.YtankaffhapcnaaaDoor.LineI
open Go.RowKit Bs Line
set_option linter.unusedVariables false
theorem impl_as (r : LRule.R) (b : Bool) (h : Rule.okB r = b) (hs : r.name.size ≤ maxLen) (w : World) :
    Calls Tryd.prog 9 #[.agg #[.int .i64 r.id, .string r.name, .int .i64 r.rank, .bool r.sec, .bool r.deb, .bool r.am, .int .i64 r.need]] w fun e w' => e = .returned (.bool b) ∧ Below w.heap.size w w' := by
  subst h; exact Valid.implValid r w hs
theorem single_as (r : LRule.R) (b : Bool) (h : Rule.okB r = b) (hs : r.name.size ≤ maxLen) (w : World) :
    Calls Tryd.prog 26 #[.agg #[.int .i64 r.id, .string r.name, .int .i64 r.rank, .bool r.sec, .bool r.deb, .bool r.am, .int .i64 r.need]] w fun e w' => e = .returned (.bool b) ∧ Below w.heap.size w w' := by
  subst h; exact Valid.l2Single r w hs
theorem need_size (n : Int) : (Valid.needS n).size ≤ 10 := by
  unfold Valid.needS
  split
  · decide
  · split
    · decide
    · split <;> decide
theorem itoaC (n : Int) (w : World) (h0 : 0 ≤ n) (h1 : n ≤ 99) :
    Calls Tryd.prog 21 #[.int .i64 n] w fun e w' => e = .returned (.string (num n)) ∧ Below w.heap.size w w' := by
  obtain ⟨m, rfl⟩ := Int.eq_ofNat_of_zero_le h0
  refine (Tryd.strconv_Itoa_small m (by omega) w).mono fun e w' ⟨he, hw⟩ => ⟨?_, by subst hw; exact Below.refl _ _⟩
  rw [he]
  have : Lib.itoa (m : Int) = Lib.decDigits m := by unfold Lib.itoa; rw [if_neg (by omega)]; rfl
  unfold num
  rw [this]
attribute [local go_sem ↓] Go.wp_at_zero Go.wp_at_succ
set_option maxRecDepth 100000 in
set_option maxHeartbeats 4000000 in
theorem implLine (r : LRule.R) (w : World) (hok : Rule.okB r = true) :
    Calls Tryd.prog 6 #[.agg #[.int .i64 r.id, .string r.name, .int .i64 r.rank, .bool r.sec, .bool r.deb, .bool r.am, .int .i64 r.need]] w fun e w' => e = .returned (.tuple #[.string (lineB r), .bool true]) ∧ Below w.heap.size w w' := by
  obtain ⟨h1, h2, h3, h4, h5, h6, h7⟩ := ok_parts hok
  have HV0 := fun W => impl_as r true hok (by unfold maxLen; omega) W
  obtain ⟨i, nm, rk, s, d, a, nd⟩ := r
  simp only at h1 h2 h3 h4 h5 h6 h7 ⊢
  have hA := num_size i (by omega) (by omega)
  have hB := num_size rk (by omega) (by omega)
  have hF := front_size (num i) nm (num rk) hA h3 hB
  have HL := Lib.hid (show lineB ⟨i, nm, rk, s, d, a, nd⟩ = addIf a (addIf d (addIf s (front (num i) nm (num rk)) ⟨#[32, 115, 101, 99, 111, 110, 100]⟩) ⟨#[32, 100, 101, 98, 97, 116, 101]⟩) ⟨#[32, 97, 109, 101, 110, 100]⟩ ++ ⟨#[32, 98, 121, 32]⟩ ++ Valid.needS nd from rfl)
  rw [HL.out]
  have HFr := Lib.hid (show num i ++ ⟨#[32]⟩ ++ nm ++ ⟨#[32, 114, 97, 110, 107, 32]⟩ ++ num rk = front (num i) nm (num rk) from rfl)
  generalize front (num i) nm (num rk) = F0 at *
  obtain ⟨F1, hF1⟩ : ∃ X, X = addIf s F0 ⟨#[32, 115, 101, 99, 111, 110, 100]⟩ := ⟨_, rfl⟩
  have zF1 : F1.size ≤ 66 := by have := addIf_size s F0 ⟨#[32, 115, 101, 99, 111, 110, 100]⟩; have e : (⟨#[32, 115, 101, 99, 111, 110, 100]⟩ : ByteArray).size = 7 := rfl; rw [hF1]; omega
  have HF1 := Lib.hid hF1
  rw [← hF1]
  obtain ⟨F2, hF2⟩ : ∃ X, X = addIf d F1 ⟨#[32, 100, 101, 98, 97, 116, 101]⟩ := ⟨_, rfl⟩
  have zF2 : F2.size ≤ 73 := by have := addIf_size d F1 ⟨#[32, 100, 101, 98, 97, 116, 101]⟩; have e : (⟨#[32, 100, 101, 98, 97, 116, 101]⟩ : ByteArray).size = 7 := rfl; rw [hF2]; omega
  have HF2 := Lib.hid hF2
  rw [← hF2]
  obtain ⟨F3, hF3⟩ : ∃ X, X = addIf a F2 ⟨#[32, 97, 109, 101, 110, 100]⟩ := ⟨_, rfl⟩
  have zF3 : F3.size ≤ 79 := by have := addIf_size a F2 ⟨#[32, 97, 109, 101, 110, 100]⟩; have e : (⟨#[32, 97, 109, 101, 110, 100]⟩ : ByteArray).size = 6 := rfl; rw [hF3]; omega
  have HF3 := Lib.hid hF3
  rw [← hF3]
  clear hok HL hF1 hF2 hF3
  have HV := Lib.hid (fun W => HV0 W)
  go_enter Tryd.func6, Tryd.ntmps6
  have HX := Lib.hid (LRule.box w ⟨i, nm, rk, s, d, a, nd⟩ 25)
  have hb := (Below.refl w.heap.size w).alloc (Nat.le_refl _) (Obj.cells #[.int .i64 i, .string nm, .int .i64 rk, .bool s, .bool d, .bool a, .int .i64 nd] 25)
  have hW : w.heap.size < (w.alloc (Obj.cells #[.int .i64 i, .string nm, .int .i64 rk, .bool s, .bool d, .bool a, .int .i64 nd] 25)).heap.size := by simp
  go_wp2_with fail
  generalize (w.alloc (Obj.cells #[.int .i64 i, .string nm, .int .i64 rk, .bool s, .bool d, .bool a, .int .i64 nd] 25)) = W at *
  refine (HV.out _).mono ?_
  rintro e w0 ⟨rfl, hb0⟩
  replace HX := Lib.hid (HX.out.below LRule.rec hb0 hW)
  replace hb := hb.trans (hb0.mono hb.size)
  replace hW : w.heap.size < w0.heap.size := Nat.lt_of_lt_of_le hW hb0.size
  clear hb0
  obtain ⟨x0, x1, x2, x3, x4, x5, x6⟩ := LRule.cells0 HX.out
  simp only at x0 x1 x2 x3 x4 x5 x6
  go_wp2_with fail
  generalize w0 = W at *
  have HK := Lib.hid (show ∀ w' : World, Below W.heap.size W w' → Below W.heap.size W w' ∧ w'.cell? ⟨w.heap.size, 0, none⟩ = some (.int .i64 i) ∧ w'.cell? ⟨w.heap.size, 1, none⟩ = some (.string nm) ∧ w'.cell? ⟨w.heap.size, 2, none⟩ = some (.int .i64 rk) from fun w' hb => ⟨hb, by rw [hb.cell hW]; exact x0, by rw [hb.cell hW]; exact x1, by rw [hb.cell hW]; exact x2⟩)
  have f1 : ¬ (9223372036854775807 < (num i).size + 1) := by omega
  have f2 : ¬ (9223372036854775807 < (num i).size + 1 + nm.size) := by omega
  have f3 : ¬ (9223372036854775807 < (num i).size + 1 + nm.size + 6) := by omega
  have f4 : ¬ (9223372036854775807 < (num i).size + 1 + nm.size + 6 + (num rk).size) := by omega
  go_region_held3 (fun w' => Below W.heap.size W w' ∧ w'.cell? ⟨w.heap.size, 0, none⟩ = some (.int .i64 i) ∧ w'.cell? ⟨w.heap.size, 1, none⟩ = some (.string nm) ∧ w'.cell? ⟨w.heap.size, 2, none⟩ = some (.int .i64 rk)) ((refine HK.out _ ?_; (repeat (first | assumption | exact Below.refl _ _ | refine Below.drew ?_ | refine belowDN ?_ _ | refine Below.alloc ?_ (by first | (simp; done) | (simp; omega) | omega) _)))) (first | ((go_at_call 21; refine (itoaC _ _ (by omega) (by omega)).mono ?_; rintro e w1 ⟨rfl, hb1⟩; have hB1 : Below W.heap.size W w1 := Below.trans (by (repeat (first | assumption | exact Below.refl _ _ | refine Below.drew ?_ | refine belowDN ?_ _ | refine Below.alloc ?_ (by first | (simp; done) | (simp; omega) | omega) _))) (hb1.mono (by first | (simp; done) | (simp; omega) | omega)); have hz1 := hB1.size; clear hb1)) | fail)
  have HX1 := Lib.hid (HX.out.below LRule.rec hB1 hW)
  have hbw := hb.trans (hB1.mono hb.size)
  have hW1 : w.heap.size < w1.heap.size := Nat.lt_of_lt_of_le hW hB1.size
  clear x0 x1 x2 x3 x4 x5 x6 HK f1 f2 f3 f4
  obtain ⟨x0, x1, x2, x3, x4, x5, x6⟩ := LRule.cells0 HX1.out
  simp only at x0 x1 x2 x3 x4 x5 x6
  rw [HFr.out]
  clear HFr
  go_upto_if 21 with fail
  go_cut [4] (fun s3 wx => s3 = .string F1 ∧ w1 = wx)
  case first =>
    cases s
    all_goals (go_wp2_with fail; go_meet; exact ⟨by rw [HF1.out]; rfl, rfl⟩)
  case rest =>
  obtain ⟨rfl, rfl⟩ := hcut
  go_upto_if 25 with fail
  go_cut [4] (fun s3 wx => s3 = .string F2 ∧ w1 = wx)
  case first =>
    cases d
    all_goals (go_wp2_with fail; go_meet; exact ⟨by rw [HF2.out]; rfl, rfl⟩)
  case rest =>
  obtain ⟨rfl, rfl⟩ := hcut
  go_upto_if 29 with fail
  go_cut [4] (fun s3 wx => s3 = .string F3 ∧ w1 = wx)
  case first =>
    cases a
    all_goals (go_wp2_with fail; go_meet; exact ⟨by rw [HF3.out]; rfl, rfl⟩)
  case rest =>
  obtain ⟨rfl, rfl⟩ := hcut
  go_wp2_with fail
  refine (Valid.needWord nd _).mono ?_
  rintro e w2 ⟨rfl, rfl⟩
  have hns : (Valid.needS nd).size ≤ 10 := need_size nd
  go_wp2_with fail
  go_ret2
  exact ⟨rfl, hbw⟩
def Ans (a0 : LRule.R) (r0 : ByteArray) (r1 : Bool) : Prop := (Rule.okB a0 = true ∧ r0 = lineB a0 ∧ r1 = true) ∨ (Rule.okB a0 = false ∧ r0 = ⟨#[]⟩ ∧ r1 = false)
theorem same {a0 : LRule.R} {r0 s0 : ByteArray} {r1 s1 : Bool} (h : Ans a0 r0 r1) (h' : Ans a0 s0 s1) : r0 = s0 ∧ r1 = s1 := by
  rcases h with ⟨g, rfl, rfl⟩ | ⟨g, rfl, rfl⟩ <;> rcases h' with ⟨g', rfl, rfl⟩ | ⟨g', rfl, rfl⟩
  · exact ⟨rfl, rfl⟩
  · rw [g] at g'; cases g'
  · rw [g] at g'; cases g'
  · exact ⟨rfl, rfl⟩
def Post (a0 : LRule.R) (w : World) (e : Ending) (w' : World) : Prop := ∃ r0 r1, e = .returned (.tuple #[.string r0, .bool r1]) ∧ Ans a0 r0 r1 ∧ Below w.heap.size w w'
set_option maxHeartbeats 800000 in
theorem spec (a0 : LRule.R) (w : World) (f0 : LRule.Fine a0) :
    Calls Tryd.prog 8 #[.agg #[.int .i64 a0.id, .string a0.name, .int .i64 a0.rank, .bool a0.sec, .bool a0.deb, .bool a0.am, .int .i64 a0.need]] w (Post a0 w) := by
  have hb := (Below.refl w.heap.size w).alloc (Nat.le_refl _) (Obj.cells #[.int .i64 a0.id, .string a0.name, .int .i64 a0.rank, .bool a0.sec, .bool a0.deb, .bool a0.am, .int .i64 a0.need] 25)
  have HX := Lib.hid (LRule.box w a0 25)
  have hW : w.heap.size < (w.alloc (Obj.cells #[.int .i64 a0.id, .string a0.name, .int .i64 a0.rank, .bool a0.sec, .bool a0.deb, .bool a0.am, .int .i64 a0.need] 25)).heap.size := by simp
  have HV := Lib.hid (fun b h W => single_as a0 b h f0 W)
  clear f0
  go_enter Tryd.func8, Tryd.ntmps8
  go_wp2_with fail
  refine (HV.out _ rfl _).mono ?_
  rintro e w1 ⟨rfl, hb1⟩
  have hb2 := hb.trans (hb1.mono hb.size)
  have HX1 := Lib.hid (HX.out.below LRule.rec hb1 hW)
  obtain ⟨x0, x1, x2, x3, x4, x5, x6⟩ := LRule.cells0 HX1.out
  clear hb1
  cases hok : Rule.okB a0 with
  | false =>
    have HA := Lib.hid (show Ans a0 ⟨#[]⟩ false from .inr ⟨hok, rfl, rfl⟩)
    clear hok
    go_wp2_with fail
    go_ret2
    exact ⟨_, _, rfl, HA.out, hb2⟩
  | true =>
    have HA := Lib.hid (show Ans a0 (lineB a0) true from .inl ⟨hok, rfl, rfl⟩)
    have HO := Lib.hid hok
    clear hok
    go_wp2_with fail
    refine (Line.l2Line a0 _ HO.out).mono ?_
    rintro e w2 ⟨rfl, hb3⟩
    have hb4 := hb2.trans (hb3.mono hb2.size)
    clear hb3
    go_wp2_with fail
    go_ret2
    exact ⟨_, _, rfl, HA.out, hb4⟩
set_option maxHeartbeats 800000 in
theorem impl (a0 : LRule.R) (w : World) (f0 : LRule.Fine a0) :
    Calls Tryd.prog 6 #[.agg #[.int .i64 a0.id, .string a0.name, .int .i64 a0.rank, .bool a0.sec, .bool a0.deb, .bool a0.am, .int .i64 a0.need]] w (Post a0 w) := by
  cases hok : Rule.okB a0 with
  | true => exact (implLine a0 w hok).mono fun e w' ⟨he, hb⟩ => ⟨_, _, he, .inl ⟨hok, rfl, rfl⟩, hb⟩
  | false =>
    have HA := Lib.hid (show Ans a0 ⟨#[]⟩ false from .inr ⟨hok, rfl, rfl⟩)
    have HV := Lib.hid (fun W => impl_as a0 false hok f0 W)
    have hb := (Below.refl w.heap.size w).alloc (Nat.le_refl _) (Obj.cells #[.int .i64 a0.id, .string a0.name, .int .i64 a0.rank, .bool a0.sec, .bool a0.deb, .bool a0.am, .int .i64 a0.need] 25)
    clear f0 hok
    go_enter Tryd.func6, Tryd.ntmps6
    go_wp2_with fail
    refine (HV.out _).mono ?_
    rintro e w1 ⟨rfl, hb1⟩
    have hb2 := hb.trans (hb1.mono hb.size)
    clear hb1
    go_wp2_with fail
    go_ret2
    exact ⟨_, _, rfl, HA.out, hb2⟩
end Go.Proofs.YtankaffhapcnaaaDoor.LineI
