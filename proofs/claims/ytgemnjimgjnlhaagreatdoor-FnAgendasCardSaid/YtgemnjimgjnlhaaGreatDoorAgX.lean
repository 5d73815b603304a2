/- The line of an item, the text of an agenda: the model's and the program's functions. For the program's: the table of powers of ten that strconv reads is as its initialiser lays it. -/
import Derived.Test.YtgemnjimgjnlhaaGreatDoorJ1
import Derived.Test.YtgemnjimgjnlhaaGreatDoorNum
import Derived.Test.YtgemnjimgjnlhaaGreatDoorShelf
import Derived.Deep.RegionHeld3
import Derived.Deep.DeepCutAuto
import Derived.Deep.DrawnRows
namespace Go.Proofs.YtgemnjimgjnlhaaGreatDoor.AgX
open Go.RowKit Bs Word Ag
set_option linter.unusedVariables false
theorem belowDN {B : Nat} {a w : World} (h : Below B a w) (k : Nat) : Below B a (w.drewN k) := h.trans ⟨rfl, rfl, rfl, Nat.le_refl _, fun _ _ => rfl⟩
theorem below_grow (w : World) (k : Nat) (os : Array Obj) : Below w.heap.size w (Sort.grow (w.drewN k) os) :=
  ⟨rfl, rfl, rfl, by show w.heap.size ≤ (w.heap ++ os).size; simp, fun i hi => by show (w.heap ++ os)[i]? = _; rw [Array.getElem?_append_left hi]⟩
def num (n : Int) : ByteArray := ⟨(Lib.itoa n).toArray⟩
theorem num_size (n : Int) (h0 : 0 ≤ n) (h1 : n ≤ 1000) : (num n).size ≤ 21 := by
  have := Lib.itoa_length_le n (by omega) (by omega)
  show (Lib.itoa n).toArray.size ≤ 21
  simpa using this
theorem numC (n : Int) (w : World) (h0 : 0 ≤ n) (h1 : n ≤ 1000) :
    Calls Tryz.prog 98 #[.int .i64 n] w fun e w' => e = .returned (.string (num n)) ∧ Below w.heap.size w w' :=
  (Num.l1Num n w (by omega) (by omega)).mono fun e w' ⟨he, k, hk⟩ => ⟨he, by subst hk; exact belowDN (Below.refl _ _) k⟩
theorem itoaC (n : Int) (w : World) (h0 : 0 ≤ n) (h1 : n ≤ 1000) (vp : Laid.Pow w) :
    Calls Tryz.prog 52 #[.int .i64 n] w fun e w' => e = .returned (.string (num n)) ∧ Below w.heap.size w w' :=
  (Tryz.strconv_Itoa n (by omega) (by omega) w vp).mono fun e w' ⟨he, k, os, hk⟩ => ⟨he, by subst hk; exact below_grow w k os⟩
def two (n : Int) : ByteArray := num (n / 10) ++ num (n % 10)
theorem two_size (n : Int) (h0 : 0 ≤ n) (h1 : n ≤ 1000) : (two n).size ≤ 42 := by
  have a := num_size (n / 10) (by omega) (by omega)
  have b := num_size (n % 10) (by omega) (by omega)
  unfold two
  rw [ByteArray.size_append]; omega
def clock (m : Int) : ByteArray := two (m / 60) ++ ⟨#[58]⟩ ++ two (m % 60)
theorem clock_size (n : Int) (h0 : 0 ≤ n) (h1 : n ≤ 1439) : (clock n).size ≤ 85 := by
  have a := two_size (n / 60) (by omega) (by omega)
  have b := two_size (n % 60) (by omega) (by omega)
  unfold clock
  rw [ByteArray.size_append, ByteArray.size_append, show (⟨#[58]⟩ : ByteArray).size = 1 from rfl]; omega
def front (r : M) : ByteArray := num r.id ++ ⟨#[46, 32]⟩ ++ r.title ++ ⟨#[32, 40]⟩ ++ num r.mins ++ ⟨#[32, 109, 105, 110]⟩
def tailT (ti : Int) : ByteArray := if ti = -1 then ⟨#[]⟩ else ⟨#[44, 32, 110, 111, 116, 32, 98, 101, 102, 111, 114, 101, 32]⟩ ++ clock ti
def lineM (r : M) : ByteArray := front r ++ tailT r.time ++ ⟨#[41]⟩
theorem front_size {r : M} (h : okB r = true) : (front r).size ≤ 60 := by
  obtain ⟨p1, p2, p3, p4⟩ := ok_parts h
  have a := num_size r.id (by omega) (by omega)
  have b := num_size r.mins (by omega) (by omega)
  have c : r.title.size ≤ 10 := by
    unfold isWordB at p2
    simp only [Bool.and_eq_true, decide_eq_true_eq] at p2
    exact p2.1.2
  unfold front
  rw [ByteArray.size_append, ByteArray.size_append, ByteArray.size_append, ByteArray.size_append, ByteArray.size_append, show (⟨#[46, 32]⟩ : ByteArray).size = 2 from rfl, show (⟨#[32, 40]⟩ : ByteArray).size = 2 from rfl, show (⟨#[32, 109, 105, 110]⟩ : ByteArray).size = 4 from rfl]
  omega
theorem tail_size {ti : Int} (h0 : -1 ≤ ti) (h1 : ti ≤ 1439) : (tailT ti).size ≤ 98 := by
  unfold tailT
  split
  · decide
  · have := clock_size ti (by omega) h1
    rw [ByteArray.size_append, show (⟨#[44, 32, 110, 111, 116, 32, 98, 101, 102, 111, 114, 101, 32]⟩ : ByteArray).size = 13 from rfl]; omega
theorem line_size {r : M} (h : okB r = true) : (lineM r).size ≤ 159 := by
  obtain ⟨p1, p2, p3, p4⟩ := ok_parts h
  have a := front_size h
  have b := tail_size p4.1 p4.2
  unfold lineM
  rw [ByteArray.size_append, ByteArray.size_append, show (⟨#[41]⟩ : ByteArray).size = 1 from rfl]; omega
theorem ok_time {r : M} (h : okB r = true) (ht : r.time ≠ -1) : 0 ≤ r.time ∧ r.time ≤ 1439 := by
  obtain ⟨_, _, _, p4⟩ := ok_parts h
  omega
theorem app_nil (s : ByteArray) : s ++ (⟨#[]⟩ : ByteArray) = s := by apply ByteArray.ext; simp
theorem line_no {r : M} (h : r.time = -1) : lineM r = front r ++ ⟨#[41]⟩ := by
  unfold lineM tailT; rw [if_pos h, app_nil]
theorem line_yes {r : M} (h : r.time ≠ -1) : lineM r = front r ++ (⟨#[44, 32, 110, 111, 116, 32, 98, 101, 102, 111, 114, 101, 32]⟩ ++ clock r.time) ++ ⟨#[41]⟩ := by
  unfold lineM tailT; rw [if_neg h]
set_option maxHeartbeats 800000 in
theorem l5Two (n : Int) (w : World) (h0 : 0 ≤ n) (h1 : n ≤ 1000) :
    Calls Tryz.prog 128 #[.int .i64 n] w fun e w' => e = .returned (.string (two n)) ∧ Below w.heap.size w w' := by
  have hq : n.tdiv 10 = n / 10 := Int.tdiv_eq_ediv_of_nonneg (by omega)
  have hr : n.tmod 10 = n % 10 := Int.tmod_eq_emod_of_nonneg (by omega)
  have hw1 : IntKind.i64.wrap (n / 10) = n / 10 := IntWalk.i64_in _ (by omega)
  have hw2 : IntKind.i64.wrap (n % 10) = n % 10 := IntWalk.i64_in _ (by omega)
  have a := num_size (n / 10) (by omega) (by omega)
  have b := num_size (n % 10) (by omega) (by omega)
  have hl : ¬ 9223372036854775807 < (num (n / 10)).size + (num (n % 10)).size := by omega
  have H1 := Lib.hid (fun (W : World) (_ : True) => numC (n / 10) W (by omega) (by omega))
  have H2 := Lib.hid (fun (W : World) (_ : True) => numC (n % 10) W (by omega) (by omega))
  have HT := Lib.hid (show num (n / 10) ++ num (n % 10) = two n from rfl)
  clear a b
  go_enter Tryz.func128, Tryz.ntmps128
  go_wp2_with fail
  refine (H1.out _ trivial).mono ?_
  rintro e w1 ⟨rfl, hb1⟩
  go_wp2_with fail
  refine (H2.out _ trivial).mono ?_
  rintro e w2 ⟨rfl, hb2⟩
  have hb3 := hb1.trans (hb2.mono hb1.size)
  generalize num (n / 10) = A at *
  generalize num (n % 10) = B at *
  go_wp2_with fail
  go_ret
  exact ⟨congrArg (fun b => Ending.returned (.string b)) HT.out, hb3⟩
set_option maxHeartbeats 800000 in
theorem twoDigits (n : Int) (w : World) (h0 : 0 ≤ n) (h1 : n ≤ 1000) (vp : Laid.Pow w) :
    Calls Tryz.prog 127 #[.int .i64 n] w fun e w' => e = .returned (.string (two n)) ∧ Below w.heap.size w w' := by
  have hq : n.tdiv 10 = n / 10 := Int.tdiv_eq_ediv_of_nonneg (by omega)
  have hr : n.tmod 10 = n % 10 := Int.tmod_eq_emod_of_nonneg (by omega)
  have hw1 : IntKind.i64.wrap (n / 10) = n / 10 := IntWalk.i64_in _ (by omega)
  have hw2 : IntKind.i64.wrap (n % 10) = n % 10 := IntWalk.i64_in _ (by omega)
  have a := num_size (n / 10) (by omega) (by omega)
  have b := num_size (n % 10) (by omega) (by omega)
  have hl : ¬ 9223372036854775807 < (num (n / 10)).size + (num (n % 10)).size := by omega
  have H1 := Lib.hid (fun (W : World) (hW : Below w.heap.size w W) => itoaC (n / 10) W (by omega) (by omega) (vp.below hW))
  have H2 := Lib.hid (fun (W : World) (hW : Below w.heap.size w W) => itoaC (n % 10) W (by omega) (by omega) (vp.below hW))
  clear vp
  have HT := Lib.hid (show num (n / 10) ++ num (n % 10) = two n from rfl)
  clear a b
  go_enter Tryz.func127, Tryz.ntmps127
  go_wp2_with fail
  refine (H1.out _ (Below.refl _ _)).mono ?_
  rintro e w1 ⟨rfl, hb1⟩
  go_wp2_with fail
  refine (H2.out _ hb1).mono ?_
  rintro e w2 ⟨rfl, hb2⟩
  have hb3 := hb1.trans (hb2.mono hb1.size)
  generalize num (n / 10) = A at *
  generalize num (n % 10) = B at *
  go_wp2_with fail
  go_ret
  exact ⟨congrArg (fun b => Ending.returned (.string b)) HT.out, hb3⟩
set_option maxHeartbeats 800000 in
theorem clockOf (n : Int) (w : World) (h0 : 0 ≤ n) (h1 : n ≤ 1439) (vp : Laid.Pow w) :
    Calls Tryz.prog 104 #[.int .i64 n] w fun e w' => e = .returned (.string (clock n)) ∧ Below w.heap.size w w' := by
  have hq : n.tdiv 60 = n / 60 := Int.tdiv_eq_ediv_of_nonneg (by omega)
  have hr : n.tmod 60 = n % 60 := Int.tmod_eq_emod_of_nonneg (by omega)
  have hw1 : IntKind.i64.wrap (n / 60) = n / 60 := IntWalk.i64_in _ (by omega)
  have hw2 : IntKind.i64.wrap (n % 60) = n % 60 := IntWalk.i64_in _ (by omega)
  have a := two_size (n / 60) (by omega) (by omega)
  have b := two_size (n % 60) (by omega) (by omega)
  have hl : ¬ 9223372036854775807 < (two (n / 60)).size + 1 + (two (n % 60)).size := by omega
  have hl2 : ¬ 9223372036854775807 < (two (n / 60)).size + 1 := by omega
  have H1 := Lib.hid (fun (W : World) (hW : Below w.heap.size w W) => twoDigits (n / 60) W (by omega) (by omega) (vp.below hW))
  have H2 := Lib.hid (fun (W : World) (hW : Below w.heap.size w W) => twoDigits (n % 60) W (by omega) (by omega) (vp.below hW))
  have HT := Lib.hid (show two (n / 60) ++ ⟨#[58]⟩ ++ two (n % 60) = clock n from rfl)
  clear a b vp
  go_enter Tryz.func104, Tryz.ntmps104
  go_wp2_with fail
  refine (H1.out _ (Below.refl _ _)).mono ?_
  rintro e w1 ⟨rfl, hb1⟩
  generalize two (n / 60) = A at *
  go_wp2_with fail
  refine (H2.out _ hb1).mono ?_
  rintro e w2 ⟨rfl, hb2⟩
  have hb3 := hb1.trans (hb2.mono hb1.size)
  generalize two (n % 60) = B at *
  go_wp2_with fail
  go_ret
  exact ⟨congrArg (fun b => Ending.returned (.string b)) HT.out, hb3⟩
attribute [local go_sem ↓] Go.wp_at_zero Go.wp_at_succ
set_option maxRecDepth 100000 in
set_option maxHeartbeats 4000000 in
theorem l5Line (r : M) (w : World) (hok : okB r = true) :
    Calls Tryz.prog 106 #[.agg #[.int .i64 r.id, .string r.title, .int .i64 r.mins, .int .i64 r.time]] w fun e w' => e = .returned (.string (lineM r)) ∧ Below w.heap.size w w' := by
  obtain ⟨p1, p2, p3, p4⟩ := ok_parts hok
  have hA := num_size r.id (by omega) (by omega)
  have hB := num_size r.mins (by omega) (by omega)
  have hF := front_size hok
  have hNM : r.title.size ≤ 10 := by
    unfold isWordB at p2
    simp only [Bool.and_eq_true, decide_eq_true_eq] at p2
    exact p2.1.2
  have HNO := Lib.hid (fun h => line_no (r := r) h)
  have HYES := Lib.hid (fun h => line_yes (r := r) h)
  have HTM := Lib.hid (fun h => ok_time hok h)

  clear hok p2
  obtain ⟨i, nm, mi, ti⟩ := r
  simp only at p1 p3 p4 hA hB hF hNM HNO HYES HTM ⊢
  obtain ⟨F0, hF0⟩ : ∃ F : ByteArray, F = front ⟨i, nm, mi, ti⟩ := ⟨_, rfl⟩
  have HF0 := Lib.hid (show num i ++ ⟨#[46, 32]⟩ ++ nm ++ ⟨#[32, 40]⟩ ++ num mi ++ ⟨#[32, 109, 105, 110]⟩ = F0 from hF0.symm)
  rw [← hF0] at hF HNO HYES
  clear hF0
  have HX := Lib.hid (LAgendaItem.box w ⟨i, nm, mi, ti⟩ 52)
  have hb := (Below.refl w.heap.size w).alloc (Nat.le_refl _) (Obj.cells #[.int .i64 i, .string nm, .int .i64 mi, .int .i64 ti] 52)
  have hW : w.heap.size < (w.alloc (Obj.cells #[.int .i64 i, .string nm, .int .i64 mi, .int .i64 ti] 52)).heap.size := by simp
  go_enter Tryz.func106, Tryz.ntmps106
  go_wp2_with fail
  generalize (w.alloc (Obj.cells #[.int .i64 i, .string nm, .int .i64 mi, .int .i64 ti] 52)) = W at *
  obtain ⟨x0, x1, x2, x3⟩ := LAgendaItem.cells0 HX.out
  simp only at x0 x1 x2 x3
  have HK := Lib.hid (show ∀ w' : World, Below W.heap.size W w' → Below W.heap.size W w' ∧ w'.cell? ⟨w.heap.size, 0, none⟩ = some (.int .i64 i) ∧ w'.cell? ⟨w.heap.size, 1, none⟩ = some (.string nm) ∧ w'.cell? ⟨w.heap.size, 2, none⟩ = some (.int .i64 mi) ∧ w'.cell? ⟨w.heap.size, 3, none⟩ = some (.int .i64 ti) from fun w' hb => ⟨hb, by rw [hb.cell hW]; exact x0, by rw [hb.cell hW]; exact x1, by rw [hb.cell hW]; exact x2, by rw [hb.cell hW]; exact x3⟩)
  have f1 : ¬ (9223372036854775807 < (num i).size + 2) := by omega
  have f2 : ¬ (9223372036854775807 < (num i).size + 2 + nm.size) := by omega
  have f3 : ¬ (9223372036854775807 < (num i).size + 2 + nm.size + 2) := by omega
  have f4 : ¬ (9223372036854775807 < (num i).size + 2 + nm.size + 2 + (num mi).size) := by omega
  have f5 : ¬ (9223372036854775807 < (num i).size + 2 + nm.size + 2 + (num mi).size + 4) := by omega
  have HCN := Lib.hid (show ∀ (q : Int) (X : World), 0 ≤ q → q ≤ 1000 → Below W.heap.size W X → Calls Tryz.prog 98 #[.int .i64 q] X fun e w' => e = .returned (.string (num q)) ∧ Below X.heap.size X w' from fun q X h0 h1 hX => numC q X h0 h1)
  go_region_held3 (fun w' => Below W.heap.size W w' ∧ w'.cell? ⟨w.heap.size, 0, none⟩ = some (.int .i64 i) ∧ w'.cell? ⟨w.heap.size, 1, none⟩ = some (.string nm) ∧ w'.cell? ⟨w.heap.size, 2, none⟩ = some (.int .i64 mi) ∧ w'.cell? ⟨w.heap.size, 3, none⟩ = some (.int .i64 ti)) ((refine HK.out _ ?_; (repeat (first | assumption | exact Below.refl _ _ | refine Below.drew ?_ | refine belowDN ?_ _ | refine Below.alloc ?_ (by first | (simp; done) | (simp; omega) | omega) _)))) (first | ((go_at_call 98; refine (HCN.out _ _ (by omega) (by omega) (by (repeat (first | assumption | exact Below.refl _ _ | refine Below.drew ?_ | refine belowDN ?_ _ | refine Below.alloc ?_ (by first | (simp; done) | (simp; omega) | omega) _)))).mono ?_; rintro e w1 ⟨rfl, hb1⟩; have hB1 : Below W.heap.size W w1 := Below.trans (by (repeat (first | assumption | exact Below.refl _ _ | refine Below.drew ?_ | refine belowDN ?_ _ | refine Below.alloc ?_ (by first | (simp; done) | (simp; omega) | omega) _))) (hb1.mono (by first | (simp; done) | (simp; omega) | omega)); have hz1 := hB1.size; clear hb1)) | fail)
  all_goals
    have HX1 := Lib.hid (HX.out.below LAgendaItem.rec hB1 hW)
    have hbw := hb.trans (hB1.mono hb.size)
    have hW1 : w.heap.size < w1.heap.size := Nat.lt_of_lt_of_le hW hB1.size
    clear x0 x1 x2 x3 HK f1 f2 f3 f4 f5 HCN
    obtain ⟨x0, x1, x2, x3⟩ := LAgendaItem.cells0 HX1.out
    simp only at x0 x1 x2 x3
    rw [HF0.out]
    clear HF0 hA hB
    by_cases ht : ti = -1
    · have HE := Lib.hid (HNO.out ht)
      have t1 : (ti != -1) = false := by simpa using ht
      clear ht
      go_wp2_with fail
      go_ret
      exact ⟨congrArg (fun b => Ending.returned (.string b)) HE.out.symm, hbw⟩
    · have HE := Lib.hid (HYES.out ht)
      obtain ⟨t2, t3⟩ := HTM.out ht
      have t1 : (ti != -1) = true := by simpa using ht
      clear ht
      have hq : ti.tdiv 60 = ti / 60 := Int.tdiv_eq_ediv_of_nonneg (by omega)
      have hr : ti.tmod 60 = ti % 60 := Int.tmod_eq_emod_of_nonneg (by omega)
      have hw1 : IntKind.i64.wrap (ti / 60) = ti / 60 := IntWalk.i64_in _ (by omega)
      have hw2 : IntKind.i64.wrap (ti % 60) = ti % 60 := IntWalk.i64_in _ (by omega)
      have a := two_size (ti / 60) (by omega) (by omega)
      have b := two_size (ti % 60) (by omega) (by omega)
      have g1 : ¬ (9223372036854775807 < F0.size + 13) := by omega
      have g2 : ¬ (9223372036854775807 < F0.size + 13 + (two (ti / 60)).size) := by omega
      have g3 : ¬ (9223372036854775807 < F0.size + 13 + (two (ti / 60)).size + 1) := by omega
      have g4 : ¬ (9223372036854775807 < F0.size + 13 + (two (ti / 60)).size + 1 + (two (ti % 60)).size) := by omega
      have g5 : ¬ (9223372036854775807 < F0.size + 13 + (two (ti / 60)).size + 1 + (two (ti % 60)).size + 1) := by omega
      have HCK := Lib.hid (show F0 ++ ⟨#[44, 32, 110, 111, 116, 32, 98, 101, 102, 111, 114, 101, 32]⟩ ++ two (ti / 60) ++ ⟨#[58]⟩ ++ two (ti % 60) = F0 ++ (⟨#[44, 32, 110, 111, 116, 32, 98, 101, 102, 111, 114, 101, 32]⟩ ++ clock ti) by unfold clock; simp only [ByteArray.append_assoc])
      have HKV := Lib.hid (show ∀ w' : World, Below w1.heap.size w1 w' → Below w1.heap.size w1 w' ∧ w'.cell? ⟨w.heap.size, 3, none⟩ = some (.int .i64 ti) from fun w' hb => ⟨hb, by rw [hb.cell hW1]; exact x3⟩)
      have HCT := Lib.hid (fun (q : Int) (X : World) (h0 : 0 ≤ q) (h1 : q ≤ 1000) => l5Two q X h0 h1)
      have hW2 := hW1
      generalize hV : w1 = V at *
      go_wp2_with fail
      go_region_held3 (fun w' => Below V.heap.size V w' ∧ w'.cell? ⟨w.heap.size, 3, none⟩ = some (.int .i64 ti)) ((refine HKV.out _ ?_; (repeat (first | assumption | exact Below.refl _ _ | refine Below.drew ?_ | refine belowDN ?_ _ | refine Below.alloc ?_ (by first | (simp; done) | (simp; omega) | omega) _)))) (first | ((go_at_call 128; refine (HCT.out _ _ (by omega) (by omega)).mono ?_; rintro e w2 ⟨rfl, hb2⟩; have hB2 : Below V.heap.size V w2 := Below.trans (by (repeat (first | assumption | exact Below.refl _ _ | refine Below.drew ?_ | refine belowDN ?_ _ | refine Below.alloc ?_ (by first | (simp; done) | (simp; omega) | omega) _))) (hb2.mono (by first | (simp; done) | (simp; omega) | omega)); have hz2 := hB2.size; clear hb2)) | fail)
      all_goals
        have hbz := hbw.trans (hB2.mono hbw.size)
        clear HKV HCT
        rw [HCK.out]
        have g6 : ¬ (9223372036854775807 < (F0 ++ (⟨#[44, 32, 110, 111, 116, 32, 98, 101, 102, 111, 114, 101, 32]⟩ ++ clock ti)).size + 1) := by
          have := clock_size ti (by omega) (by omega)
          rw [ByteArray.size_append, ByteArray.size_append, show (⟨#[44, 32, 110, 111, 116, 32, 98, 101, 102, 111, 114, 101, 32]⟩ : ByteArray).size = 13 from rfl]; omega
        generalize F0 ++ (⟨#[44, 32, 110, 111, 116, 32, 98, 101, 102, 111, 114, 101, 32]⟩ ++ clock ti) = G0 at *
        go_wp2_with fail
        go_ret
        exact ⟨congrArg (fun b => Ending.returned (.string b)) HE.out.symm, hbz⟩
attribute [local go_sem ↓] Go.wp_at_zero Go.wp_at_succ
set_option maxRecDepth 100000 in
set_option maxHeartbeats 4000000 in
theorem itemLine (r : M) (w : World) (hok : okB r = true) (vp : Laid.Pow w) :
    Calls Tryz.prog 69 #[.agg #[.int .i64 r.id, .string r.title, .int .i64 r.mins, .int .i64 r.time]] w fun e w' => e = .returned (.string (lineM r)) ∧ Below w.heap.size w w' := by
  obtain ⟨p1, p2, p3, p4⟩ := ok_parts hok
  have hA := num_size r.id (by omega) (by omega)
  have hB := num_size r.mins (by omega) (by omega)
  have hF := front_size hok
  have hNM : r.title.size ≤ 10 := by
    unfold isWordB at p2
    simp only [Bool.and_eq_true, decide_eq_true_eq] at p2
    exact p2.1.2
  have HNO := Lib.hid (fun h => line_no (r := r) h)
  have HYES := Lib.hid (fun h => line_yes (r := r) h)
  have HTM := Lib.hid (fun h => ok_time hok h)
  have HVP := Lib.hid vp
  clear vp
  clear hok p2
  obtain ⟨i, nm, mi, ti⟩ := r
  simp only at p1 p3 p4 hA hB hF hNM HNO HYES HTM ⊢
  obtain ⟨F0, hF0⟩ : ∃ F : ByteArray, F = front ⟨i, nm, mi, ti⟩ := ⟨_, rfl⟩
  have HF0 := Lib.hid (show num i ++ ⟨#[46, 32]⟩ ++ nm ++ ⟨#[32, 40]⟩ ++ num mi ++ ⟨#[32, 109, 105, 110]⟩ = F0 from hF0.symm)
  rw [← hF0] at hF HNO HYES
  clear hF0
  have HX := Lib.hid (LAgendaItem.box w ⟨i, nm, mi, ti⟩ 52)
  have hb := (Below.refl w.heap.size w).alloc (Nat.le_refl _) (Obj.cells #[.int .i64 i, .string nm, .int .i64 mi, .int .i64 ti] 52)
  have hW : w.heap.size < (w.alloc (Obj.cells #[.int .i64 i, .string nm, .int .i64 mi, .int .i64 ti] 52)).heap.size := by simp
  go_enter Tryz.func69, Tryz.ntmps69
  go_wp2_with fail
  generalize (w.alloc (Obj.cells #[.int .i64 i, .string nm, .int .i64 mi, .int .i64 ti] 52)) = W at *
  obtain ⟨x0, x1, x2, x3⟩ := LAgendaItem.cells0 HX.out
  simp only at x0 x1 x2 x3
  have HK := Lib.hid (show ∀ w' : World, Below W.heap.size W w' → Below W.heap.size W w' ∧ w'.cell? ⟨w.heap.size, 0, none⟩ = some (.int .i64 i) ∧ w'.cell? ⟨w.heap.size, 1, none⟩ = some (.string nm) ∧ w'.cell? ⟨w.heap.size, 2, none⟩ = some (.int .i64 mi) ∧ w'.cell? ⟨w.heap.size, 3, none⟩ = some (.int .i64 ti) from fun w' hb => ⟨hb, by rw [hb.cell hW]; exact x0, by rw [hb.cell hW]; exact x1, by rw [hb.cell hW]; exact x2, by rw [hb.cell hW]; exact x3⟩)
  have f1 : ¬ (9223372036854775807 < (num i).size + 2) := by omega
  have f2 : ¬ (9223372036854775807 < (num i).size + 2 + nm.size) := by omega
  have f3 : ¬ (9223372036854775807 < (num i).size + 2 + nm.size + 2) := by omega
  have f4 : ¬ (9223372036854775807 < (num i).size + 2 + nm.size + 2 + (num mi).size) := by omega
  have f5 : ¬ (9223372036854775807 < (num i).size + 2 + nm.size + 2 + (num mi).size + 4) := by omega
  have HCN := Lib.hid (show ∀ (q : Int) (X : World), 0 ≤ q → q ≤ 1000 → Below W.heap.size W X → Calls Tryz.prog 52 #[.int .i64 q] X fun e w' => e = .returned (.string (num q)) ∧ Below X.heap.size X w' from fun q X h0 h1 hX => itoaC q X h0 h1 (HVP.out.below (hb.trans (hX.mono hb.size))))
  go_region_held3 (fun w' => Below W.heap.size W w' ∧ w'.cell? ⟨w.heap.size, 0, none⟩ = some (.int .i64 i) ∧ w'.cell? ⟨w.heap.size, 1, none⟩ = some (.string nm) ∧ w'.cell? ⟨w.heap.size, 2, none⟩ = some (.int .i64 mi) ∧ w'.cell? ⟨w.heap.size, 3, none⟩ = some (.int .i64 ti)) ((refine HK.out _ ?_; (repeat (first | assumption | exact Below.refl _ _ | refine Below.drew ?_ | refine belowDN ?_ _ | refine Below.alloc ?_ (by first | (simp; done) | (simp; omega) | omega) _)))) (first | ((go_at_call 52; refine (HCN.out _ _ (by omega) (by omega) (by (repeat (first | assumption | exact Below.refl _ _ | refine Below.drew ?_ | refine belowDN ?_ _ | refine Below.alloc ?_ (by first | (simp; done) | (simp; omega) | omega) _)))).mono ?_; rintro e w1 ⟨rfl, hb1⟩; have hB1 : Below W.heap.size W w1 := Below.trans (by (repeat (first | assumption | exact Below.refl _ _ | refine Below.drew ?_ | refine belowDN ?_ _ | refine Below.alloc ?_ (by first | (simp; done) | (simp; omega) | omega) _))) (hb1.mono (by first | (simp; done) | (simp; omega) | omega)); have hz1 := hB1.size; clear hb1)) | fail)
  all_goals
    have HX1 := Lib.hid (HX.out.below LAgendaItem.rec hB1 hW)
    have hbw := hb.trans (hB1.mono hb.size)
    have hW1 : w.heap.size < w1.heap.size := Nat.lt_of_lt_of_le hW hB1.size
    clear x0 x1 x2 x3 HK f1 f2 f3 f4 f5 HCN
    obtain ⟨x0, x1, x2, x3⟩ := LAgendaItem.cells0 HX1.out
    simp only at x0 x1 x2 x3
    rw [HF0.out]
    clear HF0 hA hB
    by_cases ht : ti = -1
    · have HE := Lib.hid (HNO.out ht)
      have t1 : (ti != -1) = false := by simpa using ht
      clear ht
      go_wp2_with fail
      go_ret
      exact ⟨congrArg (fun b => Ending.returned (.string b)) HE.out.symm, hbw⟩
    · have HE := Lib.hid (HYES.out ht)
      obtain ⟨t2, t3⟩ := HTM.out ht
      have t1 : (ti != -1) = true := by simpa using ht
      clear ht
      have hck := clock_size ti (by omega) (by omega)
      have HCT := Lib.hid (clockOf ti w1 (by omega) (by omega) (HVP.out.below hbw))
      have g1 : ¬ (9223372036854775807 < 13 + (clock ti).size) := by omega
      have g2 : ¬ (9223372036854775807 < F0.size + (13 + (clock ti).size)) := by omega
      have g6 : ¬ (9223372036854775807 < (F0 ++ (⟨#[44, 32, 110, 111, 116, 32, 98, 101, 102, 111, 114, 101, 32]⟩ ++ clock ti)).size + 1) := by
        rw [ByteArray.size_append, ByteArray.size_append, show (⟨#[44, 32, 110, 111, 116, 32, 98, 101, 102, 111, 114, 101, 32]⟩ : ByteArray).size = 13 from rfl]; omega
      go_wp2_with fail
      refine HCT.out.mono ?_
      rintro e w2 ⟨rfl, hb2⟩
      have hbz := hbw.trans (hb2.mono hbw.size)
      generalize clock ti = CK at *
      go_wp2_with fail
      go_ret
      exact ⟨congrArg (fun b => Ending.returned (.string b)) HE.out.symm, hbz⟩
end Go.Proofs.YtgemnjimgjnlhaaGreatDoor.AgX
