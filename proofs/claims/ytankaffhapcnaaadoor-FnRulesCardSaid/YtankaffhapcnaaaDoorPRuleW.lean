/- A word behind a rule's rank: the program's withTrait. No condition but that the word is no longer than a string can be. -/
import Derived.Test.YtankaffhapcnaaaDoorJ1
import Derived.Test.YtankaffhapcnaaaDoorBx
import Derived.Deep.DeepCutAuto
import Derived.Deep.DrawnRows
namespace Go.Proofs.YtankaffhapcnaaaDoor.PRuleW
open Go.RowKit Bs PRule
set_option linter.unusedVariables false
def rc (r : LRule.R) : Array Value := #[.int .i64 r.id, .string r.name, .int .i64 r.rank, .bool r.sec, .bool r.deb, .bool r.am, .int .i64 r.need]
def zc : Array Value := #[.int .i64 0, .string ⟨#[]⟩, .int .i64 0, .bool false, .bool false, .bool false, .int .i64 0]
theorem eq_list (a : ByteArray) (l : List UInt8) : (a.toList == l) = decide (a.data.toList = l) := by
  rw [ByteArray.toList_eq]
  by_cases h : a.data.toList = l
  · rw [decide_eq_true h, h]; simp
  · rw [decide_eq_false h]; exact beq_eq_false_iff_ne.2 h
/-- the kinds of need that the loop has tried so far -/
def needAt (l : List UInt8) (n : Int) : Nat → Int
  | 0 => n
  | 1 => if l = wNeed 1 then 1 else n
  | 2 => if l = wNeed 2 then 2 else if l = wNeed 1 then 1 else n
  | _ => needOf l n
def withAt (r : LRule.R) (l : List UInt8) (k : Nat) : LRule.R := { trait r l with need := needAt l (trait r l).need k }
theorem withAt3 (r : LRule.R) (l : List UInt8) : withAt r l 3 = withT r l := rfl
theorem withAt0 (r : LRule.R) (l : List UInt8) : withAt r l 0 = trait r l := rfl
theorem need_yes1 {r : LRule.R} {l : List UInt8} (h : l = wNeed 1) : rc (withAt r l 1) = (rc (withAt r l 0)).setIfInBounds 6 (.int .i64 1) := by
  have e : needAt l (trait r l).need 1 = 1 := by simp only [needAt]; rw [if_pos h]
  unfold rc withAt; simp only [e]; rfl
theorem need_no1 {r : LRule.R} {l : List UInt8} (h : l ≠ wNeed 1) : rc (withAt r l 1) = rc (withAt r l 0) := by
  have e : needAt l (trait r l).need 1 = needAt l (trait r l).need 0 := by simp only [needAt]; rw [if_neg h]
  unfold rc withAt; simp only [e]
theorem need_yes2 {r : LRule.R} {l : List UInt8} (h : l = wNeed 2) : rc (withAt r l 2) = (rc (withAt r l 1)).setIfInBounds 6 (.int .i64 2) := by
  have e : needAt l (trait r l).need 2 = 2 := by simp only [needAt]; rw [if_pos h]
  unfold rc withAt; simp only [e]; rfl
theorem need_no2 {r : LRule.R} {l : List UInt8} (h : l ≠ wNeed 2) : rc (withAt r l 2) = rc (withAt r l 1) := by
  have e : needAt l (trait r l).need 2 = needAt l (trait r l).need 1 := by simp only [needAt]; rw [if_neg h]
  unfold rc withAt; simp only [e]
theorem need_yes3 {r : LRule.R} {l : List UInt8} (h : l = wNeed 3) : rc (withAt r l 3) = (rc (withAt r l 2)).setIfInBounds 6 (.int .i64 3) := by
  have e : needAt l (trait r l).need 3 = 3 := by simp only [needAt, needOf]; rw [if_pos h]
  unfold rc withAt; simp only [e]; rfl
theorem need_no3 {r : LRule.R} {l : List UInt8} (h : l ≠ wNeed 3) : rc (withAt r l 3) = rc (withAt r l 2) := by
  have e : needAt l (trait r l).need 3 = needAt l (trait r l).need 2 := by simp only [needAt, needOf]; rw [if_neg h]
  unfold rc withAt; simp only [e]
theorem trait_sec {r : LRule.R} {l : List UInt8} (h : l = wSec) : rc (trait r l) = (rc r).setIfInBounds 3 (.bool true) := by unfold trait; rw [if_pos h]; rfl
theorem trait_deb {r : LRule.R} {l : List UInt8} (h0 : l ≠ wSec) (h : l = wDeb) : rc (trait r l) = (rc r).setIfInBounds 4 (.bool true) := by unfold trait; rw [if_neg h0, if_pos h]; rfl
theorem trait_am {r : LRule.R} {l : List UInt8} (h0 : l ≠ wSec) (h1 : l ≠ wDeb) (h : l = wAm) : rc (trait r l) = (rc r).setIfInBounds 5 (.bool true) := by unfold trait; rw [if_neg h0, if_neg h1, if_pos h]; rfl
theorem trait_none {r : LRule.R} {l : List UInt8} (h0 : l ≠ wSec) (h1 : l ≠ wDeb) (h : l ≠ wAm) : rc (trait r l) = rc r := by unfold trait; rw [if_neg h0, if_neg h1, if_neg h]
theorem need_w (n : Int) (b : ByteArray) (h : Valid.needS n = b) (w : World) :
    Calls Tryd.prog 22 #[.int .i64 n] w fun e w' => e = .returned (.string b) ∧ w = w' := by
  subst h; exact Valid.needWord n w
def put7 (w : World) (g : Nat) (r : LRule.R) : World :=
  ((((((w.setCell ⟨g, 0, none⟩ (.int .i64 r.id)).setCell ⟨g, 1, none⟩ (.string r.name)).setCell ⟨g, 2, none⟩ (.int .i64 r.rank)).setCell ⟨g, 3, none⟩ (.bool r.sec)).setCell ⟨g, 4, none⟩ (.bool r.deb)).setCell ⟨g, 5, none⟩ (.bool r.am)).setCell ⟨g, 6, none⟩ (.int .i64 r.need)
theorem put7_def (w : World) (g : Nat) (r : LRule.R) : put7 w g r =
  ((((((w.setCell ⟨g, 0, none⟩ (.int .i64 r.id)).setCell ⟨g, 1, none⟩ (.string r.name)).setCell ⟨g, 2, none⟩ (.int .i64 r.rank)).setCell ⟨g, 3, none⟩ (.bool r.sec)).setCell ⟨g, 4, none⟩ (.bool r.deb)).setCell ⟨g, 5, none⟩ (.bool r.am)).setCell ⟨g, 6, none⟩ (.int .i64 r.need) := rfl
theorem put7_bx {w : World} {g : Nat} {t : TypeId} {r0 : LRule.R} (h : Bx w g t (rc r0)) (r : LRule.R) : Bx (put7 w g r) g t (rc r) := by
  have e : ((((((((rc r0).setIfInBounds 0 (.int .i64 r.id)).setIfInBounds 1 (.string r.name)).setIfInBounds 2 (.int .i64 r.rank)).setIfInBounds 3 (.bool r.sec)).setIfInBounds 4 (.bool r.deb)).setIfInBounds 5 (.bool r.am)).setIfInBounds 6 (.int .i64 r.need)) = rc r := by simp [rc]
  rw [← e]
  unfold put7
  have h1 := h.set_ 0 (.int .i64 r.id)
  have h2 := h1.set_ 1 (.string r.name)
  have h3 := h2.set_ 2 (.int .i64 r.rank)
  have h4 := h3.set_ 3 (.bool r.sec)
  have h5 := h4.set_ 4 (.bool r.deb)
  have h6 := h5.set_ 5 (.bool r.am)
  exact h6.set_ 6 (.int .i64 r.need)
theorem put7_far {w : World} {G g : Nat} {t : TypeId} {cs : Array Value} (h : Bx w G t cs) (hne : G ≠ g) (r : LRule.R) : Bx (put7 w g r) G t cs :=
  ((((((h.far hne _).far hne _).far hne _).far hne _).far hne _).far hne _).far hne _
theorem put7_below {B : Nat} {W w : World} {g : Nat} (h : Below B W w) (hg : B ≤ g) (r : LRule.R) : Below B W (put7 w g r) :=
  ((((((h.setCell hg _).setCell hg _).setCell hg _).setCell hg _).setCell hg _).setCell hg _).setCell hg _
def r0 : LRule.R := ⟨0, ⟨#[]⟩, 0, false, false, false, 0⟩
theorem zc_r0 : zc = rc r0 := rfl
theorem put_cells {w : World} {g : Nat} {t : TypeId} {r : LRule.R} (h : Bx w g t (rc r)) : w.cell? ⟨g, 0, none⟩ = some (.int .i64 r.id) ∧ w.cell? ⟨g, 1, none⟩ = some (.string r.name) ∧ w.cell? ⟨g, 2, none⟩ = some (.int .i64 r.rank) ∧ w.cell? ⟨g, 3, none⟩ = some (.bool r.sec) ∧ w.cell? ⟨g, 4, none⟩ = some (.bool r.deb) ∧ w.cell? ⟨g, 5, none⟩ = some (.bool r.am) ∧ w.cell? ⟨g, 6, none⟩ = some (.int .i64 r.need) :=
  ⟨(h.cell 0).trans rfl, (h.cell 1).trans rfl, (h.cell 2).trans rfl, (h.cell 3).trans rfl, (h.cell 4).trans rfl, (h.cell 5).trans rfl, (h.cell 6).trans rfl⟩
def Post (r : LRule.R) (l : List UInt8) (w : World) (e : Ending) (w' : World) : Prop := e = .returned (.agg (rc (withT r l))) ∧ Below w.heap.size w w'
set_option maxRecDepth 100000 in
set_option maxHeartbeats 4000000 in
theorem withTrait (r : LRule.R) (s : ByteArray) (w : World) (hs : s.size ≤ maxLen) :
    Calls Tryd.prog 25 #[.agg (rc r), .string s] w (Post r s.data.toList w) := by
  unfold maxLen at hs
  have hb := ((Below.refl w.heap.size w).alloc (Nat.le_refl _) (.cells (rc r) 25)).alloc (by simp) (.cells zc 25)
  have HB := Lib.hid ((Bx.new w 25 (rc r)).alloc (.cells zc 25))
  have HZ := Lib.hid (Bx.new (w.alloc (.cells (rc r) 25)) 25 zc)
  have hz : (w.alloc (.cells (rc r) 25)).heap.size = w.heap.size + 1 := by simp
  rw [hz] at HZ
  clear hz
  have HE := Lib.hid (eq_list s)
  simp only [rc, zc] at hb HB HZ
  unfold rc
  go_enter Tryd.func25, Tryd.ntmps25
  go_upto_region 1 with fail
  iterate 7 (first | go_values | go_skip | go_guarded | go_step | go_upon | go_back)
  generalize ((w.alloc (Obj.cells #[.int .i64 r.id, .string r.name, .int .i64 r.rank, .bool r.sec, .bool r.deb, .bool r.am, .int .i64 r.need] 25)).alloc (Obj.cells #[.int .i64 0, .string ⟨#[]⟩, .int .i64 0, .bool false, .bool false, .bool false, .int .i64 0] 25)) = W at *
  go_cut [7, 10, 13] (fun _ _ _ wx => Below w.heap.size w wx ∧ Hid (Bx wx w.heap.size 25 (rc (withAt r s.data.toList 0))) ∧ Hid (Bx wx (w.heap.size + 1) 25 zc))
  case first =>
    have p3 := HB.out.cell 3
    have p4 := HB.out.cell 4
    have p5 := HB.out.cell 5
    have hf := HB.out.frozen
    simp only [List.getElem?_toArray, List.getElem?_cons_zero, List.getElem?_cons_succ] at p3 p4 p5
    by_cases e1 : s.data.toList = wSec
    · have q1 : (s.toList == [115, 101, 99, 111, 110, 100]) = true := by rw [HE.out]; exact decide_eq_true e1
      have HT := Lib.hid (trait_sec (r := r) e1)
      clear e1
      go_wp2_with fail
      go_meet
      exact ⟨hb.setCell (Nat.le_refl _) _, Lib.hid (by rw [withAt0, HT.out]; exact HB.out.set_ 3 _), Lib.hid (HZ.out.far (by simp) _)⟩
    have q1 : (s.toList == [115, 101, 99, 111, 110, 100]) = false := by rw [HE.out]; exact decide_eq_false e1
    by_cases e2 : s.data.toList = wDeb
    · have q2 : (s.toList == [100, 101, 98, 97, 116, 101]) = true := by rw [HE.out]; exact decide_eq_true e2
      have HT := Lib.hid (trait_deb (r := r) e1 e2)
      clear e1 e2
      go_wp2_with fail
      go_meet
      exact ⟨hb.setCell (Nat.le_refl _) _, Lib.hid (by rw [withAt0, HT.out]; exact HB.out.set_ 4 _), Lib.hid (HZ.out.far (by simp) _)⟩
    have q2 : (s.toList == [100, 101, 98, 97, 116, 101]) = false := by rw [HE.out]; exact decide_eq_false e2
    by_cases e3 : s.data.toList = wAm
    · have q3 : (s.toList == [97, 109, 101, 110, 100]) = true := by rw [HE.out]; exact decide_eq_true e3
      have HT := Lib.hid (trait_am (r := r) e1 e2 e3)
      clear e1 e2 e3
      go_wp2_with fail
      go_meet
      exact ⟨hb.setCell (Nat.le_refl _) _, Lib.hid (by rw [withAt0, HT.out]; exact HB.out.set_ 5 _), Lib.hid (HZ.out.far (by simp) _)⟩
    have q3 : (s.toList == [97, 109, 101, 110, 100]) = false := by rw [HE.out]; exact decide_eq_false e3
    have HT := Lib.hid (trait_none (r := r) e1 e2 e3)
    clear e1 e2 e3
    go_wp2_with fail
    go_meet
    exact ⟨hb, Lib.hid (by rw [withAt0, HT.out]; exact HB.out), HZ⟩
  case rest =>
  clear hb HB HZ
  obtain ⟨hb, HB, HZ⟩ := hcut
  go_wp2_with fail
  go_loopw [5] (fun i wr => ∃ k : Nat, ((k = 0 ∧ i = .int .i64 1) ∨ (k = 1 ∧ i = .int .i64 2) ∨ (k = 2 ∧ i = .int .i64 3) ∨ (k = 3 ∧ i = .int .i64 4)) ∧ Below w.heap.size w wr ∧ Hid (Bx wr w.heap.size 25 (rc (withAt r s.data.toList k))) ∧ Hid (Bx wr (w.heap.size + 1) 25 zc)) (fun i _ => 4 - (intOf i).toNat)
  case atStart => exact ⟨0, .inl ⟨rfl, rfl⟩, hb, HB, HZ⟩
  case round =>
    clear hb HB HZ
    obtain ⟨k, hk, hb, HB, HZ⟩ := hrel
    have hf := HB.out.frozen
    have p6 := HB.out.cell 6
    simp only [rc, List.getElem?_toArray, List.getElem?_cons_zero, List.getElem?_cons_succ] at p6
    rcases hk with ⟨rfl, rfl⟩ | ⟨rfl, rfl⟩ | ⟨rfl, rfl⟩ | ⟨rfl, rfl⟩
    · by_cases e1 : s.data.toList = wNeed 1
      · have q1 : (s.toList == [109, 97, 106, 111, 114, 105, 116, 121]) = true := by rw [HE.out]; exact decide_eq_true e1
        have HT := Lib.hid (need_yes1 (r := r) e1)
        clear e1
        go_wp2_with fail
        refine (need_w 1 ⟨#[109, 97, 106, 111, 114, 105, 116, 121]⟩ rfl _).mono ?_
        rintro e _ ⟨rfl, rfl⟩
        go_wp2_with fail
        go_round
        case rel => exact ⟨1, .inr (.inl ⟨rfl, by first | rfl | go_num⟩), hb.setCell (Nat.le_refl _) _, Lib.hid (by rw [HT.out]; exact HB.out.set_ 6 _), Lib.hid (HZ.out.far (by simp) _)⟩
        case measure => first | (simp [intOf]; done) | (simp [intOf]; omega) | decide
      · have q1 : (s.toList == [109, 97, 106, 111, 114, 105, 116, 121]) = false := by rw [HE.out]; exact decide_eq_false e1
        have HT := Lib.hid (need_no1 (r := r) e1)
        clear e1
        go_wp2_with fail
        refine (need_w 1 ⟨#[109, 97, 106, 111, 114, 105, 116, 121]⟩ rfl _).mono ?_
        rintro e _ ⟨rfl, rfl⟩
        go_wp2_with fail
        go_round
        case rel => exact ⟨1, .inr (.inl ⟨rfl, by first | rfl | go_num⟩), hb, Lib.hid (by rw [HT.out]; exact HB.out), HZ⟩
        case measure => first | (simp [intOf]; done) | (simp [intOf]; omega) | decide
    · by_cases e1 : s.data.toList = wNeed 2
      · have q1 : (s.toList == [116, 119, 111, 45, 116, 104, 105, 114, 100, 115]) = true := by rw [HE.out]; exact decide_eq_true e1
        have HT := Lib.hid (need_yes2 (r := r) e1)
        clear e1
        go_wp2_with fail
        refine (need_w 2 ⟨#[116, 119, 111, 45, 116, 104, 105, 114, 100, 115]⟩ rfl _).mono ?_
        rintro e _ ⟨rfl, rfl⟩
        go_wp2_with fail
        go_round
        case rel => exact ⟨2, .inr (.inr (.inl ⟨rfl, by first | rfl | go_num⟩)), hb.setCell (Nat.le_refl _) _, Lib.hid (by rw [HT.out]; exact HB.out.set_ 6 _), Lib.hid (HZ.out.far (by simp) _)⟩
        case measure => first | (simp [intOf]; done) | (simp [intOf]; omega) | decide
      · have q1 : (s.toList == [116, 119, 111, 45, 116, 104, 105, 114, 100, 115]) = false := by rw [HE.out]; exact decide_eq_false e1
        have HT := Lib.hid (need_no2 (r := r) e1)
        clear e1
        go_wp2_with fail
        refine (need_w 2 ⟨#[116, 119, 111, 45, 116, 104, 105, 114, 100, 115]⟩ rfl _).mono ?_
        rintro e _ ⟨rfl, rfl⟩
        go_wp2_with fail
        go_round
        case rel => exact ⟨2, .inr (.inr (.inl ⟨rfl, by first | rfl | go_num⟩)), hb, Lib.hid (by rw [HT.out]; exact HB.out), HZ⟩
        case measure => first | (simp [intOf]; done) | (simp [intOf]; omega) | decide
    · by_cases e1 : s.data.toList = wNeed 3
      · have q1 : (s.toList == [97, 108, 108]) = true := by rw [HE.out]; exact decide_eq_true e1
        have HT := Lib.hid (need_yes3 (r := r) e1)
        clear e1
        go_wp2_with fail
        refine (need_w 3 ⟨#[97, 108, 108]⟩ rfl _).mono ?_
        rintro e _ ⟨rfl, rfl⟩
        go_wp2_with fail
        go_round
        case rel => exact ⟨3, .inr (.inr (.inr ⟨rfl, by first | rfl | go_num⟩)), hb.setCell (Nat.le_refl _) _, Lib.hid (by rw [HT.out]; exact HB.out.set_ 6 _), Lib.hid (HZ.out.far (by simp) _)⟩
        case measure => first | (simp [intOf]; done) | (simp [intOf]; omega) | decide
      · have q1 : (s.toList == [97, 108, 108]) = false := by rw [HE.out]; exact decide_eq_false e1
        have HT := Lib.hid (need_no3 (r := r) e1)
        clear e1
        go_wp2_with fail
        refine (need_w 3 ⟨#[97, 108, 108]⟩ rfl _).mono ?_
        rintro e _ ⟨rfl, rfl⟩
        go_wp2_with fail
        go_round
        case rel => exact ⟨3, .inr (.inr (.inr ⟨rfl, by first | rfl | go_num⟩)), hb, Lib.hid (by rw [HT.out]; exact HB.out), HZ⟩
        case measure => first | (simp [intOf]; done) | (simp [intOf]; omega) | decide
    · have p0 := HB.out.cell 0
      have p1 := HB.out.cell 1
      have p2 := HB.out.cell 2
      have p3 := HB.out.cell 3
      have p4 := HB.out.cell 4
      have p5 := HB.out.cell 5
      have z0 := HZ.out.cell 0
      have z1 := HZ.out.cell 1
      have z2 := HZ.out.cell 2
      have z3 := HZ.out.cell 3
      have z4 := HZ.out.cell 4
      have z5 := HZ.out.cell 5
      have z6 := HZ.out.cell 6
      have hg := HZ.out.frozen
      simp only [rc, zc, List.getElem?_toArray, List.getElem?_cons_zero, List.getElem?_cons_succ] at p0 p1 p2 p3 p4 p5 z0 z1 z2 z3 z4 z5 z6
      rw [withAt3] at p0 p1 p2 p3 p4 p5 p6
      obtain ⟨R9, hR⟩ : ∃ R, R = withT r s.data.toList := ⟨_, rfl⟩
      rw [← hR] at p0 p1 p2 p3 p4 p5 p6
      have HR := Lib.hid hR.symm
      clear hR
      go_wp2_with fail
      rw [← put7_def]
      have hbf := put7_below hb (Nat.le_succ _) R9
      have HZ2 : Bx wr (w.heap.size + 1) 25 (rc r0) := zc_r0 ▸ HZ.out
      have HZ3 := put7_bx HZ2 R9
      obtain ⟨y0, y1, y2, y3, y4, y5, y6⟩ := put_cells HZ3
      generalize put7 _ (w.heap.size + 1) R9 = wf at *
      refine bodyPost_ret (v := .agg #[.int .i64 R9.id, .string R9.name, .int .i64 R9.rank, .bool R9.sec, .bool R9.deb, .bool R9.am, .int .i64 R9.need]) (by simp [results, Tryd.results25, go_sem, y0, y1, y2, y3, y4, y5, y6]) rfl ?_
      exact ⟨by rw [HR.out]; rfl, hbf⟩
end Go.Proofs.YtankaffhapcnaaaDoor.PRuleW
