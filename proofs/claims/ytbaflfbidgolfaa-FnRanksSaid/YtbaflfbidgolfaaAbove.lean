/- The rules above a rank: the model's and the program's function. No condition but that names are no longer than strings can be. -/
import Derived.Test.YtbaflfbidgolfaaGoodI
import Derived.Test.YtbaflfbidgolfaaInts
import Derived.Test.YtbaflfbidgolfaaHelpS
namespace Go.Proofs.Ytbaflfbidgolfaa.Above
open Go.RowKit Rule Ints
set_option linter.unusedVariables false
set_option maxRecDepth 100000

/-- the ids of those of the first j rules that have a rank -/
def sel (xs : List R) (at_ : Int) (j : Nat) : List Int := ((xs.take j).filter fun r => r.rank == at_).map R.id
/-- the ids of the rules of the d greatest ranks, from 9 down -/
def abv (xs : List R) : Nat → List Int
  | 0 => []
  | d + 1 => abv xs d ++ sel xs (9 - d) xs.length
theorem sel_zero (xs : List R) (a : Int) : sel xs a 0 = [] := by simp [sel]
theorem sel_hit {xs : List R} {a : Int} {j : Nat} {X : R} (hx : xs[j]? = some X) (h : X.rank = a) : sel xs a (j + 1) = sel xs a j ++ [X.id] := by
  unfold sel
  rw [List.take_add_one, hx]
  simp [List.filter_append, h]
theorem sel_miss {xs : List R} {a : Int} {j : Nat} {X : R} (hx : xs[j]? = some X) (h : X.rank ≠ a) : sel xs a (j + 1) = sel xs a j := by
  unfold sel
  rw [List.take_add_one, hx]
  simp [List.filter_append, h]
theorem sel_len (xs : List R) (a : Int) (j : Nat) : (sel xs a j).length ≤ j := by
  unfold sel
  rw [List.length_map]
  exact Nat.le_trans (List.length_filter_le _ _) (List.length_take_le _ _)
theorem abv_len (xs : List R) (h : xs.length ≤ 8) : ∀ d, (abv xs d).length ≤ d * 8
  | 0 => by simp [abv]
  | d + 1 => by
    have h1 := abv_len xs h d
    have h2 := sel_len xs (9 - d) xs.length
    rw [abv, List.length_append]
    omega
inductive Ans (xs : List R) (rank : Int) : List Int → Bool → Prop
  | no (h : ¬ (Gd.goodB xs = true ∧ -1 ≤ rank ∧ rank ≤ 9)) : Ans xs rank [] false
  | yes (h : Gd.goodB xs = true) (h1 : -1 ≤ rank) (h2 : rank ≤ 9) : Ans xs rank (abv xs (9 - rank).toNat) true
theorem Ans.same {xs : List R} {rank : Int} {a a' : List Int} {b b' : Bool} (h : Ans xs rank a b) (h' : Ans xs rank a' b') : a = a' ∧ b = b' := by
  cases h with
  | no h =>
    cases h' with
    | no _ => exact ⟨rfl, rfl⟩
    | yes g g1 g2 => exact absurd ⟨g, g1, g2⟩ h
  | yes g g1 g2 =>
    cases h' with
    | no h => exact absurd ⟨g, g1, g2⟩ h
    | yes _ _ _ => exact ⟨rfl, rfl⟩
theorem Ans.len {xs : List R} {rank : Int} {a : List Int} {b : Bool} (h : Ans xs rank a b) : a.length ≤ 80 := by
  cases h with
  | no _ => simp
  | yes g g1 g2 =>
    have := abv_len xs (Gd.good_of g).1 (9 - rank).toNat
    omega
def Post (xs : List R) (rank : Int) (w : World) (e : Ending) (w' : World) : Prop := ∃ v zs b, e = .returned (.tuple #[v, .bool b]) ∧ Ans xs rank zs b ∧ OwnI w' w.heap.size v zs ∧ Below w.heap.size w w'
theorem own_next {w : World} {base : Nat} {v : Value} {zs : List Int} {z : Int} (h : w.ownsRow base 3 1 v (zs.length + 1) (ints zs ++ [.int .i64 z])) : OwnI w base v (zs ++ [z]) := by
  unfold OwnI
  rw [List.length_append, ints_append]
  exact h
theorem start_at {w : World} {B : Nat} (h : B ≤ w.heap.size) : OwnI (w.alloc (.cells #[] 3)) B (.slice (some ⟨w.heap.size, 0, none⟩) 0 0) [] := by
  refine ⟨rfl, .inr ⟨w.heap.size, 0, #[], rfl, h, ?_, Nat.le_refl _, Nat.zero_le _, rfl, rfl⟩⟩
  show (w.heap.push _)[w.heap.size]? = _
  rw [Array.getElem?_push, if_pos rfl]

set_option maxHeartbeats 1600000 in
theorem spec (a : Option Addr) (n cp : Nat) (xs : List R) (rank : Int) (w : World) (hn : xs.length = n) (h : RulesAt w a cp xs) (hsz : ∀ x ∈ xs, x.name.size ≤ maxLen) :
    Calls Try.prog 72 #[.slice a n cp, .int .i64 rank] w (Post xs rank w) := by
  have hc := h.at_
  have HN := Lib.hid hn
  have HS := Lib.hid hsz
  have HA := Lib.hid h
  have hnb : n ≤ cp := by have := h.1; omega
  have hle : n ≤ xs.length := by omega
  have h2 := h.2.1
  unfold maxLen at h2
  obtain ⟨i0, hi, hz0, hz1, hz2⟩ := info_parts infoInt
  have HI := Lib.hid hi
  have HZ := Lib.hid (And.intro hz0 (And.intro hz1 hz2))
  clear h hsz hn hi hz0 hz1 hz2
  have hba := (Below.refl w.heap.size w).alloc (Nat.le_refl _) (Obj.cells #[] 3)
  have HC := Lib.hid (Gd.l2Good a n cp xs _ HN.out (HA.out.below hba) HS.out)
  cases hg : Gd.goodB xs with
  | false =>
    have HG := Lib.hid hg
    have HA2 := Lib.hid (Ans.no (xs := xs) (rank := rank) (fun hh => by rw [hg] at hh; cases hh.1))
    clear hg
    go_enter Try.func72, Try.ntmps72
    go_wp2_with fail
    refine HC.out.mono ?_
    rintro e w1 ⟨rfl, hb1⟩
    rw [HG.out]
    have hb := hba.trans (hb1.mono (by simp))
    have HO := Lib.hid ((Ints.start w).kept hb1)
    clear hb1
    go_wp2_with fail
    go_ret2
    exact ⟨_, [], false, rfl, HA2.out, HO.out, hb⟩
  | true =>
    have HG := Lib.hid hg
    have hn8 : n ≤ 8 := by have := (Gd.good_of hg).1; have := HN.out; omega
    clear hg
    by_cases hr : -1 ≤ rank ∧ rank ≤ 9
    · obtain ⟨hr1, hr2⟩ := hr
      go_enter Try.func72, Try.ntmps72
      go_wp2_with fail
      refine HC.out.mono ?_
      rintro e w1 ⟨rfl, hb1⟩
      rw [HG.out]
      have hb := hba.trans (hb1.mono (by simp))
      have HO := Lib.hid ((Ints.start w).kept hb1)
      clear hb1 hba HC
      go_wp2_with fail
      refine (Valid.in_yes _ _ _ _ hr1 hr2).mono ?_
      rintro e w' ⟨rfl, rfl⟩
      go_wp2_with fail
      go_loopw [6, 7] (fun v i wr => ∃ (d : Nat) (zs : List Int), (d : Int) ≤ 9 - rank ∧ i = .int .i64 (9 - (d : Int)) ∧ Hid (zs = abv xs d) ∧ Hid (OwnI wr w.heap.size v zs) ∧ zs.length ≤ d * 8 ∧ Below w.heap.size w wr) (fun _ i _ => (intOf i + 1).toNat)
      case atStart => exact ⟨0, [], by omega, by simp, Lib.hid rfl, HO, by simp, hb⟩
      case round =>
        clear hb HO
        obtain ⟨d, zs, hd, rfl, HD, HO, hzl, hb⟩ := hrel
        have hbs := hb.size
        by_cases hdr : (d : Int) < 9 - rank
        · have hdd : decide (rank < 9 - (d : Int)) = true := decide_eq_true (by omega)
          go_wp2_with fail
          go_loopw [6, 8] (fun v i wr => ∃ (j : Nat) (zs : List Int), j ≤ n ∧ i = .int .i64 j ∧ Hid (zs = abv xs d ++ sel xs (9 - (d : Int)) j) ∧ Hid (OwnI wr w.heap.size v zs) ∧ zs.length ≤ d * 8 + j ∧ Below w.heap.size w wr) (fun _ i _ => n - (intOf i).toNat)
          case atStart => exact ⟨0, zs, Nat.zero_le _, rfl, Lib.hid (by rw [sel_zero, HD.out]; simp), HO, by omega, hb⟩
          case round =>
            clear hb HO hzl HD
            obtain ⟨j, zs, hj, rfl, HD, HO, hzl, hb⟩ := hrel
            have hbs := hb.size
            by_cases hjn : j < n
            · have hx : j < xs.length := by omega
              obtain ⟨b, o, rfl, hbl, hcell0⟩ := hc.out j xs[j] (List.getElem?_eq_getElem hx)
              have HX := Lib.hid (List.getElem?_eq_getElem hx)
              obtain ⟨x0, x1, x2, x3, x4, x5, x6⟩ := hcell0.below hb hbl
              have k0 : 0 ≤ (j : Int) := by omega
              have k1 : (j : Int) < (n : Int) := by omega
              clear hcell0
              generalize xs[j] = X at *
              by_cases hrk : X.rank = 9 - (d : Int)
              · have HSel := Lib.hid (sel_hit (a := 9 - (d : Int)) HX.out hrk)
                have hbe : (X.rank == 9 - (d : Int)) = true := by rw [hrk]; simp
                clear hrk
                go_wp2_with (at_builtin; refine wpList_append_own _ rfl (.tmp 37) (.tmp 43) 34 rfl w.heap.size 3 i0 (.int .i64 0) 1 8 Try.underlying34 HI.out HZ.out.1 HZ.out.2.1 HZ.out.2.2 rfl (by decide) _ _ _ rfl ((HO.out).alloc _) ⟨_, 0, none⟩ 1 1 [.int .i64 X.id] rfl rfl ?c1 ?c2 ?c3 ?c4 ?c5 ?c6)
                case c1 => exact cell_one_new _ _ 3
                case c2 => intro u hu; simp only [List.mem_singleton] at hu; subst hu; rfl
                case c3 => unfold maxLen; omega
                case c4 => omega
                case c5 => simp; omega
                case c6 =>
                  intro v' w1 hown' hgrow _
                  have hb1 := ((hb.alloc hb.size _).grown hgrow (by simp; omega) (fun j hj => HO.out.lt j hj |>.1))
                  have HO2 := Lib.hid (own_next hown')
                  clear hown' hgrow
                  go_wp2_with fail
                  go_roundw
                  case rel =>
                    have HD2 := Lib.hid (show zs ++ [X.id] = abv xs d ++ sel xs (9 - (d : Int)) (j + 1) by rw [HSel.out, HD.out, List.append_assoc])
                    first
                      | exact ⟨j + 1, zs ++ [X.id], by omega, by go_num, HD2, HO2, by simp; omega, hb1⟩
                      | ((repeat apply Exists.intro); exact ⟨⟨j + 1, zs ++ [X.id], by omega, by go_num, HD2, HO2, by simp; omega, hb1⟩, rfl⟩)
                  case measure => simp [intOf]; omega
              · have HSel := Lib.hid (sel_miss (a := 9 - (d : Int)) HX.out hrk)
                have hbe : (X.rank == 9 - (d : Int)) = false := by simp; omega
                have HO2 := Lib.hid (HO.out)
                have hb1 := hb
                clear hrk
                go_wp2_with fail
                go_roundw
                case rel =>
                  have HD2 := Lib.hid (show zs = abv xs d ++ sel xs (9 - (d : Int)) (j + 1) by rw [HSel.out, HD.out])
                  first
                    | exact ⟨j + 1, zs, by omega, by go_num, HD2, HO2, by omega, hb1⟩
                    | ((repeat apply Exists.intro); exact ⟨⟨j + 1, zs, by omega, by go_num, HD2, HO2, by omega, hb1⟩, rfl⟩)
                case measure => simp [intOf]; omega
            · have HD2 := Lib.hid (show zs = abv xs (d + 1) by rw [HD.out, abv, show j = xs.length by have := HN.out; omega])
              go_wp2_with fail
              go_roundw
              case rel =>
                first
                  | exact ⟨d + 1, zs, by omega, by go_num, HD2, HO, by omega, hb⟩
                  | ((repeat apply Exists.intro); exact ⟨⟨d + 1, zs, by omega, by go_num, HD2, HO, by omega, hb⟩, rfl⟩)
              case measure => simp [intOf]; omega
        · have HA2 := Lib.hid (Ans.yes HG.out hr1 hr2)
          have HE := Lib.hid (show zs = abv xs (9 - rank).toNat by rw [HD.out, show d = (9 - rank).toNat by omega])
          go_wp2_with fail
          go_ret2
          exact ⟨_, zs, true, rfl, by rw [HE.out]; exact HA2.out, HO.out, hb⟩
    · have HA2 := Lib.hid (Ans.no (xs := xs) (rank := rank) (fun hh => hr hh.2))
      have HR := Lib.hid hr
      clear hr
      go_enter Try.func72, Try.ntmps72
      go_wp2_with fail
      refine HC.out.mono ?_
      rintro e w1 ⟨rfl, hb1⟩
      rw [HG.out]
      have hb := hba.trans (hb1.mono (by simp))
      have HO := Lib.hid ((Ints.start w).kept hb1)
      clear hb1
      go_wp2_with fail
      refine (Valid.in_no _ _ _ _ HR.out).mono ?_
      rintro e w' ⟨rfl, rfl⟩
      go_wp2_with fail
      go_ret2
      exact ⟨_, [], false, rfl, HA2.out, HO.out, hb⟩

set_option maxHeartbeats 1600000 in
theorem impl (a : Option Addr) (n cp : Nat) (xs : List R) (rank : Int) (w : World) (hn : xs.length = n) (h : RulesAt w a cp xs) (hsz : ∀ x ∈ xs, x.name.size ≤ maxLen) :
    Calls Try.prog 71 #[.slice a n cp, .int .i64 rank] w (Post xs rank w) := by
  have hc := h.at_
  have HN := Lib.hid hn
  have HS := Lib.hid hsz
  have HA := Lib.hid h
  have hnb : n ≤ cp := by have := h.1; omega
  have hle : n ≤ xs.length := by omega
  have h2 := h.2.1
  unfold maxLen at h2
  obtain ⟨i0, hi, hz0, hz1, hz2⟩ := info_parts infoInt
  have HI := Lib.hid hi
  have HZ := Lib.hid (And.intro hz0 (And.intro hz1 hz2))
  clear h hsz hn hi hz0 hz1 hz2
  have HC := Lib.hid (GoodI.isValidRules a n cp xs _ HN.out HA.out HS.out)
  by_cases hok : Gd.goodB xs = true ∧ -1 ≤ rank ∧ rank ≤ 9
  · obtain ⟨hg, hr1, hr2⟩ := hok
    have HG := Lib.hid hg
    have hn8 : n ≤ 8 := by have := (Gd.good_of hg).1; have := HN.out; omega
    clear hg
    have hd1 : decide (rank < -1) = false := decide_eq_false (by omega)
    have hd2 : decide (9 < rank) = false := decide_eq_false (by omega)
    go_enter Try.func71, Try.ntmps71
    go_wp2_with fail
    refine HC.out.mono ?_
    rintro e w1 ⟨rfl, hb1⟩
    rw [HG.out]
    have hb := hb1.alloc hb1.size (Obj.cells #[] 3)
    have HO := Lib.hid (show OwnI (w1.alloc (.cells #[] 3)) w.heap.size (.slice (some ⟨w1.heap.size, 0, none⟩) 0 0) [] from start_at hb1.size)
    clear hb1 HC
    go_wp2_with fail
    go_loopw [6, 7] (fun v i wr => ∃ (d : Nat) (zs : List Int), (d : Int) ≤ 9 - rank ∧ i = .int .i64 (9 - (d : Int)) ∧ Hid (zs = abv xs d) ∧ Hid (OwnI wr w.heap.size v zs) ∧ zs.length ≤ d * 8 ∧ Below w.heap.size w wr) (fun _ i _ => (intOf i + 1).toNat)
    case atStart => exact ⟨0, [], by omega, by simp, Lib.hid rfl, HO, by simp, hb⟩
    case round =>
      clear hb HO
      obtain ⟨d, zs, hd, rfl, HD, HO, hzl, hb⟩ := hrel
      have hbs := hb.size
      by_cases hdr : (d : Int) < 9 - rank
      · have hdd : decide (rank < 9 - (d : Int)) = true := decide_eq_true (by omega)
        go_wp2_with fail
        go_loopw [6, 30] (fun v i wr => ∃ (j : Nat) (zs : List Int), j ≤ n ∧ i = .int .i64 j ∧ Hid (zs = abv xs d ++ sel xs (9 - (d : Int)) j) ∧ Hid (OwnI wr w.heap.size v zs) ∧ zs.length ≤ d * 8 + j ∧ Below w.heap.size w wr) (fun _ i _ => n - (intOf i).toNat)
        case atStart => exact ⟨0, zs, Nat.zero_le _, rfl, Lib.hid (by rw [sel_zero, HD.out]; simp), HO, by omega, hb⟩
        case round =>
          clear hb HO hzl HD
          obtain ⟨j, zs, hj, rfl, HD, HO, hzl, hb⟩ := hrel
          have hbs := hb.size
          by_cases hjn : j < n
          · have hx : j < xs.length := by omega
            obtain ⟨b, o, rfl, hbl, hcell0⟩ := hc.out j xs[j] (List.getElem?_eq_getElem hx)
            have HX := Lib.hid (List.getElem?_eq_getElem hx)
            obtain ⟨x0, x1, x2, x3, x4, x5, x6⟩ := hcell0.below hb hbl
            have k0 : 0 ≤ (j : Int) := by omega
            have k1 : (j : Int) < (n : Int) := by omega
            clear hcell0
            generalize xs[j] = X at *
            by_cases hrk : X.rank = 9 - (d : Int)
            · have HSel := Lib.hid (sel_hit (a := 9 - (d : Int)) HX.out hrk)
              have hbe : (X.rank == 9 - (d : Int)) = true := by rw [hrk]; simp
              clear hrk
              go_wp2_with (at_builtin; refine wpList_append_own _ rfl (.tmp 38) (.tmp 41) 34 rfl w.heap.size 3 i0 (.int .i64 0) 1 8 Try.underlying34 HI.out HZ.out.1 HZ.out.2.1 HZ.out.2.2 rfl (by decide) _ _ _ rfl (((HO.out).alloc _).alloc _) ⟨_, 0, none⟩ 1 1 [.int .i64 X.id] rfl rfl ?c1 ?c2 ?c3 ?c4 ?c5 ?c6)
              case c1 => rw [show wr.heap.size + 1 = (wr.alloc (Obj.cells #[.int .i64 X.id, .string X.name, .int .i64 X.rank, .bool X.sec, .bool X.deb, .bool X.am, .int .i64 X.need] 63)).heap.size by simp]; exact cell_one_new _ _ 3
              case c2 => intro u hu; simp only [List.mem_singleton] at hu; subst hu; rfl
              case c3 => unfold maxLen; omega
              case c4 => omega
              case c5 => simp; omega
              case c6 =>
                intro v' w1 hown' hgrow _
                have hb1 := (((hb.alloc hb.size (Obj.cells #[.int .i64 X.id, .string X.name, .int .i64 X.rank, .bool X.sec, .bool X.deb, .bool X.am, .int .i64 X.need] 63)).alloc (by simp; omega) _).grown hgrow (by simp; omega) (fun j hj => HO.out.lt j hj |>.1))
                have HO2 := Lib.hid (own_next hown')
                clear hown' hgrow
                go_wp2_with fail
                go_roundw
                case rel =>
                  have HD2 := Lib.hid (show zs ++ [X.id] = abv xs d ++ sel xs (9 - (d : Int)) (j + 1) by rw [HSel.out, HD.out, List.append_assoc])
                  first
                    | exact ⟨j + 1, zs ++ [X.id], by omega, by go_num, HD2, HO2, by simp; omega, hb1⟩
                    | ((repeat apply Exists.intro); exact ⟨⟨j + 1, zs ++ [X.id], by omega, by go_num, HD2, HO2, by simp; omega, hb1⟩, rfl⟩)
                case measure => simp [intOf]; omega
            · have HSel := Lib.hid (sel_miss (a := 9 - (d : Int)) HX.out hrk)
              have hbe : (X.rank == 9 - (d : Int)) = false := by simp; omega
              have HO2 := Lib.hid (HO.out.kept ((Below.refl _ _).alloc (Nat.le_refl _) (Obj.cells #[.int .i64 X.id, .string X.name, .int .i64 X.rank, .bool X.sec, .bool X.deb, .bool X.am, .int .i64 X.need] 63)))
              have hb1 := hb.alloc hb.size (Obj.cells #[.int .i64 X.id, .string X.name, .int .i64 X.rank, .bool X.sec, .bool X.deb, .bool X.am, .int .i64 X.need] 63)
              clear hrk
              go_wp2_with fail
              go_roundw
              case rel =>
                have HD2 := Lib.hid (show zs = abv xs d ++ sel xs (9 - (d : Int)) (j + 1) by rw [HSel.out, HD.out])
                first
                  | exact ⟨j + 1, zs, by omega, by go_num, HD2, HO2, by omega, hb1⟩
                  | ((repeat apply Exists.intro); exact ⟨⟨j + 1, zs, by omega, by go_num, HD2, HO2, by omega, hb1⟩, rfl⟩)
              case measure => simp [intOf]; omega
          · have HD2 := Lib.hid (show zs = abv xs (d + 1) by rw [HD.out, abv, show j = xs.length by have := HN.out; omega])
            go_wp2_with fail
            go_roundw
            case rel =>
              first
                | exact ⟨d + 1, zs, by omega, by go_num, HD2, HO, by omega, hb⟩
                | ((repeat apply Exists.intro); exact ⟨⟨d + 1, zs, by omega, by go_num, HD2, HO, by omega, hb⟩, rfl⟩)
            case measure => simp [intOf]; omega
      · have HA2 := Lib.hid (Ans.yes HG.out hr1 hr2)
        have HE := Lib.hid (show zs = abv xs (9 - rank).toNat by rw [HD.out, show d = (9 - rank).toNat by omega])
        go_wp2_with fail
        go_ret2
        exact ⟨_, zs, true, rfl, by rw [HE.out]; exact HA2.out, HO.out, hb⟩
  · have HA2 := Lib.hid (Ans.no (xs := xs) (rank := rank) hok)
    cases hg : Gd.goodB xs with
    | false =>
      have HG := Lib.hid hg
      clear hg hok
      go_enter Try.func71, Try.ntmps71
      go_wp2_with fail
      refine HC.out.mono ?_
      rintro e w1 ⟨rfl, hb1⟩
      rw [HG.out]
      have hb := hb1.alloc hb1.size (Obj.cells #[] 3)
      have HO := Lib.hid (show OwnI (w1.alloc (.cells #[] 3)) w.heap.size (.slice (some ⟨w1.heap.size, 0, none⟩) 0 0) [] from start_at hb1.size)
      go_wp2_with fail
      go_ret2
      exact ⟨_, [], false, rfl, HA2.out, HO.out, hb⟩
    | true =>
      have HG := Lib.hid hg
      have hor : rank < -1 ∨ 9 < rank := by
        rcases Int.lt_or_le rank (-1) with h' | h'
        · exact .inl h'
        · rcases Int.lt_or_le 9 rank with h3 | h3
          · exact .inr h3
          · exact absurd ⟨hg, h', h3⟩ hok
      clear hg hok
      rcases hor with hr | hr
      · go_enter Try.func71, Try.ntmps71
        go_wp2_with fail
        refine HC.out.mono ?_
        rintro e w1 ⟨rfl, hb1⟩
        rw [HG.out]
        have hb := hb1.alloc hb1.size (Obj.cells #[] 3)
        have HO := Lib.hid (show OwnI (w1.alloc (.cells #[] 3)) w.heap.size (.slice (some ⟨w1.heap.size, 0, none⟩) 0 0) [] from start_at hb1.size)
        go_wp2_with fail
        go_ret2
        exact ⟨_, [], false, rfl, HA2.out, HO.out, hb⟩
      · have hr' : ¬ rank < -1 := by omega
        go_enter Try.func71, Try.ntmps71
        go_wp2_with fail
        refine HC.out.mono ?_
        rintro e w1 ⟨rfl, hb1⟩
        rw [HG.out]
        have hb := hb1.alloc hb1.size (Obj.cells #[] 3)
        have HO := Lib.hid (show OwnI (w1.alloc (.cells #[] 3)) w.heap.size (.slice (some ⟨w1.heap.size, 0, none⟩) 0 0) [] from start_at hb1.size)
        go_wp2_with fail
        go_ret2
        exact ⟨_, [], false, rfl, HA2.out, HO.out, hb⟩
end Go.Proofs.Ytbaflfbidgolfaa.Above
