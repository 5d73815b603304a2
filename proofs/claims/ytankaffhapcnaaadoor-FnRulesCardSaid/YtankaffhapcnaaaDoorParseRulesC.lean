/- ParseRules, model and program: what both answer. For the program's: the table of powers of ten and the two errors that strconv reads are as their initialisers lay them. -/
import Derived.Test.YtankaffhapcnaaaDoorPRules
import Derived.Test.YtankaffhapcnaaaDoorPRuleI
import Derived.Test.YtankaffhapcnaaaDoorPRuleP
import Derived.Test.YtankaffhapcnaaaDoorPLRule
import Derived.Test.YtankaffhapcnaaaDoorJ1
import Derived.Test.YtankaffhapcnaaaDoorAppA
import Derived.BigQuiet
namespace Go.Proofs.YtankaffhapcnaaaDoor.ParseRulesC
open Go.RowKit Bs SplitMath SplitL PRules
set_option linter.unusedVariables false
abbrev Ans := PRules.Ans
noncomputable abbrev good := Gd.goodB
abbrev text := PRules.textB
theorem same {s : ByteArray} {r0 s0 : List LRule.R} {r1 s1 : Bool} (h : Ans s r0 r1) (h' : Ans s s0 s1) : r0 = s0 ∧ r1 = s1 := PRules.same h h'
theorem len0 {s : ByteArray} {r0 : List LRule.R} {r1 : Bool} (h : Ans s r0 r1) : r0.length ≤ 1048576 := PRules.len0 h
def APost (a0 : ByteArray) (w : World) (e : Ending) (w' : World) : Prop :=
  ∃ v0 r0 r1, e = .returned (.tuple #[v0, .bool r1]) ∧ Ans a0 r0 r1 ∧ Bs.Own LRule.rec 25 w' w.heap.size v0 r0 ∧ Below w.heap.size w w'
theorem ans_p {s : ByteArray} {r : LRule.R} {ok : Bool} (h : PRule.Ans s r ok) : (ok = true → P s.data.toList r) ∧ (ok = false → ∀ q, ¬ P s.data.toList q) := by
  rcases h with ⟨rfl, h1, h2⟩ | ⟨⟨rfl, _⟩, h⟩
  · exact ⟨fun _ => ⟨h1, by rw [h2]⟩, (fun e => by cases e)⟩
  · refine ⟨(fun e => by cases e), fun _ q hq => h q hq.1 ?_⟩
    apply ByteArray.ext
    exact Array.toList_inj.1 hq.2
theorem fine1 {l : List UInt8} {r : LRule.R} (h : P l r) : LRule.Fine r := by
  have hw := PRule.ok_word h.1
  unfold Rule.isWordB at hw
  simp only [Bool.and_eq_true, decide_eq_true_eq] at hw
  show r.name.size ≤ maxLen
  have := hw.1.2
  unfold maxLen; omega
theorem fineS {ls : List (List UInt8)} {ys : List LRule.R} (_ : ∀ l ∈ ls, l.length ≤ 1048576) (h : Reads P ls ys) : ∀ x ∈ ys, LRule.Fine x := fun x hx => by
  obtain ⟨i, hi, rfl⟩ := List.mem_iff_getElem.1 hx
  have hi2 : i < ls.length := by rw [h.1]; exact hi
  exact fine1 (h.2 i _ _ (List.getElem?_eq_getElem hi2) (List.getElem?_eq_getElem hi))
theorem parseS (s : ByteArray) (w : World) (hs : s.size ≤ 1048576) : Calls Tryd.prog 32 #[.string s] w (PLRule.PPost P s w) :=
  (PRuleP.l2Parse s w hs).mono fun e w' ⟨r, ok, he, ha, hb⟩ => ⟨r, ok, he, (ans_p ha).1, (ans_p ha).2, hb⟩
theorem goodS (v : Value) (xs : List LRule.R) (w : World) (h : Is LRule.rec w v xs) (f : ∀ x ∈ xs, LRule.Fine x) : Calls Tryd.prog 35 #[v] w fun e w' => e = .returned (.bool (good xs)) ∧ Below w.heap.size w w' := by
  obtain ⟨a, c, rfl, h1⟩ := h
  exact Gd.l2Good a _ c xs w rfl (RuleC.rules h1) f
theorem textS (v : Value) (xs : List LRule.R) (w : World) (h : Is LRule.rec w v xs) (hg : good xs = true) : Calls Tryd.prog 36 #[v] w fun e w' => e = .returned (.string (text xs)) ∧ Below w.heap.size w w' :=
  Text.l2Text v xs w h (Text.all_ok hg) (Gd.good_of hg).1
theorem validI (v : Value) (xs : List LRule.R) (w : World) (h : Is LRule.rec w v xs) (f : ∀ x ∈ xs, LRule.Fine x) : Calls Tryd.prog 16 #[v] w (PLRule.VPost good xs w) := by
  obtain ⟨a, c, rfl, h1⟩ := h
  exact GoodI.isValidRules a _ c xs w rfl (RuleC.rules h1) f
theorem parseI (s : ByteArray) (w : World) (hs : s.size ≤ 4000) (vp : Laid.Pow w) (vr : Laid.Err "strconv.ErrRange" w) (vs : Laid.Err "strconv.ErrSyntax" w) : Calls Tryd.prog 7 #[.string s] w (PLRule.PPost P s w) :=
  (PRuleI.impl s w (by omega) vp vr vs).mono fun e w' ⟨r, ok, he, ha, hb⟩ => ⟨r, ok, he, (ans_p ha).1, (ans_p ha).2, hb⟩
theorem eq_no {a b : ByteArray} (h : (a.toList == b.toList) = false) : a ≠ b := fun e => by rw [e] at h; simp at h
theorem eq_yes {a b : ByteArray} (h : (a.toList == b.toList) = true) : a = b := by
  have h1 : a.toList = b.toList := by simpa using h
  rw [ByteArray.toList_eq, ByteArray.toList_eq] at h1
  apply ByteArray.ext
  exact Array.toList_inj.1 h1
set_option maxRecDepth 100000 in
set_option maxHeartbeats 3200000 in
theorem spec (a0 : ByteArray) (w : World) (hs0 : a0.size ≤ 1048576) :
    Calls Tryd.prog 19 #[.string a0] w (APost a0 w) := by
  obtain ⟨i0, hi, hz0, hz1, hz2⟩ := info_parts LRule.infoK
  have HI0 := Lib.hid hi
  have HZ0 := Lib.hid (And.intro hz0 (And.intro hz1 hz2))
  clear hi hz0 hz1 hz2
  obtain ⟨ls, z, hlz⟩ : ∃ ls z, splitOf a0.data.toList 10 = ls ++ [z] := EndL.snoc_ex (by simp [splitOf])
  obtain ⟨n, hn⟩ : ∃ n, n = ls.length := ⟨_, rfl⟩
  have HSp := Lib.hid (fun W => SplA.split a0 10 10 rfl (ls ++ [z]) (n + 1) hlz (by rw [List.length_append, hn]; rfl) W hs0)
  have HL := Lib.hid hlz
  have HN := Lib.hid hn.symm
  have hle := splitOf_length a0.data.toList 10
  rw [hlz, List.length_append] at hle
  have hn2 : n ≤ 1048576 := by have h2 : a0.data.toList.length ≤ 1048576 := (by rw [Array.length_toList]; exact hs0); have h3 : [z].length = 1 := rfl; omega
  have HLs := Lib.hid (show ∀ l ∈ ls, l.length ≤ 1048576 from fun l hl => by
    have h1 := PRuleI.piece_le (l := a0.data.toList) (c := 10) (x := l) (by rw [hlz]; simp [hl])
    rw [Array.length_toList] at h1
    exact Nat.le_trans h1 hs0)
  clear hlz hn hle
  have HO0 := Lib.hid (Bs.Own.start (T := LRule.rec) (E := 25) (w := w) (Nat.le_refl _))
  have hb0 := (Below.refl w.heap.size w).alloc (Nat.le_refl _) (Obj.cells #[] 25)
  unfold SplA.SP at HSp
  by_cases h3 : 700 < a0.size
  · have HA := Lib.hid (show Ans a0 [] false from ans_none fun q hg ht => by have := (found hg ht).1; omega)
    go_enter Tryd.func19, Tryd.ntmps19
    go_wp2_with fail
    refine (HSp.out _).mono ?_
    rintro e w1 ⟨g0, c0, rfl, _, _, hg0, hg1, hcell, hb1⟩
    have HO1 := Lib.hid (HO0.out.kept hb1)
    have hb2 := hb0.trans (hb1.mono hb0.size)
    clear hcell
    go_wp2_with fail
    go_ret2
    exact ⟨_, [], false, rfl, HA.out, HO1.out, hb2⟩
  · go_enter Tryd.func19, Tryd.ntmps19
    go_wp2_with fail
    refine (HSp.out _).mono ?_
    rintro e w1 ⟨g0, c0, rfl, hc0, hc1, hg0, hg1, hcell, hb1⟩
    have HCell := Lib.hid hcell
    have HO1 := Lib.hid (HO0.out.kept hb1)
    have hb2 := hb0.trans (hb1.mono hb0.size)
    unfold maxLen at hc1
    have s1 : IntKind.i64.wrap (((n + 1 : Nat) : Int) - 1) = (n : Int) := by rw [IntWalk.i64_in _ (by omega)]; omega
    have s2 : IntKind.i64.wrap ((n : Int) + 1 - 1) = (n : Int) := by rw [IntWalk.i64_in _ (by omega)]; omega
    have s3 : (n : Int) + 1 - 1 = (n : Int) := by omega
    have s4 : (n : Int) < (n : Int) + 1 := by omega
    have s6 : 0 ≤ (n : Int) := by omega
    have hgg : w.heap.size ≠ g0 := by simp at hg0; omega
    clear hcell HO0 hb0
    go_wp2_with fail
    go_loopw [4, 6] (fun v i wr => ∃ (k : Nat) (ys : List LRule.R) (g c : Nat), k ≤ n ∧ i = .int .i64 k ∧ v = .slice (some ⟨g, 0, none⟩) k c ∧ Hid (Bs.Own LRule.rec 25 wr w.heap.size (.slice (some ⟨g, 0, none⟩) k c) ys) ∧ Hid (Reads P (ls.take k) ys) ∧ g ≠ g0 ∧ Hid (wr.heap[g0]? = w1.heap[g0]?) ∧ w1.heap.size ≤ wr.heap.size ∧ Below w.heap.size w wr) (fun _ i _ => n - (intOf i).toNat)
    case atStart => exact ⟨0, [], _, _, Nat.zero_le _, rfl, rfl, HO1, Lib.hid reads_nil, hgg, Lib.hid rfl, Nat.le_refl _, hb2⟩
    case round =>
      clear HO1 hb2 hgg
      obtain ⟨k, ys, g, c, hk, rfl, rfl, HO, HR, hgg, HBl, hws, hb⟩ := hrel
      have HYL := Lib.hid (show ys.length = k by have := HR.out.1; rw [List.length_take] at this; have := HN.out; omega)
      by_cases hlt : k < n
      · have hx : k < ls.length := by have := HN.out; omega
        obtain ⟨L, hL⟩ : ∃ L, L = ls[k] := ⟨_, rfl⟩
        have HLk := Lib.hid (show ls[k]? = some L by rw [hL]; exact List.getElem?_eq_getElem hx)
        have HTk := Lib.hid (show ls.take (k + 1) = ls.take k ++ [L] by rw [hL]; exact List.take_succ_eq_append_getElem hx)
        obtain ⟨X, hX⟩ : ∃ X : ByteArray, X = ⟨L.toArray⟩ := ⟨_, rfl⟩
        have HXL := Lib.hid (show X.data.toList = L by rw [hX])
        have q0 : wr.cell? ⟨g0, k, none⟩ = some (.string X) := by
          rw [World.cell?_of_block (a := ⟨g0, k, none⟩) HBl.out, hX]
          exact HCell.out k L (by rw [List.getElem?_append_left hx]; exact HLk.out)
        have hXs : X.size ≤ 1048576 := by
          have h1 := HLs.out L (by rw [hL]; exact List.getElem_mem hx)
          have : X.size = X.data.toList.length := (Array.length_toList (xs := X.data)).symm
          rw [this, HXL.out]; exact h1
        have HPX := Lib.hid (parseS X wr hXs)
        unfold PLRule.PPost at HPX
        have k0 : 0 ≤ (k : Int) := by omega
        have k1 : (k : Int) < (n : Int) := by omega
        clear hL hX hx
        go_wp2_with fail
        refine HPX.out.mono ?_
        rintro e w2 ⟨r, ok, rfl, hyes, hno, hb3⟩
        have hbw := hb.trans (hb3.mono hb.size)
        have HO2 := Lib.hid (HO.out.kept hb3)
        have HBl2 := Lib.hid ((hb3.block g0 (by omega)).trans HBl.out)
        have hws3 : w1.heap.size ≤ w2.heap.size := Nat.le_trans hws hb3.size
        have hgA : w.heap.size ≤ g := (HO2.out.lt g rfl).1
        clear hb hb3 HO HBl q0 HPX hws
        cases ok with
        | false =>
          have HN0 := Lib.hid (hno rfl)
          have HA := Lib.hid (show Ans a0 [] false from bad_line HL.out HLk.out (fun q hp => HN0.out q (by rw [HXL.out]; exact hp)))
          have hb3 := hbw.alloc hbw.size (Obj.cells #[.int .i64 r.id, .string r.name, .int .i64 r.rank, .bool r.sec, .bool r.deb, .bool r.am, .int .i64 r.need] 25)
          clear hyes hno HN0
          generalize hw3 : w2.alloc (Obj.cells #[.int .i64 r.id, .string r.name, .int .i64 r.rank, .bool r.sec, .bool r.deb, .bool r.am, .int .i64 r.need] 25) = w3 at *
          have HO := Lib.hid (Bs.Own.start (T := LRule.rec) (E := 25) (w := w3) hb3.size)
          have hbz := hb3.alloc hb3.size (Obj.cells #[] 25)
          go_wp2_with fail
          go_ret2
          exact ⟨_, [], false, rfl, HA.out, HO.out, hbz⟩
        | true =>
          have HPr := Lib.hid (hyes rfl)
          rw [HXL.out] at HPr
          have HO := HO2
          have hys : ys.length ≤ 1048576 := by have := HYL.out; omega
          have HRN := Lib.hid (show Reads P (ls.take (k + 1)) (ys ++ [r]) by rw [HTk.out]; exact reads_snoc HR.out HPr.out)
          have hz1 := hbw.size
          clear hyes hno HO2 HR HPr HTk HLk HXL
          go_wp2_with (at_builtin; refine wpList_append_own_at _ rfl (.tmp 34) (.tmp 36) 33 rfl w.heap.size 25 i0 (.agg #[.int .i64 0, .string ⟨#[]⟩, .int .i64 0, .bool false, .bool false, .bool false, .int .i64 0]) 7 48 Tryd.underlying33 HI0.out HZ0.out.1 HZ0.out.2.1 HZ0.out.2.2 rfl (by decide) _ _ _ rfl (Bs.Own.kept HO.out (by (repeat (first | assumption | exact Below.refl _ _ | refine Below.drew ?_ | refine Below.setCell ?_ (by first | (simp; done) | (simp; omega) | omega) _ | refine Below.alloc ?_ (by first | (simp; done) | (simp; omega) | omega) _)))) ⟨_, 0, none⟩ 1 1 [.int .i64 r.id, .string r.name, .int .i64 r.rank, .bool r.sec, .bool r.deb, .bool r.am, .int .i64 r.need] rfl rfl ?c1 ?c2 ?c3 ?c4 ?c5 ?c6)
          case c1 => first | exact World.news_of_block (heap_alloc_new _ _) | exact World.news_of_block (alloc_two _ _ _)
          case c2 => intro u hu; simp only [List.mem_cons, List.not_mem_nil, or_false] at hu; rcases hu with rfl | rfl | rfl | rfl | rfl | rfl | rfl <;> rfl
          case c3 => unfold maxLen; omega
          case c4 => omega
          case c5 => first | (simp; done) | (simp; omega) | omega
          case c6 =>
            intro v6 w6 hown6 hgrow6 _ hat6
            have hK6 := app_keep hgrow6 (W := w2) (by (repeat (first | assumption | exact Below.refl _ _ | refine Below.drew ?_ | refine Below.alloc ?_ (by first | (simp; done) | (simp; omega) | omega) _))) hbw hgA
            have HBl6 := Lib.hid (show w6.heap[g0]? = w1.heap[g0]? from (hK6.2.2 g0 (by omega) hgg).trans HBl2.out)
            have hws6 : w1.heap.size ≤ w6.heap.size := Nat.le_trans hws3 hK6.2.1
            have hO6 : Bs.Own LRule.rec 25 w6 w.heap.size v6 (ys ++ [r]) := own_of LRule.rec hown6 (by simp [HYL.out]) (by rw [flat_append]; rfl)
            obtain ⟨g6, c6, rfl, _⟩ := PLRule.some_block hO6 (by simp)
            have hne6 : g6 ≠ g0 := by
              rcases hat6 with h | h
              · have h2 := Option.some.inj (show some g6 = some g from h)
                rw [h2]; exact hgg
              · have h2 : g6 = _ := Option.some.inj h
                rw [h2]; simp; omega
            have hb6 := hK6.1
            rw [show (ys ++ [r]).length = k + 1 by rw [List.length_append, HYL.out]; rfl] at hO6 ⊢
            have HO6 := Lib.hid hO6
            clear hK6 hown6 hat6 hO6 hgrow6 HO
            go_wp2_with fail
            go_roundw
            case rel => exact ⟨k + 1, _, g6, c6, by omega, by go_num, rfl, HO6, HRN, hne6, HBl6, hws6, hb6⟩
            case measure => simp [intOf]; omega
      · have hkn : ls.take k = ls := List.take_of_length_le (by have := HN.out; omega)
        rw [hkn] at HR
        have HGd := Lib.hid (goodS (.slice (some ⟨g, 0, none⟩) k c) ys wr HO.out.is (fineS HLs.out HR.out))
        have HTx := Lib.hid (fun hg W hW => textS (.slice (some ⟨g, 0, none⟩) k c) ys W (HO.out.is.below LRule.rec hW) hg)
        have HNo := Lib.hid (fun (hn : ¬ (good ys = true ∧ text ys = a0)) => show Ans a0 [] false from only HL.out HR.out hn)
        clear hkn HBl
        cases hg : good ys with
        | false =>
          have HA := Lib.hid (HNo.out (fun h => by rw [hg] at h; cases h.1))
          rw [hg] at HGd
          clear hg HTx
          go_wp2_with fail
          refine HGd.out.mono ?_
          rintro e w3 ⟨rfl, hb2⟩
          have hb3 := hb.trans (hb2.mono hb.size)
          have HO := Lib.hid (Bs.Own.start (T := LRule.rec) (E := 25) (w := w3) hb3.size)
          have hbz := hb3.alloc hb3.size (Obj.cells #[] 25)
          go_wp2_with fail
          go_ret2
          exact ⟨_, [], false, rfl, HA.out, HO.out, hbz⟩
        | true =>
          have HTy := Lib.hid (HTx.out hg)
          have HYes := Lib.hid (fun (ht : text ys = a0) => show Ans a0 ys true from ans_yes hg ht)
          have HNo2 := Lib.hid (fun (hn : text ys ≠ a0) => HNo.out (fun h => hn h.2))
          rw [hg] at HGd
          clear hg HTx HNo
          obtain ⟨TX, hTX⟩ : ∃ TX, TX = text ys := ⟨_, rfl⟩
          rw [← hTX] at HTy HYes HNo2
          clear hTX
          go_wp2_with fail
          refine HGd.out.mono ?_
          rintro e w3 ⟨rfl, hb2⟩
          have hb3 := hb.trans (hb2.mono hb.size)
          have HO3 := Lib.hid (HO.out.kept hb2)
          go_wp2_with fail
          refine (HTy.out _ hb2).mono ?_
          rintro e w4 ⟨rfl, hb4⟩
          have hb5 := hb3.trans (hb4.mono hb3.size)
          have HO4 := Lib.hid (HO3.out.kept hb4)
          cases he : (TX.toList == a0.toList) with
          | true =>
            have HA := Lib.hid (HYes.out (eq_yes he))
            clear HYes HNo2
            go_wp2_with fail
            go_ret2
            exact ⟨_, _, true, rfl, HA.out, HO4.out, hb5⟩
          | false =>
            have HA := Lib.hid (HNo2.out (eq_no he))
            clear HYes HNo2
            have HO := Lib.hid (Bs.Own.start (T := LRule.rec) (E := 25) (w := w4) hb5.size)
            have hbz := hb5.alloc hb5.size (Obj.cells #[] 25)
            go_wp2_with fail
            go_ret2
            exact ⟨_, [], false, rfl, HA.out, HO.out, hbz⟩
set_option maxRecDepth 100000 in
theorem impl (a0 : ByteArray) (w : World) (hs0 : a0.size ≤ 1048576) (vp : Laid.Pow w) (vr : Laid.Err "strconv.ErrRange" w) (vs : Laid.Err "strconv.ErrSyntax" w) :
    Calls Tryd.prog 14 #[.string a0] w (APost a0 w) := by
  have HP := Lib.hid (PLRule.parseLines P good a0 w (by unfold maxLen; omega) (fun l W hW hl => parseI l W hl (vp.below hW) (vr.below hW) (vs.below hW)) (fun v xs W _ h hf => validI v xs W h hf) (fun l r hl h => fine1 h) (fun l r r' h h' => p_uniq h h'))
  unfold PLRule.PLPost at HP
  go_enter Tryd.func14, Tryd.ntmps14
  go_wp2_with fail
  refine HP.out.mono ?_
  rintro e w1 ⟨v, r0, r1, rfl, hpl, ho, _, hb1⟩
  have HA := Lib.hid (show Ans a0 r0 r1 from by
    rcases hpl with ⟨rfl, h4, ls, hsp, hrd, hg⟩ | ⟨⟨rfl, rfl⟩, hn⟩
    · exact ans_yes hg (text_of hsp hrd)
    · exact ans_none fun q hg ht => by
        have hf := found hg ht
        have := hn _ q (by omega) hf.2 (reads_of hg)
        rw [show good q = true from hg] at this; cases this)
  have HO := Lib.hid ho
  clear hpl ho HP
  go_wp2_with fail
  go_ret2
  exact ⟨_, _, _, rfl, HA.out, HO.out, hb1⟩
end Go.Proofs.YtankaffhapcnaaaDoor.ParseRulesC
