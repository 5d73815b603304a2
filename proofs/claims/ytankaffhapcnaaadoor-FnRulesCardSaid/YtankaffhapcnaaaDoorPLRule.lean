/- The lines of a text, read one by one into a list of Rule: the program's function, whatever reads a line and whatever holds the list valid. No condition but that a string is no longer than a string can be. -/
import Derived.Test.YtankaffhapcnaaaDoorEndL
import Derived.Test.YtankaffhapcnaaaDoorJ1
import Derived.BigQuiet
namespace Go.Proofs.YtankaffhapcnaaaDoor.PLRule
open Go.RowKit Bs SplitMath SplitL
set_option linter.unusedVariables false
abbrev M := LRule.R
/-- what the lines of s say -/
def PL (P : List UInt8 → M → Prop) (good : List M → Bool) (s : ByteArray) (r0 : List M) (r1 : Bool) : Prop :=
  (r1 = true ∧ s.size ≤ 4000 ∧ ∃ ls, splitOf s.data.toList 10 = ls ++ [[]] ∧ Reads P ls r0 ∧ good r0 = true) ∨
  ((r1 = false ∧ r0 = []) ∧ ∀ ls xs, s.size ≤ 4000 → splitOf s.data.toList 10 = ls ++ [[]] → Reads P ls xs → good xs = false)
def PLPost (P : List UInt8 → M → Prop) (good : List M → Bool) (s : ByteArray) (w : World) (e : Ending) (w' : World) : Prop :=
  ∃ v r0 r1, e = .returned (.tuple #[v, .bool r1]) ∧ PL P good s r0 r1 ∧ Bs.Own LRule.rec 25 w' w.heap.size v r0 ∧ (∃ g, v.ownBlock = some g) ∧ Below w.heap.size w w'
/-- what reads a line -/
def PPost (P : List UInt8 → M → Prop) (l : ByteArray) (w : World) (e : Ending) (w' : World) : Prop :=
  ∃ (r : M) (ok : Bool), e = .returned (.tuple #[.agg #[.int .i64 r.id, .string r.name, .int .i64 r.rank, .bool r.sec, .bool r.deb, .bool r.am, .int .i64 r.need], .bool ok]) ∧ (ok = true → P l.data.toList r) ∧ (ok = false → ∀ q, ¬ P l.data.toList q) ∧ Below w.heap.size w w'
def VPost (good : List M → Bool) (xs : List M) (w : World) (e : Ending) (w' : World) : Prop := e = .returned (.bool (good xs)) ∧ Below w.heap.size w w'
theorem no_of {P : List UInt8 → M → Prop} {good : List M → Bool} {s : ByteArray} (h : ∀ ls xs, s.size ≤ 4000 → splitOf s.data.toList 10 = ls ++ [[]] → Reads P ls xs → good xs = false) : PL P good s [] false := .inr ⟨⟨rfl, rfl⟩, h⟩
theorem ls_uniq {s : List UInt8} {ls ms : List (List UInt8)} (h : splitOf s 10 = ls ++ [[]]) (h' : splitOf s 10 = ms ++ [[]]) : ls = ms := (List.append_inj' (h.symm.trans h') rfl).1
theorem fine_all {P : List UInt8 → M → Prop} {ls : List (List UInt8)} {xs : List M} (hf : ∀ l r, l.length ≤ 4000 → P l r → LRule.Fine r) (hl : ∀ l ∈ ls, l.length ≤ 4000) (h : Reads P ls xs) : ∀ x ∈ xs, LRule.Fine x := fun x hx => by
  obtain ⟨i, hi, rfl⟩ := List.mem_iff_getElem.1 hx
  have hi2 : i < ls.length := by rw [h.1]; exact hi
  exact hf _ _ (hl _ (List.getElem_mem hi2)) (h.2 i _ _ (List.getElem?_eq_getElem hi2) (List.getElem?_eq_getElem hi))
theorem len_ended {ls : List (List UInt8)} : ∀ l ∈ ls, l.length ≤ (ended 10 ls).length ∧ ls.length ≤ (ended 10 ls).length := by
  induction ls with
  | nil => intro l h; cases h
  | cons a ls ih =>
    intro l h
    rw [ended_cons, List.length_append, List.length_cons, List.length_cons]
    rcases List.mem_cons.1 h with rfl | h
    · refine ⟨by omega, ?_⟩
      cases ls with
      | nil => show 0 + 1 ≤ _; omega
      | cons b ls => have := (ih b (by simp)).2; omega
    · have := ih l h; omega
theorem ls_small {s : ByteArray} {ls : List (List UInt8)} (h4 : s.size ≤ 4000) (h : splitOf s.data.toList 10 = ls ++ [[]]) : ls.length ≤ 4000 ∧ ∀ l ∈ ls, l.length ≤ 4000 := by
  have e := unsplit h
  have hs : (ended 10 ls).length ≤ 4000 := by rw [← e, Array.length_toList]; exact h4
  refine ⟨?_, fun l hl => Nat.le_trans (len_ended l hl).1 hs⟩
  cases ls with
  | nil => simp
  | cons a ls => exact Nat.le_trans (len_ended a (by simp)).2 hs
theorem some_block {w : World} {A : Nat} {v : Value} {xs : List M} (h : Bs.Own LRule.rec 25 w A v xs) (hx : 0 < xs.length) : ∃ g c, v = .slice (some ⟨g, 0, none⟩) xs.length c ∧ A ≤ g := by
  rcases h.shape with ⟨_, rfl⟩ | ⟨g, c, e, hA, _⟩
  · simp at hx
  · exact ⟨g, c, e, hA⟩
set_option maxRecDepth 100000 in
set_option maxHeartbeats 1600000 in
theorem parseLines (P : List UInt8 → M → Prop) (good : List M → Bool) (s : ByteArray) (w : World) (hm : s.size ≤ maxLen)
    (hP : ∀ l W, Below w.heap.size w W → l.size ≤ 4000 → Calls Tryd.prog 7 #[.string l] W (PPost P l W))
    (hV : ∀ v xs W, Below w.heap.size w W → Is LRule.rec W v xs → (∀ x ∈ xs, LRule.Fine x) → Calls Tryd.prog 16 #[v] W (VPost good xs W))
    (hF : ∀ l r, l.length ≤ 4000 → P l r → LRule.Fine r) (hU : ∀ l r r', P l r → P l r' → r = r') :
    Calls Tryd.prog 34 #[.string s, .func (.func 7) #[] #[], .func (.func 16) #[] #[]] w (PLPost P good s w) := by
  have HP := Lib.hid hP
  have HV := Lib.hid hV
  have HF := Lib.hid hF
  have HEL := Lib.hid (EndL.endedLines s w hm)
  unfold EndL.EPost at HEL
  clear hP hV hF hm
  obtain ⟨i0, hi, hz0, hz1, hz2⟩ := info_parts LRule.infoK
  have HI0 := Lib.hid hi
  have HZ0 := Lib.hid (And.intro hz0 (And.intro hz1 hz2))
  clear hi hz0 hz1 hz2
  go_enter Tryd.func34, Tryd.ntmps34
  go_wp2_with fail
  refine HEL.out.mono ?_
  intro e w1 hel
  rcases hel with ⟨ls, g0, c0, rfl, h4, hsp, hIS, hb1⟩ | ⟨v0, rfl, hno, hb1⟩
  · obtain ⟨hn4, hl4⟩ := ls_small h4 hsp
    have HSP := Lib.hid hsp
    have HL4 := Lib.hid hl4
    have HI := Lib.hid hIS
    obtain ⟨n, hn⟩ : ∃ n, n = ls.length := ⟨_, rfl⟩
    have HN := Lib.hid hn.symm
    rw [← hn] at hn4 HI ⊢
    obtain ⟨b', o', c', e, hbl, hle, hcm, hcell⟩ := hIS
    simp only [Value.slice.injEq, Option.some.injEq, Addr.mk.injEq, and_true] at e
    obtain ⟨⟨rfl, rfl⟩, -, rfl⟩ := e
    have hnc : n ≤ c0 := by rw [Elems.bs_len] at hle; omega
    unfold maxLen at hcm
    have HC := Lib.hid hcell
    clear hcell hle hl4 hsp hn HEL
    have HO0 := Lib.hid (Bs.Own.start (T := LRule.rec) (E := 25) (w := w1) (Nat.le_refl _))
    have hb2 := hb1.alloc hb1.size (Obj.cells #[] 25)
    go_wp2_with fail
    go_loopw [10, 26] (fun v i wr => ∃ (k : Nat) (ys : List M) (g c : Nat), k ≤ n ∧ i = .int .i64 k ∧ v = .slice (some ⟨g, 0, none⟩) k c ∧ Hid (Bs.Own LRule.rec 25 wr w1.heap.size (.slice (some ⟨g, 0, none⟩) k c) ys) ∧ Hid (Reads P (ls.take k) ys) ∧ Below w1.heap.size w1 wr) (fun _ i _ => n - (intOf i).toNat)
    case atStart => exact ⟨0, [], _, _, Nat.zero_le _, rfl, rfl, HO0, Lib.hid reads_nil, (Below.refl _ _).alloc (Nat.le_refl _) _⟩
    case round =>
      clear HO0 hb2
      obtain ⟨k, ys, g, c, hk, rfl, rfl, HO, HR, hbw⟩ := hrel
      have hb := hb1.trans (hbw.mono hb1.size)
      have HYL := Lib.hid (show ys.length = k by have := HR.out.1; rw [List.length_take] at this; have := HN.out; omega)
      by_cases hlt : k < n
      · have hx : k < ls.length := by have := HN.out; omega
        obtain ⟨L, hL⟩ : ∃ L, L = ls[k] := ⟨_, rfl⟩
        have HLk := Lib.hid (show ls[k]? = some L by rw [hL]; exact List.getElem?_eq_getElem hx)
        have hLs := HL4.out L (by rw [hL]; exact List.getElem_mem hx)
        have HTk := Lib.hid (show ls.take (k + 1) = ls.take k ++ [L] by rw [hL]; exact List.take_succ_eq_append_getElem hx)
        obtain ⟨X, hX⟩ : ∃ X : ByteArray, X = ⟨L.toArray⟩ := ⟨_, rfl⟩
        have HXL := Lib.hid (show X.data.toList = L by rw [hX])
        have hXs : X.size ≤ 4000 := by
          have : X.size = X.data.toList.length := (Array.length_toList (xs := X.data)).symm
          rw [this, HXL.out]; exact hLs
        have q0 := LString.cells (((HC.out k X (by unfold Elems.bs; rw [List.getElem?_map, HLk.out, hX]; rfl)).below LString.rec hbw hbl))
        simp only [LString.rec_n, Nat.mul_one, Nat.zero_add] at q0
        have HPX := Lib.hid (HP.out X wr hb hXs)
        unfold PPost at HPX
        have k0 : 0 ≤ (k : Int) := by omega
        have k1 : (k : Int) < (n : Int) := by omega
        clear hL hX hLs hx
        go_wp2_with fail
        refine HPX.out.mono ?_
        rintro e w2 ⟨r, ok, rfl, hyes, hno, hb2⟩
        have hb2w := hb.trans (hb2.mono hb.size)
        have hbw2 := hbw.trans (hb2.mono hbw.size)
        have HO2 := Lib.hid (HO.out.kept hb2)
        clear hb2 HPX HO q0
        cases ok with
        | false =>
          have HN0 := Lib.hid (hno rfl)
          have HN := Lib.hid (no_of (P := P) (good := good) (s := s) fun ls' xs h4' hs' hr' => by
            obtain rfl := ls_uniq HSP.out hs'
            obtain ⟨q, hq, hp⟩ := reads_at hr' HLk.out
            rw [← HXL.out] at hp
            exact absurd hp (HN0.out q))
          have hb3 := hb2w.alloc hb2w.size (Obj.cells #[.int .i64 r.id, .string r.name, .int .i64 r.rank, .bool r.sec, .bool r.deb, .bool r.am, .int .i64 r.need] 25)
          clear hyes hno HN0
          generalize hw3 : w2.alloc (Obj.cells #[.int .i64 r.id, .string r.name, .int .i64 r.rank, .bool r.sec, .bool r.deb, .bool r.am, .int .i64 r.need] 25) = w3 at *
          have HS := Lib.hid (Bs.Own.start (T := LRule.rec) (E := 25) (w := w3) hb3.size)
          have hbz := hb3.alloc hb3.size (Obj.cells #[] 25)
          go_wp2_with fail
          go_ret2
          exact ⟨_, [], false, rfl, HN.out, HS.out, ⟨_, rfl⟩, hbz⟩
        | true =>
          have HPr := Lib.hid (hyes rfl)
          rw [HXL.out] at HPr
          have HO := HO2
          clear hyes hno HO2
          have hys := HYL.out
          have HRN := Lib.hid (show Reads P (ls.take (k + 1)) (ys ++ [r]) by rw [HTk.out]; exact reads_snoc HR.out HPr.out)
          have hz1 := hb1.size
          have hz2 := hbw2.size
          clear HR HPr HTk HLk HXL hb hbw hb2w
          go_wp2_with (at_builtin; refine wpList_append_own _ rfl (.tmp 39) (.tmp 41) 33 rfl w1.heap.size 25 i0 (.agg #[.int .i64 0, .string ⟨#[]⟩, .int .i64 0, .bool false, .bool false, .bool false, .int .i64 0]) 7 48 Tryd.underlying33 HI0.out HZ0.out.1 HZ0.out.2.1 HZ0.out.2.2 rfl (by decide) _ _ _ rfl (Bs.Own.kept HO.out (by (repeat (first | assumption | exact Below.refl _ _ | refine Below.drew ?_ | refine Below.setCell ?_ (by first | (simp; done) | (simp; omega) | omega) _ | refine Below.alloc ?_ (by first | (simp; done) | (simp; omega) | omega) _)))) ⟨_, 0, none⟩ 1 1 [.int .i64 r.id, .string r.name, .int .i64 r.rank, .bool r.sec, .bool r.deb, .bool r.am, .int .i64 r.need] rfl rfl ?c1 ?c2 ?c3 ?c4 ?c5 ?c6)
          case c1 => first | exact World.news_of_block (heap_alloc_new _ _) | exact World.news_of_block (alloc_two _ _ _)
          case c2 => intro u hu; simp only [List.mem_cons, List.not_mem_nil, or_false] at hu; rcases hu with rfl | rfl | rfl | rfl | rfl | rfl | rfl <;> rfl
          case c3 => unfold maxLen; omega
          case c4 => omega
          case c5 => first | (simp; done) | (simp; omega) | omega
          case c6 =>
            intro v' w4 hown' hgrow _
            have hb4 : Below w1.heap.size w1 w4 := Below.grown (by (repeat (first | assumption | exact Below.refl _ _ | refine Below.drew ?_ | refine Below.setCell ?_ (by first | (simp; done) | (simp; omega) | omega) _ | refine Below.alloc ?_ (by first | (simp; done) | (simp; omega) | omega) _))) hgrow (by first | (simp; done) | (simp; omega) | omega) (fun j hj => (HO.out.lt j hj).1)
            have hO4 : Bs.Own LRule.rec 25 w4 w1.heap.size v' (ys ++ [r]) := own_of LRule.rec hown' (by simp [hys]) (by rw [flat_append]; rfl)
            obtain ⟨g', c', rfl, _⟩ := some_block hO4 (by simp)
            have HO4 := Lib.hid hO4
            rw [show (ys ++ [r]).length = k + 1 by simp [hys]] at HO4 ⊢
            clear hown' hgrow hO4 HO hys
            go_wp2_with fail
            go_roundw
            case rel => exact ⟨k + 1, ys ++ [r], g', c', by omega, by go_num, rfl, HO4, HRN, hb4⟩
            case measure => simp [intOf]; omega
      · have hkn : ls.take k = ls := List.take_of_length_le (by have := HN.out; omega)
        rw [hkn] at HR
        have HFA := Lib.hid (fine_all HF.out HL4.out HR.out)
        have HVy := Lib.hid (HV.out (.slice (some ⟨g, 0, none⟩) k c) ys wr hb HO.out.is HFA.out)
        unfold VPost at HVy
        clear hkn
        cases hg : good ys with
        | false =>
          have HN := Lib.hid (no_of (P := P) (good := good) (s := s) fun ls' xs h4' hs' hr' => by
            obtain rfl := ls_uniq HSP.out hs'
            rw [reads_uniq hU hr' HR.out]; exact hg)
          rw [hg] at HVy
          clear hg
          go_wp2_with fail
          refine HVy.out.mono ?_
          rintro e w3 ⟨rfl, hb2⟩
          have hb3 := hb.trans (hb2.mono hb.size)
          have HS := Lib.hid (Bs.Own.start (T := LRule.rec) (E := 25) (w := w3) hb3.size)
          have hbz := hb3.alloc hb3.size (Obj.cells #[] 25)
          go_wp2_with fail
          go_ret2
          exact ⟨_, [], false, rfl, HN.out, HS.out, ⟨_, rfl⟩, hbz⟩
        | true =>
          have HY := Lib.hid (show PL P good s ys true from .inl ⟨rfl, h4, ls, HSP.out, HR.out, hg⟩)
          rw [hg] at HVy
          clear hg
          go_wp2_with fail
          refine HVy.out.mono ?_
          rintro e w3 ⟨rfl, hb2⟩
          have hb3 := hb.trans (hb2.mono hb.size)
          have HO3 := Lib.hid ((HO.out.kept hb2).low hb1.size)
          go_wp2_with fail
          go_ret2
          exact ⟨_, _, true, rfl, HY.out, HO3.out, ⟨_, rfl⟩, hb3⟩
  · have HN := Lib.hid (no_of (P := P) (good := good) (s := s) fun ls' xs h4' hs' hr' => by
      rcases hno with h | h
      · omega
      · exact absurd hs' (h ls'))
    clear hno HEL
    generalize w1 = w3 at *
    have hb3 := hb1
    have HS := Lib.hid (Bs.Own.start (T := LRule.rec) (E := 25) (w := w3) hb3.size)
    have hbz := hb3.alloc hb3.size (Obj.cells #[] 25)
    go_wp2_with fail
    go_ret2
    exact ⟨_, [], false, rfl, HN.out, HS.out, ⟨_, rfl⟩, hbz⟩
end Go.Proofs.YtankaffhapcnaaaDoor.PLRule
