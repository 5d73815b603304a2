/- spec.DrawJoinStrings: a few strings of bounded length, and a mark. -/
import Derived.Test.YtlenpaeaaobhhaaDraw
import Derived.OwnWalk
namespace Go.Proofs.Ytlenpaeaaobhhaa.Draw
open Go.RowKit Strs Cur
set_option linter.unusedVariables false

theorem owns_start (w : World) : (w.alloc (.cells #[] 9)).ownsRow w.heap.size 9 1 (.slice (some ⟨w.heap.size, 0, none⟩) 0 0) 0 [] := by
  refine ⟨rfl, .inr ⟨w.heap.size, 0, #[], rfl, Nat.le_refl _, ?_, Nat.le_refl _, Nat.zero_le _, rfl, rfl⟩⟩
  show (w.heap.push _)[w.heap.size]? = _
  rw [Array.getElem?_push, if_pos rfl]
theorem strs_of_any {w : World} {base n : Nat} {v : Value} {xs : List ByteArray} (hn : xs.length = n) (h : w.ownsRow base 9 1 v n (xs.map Value.string)) : ∃ a cap, v = .slice a n cap ∧ StrsAt w a cap xs := by
  rcases h.2 with ⟨rfl, rfl⟩ | ⟨g, cap, cur, rfl, _⟩
  · exact ⟨none, 0, rfl, by omega, Nat.zero_le _, .inl (List.length_eq_zero_iff.1 hn)⟩
  · exact ⟨_, _, rfl, strs_of_owns hn h⟩
theorem infoByte : (Try.prog.info? 5).map (fun i => (i.zero, i.size, i.bytes)) = some (some (.int .u8 0), 1, 1) := by kernel_rfl
theorem zero_cells {w : World} {base g n : Nat} (h : w.ownsRow base 5 1 (.slice (some ⟨g, 0, none⟩) n n) n (List.replicate n (.int .u8 0))) :
    ∀ j (hj : j < (List.replicate n (0 : UInt8)).length), w.cell? ((⟨g, 0, none⟩ : Addr).add j) = some (.int .u8 ((List.replicate n (0 : UInt8))[j].toNat : Int)) := by
  intro j hj
  have hj' : j < n := by simpa using hj
  have e : ((⟨g, 0, none⟩ : Addr).add j) = ⟨g, 0 + j, none⟩ := Go.WideShapes.add_plain g 0 j
  rw [e, Nat.zero_add, h.cellAt j (by omega), List.getElem?_replicate, if_pos hj']
  simp
/-- what has been collected -/
def Coll (w : World) (B k m : Nat) (v : Value) (wr : World) : Prop :=
  ∃ xs : List ByteArray, xs.length = k ∧ (∀ x ∈ xs, x.size ≤ 5000) ∧ wr.ownsRow (w.heap.size + 1) 9 1 v k (xs.map Value.string) ∧ Cur wr w.heap.size m ∧ Below w.heap.size w wr ∧ w.heap.size + 1 ≤ wr.heap.size
theorem Coll.step {w wr w' : World} {B k m m' : Nat} {v : Value} (h : Coll w B k m v wr) (hc : Cur w' w.heap.size m') (hg : wr.grownBy w' (some w.heap.size)) : Coll w B k m' v w' := by
  obtain ⟨xs, h1, h2, h3, h4, h5, h6⟩ := h
  exact ⟨xs, h1, h2, h3.kept hg (.inr (h4.not_row h3)), hc, h5.grown hg h5.size (fun j hj => by cases hj; exact Nat.le_refl _), Nat.le_trans h6 hg.size⟩
theorem Coll.below {w wr w' : World} {B k m : Nat} {v : Value} (h : Coll w B k m v wr) (hb : Below wr.heap.size wr w') : Coll w B k m v w' := by
  obtain ⟨xs, h1, h2, h3, h4, h5, h6⟩ := h
  exact ⟨xs, h1, h2, World.ownsRow.kept (row := none) h3 ⟨hb.os, hb.tape, hb.output, hb.size, fun j hj _ => hb.block j hj⟩ (by cases hv : v.ownBlock with | none => exact .inl rfl | some g => exact .inr (by simp)), h4.kept hb, h5.trans (hb.mono h5.size), Nat.le_trans h6 hb.size⟩
/-- what the append of one string leaves -/
theorem push {w wr w1 : World} {B k m : Nat} {v v' : Value} {x : ByteArray} {tmp : Obj} {xs : List ByteArray} (h1 : xs.length = k) (h2 : ∀ x ∈ xs, x.size ≤ 5000) (h3 : wr.ownsRow (w.heap.size + 1) 9 1 v k (xs.map Value.string))
    (h4 : Cur wr w.heap.size m) (h5 : Below w.heap.size w wr) (h6 : w.heap.size + 1 ≤ wr.heap.size) (hx : x.size ≤ 5000)
    (hown : w1.ownsRow (w.heap.size + 1) 9 1 v' (k + 1) (xs.map Value.string ++ [.string x])) (hg : (wr.alloc tmp).grownBy w1 v.ownBlock) : Coll w B (k + 1) m v' w1 := by
  have hb : Below (w.heap.size + 1) wr w1 := ((Below.refl _ wr).alloc h6 tmp).grown hg (by simp; omega) (fun j hj => (h3.lt j hj).1)
  refine ⟨xs ++ [x], by simp [h1], ?_, by rw [List.map_append]; exact hown, h4.keptB hb, h5.trans (hb.mono (by omega)), Nat.le_trans h6 hb.size⟩
  intro y hy
  rcases List.mem_append.1 hy with hy | hy
  · exact h2 y hy
  · simp only [List.mem_singleton] at hy
    subst hy
    exact hx
def joinSeps : List ByteArray := [⟨#[44]⟩, ⟨#[59]⟩, ⟨#[59]⟩, ⟨#[]⟩, ⟨#[97, 98]⟩]
def Parts (w : World) (e : Ending) (w' : World) : Prop :=
  ∃ (n : Nat) (a : Option Addr) (cap : Nat) (xs : List ByteArray) (y : ByteArray), e = .returned (.tuple #[.slice a n cap, .string y]) ∧ xs.length = n ∧ n ≤ 5 ∧ (∀ x ∈ xs, x.size ≤ 5000) ∧ y.size ≤ 2 ∧ StrsAt w' a cap xs ∧ Below w.heap.size w w'
theorem infoStr : (Try.prog.info? 9).map (fun i => (i.zero, i.size, i.bytes)) = some (some (.string ⟨#[]⟩), 1, 16) := by kernel_rfl

set_option maxHeartbeats 1000000 in
theorem drawJoin (a : Option Addr) (len cap : Nat) (zs : List Int) (w : World) (h : Frame.IsRow .u8 w a len cap zs) (hl : len ≤ 65536) :
    Calls Try.prog 11 #[.slice a len cap] w (Parts w) := by
  obtain ⟨i0, hi, hz0, hz1, hz2⟩ := info_parts infoStr
  have HI := Lib.hid hi
  have HZ := Lib.hid (And.intro hz0 (And.intro hz1 hz2))
  clear hi hz0 hz1 hz2
  obtain ⟨j0, ji, jz0, jz1, jz2⟩ := info_parts infoByte
  have JI := Lib.hid ji
  have JZ := Lib.hid (And.intro jz0 (And.intro jz1 jz2))
  clear ji jz0 jz1 jz2
  have HC := cur_new h hl
  have HO := owns_start (w.alloc (.cells #[.slice a len cap, .int .i64 0, .int .u64 0] 44))
  have H0 := Lib.hid (show Coll w 0 0 0 (.slice (some ⟨w.heap.size + 1, 0, none⟩) 0 0) ((w.alloc (.cells #[.slice a len cap, .int .i64 0, .int .u64 0] 44)).alloc (.cells #[] 9)) from
    ⟨[], rfl, (fun x hx => by cases hx), by rw [World.size_alloc] at HO; exact HO, HC.kept ((Below.refl _ _).alloc (Nat.le_refl _) _), ((Below.refl _ w).alloc (Nat.le_refl _) _).alloc (by simp) _, by simp⟩)
  clear h HC HO
  go_enter Try.func11, Try.ntmps11
  go_wp2_with fail
  refine (pick w.heap.size 0 4 _ (H0.out.choose_spec.2.2.2.1) (by omega) (by omega) (by omega)).mono ?_
  rintro e w1 ⟨r, rfl, r0, r1, hc1, hg1⟩
  obtain ⟨n, rfl⟩ := Int.eq_ofNat_of_zero_le r0
  have H1 := Lib.hid (H0.out.step hc1 hg1)
  clear hc1 hg1 H0
  go_wp2_with fail
  go_loopw [5, 7] (fun v i wr => ∃ k : Nat, k ≤ n ∧ i = .int .i64 k ∧ Hid (Coll w 0 k (2 + 2 * k) v wr)) (fun _ i _ => n - (intOf i).toNat)
  case atStart => exact ⟨0, Nat.zero_le _, rfl, H1⟩
  case round =>
    clear H1
    obtain ⟨k, hk, rfl, HR⟩ := hrel
    by_cases hlt : k < n
    · go_wp2_with fail
      refine (any1 w.heap.size (2 + 2 * k) _ (HR.out.choose_spec.2.2.2.1) (by omega)).mono ?_
      rintro e w2 ⟨x, rfl, hx, hc2, hg2⟩
      have H2 := HR.out.step hc2 hg2
      clear hc2 hg2 HR
      obtain ⟨xs, hxl, hxs, hown, hcur, hbl, hsz⟩ := H2
      have HXS := Lib.hid hxs
      have HCU := Lib.hid hcur
      have HXL := Lib.hid hxl
      clear hxl hxs hcur
      go_wp2_with (at_builtin; refine wpList_append_own _ rfl (.tmp 19) (.tmp 22) 26 rfl (w.heap.size + 1) 9 i0 (.string ⟨#[]⟩) 1 16 Try.underlying26 HI.out HZ.out.1 HZ.out.2.1 HZ.out.2.2 rfl (by decide) _ _ _ rfl (hown.alloc _) ⟨_, 0, none⟩ 1 1 [.string x] rfl rfl ?c1 ?c2 ?c3 ?c4 ?c5 ?c6)
      case c1 => exact cell_one_new w2 _ 9
      case c2 => intro u hu; simp only [List.mem_singleton] at hu; subst hu; rfl
      case c3 => unfold maxLen; omega
      case c4 => omega
      case c5 => simp; omega
      case c6 =>
        intro v' w3 hown' hgrow _
        have H3 := Lib.hid (show Coll w 0 (k + 1) (2 + 2 * k + 2) v' w3 from push HXL.out HXS.out hown HCU.out hbl hsz (by omega) hown' hgrow)
        clear hown' hgrow hown HCU HXS hbl hsz
        go_wp2_with fail
        go_roundw
        case rel => exact ⟨k + 1, by omega, by go_num, H3⟩
        case measure => simp [intOf]; omega
    · go_wp2_with fail
      refine (one w.heap.size (2 + 2 * k) 20 _ (HR.out.choose_spec.2.2.2.1) (by omega) (by omega) (by omega)).mono ?_
      rintro e w2 ⟨q, rfl, hc2, hg2⟩
      have H2 := Lib.hid (HR.out.step hc2 hg2)
      clear hc2 hg2 HR
      cases q with
      | false =>
        go_wp2_with fail
        refine (of_lit w.heap.size (2 + 2 * k + 2) joinSeps w2 (H2.out.choose_spec.2.2.2.1) (by omega) (by decide) (by decide)).mono ?_
        rintro e w3 ⟨y, hy, rfl, hc3, hg3⟩
        have hs := small_of joinSeps 2 (by decide +kernel) y hy
        have H3 := H2.out.step hc3 hg3
        clear hc3 hg3 H2 hy
        obtain ⟨xs, hxl, hxs, hown, hcur, hbl, hsz⟩ := H3
        obtain ⟨sa, scap, rfl, hS⟩ := strs_of_any hxl hown
        have HF := Lib.hid (And.intro hxl (And.intro hxs hS))
        clear hown hcur hsz hxl hxs hS
        go_wp2_with fail
        go_ret2
        exact ⟨k, sa, scap, xs, y, rfl, HF.out.1, by omega, HF.out.2.1, hs, HF.out.2.2, hbl⟩
      | true =>
        go_wp2_with fail
        refine (pick w.heap.size (2 + 2 * k + 2) 20 _ (H2.out.choose_spec.2.2.2.1) (by omega) (by omega) (by omega)).mono ?_
        rintro e w3 ⟨r, rfl, r0, r1, hc3, hg3⟩
        obtain ⟨z, rfl⟩ := Int.eq_ofNat_of_zero_le r0
        have H3 := H2.out.step hc3 hg3
        clear hc3 hg3 H2
        go_wp2_with (at_make; refine wpList_make_full _ rfl (.tmp 29) (.tmp 29) 22 rfl (w.heap.size + 1) 5 j0 (.int .u8 0) 1 Try.underlying22 JI.out JZ.out.1 JZ.out.2.1 .i64 .i64 _ _ (3990 + z) rfl rfl ?c1 ?c2 ?c3 ?c4 ?c5 ?c6)
        case c1 => omega
        case c2 => omega
        case c3 => rw [JZ.out.2.2]; omega
        case c4 => unfold maxLen; omega
        case c5 => exact H3.choose_spec.2.2.2.2.2
        case c6 =>
          intro w4 hownb hgrow
          rw [toList_madeCells_one] at hownb
          obtain ⟨Z, hZs, hcv⟩ : ∃ Z : ByteArray, Z.size ≤ 5000 ∧ (convert 22 9 (.slice (some ⟨w3.heap.size, 0, none⟩) (3990 + z) (3990 + z))).run Try.prog w4 = .ok (.string Z) w4 := by
            refine ⟨⟨(List.replicate (3990 + z) (0 : UInt8)).toArray⟩, ?_, ?_⟩
            · show (List.replicate (3990 + z) (0 : UInt8)).toArray.size ≤ 5000
              rw [List.size_toArray, List.length_replicate]
              omega
            · have := run_convert_bytes_back (P := Try.prog) w4 22 9 5 ⟨w3.heap.size, 0, none⟩ (3990 + z) (List.replicate (3990 + z) 0) Try.underlying22 Try.underlying5 Try.underlying9 (zero_cells hownb)
              rw [List.length_replicate] at this
              exact this
          have hb34 : Below w3.heap.size w3 w4 := (Below.refl _ w3).grown hgrow (Nat.le_refl _) (fun j hj => by cases hj)
          have H4 := H3.below hb34
          clear hownb hgrow hb34 H3
          obtain ⟨xs, hxl, hxs, hown, hcur, hbl, hsz⟩ := H4
          have HXS := Lib.hid hxs
          have HCU := Lib.hid hcur
          have HXL := Lib.hid hxl
          clear hxl hxs hcur
          go_wp2_with (at_builtin; refine wpList_append_own _ rfl (.tmp 26) (.tmp 32) 26 rfl (w.heap.size + 1) 9 i0 (.string ⟨#[]⟩) 1 16 Try.underlying26 HI.out HZ.out.1 HZ.out.2.1 HZ.out.2.2 rfl (by decide) _ _ _ rfl (hown.alloc _) ⟨_, 0, none⟩ 1 1 [.string Z] rfl rfl ?d1 ?d2 ?d3 ?d4 ?d5 ?d6)
          case d1 => exact cell_one_new w4 _ 9
          case d2 => intro u hu; simp only [List.mem_singleton] at hu; subst hu; rfl
          case d3 => unfold maxLen; omega
          case d4 => omega
          case d5 => simp; omega
          case d6 =>
            intro v' w5 hown' hgrow _
            have H5 := Lib.hid (show Coll w 0 (k + 1) (2 + 2 * k + 2 + 2) v' w5 from push HXL.out HXS.out hown HCU.out hbl hsz hZs hown' hgrow)
            clear hown' hgrow hown HCU HXS hbl hsz hcv
            go_wp2_with fail
            refine (of_lit w.heap.size (2 + 2 * k + 2 + 2) joinSeps w5 (H5.out.choose_spec.2.2.2.1) (by omega) (by decide) (by decide)).mono ?_
            rintro e w6 ⟨y, hy, rfl, hc6, hg6⟩
            have hs := small_of joinSeps 2 (by decide +kernel) y hy
            have H6 := H5.out.step hc6 hg6
            clear hc6 hg6 H5 hy
            obtain ⟨xs2, hxl, hxs, hown, hcur, hbl, hsz⟩ := H6
            obtain ⟨sa, scap, rfl, hS⟩ := strs_of_any hxl hown
            have HF := Lib.hid (And.intro hxl (And.intro hxs hS))
            clear hown hcur hsz hxl hxs hS
            go_wp2_with fail
            go_ret2
            exact ⟨k + 1, sa, scap, xs2, y, rfl, HF.out.1, by omega, HF.out.2.1, hs, HF.out.2.2, hbl⟩
end Go.Proofs.Ytlenpaeaaobhhaa.Draw
