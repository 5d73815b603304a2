/- spec.DrawFormatInt, spec.DrawParseInt, spec.DrawAppendChecksum: what they answer is bounded. -/
import Derived.Test.YtlenpaeaaobhhaaDoorAmong
import Derived.Test.YtlenpaeaaobhhaaDoorNum
import Derived.Test.YtlenpaeaaobhhaaDoorSum
import Derived.OwnWalk
namespace Go.Proofs.YtlenpaeaaobhhaaDoor.Draw
open Go.RowKit Cur
set_option linter.unusedVariables false

def AnInt (w : World) (e : Ending) (w' : World) : Prop := ∃ n : Int, e = .returned (.int .i64 n) ∧ -1000000 ≤ n ∧ n ≤ 1000000 ∧ Below w.heap.size w w'
set_option maxHeartbeats 400000 in
theorem drawFormat (a : Option Addr) (len cap : Nat) (zs : List Int) (w : World) (h : Frame.IsRow .u8 w a len cap zs) (hl : len ≤ 65536) :
    Calls Tryd.prog 9 #[.slice a len cap] w (AnInt w) := by
  have HC := Lib.hid (cur_new h hl)
  clear h
  go_enter Tryd.func9, Tryd.ntmps9
  go_wp2_with fail
  refine (pick w.heap.size 0 1000 _ HC.out (by omega) (by omega) (by omega)).mono ?_
  rintro e w1 ⟨r, rfl, r0, r1, hc1, hg1⟩
  have HC1 := Lib.hid hc1
  clear hc1 HC
  go_wp2_with fail
  refine (among_lit w.heap.size (0 + 2) [0, 1, -1, 10, 999999, -999999, 1000000, -1000000, r - 500] w1 HC1.out (by omega) (by simp) (by simp)).mono ?_
  rintro e w2 ⟨y, hy, rfl, hc2, hg2⟩
  have hb := below_cur (grown_trans hg1 hg2)
  have hs : -1000000 ≤ y ∧ y ≤ 1000000 := by
    simp only [List.mem_cons, List.not_mem_nil, or_false] at hy
    omega
  clear hc2 hg1 hg2 HC1 hy
  go_wp2_with fail
  go_ret
  exact ⟨y, rfl, hs.1, hs.2, hb⟩

def AStr (w : World) (k : Nat) (e : Ending) (w' : World) : Prop := ∃ x : ByteArray, e = .returned (.string x) ∧ x.size ≤ k ∧ Below w.heap.size w w'
def nums : List ByteArray := [⟨#[]⟩, ⟨#[45]⟩, ⟨#[45, 48]⟩, ⟨#[48, 48]⟩, ⟨#[48, 49]⟩, ⟨#[45, 45, 49]⟩, ⟨#[49, 120]⟩, ⟨#[57, 57, 57, 57, 57, 57]⟩, ⟨#[49, 48, 48, 48, 48, 48, 48]⟩, ⟨#[45, 57, 57, 57, 57, 57, 57]⟩, ⟨#[49, 56, 52, 52, 54, 55, 52, 52, 48, 55, 51, 55, 48, 57, 53, 53, 49, 54, 49, 55]⟩]
set_option maxHeartbeats 400000 in
theorem drawParse (a : Option Addr) (len cap : Nat) (zs : List Int) (w : World) (h : Frame.IsRow .u8 w a len cap zs) (hl : len ≤ 65536) :
    Calls Tryd.prog 12 #[.slice a len cap] w (AStr w 30) := by
  have HC := Lib.hid (cur_new h hl)
  clear h
  go_enter Tryd.func12, Tryd.ntmps12
  go_wp2_with fail
  refine (one w.heap.size 0 2 _ HC.out (by omega) (by omega) (by omega)).mono ?_
  rintro e w1 ⟨q, rfl, hc1, hg1⟩
  have HC1 := Lib.hid hc1
  clear hc1 HC
  cases q with
  | true =>
    go_wp2_with fail
    refine (of_lit w.heap.size (0 + 2) nums w1 HC1.out (by omega) (by decide) (by decide)).mono ?_
    rintro e w2 ⟨y, hy, rfl, hc2, hg2⟩
    have hs := small_of nums 30 (by decide +kernel) y hy
    have hb := below_cur (grown_trans hg1 hg2)
    clear hc2 hg1 hg2 HC1 hy
    go_wp2_with fail
    go_ret
    exact ⟨y, rfl, hs, hb⟩
  | false =>
    go_wp2_with fail
    refine (pick w.heap.size (0 + 2) 2000 _ HC1.out (by omega) (by omega) (by omega)).mono ?_
    rintro e w2 ⟨r, rfl, r0, r1, hc2, hg2⟩
    have hb := below_cur (grown_trans hg1 hg2)
    clear hc2 hg1 hg2 HC1
    go_wp2_with fail
    refine (Num.l1Num _ _ (by omega) (by omega)).mono ?_
    rintro e w3 ⟨rfl, k, rfl⟩
    have hlen := Lib.itoa_length_le (r - 1000) (by omega) (by omega)
    have hs : (⟨(Lib.itoa (r - 1000)).toArray⟩ : ByteArray).size ≤ 30 := by
      show (Lib.itoa (r - 1000)).toArray.size ≤ 30
      rw [List.size_toArray]
      omega
    have hb2 : Below w.heap.size w (w2.drewN k) := hb.trans ⟨rfl, rfl, rfl, Nat.le_refl _, fun _ _ => rfl⟩
    go_wp2_with fail
    go_ret
    exact ⟨_, rfl, hs, hb2⟩

theorem infoByte : (Tryd.prog.info? 5).map (fun i => (i.zero, i.size, i.bytes)) = some (some (.int .u8 0), 1, 1) := by kernel_rfl
theorem zero_cells {w : World} {base g n : Nat} (h : w.ownsRow base 5 1 (.slice (some ⟨g, 0, none⟩) n n) n (List.replicate n (.int .u8 0))) :
    ∀ j (hj : j < (List.replicate n (0 : UInt8)).length), w.cell? ((⟨g, 0, none⟩ : Addr).add j) = some (.int .u8 ((List.replicate n (0 : UInt8))[j].toNat : Int)) := by
  intro j hj
  have hj' : j < n := by simpa using hj
  have e : ((⟨g, 0, none⟩ : Addr).add j) = ⟨g, 0 + j, none⟩ := Go.WideShapes.add_plain g 0 j
  rw [e, Nat.zero_add, h.cellAt j (by omega), List.getElem?_replicate, if_pos hj']
  simp
set_option maxHeartbeats 400000 in
theorem drawAppend (a : Option Addr) (len cap : Nat) (zs : List Int) (w : World) (h : Frame.IsRow .u8 w a len cap zs) (hl : len ≤ 65536) :
    Calls Tryd.prog 15 #[.slice a len cap] w (AStr w 5000) := by
  obtain ⟨j0, ji, jz0, jz1, jz2⟩ := info_parts infoByte
  have JI := Lib.hid ji
  have JZ := Lib.hid (And.intro jz0 (And.intro jz1 jz2))
  clear ji jz0 jz1 jz2
  have HC := Lib.hid (cur_new h hl)
  clear h
  go_enter Tryd.func15, Tryd.ntmps15
  go_wp2_with fail
  refine (one w.heap.size 0 20 _ HC.out (by omega) (by omega) (by omega)).mono ?_
  rintro e w1 ⟨q, rfl, hc1, hg1⟩
  have HC1 := Lib.hid hc1
  clear hc1 HC
  cases q with
  | false =>
    go_wp2_with fail
    refine (any1 w.heap.size (0 + 2) _ HC1.out (by omega)).mono ?_
    rintro e w2 ⟨y, rfl, hs, hc2, hg2⟩
    have hb := below_cur (grown_trans hg1 hg2)
    have hs2 : y.size ≤ 5000 := by omega
    clear hc2 hg1 hg2 HC1 hs
    go_wp2_with fail
    go_ret
    exact ⟨y, rfl, hs2, hb⟩
  | true =>
    go_wp2_with fail
    refine (pick w.heap.size (0 + 2) 10 _ HC1.out (by omega) (by omega) (by omega)).mono ?_
    rintro e w2 ⟨r, rfl, r0, r1, hc2, hg2⟩
    obtain ⟨z, rfl⟩ := Int.eq_ofNat_of_zero_le r0
    have hb := below_cur (grown_trans hg1 hg2)
    clear hc2 hg1 hg2 HC1
    go_wp2_with (at_make; refine wpList_make_full _ rfl (.tmp 11) (.tmp 11) 22 rfl w2.heap.size 5 j0 (.int .u8 0) 1 Tryd.underlying22 JI.out JZ.out.1 JZ.out.2.1 .i64 .i64 _ _ (3990 + z) rfl rfl ?c1 ?c2 ?c3 ?c4 ?c5 ?c6)
    case c1 => omega
    case c2 => omega
    case c3 => rw [JZ.out.2.2]; omega
    case c4 => unfold maxLen; omega
    case c5 => exact Nat.le_refl _
    case c6 =>
      intro w4 hownb hgrow
      rw [toList_madeCells_one] at hownb
      obtain ⟨Z, hZs, hcv⟩ : ∃ Z : ByteArray, Z.size ≤ 5000 ∧ (convert 22 9 (.slice (some ⟨w2.heap.size, 0, none⟩) (3990 + z) (3990 + z))).run Tryd.prog w4 = .ok (.string Z) w4 := by
        refine ⟨⟨(List.replicate (3990 + z) (0 : UInt8)).toArray⟩, ?_, ?_⟩
        · show (List.replicate (3990 + z) (0 : UInt8)).toArray.size ≤ 5000
          rw [List.size_toArray, List.length_replicate]
          omega
        · have := run_convert_bytes_back (P := Tryd.prog) w4 22 9 5 ⟨w2.heap.size, 0, none⟩ (3990 + z) (List.replicate (3990 + z) 0) Tryd.underlying22 Tryd.underlying5 Tryd.underlying9 (zero_cells hownb)
          rw [List.length_replicate] at this
          exact this
      have hb4 : Below w.heap.size w w4 := hb.trans (((Below.refl _ w2).grown hgrow (Nat.le_refl _) (fun j hj => by cases hj)).mono hb.size)
      clear hownb hgrow hb
      go_wp2_with fail
      go_ret
      exact ⟨Z, rfl, hZs, hb4⟩
end Go.Proofs.YtlenpaeaaobhhaaDoor.Draw
