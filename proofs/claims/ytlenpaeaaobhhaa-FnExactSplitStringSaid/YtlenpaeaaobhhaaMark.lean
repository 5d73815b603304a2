/- The laws' helpers markText, markStringS, heldStringS. -/
import Derived.Test.YtlenpaeaaobhhaaStrs
import Derived.WalkLawsBesides
import Derived.Lib.QuietBelow
import Derived.IntWalk
namespace Go.Proofs.Ytlenpaeaaobhhaa.Mark
open Go.RowKit Strs
set_option linter.unusedVariables false

def dgt (k : Nat) : UInt8 := UInt8.ofNat (48 + k % 10)
/-- the digits of a positive number ahead of what is there -/
def digs (k : Nat) (acc : List UInt8) : List UInt8 :=
  if h : k = 0 then acc else digs (k / 10) (dgt k :: acc)
termination_by k
decreasing_by omega
theorem digs_zero (acc : List UInt8) : digs 0 acc = acc := by rw [digs]; rfl
theorem digs_pos (k : Nat) (acc : List UInt8) (h : 0 < k) : digs k acc = digs (k / 10) (dgt k :: acc) := by rw [digs, dif_neg (by omega)]
def mt (k : Nat) : ByteArray := ⟨((109 : UInt8) :: digs k []).toArray⟩
theorem byte_eq (k : Nat) : ((dgt k).toNat : Int) = 48 + (k : Int) % 10 := by
  unfold dgt; rw [UInt8.toNat_ofNat']; omega

set_option maxHeartbeats 400000 in
theorem markText (K : Nat) (w : World) (h0 : 0 < K) (h1 : K ≤ 9000000) :
    Calls Try.prog 34 #[.int .i64 K] w fun e w' => e = .returned (.string (mt K)) ∧ Below w.heap.size w w' := by
  go_enter Try.func34, Try.ntmps34
  go_wp2_with fail
  go_loopw [0, 3] (fun k o wr => ∃ (q : Nat) (acc : List UInt8), q ≤ K ∧ k = .int .i64 q ∧ o = .string ⟨acc.toArray⟩ ∧ acc.length + q ≤ K ∧ Hid (digs q acc = digs K []) ∧ Below w.heap.size w wr) (fun k _ _ => (intOf k).toNat)
  case atStart => exact ⟨K, [], Nat.le_refl _, rfl, rfl, by simp, rfl, Below.refl _ _⟩
  case round =>
    obtain ⟨q, acc, hq, rfl, rfl, hl, HD, hb⟩ := hrel
    by_cases hpos : 0 < q
    · have HS := Lib.hid (digs_pos q acc hpos)
      have hcv : (convert 22 9 (.slice (some ⟨wr.heap.size, 0, none⟩) 1 1)).run Try.prog (wr.alloc (.cells #[.int .u8 (48 + (q : Int) % 10)] 5)) = .ok (.string ⟨#[dgt q]⟩) (wr.alloc (.cells #[.int .u8 (48 + (q : Int) % 10)] 5)) := by
        refine run_convert_bytes_back _ 22 9 5 ⟨wr.heap.size, 0, none⟩ 1 [dgt q] Try.underlying22 Try.underlying5 Try.underlying9 (fun j hj => ?_)
        have : j = 0 := by simpa using hj
        subst this
        have h2 := cell_one_new wr (.int .u8 (48 + (q : Int) % 10)) 5 0 _ rfl
        rw [h2]
        show some (Value.int .u8 (48 + (q : Int) % 10)) = some (Value.int .u8 ((dgt q).toNat : Int))
        rw [byte_eq]
      have HE := Lib.hid (show (⟨#[dgt q]⟩ : ByteArray) ++ ⟨acc.toArray⟩ = ⟨(dgt q :: acc).toArray⟩ from by apply ByteArray.ext; simp)
      go_wp2_with fail
      have hb2 := hb.alloc hb.size (.cells #[.int .u8 (48 + (q : Int) % 10)] 5)
      go_roundw
      case rel => exact ⟨q / 10, dgt q :: acc, by omega, by go_num, by rw [HE.out], by simp; omega, by show _ = _; rw [← HS.out]; exact HD.out, hb2⟩
      case measure => simp [intOf]; omega
    · obtain rfl : q = 0 := by omega
      have HE := Lib.hid (show (⟨#[109]⟩ : ByteArray) ++ ⟨acc.toArray⟩ = mt K from by
        have := HD.out
        rw [digs_zero] at this
        subst this
        apply ByteArray.ext
        simp [mt])
      go_wp2_with fail
      go_ret
      exact ⟨congrArg (fun b => Ending.returned (.string b)) HE.out, hb⟩

/-- The cells of a slice of n strings of the call's own, which are written over. -/
def marks (m n : Nat) (ys : List ByteArray) (k : Nat) : List Value := ((List.range k).map fun j => Value.string (mt (m + j))) ++ (ys.drop k).map Value.string
theorem marks_zero (m n : Nat) (ys : List ByteArray) : marks m n ys 0 = ys.map Value.string := by simp [marks]
theorem marks_len (m n k : Nat) (ys : List ByteArray) (hn : ys.length = n) (hk : k ≤ n) : (marks m n ys k).length = n := by
  unfold marks
  rw [List.length_append, List.length_map, List.length_range, List.length_map, List.length_drop]
  omega
theorem marks_set (m n k : Nat) (ys : List ByteArray) (hn : ys.length = n) (hk : k < n) : (marks m n ys k).set k (.string (mt (m + k))) = marks m n ys (k + 1) := by
  unfold marks
  have hl : ((List.range k).map fun j => Value.string (mt (m + j))).length = k := by simp
  rw [List.set_append_right _ _ (by omega), hl, Nat.sub_self]
  have hd : ys.drop k = ys[k] :: ys.drop (k + 1) := List.drop_eq_getElem_cons (by omega)
  rw [hd, List.map_cons, List.set_cons_zero, List.range_succ, List.map_append, List.append_assoc]
  rfl
theorem marks_all (m n : Nat) (ys : List ByteArray) (hn : ys.length = n) (j : Nat) (hj : j < n) : (marks m n ys n)[j]? = some (.string (mt (m + j))) := by
  unfold marks
  rw [List.getElem?_append_left (by simpa using hj), List.getElem?_map, List.getElem?_range hj]
  rfl
theorem marks_at (m n k : Nat) (ys : List ByteArray) (hn : ys.length = n) (hk : k < n) : ∃ u, (marks m n ys k)[k]? = some (.string u) := by
  unfold marks
  have hl : ((List.range k).map fun j => Value.string (mt (m + j))).length = k := by simp
  rw [List.getElem?_append_right (by omega), hl, Nat.sub_self]
  have hd : ys.drop k = ys[k] :: ys.drop (k + 1) := List.drop_eq_getElem_cons (by omega)
  rw [hd]
  exact ⟨_, rfl⟩

/-- Row of n strings at the head of block g: what it holds. -/
def RowAt (w : World) (base g n cap : Nat) (xs : List Value) : Prop := w.ownsRow base 9 1 (.slice (some ⟨g, 0, none⟩) n cap) n xs
def Marked (w : World) (base g n cap m : Nat) (ys : List ByteArray) (e : Ending) (w' : World) : Prop :=
  e = .returned (.int .i64 (m + n : Nat)) ∧ RowAt w' base g n cap (marks m n ys n) ∧ Below base w w' ∧ w.heap.size ≤ w'.heap.size

set_option maxHeartbeats 400000 in
theorem markStringS (base g n cap m : Nat) (ys : List ByteArray) (w : World) (hn : ys.length = n) (hcap : n ≤ cap) (hm0 : 0 < m) (hm : m + n ≤ 8000000) (hbase : base ≤ w.heap.size) (h : RowAt w base g n cap (marks m n ys 0)) :
    Calls Try.prog 19 #[.slice (some ⟨g, 0, none⟩) n cap, .int .i64 m] w (Marked w base g n cap m ys) := by
  have HN := Lib.hid hn
  have H0 := Lib.hid h
  have hg : base ≤ g ∧ g < w.heap.size := h.lt g rfl
  clear hn h
  go_enter Try.func19, Try.ntmps19
  go_wp2_with fail
  go_loopw [1, 5] (fun q i wr => ∃ k : Nat, k ≤ n ∧ i = .int .i64 k ∧ q = .int .i64 (m + k : Nat) ∧ Hid (RowAt wr base g n cap (marks m n ys k)) ∧ Below base w wr ∧ w.heap.size ≤ wr.heap.size) (fun _ i _ => n - (intOf i).toNat)
  case atStart => exact ⟨0, Nat.zero_le _, rfl, rfl, H0, Below.refl _ _, Nat.le_refl _⟩
  case round =>
    clear H0
    obtain ⟨k, hk, rfl, rfl, HR, hb, hz⟩ := hrel
    by_cases hlt : k < n
    · go_wp2_with fail
      refine (markText (m + k) _ (by omega) (by omega)).mono ?_
      rintro e w1 ⟨rfl, hb1⟩
      have hrow1 : RowAt w1 base g n cap (marks m n ys k) := by
        refine World.ownsRow.kept (row := none) HR.out ⟨hb1.os, hb1.tape, hb1.output, hb1.size, fun j hj _ => hb1.block j hj⟩ ?_
        exact .inr (by simp [Value.ownBlock])
      obtain ⟨u, hu⟩ := marks_at m n k ys HN.out hlt
      have hcell : w1.cell? ⟨g, k, none⟩ = some (.string u) := by rw [hrow1.cellAt k (by omega)]; exact hu
      have hfr : w1.frozen? ⟨g, k, none⟩ = false := hrow1.frozenAt k
      have HS := Lib.hid (hrow1.stored k (.string (mt (m + k)))).1
      rw [marks_set m n k ys HN.out hlt] at HS
      have hb2 : Below base w (w1.setCell ⟨g, k, none⟩ (.string (mt (m + k)))) := ((hb.trans (hb1.mono (by omega))).setCell hg.1 _)
      have hz2 : w.heap.size ≤ w1.heap.size := Nat.le_trans hz hb1.size
      clear hrow1 hb1
      generalize mt (m + k) = T at *
      go_wp2_with fail
      go_roundw
      case rel => exact ⟨k + 1, by omega, by go_num, by go_num, HS, hb2, by simp; exact hz2⟩
      case measure => simp [intOf]; omega
    · obtain rfl : k = n := by omega
      go_wp2_with fail
      go_ret
      exact ⟨rfl, HR.out, hb, hz⟩

set_option maxHeartbeats 400000 in
theorem heldStringS (base g n cap m : Nat) (ys : List ByteArray) (w : World) (hn : ys.length = n) (hcap : n ≤ cap) (hm0 : 0 < m) (hm : m + n ≤ 8000000) (h : RowAt w base g n cap (marks m n ys n)) :
    Calls Try.prog 20 #[.slice (some ⟨g, 0, none⟩) n cap, .int .i64 m] w fun e w' => e = .returned (.int .i64 (m + n : Nat)) ∧ Below w.heap.size w w' := by
  have HN := Lib.hid hn
  have H0 := Lib.hid h
  have hg : base ≤ g ∧ g < w.heap.size := h.lt g rfl
  obtain ⟨hg1, hg2⟩ := hg
  clear hn h
  go_enter Try.func20, Try.ntmps20
  go_wp2_with fail
  go_loopw [1, 5] (fun q i wr => ∃ k : Nat, k ≤ n ∧ i = .int .i64 k ∧ q = .int .i64 (m + k : Nat) ∧ Below w.heap.size w wr) (fun _ i _ => n - (intOf i).toNat)
  case atStart => exact ⟨0, Nat.zero_le _, rfl, rfl, Below.refl _ _⟩
  case round =>
    obtain ⟨k, hk, rfl, rfl, hb⟩ := hrel
    by_cases hlt : k < n
    · have hcell : wr.cell? ⟨g, k, none⟩ = some (.string (mt (m + k))) := by
        rw [hb.cell (p := ⟨g, k, none⟩) hg2, H0.out.cellAt k (by omega)]
        exact marks_all m n ys HN.out k hlt
      have hcells : ∀ d os, (Sort.grow (redrawn wr d) os).cell? ⟨g, k, none⟩ = some (.string (mt (m + k))) := fun d os => cell_regrown hcell d os
      have HT := Lib.hid (fun W => markText (m + k) W (by omega) (by omega))
      have k0 : 0 ≤ (k : Int) := by omega
      have k1 : (k : Int) < (n : Int) := by omega
      clear hcell
      go_wp2_with fail
      refine wp_region_quiet_below (by kernel_rfl) (by kernel_rfl) ?_
      repeat (quiet_step ((go_at_call 34; exact Calls.regrown_of (HT.out _))))
      refine wpQuiet_nil ?_
      intro _ hw'
      obtain ⟨⟨dq, osq⟩, hw''⟩ := hw'
      subst hw''
      have hb2 : Below w.heap.size w (Sort.grow (redrawn wr dq) osq) := hb.trans ((below_regrown wr dq osq).mono hb.size)
      clear hcells HT
      go_wp2_with fail
      go_roundw
      case rel => exact ⟨k + 1, by omega, by go_num, by go_num, hb2⟩
      case measure => simp [intOf]; omega
    · obtain rfl : k = n := by omega
      go_wp2_with fail
      go_ret
      exact ⟨rfl, hb⟩
end Go.Proofs.Ytlenpaeaaobhhaa.Mark
