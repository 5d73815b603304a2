/- A rule read from its line: the program's ParseRule. The laid package variables of strconv must lie in memory. -/
import Derived.Test.YtankaffhapcnaaaDoorPRuleW
import Derived.Test.YtankaffhapcnaaaDoorLineI
import Derived.Test.YtankaffhapcnaaaDoorReadImpl
import Derived.Test.YtankaffhapcnaaaDoorSplitAny
namespace Go.Proofs.YtankaffhapcnaaaDoor.PRuleI
open Go.RowKit Bs PRule PRuleW SplitMath NumMath Elems
set_option linter.unusedVariables false
theorem put7_zero (w : World) (g : Nat) : put7 w g r0 =
  ((((((w.setCell ⟨g, 0, none⟩ (.int .i64 0)).setCell ⟨g, 1, none⟩ (.string ⟨#[]⟩)).setCell ⟨g, 2, none⟩ (.int .i64 0)).setCell ⟨g, 3, none⟩ (.bool false)).setCell ⟨g, 4, none⟩ (.bool false)).setCell ⟨g, 5, none⟩ (.bool false)).setCell ⟨g, 6, none⟩ (.int .i64 0) := rfl
/-- ParseInt at any string: a number where it is a numeral, else 0 -/
def RI (l : List UInt8) (w : World) (e : Ending) (w' : World) : Prop := ∃ v ok, e = .returned (.tuple #[.int .i64 v, .bool ok]) ∧ (Numeral l v ∨ ((∀ v, ¬ Numeral l v) ∧ v = 0)) ∧ Below w.heap.size w w'
theorem parseInt (s : ByteArray) (w : World) (hs : s.size ≤ 281474976710656) (vp : Laid.Pow w) (vr : Laid.Err "strconv.ErrRange" w) (vs : Laid.Err "strconv.ErrSyntax" w) :
    Calls Tryd.prog 24 #[.string s] w (RI s.data.toList w) := by
  by_cases h : ∃ v, Numeral s.data.toList v
  · obtain ⟨v, hv⟩ := h
    exact (Read.impl_yes s v w hv vp).mono fun e w' ⟨he, hb⟩ => ⟨v, true, he, .inl hv, hb⟩
  · have hn : ∀ v, ¬ Numeral s.data.toList v := fun v hv => h ⟨v, hv⟩
    exact (Read.impl_no s w hs hn vp vr vs).mono fun e w' ⟨he, hb⟩ => ⟨0, false, he, .inr ⟨hn, rfl⟩, hb⟩
def PPost (s : ByteArray) (w : World) (e : Ending) (w' : World) : Prop := ∃ r ok, e = .returned (.tuple #[.agg #[.int .i64 r.id, .string r.name, .int .i64 r.rank, .bool r.sec, .bool r.deb, .bool r.am, .int .i64 r.need], .bool ok]) ∧ Ans s r ok ∧ Below w.heap.size w w'
theorem piece_le {l x : List UInt8} {c : UInt8} (h : x ∈ splitOf l c) : x.length ≤ l.length := by
  have key : ∀ (l : List UInt8) (p : List (List UInt8) × List UInt8) (n : Nat), (∀ y ∈ p.1, y.length ≤ n) → p.2.length ≤ n → ∀ y ∈ (l.foldl (splStep c) p).1 ++ [(l.foldl (splStep c) p).2], y.length ≤ n + l.length := by
    intro l
    induction l with
    | nil =>
      intro p n h1 h2 y hy
      simp only [List.foldl_nil, List.mem_append, List.mem_singleton] at hy
      rcases hy with hy | rfl
      · have := h1 y hy; simp; omega
      · simp; omega
    | cons b l ih =>
      intro p n h1 h2 y hy
      rw [List.foldl_cons] at hy
      have := ih (splStep c p b) (n + 1) (by
        intro z hz
        unfold splStep at hz
        split at hz
        · simp only [List.mem_append, List.mem_singleton] at hz
          rcases hz with hz | rfl
          · have := h1 z hz; omega
          · omega
        · have := h1 z hz; omega) (by
        unfold splStep
        split
        · simp
        · simp; omega) y hy
      rw [List.length_cons]
      omega
  have := key l ([], []) 0 (by simp) (by simp) x h
  omega
theorem withT_name (r : LRule.R) (l : List UInt8) : (withT r l).name = r.name := by
  unfold withT trait
  split
  · rfl
  · split
    · rfl
    · split <;> rfl
theorem readF_name (i : Int) (nm : ByteArray) (rk : Int) (ws : List (List UInt8)) : (readF i nm rk ws).name = nm := by
  have key : ∀ (ws : List (List UInt8)) (r : LRule.R), (ws.foldl withT r).name = r.name := by
    intro ws
    induction ws with
    | nil => intro r; rfl
    | cons x ws ih => intro r; rw [List.foldl_cons, ih, withT_name]
  exact key ws _
theorem readF_next {i : Int} {nm : ByteArray} {rk : Int} {u : List (List UInt8)} {k : Nat} {x : List UInt8} (h : u[k]? = some x) : readF i nm rk (u.take (k + 1)) = withT (readF i nm rk (u.take k)) x := by
  obtain ⟨hk, hx⟩ := List.getElem?_eq_some_iff.1 h
  unfold readF
  rw [List.take_succ_eq_append_getElem hk, hx, List.foldl_append]
  rfl
set_option maxRecDepth 100000 in
set_option maxHeartbeats 4000000 in
theorem impl (s : ByteArray) (w : World) (hs : s.size ≤ 1048576) (vp : Laid.Pow w) (vr : Laid.Err "strconv.ErrRange" w) (vs : Laid.Err "strconv.ErrSyntax" w) :
    Calls Tryd.prog 7 #[.string s] w (PPost s w) := by
  have hb0 := (Below.refl w.heap.size w).alloc (Nat.le_refl _) (.cells zc 25)
  have HZ0 := Lib.hid (Bx.new w 25 zc)
  have hW : w.heap.size < (w.alloc (.cells zc 25)).heap.size := by simp
  simp only [zc] at hb0 HZ0 hW
  by_cases hlong : 4000 < s.size
  · have HN := Lib.hid (none_long (s := s) (by omega))
    have HS := Lib.hid (fun W => impl_bad s ⟨#[32]⟩ (.inl hlong) (by unfold maxLen; omega) W)
    clear hlong
    go_enter Tryd.func7, Tryd.ntmps7
    go_wp2_with fail
    refine (HS.out _).mono ?_
    rintro e w1 ⟨g, cap, rfl, hcap, ho, hb1⟩
    have hb := hb0.trans (hb1.mono hb0.size)
    have HZ := Lib.hid (HZ0.out.kept hb1)
    have HZ2 : Bx w1 w.heap.size 25 (rc r0) := HZ.out
    obtain ⟨z0, z1, z2, z3, z4, z5, z6⟩ := put_cells HZ2
    simp only [r0] at z0 z1 z2 z3 z4 z5 z6
    have hf := HZ.out.frozen
    clear ho hb1
    go_wp2_with fail
    rw [← put7_zero]
    have hbf := put7_below hb (Nat.le_refl _) r0
    obtain ⟨y0, y1, y2, y3, y4, y5, y6⟩ := put_cells (put7_bx HZ2 r0)
    generalize put7 _ w.heap.size r0 = wf at *
    simp only [r0] at y0 y1 y2 y3 y4 y5 y6
    refine bodyPost_ret (v := .tuple #[.agg #[.int .i64 0, .string ⟨#[]⟩, .int .i64 0, .bool false, .bool false, .bool false, .int .i64 0], .bool false]) (by simp [results, Tryd.results7, go_sem, y0, y1, y2, y3, y4, y5, y6]) rfl ?_
    exact ⟨r0, false, rfl, ans_none HN.out, hbf⟩
  have HS := Lib.hid (fun W => impl_res s 32 (by omega) W)
  obtain ⟨ws, hws⟩ : ∃ ws, ws = splitOf s.data.toList 32 := ⟨_, rfl⟩
  have HWS := Lib.hid hws.symm
  have HLE := Lib.hid (show ∀ x ∈ ws, x.length ≤ 4000 from fun x hx => by rw [hws] at hx; have := piece_le hx; simp at this; omega)
  rw [← hws] at HS
  have hwl : ws.length ≤ 4001 := by
    have := splitOf_length s.data.toList 32
    rw [← hws] at this
    simp at this
    omega
  clear hws
  by_cases hfew : ws.length < 4
  · have HN := Lib.hid (none_words HWS.out (by omega))
    go_enter Tryd.func7, Tryd.ntmps7
    go_wp2_with fail
    refine (HS.out _).mono ?_
    rintro e w1 ⟨g, cap, rfl, hcap, ho, hb1⟩
    have hb := hb0.trans (hb1.mono hb0.size)
    have HZ := Lib.hid (HZ0.out.kept hb1)
    have HZ2 : Bx w1 w.heap.size 25 (rc r0) := HZ.out
    obtain ⟨z0, z1, z2, z3, z4, z5, z6⟩ := put_cells HZ2
    simp only [r0] at z0 z1 z2 z3 z4 z5 z6
    have hf := HZ.out.frozen
    clear ho hb1
    go_wp2_with fail
    rw [← put7_zero]
    have hbf := put7_below hb (Nat.le_refl _) r0
    obtain ⟨y0, y1, y2, y3, y4, y5, y6⟩ := put_cells (put7_bx HZ2 r0)
    generalize put7 _ w.heap.size r0 = wf at *
    simp only [r0] at y0 y1 y2 y3 y4 y5 y6
    refine bodyPost_ret (v := .tuple #[.agg #[.int .i64 0, .string ⟨#[]⟩, .int .i64 0, .bool false, .bool false, .bool false, .int .i64 0], .bool false]) (by simp [results, Tryd.results7, go_sem, y0, y1, y2, y3, y4, y5, y6]) rfl ?_
    exact ⟨r0, false, rfl, ans_none HN.out, hbf⟩
  have H4 : ∃ x y0 z0 y u, ws = x :: y0 :: z0 :: y :: u := by
    rcases ws with _ | ⟨x, _ | ⟨y0, _ | ⟨z0, _ | ⟨y, u⟩⟩⟩⟩
    · exact absurd (by simp) hfew
    · exact absurd (by simp) hfew
    · exact absurd (by simp) hfew
    · exact absurd (by simp) hfew
    · exact ⟨_, _, _, _, _, rfl⟩
  obtain ⟨x, nl, z0, y, u, rfl⟩ := H4
  clear hfew
  obtain ⟨nm, hnm⟩ : ∃ nm : ByteArray, nm = ⟨nl.toArray⟩ := ⟨_, rfl⟩
  have HNL := Lib.hid (show nm.data.toList = nl by rw [hnm])
  have HNM := Lib.hid hnm
  clear hnm
  obtain ⟨n, hn⟩ : ∃ n, n = u.length := ⟨_, rfl⟩
  have HUL := Lib.hid hn
  have hwn : (x :: nl :: z0 :: y :: u).length = n + 4 := by simp [hn]
  rw [hwn] at hwl
  clear hn
  have HX1 := Lib.hid (fun W h1 h2 h3 => parseInt ⟨x.toArray⟩ W (by have := HLE.out x (by simp); show x.toArray.size ≤ _; simp; omega) h1 h2 h3)
  have HX2 := Lib.hid (fun W h1 h2 h3 => parseInt ⟨y.toArray⟩ W (by have := HLE.out y (by simp); show y.toArray.size ≤ _; simp; omega) h1 h2 h3)
  have VP := Lib.hid vp
  have VR := Lib.hid vr
  have VS := Lib.hid vs
  clear vp vr vs
  go_enter Tryd.func7, Tryd.ntmps7
  go_wp2_with fail
  refine (HS.out _).mono ?_
  rintro e w1 ⟨g, cap, rfl, hcap, ho, hb1⟩
  rw [hwn] at ho hcap ⊢
  have hb := hb0.trans (hb1.mono hb0.size)
  have HZ := Lib.hid (HZ0.out.kept hb1)
  have HC := Lib.hid (show ∀ j q, ((x :: nl :: z0 :: y :: u) : List (List UInt8))[j]? = some q → w1.cell? ⟨g, j, none⟩ = some (str q) from fun j q hx => by
    have hj : j < (x :: nl :: z0 :: y :: u).length := (List.getElem?_eq_some_iff.1 hx).1
    rw [hwn] at hj
    rw [ho.cellAt j (by omega)]
    show (List.map str _)[j]? = _
    rw [List.getElem?_map, hx]
    rfl)
  have hgl : g < w1.heap.size := (ho.lt g rfl).2
  have hgw : w.heap.size < g := by
    have := (ho.lt g rfl).1
    omega
  have c0 : w1.cell? ⟨g, 0, none⟩ = some (.string ⟨x.toArray⟩) := HC.out 0 _ rfl
  have c1 : w1.cell? ⟨g, 1, none⟩ = some (.string nm) := by rw [HNM.out]; exact HC.out 1 _ rfl
  have c3 : w1.cell? ⟨g, 3, none⟩ = some (.string ⟨y.toArray⟩) := HC.out 3 _ rfl
  have hcm : cap ≤ 9223372036854775807 := by
    rcases ho.2 with ⟨h', _⟩ | ⟨g', cap', cur, h', _, _, hnc, hcm, _⟩
    · simp at h'
    · simp only [Value.slice.injEq, Option.some.injEq, Addr.mk.injEq, and_true, true_and] at h'
      obtain ⟨_, rfl⟩ := h'
      exact hcm
  clear ho hb1 HS hwn HZ0 hb0
  go_wp2_with fail
  refine (HX1.out _ (VP.out.below hb) (VR.out.below hb) (VS.out.below hb)).mono ?_
  rintro e w2 ⟨i, ok1, rfl, hi, hb2⟩
  replace c1 : w2.cell? ⟨g, 1, none⟩ = some (.string nm) := by rw [hb2.cell (p := ⟨g, 1, none⟩) hgl]; exact c1
  replace c3 : w2.cell? ⟨g, 3, none⟩ = some (.string ⟨y.toArray⟩) := by rw [hb2.cell (p := ⟨g, 3, none⟩) hgl]; exact c3
  replace HC := Lib.hid (show ∀ j q, ((x :: nl :: z0 :: y :: u) : List (List UInt8))[j]? = some q → w2.cell? ⟨g, j, none⟩ = some (str q) from fun j q hx => by rw [hb2.cell (p := ⟨g, j, none⟩) hgl]; exact HC.out j q hx)
  replace HZ := Lib.hid (HZ.out.kept hb2)
  replace hgl : g < w2.heap.size := Nat.lt_of_lt_of_le hgl hb2.size
  replace hb := hb.trans (hb2.mono hb.size)
  have HI := Lib.hid hi
  clear hb2 hi
  go_wp2_with fail
  refine (HX2.out _ (VP.out.below hb) (VR.out.below hb) (VS.out.below hb)).mono ?_
  rintro e w3 ⟨rk, ok2, rfl, hr, hb3⟩
  replace c1 : w3.cell? ⟨g, 1, none⟩ = some (.string nm) := by rw [hb3.cell (p := ⟨g, 1, none⟩) hgl]; exact c1
  replace HC := Lib.hid (show ∀ j q, ((x :: nl :: z0 :: y :: u) : List (List UInt8))[j]? = some q → w3.cell? ⟨g, j, none⟩ = some (str q) from fun j q hx => by rw [hb3.cell (p := ⟨g, j, none⟩) hgl]; exact HC.out j q hx)
  replace HZ := Lib.hid (HZ.out.kept hb3)
  replace hgl : g < w3.heap.size := Nat.lt_of_lt_of_le hgl hb3.size
  replace hb := hb.trans (hb3.mono hb.size)
  have HR := Lib.hid hr
  clear hb3 hr c0 c3 VP VR VS HX1 HX2
  have hns : nm.size ≤ 4000 := by
    have := HLE.out nl (by simp)
    rw [HNM.out]
    show nl.toArray.size ≤ _
    simpa using this
  have HF := Lib.hid (fun (q : LRule.R) (hq : Rule.okB q = true) (hl : Line.lineB q = s) => impl_found (nm := nm) (z := z0) (by rw [HNL.out]; exact HWS.out) HI.out HR.out hq hl)
  have HUC := Lib.hid (show ∀ (W : World), Below w3.heap.size w3 W → ∀ (k : Nat) (q : List UInt8), u[k]? = some q → W.cell? ⟨g, 4 + k, none⟩ = some (.string ⟨q.toArray⟩) from fun W hbW k q hq => by
    rw [hbW.cell (p := ⟨g, 4 + k, none⟩) hgl]
    exact HC.out (4 + k) q (by rw [show 4 + k = k + 1 + 1 + 1 + 1 from by omega]; exact hq))
  have HUS := Lib.hid (show ∀ q ∈ u, q.length ≤ 4000 from fun q hq => HLE.out q (by simp [hq]))
  clear HC HLE HWS HNL HNM HI HR
  have hbA := hb.alloc hb.size (.cells #[.int .i64 i, .string nm, .int .i64 rk, .bool false, .bool false, .bool false, .int .i64 0] 25)
  have HBA := Lib.hid (Bx.new w3 25 #[.int .i64 i, .string nm, .int .i64 rk, .bool false, .bool false, .bool false, .int .i64 0])
  have HZA := Lib.hid (HZ.out.alloc (.cells #[.int .i64 i, .string nm, .int .i64 rk, .bool false, .bool false, .bool false, .int .i64 0] 25))
  have h3A := (Below.refl w3.heap.size w3).alloc (Nat.le_refl _) (.cells #[.int .i64 i, .string nm, .int .i64 rk, .bool false, .bool false, .bool false, .int .i64 0] 25)
  have hzl := HZ.out.lt
  by_cases hck : cap = 4
  · obtain rfl : n = 0 := by omega
    subst hck
    go_wp2_with fail
    generalize w3.alloc (.cells #[.int .i64 i, .string nm, .int .i64 rk, .bool false, .bool false, .bool false, .int .i64 0] 25) = w4 at *
    clear c1 HZ hb
    go_loopw [51] (fun s51 wr => ∃ k : Nat, k ≤ 0 ∧ s51 = .int .i64 k ∧ Below w3.heap.size w3 wr ∧ Below w.heap.size w wr ∧ Hid (Bx wr w3.heap.size 25 (rc (readF i nm rk (u.take k)))) ∧ Hid (Bx wr w.heap.size 25 zc)) (fun s51 _ => 0 - (intOf s51).toNat)
    case atStart => exact ⟨0, Nat.zero_le _, rfl, h3A, hbA, HBA, HZA⟩
    case round =>
      clear hbA HBA HZA h3A
      obtain ⟨k, hk, rfl, hb3, hb, HB, HZ⟩ := hrel
      obtain ⟨p0, p1, p2, p3, p4, p5, p6⟩ := put_cells HB.out
      have hf := HB.out.frozen
      obtain ⟨R9, hR9⟩ : ∃ R, R = readF i nm rk (u.take k) := ⟨_, rfl⟩
      rw [← hR9] at p0 p1 p2 p3 p4 p5 p6
      have HR9 := Lib.hid hR9
      clear hR9
      by_cases hlt : k < 0
      · exact absurd hlt (by omega)
      · obtain rfl : k = 0 := by omega
        have hall : u.take 0 = u := by have := HUL.out; rw [List.eq_nil_of_length_eq_zero this.symm]; rfl
        have hname : R9.name.size ≤ 4000 := by rw [HR9.out, readF_name]; exact hns
        have HFR := Lib.hid (show ∀ q : LRule.R, Rule.okB q = true → Line.lineB q = s → R9 = q from fun q hq hl => by rw [HR9.out, hall]; exact HF.out q hq hl)
        clear hall
        go_wp2_with fail
        refine (LineI.impl R9 _ (by show _ ≤ maxLen; unfold maxLen; omega)).mono ?_
        rintro e w6 ⟨l0, b0, rfl, hans, hb6⟩
        have HZ2 : Bx w6 w.heap.size 25 (rc r0) := HZ.out.kept hb6
        have HB2 := HB.out.kept hb6
        rw [← HR9.out] at HB2
        obtain ⟨p0, p1, p2, p3, p4, p5, p6⟩ := put_cells HB2
        obtain ⟨z0, z1, z2, z3, z4, z5, z6⟩ := put_cells HZ2
        simp only [r0] at z0 z1 z2 z3 z4 z5 z6
        have hf := HZ2.frozen
        replace hb := hb.trans (hb6.mono hb.size)
        clear hb6 HB2 hb3
        rcases hans with ⟨hok, rfl, rfl⟩ | ⟨hok, rfl, rfl⟩
        · by_cases heq : Line.lineB R9 = s
          · have HA := Lib.hid (ans_yes hok heq)
            have q1 : ((Line.lineB R9).toList == s.toList) = true := by rw [heq]; simp
            have q2 : ((Line.lineB R9).toList != s.toList) = false := by rw [heq]; simp
            clear heq hok
            go_wp2_with fail
            rw [← put7_def]
            have hbf := put7_below hb (Nat.le_refl _) R9
            obtain ⟨y0, y1, y2, y3, y4, y5, y6⟩ := put_cells (put7_bx HZ2 R9)
            generalize put7 _ w.heap.size R9 = wf at *
            refine bodyPost_ret (v := .tuple #[.agg #[.int .i64 R9.id, .string R9.name, .int .i64 R9.rank, .bool R9.sec, .bool R9.deb, .bool R9.am, .int .i64 R9.need], .bool true]) (by simp [results, Tryd.results7, go_sem, y0, y1, y2, y3, y4, y5, y6]) rfl ?_
            exact ⟨R9, true, rfl, HA.out, hbf⟩
          · have HA := Lib.hid (ans_no (r := R9) HFR.out (fun h => heq h.2))
            have q1 : ((Line.lineB R9).toList == s.toList) = false := by
              rw [beq_eq_false_iff_ne]
              intro e
              rw [ByteArray.toList_eq, ByteArray.toList_eq] at e
              exact heq (ByteArray.ext (Array.ext' e))
            have q2 : ((Line.lineB R9).toList != s.toList) = true := by simp [bne, q1]
            clear heq hok
            go_wp2_with fail
            rw [← put7_zero]
            have hbf := put7_below hb (Nat.le_refl _) r0
            obtain ⟨y0, y1, y2, y3, y4, y5, y6⟩ := put_cells (put7_bx HZ2 r0)
            generalize put7 _ w.heap.size r0 = wf at *
            simp only [r0] at y0 y1 y2 y3 y4 y5 y6
            refine bodyPost_ret (v := .tuple #[.agg #[.int .i64 0, .string ⟨#[]⟩, .int .i64 0, .bool false, .bool false, .bool false, .int .i64 0], .bool false]) (by simp [results, Tryd.results7, go_sem, y0, y1, y2, y3, y4, y5, y6]) rfl ?_
            exact ⟨r0, false, rfl, HA.out, hbf⟩
        · have HA := Lib.hid (ans_no (r := R9) HFR.out (fun h => by rw [hok] at h; cases h.1))
          clear hok
          go_wp2_with fail
          rw [← put7_zero]
          have hbf := put7_below hb (Nat.le_refl _) r0
          obtain ⟨y0, y1, y2, y3, y4, y5, y6⟩ := put_cells (put7_bx HZ2 r0)
          generalize put7 _ w.heap.size r0 = wf at *
          simp only [r0] at y0 y1 y2 y3 y4 y5 y6
          refine bodyPost_ret (v := .tuple #[.agg #[.int .i64 0, .string ⟨#[]⟩, .int .i64 0, .bool false, .bool false, .bool false, .int .i64 0], .bool false]) (by simp [results, Tryd.results7, go_sem, y0, y1, y2, y3, y4, y5, y6]) rfl ?_
          exact ⟨r0, false, rfl, HA.out, hbf⟩
  · go_wp2_with fail
    generalize w3.alloc (.cells #[.int .i64 i, .string nm, .int .i64 rk, .bool false, .bool false, .bool false, .int .i64 0] 25) = w4 at *
    clear c1 HZ hb
    go_loopw [51] (fun s51 wr => ∃ k : Nat, k ≤ n ∧ s51 = .int .i64 k ∧ Below w3.heap.size w3 wr ∧ Below w.heap.size w wr ∧ Hid (Bx wr w3.heap.size 25 (rc (readF i nm rk (u.take k)))) ∧ Hid (Bx wr w.heap.size 25 zc)) (fun s51 _ => n - (intOf s51).toNat)
    case atStart => exact ⟨0, Nat.zero_le _, rfl, h3A, hbA, HBA, HZA⟩
    case round =>
      clear hbA HBA HZA h3A
      obtain ⟨k, hk, rfl, hb3, hb, HB, HZ⟩ := hrel
      obtain ⟨p0, p1, p2, p3, p4, p5, p6⟩ := put_cells HB.out
      have hf := HB.out.frozen
      obtain ⟨R9, hR9⟩ : ∃ R, R = readF i nm rk (u.take k) := ⟨_, rfl⟩
      rw [← hR9] at p0 p1 p2 p3 p4 p5 p6
      have HR9 := Lib.hid hR9
      clear hR9
      by_cases hlt : k < n
      · have hx : k < u.length := by rw [← HUL.out]; exact hlt
        have cx := HUC.out _ hb3 k u[k] (List.getElem?_eq_getElem hx)
        have hus := HUS.out u[k] (List.getElem_mem hx)
        have HN := Lib.hid (readF_next (i := i) (nm := nm) (rk := rk) (List.getElem?_eq_getElem hx))
        generalize u[k] = X at *
        have k0 : 0 ≤ (k : Int) := by omega
        have k1 : (k : Int) < (n : Int) := by omega
        clear hx
        go_wp2_with fail
        refine (withTrait R9 ⟨X.toArray⟩ _ (by show X.toArray.size ≤ _; unfold maxLen; simp; omega)).mono ?_
        rintro e w5 ⟨rfl, hb5⟩
        have HB5 := HB.out.kept hb5
        rw [← HR9.out] at HB5
        have hf5 := HB5.frozen
        obtain ⟨v0, v1, v2, v3, v4, v5, v6⟩ := put_cells HB5
        have HZ5 := Lib.hid (HZ.out.kept hb5)
        have hb3' := hb3.trans (hb5.mono hb3.size)
        have hb' := hb.trans (hb5.mono hb.size)
        have HNE := Lib.hid (show readF i nm rk (u.take (k + 1)) = withT R9 (⟨X.toArray⟩ : ByteArray).data.toList by rw [HN.out, ← HR9.out])
        simp only [rc]
        generalize withT R9 (⟨X.toArray⟩ : ByteArray).data.toList = R5 at *
        clear HN p0 p1 p2 p3 p4 p5 p6 hb5 hf
        go_wp2_with fail
        go_round
        case rel => exact ⟨k + 1, by omega, by go_num, put7_below hb3' (Nat.le_refl _) R5, put7_below hb' (by omega) R5, Lib.hid (by rw [HNE.out]; exact put7_bx HB5 R5), Lib.hid (put7_far HZ5.out (by omega) R5)⟩
        case measure => simp [intOf]; omega
      · obtain rfl : k = n := by omega
        have hall : u.take k = u := by rw [HUL.out]; exact List.take_length
        have hname : R9.name.size ≤ 4000 := by rw [HR9.out, readF_name]; exact hns
        have HFR := Lib.hid (show ∀ q : LRule.R, Rule.okB q = true → Line.lineB q = s → R9 = q from fun q hq hl => by rw [HR9.out, hall]; exact HF.out q hq hl)
        clear hall
        go_wp2_with fail
        refine (LineI.impl R9 _ (by show _ ≤ maxLen; unfold maxLen; omega)).mono ?_
        rintro e w6 ⟨l0, b0, rfl, hans, hb6⟩
        have HZ2 : Bx w6 w.heap.size 25 (rc r0) := HZ.out.kept hb6
        have HB2 := HB.out.kept hb6
        rw [← HR9.out] at HB2
        obtain ⟨p0, p1, p2, p3, p4, p5, p6⟩ := put_cells HB2
        obtain ⟨z0, z1, z2, z3, z4, z5, z6⟩ := put_cells HZ2
        simp only [r0] at z0 z1 z2 z3 z4 z5 z6
        have hf := HZ2.frozen
        replace hb := hb.trans (hb6.mono hb.size)
        clear hb6 HB2 hb3
        rcases hans with ⟨hok, rfl, rfl⟩ | ⟨hok, rfl, rfl⟩
        · by_cases heq : Line.lineB R9 = s
          · have HA := Lib.hid (ans_yes hok heq)
            have q1 : ((Line.lineB R9).toList == s.toList) = true := by rw [heq]; simp
            have q2 : ((Line.lineB R9).toList != s.toList) = false := by rw [heq]; simp
            clear heq hok
            go_wp2_with fail
            rw [← put7_def]
            have hbf := put7_below hb (Nat.le_refl _) R9
            obtain ⟨y0, y1, y2, y3, y4, y5, y6⟩ := put_cells (put7_bx HZ2 R9)
            generalize put7 _ w.heap.size R9 = wf at *
            refine bodyPost_ret (v := .tuple #[.agg #[.int .i64 R9.id, .string R9.name, .int .i64 R9.rank, .bool R9.sec, .bool R9.deb, .bool R9.am, .int .i64 R9.need], .bool true]) (by simp [results, Tryd.results7, go_sem, y0, y1, y2, y3, y4, y5, y6]) rfl ?_
            exact ⟨R9, true, rfl, HA.out, hbf⟩
          · have HA := Lib.hid (ans_no (r := R9) HFR.out (fun h => heq h.2))
            have q1 : ((Line.lineB R9).toList == s.toList) = false := by
              rw [beq_eq_false_iff_ne]
              intro e
              rw [ByteArray.toList_eq, ByteArray.toList_eq] at e
              exact heq (ByteArray.ext (Array.ext' e))
            have q2 : ((Line.lineB R9).toList != s.toList) = true := by simp [bne, q1]
            clear heq hok
            go_wp2_with fail
            rw [← put7_zero]
            have hbf := put7_below hb (Nat.le_refl _) r0
            obtain ⟨y0, y1, y2, y3, y4, y5, y6⟩ := put_cells (put7_bx HZ2 r0)
            generalize put7 _ w.heap.size r0 = wf at *
            simp only [r0] at y0 y1 y2 y3 y4 y5 y6
            refine bodyPost_ret (v := .tuple #[.agg #[.int .i64 0, .string ⟨#[]⟩, .int .i64 0, .bool false, .bool false, .bool false, .int .i64 0], .bool false]) (by simp [results, Tryd.results7, go_sem, y0, y1, y2, y3, y4, y5, y6]) rfl ?_
            exact ⟨r0, false, rfl, HA.out, hbf⟩
        · have HA := Lib.hid (ans_no (r := R9) HFR.out (fun h => by rw [hok] at h; cases h.1))
          clear hok
          go_wp2_with fail
          rw [← put7_zero]
          have hbf := put7_below hb (Nat.le_refl _) r0
          obtain ⟨y0, y1, y2, y3, y4, y5, y6⟩ := put_cells (put7_bx HZ2 r0)
          generalize put7 _ w.heap.size r0 = wf at *
          simp only [r0] at y0 y1 y2 y3 y4 y5 y6
          refine bodyPost_ret (v := .tuple #[.agg #[.int .i64 0, .string ⟨#[]⟩, .int .i64 0, .bool false, .bool false, .bool false, .int .i64 0], .bool false]) (by simp [results, Tryd.results7, go_sem, y0, y1, y2, y3, y4, y5, y6]) rfl ?_
          exact ⟨r0, false, rfl, HA.out, hbf⟩
end Go.Proofs.YtankaffhapcnaaaDoor.PRuleI
