/- A rule read from its line: the model's ParseRule. No condition but the law's bound on the text. -/
import Derived.Test.YtankaffhapcnaaaDoorPRuleX
import Derived.Test.YtankaffhapcnaaaDoorPRuleI
import Derived.Test.YtankaffhapcnaaaDoorHeldA
import Derived.Deep.RegionHeld3
namespace Go.Proofs.YtankaffhapcnaaaDoor.PRuleP
open Go.RowKit Bs PRule PRuleW SplitMath NumMath Elems PRuleI
set_option linter.unusedVariables false
def RP (l : List UInt8) (w : World) (e : Ending) (w' : World) : Prop := ∃ v ok, e = .returned (.tuple #[.int .i64 v, .bool ok]) ∧ ((ok = true ∧ Numeral l v) ∨ (ok = false ∧ ∀ v, ¬ Numeral l v)) ∧ Below w.heap.size w w'
theorem l1Read (s : ByteArray) (w : World) (hs : s.size ≤ maxLen) : Calls Tryd.prog 51 #[.string s] w (RP s.data.toList w) :=
  (Read.l1Read s w hs).mono fun e w' ⟨h, hb⟩ => by
    rcases h with ⟨v, hv, he⟩ | ⟨hn, he⟩
    · exact ⟨v, true, he, .inl ⟨rfl, hv⟩, hb⟩
    · exact ⟨0, false, he, .inr ⟨rfl, hn⟩, hb⟩
theorem in_as (x a b : Int) (ok : Bool) (h : decide (a ≤ x ∧ x ≤ b) = ok) (w : World) :
    Calls Tryd.prog 43 #[.int .i64 x, .int .i64 a, .int .i64 b] w fun e w' => e = .returned (.bool ok) ∧ w = w' := by
  subst h; exact Num.l1In x a b w
theorem single_as (r : LRule.R) (b : Bool) (h : Rule.okB r = b) (hs : r.name.size ≤ maxLen) (w : World) :
    Calls Tryd.prog 26 #[.agg (rc r)] w fun e w' => e = .returned (.bool b) ∧ Below w.heap.size w w' := by
  subst h; exact Valid.l2Single r w hs
/-- what l1Split gives, with its slice written out -/
def SP (w : World) (l : List (List UInt8)) (e : Ending) (w' : World) : Prop := ∃ g cap, e = .returned (.slice (some ⟨g, 0, none⟩) l.length cap) ∧ l.length ≤ cap ∧ cap ≤ 9223372036854775807 ∧ w.heap.size ≤ g ∧ g < w'.heap.size ∧ (∀ j q, l[j]? = some q → w'.cell? ⟨g, j, none⟩ = some (.string ⟨q.toArray⟩)) ∧ Below w.heap.size w w'
theorem l1Split (s : ByteArray) (w : World) (hs : s.size ≤ 1048576) : Calls Tryd.prog 38 #[.string s, .int .u8 32] w (SP w (splitOf s.data.toList 32)) := by
  refine (Split.l1Split s 32 w hs).mono ?_
  rintro e w' ⟨v, rfl, ho, hb⟩
  have hl := split_pos s.data.toList 32
  rcases ho.2 with ⟨_, h0⟩ | ⟨g, cap, cur, rfl, hbg, hgg, hnc, hcm, _⟩
  · omega
  · refine ⟨g, cap, rfl, hnc, hcm, hbg, (ho.lt g rfl).2, fun j q hq => ?_, hb⟩
    have hj := (List.getElem?_eq_some_iff.1 hq).1
    rw [ho.cellAt j (by omega)]
    show (List.map str _)[j]? = _
    rw [List.getElem?_map, hq]
    rfl
theorem trait_name (r : LRule.R) (l : List UInt8) : (trait r l).name = r.name := by
  unfold trait
  split
  · rfl
  · split
    · rfl
    · split <;> rfl
theorem readG_name (i : Int) (nm : ByteArray) (rk : Int) (ws : List (List UInt8)) (l : List UInt8) : (readG i nm rk ws l).name = nm := by
  have key : ∀ (ws : List (List UInt8)) (r : LRule.R), (ws.foldl trait r).name = r.name := by
    intro ws
    induction ws with
    | nil => intro r; rfl
    | cons x ws ih => intro r; rw [List.foldl_cons, ih, trait_name]
  exact key ws _
theorem readG_next {i : Int} {nm : ByteArray} {rk : Int} {u : List (List UInt8)} {k : Nat} {x l : List UInt8} (h : u[k]? = some x) : readG i nm rk (u.take (k + 1)) l = trait (readG i nm rk (u.take k) l) x := by
  obtain ⟨hk, hx⟩ := List.getElem?_eq_some_iff.1 h
  unfold readG
  rw [List.take_succ_eq_append_getElem hk, hx, List.foldl_append]
  rfl
set_option maxRecDepth 100000 in
set_option maxHeartbeats 8000000 in
theorem l2Parse (s : ByteArray) (w : World) (hs : s.size ≤ 1048576) :
    Calls Tryd.prog 32 #[.string s] w (PPost s w) := by
  have hb0 := ((Below.refl w.heap.size w).alloc (Nat.le_refl _) (.cells zc 25)).alloc (by simp) (.cells zc 25)
  have HZ0 := Lib.hid ((Bx.new w 25 zc).alloc (.cells zc 25))
  have HN0 := Lib.hid (Bx.new (w.alloc (.cells zc 25)) 25 zc)
  have hz : (w.alloc (.cells zc 25)).heap.size = w.heap.size + 1 := by simp
  rw [hz] at HN0
  clear hz
  simp only [zc] at hb0 HZ0 HN0
  obtain ⟨ws, hws⟩ : ∃ ws, ws = splitOf s.data.toList 32 := ⟨_, rfl⟩
  have HWS := Lib.hid hws.symm
  have HS := Lib.hid (fun W => l1Split s W hs)
  rw [← hws] at HS
  have HLE := Lib.hid (show ∀ x ∈ ws, x.length ≤ 1048576 from fun x hx => by rw [hws] at hx; have := piece_le hx; simp at this; omega)
  have hwl : ws.length ≤ 1048577 := by
    have := splitOf_length s.data.toList 32
    rw [← hws] at this
    simp at this
    omega
  clear hws
  obtain ⟨n, hn⟩ : ∃ n, n = ws.length := ⟨_, rfl⟩
  have HNL := Lib.hid hn
  rw [← hn] at hwl
  have HSn := Lib.hid (show ∀ W, Calls Tryd.prog 38 #[.string s, .int .u8 32] W fun e w' => ∃ g cap, e = .returned (.slice (some ⟨g, 0, none⟩) n cap) ∧ n ≤ cap ∧ cap ≤ 9223372036854775807 ∧ W.heap.size ≤ g ∧ g < w'.heap.size ∧ (∀ j q, ws[j]? = some q → w'.cell? ⟨g, j, none⟩ = some (.string ⟨q.toArray⟩)) ∧ Below W.heap.size W w' from fun W => by rw [hn]; exact HS.out W)
  clear hn HS
  go_enter Tryd.func32, Tryd.ntmps32
  go_wp2_with fail
  refine (HSn.out _).mono ?_
  rintro e w1 ⟨g, cap, rfl, hnc, hcm, hwg, hgl, hcell, hb1⟩
  have HZ := Lib.hid (HZ0.out.kept hb1)
  have HN := Lib.hid (HN0.out.kept hb1)
  have hb := hb0.trans (hb1.mono hb0.size)
  have HC := Lib.hid hcell
  have hwg2 : w.heap.size + 1 < g := by
    have := HN0.out.lt
    omega
  clear hb0 hb1 hcell HZ0 HN0 HSn hwg
  by_cases hlong : 80 < s.size
  · have HA := Lib.hid (ans_none (none_long hlong))
    have hZr : Bx w1 w.heap.size 25 (rc r0) := HZ.out
    have hZn : Bx w1 (w.heap.size + 1) 25 (rc r0) := HN.out
    obtain ⟨z0, z1, z2, z3, z4, z5, z6⟩ := put_cells hZr
    obtain ⟨n0, n1, n2, n3, n4, n5, n6⟩ := put_cells hZn
    simp only [r0] at z0 z1 z2 z3 z4 z5 z6 n0 n1 n2 n3 n4 n5 n6
    have hf := hZr.frozen
    go_wp2_with fail
    rw [← PRuleI.put7_zero]
    have hbf := put7_below hb (Nat.le_refl _) r0
    obtain ⟨y0, y1, y2, y3, y4, y5, y6⟩ := put_cells (put7_bx hZr r0)
    generalize put7 _ w.heap.size r0 = wf at *
    simp only [r0] at y0 y1 y2 y3 y4 y5 y6
    refine bodyPost_ret (v := .tuple #[.agg #[.int .i64 0, .string ⟨#[]⟩, .int .i64 0, .bool false, .bool false, .bool false, .int .i64 0], .bool false]) (by simp [results, Tryd.results32, go_sem, y0, y1, y2, y3, y4, y5, y6]) rfl ?_
    exact ⟨r0, false, rfl, HA.out, hbf⟩
  by_cases hcnt : 6 ≤ n ∧ n ≤ 9
  rotate_left
  · have HA := Lib.hid (ans_none (none_words HWS.out (by rw [← HNL.out]; exact hcnt)))
    have HI := Lib.hid (fun W => in_as (n : Int) 6 9 false (decide_eq_false (by omega)) W)
    clear hcnt
    go_wp2_with fail
    refine (HI.out _).mono ?_
    rintro e _ ⟨rfl, rfl⟩
    have hZr : Bx w1 w.heap.size 25 (rc r0) := HZ.out
    have hZn : Bx w1 (w.heap.size + 1) 25 (rc r0) := HN.out
    obtain ⟨z0, z1, z2, z3, z4, z5, z6⟩ := put_cells hZr
    obtain ⟨n0, n1, n2, n3, n4, n5, n6⟩ := put_cells hZn
    simp only [r0] at z0 z1 z2 z3 z4 z5 z6 n0 n1 n2 n3 n4 n5 n6
    have hf := hZr.frozen
    go_wp2_with fail
    rw [← PRuleI.put7_zero]
    have hbf := put7_below hb (Nat.le_refl _) r0
    obtain ⟨y0, y1, y2, y3, y4, y5, y6⟩ := put_cells (put7_bx hZr r0)
    generalize put7 _ w.heap.size r0 = wf at *
    simp only [r0] at y0 y1 y2 y3 y4 y5 y6
    refine bodyPost_ret (v := .tuple #[.agg #[.int .i64 0, .string ⟨#[]⟩, .int .i64 0, .bool false, .bool false, .bool false, .int .i64 0], .bool false]) (by simp [results, Tryd.results32, go_sem, y0, y1, y2, y3, y4, y5, y6]) rfl ?_
    exact ⟨r0, false, rfl, HA.out, hbf⟩
  have HI := Lib.hid (fun W => in_as (n : Int) 6 9 true (decide_eq_true (by omega)) W)
  obtain ⟨hn6, hn9⟩ := hcnt
  obtain ⟨m, rfl⟩ : ∃ m, n = m + 1 := ⟨n - 1, by omega⟩
  have hm : m < ws.length := by rw [← HNL.out]; omega
  obtain ⟨x, hx⟩ : ∃ x, ws[0]? = some x := ⟨_, List.getElem?_eq_getElem (by omega)⟩
  obtain ⟨nl, hnl⟩ : ∃ x, ws[1]? = some x := ⟨_, List.getElem?_eq_getElem (by omega)⟩
  obtain ⟨y, hy⟩ : ∃ x, ws[3]? = some x := ⟨_, List.getElem?_eq_getElem (by omega)⟩
  obtain ⟨ll, hll⟩ : ∃ x, ws[m]? = some x := ⟨_, List.getElem?_eq_getElem hm⟩
  have sx := HLE.out x (List.mem_of_getElem? hx)
  have sn := HLE.out nl (List.mem_of_getElem? hnl)
  have sy := HLE.out y (List.mem_of_getElem? hy)
  have sl := HLE.out ll (List.mem_of_getElem? hll)
  have c0 := HC.out 0 x hx
  have c3 := HC.out 3 y hy
  obtain ⟨nm, hnm⟩ : ∃ nm : ByteArray, nm = ⟨nl.toArray⟩ := ⟨_, rfl⟩
  obtain ⟨last, hlast⟩ : ∃ nm : ByteArray, nm = ⟨ll.toArray⟩ := ⟨_, rfl⟩
  have HNM := Lib.hid (show ws[1]? = some nm.data.toList by rw [hnl, hnm])
  have HLW := Lib.hid (show ws[m]? = some last.data.toList by rw [hll, hlast])
  have c1 : w1.cell? ⟨g, 1, none⟩ = some (.string nm) := by rw [hnm]; exact HC.out 1 nl hnl
  have cl : w1.cell? ⟨g, m, none⟩ = some (.string last) := by rw [hlast]; exact HC.out m ll hll
  have hns : nm.size ≤ 1048576 := by rw [hnm]; show nl.toArray.size ≤ _; simpa using sn
  have HLS := Lib.hid (show last.size ≤ maxLen by rw [hlast]; show ll.toArray.size ≤ maxLen; unfold maxLen; simp; omega)
  have HX1 := Lib.hid (fun W => l1Read ⟨x.toArray⟩ W (by show x.toArray.size ≤ maxLen; unfold maxLen; simp; omega))
  have HX2 := Lib.hid (fun W => l1Read ⟨y.toArray⟩ W (by show y.toArray.size ≤ maxLen; unfold maxLen; simp; omega))
  have HX := Lib.hid hx
  have HY := Lib.hid hy
  clear hnm hlast hx hnl hy hll sx sn sy sl
  go_wp2_with fail
  refine (HI.out _).mono ?_
  rintro e _ ⟨rfl, rfl⟩
  go_wp2_with fail
  refine (HX1.out _).mono ?_
  rintro e w2 ⟨i, ok1, rfl, hi, hb2⟩
  replace c1 : w2.cell? ⟨g, 1, none⟩ = some (.string nm) := by rw [hb2.cell (p := ⟨g, 1, none⟩) hgl]; exact c1
  replace c3 : w2.cell? ⟨g, 3, none⟩ = some (.string ⟨y.toArray⟩) := by rw [hb2.cell (p := ⟨g, 3, none⟩) hgl]; exact c3
  replace cl : w2.cell? ⟨g, m, none⟩ = some (.string last) := by rw [hb2.cell (p := ⟨g, m, none⟩) hgl]; exact cl
  replace HC := Lib.hid (show ∀ j q, ws[j]? = some q → w2.cell? ⟨g, j, none⟩ = some (.string ⟨q.toArray⟩) from fun j q hx => by rw [hb2.cell (p := ⟨g, j, none⟩) hgl]; exact HC.out j q hx)
  replace HZ := Lib.hid (HZ.out.kept hb2)
  replace HN := Lib.hid (HN.out.kept hb2)
  replace hgl : g < w2.heap.size := Nat.lt_of_lt_of_le hgl hb2.size
  replace hb := hb.trans (hb2.mono hb.size)
  have HI1 := Lib.hid hi
  clear hb2 hi c0
  go_wp2_with fail
  refine (HX2.out _).mono ?_
  rintro e W ⟨rk, ok2, rfl, hr, hb3⟩
  replace c1 : W.cell? ⟨g, 1, none⟩ = some (.string nm) := by rw [hb3.cell (p := ⟨g, 1, none⟩) hgl]; exact c1
  replace cl : W.cell? ⟨g, m, none⟩ = some (.string last) := by rw [hb3.cell (p := ⟨g, m, none⟩) hgl]; exact cl
  replace HC := Lib.hid (show ∀ j q, ws[j]? = some q → W.cell? ⟨g, j, none⟩ = some (.string ⟨q.toArray⟩) from fun j q hx => by rw [hb3.cell (p := ⟨g, j, none⟩) hgl]; exact HC.out j q hx)
  replace HZ := Lib.hid (HZ.out.kept hb3)
  replace HN := Lib.hid (HN.out.kept hb3)
  replace hgl : g < W.heap.size := Nat.lt_of_lt_of_le hgl hb3.size
  replace hb := hb.trans (hb3.mono hb.size)
  have HR1 := Lib.hid hr
  clear hb3 hr c3 HX1 HX2 HI HLE
  have e1 : IntKind.i64.wrap ((m : Int) + 1 - 1) = (m : Int) := by rw [IntWalk.i64_in _ (by omega)]; omega
  have e0 : IntKind.i64.wrap (m : Int) = (m : Int) := IntWalk.i64_in _ (by omega)
  have k1 : (1 : Int) < (m : Int) + 1 := by omega
  have k2 : (m : Int) < (m : Int) + 1 := by omega
  have k3 : 0 ≤ (m : Int) := by omega
  have HK := Lib.hid (show ∀ w' : World, Below W.heap.size W w' → Below W.heap.size W w' ∧ w'.cell? ⟨g, 1, none⟩ = some (.string nm) ∧ w'.cell? ⟨g, m, none⟩ = some (.string last) from fun w' hb => ⟨hb, by rw [hb.cell (p := ⟨g, 1, none⟩) hgl]; exact c1, by rw [hb.cell (p := ⟨g, m, none⟩) hgl]; exact cl⟩)
  clear c1 cl
  go_upto_region 8 with fail
  go_cut [11] (fun t wx => ∃ G : Nat, t = .pointer (some ⟨G, 0, none⟩) ∧ Hid (Bx wx G 25 (rc ⟨i, nm, rk, false, false, false, needOf last.data.toList 0⟩)) ∧ W.heap.size ≤ G ∧ Below W.heap.size W wx)
  case first =>
    have hB : Below W.heap.size W W.drew := (Below.refl _ _).drew
    refine wp_region_held_drew (S := fun w' => Below W.heap.size W w' ∧ w'.cell? ⟨g, 1, none⟩ = some (.string nm) ∧ w'.cell? ⟨g, m, none⟩ = some (.string last)) (by kernel_rfl) (HK.out _ hB) (fun hHeld => ?_)
    generalize W.drew = x0 at *
    refine wpAnyH_take (i := 0) (v := ?v1) rfl (by kernel_rfl) (by kernel_rfl) (by kernel_rfl) (fun _ _ _ h => h) (Or.inl ⟨by rfl, ?hy1⟩) (by assumption) ?rest1
    case hy1 => (intro wq hSw; (try dsimp only at hSw); go_split_ands; go_simp; (try with_reducible rfl))
    case rest1 =>
    refine wpAnyH_take (i := 1) (v := ?v2) rfl (by kernel_rfl) (by kernel_rfl) (by kernel_rfl) (fun _ _ _ h => h) (Or.inl ⟨by rfl, ?hy2⟩) (by assumption) ?rest2
    case hy2 => (intro wq hSw; (try dsimp only at hSw); go_split_ands; go_simp; (try with_reducible rfl))
    case rest2 =>
    refine wpAnyH_take (i := 2) (v := ?v3) rfl (by kernel_rfl) (by kernel_rfl) (by kernel_rfl) (fun _ _ _ h => h) (Or.inl ⟨by rfl, ?hy3⟩) (by assumption) ?rest3
    case hy3 => (intro wq hSw; (try dsimp only at hSw); go_split_ands; go_simp; (try with_reducible rfl))
    case rest3 =>
    refine wpAnyH_take (i := 3) (v := ?v4) rfl (by kernel_rfl) (by kernel_rfl) (by kernel_rfl) (fun _ _ _ h => h) (Or.inl ⟨by rfl, ?hy4⟩) (by assumption) ?rest4
    case hy4 => (intro wq hSw; (try dsimp only at hSw); go_split_ands; go_simp; (try with_reducible rfl))
    case rest4 =>
    refine wpAnyH_take (i := 4) (v := ?v5) rfl (by kernel_rfl) (by kernel_rfl) (by kernel_rfl) (fun _ _ _ h => h) (Or.inl ⟨by rfl, ?hy5⟩) (by assumption) ?rest5
    case hy5 => (intro wq hSw; (try dsimp only at hSw); go_split_ands; go_simp; (try with_reducible rfl))
    case rest5 =>
    refine wpAnyH_take (i := 6) (v := ?v6) rfl (by kernel_rfl) (by kernel_rfl) (by kernel_rfl) (fun _ _ _ h => h) (Or.inl ⟨by rfl, ?hy6⟩) (by assumption) ?rest6
    case hy6 => (intro wq hSw; (try dsimp only at hSw); go_split_ands; go_simp; (try with_reducible rfl))
    case rest6 =>
    refine wpAnyH_take (i := 7) (v := ?v7) rfl (by kernel_rfl) (by kernel_rfl) (by kernel_rfl) (fun _ _ _ h => h) (Or.inl ⟨by rfl, ?hy7⟩) (by assumption) ?rest7
    case hy7 => (intro wq hSw; (try dsimp only at hSw); go_split_ands; go_simp; (try with_reducible rfl))
    case rest7 =>
    refine wpAnyH_take (i := 8) (v := ?v8) rfl (by kernel_rfl) (by kernel_rfl) (by kernel_rfl) (fun _ _ _ h => h) (Or.inl ⟨by rfl, ?hy8⟩) (by assumption) ?rest8
    case hy8 => (intro wq hSw; (try dsimp only at hSw); go_split_ands; go_simp; (try with_reducible rfl))
    case rest8 =>
    refine wpAnyH_take (i := 9) (v := ?v9) rfl (by kernel_rfl) (by kernel_rfl) (by kernel_rfl) (fun _ _ _ h => h) (Or.inl ⟨by rfl, ?hy9⟩) (by assumption) ?rest9
    case hy9 => (intro wq hSw; (try dsimp only at hSw); go_split_ands; go_simp; (try with_reducible rfl))
    case rest9 =>
    refine wpAnyH_take (i := 10) (v := ?v10) rfl (by kernel_rfl) (by kernel_rfl) (by kernel_rfl) (fun _ _ _ h => h) (Or.inl ⟨by rfl, ?hy10⟩) (by assumption) ?rest10
    case hy10 => (intro wq hSw; (try dsimp only at hSw); go_split_ands; go_simp; (try with_reducible rfl))
    case rest10 =>
    refine wpAnyH_ready (rs := [5, 13]) (by kernel_rfl) (by simp) ?_
    refine AllReadyH.cons rfl (fun K hK => ?step11) ?more11
    case step11 =>
      go_simp
      go_at_call 46
      refine (Line.needs _).mono ?_
      rintro e x1 ⟨rfl, hY⟩
      have hbc : Below x0.heap.size x0 x1 := by rw [hY]; exact (Below.refl _ _).alloc (Nat.le_refl _) _
      have hN : Bx x1 x0.heap.size 9 Line.needCells := by rw [hY]; exact Bx.new x0 _ _
      clear hY
      replace hB := hB.trans (hbc.mono hB.size)
      clear hbc
      generalize x0.heap.size = gNx1 at *
      go_wp2_with fail
      refine hK.out _ _ (HK.out _ hB) (fun hHeld => ?_)
      clear hK K
      refine wpAnyH_ready (rs := [11, 13]) (by kernel_rfl) (by simp) ?_
      refine AllReadyH.cons rfl (fun K hK => ?step12) ?more12
      case step12 =>
        go_simp
        go_at_call 52
        refine (PRuleX.l2Index gNx1 last x1 hN HLS.out).mono ?_
        rintro e _ ⟨rfl, rfl⟩
        go_wp2_with fail
        refine hK.out _ _ (HK.out _ hB) (fun hHeld => ?_)
        clear hK K
        refine wpAnyH_take (i := 12) (v := ?v13) rfl (by kernel_rfl) (by kernel_rfl) (by kernel_rfl) (fun _ _ _ h => h) (Or.inl ⟨by rfl, ?hy13⟩) (by assumption) ?rest13
        case hy13 => (intro wq hSw; (try dsimp only at hSw); go_split_ands; go_simp; (try with_reducible rfl))
        case rest13 =>
        refine wpAnyH_ready (rs := [13]) (by kernel_rfl) (by simp) ?_
        refine AllReadyH.cons rfl (fun K hK => ?step14) ?more14
        case step14 =>
          go_simp
          refine hK.out _ _ (HK.out _ (hB.alloc hB.size _)) (fun hHeld => ?_)
          clear hK K
          replace hN := Bx.alloc hN (Obj.cells #[.int .i64 0, .string ⟨#[]⟩, .int .i64 0, .bool false, .bool false, .bool false, .int .i64 0] 25)
          have hC := Bx.new x1 25 #[.int .i64 0, .string ⟨#[]⟩, .int .i64 0, .bool false, .bool false, .bool false, .int .i64 0]
          have hCW : W.heap.size ≤ x1.heap.size := hB.size
          replace hB := hB.alloc hB.size (Obj.cells #[.int .i64 0, .string ⟨#[]⟩, .int .i64 0, .bool false, .bool false, .bool false, .int .i64 0] 25)
          generalize x1.alloc (Obj.cells #[.int .i64 0, .string ⟨#[]⟩, .int .i64 0, .bool false, .bool false, .bool false, .int .i64 0] 25) = x2 at *
          generalize x1.heap.size = gCx2 at *
          refine wpAnyH_ready (rs := [14]) (by kernel_rfl) (by simp) ?_
          refine AllReadyH.cons rfl (fun K hK => ?step15) ?more15
          case step15 =>
            obtain ⟨c0, c1, c2, c3, c4, c5, c6⟩ := put_cells (r := r0) hC
            simp only [r0] at c0 c1 c2 c3 c4 c5 c6
            have hfz := Bx.frozen hC
            have hB3 := put7_below hB hCW (⟨i, nm, rk, false, false, false, needOf last.data.toList 0⟩ : LRule.R)
            have hC3 := Lib.hid (put7_bx (r0 := r0) hC (⟨i, nm, rk, false, false, false, needOf last.data.toList 0⟩ : LRule.R))
            go_simp
            refine hK.out _ _ (HK.out _ hB3) (fun hHeld => ?_)
            clear hK K
            refine wpAnyH_done (by kernel_rfl) ?_ _
            go_wp2_with fail
            go_meet
            exact ⟨gCx2, rfl, hC3, hCW, hB3⟩
          case more15 => exact AllReadyH.nil
        case more14 => exact AllReadyH.nil
      case more12 =>
        refine AllReadyH.cons rfl (fun K hK => ?step16) ?more16
        case step16 =>
          go_simp
          refine hK.out _ _ (HK.out _ (hB.alloc hB.size _)) (fun hHeld => ?_)
          clear hK K
          replace hN := Bx.alloc hN (Obj.cells #[.int .i64 0, .string ⟨#[]⟩, .int .i64 0, .bool false, .bool false, .bool false, .int .i64 0] 25)
          have hC := Bx.new x1 25 #[.int .i64 0, .string ⟨#[]⟩, .int .i64 0, .bool false, .bool false, .bool false, .int .i64 0]
          have hCW : W.heap.size ≤ x1.heap.size := hB.size
          replace hB := hB.alloc hB.size (Obj.cells #[.int .i64 0, .string ⟨#[]⟩, .int .i64 0, .bool false, .bool false, .bool false, .int .i64 0] 25)
          generalize x1.alloc (Obj.cells #[.int .i64 0, .string ⟨#[]⟩, .int .i64 0, .bool false, .bool false, .bool false, .int .i64 0] 25) = x3 at *
          generalize x1.heap.size = gCx3 at *
          refine wpAnyH_ready (rs := [11]) (by kernel_rfl) (by simp) ?_
          refine AllReadyH.cons rfl (fun K hK => ?step17) ?more17
          case step17 =>
            go_simp
            go_at_call 52
            refine (PRuleX.l2Index gNx1 last x3 hN HLS.out).mono ?_
            rintro e _ ⟨rfl, rfl⟩
            go_wp2_with fail
            refine hK.out _ _ (HK.out _ hB) (fun hHeld => ?_)
            clear hK K
            refine wpAnyH_take (i := 12) (v := ?v18) rfl (by kernel_rfl) (by kernel_rfl) (by kernel_rfl) (fun _ _ _ h => h) (Or.inl ⟨by rfl, ?hy18⟩) (by assumption) ?rest18
            case hy18 => (intro wq hSw; (try dsimp only at hSw); go_split_ands; go_simp; (try with_reducible rfl))
            case rest18 =>
            refine wpAnyH_ready (rs := [14]) (by kernel_rfl) (by simp) ?_
            refine AllReadyH.cons rfl (fun K hK => ?step19) ?more19
            case step19 =>
              obtain ⟨c0, c1, c2, c3, c4, c5, c6⟩ := put_cells (r := r0) hC
              simp only [r0] at c0 c1 c2 c3 c4 c5 c6
              have hfz := Bx.frozen hC
              have hB3 := put7_below hB hCW (⟨i, nm, rk, false, false, false, needOf last.data.toList 0⟩ : LRule.R)
              have hC3 := Lib.hid (put7_bx (r0 := r0) hC (⟨i, nm, rk, false, false, false, needOf last.data.toList 0⟩ : LRule.R))
              go_simp
              refine hK.out _ _ (HK.out _ hB3) (fun hHeld => ?_)
              clear hK K
              refine wpAnyH_done (by kernel_rfl) ?_ _
              go_wp2_with fail
              go_meet
              exact ⟨gCx3, rfl, hC3, hCW, hB3⟩
            case more19 => exact AllReadyH.nil
          case more17 => exact AllReadyH.nil
        case more16 => exact AllReadyH.nil
    case more11 =>
      refine AllReadyH.cons rfl (fun K hK => ?step20) ?more20
      case step20 =>
        go_simp
        refine hK.out _ _ (HK.out _ (hB.alloc hB.size _)) (fun hHeld => ?_)
        clear hK K
        have hC := Bx.new x0 25 #[.int .i64 0, .string ⟨#[]⟩, .int .i64 0, .bool false, .bool false, .bool false, .int .i64 0]
        have hCW : W.heap.size ≤ x0.heap.size := hB.size
        replace hB := hB.alloc hB.size (Obj.cells #[.int .i64 0, .string ⟨#[]⟩, .int .i64 0, .bool false, .bool false, .bool false, .int .i64 0] 25)
        generalize x0.alloc (Obj.cells #[.int .i64 0, .string ⟨#[]⟩, .int .i64 0, .bool false, .bool false, .bool false, .int .i64 0] 25) = x4 at *
        generalize x0.heap.size = gCx4 at *
        refine wpAnyH_ready (rs := [5]) (by kernel_rfl) (by simp) ?_
        refine AllReadyH.cons rfl (fun K hK => ?step21) ?more21
        case step21 =>
          go_simp
          go_at_call 46
          refine (Line.needs _).mono ?_
          rintro e x5 ⟨rfl, hY⟩
          have hbc : Below x4.heap.size x4 x5 := by rw [hY]; exact (Below.refl _ _).alloc (Nat.le_refl _) _
          have hN : Bx x5 x4.heap.size 9 Line.needCells := by rw [hY]; exact Bx.new x4 _ _
          clear hY
          replace hC := Bx.kept hC hbc
          replace hB := hB.trans (hbc.mono hB.size)
          clear hbc
          generalize x4.heap.size = gNx5 at *
          go_wp2_with fail
          refine hK.out _ _ (HK.out _ hB) (fun hHeld => ?_)
          clear hK K
          refine wpAnyH_ready (rs := [11]) (by kernel_rfl) (by simp) ?_
          refine AllReadyH.cons rfl (fun K hK => ?step22) ?more22
          case step22 =>
            go_simp
            go_at_call 52
            refine (PRuleX.l2Index gNx5 last x5 hN HLS.out).mono ?_
            rintro e _ ⟨rfl, rfl⟩
            go_wp2_with fail
            refine hK.out _ _ (HK.out _ hB) (fun hHeld => ?_)
            clear hK K
            refine wpAnyH_take (i := 12) (v := ?v23) rfl (by kernel_rfl) (by kernel_rfl) (by kernel_rfl) (fun _ _ _ h => h) (Or.inl ⟨by rfl, ?hy23⟩) (by assumption) ?rest23
            case hy23 => (intro wq hSw; (try dsimp only at hSw); go_split_ands; go_simp; (try with_reducible rfl))
            case rest23 =>
            refine wpAnyH_ready (rs := [14]) (by kernel_rfl) (by simp) ?_
            refine AllReadyH.cons rfl (fun K hK => ?step24) ?more24
            case step24 =>
              obtain ⟨c0, c1, c2, c3, c4, c5, c6⟩ := put_cells (r := r0) hC
              simp only [r0] at c0 c1 c2 c3 c4 c5 c6
              have hfz := Bx.frozen hC
              have hB3 := put7_below hB hCW (⟨i, nm, rk, false, false, false, needOf last.data.toList 0⟩ : LRule.R)
              have hC3 := Lib.hid (put7_bx (r0 := r0) hC (⟨i, nm, rk, false, false, false, needOf last.data.toList 0⟩ : LRule.R))
              go_simp
              refine hK.out _ _ (HK.out _ hB3) (fun hHeld => ?_)
              clear hK K
              refine wpAnyH_done (by kernel_rfl) ?_ _
              go_wp2_with fail
              go_meet
              exact ⟨gCx4, rfl, hC3, hCW, hB3⟩
            case more24 => exact AllReadyH.nil
          case more22 => exact AllReadyH.nil
        case more21 => exact AllReadyH.nil
      case more20 => exact AllReadyH.nil
  case rest =>
  clear HK
  obtain ⟨G, rfl, HG, hWG, hbx⟩ := hcut
  have hbc := hb.trans (hbx.mono hb.size)
  have hwW := hb.size
  have HZW := Lib.hid (show ∀ W', Below W.heap.size W W' → Bx W' w.heap.size 25 (rc r0) from fun W' h => HZ.out.kept h)
  have HNW := Lib.hid (show ∀ W', Below W.heap.size W W' → Bx W' (w.heap.size + 1) 25 (rc r0) from fun W' h => HN.out.kept h)
  have HCW := Lib.hid (show ∀ W', Below W.heap.size W W' → ∀ j q, ws[j]? = some q → W'.cell? ⟨g, j, none⟩ = some (.string ⟨q.toArray⟩) from fun W' h j q hx => by rw [h.cell (p := ⟨g, j, none⟩) hgl]; exact HC.out j q hx)
  have HSZ := Lib.hid (eq_list)
  have e2 : IntKind.i64.wrap ((m : Int) + 1 - 2) = (m : Int) - 1 := by rw [IntWalk.i64_in _ (by omega)]; omega
  have e3 : IntKind.i64.wrap ((m : Int) - 1) = (m : Int) - 1 := IntWalk.i64_in _ (by omega)
  clear HZ HN HC hb
  go_wp2_with fail
  go_loopw [12] (fun i12 wr => ∃ j : Nat, j + 5 ≤ m ∧ i12 = .int .i64 ((j + 4 : Nat) : Int) ∧ Below W.heap.size W wr ∧ Below w.heap.size w wr ∧ Hid (Bx wr G 25 (rc (readG i nm rk ((ws.drop 4).take j) last.data.toList)))) (fun i12 _ => m - (intOf i12).toNat)
  case atStart => exact ⟨0, by omega, rfl, hbx, hbc, HG⟩
  case round =>
    clear hbx hbc HG
    obtain ⟨j, hj, rfl, hbW, hb2, HB⟩ := hrel
    obtain ⟨R9, hR9⟩ : ∃ R, R = readG i nm rk ((ws.drop 4).take j) last.data.toList := ⟨_, rfl⟩
    rw [← hR9] at HB
    have HR9 := Lib.hid hR9
    clear hR9
    obtain ⟨p0, p1, p2, p3, p4, p5, p6⟩ := put_cells HB.out
    have hf := HB.out.frozen
    by_cases hlt : j + 5 < m
    · have hx : j + 4 < ws.length := by rw [← HNL.out]; omega
      obtain ⟨X, hX⟩ : ∃ X, ws[j + 4]? = some X := ⟨_, List.getElem?_eq_getElem hx⟩
      obtain ⟨XS, hXS⟩ : ∃ XS : ByteArray, XS = ⟨X.toArray⟩ := ⟨_, rfl⟩
      have cx : wr.cell? ⟨g, j + 4, none⟩ = some (.string XS) := by rw [hXS]; exact HCW.out _ hbW (j + 4) X hX
      have hx0 : XS.data.toList = X := by rw [hXS]
      have HNX := Lib.hid (show readG i nm rk ((ws.drop 4).take (j + 1)) last.data.toList = trait R9 X by rw [HR9.out]; exact readG_next (by rw [List.getElem?_drop, Nat.add_comm]; exact hX))
      clear hX hx hXS
      have k4 : ((j : Int) + 4) < (m : Int) - 1 := by omega
      have k5 : 0 ≤ (j : Int) + 4 := by omega
      have k6 : ((j : Int) + 4) < (m : Int) + 1 := by omega
      have k7 : ((j : Int) + 4).toNat = j + 4 := by omega
      by_cases q1 : X = wSec
      · have a1 : (XS.toList == [115, 101, 99, 111, 110, 100]) = true := by rw [HSZ.out, hx0]; exact decide_eq_true q1
        have HT := Lib.hid (trait_sec (r := R9) q1)
        clear hx0 q1
        go_wp2_with fail
        go_round
        case rel => exact ⟨j + 1, by omega, by first | rfl | go_num, hbW.setCell hWG _, hb2.setCell (Nat.le_trans hwW hWG) _, Lib.hid (by rw [HNX.out, HT.out]; exact HB.out.set_ 3 _)⟩
        case measure => simp [intOf]; omega
      have a1 : (XS.toList == [115, 101, 99, 111, 110, 100]) = false := by rw [HSZ.out, hx0]; exact decide_eq_false q1
      by_cases q2 : X = wDeb
      · have a2 : (XS.toList == [100, 101, 98, 97, 116, 101]) = true := by rw [HSZ.out, hx0]; exact decide_eq_true q2
        have HT := Lib.hid (trait_deb (r := R9) q1 q2)
        clear hx0 q1 q2
        go_wp2_with fail
        go_round
        case rel => exact ⟨j + 1, by omega, by first | rfl | go_num, hbW.setCell hWG _, hb2.setCell (Nat.le_trans hwW hWG) _, Lib.hid (by rw [HNX.out, HT.out]; exact HB.out.set_ 4 _)⟩
        case measure => simp [intOf]; omega
      have a2 : (XS.toList == [100, 101, 98, 97, 116, 101]) = false := by rw [HSZ.out, hx0]; exact decide_eq_false q2
      by_cases q3 : X = wAm
      · have a3 : (XS.toList == [97, 109, 101, 110, 100]) = true := by rw [HSZ.out, hx0]; exact decide_eq_true q3
        have HT := Lib.hid (trait_am (r := R9) q1 q2 q3)
        clear hx0 q1 q2 q3
        go_wp2_with fail
        go_round
        case rel => exact ⟨j + 1, by omega, by first | rfl | go_num, hbW.setCell hWG _, hb2.setCell (Nat.le_trans hwW hWG) _, Lib.hid (by rw [HNX.out, HT.out]; exact HB.out.set_ 5 _)⟩
        case measure => simp [intOf]; omega
      · have a3 : (XS.toList == [97, 109, 101, 110, 100]) = false := by rw [HSZ.out, hx0]; exact decide_eq_false q3
        have HT := Lib.hid (trait_none (r := R9) q1 q2 q3)
        clear hx0 q1 q2 q3
        go_wp2_with fail
        go_round
        case rel => exact ⟨j + 1, by omega, by first | rfl | go_num, hbW, hb2, Lib.hid (by rw [HNX.out, HT.out]; exact HB.out)⟩
        case measure => simp [intOf]; omega
    · have hjm : j = m - 5 := by omega
      have HFR := Lib.hid (show Numeral x i → Numeral y rk → ∀ q : LRule.R, Rule.okB q = true → Line.lineB q = s → R9 = q from fun hi hr q hq hl => by
        rw [HR9.out, hjm, show m - 5 = ws.length - 6 from by rw [← HNL.out]; omega]
        exact spec_found HWS.out HX.out HNM.out HY.out (by rw [← HNL.out]; exact HLW.out) hi hr hq hl)
      have hname : R9.name.size ≤ maxLen := by rw [HR9.out, readG_name]; unfold maxLen; omega
      have k4 : ¬ ((j : Int) + 4) < (m : Int) - 1 := by omega
      rcases HI1.out with ⟨hk1, hnx⟩ | ⟨hk1, hnx⟩
      rotate_left
      · have HA := Lib.hid (ans_none (none_num HWS.out HX.out HY.out (.inl hnx)))
        subst hk1
        clear hjm hnx
        have hZr : Bx wr w.heap.size 25 (rc r0) := HZW.out _ hbW
        have hZn : Bx wr (w.heap.size + 1) 25 (rc r0) := HNW.out _ hbW
        obtain ⟨z0, z1, z2, z3, z4, z5, z6⟩ := put_cells hZr
        obtain ⟨n0, n1, n2, n3, n4, n5, n6⟩ := put_cells hZn
        simp only [r0] at z0 z1 z2 z3 z4 z5 z6 n0 n1 n2 n3 n4 n5 n6
        have hf := hZr.frozen
        go_wp2_with fail
        rw [← PRuleI.put7_zero]
        have hbf := put7_below hb2 (Nat.le_refl _) r0
        obtain ⟨y0, y1, y2, y3, y4, y5, y6⟩ := put_cells (put7_bx hZr r0)
        generalize put7 _ w.heap.size r0 = wf at *
        simp only [r0] at y0 y1 y2 y3 y4 y5 y6
        refine bodyPost_ret (v := .tuple #[.agg #[.int .i64 0, .string ⟨#[]⟩, .int .i64 0, .bool false, .bool false, .bool false, .int .i64 0], .bool false]) (by simp [results, Tryd.results32, go_sem, y0, y1, y2, y3, y4, y5, y6]) rfl ?_
        exact ⟨r0, false, rfl, HA.out, hbf⟩
      rcases HR1.out with ⟨hk2, hny⟩ | ⟨hk2, hny⟩
      rotate_left
      · have HA := Lib.hid (ans_none (none_num HWS.out HX.out HY.out (.inr hny)))
        subst hk1 hk2
        clear hjm hnx hny
        have hZr : Bx wr w.heap.size 25 (rc r0) := HZW.out _ hbW
        have hZn : Bx wr (w.heap.size + 1) 25 (rc r0) := HNW.out _ hbW
        obtain ⟨z0, z1, z2, z3, z4, z5, z6⟩ := put_cells hZr
        obtain ⟨n0, n1, n2, n3, n4, n5, n6⟩ := put_cells hZn
        simp only [r0] at z0 z1 z2 z3 z4 z5 z6 n0 n1 n2 n3 n4 n5 n6
        have hf := hZr.frozen
        go_wp2_with fail
        rw [← PRuleI.put7_zero]
        have hbf := put7_below hb2 (Nat.le_refl _) r0
        obtain ⟨y0, y1, y2, y3, y4, y5, y6⟩ := put_cells (put7_bx hZr r0)
        generalize put7 _ w.heap.size r0 = wf at *
        simp only [r0] at y0 y1 y2 y3 y4 y5 y6
        refine bodyPost_ret (v := .tuple #[.agg #[.int .i64 0, .string ⟨#[]⟩, .int .i64 0, .bool false, .bool false, .bool false, .int .i64 0], .bool false]) (by simp [results, Tryd.results32, go_sem, y0, y1, y2, y3, y4, y5, y6]) rfl ?_
        exact ⟨r0, false, rfl, HA.out, hbf⟩
      have HFQ := Lib.hid (HFR.out hnx hny)
      subst hk1 hk2
      clear hjm hnx hny HFR
      cases hok : Rule.okB R9 with
      | false =>
        have HA := Lib.hid (ans_no (r := R9) HFQ.out (fun h => by rw [hok] at h; cases h.1))
        have HS1 := Lib.hid (fun W => single_as R9 false hok hname W)
        clear hok
        go_wp2_with fail
        refine (HS1.out _).mono ?_
        rintro e w6 ⟨rfl, hb6⟩
        replace hb2 := hb2.trans (hb6.mono hb2.size)
        replace hbW := hbW.trans (hb6.mono hbW.size)
        clear hb6
        have hZr : Bx w6 w.heap.size 25 (rc r0) := HZW.out _ hbW
        have hZn : Bx w6 (w.heap.size + 1) 25 (rc r0) := HNW.out _ hbW
        obtain ⟨z0, z1, z2, z3, z4, z5, z6⟩ := put_cells hZr
        obtain ⟨n0, n1, n2, n3, n4, n5, n6⟩ := put_cells hZn
        simp only [r0] at z0 z1 z2 z3 z4 z5 z6 n0 n1 n2 n3 n4 n5 n6
        have hf := hZr.frozen
        go_wp2_with fail
        rw [← PRuleI.put7_zero]
        have hbf := put7_below hb2 (Nat.le_refl _) r0
        obtain ⟨y0, y1, y2, y3, y4, y5, y6⟩ := put_cells (put7_bx hZr r0)
        generalize put7 _ w.heap.size r0 = wf at *
        simp only [r0] at y0 y1 y2 y3 y4 y5 y6
        refine bodyPost_ret (v := .tuple #[.agg #[.int .i64 0, .string ⟨#[]⟩, .int .i64 0, .bool false, .bool false, .bool false, .int .i64 0], .bool false]) (by simp [results, Tryd.results32, go_sem, y0, y1, y2, y3, y4, y5, y6]) rfl ?_
        exact ⟨r0, false, rfl, HA.out, hbf⟩
      | true =>
        have HS1 := Lib.hid (fun W => single_as R9 true hok hname W)
        have HL1 := Lib.hid (fun W => Line.l2Line R9 W hok)
        have HO := Lib.hid hok
        clear hok
        go_wp2_with fail
        refine (HS1.out _).mono ?_
        rintro e w6 ⟨rfl, hb6⟩
        replace hb2 := hb2.trans (hb6.mono hb2.size)
        replace hbW := hbW.trans (hb6.mono hbW.size)
        replace HB := Lib.hid (HB.out.kept hb6)
        clear hb6 p0 p1 p2 p3 p4 p5 p6 hf
        obtain ⟨p0, p1, p2, p3, p4, p5, p6⟩ := put_cells HB.out
        go_wp2_with fail
        refine (HL1.out _).mono ?_
        rintro e w7 ⟨rfl, hb6⟩
        replace hb2 := hb2.trans (hb6.mono hb2.size)
        replace hbW := hbW.trans (hb6.mono hbW.size)
        replace HB := Lib.hid (HB.out.kept hb6)
        clear hb6 p0 p1 p2 p3 p4 p5 p6
        obtain ⟨p0, p1, p2, p3, p4, p5, p6⟩ := put_cells HB.out
        by_cases heq : Line.lineB R9 = s
        · have HA := Lib.hid (ans_yes HO.out heq)
          have q1 : ((Line.lineB R9).toList == s.toList) = true := by rw [heq]; simp
          have q2 : ((Line.lineB R9).toList != s.toList) = false := by rw [heq]; simp
          clear heq
          have hZr := HZW.out _ hbW
          obtain ⟨z0, z1, z2, z3, z4, z5, z6⟩ := put_cells hZr
          simp only [r0] at z0 z1 z2 z3 z4 z5 z6
          have hf := hZr.frozen
          go_wp2_with fail
          rw [← put7_def]
          have hbf := put7_below hb2 (Nat.le_refl _) R9
          obtain ⟨y0, y1, y2, y3, y4, y5, y6⟩ := put_cells (put7_bx hZr R9)
          generalize put7 _ w.heap.size R9 = wf at *
          refine bodyPost_ret (v := .tuple #[.agg #[.int .i64 R9.id, .string R9.name, .int .i64 R9.rank, .bool R9.sec, .bool R9.deb, .bool R9.am, .int .i64 R9.need], .bool true]) (by simp [results, Tryd.results32, go_sem, y0, y1, y2, y3, y4, y5, y6]) rfl ?_
          exact ⟨R9, true, rfl, HA.out, hbf⟩
        · have HA := Lib.hid (ans_no (r := R9) HFQ.out (fun h => heq h.2))
          have q1 : ((Line.lineB R9).toList == s.toList) = false := by
            rw [beq_eq_false_iff_ne]
            intro e
            rw [ByteArray.toList_eq, ByteArray.toList_eq] at e
            exact heq (ByteArray.ext (Array.ext' e))
          have q2 : ((Line.lineB R9).toList != s.toList) = true := by simp [bne, q1]
          clear heq
          have hZr : Bx w7 w.heap.size 25 (rc r0) := HZW.out _ hbW
          have hZn : Bx w7 (w.heap.size + 1) 25 (rc r0) := HNW.out _ hbW
          obtain ⟨z0, z1, z2, z3, z4, z5, z6⟩ := put_cells hZr
          obtain ⟨n0, n1, n2, n3, n4, n5, n6⟩ := put_cells hZn
          simp only [r0] at z0 z1 z2 z3 z4 z5 z6 n0 n1 n2 n3 n4 n5 n6
          have hf := hZr.frozen
          go_wp2_with fail
          rw [← PRuleI.put7_zero]
          have hbf := put7_below hb2 (Nat.le_refl _) r0
          obtain ⟨y0, y1, y2, y3, y4, y5, y6⟩ := put_cells (put7_bx hZr r0)
          generalize put7 _ w.heap.size r0 = wf at *
          simp only [r0] at y0 y1 y2 y3 y4 y5 y6
          refine bodyPost_ret (v := .tuple #[.agg #[.int .i64 0, .string ⟨#[]⟩, .int .i64 0, .bool false, .bool false, .bool false, .int .i64 0], .bool false]) (by simp [results, Tryd.results32, go_sem, y0, y1, y2, y3, y4, y5, y6]) rfl ?_
          exact ⟨r0, false, rfl, HA.out, hbf⟩
set_option maxHeartbeats 800000 in
theorem spec (s : ByteArray) (w : World) (hs : s.size ≤ 1048576) :
    Calls Tryd.prog 11 #[.string s] w (PPost s w) := by
  have hb0 := (Below.refl w.heap.size w).alloc (Nat.le_refl _) (.cells zc 25)
  have HZ0 := Lib.hid (Bx.new w 25 zc)
  simp only [zc] at hb0 HZ0
  go_enter Tryd.func11, Tryd.ntmps11
  go_wp2_with fail
  refine (l2Parse s _ hs).mono ?_
  rintro e w1 ⟨R9, ok, rfl, hans, hb1⟩
  have HA := Lib.hid hans
  have hZr : Bx w1 w.heap.size 25 (rc r0) := HZ0.out.kept hb1
  have hb := hb0.trans (hb1.mono hb0.size)
  obtain ⟨z0, z1, z2, z3, z4, z5, z6⟩ := put_cells hZr
  simp only [r0] at z0 z1 z2 z3 z4 z5 z6
  have hf := hZr.frozen
  clear hans hb1
  go_wp2_with fail
  rw [← put7_def]
  have hbf := put7_below hb (Nat.le_refl _) R9
  obtain ⟨y0, y1, y2, y3, y4, y5, y6⟩ := put_cells (put7_bx hZr R9)
  generalize put7 _ w.heap.size R9 = wf at *
  refine bodyPost_ret (v := .tuple #[.agg #[.int .i64 R9.id, .string R9.name, .int .i64 R9.rank, .bool R9.sec, .bool R9.deb, .bool R9.am, .int .i64 R9.need], .bool ok]) (by simp [results, Tryd.results11, go_sem, y0, y1, y2, y3, y4, y5, y6]) rfl ?_
  exact ⟨R9, ok, rfl, HA.out, hbf⟩
end Go.Proofs.YtankaffhapcnaaaDoor.PRuleP
