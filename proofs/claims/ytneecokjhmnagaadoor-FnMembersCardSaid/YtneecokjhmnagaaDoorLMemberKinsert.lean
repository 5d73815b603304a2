/- slices.Insert of one element at slices of Member, into a slice of the call's own. No condition but the length. -/
import Derived.Test.YtneecokjhmnagaaDoorJ1
namespace Go.Proofs.YtneecokjhmnagaaDoor.LMember
open Go Go.RowKit Bs
set_option linter.unusedVariables false
def Ins (A : Nat) (xs : List LMember.R) (x : LMember.R) (i : Nat) (w : World) (e : Ending) (w' : World) : Prop := ∃ v, e = .returned v ∧ Own rec 60 w' A v (xs.take i ++ x :: xs.drop i) ∧ (∃ g, v.ownBlock = some g) ∧ Below A w w'
theorem own_some1 {w : World} {A m : Nat} {v : Value} {cs : List Value} {E : TypeId} {sz : Nat} (h : w.ownsRow A E sz v m cs) (hn : 0 < m) : ∃ g, v.ownBlock = some g := by
  rcases h.2 with ⟨h', hz⟩ | ⟨g, cap, cur, h', _⟩
  · omega
  · exact ⟨g, by rw [h']; rfl⟩
set_option maxRecDepth 100000 in
set_option maxHeartbeats 1600000 in
/-- at the end -/
theorem ins_end {A : Nat} (v0 : Value) (xs : List LMember.R) (x : LMember.R) (i vb : Nat) (w : World) (h : Own rec 60 w A v0 xs) (hA : A ≤ w.heap.size) (hi : xs.length = i) (hsm : xs.length ≤ 1048575)
    (hx : w.heap[vb]? = some (.cells #[.int .i64 x.num, .string x.name, .int .i64 x.off] 60 (0, 0))) :
    Calls Tryd.prog 50 #[v0, .int .i64 i, .slice (some ⟨vb, 0, none⟩) 1 1] w (Ins A xs x i w) := by
  have HO := Lib.hid h
  have HI2 := Lib.hid (show xs.take i ++ x :: xs.drop i = xs ++ [x] by rw [List.take_of_length_le (by omega), List.drop_eq_nil_of_le (by omega)])
  have HX := Lib.hid hx
  have HL := Lib.hid hi
  have hown : w.ownsRow A 60 3 v0 i (flat rec xs) := by have h2 := h; unfold Own at h2; rw [hi] at h2; exact h2
  have HW := Lib.hid hown
  obtain ⟨i0, hi, hz0, hz1, hz2⟩ := info_parts LMember.infoK
  have HI0 := Lib.hid hi
  have HZ0 := Lib.hid (And.intro hz0 (And.intro hz1 hz2))
  clear hi hz0 hz1 hz2
  rcases h.shape with ⟨rfl, hnil⟩ | ⟨g, cap, rfl, hAg, hgl, hcap, hcm⟩
  · obtain rfl : i = 0 := by rw [← hi, hnil]; rfl
    have HH := Lib.hid hi
    clear h hown hx hnil hi
    go_enter Tryd.func50, Tryd.ntmps50
    go_wp2_with (at_builtin; refine wpList_append_own _ rfl (.tmp 23) (.tmp 24) 24 rfl A 60 i0 (.agg #[.int .i64 0, .string ⟨#[]⟩, .int .i64 0]) 3 32 Tryd.underlying24 HI0.out HZ0.out.1 HZ0.out.2.1 HZ0.out.2.2 rfl (by decide) _ _ _ rfl (by have h2 := HW.out; first | exact h2 | exact Own.kept h2 (by (repeat (first | assumption | exact Below.refl _ _ | refine Below.drew ?_ | refine Below.setCell ?_ (by first | (simp; done) | (simp; omega) | omega) _ | refine Below.alloc ?_ (by first | (simp; done) | (simp; omega) | omega) _)))) ⟨vb, 0, none⟩ 1 1 [.int .i64 x.num, .string x.name, .int .i64 x.off] rfl rfl ?c1 ?c2 ?c3 ?c4 ?c5 ?c6)
    case c1 => exact World.news_of_block HX.out
    case c2 => intro u hu; simp only [List.mem_cons, List.not_mem_nil, or_false] at hu; rcases hu with rfl | rfl | rfl <;> rfl
    case c3 => unfold maxLen; omega
    case c4 => omega
    case c5 => first | (simp; done) | (simp; omega) | omega
    case c6 =>
      intro v' w4 hown' hgrow _
      have hb3 : Below A w w4 := Below.grown (Below.refl A w) hgrow (by omega) (fun j hj => (HO.out.lt j hj).1)
      have HS2 := Lib.hid (own_some1 hown' (by omega))
      have HO2 := Lib.hid (show Own rec 60 w4 A v' (xs ++ [x]) from own_of rec hown' (by rw [List.length_append, HL.out]; rfl) (by rw [flat_append]; rfl))
      clear hown' hgrow
      go_wp2_with fail
      go_ret
      exact ⟨_, rfl, by rw [HI2.out]; exact HO2.out, HS2.out, hb3⟩
  · rw [hi] at hcap HO HW ⊢
    have h2 := hcm
    unfold maxLen at h2
    have j0 : 0 ≤ (i : Int) := by omega
    have j1 : (i : Int) ≤ (cap : Int) := by omega
    clear h hown hx
    by_cases hck : cap = i
    · subst hck
      go_enter Tryd.func50, Tryd.ntmps50
      go_wp2_with (at_builtin; refine wpList_append_own _ rfl (.tmp 23) (.tmp 24) 24 rfl A 60 i0 (.agg #[.int .i64 0, .string ⟨#[]⟩, .int .i64 0]) 3 32 Tryd.underlying24 HI0.out HZ0.out.1 HZ0.out.2.1 HZ0.out.2.2 rfl (by decide) _ _ _ rfl (by have h2 := HW.out; first | exact h2 | exact Own.kept h2 (by (repeat (first | assumption | exact Below.refl _ _ | refine Below.drew ?_ | refine Below.setCell ?_ (by first | (simp; done) | (simp; omega) | omega) _ | refine Below.alloc ?_ (by first | (simp; done) | (simp; omega) | omega) _)))) ⟨vb, 0, none⟩ 1 1 [.int .i64 x.num, .string x.name, .int .i64 x.off] rfl rfl ?c1 ?c2 ?c3 ?c4 ?c5 ?c6)
      case c1 => exact World.news_of_block HX.out
      case c2 => intro u hu; simp only [List.mem_cons, List.not_mem_nil, or_false] at hu; rcases hu with rfl | rfl | rfl <;> rfl
      case c3 => unfold maxLen; omega
      case c4 => omega
      case c5 => first | (simp; done) | (simp; omega) | omega
      case c6 =>
        intro v' w4 hown' hgrow _
        have hb3 : Below A w w4 := Below.grown (Below.refl A w) hgrow (by omega) (fun j hj => (HO.out.lt j hj).1)
        have HS2 := Lib.hid (own_some1 hown' (by omega))
        have HO2 := Lib.hid (show Own rec 60 w4 A v' (xs ++ [x]) from own_of rec hown' (by rw [List.length_append, HL.out]; rfl) (by rw [flat_append]; rfl))
        clear hown' hgrow
        go_wp2_with fail
        go_ret
        exact ⟨_, rfl, by rw [HI2.out]; exact HO2.out, HS2.out, hb3⟩
    · go_enter Tryd.func50, Tryd.ntmps50
      go_wp2_with (at_builtin; refine wpList_append_own _ rfl (.tmp 23) (.tmp 24) 24 rfl A 60 i0 (.agg #[.int .i64 0, .string ⟨#[]⟩, .int .i64 0]) 3 32 Tryd.underlying24 HI0.out HZ0.out.1 HZ0.out.2.1 HZ0.out.2.2 rfl (by decide) _ _ _ rfl (by have h2 := HW.out; first | exact h2 | exact Own.kept h2 (by (repeat (first | assumption | exact Below.refl _ _ | refine Below.drew ?_ | refine Below.setCell ?_ (by first | (simp; done) | (simp; omega) | omega) _ | refine Below.alloc ?_ (by first | (simp; done) | (simp; omega) | omega) _)))) ⟨vb, 0, none⟩ 1 1 [.int .i64 x.num, .string x.name, .int .i64 x.off] rfl rfl ?c1 ?c2 ?c3 ?c4 ?c5 ?c6)
      case c1 => exact World.news_of_block HX.out
      case c2 => intro u hu; simp only [List.mem_cons, List.not_mem_nil, or_false] at hu; rcases hu with rfl | rfl | rfl <;> rfl
      case c3 => unfold maxLen; omega
      case c4 => omega
      case c5 => first | (simp; done) | (simp; omega) | omega
      case c6 =>
        intro v' w4 hown' hgrow _
        have hb3 : Below A w w4 := Below.grown (Below.refl A w) hgrow (by omega) (fun j hj => (HO.out.lt j hj).1)
        have HS2 := Lib.hid (own_some1 hown' (by omega))
        have HO2 := Lib.hid (show Own rec 60 w4 A v' (xs ++ [x]) from own_of rec hown' (by rw [List.length_append, HL.out]; rfl) (by rw [flat_append]; rfl))
        clear hown' hgrow
        go_wp2_with fail
        go_ret
        exact ⟨_, rfl, by rw [HI2.out]; exact HO2.out, HS2.out, hb3⟩
set_option maxRecDepth 100000 in
set_option maxHeartbeats 3200000 in
/-- ahead of the end, with room -/
theorem ins_shift1 {A : Nat} (g cap m : Nat) (xs : List LMember.R) (x : LMember.R) (i vb : Nat) (w : World) (h : Own rec 60 w A (.slice (some ⟨g, 0, none⟩) m cap) xs) (hi : i < m) (hroom : m + 1 ≤ cap) (hsm : m ≤ 1048575)
    (hx : w.heap[vb]? = some (.cells #[.int .i64 x.num, .string x.name, .int .i64 x.off] 60 (0, 0))) (hvg : vb ≠ g) :
    Calls Tryd.prog 50 #[.slice (some ⟨g, 0, none⟩) m cap, .int .i64 i, .slice (some ⟨vb, 0, none⟩) 1 1] w (Ins A xs x i w) := by
  obtain ⟨cur, hg, hcs, hct, hAg, hmc, hcm, hxl⟩ := own_row h
  have hcellsA := h.at_
  clear h
  have h63 := hcm
  unfold maxLen at h63
  simp only [rec_n] at hcs hct
  obtain ⟨i0, hq, hz0, hz1, hz2⟩ := info_parts infoK
  have hsz : (Tryd.prog.info? 60).map (·.size) = some 3 := by rw [hq]; simp [hz1]
  have hso : ∀ W : World, (Go.sizeOf 60).run Tryd.prog W = .ok 3 W := fun W => by simp [Go.sizeOf, Go.typeInfo, hq, hz1]
  clear hq hz0 hz1 hz2
  -- the row's cells: ahead, behind, spare
  obtain ⟨S, hS⟩ : ∃ S, cur.toList = flat rec (xs.take i) ++ flat rec (xs.drop i) ++ S := ⟨cur.toList.drop (xs.length * 3), by rw [← flat_append, List.take_append_drop, ← hct, List.take_append_drop]⟩
  have la : (flat rec (xs.take i)).length = i * 3 := by rw [flat_len, rec_n, List.length_take]; congr 1; omega
  have lb : (flat rec (xs.drop i)).length = (m - i) * 3 := by rw [flat_len, rec_n, List.length_drop]; congr 1; omega
  have lx : (rec.vals x).length = 3 := rec.len x
  have lc : cur.toList.length = cap * 3 := by simpa using hcs
  have lS : (rec.vals x).length ≤ S.length := by
    have e := congrArg List.length hS
    rw [lc, List.length_append, List.length_append, la, lb] at e
    rw [lx]
    omega
  have HC2 := Lib.hid (ins_shift (A := flat rec (xs.take i)) (X := rec.vals x) (B := flat rec (xs.drop i)) (S := S) lS)
  rw [← hS, la, lx, lb] at HC2
  obtain ⟨C1, hC1⟩ : ∃ C1, C1 = spl cur.toList (i * 3 + 3) (flat rec (xs.drop i)) := ⟨_, rfl⟩
  obtain ⟨C2, hC2⟩ : ∃ C2, C2 = spl C1 (i * 3) (rec.vals x) := ⟨_, rfl⟩
  have l1 : C1.length = cap * 3 := by rw [hC1, spl_len (by rw [lb, lc]; omega), lc]
  have l2 : C2.length = cap * 3 := by rw [hC2, spl_len (by rw [lx, l1]; omega), l1]
  have HO2 := Lib.hid (show ∀ W : World, W.heap[g]? = some (.cells C2.toArray 60 (0, 0)) → Own rec 60 W A (.slice (some ⟨g, 0, none⟩) (m + 1) cap) (xs.take i ++ x :: xs.drop i) from fun W hW => own_mk hW hAg (by simp; omega) hroom hcm (by rw [l2]; rfl) ⟨_, by rw [flat_ins, hC2, hC1]; exact HC2.out⟩)
  clear HC2
  -- what the callees do
  have hov : ∀ lb' cb, (callFunc 72 #[.slice (some ⟨vb, 0, none⟩) 1 1, .slice (some ⟨g, (i + 1) * 3, none⟩) lb' cb]).run Tryd.prog w = .ok (.value (.bool false)) w := fun lb' cb => by
    rw [run_callFunc_extern Tryd.func72 (by kernel_rfl) (by kernel_rfl) (by kernel_rfl) (e := Extern.SlicesOverlaps.overlaps #[24, 24] #[4]) (by kernel_rfl),
      Lib.run_overlaps_apart w 24 4 60 Tryd.underlying24 3 hso ⟨vb, 0, none⟩ ⟨g, (i + 1) * 3, none⟩ 1 1 lb' cb hvg 60 60 3 (cap * 3) (by simp [World.shape?, hx]) (by simp [World.shape?, hg, hcs]) (by omega) (by simp [World.frozen?, hx]) (by simp [World.frozen?, hx])]
    rfl
  have hcp1 : ∀ ty dc sc, (Builtin.copy_ #[24, 24] ty #[.slice (some ⟨g, (i + 1) * 3, none⟩) (m - i) dc, .slice (some ⟨g, i * 3, none⟩) (m + 1 - i) sc]).run Tryd.prog w.drew = .ok (goInt ((m - i : Nat) : Int)) (w.drew.setRow g C1.toArray) := fun ty dc sc => by
    have h := run_copy_row_w (P := Tryd.prog) w.drew 24 24 ty 60 3 g (i * 3 + 3) (m - i) dc ⟨g, i * 3, none⟩ (m + 1 - i) sc (m - i) cur 60 (flat rec (xs.drop i)) Tryd.underlying24 hsz hg (by simp only [Nat.min_def]; split <;> omega) lb
      (fun j v hj => by
        rw [Go.WideShapes.add_plain]
        have hjl : j < (m - i) * 3 := by rw [← lb]; exact (List.getElem?_eq_some_iff.1 hj).1
        have hc2 : cur.toList[i * 3 + j]? = some v := by
          rw [hS, List.append_assoc, List.getElem?_append_right (by omega), la, show i * 3 + j - i * 3 = j by omega, List.getElem?_append_left (by rw [lb]; exact hjl)]
          exact hj
        have hc3 : cur[i * 3 + j]? = some v := by simpa using hc2
        have hg2 : w.drew.heap[g]? = some (.cells cur 60 (0, 0)) := hg
        simpa [World.cell?, hg2] using hc3) (by rw [lb, hcs]; omega) (flat_one _ _)
    have e0 : (i * 3 + 3) = (i + 1) * 3 := by omega
    rw [hC1]
    unfold spl
    rw [← e0]
    exact h
  obtain ⟨W1, hW1⟩ : ∃ W1, W1 = w.drew.setRow g C1.toArray := ⟨_, rfl⟩
  have hg1 : W1.heap[g]? = some (.cells C1.toArray 60 (0, 0)) := by rw [hW1]; exact setRow_heap w.drew g cur C1.toArray 60 _ hg
  have hx1 : W1.heap[vb]? = some (.cells #[.int .i64 x.num, .string x.name, .int .i64 x.off] 60 (0, 0)) := by rw [hW1]; exact (setRow_other w.drew g vb C1.toArray hvg).trans hx
  have hcp2 : ∀ W : World, W.heap = W1.heap → ∀ ty dc, (Builtin.copy_ #[24, 24] ty #[.slice (some ⟨g, i * 3, none⟩) (m + 1 - i) dc, .slice (some ⟨vb, 0, none⟩) 1 1]).run Tryd.prog W = .ok (goInt 1) (W.setRow g C2.toArray) := fun W hW ty dc => by
    have h := run_copy_row_w (P := Tryd.prog) W 24 24 ty 60 3 g (i * 3) (m + 1 - i) dc ⟨vb, 0, none⟩ 1 1 1 C1.toArray 60 (rec.vals x) Tryd.underlying24 hsz (by rw [hW]; exact hg1) (by simp only [Nat.min_def]; split <;> omega) (by rw [lx])
      (fun j v hj => by
        have hx2 : W.heap[vb]? = some (.cells #[.int .i64 x.num, .string x.name, .int .i64 x.off] 60 (0, 0)) := by rw [hW]; exact hx1
        exact World.news_of_block hx2 j v hj) (by rw [lx]; simp; omega) (rec.one x)
    rw [hC2]
    unfold spl
    have e0 : i * 3 = i * 3 := by omega
    rw [← e0]
    simpa using h
  rw [← hW1] at hcp1
  have hE : ∀ W : World, W.heap = W1.heap → W.heap[g]? = some (.cells C1.toArray 60 (0, 0)) := fun W hW => by rw [hW]; exact hg1
  have HB1 := Lib.hid (show Below A w W1 by rw [hW1]; exact below_setRow (Below.drew (Below.refl A w)) hAg _)
  have hd : ∀ W : World, W.drew.heap = W.heap := fun _ => rfl
  have hw1 : IntKind.i64.wrap ((i : Int) + 1) = (i : Int) + 1 := IntWalk.i64_in _ (by omega)
  have hw2 : IntKind.i64.wrap ((m : Int) + 1) = (m : Int) + 1 := IntWalk.i64_in _ (by omega)
  have ht1 : ((i : Int) + 1).toNat = i + 1 := by omega
  have ht2 : ((m : Int) + 1).toNat = m + 1 := by omega
  have b1 : (0 : Int) ≤ (i : Int) + 1 := by omega
  have b2 : ¬ (cap = i + 1) := by omega
  have b3 : ¬ (cap = i) := by omega
  have b4 : (i : Int) ≤ (m : Int) + 1 := by omega
  have b5 : (i : Int) + 1 ≤ (m : Int) + 1 := by omega
  have b6 : ¬ ((i : Int) = (m : Int)) := by omega
  have b7 : ¬ ((cap : Int) < (m : Int) + 1) := by omega
  have b8 : (m : Int) + 1 ≤ (cap : Int) := by omega
  have b9 : (i : Int) ≤ (m : Int) := by omega
  have b10 : (0 : Int) ≤ (m : Int) + 1 := by omega
  have b11 : (m : Int) ≤ (cap : Int) := by omega
  have b12 : ((i : Int) == (m : Int)) = false := by simpa using b6
  clear hW1 hC1 hC2 hS la lb lx lc lS l1 l2 hcs hct hx hcellsA hg hg1 hx1
  have mixed : Tryd.prog.follows Departure.mixedOrders = true := by kernel_rfl
  go_enter Tryd.func50, Tryd.ntmps50
  go_wp2_with (simp only [hov])
  go_region_law_o (refine step_copy_runI rfl _ _ 24 24 rfl _ _ (by simp [Act.eval, Act.put]) (by simp [Act.eval, Act.put]) (hcp1 _ _ _) ?_)
  go_wp2_with (at_builtin; refine wpList_copy_runI _ rfl _ _ 24 24 rfl _ _ rfl rfl (hcp2 _ rfl _ _) ?_)
  go_ret
  exact ⟨_, rfl, HO2.out _ (by exact setRow_heap _ g _ _ _ _ (hE _ rfl)), ⟨g, rfl⟩, below_setRow (by first | exact HB1.out | exact Below.drew HB1.out) hAg _⟩
set_option maxRecDepth 100000 in
set_option maxHeartbeats 3200000 in
/-- ahead of the end, without room -/
theorem ins_grow {A : Nat} (g cap m : Nat) (xs : List LMember.R) (x : LMember.R) (i vb : Nat) (w : World) (h : Own rec 60 w A (.slice (some ⟨g, 0, none⟩) m cap) xs) (hA : A ≤ w.heap.size) (hi : i < m) (hroom : cap < m + 1) (hsm : m ≤ 1048575)
    (hx : w.heap[vb]? = some (.cells #[.int .i64 x.num, .string x.name, .int .i64 x.off] 60 (0, 0))) :
    Calls Tryd.prog 50 #[.slice (some ⟨g, 0, none⟩) m cap, .int .i64 i, .slice (some ⟨vb, 0, none⟩) 1 1] w (Ins A xs x i w) := by
  obtain ⟨cur, hg, hcs, hct, hAg, hmc, hcm, hxl⟩ := own_row h
  obtain rfl : cap = m := by omega
  clear h
  have h63 := hcm
  unfold maxLen at h63
  simp only [rec_n] at hcs hct
  obtain ⟨i0, hq, hz0, hz1, hz2⟩ := info_parts infoK
  have hsz : (Tryd.prog.info? 60).map (·.size) = some 3 := by rw [hq]; simp [hz1]
  have hgN : g < w.heap.size := (Array.getElem?_eq_some_iff.1 hg).1
  have hvN : vb < w.heap.size := (Array.getElem?_eq_some_iff.1 hx).1
  have hcl : cur.toList = flat rec (xs.take i) ++ flat rec (xs.drop i) := by
    rw [← flat_append, List.take_append_drop, ← hct, List.take_of_length_le (by rw [hxl]; simp; omega)]
  have la : (flat rec (xs.take i)).length = i * 3 := by rw [flat_len, rec_n, List.length_take]; congr 1; omega
  have lb : (flat rec (xs.drop i)).length = (cap - i) * 3 := by rw [flat_len, rec_n, List.length_drop]; congr 1; omega
  have lx : (rec.vals x).length = 3 := rec.len x
  have hold : (Builtin.firstCells i0.size i (.slice (some ⟨g, 0, none⟩) i cap)).run Tryd.prog w.drew = .ok (flat rec (xs.take i)).toArray w.drew := by
    rw [hz1]
    refine run_firstCells_some _ 3 i ⟨g, 0, none⟩ i cap (flat rec (xs.take i)) la (fun j v hj => ?_)
    rw [Go.WideShapes.add_plain]
    have hjl : j < i * 3 := by rw [← la]; exact (List.getElem?_eq_some_iff.1 hj).1
    have hc2 : cur.toList[j]? = some v := by rw [hcl, List.getElem?_append_left (by rw [la]; exact hjl)]; exact hj
    have hc3 : cur[j]? = some v := by simpa using hc2
    have hg2 : w.drew.heap[g]? = some (.cells cur 60 (0, 0)) := hg
    simpa [World.cell?, hg2] using hc3
  have hkk : (cap : Int) + 1 - (i : Int) = ((cap + 1 - i : Nat) : Int) := by omega
  have hik : i + (cap + 1 - i) = cap + 1 := by omega
  have hrz : ∀ ty, (Builtin.append_ #[24, 3] ty #[.slice (some ⟨g, 0, none⟩) i cap, .int .i64 ((cap : Int) + 1 - (i : Int))]).run Tryd.prog w =
      .ok (.slice (some ⟨w.heap.size, 0, none⟩) (cap + 1) (grownCap w (cap + 1) cap 60)) (w.drew.alloc (.cells ((flat rec (xs.take i)).toArray ++ Builtin.zeroCells (.agg #[.int .i64 0, .string ⟨#[]⟩, .int .i64 0] : Value).cells (cap + 1 - i) ++ Builtin.zeroCells (.agg #[.int .i64 0, .string ⟨#[]⟩, .int .i64 0] : Value).cells (grownCap w (cap + 1) cap 60 - (cap + 1))) 60)) := fun ty => by
    have h := Lib.run_append_grow_zeros w 24 3 ty 60 i0 _ .i64 .i64 Tryd.underlying24 Tryd.underlying3 hq hz0 (some ⟨g, 0, none⟩) i cap (flat rec (xs.take i)) hold (cap + 1 - i) (by omega) (by omega) (by omega) (by omega) (by rw [hz2]; omega) (by rw [hz2, hik]; exact growslice_fits (by omega) (by omega))
    rw [hik] at h
    rw [hkk]
    exact h
  have hzc : ∀ q, (Builtin.zeroCells (.agg #[.int .i64 0, .string ⟨#[]⟩, .int .i64 0] : Value).cells q).size = q * 3 := fun q => by simp [Builtin.zeroCells, Value.cells]
  obtain ⟨G, hG⟩ : ∃ G, G = grownCap w (cap + 1) cap 60 := ⟨_, rfl⟩
  have hGn : cap + 1 ≤ G := by rw [hG]; exact grownCap_ge w _ _ _
  have hGm : G ≤ maxLen := by rw [hG]; exact grownCap_le_maxLen w (cap + 1) cap 60 (by unfold maxLen; omega)
  rw [← hG] at hrz
  obtain ⟨Z, hZ⟩ : ∃ Z : List Value, Z = (Builtin.zeroCells (.agg #[.int .i64 0, .string ⟨#[]⟩, .int .i64 0] : Value).cells (cap + 1 - i)).toList ++ (Builtin.zeroCells (.agg #[.int .i64 0, .string ⟨#[]⟩, .int .i64 0] : Value).cells (G - (cap + 1))).toList := ⟨_, rfl⟩
  have lz : Z.length = (G - i) * 3 := by rw [hZ, List.length_append, Array.length_toList, Array.length_toList, hzc, hzc]; omega
  have hrow : (flat rec (xs.take i)).toArray ++ Builtin.zeroCells (.agg #[.int .i64 0, .string ⟨#[]⟩, .int .i64 0] : Value).cells (cap + 1 - i) ++ Builtin.zeroCells (.agg #[.int .i64 0, .string ⟨#[]⟩, .int .i64 0] : Value).cells (G - (cap + 1)) = (flat rec (xs.take i) ++ Z).toArray := by
    apply Array.toList_inj.1
    rw [hZ]; simp
  rw [hrow] at hrz
  have HC2 := Lib.hid (ins_fresh (A := flat rec (xs.take i)) (X := rec.vals x) (B := flat rec (xs.drop i)) (Z := Z) (by rw [lx, lb, lz]; omega))
  rw [la, lx, lb] at HC2
  obtain ⟨C0, hC0⟩ : ∃ C0, C0 = flat rec (xs.take i) ++ Z := ⟨_, rfl⟩
  obtain ⟨C1, hC1⟩ : ∃ C1, C1 = spl C0 (i * 3) (rec.vals x) := ⟨_, rfl⟩
  obtain ⟨C2, hC2⟩ : ∃ C2, C2 = spl C1 (i * 3 + 3) (flat rec (xs.drop i)) := ⟨_, rfl⟩
  have l0 : C0.length = G * 3 := by rw [hC0, List.length_append, la, lz]; omega
  have l1 : C1.length = G * 3 := by rw [hC1, spl_len (by rw [lx, l0]; omega), l0]
  have l2 : C2.length = G * 3 := by rw [hC2, spl_len (by rw [lb, l1]; omega), l1]
  rw [← hC0] at hrz
  obtain ⟨N, hN⟩ : ∃ N, N = w.heap.size := ⟨_, rfl⟩
  rw [← hN] at hgN hvN hA hrz
  have HO2 := Lib.hid (show ∀ W : World, W.heap[N]? = some (.cells C2.toArray 60 (0, 0)) → Own rec 60 W A (.slice (some ⟨N, 0, none⟩) (cap + 1) G) (xs.take i ++ x :: xs.drop i) from fun W hW => own_mk hW hA (by simp; omega) hGn hGm (by rw [l2]; rfl) ⟨_, by rw [flat_ins, hC2, hC1, hC0]; exact HC2.out⟩)
  clear HC2
  obtain ⟨W1, hW1⟩ : ∃ W1, W1 = w.drew.alloc (.cells C0.toArray 60) := ⟨_, rfl⟩
  rw [← hW1] at hrz
  have hN1 : W1.heap[N]? = some (.cells C0.toArray 60 (0, 0)) := by rw [hW1, hN]; exact heap_alloc_new w.drew _
  have hg1 : W1.heap[g]? = some (.cells cur 60 (0, 0)) := by rw [hW1]; exact (Below.heap_alloc w.drew _ g (by show g < w.heap.size; omega)).trans hg
  have hx1 : W1.heap[vb]? = some (.cells #[.int .i64 x.num, .string x.name, .int .i64 x.off] 60 (0, 0)) := by rw [hW1]; exact (Below.heap_alloc w.drew _ vb (by show vb < w.heap.size; omega)).trans hx
  have HB1 := Lib.hid (show Below A w W1 by rw [hW1]; exact (Below.drew (Below.refl A w)).alloc (by show A ≤ w.heap.size; omega) _)
  have hcpA : ∀ W : World, W.heap = W1.heap → ∀ ty dc, (Builtin.copy_ #[24, 24] ty #[.slice (some ⟨N, i * 3, none⟩) (cap + 1 - i) dc, .slice (some ⟨vb, 0, none⟩) 1 1]).run Tryd.prog W = .ok (goInt 1) (W.setRow N C1.toArray) := fun W hW ty dc => by
    have h := run_copy_row_w (P := Tryd.prog) W 24 24 ty 60 3 N (i * 3) (cap + 1 - i) dc ⟨vb, 0, none⟩ 1 1 1 C0.toArray 60 (rec.vals x) Tryd.underlying24 hsz (by rw [hW]; exact hN1) (by simp only [Nat.min_def]; split <;> omega) (by rw [lx])
      (fun j v hj => by
        have hx2 : W.heap[vb]? = some (.cells #[.int .i64 x.num, .string x.name, .int .i64 x.off] 60 (0, 0)) := by rw [hW]; exact hx1
        exact World.news_of_block hx2 j v hj) (by rw [lx]; simp; omega) (rec.one x)
    rw [hC1]
    unfold spl
    have e0 : i * 3 = i * 3 := by omega
    rw [← e0]
    simpa using h
  have hN2 : ∀ W : World, W.heap = (W1.setRow N C1.toArray).heap → W.heap[N]? = some (.cells C1.toArray 60 (0, 0)) := fun W hW => by rw [hW]; exact setRow_heap W1 N C0.toArray C1.toArray 60 _ hN1
  have hg2 : ∀ W : World, W.heap = (W1.setRow N C1.toArray).heap → W.heap[g]? = some (.cells cur 60 (0, 0)) := fun W hW => by rw [hW]; exact (setRow_other W1 N g C1.toArray (by omega)).trans hg1
  have hcpB : ∀ W : World, W.heap[N]? = some (.cells C1.toArray 60 (0, 0)) → W.heap[g]? = some (.cells cur 60 (0, 0)) → ∀ ty dc sc, (Builtin.copy_ #[24, 24] ty #[.slice (some ⟨N, (i + 1) * 3, none⟩) (cap - i) dc, .slice (some ⟨g, i * 3, none⟩) (cap - i) sc]).run Tryd.prog W = .ok (goInt ((cap - i : Nat) : Int)) (W.setRow N C2.toArray) := fun W hWN hWg ty dc sc => by
    have h := run_copy_row_w (P := Tryd.prog) W 24 24 ty 60 3 N (i * 3 + 3) (cap - i) dc ⟨g, i * 3, none⟩ (cap - i) sc (cap - i) C1.toArray 60 (flat rec (xs.drop i)) Tryd.underlying24 hsz hWN (by simp only [Nat.min_def]; split <;> omega) lb
      (fun j v hj => by
        rw [Go.WideShapes.add_plain]
        have hjl : j < (cap - i) * 3 := by rw [← lb]; exact (List.getElem?_eq_some_iff.1 hj).1
        have hc2 : cur.toList[i * 3 + j]? = some v := by
          rw [hcl, List.getElem?_append_right (by omega), la, show i * 3 + j - i * 3 = j by omega]
          exact hj
        have hc3 : cur[i * 3 + j]? = some v := by simpa using hc2
        simpa [World.cell?, hWg] using hc3) (by rw [lb]; simp; omega) (flat_one _ _)
    have e0 : (i * 3 + 3) = (i + 1) * 3 := by omega
    rw [hC2]
    unfold spl
    rw [← e0]
    simpa using h
  have hcpC : ∀ ty dc sc, (Builtin.copy_ #[24, 24] ty #[.slice (some ⟨N, (i + 1) * 3, none⟩) (cap - i) dc, .slice (some ⟨g, i * 3, none⟩) (cap - i) sc]).run Tryd.prog (W1.setRow N C1.toArray).drew = .ok (goInt ((cap - i : Nat) : Int)) ((W1.setRow N C1.toArray).drew.setRow N C2.toArray) := fun ty dc sc => hcpB (W1.setRow N C1.toArray).drew (hN2 _ rfl) (hg2 _ rfl) ty dc sc
  have h64 := hGm
  unfold maxLen at h64
  have hw1 : IntKind.i64.wrap ((i : Int) + 1) = (i : Int) + 1 := IntWalk.i64_in _ (by omega)
  have hw2 : IntKind.i64.wrap ((cap : Int) + 1) = (cap : Int) + 1 := IntWalk.i64_in _ (by omega)
  have hw3 : IntKind.i64.wrap ((cap : Int) + 1 - (i : Int)) = (cap : Int) + 1 - (i : Int) := IntWalk.i64_in _ (by omega)
  have ht1 : ((i : Int) + 1).toNat = i + 1 := by omega
  have b1 : (0 : Int) ≤ (i : Int) + 1 := by omega
  have b2 : ¬ (G = i + 1) := by omega
  have b3 : ¬ (G = i) := by omega
  have b4 : (i : Int) ≤ (cap : Int) + 1 := by omega
  have b5 : (i : Int) + 1 ≤ (cap : Int) + 1 := by omega
  have b6 : ¬ ((i : Int) = (cap : Int)) := by omega
  have b7 : (cap : Int) < (cap : Int) + 1 := by omega
  have b9 : (i : Int) ≤ (cap : Int) := by omega
  have b10 : (0 : Int) ≤ (cap : Int) + 1 := by omega
  have b11 : ¬ (cap = i) := by omega
  have b12 : ((i : Int) == (cap : Int)) = false := by simpa using b6
  have b13 : (cap : Int) + 1 ≤ (G : Int) := by omega
  clear hW1 hC0 hC1 hC2 hcl la lb lx lz l0 l1 l2 hcs hct hx hg hg1 hx1 hZ hrow hzc hG hold hkk hik hq hz0 hz1 hz2 hN
  have mixed : Tryd.prog.follows Departure.mixedOrders = true := by kernel_rfl
  go_enter Tryd.func50, Tryd.ntmps50
  go_wp2_with (first
    | (at_builtin; refine Lib.wpList_append_run _ rfl _ _ _ _ rfl _ _ rfl rfl _ _ (hrz _) ?_)
    | (at_builtin; refine wpList_copy_runI _ rfl _ _ 24 24 rfl _ _ rfl rfl (hcpA _ rfl _ _) ?_))
  go_region_law_o (refine step_copy_runI rfl _ _ 24 24 rfl _ _ (by simp [Act.eval, Act.put]) (by simp [Act.eval, Act.put]) (hcpC _ _ _) ?_)
  go_wp2
  go_ret
  exact ⟨_, rfl, HO2.out _ (by exact setRow_heap _ N _ _ _ _ (hN2 _ rfl)), ⟨N, rfl⟩, below_setRow (by first | exact below_setRow HB1.out hA _ | exact Below.drew (below_setRow HB1.out hA _) | exact below_setRow (Below.drew HB1.out) hA _ | exact Below.drew (below_setRow (Below.drew HB1.out) hA _)) hA _⟩
/-- anywhere -/
theorem insert1 {A : Nat} (v0 : Value) (xs : List LMember.R) (x : LMember.R) (i vb : Nat) (w : World) (h : Own rec 60 w A v0 xs) (hA : A ≤ w.heap.size) (hi : i ≤ xs.length) (hsm : xs.length ≤ 1048575)
    (hx : w.heap[vb]? = some (.cells #[.int .i64 x.num, .string x.name, .int .i64 x.off] 60 (0, 0))) (hvg : ∀ g, v0.ownBlock = some g → vb ≠ g) :
    Calls Tryd.prog 50 #[v0, .int .i64 i, .slice (some ⟨vb, 0, none⟩) 1 1] w (Ins A xs x i w) := by
  by_cases he : xs.length = i
  · exact ins_end v0 xs x i vb w h hA he hsm hx
  · rcases h.shape with ⟨rfl, hnil⟩ | ⟨g, cap, rfl, hAg, hgl, hcap, hcm⟩
    · rw [hnil] at he hi; simp only [List.length_nil] at he hi; omega
    · by_cases hroom : xs.length + 1 ≤ cap
      · exact ins_shift1 g cap xs.length xs x i vb w h (by omega) hroom hsm hx (hvg g rfl)
      · exact ins_grow g cap xs.length xs x i vb w h hA (by omega) (by omega) hsm hx
end Go.Proofs.YtneecokjhmnagaaDoor.LMember
