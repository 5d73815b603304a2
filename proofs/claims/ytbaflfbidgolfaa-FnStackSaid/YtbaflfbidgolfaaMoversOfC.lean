/- MoversOf, model and program: what both answer. No condition but that names are no longer than strings can be. -/
import Derived.Test.YtbaflfbidgolfaaData
import Derived.Test.YtbaflfbidgolfaaPut
import Derived.Test.YtbaflfbidgolfaaSortI
namespace Go.Proofs.Ytbaflfbidgolfaa.MoversOfC
open Go.RowKit Bs Word Sq St StF StL StG StA IntF AscM
set_option linter.unusedVariables false
def mv (l : List Q) : List Int := l.map (·.mover)
theorem mv_next {l : List Q} {k : Nat} {q : Q} (h : l[k]? = some q) : mv (l.take (k + 1)) = mv (l.take k) ++ [q.mover] := by
  unfold mv
  rw [List.take_add_one, h, Option.toList_some, List.map_append]; rfl
theorem mv_bound {z : List R} {l : List Q} (h : goodQ z l = true) {m : Int} (hm : m ∈ mv l) : 1 ≤ m ∧ m < 1 + (99 : Nat) := by
  obtain ⟨q, hq, rfl⟩ := List.mem_map.1 hm
  obtain ⟨i, hi, he⟩ := List.getElem_of_mem hq
  obtain ⟨_, _, _, _, _, _, hb, _⟩ := ok_parts (good_at h (show l[i]? = some q by rw [List.getElem?_eq_getElem hi, he]))
  omega
theorem mv_take {l : List Q} {k : Nat} {m : Int} (h : m ∈ mv (l.take k)) : m ∈ mv l := by
  obtain ⟨q, hq, rfl⟩ := List.mem_map.1 h
  exact List.mem_map.2 ⟨q, List.mem_of_mem_take hq, rfl⟩
def Ans (z0 : List LRule.R) (z1 : List LQuestion.R) (r0 : List Int) (r1 : Bool) : Prop := (goodQ z0 z1 = false ∧ r0 = [] ∧ r1 = false) ∨ (goodQ z0 z1 = true ∧ r1 = true ∧ Asc r0 ∧ ∀ m, m ∈ r0 ↔ m ∈ mv z1)
theorem same {z0 : List LRule.R} {z1 : List LQuestion.R} {r0 s0 : List Int} {r1 s1 : Bool} (h : Ans z0 z1 r0 r1) (h' : Ans z0 z1 s0 s1) : r0 = s0 ∧ r1 = s1 := by
  rcases h with ⟨g, rfl, rfl⟩ | ⟨g, rfl, ha, hm⟩
  · rcases h' with ⟨_, rfl, rfl⟩ | ⟨g', _⟩
    · exact ⟨rfl, rfl⟩
    · rw [g] at g'; cases g'
  · rcases h' with ⟨g', _⟩ | ⟨_, rfl, ha', hm'⟩
    · rw [g] at g'; cases g'
    · exact ⟨asc_ext ha ha' (fun n => (hm n).trans (hm' n).symm), rfl⟩
theorem len0 {z0 : List LRule.R} {z1 : List LQuestion.R} {r0 : List Int} {r1 : Bool} (h : Ans z0 z1 r0 r1) : r0.length ≤ 1048576 := by
  rcases h with ⟨_, rfl, _⟩ | ⟨g, _, ha, hm⟩
  · simp
  · have := asc_len ha (lo := 1) (n := 99) (fun x hx => mv_bound g ((hm x).1 hx))
    omega
theorem no {z : List R} {l : List Q} (h : goodQ z l = false) : Ans z l [] false := .inl ⟨h, rfl, rfl⟩
theorem yes {z : List R} {l : List Q} {r : List Int} (h : goodQ z l = true) (ha : Asc r) (hm : ∀ m, m ∈ r ↔ m ∈ mv l) : Ans z l r true := .inr ⟨h, rfl, ha, hm⟩
def APost (z0 : List LRule.R) (z1 : List LQuestion.R) (w : World) (e : Ending) (w' : World) : Prop :=
  ∃ v0 r0 r1, e = .returned (.tuple #[v0, .bool r1]) ∧ Ans z0 z1 r0 r1 ∧ Own LInt.rec 3 w' w.heap.size v0 r0 ∧ Below w.heap.size w w'
set_option maxRecDepth 100000 in
set_option maxHeartbeats 3200000 in
theorem spec (v0 : Value) (z0 : List LRule.R) (v1 : Value) (z1 : List LQuestion.R) (w : World) (h0 : IsS LRule.rec w v0 z0) (f0 : ∀ x ∈ z0, LRule.Fine x) (l0 : z0.length ≤ 1048576) (h1 : IsS LQuestion.rec w v1 z1) (f1 : ∀ x ∈ z1, LQuestion.Fine x) (l1 : z1.length ≤ 1048576) :
    Calls Try.prog 48 #[v0, v1] w (APost z0 z1 w) := by
  have HR := Lib.hid (IsS.is LRule.rec h0)
  have HQI := Lib.hid (IsS.is LQuestion.rec h1)
  have HIS := Lib.hid h1
  have HF0 := Lib.hid f0
  obtain ⟨b, o, cp, rfl, hbl, hxc, hcm, hcell⟩ := h1
  have HC := Lib.hid hcell
  obtain ⟨n, hn⟩ : ∃ n, n = z1.length := ⟨_, rfl⟩
  have HN := Lib.hid hn.symm
  rw [← hn] at HQI HIS hxc l1 ⊢
  unfold maxLen at hcm
  clear hn hcell f0 f1 h0
  obtain ⟨i9, hi, hz0, hz1, hz2⟩ := info_parts LInt.infoK
  have HI9 := Lib.hid hi
  have HZ9 := Lib.hid (And.intro hz0 (And.intro hz1 hz2))
  clear hi hz0 hz1 hz2
  have hba := (Below.refl w.heap.size w).alloc (Nat.le_refl _) (Obj.cells #[] 3)
  have HRr := Lib.hid (HR.out.below LRule.rec hba)
  have HQr := Lib.hid (HQI.out.below LQuestion.rec hba)
  cases hg : goodQ z0 z1 with
  | false =>
    have HG := Lib.hid (good_asS false HRr.out HQr.out HF0.out hg)
    have HA := Lib.hid (no hg)
    clear hg
    go_enter Try.func48, Try.ntmps48
    go_wp2_with fail
    refine HG.out.mono ?_
    rintro e w1 ⟨rfl, hb1⟩
    have HOb := Lib.hid ((Own.start (T := LInt.rec) (E := 3) (w := w) (A := w.heap.size) (Nat.le_refl _)).kept hb1)
    have hbz := hba.trans (hb1.mono hba.size)
    go_wp2_with fail
    go_ret2
    exact ⟨_, [], false, rfl, HA.out, HOb.out, hbz⟩
  | true =>
    have HG := Lib.hid (good_asS true HRr.out HQr.out HF0.out hg)
    have HGD := Lib.hid hg
    have h6 : n ≤ 6 := by have := good_len hg; have := HN.out; omega
    clear hg
    go_enter Try.func48, Try.ntmps48
    go_wp2_with fail
    refine HG.out.mono ?_
    rintro e w1 ⟨rfl, hb1⟩
    have HO0 := Lib.hid ((Own.start (T := LInt.rec) (E := 3) (w := w) (A := w.heap.size) (Nat.le_refl _)).kept hb1)
    have hbs := hba.trans (hb1.mono hba.size)
    go_wp2_with fail
    go_loopw [6, 7] (fun so i wr => ∃ (k : Nat) (o1 : Value) (zs : List Int), o1 = so ∧ k ≤ n ∧ i = .int .i64 k ∧ Hid (Asc zs) ∧ Hid (∀ m, m ∈ zs ↔ m ∈ mv (z1.take k)) ∧ Hid (∃ g, o1.ownBlock = some g) ∧ Hid (Own LInt.rec 3 wr w.heap.size o1 zs) ∧ Below w.heap.size w wr) (fun _ i _ => n - (intOf i).toNat)
    case atStart => exact ⟨0, _, [], rfl, Nat.zero_le _, rfl, Lib.hid trivial, Lib.hid (fun m => Iff.rfl), Lib.hid ⟨_, rfl⟩, HO0, hbs⟩
    case round =>
      clear HO0 hbs hb1
      obtain ⟨k, o1, zs, rfl, hk, rfl, HAs, HMm, HNN, HO, hb⟩ := hrel
      by_cases hlt : k < n
      · have hx : k < z1.length := by have := HN.out; omega
        have HX := Lib.hid (List.getElem?_eq_getElem hx)
        have HCX := Lib.hid (HC.out k z1[k] HX.out)
        have k0 : 0 ≤ (k : Int) := by omega
        have k1 : (k : Int) < (n : Int) := by omega
        have HZ2 := Lib.hid (mv_next HX.out)
        have hzl : zs.length ≤ 99 := asc_len HAs.out (lo := 1) (n := 99) (fun x hxm => mv_bound HGD.out (mv_take ((HMm.out x).1 hxm)))
        generalize z1[k] = X at *
        obtain ⟨q0, q1, q2⟩ := LQuestion.cells (HCX.out.below LQuestion.rec hb hbl)
        simp only [LQuestion.rec_n] at q0 q1 q2
        have HI := Lib.hid (HO.out.isS HNN.out)
        by_cases hmem : X.mover ∈ zs
        · have HP := Lib.hid (Put.putHas o1 zs X.mover wr HI.out HAs.out hmem (by omega))
          have HM2 := Lib.hid (show ∀ m, m ∈ zs ↔ m ∈ mv (z1.take (k + 1)) from fun m => by
            rw [HZ2.out, List.mem_append, List.mem_singleton, HMm.out m]
            exact ⟨.inl, fun h => h.elim id (fun e => by rw [e]; exact (HMm.out _).1 hmem)⟩)
          clear hmem
          go_wp2_with fail
          refine HP.out.mono ?_
          rintro e _ ⟨rfl, rfl⟩
          go_wp2_with fail
          go_roundw
          case rel => exact ⟨k + 1, o1, zs, rfl, by omega, by go_num, HAs, HM2, HNN, HO, hb⟩
          case measure => simp [intOf]; omega
        · have HP := Lib.hid (Put.l1Put o1 zs X.mover wr HI.out HAs.out hmem (by omega))
          clear hmem
          go_wp2_with fail
          refine HP.out.mono ?_
          rintro e w4 ⟨o2, zs2, rfl, ha2, hm2, ho2, hn2, hb2⟩
          have HA2 := Lib.hid ha2
          have HM2 := Lib.hid (show ∀ m, m ∈ zs2 ↔ m ∈ mv (z1.take (k + 1)) from fun m => by
            rw [HZ2.out, List.mem_append, List.mem_singleton, hm2 m, HMm.out m]
            exact ⟨fun h => h.elim .inr .inl, fun h => h.elim .inr .inl⟩)
          have HN2 := Lib.hid hn2
          have HO2 := Lib.hid (ho2.low hb.size)
          have hb3 := hb.trans (hb2.mono hb.size)
          clear ha2 hm2 ho2 hn2 hb2
          go_wp2_with fail
          go_roundw
          case rel => exact ⟨k + 1, o2, zs2, rfl, by omega, by go_num, HA2, HM2, HN2, HO2, hb3⟩
          case measure => simp [intOf]; omega
      · obtain rfl : k = n := by omega
        have HA := Lib.hid (yes HGD.out HAs.out (fun m => by have := HMm.out m; rwa [List.take_of_length_le (by have := HN.out; omega)] at this))
        go_wp2_with fail
        go_ret2
        exact ⟨_, _, true, rfl, HA.out, HO.out, hb⟩
set_option maxRecDepth 100000 in
set_option maxHeartbeats 3200000 in
theorem impl (v0 : Value) (z0 : List LRule.R) (v1 : Value) (z1 : List LQuestion.R) (w : World) (h0 : IsS LRule.rec w v0 z0) (f0 : ∀ x ∈ z0, LRule.Fine x) (l0 : z0.length ≤ 1048576) (h1 : IsS LQuestion.rec w v1 z1) (f1 : ∀ x ∈ z1, LQuestion.Fine x) (l1 : z1.length ≤ 1048576) :
    Calls Try.prog 49 #[v0, v1] w (APost z0 z1 w) := by
  have HR := Lib.hid (IsS.is LRule.rec h0)
  have HQI := Lib.hid (IsS.is LQuestion.rec h1)
  have HIS := Lib.hid h1
  have HF0 := Lib.hid f0
  obtain ⟨b, o, cp, rfl, hbl, hxc, hcm, hcell⟩ := h1
  have HC := Lib.hid hcell
  obtain ⟨n, hn⟩ : ∃ n, n = z1.length := ⟨_, rfl⟩
  have HN := Lib.hid hn.symm
  rw [← hn] at HQI HIS hxc l1 ⊢
  unfold maxLen at hcm
  clear hn hcell f0 f1 h0
  obtain ⟨i9, hi, hz0, hz1, hz2⟩ := info_parts LInt.infoK
  have HI9 := Lib.hid hi
  have HZ9 := Lib.hid (And.intro hz0 (And.intro hz1 hz2))
  clear hi hz0 hz1 hz2
  have HRr := HR
  have HQr := HQI
  cases hg : goodQ z0 z1 with
  | false =>
    have HG := Lib.hid (good_asI false HRr.out HQr.out HF0.out hg)
    have HA := Lib.hid (no hg)
    clear hg
    go_enter Try.func49, Try.ntmps49
    go_wp2_with fail
    refine HG.out.mono ?_
    rintro e w1 ⟨rfl, hb1⟩
    have HOb := Lib.hid (Own.start (T := LInt.rec) (E := 3) (w := w1) hb1.size)
    have hbz := hb1.alloc hb1.size (Obj.cells #[] 3)
    go_wp2_with fail
    go_ret2
    exact ⟨_, [], false, rfl, HA.out, HOb.out, hbz⟩
  | true =>
    have HG := Lib.hid (good_asI true HRr.out HQr.out HF0.out hg)
    have HGD := Lib.hid hg
    have h6 : n ≤ 6 := by have := good_len hg; have := HN.out; omega
    clear hg
    go_enter Try.func49, Try.ntmps49
    go_wp2_with fail
    refine HG.out.mono ?_
    rintro e w1 ⟨rfl, hb1⟩
    have hbs := hb1.alloc hb1.size (Obj.cells #[] 3)
    have HO0 := Lib.hid (Own.start (T := LInt.rec) (E := 3) (w := w1) hb1.size)
    go_wp2_with fail
    go_loopw [6, 17] (fun so i wr => ∃ (k : Nat) (o1 : Value) (zs : List Int), o1 = so ∧ k ≤ n ∧ i = .int .i64 k ∧ Hid (zs = mv (z1.take k)) ∧ zs.length ≤ k ∧ Hid (Own LInt.rec 3 wr w.heap.size o1 zs) ∧ Below w.heap.size w wr) (fun _ i _ => n - (intOf i).toNat)
    case atStart => exact ⟨0, _, [], rfl, Nat.zero_le _, rfl, Lib.hid rfl, Nat.le_refl _, HO0, hbs⟩
    case round =>
      clear HO0 hbs hb1
      obtain ⟨k, o1, zs, rfl, hk, rfl, HZ, hzl, HO, hb⟩ := hrel
      by_cases hlt : k < n
      · have hx : k < z1.length := by have := HN.out; omega
        have HX := Lib.hid (List.getElem?_eq_getElem hx)
        have HCX := Lib.hid (HC.out k z1[k] HX.out)
        have k0 : 0 ≤ (k : Int) := by omega
        have k1 : (k : Int) < (n : Int) := by omega
        have HZ3 := Lib.hid (show zs ++ [z1[k].mover] = mv (z1.take (k + 1)) by rw [mv_next HX.out, ← HZ.out])
        generalize z1[k] = X at *
        obtain ⟨q0, q1, q2⟩ := LQuestion.cells (HCX.out.below LQuestion.rec hb hbl)
        simp only [LQuestion.rec_n] at q0 q1 q2
        go_upto_region 7 with fail
        have HBX := Lib.hid (LQuestion.box wr X 47)
        have hba := hb.alloc hb.size (Obj.cells #[.int .i64 X.rule, .int .i64 X.mover, .bool X.sec] 47)
        have HO1 := Lib.hid (HO.out.alloc (Obj.cells #[.int .i64 X.rule, .int .i64 X.mover, .bool X.sec] 47))
        clear q0 q1 q2 HO
        generalize wr.alloc (Obj.cells #[.int .i64 X.rule, .int .i64 X.mover, .bool X.sec] 47) = wq at *
        have hGl : w.heap.size ≤ wr.heap.size := hb.size
        generalize wr.heap.size = G at *
        clear hb
        obtain ⟨x0, x1, x2⟩ := LQuestion.cells0 HBX.out
        have HO := HO1
        have hsz := hba.size
        clear HO1
        go_wp2_with (at_builtin; refine wpList_append_own _ rfl (.tmp 21) (.tmp 24) 34 rfl w.heap.size 3 i9 (.int .i64 0) 1 8 Try.underlying34 HI9.out HZ9.out.1 HZ9.out.2.1 HZ9.out.2.2 rfl (by decide) _ _ _ rfl (Own.kept HO.out (by (repeat (first | assumption | exact Below.refl _ _ | refine Below.drew ?_ | refine Below.setCell ?_ (by first | (simp; done) | (simp; omega) | omega) _ | refine Below.alloc ?_ (by first | (simp; done) | (simp; omega) | omega) _)))) ⟨_, 0, none⟩ 1 1 [.int .i64 X.mover] rfl rfl ?c1 ?c2 ?c3 ?c4 ?c5 ?c6)
        try (case c1 => first | exact World.news_of_block (heap_alloc_new _ _) | exact World.news_of_block (alloc_two _ _ _))
        case c2 => first | rfl | (intro u hu; simp only [List.mem_cons, List.not_mem_nil, or_false] at hu; subst hu; rfl)
        case c3 => unfold maxLen; omega
        case c4 => omega
        case c5 => first | (simp; done) | (simp; omega) | omega
        case c6 =>
          intro v' w4 hown' hgrow _
          have hb3 : Below w.heap.size w w4 := Below.grown (by (repeat (first | assumption | exact Below.refl _ _ | refine Below.drew ?_ | refine Below.setCell ?_ (by first | (simp; done) | (simp; omega) | omega) _ | refine Below.alloc ?_ (by first | (simp; done) | (simp; omega) | omega) _))) hgrow (by first | (simp; done) | (simp; omega) | omega) (fun j hj => (HO.out.lt j hj).1)
          have HO2 := Lib.hid (show Own LInt.rec 3 w4 w.heap.size v' (zs ++ [X.mover]) from own_of LInt.rec hown' (by simp) (by rw [flat_append]; rfl))
          clear hown' hgrow
          go_wp2_with fail
          go_roundw
          case rel => exact ⟨k + 1, _, _, rfl, by omega, by go_num, HZ3, by simp; omega, HO2, hb3⟩
          case measure => simp [intOf]; omega
      · obtain rfl : k = n := by omega
        have hE : Own LInt.rec 3 wr w.heap.size o1 (mv z1) := by have h := HO.out; rw [HZ.out, List.take_of_length_le (by have := HN.out; omega)] at h; exact h
        have hml : (mv z1).length ≤ 6 := by unfold mv; rw [List.length_map]; have := HN.out; omega
        have HS1 := Lib.hid (SortI.sortOwn _ _ (mv z1) _ hE (by omega))
        have HL2 := Lib.hid (show ((mv z1).mergeSort SortI.le).length ≤ 1048576 by rw [List.length_mergeSort]; omega)
        have HSC := Lib.hid (SortI.sorted_compact (mv z1))
        clear hE hml HZ
        go_wp2_with fail
        refine HS1.out.mono ?_
        rintro e w5 ⟨rfl, ho5, hb5⟩
        have HC2 := Lib.hid (SortI.compactOwn _ _ _ _ ho5 HL2.out (SortI.compact_len _))
        have hb6 := hb.trans hb5
        clear ho5 hb5 HO
        go_wp2_with fail
        refine HC2.out.mono ?_
        rintro e w6 ⟨v6, rfl, ho6, hb7⟩
        have HO6 := Lib.hid ho6
        have HA := Lib.hid (yes HGD.out HSC.out.1 HSC.out.2)
        have hb8 := hb6.trans hb7
        clear ho6 hb7
        go_wp2_with fail
        go_ret2
        exact ⟨_, _, true, rfl, HA.out, HO6.out, hb8⟩
end Go.Proofs.Ytbaflfbidgolfaa.MoversOfC
