/- impl.firstThat[int] over the numbers of a range, for each of the program's tests. No condition but that the test answers and keeps what lay ahead. -/
import Derived.Test.YtankaffhapcnaaaTalN
namespace Go.Proofs.Ytankaffhapcnaaa.TalF
open Go.RowKit Go.Shelf Tal TalN
attribute [local go_sem] Oper.semAt_some
set_option linter.unusedVariables false
theorem cell_of_box {W : World} {B : Nat} {v : Value} {t : TypeId} (h : W.heap[B]? = some (.cells #[v] t (0, 0))) : W.cell? ⟨B, 0, none⟩ = some v ∧ W.frozen? ⟨B, 0, none⟩ = false := by
  constructor <;> simp [World.cell?, World.frozen?, h]
theorem cell_new (W : World) (v : Value) (t : TypeId) : (W.alloc (.cells #[v] t)).cell? ⟨W.heap.size, 0, none⟩ = some v ∧ (W.alloc (.cells #[v] t)).frozen? ⟨W.heap.size, 0, none⟩ = false :=
  cell_of_box (World.alloc_heap_new W _)
theorem cell_alloc {W : World} {a : Addr} {v : Value} (o : Obj) (h : W.cell? a = some v) : (W.alloc o).cell? a = some v := cell_kept h (World.grownBy_alloc W o none) (fun r e => by cases e)
theorem frozen_alloc {W : World} {a : Addr} {v : Value} (o : Obj) (h : W.cell? a = some v) (hf : W.frozen? a = false) : (W.alloc o).frozen? a = false := (frozen_kept h (World.grownBy_alloc W o none) (fun r e => by cases e)).trans hf
/-- the first of them that fits, or none -/
def Found (p : Int → Bool) (xs : List Int) (r0 : Int) (r1 : Bool) : Prop := (r1 = true ∧ ∃ pre, pre ++ [r0] <+: xs ∧ p r0 = true ∧ ∀ y ∈ pre, p y = false) ∨ (r1 = false ∧ r0 = 0 ∧ ∀ y ∈ xs, p y = false)
def Post (p : Int → Bool) (xs : List Int) (w : World) (e : Ending) (w' : World) : Prop := ∃ r0 r1, e = .returned (.tuple #[.int .i64 r0, .bool r1]) ∧ Found p xs r0 r1 ∧ Below w.heap.size w w'
set_option maxRecDepth 100000 in
set_option maxHeartbeats 2000000 in
theorem firstY (B1 B2 B3 P0 P1 : Nat) (a b d : Int) (n : Nat) (hd : d = 1 ∨ d = -1) (hb : b + d = a + d * (n : Int)) (ha : -5000 ≤ a ∧ a ≤ 5000) (hn : n ≤ 5000) (p : Int → Bool) (w : World) (h1 : B1 < w.heap.size) (h2 : B2 < w.heap.size) (h3 : B3 < w.heap.size)
    (c1 : w.cell? ⟨B1, 0, none⟩ = some (.int .i64 a)) (c2 : w.cell? ⟨B2, 0, none⟩ = some (.int .i64 b)) (c3 : w.cell? ⟨B3, 0, none⟩ = some (.int .i64 d))
    (hf : Hid (∀ (x : Int) (W : World), Below w.heap.size w W → Calls Try.prog 118 #[.int .i64 x, .pointer (some ⟨P0, 0, none⟩), .pointer (some ⟨P1, 0, none⟩)] W fun e W' => e = .returned (.bool (p x)) ∧ Below W.heap.size W W')) :
    Calls Try.prog 116 #[.func (.func 146) #[] #[.pointer (some ⟨B1, 0, none⟩), .pointer (some ⟨B2, 0, none⟩), .pointer (some ⟨B3, 0, none⟩)], .func (.func 118) #[] #[.pointer (some ⟨P0, 0, none⟩), .pointer (some ⟨P1, 0, none⟩)]] w (Post p (upto a d n) w) := by
  refine (callsIn_wide (n := 3)).1 ?_
  refine callsIn_of_wp_marks Try.func116 rfl trivial ?_ rfl
  simp only [Try.ntmps116, List.size_toArray, List.length_cons, List.length_nil, Nat.reduceAdd, Nat.reduceSub, Array.replicate_succ, Array.replicate_zero, List.push_toArray, List.append_toArray, List.nil_append, List.cons_append]
  gi_wp2
  have c4 := cell_new w (.func (.func 118) #[] #[.pointer (some ⟨P0, 0, none⟩), .pointer (some ⟨P1, 0, none⟩)]) 83
  have c5 := cell_new (w.alloc (.cells #[(.func (.func 118) #[] #[.pointer (some ⟨P0, 0, none⟩), .pointer (some ⟨P1, 0, none⟩)])] 83)) (.int .i64 0) 3
  have c6 := cell_new ((w.alloc (.cells #[(.func (.func 118) #[] #[.pointer (some ⟨P0, 0, none⟩), .pointer (some ⟨P1, 0, none⟩)])] 83)).alloc (.cells #[.int .i64 0] 3)) (.bool false) 4
  simp only [World.size_alloc] at c5 c6
  have hB0 : Below w.heap.size w (((w.alloc (.cells #[(.func (.func 118) #[] #[.pointer (some ⟨P0, 0, none⟩), .pointer (some ⟨P1, 0, none⟩)])] 83)).alloc (.cells #[.int .i64 0] 3)).alloc (.cells #[.bool false] 4)) := (((Below.refl _ w).alloc (Nat.le_refl _) _).alloc (by simp) _).alloc (by simp; omega) _
  refine wpIn_rangeFunc_ownF rfl (by decide) (gf := 146) (lb := #[.pointer (some ⟨B1, 0, none⟩), .pointer (some ⟨B2, 0, none⟩), .pointer (some ⟨B3, 0, none⟩)]) rfl trivial (enters_of Try.func146 (by kernel_rfl) rfl)
    (stops (3 - 1) (by decide) B1 B2 B3 w.heap.size a b d n hd hb ha hn _ hB0.size h1 h2 h3 ((hB0.cell (p := ⟨B1, 0, none⟩) h1).trans c1) ((hB0.cell (p := ⟨B2, 0, none⟩) h2).trans c2) ((hB0.cell (p := ⟨B3, 0, none⟩) h3).trans c3)) belowK_t (belowK_b (by simp; omega)) (Below.refl _ _) (fun _ => rfl)
    (fun pre W => ((∀ y ∈ pre, p y = false) ∧ W.cell? ⟨w.heap.size, 0, none⟩ = some (.func (.func 118) #[] #[.pointer (some ⟨P0, 0, none⟩), .pointer (some ⟨P1, 0, none⟩)]) ∧ W.cell? ⟨w.heap.size + 1, 0, none⟩ = some (.int .i64 0) ∧ W.cell? ⟨w.heap.size + 1 + 1, 0, none⟩ = some (.bool false) ∧ W.frozen? ⟨w.heap.size + 1, 0, none⟩ = false ∧ W.frozen? ⟨w.heap.size + 1 + 1, 0, none⟩ = false) ∧ Below w.heap.size w W)
    (fun c pre W => (c = .ret ∧ ∃ (q : List Int) (r : Int), pre = q ++ [r] ∧ p r = true ∧ (∀ y ∈ q, p y = false) ∧ W.cell? ⟨w.heap.size + 1, 0, none⟩ = some (.int .i64 r) ∧ W.cell? ⟨w.heap.size + 1 + 1, 0, none⟩ = some (.bool true)) ∧ Below w.heap.size w W)
    (OwnFrom.and (Own.from (fun s A B row hs hg hr => ⟨hs.1, cell_kept hs.2.1 hg hr, cell_kept hs.2.2.1 hg hr, cell_kept hs.2.2.2.1 hg hr, (frozen_kept hs.2.2.1 hg hr).trans hs.2.2.2.2.1, (frozen_kept hs.2.2.2.1 hg hr).trans hs.2.2.2.2.2⟩) _) (ownFrom_below (Nat.le_refl _) (by simp; omega)))
    (fun c => OwnFrom.and (Own.from (fun s A B row hs hg hr => ⟨hs.1, hs.2.choose, hs.2.choose_spec.choose, hs.2.choose_spec.choose_spec.1, hs.2.choose_spec.choose_spec.2.1, hs.2.choose_spec.choose_spec.2.2.1, cell_kept hs.2.choose_spec.choose_spec.2.2.2.1 hg hr, cell_kept hs.2.choose_spec.choose_spec.2.2.2.2 hg hr⟩) _) (ownFrom_below (Nat.le_refl _) (by simp; omega)))
    ⟨⟨by simp, cell_alloc _ (cell_alloc _ c4.1), cell_alloc _ c5.1, c6.1, frozen_alloc _ c5.1 c5.2, c6.2⟩, hB0⟩
    (fun x => { tmps := #[.func (.func 146) #[] #[.pointer (some ⟨B1, 0, none⟩), .pointer (some ⟨B2, 0, none⟩), .pointer (some ⟨B3, 0, none⟩)], (.func (.func 118) #[] #[.pointer (some ⟨P0, 0, none⟩), .pointer (some ⟨P1, 0, none⟩)]), undef, .pointer (some ⟨w.heap.size, 0, none⟩), .pointer (some ⟨w.heap.size + 1, 0, none⟩), .pointer (some ⟨w.heap.size + 1 + 1, 0, none⟩), .int .i64 x, undef, .func (.func 146) #[] #[.pointer (some ⟨B1, 0, none⟩), .pointer (some ⟨B2, 0, none⟩), .pointer (some ⟨B3, 0, none⟩)], .int .i64 x, undef, undef, undef, undef, undef], defers := [] }) ?assign ?body ?done ?stop
  case assign =>
    intro l x W K hK
    gi_wp2
    exact hK
  case body =>
    rintro l pre x W ⟨⟨hp, q0, q1, q2, f1, f2⟩, hB⟩ hlt
    have HC := hf.out x W hB
    clear hf
    cases hpx : p x with
    | false =>
      rw [hpx] at HC
      gi_wp2_with (refine ⟨trivial, ?_⟩; gi_at_call 118; refine (CallsIn.inRound l (callsIn_wide.2 HC)).mono ?_; clear HC; rintro e W2 ⟨rfl, hb2⟩)
      exact ⟨⟨hb2.size, fun k o h _ => (hb2.block k (Array.getElem?_eq_some_iff.1 h).1).trans h⟩, hb2.mono hB.size, ⟨fun y hy => (List.mem_append.1 hy).elim (hp y) (fun e => by rw [List.mem_singleton.1 e]; exact hpx), (hb2.cell (Bs.cell_lt q0)).trans q0, (hb2.cell (Bs.cell_lt q1)).trans q1, (hb2.cell (Bs.cell_lt q2)).trans q2, (hb2.frozen (p := ⟨w.heap.size + 1, 0, none⟩) (Bs.cell_lt q1)).trans f1, (hb2.frozen (p := ⟨w.heap.size + 1 + 1, 0, none⟩) (Bs.cell_lt q2)).trans f2⟩, hB.trans (hb2.mono hB.size)⟩
    | true =>
      rw [hpx] at HC
      gi_wp2_with (refine ⟨trivial, ?_⟩; gi_at_call 118; refine (CallsIn.inRound l (callsIn_wide.2 HC)).mono ?_; clear HC; rintro e W2 ⟨rfl, hb2⟩; have r1 := (hb2.cell (Bs.cell_lt q1)).trans q1; have r2 := (hb2.cell (Bs.cell_lt q2)).trans q2; have g1 := (hb2.frozen (p := ⟨w.heap.size + 1, 0, none⟩) (Bs.cell_lt q1)).trans f1; have g2 := (hb2.frozen (p := ⟨w.heap.size + 1 + 1, 0, none⟩) (Bs.cell_lt q2)).trans f2)
      have hab : (⟨w.heap.size + 1, 0, none⟩ : Addr) ≠ ⟨w.heap.size + 1 + 1, 0, none⟩ := by intro e; have := congrArg Addr.block e; simp only at this; omega
      have k0 : KeepsOthers W W2 := ⟨hb2.size, fun k o h _ => (hb2.block k (Array.getElem?_eq_some_iff.1 h).1).trans h⟩
      refine ⟨(k0.trans (KeepsOthers.setCell _ _ _)).trans (KeepsOthers.setCell _ _ _), ⟨rfl, pre, x, rfl, hpx, hp, ?_, ?_⟩, ((hB.trans (hb2.mono hB.size)).setCell (p := ⟨w.heap.size + 1, 0, none⟩) (by simp) _).setCell (p := ⟨w.heap.size + 1 + 1, 0, none⟩) (by simp; omega) _⟩
      · rw [World.cell?_setCell_other (h := hab.symm)]; exact World.cell?_setCell_same _ _ _ r1
      · exact World.cell?_setCell_same _ _ _ (by rw [World.cell?_setCell_other (h := hab)]; exact r2)
  case done =>
    rintro D ys W hD rfl ⟨⟨hne, q0, q1, q2, f1, f2⟩, hB⟩ hK
    gi_wp2
    have hK1 := (KeepsOthers.setCell W ⟨w.heap.size + 1, 0, none⟩ (.int .i64 0)).same D _ hK rfl
    have hK' := (KeepsOthers.setCell _ ⟨w.heap.size + 1 + 1, 0, none⟩ (.bool false)).same D _ hK1 rfl
    have hab : (⟨w.heap.size + 1, 0, none⟩ : Addr) ≠ ⟨w.heap.size + 1 + 1, 0, none⟩ := by intro e; have := congrArg Addr.block e; simp only at this; omega
    have r1 : ((W.setCell ⟨w.heap.size + 1, 0, none⟩ (.int .i64 0)).setCell ⟨w.heap.size + 1 + 1, 0, none⟩ (.bool false)).cell? ⟨w.heap.size + 1, 0, none⟩ = some (.int .i64 0) := by rw [World.cell?_setCell_other (h := hab.symm)]; exact World.cell?_setCell_same _ _ _ q1
    have r2 : ((W.setCell ⟨w.heap.size + 1, 0, none⟩ (.int .i64 0)).setCell ⟨w.heap.size + 1 + 1, 0, none⟩ (.bool false)).cell? ⟨w.heap.size + 1 + 1, 0, none⟩ = some (.bool false) := World.cell?_setCell_same _ _ _ (by rw [World.cell?_setCell_other (h := hab)]; exact q2)
    have hB2 := (hB.setCell (p := ⟨w.heap.size + 1, 0, none⟩) (by simp) (.int .i64 0)).setCell (p := ⟨w.heap.size + 1 + 1, 0, none⟩) (by simp; omega) (.bool false)
    refine ⟨by simp, .inl ⟨_, _, rfl, run_takeDeferred hK', ?_⟩⟩
    have e1 := cell_kept r1 (grownBy_putObj' _ D (.deferred none)) (fun r e => by cases e; exact ⟨_, hK', rfl⟩)
    have e2 := cell_kept r2 (grownBy_putObj' _ D (.deferred none)) (fun r e => by cases e; exact ⟨_, hK', rfl⟩)
    refine ⟨.tuple #[.int .i64 0, .bool false], ?_, 0, false, rfl, .inr ⟨rfl, rfl, hne⟩, hB2.trans (belowK_b (w := w) (Nat.le_refl _) _ D _ _ (by simp at hD; omega) hK' rfl rfl)⟩
    simp [results, Try.f116, go_sem, e1, e2]
  case stop =>
    rintro D c pre W hD hpre ⟨⟨rfl, q, r, rfl, hr, hq, q1, q2⟩, hB⟩ hK
    gi_wp2
    refine ⟨by simp, .inl ⟨_, _, rfl, run_takeDeferred hK, ?_⟩⟩
    have e1 := cell_kept q1 (grownBy_putObj' _ D (.deferred none)) (fun r e => by cases e; exact ⟨_, hK, rfl⟩)
    have e2 := cell_kept q2 (grownBy_putObj' _ D (.deferred none)) (fun r e => by cases e; exact ⟨_, hK, rfl⟩)
    refine ⟨.tuple #[.int .i64 r, .bool true], ?_, r, true, rfl, .inl ⟨rfl, q, hpre, hr, hq⟩, hB.trans (belowK_b (w := w) (Nat.le_refl _) W D _ _ (by simp at hD; omega) hK rfl rfl)⟩
    simp [results, Try.f116, go_sem, e1, e2]
set_option maxRecDepth 100000 in
set_option maxHeartbeats 2000000 in
theorem firstN (B1 B2 B3 P0 P1 : Nat) (a b d : Int) (n : Nat) (hd : d = 1 ∨ d = -1) (hb : b + d = a + d * (n : Int)) (ha : -5000 ≤ a ∧ a ≤ 5000) (hn : n ≤ 5000) (p : Int → Bool) (w : World) (h1 : B1 < w.heap.size) (h2 : B2 < w.heap.size) (h3 : B3 < w.heap.size)
    (c1 : w.cell? ⟨B1, 0, none⟩ = some (.int .i64 a)) (c2 : w.cell? ⟨B2, 0, none⟩ = some (.int .i64 b)) (c3 : w.cell? ⟨B3, 0, none⟩ = some (.int .i64 d))
    (hf : Hid (∀ (x : Int) (W : World), Below w.heap.size w W → Calls Try.prog 123 #[.int .i64 x, .pointer (some ⟨P0, 0, none⟩), .pointer (some ⟨P1, 0, none⟩)] W fun e W' => e = .returned (.bool (p x)) ∧ Below W.heap.size W W')) :
    Calls Try.prog 116 #[.func (.func 146) #[] #[.pointer (some ⟨B1, 0, none⟩), .pointer (some ⟨B2, 0, none⟩), .pointer (some ⟨B3, 0, none⟩)], .func (.func 123) #[] #[.pointer (some ⟨P0, 0, none⟩), .pointer (some ⟨P1, 0, none⟩)]] w (Post p (upto a d n) w) := by
  refine (callsIn_wide (n := 3)).1 ?_
  refine callsIn_of_wp_marks Try.func116 rfl trivial ?_ rfl
  simp only [Try.ntmps116, List.size_toArray, List.length_cons, List.length_nil, Nat.reduceAdd, Nat.reduceSub, Array.replicate_succ, Array.replicate_zero, List.push_toArray, List.append_toArray, List.nil_append, List.cons_append]
  gi_wp2
  have c4 := cell_new w (.func (.func 123) #[] #[.pointer (some ⟨P0, 0, none⟩), .pointer (some ⟨P1, 0, none⟩)]) 83
  have c5 := cell_new (w.alloc (.cells #[(.func (.func 123) #[] #[.pointer (some ⟨P0, 0, none⟩), .pointer (some ⟨P1, 0, none⟩)])] 83)) (.int .i64 0) 3
  have c6 := cell_new ((w.alloc (.cells #[(.func (.func 123) #[] #[.pointer (some ⟨P0, 0, none⟩), .pointer (some ⟨P1, 0, none⟩)])] 83)).alloc (.cells #[.int .i64 0] 3)) (.bool false) 4
  simp only [World.size_alloc] at c5 c6
  have hB0 : Below w.heap.size w (((w.alloc (.cells #[(.func (.func 123) #[] #[.pointer (some ⟨P0, 0, none⟩), .pointer (some ⟨P1, 0, none⟩)])] 83)).alloc (.cells #[.int .i64 0] 3)).alloc (.cells #[.bool false] 4)) := (((Below.refl _ w).alloc (Nat.le_refl _) _).alloc (by simp) _).alloc (by simp; omega) _
  refine wpIn_rangeFunc_ownF rfl (by decide) (gf := 146) (lb := #[.pointer (some ⟨B1, 0, none⟩), .pointer (some ⟨B2, 0, none⟩), .pointer (some ⟨B3, 0, none⟩)]) rfl trivial (enters_of Try.func146 (by kernel_rfl) rfl)
    (stops (3 - 1) (by decide) B1 B2 B3 w.heap.size a b d n hd hb ha hn _ hB0.size h1 h2 h3 ((hB0.cell (p := ⟨B1, 0, none⟩) h1).trans c1) ((hB0.cell (p := ⟨B2, 0, none⟩) h2).trans c2) ((hB0.cell (p := ⟨B3, 0, none⟩) h3).trans c3)) belowK_t (belowK_b (by simp; omega)) (Below.refl _ _) (fun _ => rfl)
    (fun pre W => ((∀ y ∈ pre, p y = false) ∧ W.cell? ⟨w.heap.size, 0, none⟩ = some (.func (.func 123) #[] #[.pointer (some ⟨P0, 0, none⟩), .pointer (some ⟨P1, 0, none⟩)]) ∧ W.cell? ⟨w.heap.size + 1, 0, none⟩ = some (.int .i64 0) ∧ W.cell? ⟨w.heap.size + 1 + 1, 0, none⟩ = some (.bool false) ∧ W.frozen? ⟨w.heap.size + 1, 0, none⟩ = false ∧ W.frozen? ⟨w.heap.size + 1 + 1, 0, none⟩ = false) ∧ Below w.heap.size w W)
    (fun c pre W => (c = .ret ∧ ∃ (q : List Int) (r : Int), pre = q ++ [r] ∧ p r = true ∧ (∀ y ∈ q, p y = false) ∧ W.cell? ⟨w.heap.size + 1, 0, none⟩ = some (.int .i64 r) ∧ W.cell? ⟨w.heap.size + 1 + 1, 0, none⟩ = some (.bool true)) ∧ Below w.heap.size w W)
    (OwnFrom.and (Own.from (fun s A B row hs hg hr => ⟨hs.1, cell_kept hs.2.1 hg hr, cell_kept hs.2.2.1 hg hr, cell_kept hs.2.2.2.1 hg hr, (frozen_kept hs.2.2.1 hg hr).trans hs.2.2.2.2.1, (frozen_kept hs.2.2.2.1 hg hr).trans hs.2.2.2.2.2⟩) _) (ownFrom_below (Nat.le_refl _) (by simp; omega)))
    (fun c => OwnFrom.and (Own.from (fun s A B row hs hg hr => ⟨hs.1, hs.2.choose, hs.2.choose_spec.choose, hs.2.choose_spec.choose_spec.1, hs.2.choose_spec.choose_spec.2.1, hs.2.choose_spec.choose_spec.2.2.1, cell_kept hs.2.choose_spec.choose_spec.2.2.2.1 hg hr, cell_kept hs.2.choose_spec.choose_spec.2.2.2.2 hg hr⟩) _) (ownFrom_below (Nat.le_refl _) (by simp; omega)))
    ⟨⟨by simp, cell_alloc _ (cell_alloc _ c4.1), cell_alloc _ c5.1, c6.1, frozen_alloc _ c5.1 c5.2, c6.2⟩, hB0⟩
    (fun x => { tmps := #[.func (.func 146) #[] #[.pointer (some ⟨B1, 0, none⟩), .pointer (some ⟨B2, 0, none⟩), .pointer (some ⟨B3, 0, none⟩)], (.func (.func 123) #[] #[.pointer (some ⟨P0, 0, none⟩), .pointer (some ⟨P1, 0, none⟩)]), undef, .pointer (some ⟨w.heap.size, 0, none⟩), .pointer (some ⟨w.heap.size + 1, 0, none⟩), .pointer (some ⟨w.heap.size + 1 + 1, 0, none⟩), .int .i64 x, undef, .func (.func 146) #[] #[.pointer (some ⟨B1, 0, none⟩), .pointer (some ⟨B2, 0, none⟩), .pointer (some ⟨B3, 0, none⟩)], .int .i64 x, undef, undef, undef, undef, undef], defers := [] }) ?assign ?body ?done ?stop
  case assign =>
    intro l x W K hK
    gi_wp2
    exact hK
  case body =>
    rintro l pre x W ⟨⟨hp, q0, q1, q2, f1, f2⟩, hB⟩ hlt
    have HC := hf.out x W hB
    clear hf
    cases hpx : p x with
    | false =>
      rw [hpx] at HC
      gi_wp2_with (refine ⟨trivial, ?_⟩; gi_at_call 123; refine (CallsIn.inRound l (callsIn_wide.2 HC)).mono ?_; clear HC; rintro e W2 ⟨rfl, hb2⟩)
      exact ⟨⟨hb2.size, fun k o h _ => (hb2.block k (Array.getElem?_eq_some_iff.1 h).1).trans h⟩, hb2.mono hB.size, ⟨fun y hy => (List.mem_append.1 hy).elim (hp y) (fun e => by rw [List.mem_singleton.1 e]; exact hpx), (hb2.cell (Bs.cell_lt q0)).trans q0, (hb2.cell (Bs.cell_lt q1)).trans q1, (hb2.cell (Bs.cell_lt q2)).trans q2, (hb2.frozen (p := ⟨w.heap.size + 1, 0, none⟩) (Bs.cell_lt q1)).trans f1, (hb2.frozen (p := ⟨w.heap.size + 1 + 1, 0, none⟩) (Bs.cell_lt q2)).trans f2⟩, hB.trans (hb2.mono hB.size)⟩
    | true =>
      rw [hpx] at HC
      gi_wp2_with (refine ⟨trivial, ?_⟩; gi_at_call 123; refine (CallsIn.inRound l (callsIn_wide.2 HC)).mono ?_; clear HC; rintro e W2 ⟨rfl, hb2⟩; have r1 := (hb2.cell (Bs.cell_lt q1)).trans q1; have r2 := (hb2.cell (Bs.cell_lt q2)).trans q2; have g1 := (hb2.frozen (p := ⟨w.heap.size + 1, 0, none⟩) (Bs.cell_lt q1)).trans f1; have g2 := (hb2.frozen (p := ⟨w.heap.size + 1 + 1, 0, none⟩) (Bs.cell_lt q2)).trans f2)
      have hab : (⟨w.heap.size + 1, 0, none⟩ : Addr) ≠ ⟨w.heap.size + 1 + 1, 0, none⟩ := by intro e; have := congrArg Addr.block e; simp only at this; omega
      have k0 : KeepsOthers W W2 := ⟨hb2.size, fun k o h _ => (hb2.block k (Array.getElem?_eq_some_iff.1 h).1).trans h⟩
      refine ⟨(k0.trans (KeepsOthers.setCell _ _ _)).trans (KeepsOthers.setCell _ _ _), ⟨rfl, pre, x, rfl, hpx, hp, ?_, ?_⟩, ((hB.trans (hb2.mono hB.size)).setCell (p := ⟨w.heap.size + 1, 0, none⟩) (by simp) _).setCell (p := ⟨w.heap.size + 1 + 1, 0, none⟩) (by simp; omega) _⟩
      · rw [World.cell?_setCell_other (h := hab.symm)]; exact World.cell?_setCell_same _ _ _ r1
      · exact World.cell?_setCell_same _ _ _ (by rw [World.cell?_setCell_other (h := hab)]; exact r2)
  case done =>
    rintro D ys W hD rfl ⟨⟨hne, q0, q1, q2, f1, f2⟩, hB⟩ hK
    gi_wp2
    have hK1 := (KeepsOthers.setCell W ⟨w.heap.size + 1, 0, none⟩ (.int .i64 0)).same D _ hK rfl
    have hK' := (KeepsOthers.setCell _ ⟨w.heap.size + 1 + 1, 0, none⟩ (.bool false)).same D _ hK1 rfl
    have hab : (⟨w.heap.size + 1, 0, none⟩ : Addr) ≠ ⟨w.heap.size + 1 + 1, 0, none⟩ := by intro e; have := congrArg Addr.block e; simp only at this; omega
    have r1 : ((W.setCell ⟨w.heap.size + 1, 0, none⟩ (.int .i64 0)).setCell ⟨w.heap.size + 1 + 1, 0, none⟩ (.bool false)).cell? ⟨w.heap.size + 1, 0, none⟩ = some (.int .i64 0) := by rw [World.cell?_setCell_other (h := hab.symm)]; exact World.cell?_setCell_same _ _ _ q1
    have r2 : ((W.setCell ⟨w.heap.size + 1, 0, none⟩ (.int .i64 0)).setCell ⟨w.heap.size + 1 + 1, 0, none⟩ (.bool false)).cell? ⟨w.heap.size + 1 + 1, 0, none⟩ = some (.bool false) := World.cell?_setCell_same _ _ _ (by rw [World.cell?_setCell_other (h := hab)]; exact q2)
    have hB2 := (hB.setCell (p := ⟨w.heap.size + 1, 0, none⟩) (by simp) (.int .i64 0)).setCell (p := ⟨w.heap.size + 1 + 1, 0, none⟩) (by simp; omega) (.bool false)
    refine ⟨by simp, .inl ⟨_, _, rfl, run_takeDeferred hK', ?_⟩⟩
    have e1 := cell_kept r1 (grownBy_putObj' _ D (.deferred none)) (fun r e => by cases e; exact ⟨_, hK', rfl⟩)
    have e2 := cell_kept r2 (grownBy_putObj' _ D (.deferred none)) (fun r e => by cases e; exact ⟨_, hK', rfl⟩)
    refine ⟨.tuple #[.int .i64 0, .bool false], ?_, 0, false, rfl, .inr ⟨rfl, rfl, hne⟩, hB2.trans (belowK_b (w := w) (Nat.le_refl _) _ D _ _ (by simp at hD; omega) hK' rfl rfl)⟩
    simp [results, Try.f116, go_sem, e1, e2]
  case stop =>
    rintro D c pre W hD hpre ⟨⟨rfl, q, r, rfl, hr, hq, q1, q2⟩, hB⟩ hK
    gi_wp2
    refine ⟨by simp, .inl ⟨_, _, rfl, run_takeDeferred hK, ?_⟩⟩
    have e1 := cell_kept q1 (grownBy_putObj' _ D (.deferred none)) (fun r e => by cases e; exact ⟨_, hK, rfl⟩)
    have e2 := cell_kept q2 (grownBy_putObj' _ D (.deferred none)) (fun r e => by cases e; exact ⟨_, hK, rfl⟩)
    refine ⟨.tuple #[.int .i64 r, .bool true], ?_, r, true, rfl, .inl ⟨rfl, q, hpre, hr, hq⟩, hB.trans (belowK_b (w := w) (Nat.le_refl _) W D _ _ (by simp at hD; omega) hK rfl rfl)⟩
    simp [results, Try.f116, go_sem, e1, e2]
set_option maxRecDepth 100000 in
set_option maxHeartbeats 2000000 in
theorem firstS (B1 B2 B3 P0 : Nat) (a b d : Int) (n : Nat) (hd : d = 1 ∨ d = -1) (hb : b + d = a + d * (n : Int)) (ha : -5000 ≤ a ∧ a ≤ 5000) (hn : n ≤ 5000) (p : Int → Bool) (w : World) (h1 : B1 < w.heap.size) (h2 : B2 < w.heap.size) (h3 : B3 < w.heap.size)
    (c1 : w.cell? ⟨B1, 0, none⟩ = some (.int .i64 a)) (c2 : w.cell? ⟨B2, 0, none⟩ = some (.int .i64 b)) (c3 : w.cell? ⟨B3, 0, none⟩ = some (.int .i64 d))
    (hf : Hid (∀ (x : Int) (W : World), Below w.heap.size w W → Calls Try.prog 127 #[.int .i64 x, .pointer (some ⟨P0, 0, none⟩)] W fun e W' => e = .returned (.bool (p x)) ∧ Below W.heap.size W W')) :
    Calls Try.prog 116 #[.func (.func 146) #[] #[.pointer (some ⟨B1, 0, none⟩), .pointer (some ⟨B2, 0, none⟩), .pointer (some ⟨B3, 0, none⟩)], .func (.func 127) #[] #[.pointer (some ⟨P0, 0, none⟩)]] w (Post p (upto a d n) w) := by
  refine (callsIn_wide (n := 3)).1 ?_
  refine callsIn_of_wp_marks Try.func116 rfl trivial ?_ rfl
  simp only [Try.ntmps116, List.size_toArray, List.length_cons, List.length_nil, Nat.reduceAdd, Nat.reduceSub, Array.replicate_succ, Array.replicate_zero, List.push_toArray, List.append_toArray, List.nil_append, List.cons_append]
  gi_wp2
  have c4 := cell_new w (.func (.func 127) #[] #[.pointer (some ⟨P0, 0, none⟩)]) 83
  have c5 := cell_new (w.alloc (.cells #[(.func (.func 127) #[] #[.pointer (some ⟨P0, 0, none⟩)])] 83)) (.int .i64 0) 3
  have c6 := cell_new ((w.alloc (.cells #[(.func (.func 127) #[] #[.pointer (some ⟨P0, 0, none⟩)])] 83)).alloc (.cells #[.int .i64 0] 3)) (.bool false) 4
  simp only [World.size_alloc] at c5 c6
  have hB0 : Below w.heap.size w (((w.alloc (.cells #[(.func (.func 127) #[] #[.pointer (some ⟨P0, 0, none⟩)])] 83)).alloc (.cells #[.int .i64 0] 3)).alloc (.cells #[.bool false] 4)) := (((Below.refl _ w).alloc (Nat.le_refl _) _).alloc (by simp) _).alloc (by simp; omega) _
  refine wpIn_rangeFunc_ownF rfl (by decide) (gf := 146) (lb := #[.pointer (some ⟨B1, 0, none⟩), .pointer (some ⟨B2, 0, none⟩), .pointer (some ⟨B3, 0, none⟩)]) rfl trivial (enters_of Try.func146 (by kernel_rfl) rfl)
    (stops (3 - 1) (by decide) B1 B2 B3 w.heap.size a b d n hd hb ha hn _ hB0.size h1 h2 h3 ((hB0.cell (p := ⟨B1, 0, none⟩) h1).trans c1) ((hB0.cell (p := ⟨B2, 0, none⟩) h2).trans c2) ((hB0.cell (p := ⟨B3, 0, none⟩) h3).trans c3)) belowK_t (belowK_b (by simp; omega)) (Below.refl _ _) (fun _ => rfl)
    (fun pre W => ((∀ y ∈ pre, p y = false) ∧ W.cell? ⟨w.heap.size, 0, none⟩ = some (.func (.func 127) #[] #[.pointer (some ⟨P0, 0, none⟩)]) ∧ W.cell? ⟨w.heap.size + 1, 0, none⟩ = some (.int .i64 0) ∧ W.cell? ⟨w.heap.size + 1 + 1, 0, none⟩ = some (.bool false) ∧ W.frozen? ⟨w.heap.size + 1, 0, none⟩ = false ∧ W.frozen? ⟨w.heap.size + 1 + 1, 0, none⟩ = false) ∧ Below w.heap.size w W)
    (fun c pre W => (c = .ret ∧ ∃ (q : List Int) (r : Int), pre = q ++ [r] ∧ p r = true ∧ (∀ y ∈ q, p y = false) ∧ W.cell? ⟨w.heap.size + 1, 0, none⟩ = some (.int .i64 r) ∧ W.cell? ⟨w.heap.size + 1 + 1, 0, none⟩ = some (.bool true)) ∧ Below w.heap.size w W)
    (OwnFrom.and (Own.from (fun s A B row hs hg hr => ⟨hs.1, cell_kept hs.2.1 hg hr, cell_kept hs.2.2.1 hg hr, cell_kept hs.2.2.2.1 hg hr, (frozen_kept hs.2.2.1 hg hr).trans hs.2.2.2.2.1, (frozen_kept hs.2.2.2.1 hg hr).trans hs.2.2.2.2.2⟩) _) (ownFrom_below (Nat.le_refl _) (by simp; omega)))
    (fun c => OwnFrom.and (Own.from (fun s A B row hs hg hr => ⟨hs.1, hs.2.choose, hs.2.choose_spec.choose, hs.2.choose_spec.choose_spec.1, hs.2.choose_spec.choose_spec.2.1, hs.2.choose_spec.choose_spec.2.2.1, cell_kept hs.2.choose_spec.choose_spec.2.2.2.1 hg hr, cell_kept hs.2.choose_spec.choose_spec.2.2.2.2 hg hr⟩) _) (ownFrom_below (Nat.le_refl _) (by simp; omega)))
    ⟨⟨by simp, cell_alloc _ (cell_alloc _ c4.1), cell_alloc _ c5.1, c6.1, frozen_alloc _ c5.1 c5.2, c6.2⟩, hB0⟩
    (fun x => { tmps := #[.func (.func 146) #[] #[.pointer (some ⟨B1, 0, none⟩), .pointer (some ⟨B2, 0, none⟩), .pointer (some ⟨B3, 0, none⟩)], (.func (.func 127) #[] #[.pointer (some ⟨P0, 0, none⟩)]), undef, .pointer (some ⟨w.heap.size, 0, none⟩), .pointer (some ⟨w.heap.size + 1, 0, none⟩), .pointer (some ⟨w.heap.size + 1 + 1, 0, none⟩), .int .i64 x, undef, .func (.func 146) #[] #[.pointer (some ⟨B1, 0, none⟩), .pointer (some ⟨B2, 0, none⟩), .pointer (some ⟨B3, 0, none⟩)], .int .i64 x, undef, undef, undef, undef, undef], defers := [] }) ?assign ?body ?done ?stop
  case assign =>
    intro l x W K hK
    gi_wp2
    exact hK
  case body =>
    rintro l pre x W ⟨⟨hp, q0, q1, q2, f1, f2⟩, hB⟩ hlt
    have HC := hf.out x W hB
    clear hf
    cases hpx : p x with
    | false =>
      rw [hpx] at HC
      gi_wp2_with (refine ⟨trivial, ?_⟩; gi_at_call 127; refine (CallsIn.inRound l (callsIn_wide.2 HC)).mono ?_; clear HC; rintro e W2 ⟨rfl, hb2⟩)
      exact ⟨⟨hb2.size, fun k o h _ => (hb2.block k (Array.getElem?_eq_some_iff.1 h).1).trans h⟩, hb2.mono hB.size, ⟨fun y hy => (List.mem_append.1 hy).elim (hp y) (fun e => by rw [List.mem_singleton.1 e]; exact hpx), (hb2.cell (Bs.cell_lt q0)).trans q0, (hb2.cell (Bs.cell_lt q1)).trans q1, (hb2.cell (Bs.cell_lt q2)).trans q2, (hb2.frozen (p := ⟨w.heap.size + 1, 0, none⟩) (Bs.cell_lt q1)).trans f1, (hb2.frozen (p := ⟨w.heap.size + 1 + 1, 0, none⟩) (Bs.cell_lt q2)).trans f2⟩, hB.trans (hb2.mono hB.size)⟩
    | true =>
      rw [hpx] at HC
      gi_wp2_with (refine ⟨trivial, ?_⟩; gi_at_call 127; refine (CallsIn.inRound l (callsIn_wide.2 HC)).mono ?_; clear HC; rintro e W2 ⟨rfl, hb2⟩; have r1 := (hb2.cell (Bs.cell_lt q1)).trans q1; have r2 := (hb2.cell (Bs.cell_lt q2)).trans q2; have g1 := (hb2.frozen (p := ⟨w.heap.size + 1, 0, none⟩) (Bs.cell_lt q1)).trans f1; have g2 := (hb2.frozen (p := ⟨w.heap.size + 1 + 1, 0, none⟩) (Bs.cell_lt q2)).trans f2)
      have hab : (⟨w.heap.size + 1, 0, none⟩ : Addr) ≠ ⟨w.heap.size + 1 + 1, 0, none⟩ := by intro e; have := congrArg Addr.block e; simp only at this; omega
      have k0 : KeepsOthers W W2 := ⟨hb2.size, fun k o h _ => (hb2.block k (Array.getElem?_eq_some_iff.1 h).1).trans h⟩
      refine ⟨(k0.trans (KeepsOthers.setCell _ _ _)).trans (KeepsOthers.setCell _ _ _), ⟨rfl, pre, x, rfl, hpx, hp, ?_, ?_⟩, ((hB.trans (hb2.mono hB.size)).setCell (p := ⟨w.heap.size + 1, 0, none⟩) (by simp) _).setCell (p := ⟨w.heap.size + 1 + 1, 0, none⟩) (by simp; omega) _⟩
      · rw [World.cell?_setCell_other (h := hab.symm)]; exact World.cell?_setCell_same _ _ _ r1
      · exact World.cell?_setCell_same _ _ _ (by rw [World.cell?_setCell_other (h := hab)]; exact r2)
  case done =>
    rintro D ys W hD rfl ⟨⟨hne, q0, q1, q2, f1, f2⟩, hB⟩ hK
    gi_wp2
    have hK1 := (KeepsOthers.setCell W ⟨w.heap.size + 1, 0, none⟩ (.int .i64 0)).same D _ hK rfl
    have hK' := (KeepsOthers.setCell _ ⟨w.heap.size + 1 + 1, 0, none⟩ (.bool false)).same D _ hK1 rfl
    have hab : (⟨w.heap.size + 1, 0, none⟩ : Addr) ≠ ⟨w.heap.size + 1 + 1, 0, none⟩ := by intro e; have := congrArg Addr.block e; simp only at this; omega
    have r1 : ((W.setCell ⟨w.heap.size + 1, 0, none⟩ (.int .i64 0)).setCell ⟨w.heap.size + 1 + 1, 0, none⟩ (.bool false)).cell? ⟨w.heap.size + 1, 0, none⟩ = some (.int .i64 0) := by rw [World.cell?_setCell_other (h := hab.symm)]; exact World.cell?_setCell_same _ _ _ q1
    have r2 : ((W.setCell ⟨w.heap.size + 1, 0, none⟩ (.int .i64 0)).setCell ⟨w.heap.size + 1 + 1, 0, none⟩ (.bool false)).cell? ⟨w.heap.size + 1 + 1, 0, none⟩ = some (.bool false) := World.cell?_setCell_same _ _ _ (by rw [World.cell?_setCell_other (h := hab)]; exact q2)
    have hB2 := (hB.setCell (p := ⟨w.heap.size + 1, 0, none⟩) (by simp) (.int .i64 0)).setCell (p := ⟨w.heap.size + 1 + 1, 0, none⟩) (by simp; omega) (.bool false)
    refine ⟨by simp, .inl ⟨_, _, rfl, run_takeDeferred hK', ?_⟩⟩
    have e1 := cell_kept r1 (grownBy_putObj' _ D (.deferred none)) (fun r e => by cases e; exact ⟨_, hK', rfl⟩)
    have e2 := cell_kept r2 (grownBy_putObj' _ D (.deferred none)) (fun r e => by cases e; exact ⟨_, hK', rfl⟩)
    refine ⟨.tuple #[.int .i64 0, .bool false], ?_, 0, false, rfl, .inr ⟨rfl, rfl, hne⟩, hB2.trans (belowK_b (w := w) (Nat.le_refl _) _ D _ _ (by simp at hD; omega) hK' rfl rfl)⟩
    simp [results, Try.f116, go_sem, e1, e2]
  case stop =>
    rintro D c pre W hD hpre ⟨⟨rfl, q, r, rfl, hr, hq, q1, q2⟩, hB⟩ hK
    gi_wp2
    refine ⟨by simp, .inl ⟨_, _, rfl, run_takeDeferred hK, ?_⟩⟩
    have e1 := cell_kept q1 (grownBy_putObj' _ D (.deferred none)) (fun r e => by cases e; exact ⟨_, hK, rfl⟩)
    have e2 := cell_kept q2 (grownBy_putObj' _ D (.deferred none)) (fun r e => by cases e; exact ⟨_, hK, rfl⟩)
    refine ⟨.tuple #[.int .i64 r, .bool true], ?_, r, true, rfl, .inl ⟨rfl, q, hpre, hr, hq⟩, hB.trans (belowK_b (w := w) (Nat.le_refl _) W D _ _ (by simp at hD; omega) hK rfl rfl)⟩
    simp [results, Try.f116, go_sem, e1, e2]
end Go.Proofs.Ytankaffhapcnaaa.TalF
