/- The laws' helpers markRuleS, heldRuleS: a slice of rules written over, and read again. -/
import Derived.Test.YtbaflfbidgolfaaMarkT
import Derived.Test.YtbaflfbidgolfaaHelpS
namespace Go.Proofs.Ytbaflfbidgolfaa.MarkR
open Go.RowKit Rule HelpS MarkT
set_option linter.unusedVariables false

/-- the rule that is written where the count stands at c -/
def mk (c : Nat) : R := ⟨c, mt (c + 1), (c : Int) + 1 + 1, ((c : Int) + 1 + 1 + 1) % 3 == 0, ((c : Int) + 1 + 1 + 1 + 1) % 3 == 0, ((c : Int) + 1 + 1 + 1 + 1 + 1) % 3 == 0, (c : Int) + 1 + 1 + 1 + 1 + 1 + 1⟩
def marks (m : Nat) (ys : List R) (k : Nat) : List R := (List.range k).map (fun j => mk (m + 7 * j)) ++ ys.drop k
theorem marks_zero (m : Nat) (ys : List R) : marks m ys 0 = ys := by simp [marks]
theorem marks_at (m k : Nat) (ys : List R) (hk : k < ys.length) : (marks m ys k)[k]? = some ys[k] := by
  unfold marks
  have hl : ((List.range k).map fun j => mk (m + 7 * j)).length = k := by simp
  rw [List.getElem?_append_right (by omega), hl, Nat.sub_self, List.getElem?_drop, Nat.add_zero, List.getElem?_eq_getElem hk]
theorem marks_set (m k : Nat) (ys : List R) (hk : k < ys.length) : (marks m ys k).set k (mk (m + 7 * k)) = marks m ys (k + 1) := by
  unfold marks
  have hl : ((List.range k).map fun j => mk (m + 7 * j)).length = k := by simp
  rw [List.set_append_right _ _ (by omega), hl, Nat.sub_self, List.drop_eq_getElem_cons hk, List.set_cons_zero, List.range_succ, List.map_append, List.append_assoc]
  rfl
theorem marks_all (m : Nat) (ys : List R) (j : Nat) (hj : j < ys.length) : (marks m ys ys.length)[j]? = some (mk (m + 7 * j)) := by
  unfold marks
  rw [List.getElem?_append_left (by simpa using hj), List.getElem?_map, List.getElem?_range hj]
  rfl
theorem putRest {w : World} {base g n cap : Nat} {ys : List R} (h : OwnR w base g n cap ys) (k : Nat) (r0 r : R) (hr : ys[k]? = some r0) (he : r0.id = r.id) :
    OwnR ((((((w.setCell ⟨g, k * 7 + 1, none⟩ (.string r.name)).setCell ⟨g, k * 7 + 2, none⟩ (.int .i64 r.rank)).setCell ⟨g, k * 7 + 3, none⟩ (.bool r.sec)).setCell ⟨g, k * 7 + 4, none⟩ (.bool r.deb)).setCell ⟨g, k * 7 + 5, none⟩ (.bool r.am)).setCell ⟨g, k * 7 + 6, none⟩ (.int .i64 r.need)) base g n cap (ys.set k r) := by
  have hk : k < ys.length := (List.getElem?_eq_some_iff.1 hr).1
  have at_ : ∀ x : R, (ys.set k x)[k]? = some x := fun x => by simp [hk]
  have h1 := h.put k 1 r0 { r0 with name := r.name } (.string r.name) hr (by omega) rfl
  have h2 := h1.put k 2 _ { r0 with name := r.name, rank := r.rank } (.int .i64 r.rank) (at_ _) (by omega) rfl
  rw [List.set_set] at h2
  have h3 := h2.put k 3 _ { r0 with name := r.name, rank := r.rank, sec := r.sec } (.bool r.sec) (at_ _) (by omega) rfl
  rw [List.set_set] at h3
  have h4 := h3.put k 4 _ { r0 with name := r.name, rank := r.rank, sec := r.sec, deb := r.deb } (.bool r.deb) (at_ _) (by omega) rfl
  rw [List.set_set] at h4
  have h5 := h4.put k 5 _ { r0 with name := r.name, rank := r.rank, sec := r.sec, deb := r.deb, am := r.am } (.bool r.am) (at_ _) (by omega) rfl
  rw [List.set_set] at h5
  have h6 := h5.put k 6 _ r (.int .i64 r.need) (at_ _) (by omega) (by unfold R.vals; simp [he])
  rw [List.set_set] at h6
  exact h6
theorem text1 (C : Nat) (h0 : C + 1 ≤ 9000000) (W : World) : Calls Try.prog 86 #[.int .i64 ((C : Int) + 1)] W fun e w' => e = .returned (.string (mt (C + 1))) ∧ Below W.heap.size W w' := by
  have h := markText (C + 1) W (by omega) h0
  have e : ((C + 1 : Nat) : Int) = (C : Int) + 1 := by omega
  rw [e] at h
  exact h
/-- nothing but block g has turned; blocks may have been laid -/
def Turned (g : Nat) (w w' : World) : Prop := w.grownBy w' (some g)
theorem Turned.refl (g : Nat) (w : World) : Turned g w w := ⟨rfl, rfl, rfl, Nat.le_refl _, fun _ _ _ => rfl⟩
theorem Turned.trans {g : Nat} {a b c : World} (h : Turned g a b) (k : Turned g b c) : Turned g a c :=
  ⟨k.os.trans h.os, k.tape.trans h.tape, k.output.trans h.output, Nat.le_trans h.size k.size, fun i hi hne => (k.block i (Nat.lt_of_lt_of_le hi h.size) hne).trans (h.block i hi hne)⟩
theorem Turned.of_below {g : Nat} {a b : World} (h : Below a.heap.size a b) : Turned g a b := ⟨h.os, h.tape, h.output, h.size, fun j hj _ => h.block j hj⟩
theorem Turned.set {g : Nat} (w : World) (o : Nat) (v : Value) : Turned g w (w.setCell ⟨g, o, none⟩ v) :=
  ⟨rfl, rfl, rfl, by simp, fun k _ hk => heap_setCell_other w ⟨g, o, none⟩ k v (fun e => hk (by simp [e]))⟩
theorem Turned.below {g B : Nat} {a b : World} (h : Turned g a b) (hB : B ≤ g) (hz : B ≤ a.heap.size) : Below B a b :=
  ⟨h.os, h.tape, h.output, h.size, fun k hk => h.block k (by omega) (by simp; omega)⟩
theorem own_turned {g base n : Nat} {e : TypeId} {size : Nat} {v : Value} {xs : List Value} {w w' : World} (h : w.ownsRow base e size v n xs) (ht : Turned g w w') (hne : ∀ k, v.ownBlock = some k → k ≠ g) : w'.ownsRow base e size v n xs := by
  refine World.ownsRow.kept h ht ?_
  rcases hv : v.ownBlock with _ | k
  · exact .inl rfl
  · exact .inr (by simpa using hne k hv)
theorem own_under {B base n : Nat} {e : TypeId} {size : Nat} {v : Value} {xs : List Value} {w w' : World} (h : w.ownsRow base e size v n xs) (hb : Below B w w') (hz : w.heap.size ≤ w'.heap.size) (hlt : ∀ k, v.ownBlock = some k → k < B) : w'.ownsRow base e size v n xs := by
  refine ⟨h.1, ?_⟩
  rcases h.2 with hn | ⟨g, cap, cur, rfl, hbg, hgg, rest⟩
  · exact .inl hn
  · refine .inr ⟨g, cap, cur, rfl, hbg, ?_, rest⟩
    rw [hb.block g (hlt g rfl)]
    exact hgg
def Marked (w : World) (base g n cap m : Nat) (ys : List R) (e : Ending) (w' : World) : Prop :=
  e = .returned (.int .i64 (m + 7 * n : Nat)) ∧ OwnR w' base g n cap (marks m ys n) ∧ Turned g w w'

set_option maxHeartbeats 1600000 in
theorem markRuleS (base g n cap m : Nat) (ys : List R) (w : World) (hcap : n ≤ cap) (hm0 : 0 < m) (hm : m + 7 * n ≤ 8000000) (h : OwnR w base g n cap ys) :
    Calls Try.prog 27 #[.slice (some ⟨g, 0, none⟩) n cap, .int .i64 m] w (Marked w base g n cap m ys) := by
  have HN := Lib.hid h.1
  have hln : n ≤ ys.length := by have := h.1; omega
  have HO0 := Lib.hid (show OwnR w base g n cap (marks m ys 0) by rw [marks_zero]; exact h)
  have hg := h.lt
  obtain ⟨hg1, hg2⟩ := hg
  clear h
  go_enter Try.func27, Try.ntmps27
  go_wp2_with fail
  go_loopw [1, 5] (fun q i wr => ∃ k : Nat, k ≤ n ∧ i = .int .i64 k ∧ q = .int .i64 (m + 7 * k : Nat) ∧ Hid (OwnR wr base g n cap (marks m ys k)) ∧ Hid (Turned g w wr)) (fun _ i _ => n - (intOf i).toNat)
  case atStart => exact ⟨0, Nat.zero_le _, rfl, rfl, HO0, Lib.hid (Turned.refl g w)⟩
  case round =>
    clear HO0
    obtain ⟨k, hk, rfl, rfl, HR, HTu⟩ := hrel
    by_cases hlt : k < n
    · have hx : k < ys.length := by omega
      have HY := Lib.hid (marks_at m k ys hx)
      have HSet := Lib.hid (marks_set m k ys hx)
      obtain ⟨q0, q1, q2, q3, q4, q5, q6⟩ := HR.out.cells k hlt _ HY.out
      have hf := HR.out.frozen
      obtain ⟨C, hC⟩ : ∃ C : Nat, C = m + 7 * k := ⟨_, rfl⟩
      have hC2 : C + 7 ≤ 8000000 := by omega
      have HT := Lib.hid (text1 C (by omega))
      rw [← hC] at HSet ⊢
      have HC := Lib.hid hC
      clear hC
      generalize ys[k] = Y at *
      go_wp2_with fail
      refine (HT.out _).mono ?_
      rintro e w1 ⟨rfl, hb1⟩
      have HO1 := HR.out.put k 0 Y { Y with id := C } (.int .i64 C) HY.out (by omega) rfl
      have HO2 := HO1.kept hb1
      have hk2 : k < (marks m ys k).length := (List.getElem?_eq_some_iff.1 HY.out).1
      have HE : ((marks m ys k).set k { Y with id := C })[k]? = some { Y with id := C } := by simp [hk2]
      have HP := Lib.hid (putRest HO2 k _ (mk C) HE rfl)
      rw [List.set_set, HSet.out] at HP
      obtain ⟨p0, p1, p2, p3, p4, p5, p6⟩ := HO2.cells k hlt _ HE
      have hf2 := HO2.frozen
      have HT2 := Lib.hid ((HTu.out.trans (Turned.set wr (k * 7) (.int .i64 C))).trans (Turned.of_below hb1))
      clear HO1 HO2 HE hk2 q0 q1 q2 q3 q4 q5 q6 hf hb1
      go_wp2_with fail
      go_roundw
      case rel =>
        refine ⟨k + 1, by omega, by go_num, ?_, HP, ?_⟩
        · have := HC.out
          congr 1
          omega
        · exact Lib.hid ((((((HT2.out.trans (Turned.set _ _ _)).trans (Turned.set _ _ _)).trans (Turned.set _ _ _)).trans (Turned.set _ _ _)).trans (Turned.set _ _ _)).trans (Turned.set _ _ _))
      case measure => simp [intOf]; omega
    · obtain rfl : k = n := by omega
      go_wp2_with fail
      go_ret
      exact ⟨rfl, HR.out, HTu.out⟩

set_option maxRecDepth 100000 in
set_option maxHeartbeats 1600000 in
theorem heldRuleS (base g n cap m : Nat) (ys : List R) (w : World) (hcap : n ≤ cap) (hm0 : 0 < m) (hm : m + 7 * n ≤ 8000000) (hn : ys.length = n) (h : OwnR w base g n cap (marks m ys n)) :
    Calls Try.prog 65 #[.slice (some ⟨g, 0, none⟩) n cap, .int .i64 m] w fun e w' => e = .returned (.int .i64 (m + 7 * n : Nat)) ∧ Below w.heap.size w w' := by
  have HN := Lib.hid hn
  have hln : n ≤ ys.length := by omega
  have HO0 := Lib.hid h
  have hg := h.lt
  obtain ⟨hg1, hg2⟩ := hg
  clear h hn
  go_enter Try.func65, Try.ntmps65
  go_wp2_with fail
  go_loopw [1, 5] (fun q i wr => ∃ k : Nat, k ≤ n ∧ i = .int .i64 k ∧ q = .int .i64 (m + 7 * k : Nat) ∧ Below w.heap.size w wr) (fun _ i _ => n - (intOf i).toNat)
  case atStart => exact ⟨0, Nat.zero_le _, rfl, rfl, Below.refl _ _⟩
  case round =>
    obtain ⟨k, hk, rfl, rfl, hb⟩ := hrel
    by_cases hlt : k < n
    · have hx : k < ys.length := by omega
      have HM := marks_all m ys k hx
      rw [HN.out] at HM
      have hat0 := HO0.out.cells k hlt _ HM
      obtain ⟨C, hC⟩ : ∃ C : Nat, C = m + 7 * k := ⟨_, rfl⟩
      have hC2 : C + 7 ≤ 8000000 := by omega
      have HT := Lib.hid (text1 C (by omega))
      rw [← hC] at hat0 ⊢
      have HC := Lib.hid hC
      have HA := Lib.hid (hat0.below hb hg2)
      have hgr : g < wr.heap.size := Nat.lt_of_lt_of_le hg2 hb.size
      clear hC HM hat0
      have hq0 : wr.cell? ⟨g, k * 7, none⟩ = some (.int .i64 C) := HA.out.1
      have c1 : ∀ d os, (Sort.grow (redrawn wr d) os).cell? ⟨g, k * 7 + 1, none⟩ = some (.string (mt (C + 1))) := fun d os => (HA.out.regrown hgr d os).2.1
      have k0 : 0 ≤ (k : Int) := by omega
      have k1 : (k : Int) < (n : Int) := by omega
      go_wp2_with fail
      refine wp_region_quiet_below (by kernel_rfl) (by kernel_rfl) ?_
      repeat (go_big_quiet_step ((go_at_call 86; exact Calls.regrown_of (HT.out _))))
      refine wpQuiet_nil ?_
      intro _ hw'
      obtain ⟨⟨dq, osq⟩, hw''⟩ := hw'
      subst hw''
      have hb2 : Below w.heap.size w (Sort.grow (redrawn wr dq) osq) := hb.trans ((below_regrown wr dq osq).mono hb.size)
      have HA2 := Lib.hid (HA.out.regrown hgr dq osq)
      clear c1 hq0 HT
      generalize Sort.grow (redrawn wr dq) osq = wo at *
      have p2 : wo.cell? ⟨g, k * 7 + 2, none⟩ = some (.int .i64 ((C : Int) + 1 + 1)) := HA2.out.2.2.1
      have p3 : wo.cell? ⟨g, k * 7 + 3, none⟩ = some (.bool (((C : Int) + 1 + 1 + 1) % 3 == 0)) := HA2.out.2.2.2.1
      have p4 : wo.cell? ⟨g, k * 7 + 4, none⟩ = some (.bool (((C : Int) + 1 + 1 + 1 + 1) % 3 == 0)) := HA2.out.2.2.2.2.1
      have p5 : wo.cell? ⟨g, k * 7 + 5, none⟩ = some (.bool (((C : Int) + 1 + 1 + 1 + 1 + 1) % 3 == 0)) := HA2.out.2.2.2.2.2.1
      have p6 : wo.cell? ⟨g, k * 7 + 6, none⟩ = some (.int .i64 ((C : Int) + 1 + 1 + 1 + 1 + 1 + 1)) := HA2.out.2.2.2.2.2.2
      go_wp2_with fail
      go_roundw
      case rel =>
        refine ⟨k + 1, by omega, by go_num, ?_, hb2⟩
        have := HC.out
        congr 1
        omega
      case measure => simp [intOf]; omega
    · obtain rfl : k = n := by omega
      go_wp2_with fail
      go_ret
      exact ⟨rfl, hb⟩
end Go.Proofs.Ytbaflfbidgolfaa.MarkR
