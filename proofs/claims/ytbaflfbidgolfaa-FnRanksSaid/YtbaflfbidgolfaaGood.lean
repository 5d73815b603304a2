/- Lists of rules: the model's and the program's tests of a list. No condition but that names are no longer than strings can be. -/
import Derived.Test.YtbaflfbidgolfaaValid
import Derived.BigQuiet
import Derived.IntWalk
namespace Go.Proofs.Ytbaflfbidgolfaa.Gd
open Go.RowKit Rule
set_option linter.unusedVariables false

/-- the rule at place i is valid, its id is greater than that of its neighbour, its name is new -/
def Step (xs : List R) (i : Nat) : Prop := ∃ r, xs[i]? = some r ∧ okB r = true ∧ (∀ p, 0 < i → xs[i - 1]? = some p → p.id < r.id) ∧ ∀ k q, k < i → xs[k]? = some q → q.name ≠ r.name
def GoodP (xs : List R) : Prop := xs.length ≤ 8 ∧ ∀ i, i < xs.length → Step xs i
open Classical in
noncomputable def goodB (xs : List R) : Bool := decide (GoodP xs)
open Classical in
theorem good_yes {xs : List R} (h : GoodP xs) : goodB xs = true := decide_eq_true h
open Classical in
theorem good_no {xs : List R} (h : ¬ GoodP xs) : goodB xs = false := decide_eq_false h
open Classical in
theorem good_of {xs : List R} (h : goodB xs = true) : GoodP xs := of_decide_eq_true h
theorem no_step {xs : List R} {i : Nat} (hi : i < xs.length) (h : ¬ Step xs i) : goodB xs = false := good_no fun g => h (g.2 i hi)
theorem no_ok {xs : List R} {i : Nat} (hi : i < xs.length) (h : okB xs[i] = false) : goodB xs = false := no_step hi fun ⟨r, hr, ho, _⟩ => by
  rw [List.getElem?_eq_getElem hi] at hr
  rw [← Option.some.inj hr, h] at ho
  cases ho
theorem no_id {xs : List R} {i : Nat} (hi : i < xs.length) (h0 : 0 < i) (h : ¬ (xs[i - 1]).id < (xs[i]).id) : goodB xs = false := no_step hi fun ⟨r, hr, _, ho, _⟩ => by
  rw [List.getElem?_eq_getElem hi] at hr
  have := ho _ h0 (List.getElem?_eq_getElem (by omega))
  rw [← Option.some.inj hr] at this
  exact h this
theorem no_name {xs : List R} {i k : Nat} (hi : i < xs.length) (hk : k < i) (h : (xs[k]).name = (xs[i]).name) : goodB xs = false := no_step hi fun ⟨r, hr, _, _, ho⟩ => by
  rw [List.getElem?_eq_getElem hi] at hr
  have := ho k _ hk (List.getElem?_eq_getElem (by omega))
  rw [← Option.some.inj hr] at this
  exact this h
theorem no_len {xs : List R} (h : 8 < xs.length) : goodB xs = false := good_no fun g => by have := g.1; omega
theorem step_mk {xs : List R} {i : Nat} (hi : i < xs.length) (h1 : okB xs[i] = true) (h2 : (h0 : 0 < i) → (xs[i - 1]).id < (xs[i]).id) (h3 : ∀ k (hk : k < i), (xs[k]).name ≠ (xs[i]).name) : Step xs i :=
  ⟨xs[i], List.getElem?_eq_getElem hi, h1, fun p h0 hp => by rw [List.getElem?_eq_getElem (by omega)] at hp; rw [← Option.some.inj hp]; exact h2 h0,
    fun k q hk hq => by rw [List.getElem?_eq_getElem (by omega)] at hq; rw [← Option.some.inj hq]; exact h3 k hk⟩
theorem single_as (r : R) (b : Bool) (h : okB r = b) (hs : r.name.size ≤ maxLen) (w : World) :
    Calls Try.prog 119 #[.agg #[.int .i64 r.id, .string r.name, .int .i64 r.rank, .bool r.sec, .bool r.deb, .bool r.am, .int .i64 r.need]] w fun e w' => e = .returned (.bool b) ∧ Below w.heap.size w w' := by
  subst h; exact Valid.l2Single r w hs
theorem impl_as (r : R) (b : Bool) (h : okB r = b) (hs : r.name.size ≤ maxLen) (w : World) :
    Calls Try.prog 112 #[.agg #[.int .i64 r.id, .string r.name, .int .i64 r.rank, .bool r.sec, .bool r.deb, .bool r.am, .int .i64 r.need]] w fun e w' => e = .returned (.bool b) ∧ Below w.heap.size w w' := by
  subst h; exact Valid.implValid r w hs
def GoodPost (xs : List R) (w : World) (e : Ending) (w' : World) : Prop := e = .returned (.bool (goodB xs)) ∧ Below w.heap.size w w'
theorem seen_bad {xs : List R} {w w' : World} (h : goodB xs = false) (hb : Below w.heap.size w w') : GoodPost xs w (.returned (.bool false)) w' := ⟨by rw [h], hb⟩
/-- facts of a rule in all worlds that only grew -/
theorem grown_cells {w : World} {b p : Nat} {r : R} (h : At w b p r) (hl : b < w.heap.size) : Hid (∀ d os, At (Sort.grow (redrawn w d) os) b p r) := fun d os => h.regrown hl d os

theorem no_name2 {xs : List R} {i k : Nat} {X P : R} (hi : xs[i]? = some X) (hp : xs[k]? = some P) (hk : k < i) (h : P.name = X.name) : goodB xs = false :=
  no_step (List.getElem?_eq_some_iff.1 hi).1 fun ⟨r, hr, _, _, ho⟩ => by
    rw [hi] at hr
    have := ho k _ hk hp
    rw [← Option.some.inj hr] at this
    exact this h
theorem steps_next {xs : List R} {k : Nat} (hs : ∀ i, i < k → Step xs i) (h : Step xs k) : ∀ i, i < k + 1 → Step xs i := fun i hi => by
  rcases Nat.lt_or_ge i k with h' | h'
  · exact hs i h'
  · rwa [show i = k by omega]
set_option maxHeartbeats 1600000 in
theorem l2Good (a : Option Addr) (n cp : Nat) (xs : List R) (w : World) (hn : xs.length = n) (h : RulesAt w a cp xs) (hsz : ∀ x ∈ xs, x.name.size ≤ maxLen) :
    Calls Try.prog 103 #[.slice a n cp] w (GoodPost xs w) := by
  have hc := h.at_
  obtain ⟨h1, h2, h3⟩ := h
  unfold maxLen at h2
  have HN := Lib.hid hn
  have HSZ := Lib.hid hsz
  have hnb : n ≤ cp := by omega
  have hle : n ≤ xs.length := by omega
  clear hn h1 h3 hsz
  go_enter Try.func103, Try.ntmps103
  go_wp2_with fail
  go_loopw [3] (fun i wr => ∃ k : Nat, k ≤ n ∧ i = .int .i64 k ∧ Below w.heap.size w wr ∧ Hid (∀ i, i < k → Step xs i)) (fun i _ => n - (intOf i).toNat)
  case atStart => exact ⟨0, Nat.zero_le _, rfl, Below.refl _ _, Lib.hid (fun i hi => by omega)⟩
  case round =>
    obtain ⟨k, hk, rfl, hb, HS⟩ := hrel
    by_cases hlt : k < n
    · by_cases h8 : k ≤ 8
      · have hx : k < xs.length := by omega
        obtain ⟨b, o, rfl, hbl, hcell0⟩ := hc.out k xs[k] (List.getElem?_eq_getElem hx)
        have hq := hcell0.below hb hbl
        have g1 := Nat.lt_of_lt_of_le hbl hb.size
        have hxs := Lib.hid (HSZ.out xs[k] (List.getElem_mem hx))
        have HG := grown_cells hq g1
        have HCX := Lib.hid hcell0
        have HX := Lib.hid (List.getElem?_eq_getElem hx)
        have k0 : 0 ≤ (k : Int) := by omega
        have k1 : (k : Int) < (n : Int) := by omega
        clear hcell0 hq
        cases hok : okB xs[k] with
        | false =>
          have HB := Lib.hid (no_ok hx hok)
          have HC := Lib.hid (fun W => single_as xs[k] false hok hxs.out W)
          clear hok
          generalize xs[k] = X at *
          have c0 := fun d os => (HG.out d os).1
          have c1 := fun d os => (HG.out d os).2.1
          have c2 := fun d os => (HG.out d os).2.2.1
          have c3 := fun d os => (HG.out d os).2.2.2.1
          have c4 := fun d os => (HG.out d os).2.2.2.2.1
          have c5 := fun d os => (HG.out d os).2.2.2.2.2.1
          have c6 := fun d os => (HG.out d os).2.2.2.2.2.2
          go_wp2_with fail
          refine wp_region_quiet_below (by kernel_rfl) (by kernel_rfl) ?_
          repeat (go_big_quiet_step ((go_at_call 119; exact Calls.regrown_of (HC.out _))))
          refine wpQuiet_nil ?_
          intro _ hw'
          obtain ⟨⟨dq, osq⟩, hw''⟩ := hw'
          subst hw''
          have hb2 : Below w.heap.size w (Sort.grow (redrawn wr dq) osq) := hb.trans ((below_regrown wr dq osq).mono hb.size)
          clear c0 c1 c2 c3 c4 c5 c6
          go_wp2_with fail
          go_ret
          exact seen_bad HB.out hb2
        | true =>
          have HOK := Lib.hid hok
          have HC := Lib.hid (fun W => single_as xs[k] true hok hxs.out W)
          clear hok
          by_cases hz : k = 0
          · have HID := Lib.hid (show ∀ p, 0 < k → xs[k - 1]? = some p → p.id < xs[k].id from fun p h0 => by omega)
            have hd : decide (0 < (k : Int)) = false := by simp; omega
            have hd2 : decide (0 < k) = false := by simp; omega
            clear hz
            generalize xs[k] = X at *
            have c0 := fun d os => (HG.out d os).1
            have c1 := fun d os => (HG.out d os).2.1
            have c2 := fun d os => (HG.out d os).2.2.1
            have c3 := fun d os => (HG.out d os).2.2.2.1
            have c4 := fun d os => (HG.out d os).2.2.2.2.1
            have c5 := fun d os => (HG.out d os).2.2.2.2.2.1
            have c6 := fun d os => (HG.out d os).2.2.2.2.2.2
            go_wp2_with fail
            refine wp_region_quiet_below (by kernel_rfl) (by kernel_rfl) ?_
            repeat (go_big_quiet_step ((go_at_call 119; exact Calls.regrown_of (HC.out _))))
            refine wpQuiet_nil ?_
            intro _ hw'
            obtain ⟨⟨dq, osq⟩, hw''⟩ := hw'
            subst hw''
            have hb2 : Below w.heap.size w (Sort.grow (redrawn wr dq) osq) := hb.trans ((below_regrown wr dq osq).mono hb.size)
            clear c0 c1 c2 c3 c4 c5 c6 HG hd hd2
            generalize Sort.grow (redrawn wr dq) osq = wo at *
            clear hb
            go_wp2_with fail
            go_loopw [4] (fun j ws => ∃ m : Nat, m ≤ k ∧ j = .int .i64 m ∧ Below w.heap.size w ws ∧ Hid (∀ q p, q < m → xs[q]? = some p → p.name ≠ X.name)) (fun j _ => k - (intOf j).toNat)
            case atStart => exact ⟨0, Nat.zero_le _, rfl, hb2, Lib.hid (fun q p hq => by omega)⟩
            case round =>
              clear hb2
              obtain ⟨m, hm, rfl, hbs, HM⟩ := hrel
              by_cases hmk : m < k
              · have hxm : m < xs.length := by omega
                obtain ⟨b', o', he, hbl', hcell1⟩ := hc.out m xs[m] (List.getElem?_eq_getElem hxm)
                simp only [Option.some.injEq, Addr.mk.injEq, and_true] at he
                obtain ⟨rfl, rfl⟩ := he
                have HP := Lib.hid (List.getElem?_eq_getElem hxm)
                have d1 := (hcell1.below hbs hbl).2.1
                have d2 := (HCX.out.below hbs hbl).2.1
                have m0 : 0 ≤ (m : Int) := by omega
                have m1 : (m : Int) < (n : Int) := by omega
                clear hcell1
                generalize xs[m] = P at *
                by_cases hname : P.name = X.name
                · have HB := Lib.hid (no_name2 HX.out HP.out hmk hname)
                  have hbe : (P.name.toList == X.name.toList) = true := by rw [hname]; simp
                  clear hname
                  go_wp2_with fail
                  go_quiet (fail)
                  have hb3 : Below w.heap.size w (wr.drewN nq) := hbs.trans ⟨rfl, rfl, rfl, Nat.le_refl _, fun _ _ => rfl⟩
                  go_wp2_with fail
                  go_ret
                  exact seen_bad HB.out hb3
                · have HM2 := Lib.hid (show ∀ q p, q < m + 1 → xs[q]? = some p → p.name ≠ X.name from fun q p hq hp => by
                    rcases Nat.lt_or_ge q m with h' | h'
                    · exact HM.out q p h' hp
                    · obtain rfl : q = m := by omega
                      rw [HP.out] at hp
                      rw [← Option.some.inj hp]
                      exact hname)
                  have hbe : (P.name.toList == X.name.toList) = false := by
                    rw [beq_eq_false_iff_ne]
                    intro e
                    rw [ByteArray.toList_eq, ByteArray.toList_eq] at e
                    exact hname (ByteArray.ext (Array.ext' e))
                  clear hname
                  go_wp2_with fail
                  go_quiet (fail)
                  have hb3 : Below w.heap.size w (wr.drewN nq) := hbs.trans ⟨rfl, rfl, rfl, Nat.le_refl _, fun _ _ => rfl⟩
                  go_wp2_with fail
                  go_roundw
                  case rel => exact ⟨m + 1, by omega, by go_num, hb3, HM2⟩
                  case measure => simp [intOf]; omega
              · obtain rfl : m = k := by omega
                have HST := Lib.hid (steps_next HS.out ⟨X, HX.out, HOK.out, HID.out, HM.out⟩)
                go_wp2_with fail
                go_roundw
                case rel => exact ⟨m + 1, by omega, by go_num, hbs, HST⟩
                case measure => simp [intOf]; omega
          · have h0 : 0 < k := by omega
            have hxp : k - 1 < xs.length := by omega
            obtain ⟨b', o', he, hbl', hcell0'⟩ := hc.out (k - 1) xs[k - 1] (List.getElem?_eq_getElem hxp)
            simp only [Option.some.injEq, Addr.mk.injEq, and_true] at he
            obtain ⟨rfl, rfl⟩ := he
            have HG' := grown_cells (hcell0'.below hb hbl') g1
            have s1 : IntKind.i64.wrap ((k : Int) - 1) = (k : Int) - 1 := IntWalk.i64_in _ (by omega)
            have s2 : ((k : Int) - 1).toNat = k - 1 := by omega
            have s3 : 0 ≤ (k : Int) - 1 := by omega
            have s4 : (k : Int) - 1 < (n : Int) := by omega
            clear hcell0' hz
            by_cases hid : (xs[k - 1]).id < (xs[k]).id
            · have HID := Lib.hid (show ∀ p, 0 < k → xs[k - 1]? = some p → p.id < xs[k].id from fun p _ hp => by
                rw [List.getElem?_eq_getElem hxp] at hp; rw [← Option.some.inj hp]; exact hid)
              generalize xs[k] = X at *
              generalize xs[k - 1] = Y at *
              have c0 := fun d os => (HG.out d os).1
              have c1 := fun d os => (HG.out d os).2.1
              have c2 := fun d os => (HG.out d os).2.2.1
              have c3 := fun d os => (HG.out d os).2.2.2.1
              have c4 := fun d os => (HG.out d os).2.2.2.2.1
              have c5 := fun d os => (HG.out d os).2.2.2.2.2.1
              have c6 := fun d os => (HG.out d os).2.2.2.2.2.2
              have e0 := fun d os => (HG'.out d os).1
              have hle2 : ¬ X.id ≤ Y.id := by omega
              go_wp2_with fail
              refine wp_region_quiet_below (by kernel_rfl) (by kernel_rfl) ?_
              repeat (go_big_quiet_step ((go_at_call 119; exact Calls.regrown_of (HC.out _))))
              refine wpQuiet_nil ?_
              intro _ hw'
              obtain ⟨⟨dq, osq⟩, hw''⟩ := hw'
              subst hw''
              have hb2 : Below w.heap.size w (Sort.grow (redrawn wr dq) osq) := hb.trans ((below_regrown wr dq osq).mono hb.size)
              clear c0 c1 c2 c3 c4 c5 c6 e0 HG HG' s1 s2 s3 s4
              generalize Sort.grow (redrawn wr dq) osq = wo at *
              clear hb
              go_wp2_with fail
              go_loopw [4] (fun j ws => ∃ m : Nat, m ≤ k ∧ j = .int .i64 m ∧ Below w.heap.size w ws ∧ Hid (∀ q p, q < m → xs[q]? = some p → p.name ≠ X.name)) (fun j _ => k - (intOf j).toNat)
              case atStart => exact ⟨0, Nat.zero_le _, rfl, hb2, Lib.hid (fun q p hq => by omega)⟩
              case round =>
                clear hb2
                obtain ⟨m, hm, rfl, hbs, HM⟩ := hrel
                by_cases hmk : m < k
                · have hxm : m < xs.length := by omega
                  obtain ⟨b', o', he, hbl', hcell1⟩ := hc.out m xs[m] (List.getElem?_eq_getElem hxm)
                  simp only [Option.some.injEq, Addr.mk.injEq, and_true] at he
                  obtain ⟨rfl, rfl⟩ := he
                  have HP := Lib.hid (List.getElem?_eq_getElem hxm)
                  have d1 := (hcell1.below hbs hbl).2.1
                  have d2 := (HCX.out.below hbs hbl).2.1
                  have m0 : 0 ≤ (m : Int) := by omega
                  have m1 : (m : Int) < (n : Int) := by omega
                  clear hcell1
                  generalize xs[m] = P at *
                  by_cases hname : P.name = X.name
                  · have HB := Lib.hid (no_name2 HX.out HP.out hmk hname)
                    have hbe : (P.name.toList == X.name.toList) = true := by rw [hname]; simp
                    clear hname
                    go_wp2_with fail
                    go_quiet (fail)
                    have hb3 : Below w.heap.size w (wr.drewN nq) := hbs.trans ⟨rfl, rfl, rfl, Nat.le_refl _, fun _ _ => rfl⟩
                    go_wp2_with fail
                    go_ret
                    exact seen_bad HB.out hb3
                  · have HM2 := Lib.hid (show ∀ q p, q < m + 1 → xs[q]? = some p → p.name ≠ X.name from fun q p hq hp => by
                      rcases Nat.lt_or_ge q m with h' | h'
                      · exact HM.out q p h' hp
                      · obtain rfl : q = m := by omega
                        rw [HP.out] at hp
                        rw [← Option.some.inj hp]
                        exact hname)
                    have hbe : (P.name.toList == X.name.toList) = false := by
                      rw [beq_eq_false_iff_ne]
                      intro e
                      rw [ByteArray.toList_eq, ByteArray.toList_eq] at e
                      exact hname (ByteArray.ext (Array.ext' e))
                    clear hname
                    go_wp2_with fail
                    go_quiet (fail)
                    have hb3 : Below w.heap.size w (wr.drewN nq) := hbs.trans ⟨rfl, rfl, rfl, Nat.le_refl _, fun _ _ => rfl⟩
                    go_wp2_with fail
                    go_roundw
                    case rel => exact ⟨m + 1, by omega, by go_num, hb3, HM2⟩
                    case measure => simp [intOf]; omega
                · obtain rfl : m = k := by omega
                  have HST := Lib.hid (steps_next HS.out ⟨X, HX.out, HOK.out, HID.out, HM.out⟩)
                  go_wp2_with fail
                  go_roundw
                  case rel => exact ⟨m + 1, by omega, by go_num, hbs, HST⟩
                  case measure => simp [intOf]; omega
            · have HB := Lib.hid (no_id hx h0 hid)
              generalize xs[k] = X at *
              generalize xs[k - 1] = Y at *
              have c0 := fun d os => (HG.out d os).1
              have c1 := fun d os => (HG.out d os).2.1
              have c2 := fun d os => (HG.out d os).2.2.1
              have c3 := fun d os => (HG.out d os).2.2.2.1
              have c4 := fun d os => (HG.out d os).2.2.2.2.1
              have c5 := fun d os => (HG.out d os).2.2.2.2.2.1
              have c6 := fun d os => (HG.out d os).2.2.2.2.2.2
              have e0 := fun d os => (HG'.out d os).1
              have hle2 : X.id ≤ Y.id := by omega
              go_wp2_with fail
              refine wp_region_quiet_below (by kernel_rfl) (by kernel_rfl) ?_
              repeat (go_big_quiet_step ((go_at_call 119; exact Calls.regrown_of (HC.out _))))
              refine wpQuiet_nil ?_
              intro _ hw'
              obtain ⟨⟨dq, osq⟩, hw''⟩ := hw'
              subst hw''
              have hb2 : Below w.heap.size w (Sort.grow (redrawn wr dq) osq) := hb.trans ((below_regrown wr dq osq).mono hb.size)
              clear c0 c1 c2 c3 c4 c5 c6 e0
              go_wp2_with fail
              go_ret
              exact seen_bad HB.out hb2
      · have HB := Lib.hid (no_len (xs := xs) (by omega))
        have hd : decide ((n : Int) ≤ 8) = false := decide_eq_false (by omega)
        go_wp2_with fail
        go_ret
        exact ⟨by rw [HB.out]; exact ret_bool rfl, hb⟩
    · obtain rfl : k = n := by omega
      by_cases h8 : k ≤ 8
      · have HB := Lib.hid (good_yes (xs := xs) ⟨by rw [HN.out]; exact h8, fun i hi => HS.out i (by rw [HN.out] at hi; exact hi)⟩)
        have hd : decide ((k : Int) ≤ 8) = true := decide_eq_true (by omega)
        go_wp2_with fail
        go_ret
        exact ⟨by rw [HB.out]; exact ret_bool rfl, hb⟩
      · have HB := Lib.hid (no_len (xs := xs) (by omega))
        have hd : decide ((k : Int) ≤ 8) = false := decide_eq_false (by omega)
        go_wp2_with fail
        go_ret
        exact ⟨by rw [HB.out]; exact ret_bool rfl, hb⟩
end Go.Proofs.Ytbaflfbidgolfaa.Gd
