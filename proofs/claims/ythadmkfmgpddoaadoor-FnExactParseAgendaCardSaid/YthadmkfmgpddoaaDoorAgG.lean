/- Agendas: the model's test of a list. No condition but that titles are no longer than strings can be. -/
import Derived.Test.YthadmkfmgpddoaaDoorAg
import Derived.BigQuiet
import Derived.IntWalk
import Derived.Deep.DeepCutAuto
namespace Go.Proofs.YthadmkfmgpddoaaDoor.AgG
open Go.RowKit Bs Word Ag
set_option linter.unusedVariables false
def Post (xs : List M) (w : World) (e : Ending) (w' : World) : Prop := e = .returned (.bool (goodB xs)) ∧ Below w.heap.size w w'
theorem bad {xs : List M} {w w' : World} (h : goodB xs = false) (hb : Below w.heap.size w w') : Post xs w (.returned (.bool false)) w' := ⟨by rw [h], hb⟩
def Head (xs : List M) (i : Nat) (v : Bool) : Prop := (v = true → goodB xs = false) ∧ (v = false → HeadOk xs i)
theorem head_of {xs : List M} {i : Nat} {X : M} (h : xs[i]? = some X) : Head xs i (!(okB X)) := ⟨fun e => no_ok h (by simpa using e), fun e => ⟨X, h, by simpa using e⟩⟩
set_option maxRecDepth 100000 in
set_option maxHeartbeats 1600000 in
theorem l5Good (v : Value) (xs : List M) (w : World) (h : Is LAgendaItem.rec w v xs) (hsz : ∀ x ∈ xs, LAgendaItem.Fine x) :
    Calls Tryd.prog 11 #[v] w (Post xs w) := by
  obtain ⟨a, cp, rfl, h⟩ := h
  have hc := h.at_ LAgendaItem.rec
  obtain ⟨n, hn⟩ : ∃ n, n = xs.length := ⟨_, rfl⟩
  have hnb : n ≤ cp := by have := h.1; omega
  have h2 := h.2.1
  unfold maxLen at h2
  have HN := Lib.hid hn.symm
  have HSZ := Lib.hid hsz
  rw [← hn]
  have hle : n ≤ xs.length := by omega
  clear hn h hsz
  go_enter Tryd.func11, Tryd.ntmps11
  go_wp2_with fail
  go_loopw [3] (fun i wr => ∃ k : Nat, k ≤ n ∧ i = .int .i64 k ∧ Below w.heap.size w wr ∧ Hid (∀ i, i < k → Step xs i)) (fun i _ => n - (intOf i).toNat)
  case atStart => exact ⟨0, Nat.zero_le _, rfl, Below.refl _ _, Lib.hid (fun i hi => by omega)⟩
  case round =>
    obtain ⟨k, hk, rfl, hb, HS⟩ := hrel
    by_cases hlt : k < n
    · have hx : k < xs.length := by omega
      obtain ⟨b, o, rfl, hbl, hcell0⟩ := hc.out k xs[k] (List.getElem?_eq_getElem hx)
      obtain ⟨q0, q1, q2, q3⟩ := LAgendaItem.cells (hcell0.below LAgendaItem.rec hb hbl)
      simp only [LAgendaItem.rec_n] at q0 q1 q2 q3
      have hxs := Lib.hid (HSZ.out xs[k] (List.getElem_mem hx))
      have HX := Lib.hid (List.getElem?_eq_getElem hx)
      clear hcell0
      generalize xs[k] = X at *
      go_upto_region 5 with fail
      have HBX := Lib.hid (LAgendaItem.box wr X 31)
      have hba := hb.alloc hb.size (Obj.cells #[.int .i64 X.id, .string X.title, .int .i64 X.mins, .int .i64 X.time] 31)
      have hGq : wr.heap.size < (wr.alloc (Obj.cells #[.int .i64 X.id, .string X.title, .int .i64 X.mins, .int .i64 X.time] 31)).heap.size := by simp
      clear q0 q1 q2 q3
      generalize wr.alloc (Obj.cells #[.int .i64 X.id, .string X.title, .int .i64 X.mins, .int .i64 X.time] 31) = wq at *
      have hGl : w.heap.size ≤ wr.heap.size := hb.size
      generalize wr.heap.size = G at *
      clear hb
      go_cut [42] (fun t wx => ∃ v : Bool, t = .bool v ∧ Hid (Head xs k v) ∧ Below wq.heap.size wq wx)
      case first =>
        obtain ⟨x0, x1, x2, x3⟩ := LAgendaItem.cells0 HBX.out
        have k0 : 0 ≤ (k : Int) := by omega
        have k1 : (k : Int) < (n : Int) := by omega
        have H1 := Lib.hid (fun (x a b : Int) (W : World) => in_as x a b _ rfl W)
        have H2 := Lib.hid (fun W => word_as X.title _ rfl hxs.out W)
        have H4 := Lib.hid (fun (W : World) => l5Minute X.time W)
        have HV := Lib.hid (show Head xs k _ from head_of HX.out)
        cases g1 : inB X.id 1 99 with
        | false =>
          have HW := Lib.hid (show Head xs k true by have h := HV.out; unfold okB okT at h; simpa [g1] using h)
          clear HV
          go_wp2_with fail
          refine (H1.out X.id 1 99 _).mono ?_
          rintro e _ ⟨rfl, rfl⟩
          rw [g1]
          go_wp2_with fail
          go_meet
          exact ⟨_, rfl, HW, Below.refl _ _⟩
        | true =>
          cases g2 : isWordB X.title with
          | false =>
            have HW := Lib.hid (show Head xs k true by have h := HV.out; unfold okB okT at h; simpa [g1, g2] using h)
            clear HV
            go_wp2_with fail
            refine (H1.out X.id 1 99 _).mono ?_
            rintro e _ ⟨rfl, rfl⟩
            rw [g1]
            go_wp2_with fail
            refine (H2.out _).mono ?_
            rintro e _ ⟨rfl, rfl⟩
            rw [g2]
            go_wp2_with fail
            go_meet
            exact ⟨_, rfl, HW, Below.refl _ _⟩
          | true =>
            cases g3 : inB X.mins 1 240 with
            | false =>
              have HW := Lib.hid (show Head xs k true by have h := HV.out; unfold okB okT at h; simpa [g1, g2, g3] using h)
              clear HV
              go_wp2_with fail
              refine (H1.out X.id 1 99 _).mono ?_
              rintro e _ ⟨rfl, rfl⟩
              rw [g1]
              go_wp2_with fail
              refine (H2.out _).mono ?_
              rintro e _ ⟨rfl, rfl⟩
              rw [g2]
              go_wp2_with fail
              refine (H1.out X.mins 1 240 _).mono ?_
              rintro e _ ⟨rfl, rfl⟩
              rw [g3]
              go_wp2_with fail
              go_meet
              exact ⟨_, rfl, HW, Below.refl _ _⟩
            | true =>
              cases g4 : (X.time != -1) with
              | false =>
                have g5 : (X.time == -1) = true := by simpa using g4
                have HW := Lib.hid (show Head xs k false by have h := HV.out; unfold okB okT at h; simpa [g1, g2, g3, g5] using h)
                clear HV
                go_wp2_with fail
                refine (H1.out X.id 1 99 _).mono ?_
                rintro e _ ⟨rfl, rfl⟩
                rw [g1]
                go_wp2_with fail
                refine (H2.out _).mono ?_
                rintro e _ ⟨rfl, rfl⟩
                rw [g2]
                go_wp2_with fail
                refine (H1.out X.mins 1 240 _).mono ?_
                rintro e _ ⟨rfl, rfl⟩
                rw [g3]
                go_wp2_with fail
                go_meet
                exact ⟨_, rfl, HW, Below.refl _ _⟩
              | true =>
                have g5 : (X.time == -1) = false := by simpa using g4
                have HW := Lib.hid (show Head xs k (!(inB X.time 0 1439)) by have h := HV.out; unfold okB okT at h; simpa [g1, g2, g3, g5] using h)
                clear HV
                go_wp2_with fail
                refine (H1.out X.id 1 99 _).mono ?_
                rintro e _ ⟨rfl, rfl⟩
                rw [g1]
                go_wp2_with fail
                refine (H2.out _).mono ?_
                rintro e _ ⟨rfl, rfl⟩
                rw [g2]
                go_wp2_with fail
                refine (H1.out X.mins 1 240 _).mono ?_
                rintro e _ ⟨rfl, rfl⟩
                rw [g3]
                go_wp2_with fail
                refine (H4.out _).mono ?_
                rintro e _ ⟨rfl, rfl⟩
                go_wp2_with fail
                go_meet
                exact ⟨_, rfl, HW, Below.refl _ _⟩
      case rest =>
        obtain ⟨v, rfl, HV, hbv⟩ := hcut
        have hb2 := hba.trans (hbv.mono hba.size)
        have HBX2 := Lib.hid (HBX.out.below LAgendaItem.rec hbv hGq)
        have hG2 : G < wc.heap.size := Nat.lt_of_lt_of_le hGq hbv.size
        cases v with
        | true =>
          have HB := Lib.hid (show goodB xs = false from HV.out.1 rfl)
          go_wp2_with fail
          go_ret
          exact bad HB.out hb2
        | false =>
          have HH := Lib.hid (show HeadOk xs k from HV.out.2 rfl)
          clear hba hbv HV HBX hGq
          go_wp2_with fail
          go_loopw [5] (fun j ws => ∃ m : Nat, m ≤ k ∧ j = .int .i64 m ∧ Below w.heap.size w ws ∧ Hid (At LAgendaItem.rec ws G 0 X) ∧ G < ws.heap.size ∧ Hid (∀ q p, q < m → xs[q]? = some p → clash p X = false)) (fun j _ => k - (intOf j).toNat)
          case atStart => exact ⟨0, Nat.zero_le _, rfl, hb2, HBX2, hG2, Lib.hid (fun q p hq => by omega)⟩
          case round =>
            clear hb2 HBX2 hG2
            obtain ⟨m, hm, rfl, hbs, HXG, hGs, HM⟩ := hrel
            by_cases hmk : m < k
            · have hxm : m < xs.length := by omega
              obtain ⟨b', o', he, hbl', hcell1⟩ := hc.out m xs[m] (List.getElem?_eq_getElem hxm)
              simp only [Option.some.injEq, Addr.mk.injEq, and_true] at he
              obtain ⟨rfl, rfl⟩ := he
              have HP := Lib.hid (List.getElem?_eq_getElem hxm)
              obtain ⟨d0, d1, d2, d3⟩ := LAgendaItem.cells (hcell1.below LAgendaItem.rec hbs hbl)
              simp only [LAgendaItem.rec_n] at d0 d1 d2 d3
              obtain ⟨x0, x1, x2, x3⟩ := LAgendaItem.cells0 HXG.out
              clear hcell1
              generalize xs[m] = P at *
              have m0 : 0 ≤ (m : Int) := by omega
              have m1 : (m : Int) < (n : Int) := by omega
              go_wp2_with fail
              go_cut [55] (fun t wx => ∃ v : Bool, t = .bool v ∧ Hid (clash P X = v) ∧ Below wr.heap.size wr wx)
              case first =>
                have HV := Lib.hid (show clash P X = (P.id == X.id) from rfl)
                go_quiet (fail)
                go_wp2_with fail
                go_meet
                exact ⟨_, rfl, HV, drawn_below _ _⟩
              case rest =>
                obtain ⟨v, rfl, HV, hbv⟩ := hcut
                have hbt := hbs.trans (hbv.mono hbs.size)
                have HXG2 := Lib.hid (HXG.out.below LAgendaItem.rec hbv hGs)
                have hGt : G < wc.heap.size := Nat.lt_of_lt_of_le hGs hbv.size
                cases v with
                | true =>
                  have HB := Lib.hid (no_clash HX.out hmk HP.out HV.out)
                  go_wp2_with fail
                  go_ret
                  exact bad HB.out hbt
                | false =>
                  have HM2 := Lib.hid (clash_next HM.out HP.out HV.out)
                  go_wp2_with fail
                  go_roundw
                  case rel => exact ⟨m + 1, by omega, by go_num, hbt, HXG2, hGt, HM2⟩
                  case measure => simp [intOf]; omega
            · obtain rfl : m = k := by omega
              have HST := Lib.hid (steps_next HS.out (step_mk HX.out HH.out HM.out))
              go_wp2_with fail
              go_roundw
              case rel => exact ⟨m + 1, by omega, by go_num, hbs, HST⟩
              case measure => simp [intOf]; omega
    · obtain rfl : k = n := by omega
      have HS2 := Lib.hid (show ∀ i, i < xs.length → Step xs i from fun i hi => HS.out i (by rw [HN.out] at hi; exact hi))
      have HD := Lib.hid (show decide ((k : Int) ≤ 10) = goodB xs by
        by_cases h12 : k ≤ 10
        · rw [good_yes ⟨by rw [HN.out]; exact h12, HS2.out⟩]; exact decide_eq_true (by omega)
        · rw [no_len (by rw [HN.out]; omega)]; exact decide_eq_false (by omega))
      go_wp2_with fail
      go_ret
      exact ⟨ret_bool HD.out, hb⟩
end Go.Proofs.YthadmkfmgpddoaaDoor.AgG
